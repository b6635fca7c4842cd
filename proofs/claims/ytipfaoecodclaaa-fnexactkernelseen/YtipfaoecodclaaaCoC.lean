import Derived.Test.YtipfaoecodclaaaCoI2
import Derived.Test.YtipfaoecodclaaaLevels
import Derived.Test.YtipfaoecodclaaaClone
import Derived.WalkKit
import Derived.ProofKit
import Derived.OpenShut
import Derived.ShutString
import Derived.ChangeOld
import Derived.Below
import Derived.WalkSpells
import Derived.Deep.QuietTactic
import Derived.BigQuiet
import Derived.Deep.RegionWith
import Derived.Deep.WholeRow
import Derived.Deep.DeepCutAuto
import Derived.Deep.RegionHeld2
import Derived.Deep.AppendLies
import Derived.Deep.RegionLaw
namespace Go.Proofs.Ytipfaoecodclaaa
open Go.ChangeShapes Go.WideShapes Go.ChangeAt Go.RowKit

theorem CH.cellg {wr : World} {B : Nat} {f : Nat → OB} {k n g c : Nat} {la : Nat → Option Addr} {lc lb : Nat → Nat} {xs : List Value} (h : CH wr B f k n g c la lc lb xs) {j : Nat} (hj : j < n * 7) : (∃ u, wr.cell? ⟨g, j, none⟩ = some u) ∧ wr.frozen? ⟨g, j, none⟩ = false ∧ B ≤ g ∧ g < wr.heap.size := by
  have hl : xs.length = n * 7 := h.own.1
  have hc := h.own.cells (g := g) rfl j _ (List.getElem?_eq_getElem (by omega : j < xs.length))
  have hadd : (Addr.mk g 0 none).add j = ⟨g, j, none⟩ := by cases j <;> simp [Addr.add]
  rw [hadd] at hc
  refine ⟨⟨_, hc⟩, ?_, (h.own.lt g rfl).1, (h.own.lt g rfl).2⟩
  rcases h.own.2 with ⟨h0, _⟩ | ⟨g', cap', cur, e0, hb, hg, r⟩
  · cases h0
  · cases e0
    simp [World.frozen?, hg]

set_option maxRecDepth 100000 in
set_option maxHeartbeats 4000000 in
theorem copiedObjects_C (a : Option Addr) (n c : Nat) (xs : List OB) (w : World) (hn1 : 0 < n) (hn : n ≤ 12) (hs : Sob w a n xs) (h4 : ∀ i, i < n → (gO xs i).2.2.2.1.length = 4) (hd : ∀ i, i < n → (gO xs i).2.2.2.2.2.2.length ≤ 1048576) :
    Calls Try.prog 32 #[.slice a n c] w fun e w' => ∃ g cc la lc lb L, e = .returned (.slice (some ⟨g, 0, none⟩) n cc) ∧ CO w' w.heap.size (gO xs) n (.slice (some ⟨g, 0, none⟩) n cc) la lc lb L ∧ Below w.heap.size w w' := by
  have h7s := hs.s7
  obtain ⟨hlen, hs⟩ := hs
  obtain ⟨b, off, rfl, hb, hc⟩ := hs hn1
  have HC := hide hc
  have H4 := hide h4
  have HD := hide hd
  clear hs hc h4 hd
  go_enter Try.func32, Try.ntmps32
  go_wp2_with fail
  refine (cloneO_calls _ n c (gO xs) w hn1 (by omega) h7s).mono ?_
  rintro e w1 ⟨g, cc, L, rfl, own, hC, g1⟩
  have HCH := hide (CH.start own hC)
  have HG1 := hide g1
  clear own hC g1 h7s
  go_wp2
  go_loopw [10] (fun i wr => ∃ (k : Nat) (la : Nat → Option Addr) (lc lb : Nat → Nat) (L : List Value), k ≤ n ∧ i = .int .i64 (k : Int) ∧ CH wr w.heap.size (gO xs) k n g cc la lc lb L ∧ Below w.heap.size w wr) (fun i _ => n - (intOf i).toNat)
  case atStart => exact ⟨0, _, _, _, _, Nat.zero_le _, rfl, HCH.out, HG1.out⟩
  case round =>
    obtain ⟨k, la0, lc0, lb0, L, hk, rfl, hch, gwr⟩ := hrel
    have HCK := hide hch
    have HGW := hide gwr
    by_cases hlt : k < n
    · obtain ⟨la, lc, da, dc, h7, _, hsl, _, hsd⟩ := HC.out k hlt
      have hd2 := HD.out k hlt
      have he4 := H4.out k hlt
      obtain ⟨r0, r1, r2, r3, r4, r5, r6⟩ := h7.of_block (gwr.block b hb)
      rw [he4] at r3 hsl
      have HL := hide (hsl.below gwr (Nat.le_refl _))
      have HSD := hide hsd
      have HE4 := hide he4
      have k0 : (0 : Int) ≤ (k : Int) := by omega
      have k1 : (k : Int) < (n : Int) := by omega
      have M1 := (Mm.start wr).allocC [.int .i64 (gO xs k).1, .int .i64 (gO xs k).2.1, .int .i64 (gO xs k).2.2.1, .slice la 4 lc, .int .i64 (gO xs k).2.2.2.2.1, .int .i64 (gO xs k).2.2.2.2.2.1, .slice da (gO xs k).2.2.2.2.2.2.length dc] 57
      have HM1 := hide M1
      have HB1 := hide M1.bel
      clear M1 hch h7 hsl hsd gwr he4
      go_wp2_with fail
      refine (levelsOf_calls la lc (gO xs k).2.2.2.1 _ (HL.out.below HB1.out (Nat.le_refl _))).mono ?_
      rintro e w2 ⟨rfl, g2⟩
      unfold ints4
      go_wp2_with fail
      refine (labelOf_calls _ _ _ _ w2).mono ?_
      rintro e w3 ⟨b1, rfl, hb1, blk, g3⟩
      rw [← list4 HE4.out] at blk
      have z2 := g2.size
      simp only [World.size_alloc] at z2
      have z3 := g3.size
      have lb1 := blk.1
      have M3 := HM1.out.below (g2.trans (g3.mono g2.size))
      have hch3 := HCK.out.below M3.bel
      obtain ⟨⟨u3, q3⟩, f3, gB, gl⟩ := hch3.cellg (j := k * 7 + 3) (by omega)
      have gw := ((HCK.out.cellg (j := 0) (by omega)).2.2).2
      obtain ⟨hl1, hl2⟩ := hch3.label hlt (some ⟨b1, 0, none⟩) 4
      rw [HE4.out] at hl1 hl2
      have p6 := (M3.get 0 rfl).cell 6 rfl
      have HLA := hide hl1
      have HLX := hide hl2
      have HB3 := hide M3.bel
      have HBK := hide blk
      have HM3 := hide M3
      clear M3 hch3 hl1 hl2 g2 g3 blk r0 r1 r2 r3 r4 r5 r6 HM1 HB1 HL
      obtain ⟨Y, hY⟩ : ∃ Y, Y = w3.setCell ⟨g, k * 7 + 3, none⟩ (.slice (some ⟨b1, 0, none⟩) 4 4) := ⟨_, rfl⟩
      have zY : Y.heap.size = w3.heap.size := by rw [hY]; simp
      have p6Y : Y.cell? ⟨wr.heap.size, 6, none⟩ = some (.slice da (gO xs k).2.2.2.2.2.2.length dc) := by rw [hY, World.cell?_setCell_other _ _ _ _ (fun e => by injection e with e2 e3; omega)]; exact p6
      have HBY : Hid (Below w.heap.size w Y) := by show Below _ _ _; rw [hY]; exact (HGW.out.trans (HB3.out.mono HGW.out.size)).setCell gB _
      have HO1 : Hid (OS (fun q => q = b1 ∧ 0 < (gO xs k).2.2.2.1.length) (some ⟨b1, 0, none⟩) (gO xs k).2.2.2.1.length (gO xs k).2.2.2.1 Y) := by
        show OS _ _ _ _ _
        rw [hY]
        exact OS.loc.setC (OS.ofBlk HBK.out ⟨rfl, by rw [HE4.out]; omega⟩ rfl (by rw [HE4.out]; omega)) (fun e => by have h1 := e.1; simp at h1; omega) _
      rw [← hY] at HLA
      have HY := hide hY
      have HZY := hide zY
      clear hY zY p6
      go_upto_region 6 with fail
      rw [← HY.out]
      clear HY q3 f3
      go_wp2_with fail
      refine (clone_calls da _ dc (gO xs k).2.2.2.2.2.2 Y hd2 (HSD.out.below HBY.out (Nat.le_refl _))).mono ?_
      rintro e w4 ⟨rb, rd, rfl, o2, g4⟩
      have zY := HZY.out
      have z4 := g4.size
      obtain ⟨b2, ob2, hb2⟩ := o2.one
      have hch4 := HLA.out.below g4
      obtain ⟨⟨u6, q6⟩, f6, _, _⟩ := hch4.cellg (j := k * 7 + 6) (by omega)
      obtain ⟨la', lc', lb', hnx⟩ := hch4.next (c1 := 4) (c2 := rd) hlt (by rw [HE4.out]; exact HLX.out) (OS.loc.below g4 HO1.out) ob2
        (fun _ => ⟨by have := HGW.out.size; omega, by omega, by omega, fun q hq hl => by have := HCK.out.ge q hq hl; omega⟩)
        (fun hp => ⟨by have := hb2 hp; have := HGW.out.size; omega, by have := hb2 hp; omega, by have := hb2 hp; omega, fun q hq hl => by have h1 := HCK.out.ge q hq hl; have h2 := hb2 hp; omega⟩)
        (fun _ hp => by have := hb2 hp; omega)
      have HNX := hide hnx
      have HB4 : Hid (Below w.heap.size w (w4.setCell ⟨g, k * 7 + 6, none⟩ (.slice rb (gO xs k).2.2.2.2.2.2.length rd))) := (HBY.out.trans (g4.mono HBY.out.size)).setCell gB _
      clear zY z4 o2 ob2 hb2 hch4 hnx g4 p6Y
      go_wp2
      go_roundw
      case rel => exact ⟨k + 1, la', lc', lb', _, by omega, by go_num, HNX.out, HB4.out⟩
      case measure => simp [intOf]; omega
    · obtain rfl : k = n := by omega
      have HF := hide hch.co
      clear hch gwr
      go_wp2
      go_ret
      exact ⟨g, cc, la0, lc0, lb0, L, rfl, HF.out, HGW.out⟩

end Go.Proofs.Ytipfaoecodclaaa
