import Derived.Test.YtipfaoecodclaaaObL
import Derived.Test.YtipfaoecodclaaaW7
import Derived.WalkKit
import Derived.ProofKit
import Derived.OpenShut
import Derived.ShutString
import Derived.ChangeOld
import Derived.Below
import Derived.WalkSpells
import Derived.Deep.QuietTactic
import Derived.BigQuiet
import Derived.Deep.RegionWith
import Derived.Deep.WholeRow
import Derived.Deep.DeepCutAuto
import Derived.Deep.RegionHeld2
import Derived.Deep.AppendLies
import Derived.Deep.RegionLaw
namespace Go.Proofs.Ytipfaoecodclaaa
open Go.ChangeShapes Go.WideShapes Go.ChangeAt Go.RowKit

set_option maxRecDepth 100000 in
set_option maxHeartbeats 1000000 in
theorem toObject_calls (x : OB) (la : Option Addr) (lc : Nat) (da : Option Addr) (dc : Nat) (w : World) (hl : x.2.2.2.1.length ≤ 1048576) (hd : x.2.2.2.2.2.2.length ≤ 1048576) (hs : Sl w la x.2.2.2.1.length x.2.2.2.1) (ht : Sl w da x.2.2.2.2.2.2.length x.2.2.2.2.2.2) :
    Calls Try.prog 41 #[.agg #[.int .i64 x.1, .int .i64 x.2.1, .int .i64 x.2.2.1, .slice la x.2.2.2.1.length lc, .int .i64 x.2.2.2.2.1, .int .i64 x.2.2.2.2.2.1, .slice da x.2.2.2.2.2.2.length dc]] w fun e w' => ∃ b1 b2, e = .returned (.agg #[.int .i64 x.1, .int .i64 x.2.1, .int .i64 x.2.2.1, .slice (some ⟨b1, 0, none⟩) x.2.2.2.1.length x.2.2.2.1.length, .int .i64 x.2.2.2.2.1, .int .i64 x.2.2.2.2.2.1, .slice (some ⟨b2, 0, none⟩) x.2.2.2.2.2.2.length x.2.2.2.2.2.2.length]) ∧ w.heap.size ≤ b1 ∧ w.heap.size ≤ b2 ∧ b1 ≠ b2 ∧ Blk w' b1 x.2.2.2.1 ∧ Blk w' b2 x.2.2.2.2.2.2 ∧ Below w.heap.size w w' := by
  have M0 := (((Mm.start w).allocC [.int .i64 x.1, .int .i64 x.2.1, .int .i64 x.2.2.1, .slice la x.2.2.2.1.length lc, .int .i64 x.2.2.2.2.1, .int .i64 x.2.2.2.2.2.1, .slice da x.2.2.2.2.2.2.length dc] 69).allocC [.int .i64 0, .int .i64 0, .int .i64 0, .slice none 0 0, .int .i64 0, .int .i64 0, .slice none 0 0] 57).allocC [.int .i64 x.1, .int .i64 x.2.1, .int .i64 x.2.2.1, .slice none 0 0, .int .i64 0, .int .i64 0, .slice none 0 0] 57
  simp only [World.size_alloc] at M0
  go_enter Try.func41, Try.ntmps41
  go_wp2_with fail
  refine (toLabel_calls la _ lc x.2.2.2.1 _ hl (hs.below M0.bel (Nat.le_refl _))).mono ?_
  rintro e w1 ⟨b1, rfl, hb1, blk1, g1⟩
  have z1 := g1.size
  simp only [World.size_alloc] at hb1 z1
  have lb1 := blk1.1
  have M1 := (M0.below g1).fact (B := b1) (T := b1 + 1) (P := fun u => Blk u b1 x.2.2.2.1) (Blk.loc ⟨Nat.le_refl _, by omega⟩) blk1
  have P3 := M1.put 1 rfl 3 (by simp) (.slice (some ⟨b1, 0, none⟩) x.2.2.2.1.length x.2.2.2.1.length) (by omega) (by simp) (by simp <;> omega)
  have P4 := P3.put 1 rfl 4 (by simp) (.int .i64 x.2.2.2.2.1) (by omega) (by simp) (by simp <;> omega)
  have P5 := P4.put 1 rfl 5 (by simp) (.int .i64 x.2.2.2.2.2.1) (by omega) (by simp) (by simp <;> omega)
  simp only [List.set] at P5
  have a4 := (M1.get 3 rfl).cell 4 rfl
  have a5 := (M1.get 3 rfl).cell 5 rfl
  have a6 := (M1.get 3 rfl).cell 6 rfl
  have o3 := (M1.get 1 rfl).cell 3 rfl
  have f3 := (M1.get 1 rfl).fz 3 (by simp)
  have o4 := (M1.get 1 rfl).cell 4 rfl
  have f4 := (M1.get 1 rfl).fz 4 (by simp)
  have o5 := (M1.get 1 rfl).cell 5 rfl
  have f5 := (M1.get 1 rfl).fz 5 (by simp)
  have HM := hide P5
  have HS := hide (ht.below P5.bel (Nat.le_refl _))
  clear M1 P3 P4 P5 M0 g1 blk1
  go_wp2_with fail
  refine (toInts_calls da _ dc x.2.2.2.2.2.2 _ hd HS.out).mono ?_
  rintro e w2 ⟨b2, rfl, hb2, blk2, g2⟩
  have z2 := g2.size
  simp only [World.size_setCell] at hb2 z2
  have M3 := (HM.out.below g2).fact (B := b2) (T := b2 + 1) (P := fun u => Blk u b2 x.2.2.2.2.2.2) (Blk.loc ⟨Nat.le_refl _, by omega⟩) blk2
  clear g2 blk2 HM HS a4 a5 a6 o3 o4 o5 f3 f4 f5
  have o0 := (M3.get 2 rfl).cell 0 rfl
  have c0_ := (M3.get 3 rfl).cell 0 rfl
  have f0_ := (M3.get 3 rfl).fz 0 (by simp)
  have o1 := (M3.get 2 rfl).cell 1 rfl
  have c1_ := (M3.get 3 rfl).cell 1 rfl
  have f1_ := (M3.get 3 rfl).fz 1 (by simp)
  have o2 := (M3.get 2 rfl).cell 2 rfl
  have c2_ := (M3.get 3 rfl).cell 2 rfl
  have f2_ := (M3.get 3 rfl).fz 2 (by simp)
  have o3 := (M3.get 2 rfl).cell 3 rfl
  have c3_ := (M3.get 3 rfl).cell 3 rfl
  have f3_ := (M3.get 3 rfl).fz 3 (by simp)
  have o4 := (M3.get 2 rfl).cell 4 rfl
  have c4_ := (M3.get 3 rfl).cell 4 rfl
  have f4_ := (M3.get 3 rfl).fz 4 (by simp)
  have o5 := (M3.get 2 rfl).cell 5 rfl
  have c5_ := (M3.get 3 rfl).cell 5 rfl
  have f5_ := (M3.get 3 rfl).fz 5 (by simp)
  have o6 := (M3.get 2 rfl).cell 6 rfl
  have c6_ := (M3.get 3 rfl).cell 6 rfl
  have f6_ := (M3.get 3 rfl).fz 6 (by simp)
  have f6 := (M3.get 2 rfl).fz 6 (by simp)
  have P6 := M3.put 2 rfl 6 (by simp) (.slice (some ⟨b2, 0, none⟩) x.2.2.2.2.2.2.length x.2.2.2.2.2.2.length) (by omega) (by simp) (by simp <;> omega)
  have HB := hide (below_set7 P6.bel (P := w.heap.size + 1) (by omega) (.int .i64 x.1) (.int .i64 x.2.1) (.int .i64 x.2.2.1) (.slice (some ⟨b1, 0, none⟩) x.2.2.2.1.length x.2.2.2.1.length) (.int .i64 x.2.2.2.2.1) (.int .i64 x.2.2.2.2.2.1) (.slice (some ⟨b2, 0, none⟩) x.2.2.2.2.2.2.length x.2.2.2.2.2.2.length))
  have HK1 := hide (loc_set7 (Blk.loc (S := InR b1 (b1 + 1)) ⟨Nat.le_refl _, by omega⟩) (P6.get 1 rfl) (P := w.heap.size + 1) (fun h => by have := h.1; omega) (.int .i64 x.1) (.int .i64 x.2.1) (.int .i64 x.2.2.1) (.slice (some ⟨b1, 0, none⟩) x.2.2.2.1.length x.2.2.2.1.length) (.int .i64 x.2.2.2.2.1) (.int .i64 x.2.2.2.2.2.1) (.slice (some ⟨b2, 0, none⟩) x.2.2.2.2.2.2.length x.2.2.2.2.2.2.length))
  have HK2 := hide (loc_set7 (Blk.loc (S := InR b2 (b2 + 1)) ⟨Nat.le_refl _, by omega⟩) (P6.get 0 rfl) (P := w.heap.size + 1) (fun h => by have := h.1; omega) (.int .i64 x.1) (.int .i64 x.2.1) (.int .i64 x.2.2.1) (.slice (some ⟨b1, 0, none⟩) x.2.2.2.1.length x.2.2.2.1.length) (.int .i64 x.2.2.2.2.1) (.int .i64 x.2.2.2.2.2.1) (.slice (some ⟨b2, 0, none⟩) x.2.2.2.2.2.2.length x.2.2.2.2.2.2.length))
  have d0_ := (P6.get 3 rfl).cell 0 rfl
  have d1_ := (P6.get 3 rfl).cell 1 rfl
  have d2_ := (P6.get 3 rfl).cell 2 rfl
  have d3_ := (P6.get 3 rfl).cell 3 rfl
  have d4_ := (P6.get 3 rfl).cell 4 rfl
  have d5_ := (P6.get 3 rfl).cell 5 rfl
  have d6_ := (P6.get 3 rfl).cell 6 rfl
  clear M3 P6
  go_wp2
  have r0 := set7_at0 _ _ (.int .i64 x.1) (.int .i64 x.2.1) (.int .i64 x.2.2.1) (.slice (some ⟨b1, 0, none⟩) x.2.2.2.1.length x.2.2.2.1.length) (.int .i64 x.2.2.2.2.1) (.int .i64 x.2.2.2.2.2.1) (.slice (some ⟨b2, 0, none⟩) x.2.2.2.2.2.2.length x.2.2.2.2.2.2.length) ⟨_, d0_⟩
  have r1 := set7_at1 _ _ (.int .i64 x.1) (.int .i64 x.2.1) (.int .i64 x.2.2.1) (.slice (some ⟨b1, 0, none⟩) x.2.2.2.1.length x.2.2.2.1.length) (.int .i64 x.2.2.2.2.1) (.int .i64 x.2.2.2.2.2.1) (.slice (some ⟨b2, 0, none⟩) x.2.2.2.2.2.2.length x.2.2.2.2.2.2.length) ⟨_, d1_⟩
  have r2 := set7_at2 _ _ (.int .i64 x.1) (.int .i64 x.2.1) (.int .i64 x.2.2.1) (.slice (some ⟨b1, 0, none⟩) x.2.2.2.1.length x.2.2.2.1.length) (.int .i64 x.2.2.2.2.1) (.int .i64 x.2.2.2.2.2.1) (.slice (some ⟨b2, 0, none⟩) x.2.2.2.2.2.2.length x.2.2.2.2.2.2.length) ⟨_, d2_⟩
  have r3 := set7_at3 _ _ (.int .i64 x.1) (.int .i64 x.2.1) (.int .i64 x.2.2.1) (.slice (some ⟨b1, 0, none⟩) x.2.2.2.1.length x.2.2.2.1.length) (.int .i64 x.2.2.2.2.1) (.int .i64 x.2.2.2.2.2.1) (.slice (some ⟨b2, 0, none⟩) x.2.2.2.2.2.2.length x.2.2.2.2.2.2.length) ⟨_, d3_⟩
  have r4 := set7_at4 _ _ (.int .i64 x.1) (.int .i64 x.2.1) (.int .i64 x.2.2.1) (.slice (some ⟨b1, 0, none⟩) x.2.2.2.1.length x.2.2.2.1.length) (.int .i64 x.2.2.2.2.1) (.int .i64 x.2.2.2.2.2.1) (.slice (some ⟨b2, 0, none⟩) x.2.2.2.2.2.2.length x.2.2.2.2.2.2.length) ⟨_, d4_⟩
  have r5 := set7_at5 _ _ (.int .i64 x.1) (.int .i64 x.2.1) (.int .i64 x.2.2.1) (.slice (some ⟨b1, 0, none⟩) x.2.2.2.1.length x.2.2.2.1.length) (.int .i64 x.2.2.2.2.1) (.int .i64 x.2.2.2.2.2.1) (.slice (some ⟨b2, 0, none⟩) x.2.2.2.2.2.2.length x.2.2.2.2.2.2.length) ⟨_, d5_⟩
  have r6 := set7_at6 _ _ (.int .i64 x.1) (.int .i64 x.2.1) (.int .i64 x.2.2.1) (.slice (some ⟨b1, 0, none⟩) x.2.2.2.1.length x.2.2.2.1.length) (.int .i64 x.2.2.2.2.1) (.int .i64 x.2.2.2.2.2.1) (.slice (some ⟨b2, 0, none⟩) x.2.2.2.2.2.2.length x.2.2.2.2.2.2.length) ⟨_, d6_⟩
  refine bodyPost_ret (v := .agg #[.int .i64 x.1, .int .i64 x.2.1, .int .i64 x.2.2.1, .slice (some ⟨b1, 0, none⟩) x.2.2.2.1.length x.2.2.2.1.length, .int .i64 x.2.2.2.2.1, .int .i64 x.2.2.2.2.2.1, .slice (some ⟨b2, 0, none⟩) x.2.2.2.2.2.2.length x.2.2.2.2.2.2.length]) (by simp [results, Try.results41, go_sem, r0, r1, r2, r3, r4, r5, r6]) rfl ⟨b1, b2, rfl, by omega, by omega, by omega, HK1.out, HK2.out, HB.out⟩

set_option maxRecDepth 100000 in
set_option maxHeartbeats 1000000 in
theorem toObjectS_O (a : Option Addr) (n cap : Nat) (xs : List OB) (w : World) (hm : n + lenO xs ≤ 1048576) (hs : Sob w a n xs) :
    Calls Try.prog 20 #[.slice a n cap] w fun e w' => ∃ b, e = .returned (.slice (some ⟨b, 0, none⟩) n n) ∧ OO (InR w.heap.size w'.heap.size) (some ⟨b, 0, none⟩) n xs w' ∧ Below w.heap.size w w' := by
  obtain ⟨hlen, hs⟩ := hs
  obtain ⟨i0, hi, hz0, hz1, hz2⟩ := info_parts infoObject
  have hmk : ∀ u : World, (Instr.makeSlice 30 (.int .i64 (n : Int)) (.int .i64 (n : Int))).run Try.prog u =
      .ok (.slice (some ⟨u.heap.size, 0, none⟩) n n) (u.alloc (.cells (madeCells #[.int .i64 0, .int .i64 0, .int .i64 0, .slice none 0 0, .int .i64 0, .int .i64 0, .slice none 0 0] (n * 7)) 57)) := fun u => by
    have h := run_make (P := Try.prog) u 30 57 i0 (.agg #[.int .i64 0, .int .i64 0, .int .i64 0, .slice none 0 0, .int .i64 0, .int .i64 0, .slice none 0 0]) Try.underlying30 hi hz0 .i64 .i64 (n : Int) (n : Int) (by omega) (Int.le_refl _) (by rw [hz2]; omega) (by omega)
    simpa [hz1, Value.cells] using h
  go_enter Try.func20, Try.ntmps20
  go_wp2
  go_loopw [4] (fun i wr => ∃ k : Nat, k ≤ n ∧ i = .int .i64 k ∧ Below w.heap.size w wr ∧ ∃ lb, HalfO wr w.heap.size n k (gO xs) lb) (fun i _ => n - (intOf i).toNat)
  case atStart => exact ⟨0, Nat.zero_le _, rfl, (Below.refl _ _).alloc (Nat.le_refl _) _, fun _ => 0, HalfO.start _ _ _ _ _⟩
  case round =>
    obtain ⟨k, hk, rfl, hbel, lb, hh⟩ := hrel
    by_cases hlt : k < n
    · obtain ⟨b, off, rfl, hb, hc⟩ := hs (by omega)
      obtain ⟨la, lc, da, dc, h7, hll, hsl, hdl, hsd⟩ := hc k hlt
      obtain ⟨r0, r1, r2, r3, r4, r5, r6⟩ := h7.of_block (hbel.block b hb)
      have hl2 := gO_le xs k (by omega)
      have hsl2 := hsl.below hbel (Nat.le_refl _)
      have hsd2 := hsd.below hbel (Nat.le_refl _)
      clear h7 hc
      go_wp2_with fail
      refine (toObject_calls (gO xs k) la lc da dc _ (by omega) (by omega) hsl2 hsd2).mono ?_
      rintro e w1 ⟨nb, nd, rfl, hlb, hld, hne, hblk, hblkd, hb1⟩
      have hh1 := hh.below hb1
      obtain ⟨v0, hv0⟩ := hh1.all (k * 7) (by omega)
      have hf0 := hh1.fz (k * 7)
      obtain ⟨v1, hv1⟩ := hh1.all (k * 7 + 1) (by omega)
      have hf1 := hh1.fz (k * 7 + 1)
      obtain ⟨v2, hv2⟩ := hh1.all (k * 7 + 2) (by omega)
      have hf2 := hh1.fz (k * 7 + 2)
      obtain ⟨v3, hv3⟩ := hh1.all (k * 7 + 3) (by omega)
      have hf3 := hh1.fz (k * 7 + 3)
      obtain ⟨v4, hv4⟩ := hh1.all (k * 7 + 4) (by omega)
      have hf4 := hh1.fz (k * 7 + 4)
      obtain ⟨v5, hv5⟩ := hh1.all (k * 7 + 5) (by omega)
      have hf5 := hh1.fz (k * 7 + 5)
      obtain ⟨v6, hv6⟩ := hh1.all (k * 7 + 6) (by omega)
      have hf6 := hh1.fz (k * 7 + 6)
      have hbw := hbel.trans (hb1.mono hbel.size)
      have hN := hh.lt
      have HH := hide (hh.store hb1 hlt hlb hld hne hblk hblkd)
      rw [← set7_L] at HH
      unfold set7 at HH
      have HBW := hide (below_set7o hbw (P := w.heap.size) (Nat.le_refl _) (k * 7) (.int .i64 (gO xs k).1) (.int .i64 (gO xs k).2.1) (.int .i64 (gO xs k).2.2.1) (.slice (some ⟨nb, 0, none⟩) (gO xs k).2.2.2.1.length (gO xs k).2.2.2.1.length) (.int .i64 (gO xs k).2.2.2.2.1) (.int .i64 (gO xs k).2.2.2.2.2.1) (.slice (some ⟨nd, 0, none⟩) (gO xs k).2.2.2.2.2.2.length (gO xs k).2.2.2.2.2.2.length))
      unfold set7 at HBW
      clear hh hh1 hb1 hblk hblkd hsl2 hsd2 hsl hsd r0 r1 r2 r3 r4 r5 r6
      go_wp2
      go_roundw
      case rel => exact ⟨k + 1, by omega, by go_num, HBW.out, _, HH.out⟩
      case measure => simp [intOf]; omega
    · have hkn : k = n := by omega
      subst hkn
      go_wp2
      go_ret
      exact ⟨w.heap.size, rfl, hh.oo (Nat.le_refl _) hlen hm, hbel⟩

set_option maxRecDepth 100000 in
theorem toKernel_O (a : Option Addr) (n cap : Nat) (xs : List OB) (w : World) (hm : n + lenO xs ≤ 1048576) (hs : Sob w a n xs) :
    Calls Try.prog 8 #[.agg #[.slice a n cap]] w fun e w' => ∃ b, e = .returned (.agg #[.slice (some ⟨b, 0, none⟩) n n]) ∧ OO (InR w.heap.size w'.heap.size) (some ⟨b, 0, none⟩) n xs w' ∧ Below w.heap.size w w' := by
  have M0 := (((Mm.start w).alloc1 (.slice a n cap) 24).alloc1 (.slice none 0 0) 35).alloc1 (.slice none 0 0) 35
  simp only [World.size_alloc] at M0
  go_enter Try.func8, Try.ntmps8
  go_wp2_with fail
  refine (toObjectS_O a n cap xs _ hm (hs.below M0.bel (Nat.le_refl _))).mono ?_
  rintro e w1 ⟨b, rfl, oo, g1⟩
  have z1 := g1.size
  simp only [World.size_alloc] at oo z1
  have M1 := (M0.below g1).fact OO.loc oo
  have c0 := M1.cell 0 rfl
  have c1 := M1.cell 1 rfl
  have f0 := M1.fz 0 rfl
  have f1 := M1.fz 1 rfl
  have HB := hide M1.bel
  have HO := hide (M1.get 0 rfl)
  clear M1 M0 g1 oo
  go_wp2
  refine bodyPost_ret (v := .agg #[.slice (some ⟨b, 0, none⟩) n n]) (by simp [results, Try.results8, go_sem, c1]) rfl ⟨b, rfl, ?_, (HB.out.setCell (by simp; omega) _).setCell (by simp) _⟩
  exact (OO.loc.setC (OO.loc.setC HO.out (fun h => by have := h.1; simp at this; omega) _) (fun h => by have := h.1; simp at this; omega) _).mono (fun q e => ⟨by have := e.1; omega, by have := e.2; simp; omega⟩)

end Go.Proofs.Ytipfaoecodclaaa
