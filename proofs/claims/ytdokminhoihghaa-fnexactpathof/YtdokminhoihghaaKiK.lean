import Derived.Test.YtdokminhoihghaaKiJ
import Derived.Test.YtdokminhoihghaaKiG
import Derived.Test.YtdokminhoihghaaKgH
import Derived.Test.YtdokminhoihghaaKgK
import Derived.WalkKit
import Derived.ProofKit
import Derived.OpenShut
import Derived.ShutString
import Derived.ChangeOld
import Derived.Below
import Derived.WalkSpells
import Derived.Deep.QuietTactic
import Derived.BigQuiet
import Derived.Deep.RegionWith
import Derived.Deep.WholeRow
import Derived.Deep.DeepCutAuto
import Derived.Deep.RegionHeld2
import Derived.Deep.AppendLies
import Derived.Deep.RegionLaw
namespace Go.Proofs.Ytdokminhoihghaa
open Go.ChangeShapes Go.WideShapes Go.ChangeAt Go.RowKit

theorem owns_blk0 {w : World} {base : Nat} {e : TypeId} {g n cap : Nat} {zs : List Int} (h : w.ownsRow base e 1 (.slice (some ⟨g, 0, none⟩) n cap) n (zs.map (Value.int .i64))) : base ≤ g ∧ Blk w g zs := by
  have hlen : zs.length = n := by simpa using h.1
  rcases h.2 with ⟨h0, _⟩ | ⟨g', cap', cur, e0, hb, hg, hc, _, hs, ht⟩
  · cases h0
  · cases e0
    refine ⟨hb, (Array.getElem?_eq_some_iff.1 hg).1, fun i hi => ?_, fun i => by simp [World.frozen?, hg]⟩
    have hcell := h.cells (g := g) rfl i (.int .i64 (gt zs i)) (by simp [gt, hi])
    have hadd : (Addr.mk g 0 none).add i = ⟨g, i, none⟩ := by cases i <;> simp [Addr.add]
    rwa [hadd] at hcell

theorem pathO_up {f : Nat → OB} {n p : Nat} (hu : ∀ i, 0 < i → i < n → 0 ≤ (f i).1 ∧ (f i).1 < (i : Int)) (h0 : p ≠ 0) (hp : p < n) : pathO f p p = pathO f (f p).1.toNat (f p).1.toNat ++ [(f p).2.1] := by
  obtain ⟨r, rfl⟩ : ∃ r, p = r + 1 := ⟨p - 1, by omega⟩
  have hq := hu (r + 1) (by omega) hp
  conv => lhs; unfold pathO
  rw [if_neg h0, pathO_more (f := f) (n := n) hu r _ (by omega) (by omega)]

set_option maxRecDepth 100000 in
set_option maxHeartbeats 4000000 in
theorem implPathOf_calls (a : Option Addr) (n c : Nat) (xs : List OB) (i : Int) (w : World) (hm : n ≤ maxLen) (hs : Sob w a n xs) (hcap : n ≤ c) : Calls Try.prog 29 #[.agg #[.slice a n c], .int .i64 i] w fun e w' => ∃ ra rn rc, e = .returned (.agg #[.int .i64 (askC xs i), .slice ra rn rc]) ∧ OS (InR w.heap.size w'.heap.size) ra rn (pathL xs i) w' ∧ Below w.heap.size w w' := by
  have hlen := hs.1
  have M0 := ((Mm.start w).allocC [.slice a n c] 29).allocC [.int .i64 0, .slice none 0 0] 55
  simp only [World.size_alloc] at M0
  have HS := hide (hs.below M0.bel (Nat.le_refl _))
  obtain ⟨i0, hi, hz0, hz1, hz2⟩ := info_parts info2
  go_enter Try.func29, Try.ntmps29
  go_wp2_with fail
  refine (placeFault_calls a n c xs i _ hm HS.out hcap).mono ?_
  rintro e w1 ⟨rfl, g1⟩
  have z1 : w.heap.size + 2 ≤ w1.heap.size := by have := g1.size; simpa using this
  have HM := hide (M0.below g1)
  clear M0 g1 HS
  by_cases h1 : askC xs i = 0
  rotate_left
  · have HV : Hid (pathL xs i = []) := if_neg h1
    have e1 : (askC xs i != 0) = true := by simpa using h1
    have r0 := (HM.out.get 0 rfl).cell 0 rfl
    have r1 := (HM.out.get 0 rfl).cell 1 rfl
    have f0 := (HM.out.get 0 rfl).fz 0 (by simp)
    have f1 := (HM.out.get 0 rfl).fz 1 (by simp)
    have HB := hide HM.out.bel
    clear h1 HM
    go_wp2
    refine bodyPost_ret (v := .agg #[.int .i64 (askC xs i), .slice none 0 0]) (by simp [results, Try.results29, go_sem, r0, r1]) rfl ⟨none, 0, 0, rfl, ?_, (HB.out.setCell (by simp) _).setCell (by simp) _⟩
    rw [HV.out]
    exact ⟨rfl, by omega, .inl rfl⟩
  have e1 : (askC xs i != 0) = false := by simp [h1]
  have HC0 := hide h1
  obtain ⟨h3, hi0, hi1⟩ := askC_inv h1
  have h12 := (kerF_inv h3).2.1
  obtain ⟨p, rfl⟩ : ∃ p : Nat, i = (p : Int) := ⟨i.toNat, by omega⟩
  have HV : Hid (pathL xs (p : Int) = pathO (gO xs) p p) := if_pos h1
  have hpn : p < n := by omega
  have HUP : Hid (∀ j, 0 < j → j < n → 0 ≤ (gO xs j).1 ∧ (gO xs j).1 < (j : Int)) := fun j h0 hj => up_of h3 h0 (by omega)
  obtain ⟨b, off, ea, hb, hc⟩ := hs.2 (by omega)
  subst ea
  have hn12 : n ≤ 12 := by omega
  have HCC := hide hc
  have HOW0 := hide (owns_empty w1 w1.heap.size 2 1 (Nat.le_refl _))
  have HB2 : Hid (Below w1.heap.size w1 (w1.alloc (.cells #[] 2))) := (Below.refl _ _).alloc (Nat.le_refl _) _
  clear h1 h3 hi0 hi1 hlen hs hc
  go_wp2
  go_loopw [7, 6] (fun q v wr => ∃ (j : Nat) (L : List Int) (vg : Nat) (vc : Nat), q = .int .i64 (j : Int) ∧ j < n ∧ v = .slice (some ⟨vg, 0, none⟩) L.length vc ∧ wr.ownsRow w1.heap.size 2 1 v L.length (L.map (Value.int .i64)) ∧ L.length + j ≤ p ∧ pathO (gO xs) p p = pathO (gO xs) j j ++ L.reverse ∧ Below w1.heap.size w1 wr) (fun q _ _ => (intOf q).toNat)
  case atStart => exact ⟨p, [], _, _, rfl, hpn, rfl, HOW0.out, by simp, by simp, HB2.out⟩
  case round =>
    obtain ⟨j, L, vg, vc, rfl, hjn, rfl, own, hLj, hpath, gwr⟩ := hrel
    have HOW := hide own
    have HPA := hide hpath
    have HGW := hide gwr
    have hB := gwr.size
    have d0 := (((HM.out.below gwr)).get 1 rfl).cell 0 rfl
    by_cases hj0 : j = 0
    rotate_left
    · have e0 : ((j : Int) != 0) = true := by simp; omega
      have hup := HUP.out j (by omega) hjn
      obtain ⟨q, eq⟩ : ∃ q : Nat, (gO xs j).1 = (q : Int) := ⟨(gO xs j).1.toNat, by omega⟩
      have HPU := hide (pathO_up HUP.out hj0 hjn)
      obtain ⟨la, lc, da, dc, h7, _⟩ := HCC.out j hjn
      have hbw : b < w1.heap.size := by omega
      obtain ⟨r0, r1, r2, r3, r4, r5, r6⟩ := h7.of_block ((HM.out.bel.trans (gwr.mono HM.out.bel.size)).block b hb)
      rw [eq] at r0
      have j0 : (0 : Int) ≤ (j : Int) := by omega
      have j1 : (j : Int) < (n : Int) := by omega
      have hqj : q < j := by omega
      have HC1 : Hid (Below wr.heap.size wr (wr.alloc (.cells #[.int .i64 (gO xs j).2.1] 2))) := (Below.refl wr.heap.size wr).alloc (Nat.le_refl _) _
      have HEQ := hide eq
      have HHB := hide hb
      clear own gwr hpath h7 hup eq hj0
      go_wp2_with (first
        | (at_builtin; go_loud (refine wpList_append_lies _ rfl _ _ 33 rfl w1.heap.size 2 i0 (.int .i64 0) 1 8 Try.underlying33 hi hz0 hz1 hz2 rfl (by decide) _ L.length _ rfl (ownR_below HOW.out HC1.out) ⟨wr.heap.size, 0, none⟩ 1 1 [.int .i64 (gO xs j).2.1] rfl rfl (one_new (by go_simp)) (by simp [Value.oneCell']) (by omega) (by unfold maxLen; omega) (by omega) (by simp; omega) (wr.heap.size + 1) (by simp) ?_))
        | go_in)
      intro g cp w5 hown5 hg5 hat5 hlt5
      have G5 : Below w1.heap.size w1 w5 := ((HGW.out.trans (HC1.out.mono HGW.out.size)).grown hg5 (by simp; omega) (fun q e => (HOW.out.lt q e).1))
      have HG5 := hide G5
      have HOW5 := hide hown5
      have d5 := (((HM.out.below G5)).get 1 rfl).cell 0 rfl
      obtain ⟨la5, lc5, da5, dc5, h75, _⟩ := HCC.out j hjn
      obtain ⟨s0, s1, s2, s3, s4, s5, s6⟩ := h75.of_block ((HM.out.bel.trans (G5.mono HM.out.bel.size)).block b HHB.out)
      rw [HEQ.out] at s0
      clear hown5 hg5 hat5 hlt5 r0 r1 r2 r3 r4 r5 r6 s1 s2 s3 s4 s5 s6 G5 h75 d0
      go_wp2
      go_roundw
      case rel => exact ⟨q, L ++ [(gO xs j).2.1], g, cp, rfl, by omega, by rw [List.length_append]; rfl, by rw [List.length_append, List.map_append]; exact HOW5.out, by rw [List.length_append]; simp; omega, by rw [HPA.out, HPU.out, HEQ.out]; simp, HG5.out⟩
      case measure => simp [intOf]; omega
    · subst hj0
      have e0 : (((0 : Nat) : Int) != 0) = false := by simp
      obtain ⟨hvg, hbk⟩ := owns_blk0 own
      have HRV := hide (reverse_calls vg L.length vc L wr w1.heap.size hvg hB (by omega) rfl hbk)
      have hL : L.length ≤ 12 := by omega
      clear own hbk d0
      go_wp2_with fail
      refine HRV.out.mono ?_
      rintro e w6 ⟨rfl, hb6, g6⟩
      have G6 : Below w1.heap.size w1 w6 := gwr.trans g6
      have M6 := HM.out.below G6
      have r0 := (M6.get 0 rfl).cell 0 rfl
      have r1 := (M6.get 0 rfl).cell 1 rfl
      have f0 := (M6.get 0 rfl).fz 0 (by simp)
      have f1 := (M6.get 0 rfl).fz 1 (by simp)
      have HB := hide M6.bel
      have HO : Hid (OS (InR w1.heap.size w6.heap.size) (some ⟨vg, 0, none⟩) L.length (pathO (gO xs) p p) w6) := by
        show OS _ _ _ _ _
        rw [HPA.out]
        exact OS.ofBlk hb6 ⟨hvg, hb6.1⟩ (by simp [pathO]) (by omega)
      clear M6 gwr g6 G6 hb6 hpath HOW HGW
      go_wp2
      refine bodyPost_ret (v := .agg #[.int .i64 0, .slice (some ⟨vg, 0, none⟩) L.length vc]) (by simp [results, Try.results29, go_sem, r0, r1]) rfl ⟨some ⟨vg, 0, none⟩, _, vc, by rw [HC0.out], ?_, (HB.out.setCell (by simp) _).setCell (by simp) _⟩
      rw [HV.out]
      exact (OS.loc.setC (OS.loc.setC HO.out (fun h => by have := h.1; simp at this; omega) _) (fun h => by have := h.1; simp at this; omega) _).mono (fun q e => ⟨by have := e.1; omega, by have := e.2; simp; omega⟩)

end Go.Proofs.Ytdokminhoihghaa
