import Derived.Test.YtboeceabnlhnoaaL2Leave
import Derived.Test.YtboeceabnlhnoaaL2Copy
import Derived.WalkKit
import Derived.ProofKit
import Derived.OpenShut
import Derived.ShutString
import Derived.ChangeOld
import Derived.Below
import Derived.WalkSpells
import Derived.Deep.QuietTactic
import Derived.BigQuiet
import Derived.Deep.RegionWith
import Derived.Deep.WholeRow
import Derived.Deep.DeepCutAuto
import Derived.Deep.RegionHeld2
import Derived.Deep.AppendLies
import Derived.Deep.RegionLaw
namespace Go.Proofs.Ytboeceabnlhnoaa
open Go.ChangeShapes Go.WideShapes Go.ChangeAt Go.RowKit

set_option maxRecDepth 100000 in
theorem specLeaveLabel_calls (a : Option Addr) (n ca : Nat) (ss : List (Int × List Int)) (p : Int) (w : World) (hn : n ≤ maxLen) (hx : Sls w a n ss) :
    Calls Try.prog 9 #[.agg #[.slice a n ca], .int .i64 p] w fun e w' => ∃ ra rn rc, e = .returned (.agg #[.int .i64 (laC ss p), .int .i64 (lvR ss p), .slice ra rn rc]) ∧ OR (InR w.heap.size w'.heap.size) ra rn (lvL ss p) w' ∧ Below w.heap.size w w' := by
  have M0 := ((Mm.start w).alloc1 (.slice a n ca) 26).alloc3 (.int .i64 0) (.int .i64 0) (.slice none 0 0) 33
  simp only [World.size_alloc] at M0
  have hx0 := hx.below M0.bel (Nat.le_refl _)
  have hlen := hx.1
  have hnm := hn
  unfold maxLen at hn
  by_cases hc : laC ss p = 0
  · have ec : (laC ss p != 0) = false := by simp [hc]
    have Hc := hide hc
    obtain ⟨hr, j, rfl, hj, hp, hl, hf⟩ := laC_zero hc
    have good := good_of hr
    have h9 := good.top j hj
    have few := good.few
    have hsum := good_sum good
    have hsum2 := good_sum (good_leave good hj hp)
    rw [length_leaveS] at hsum2
    have HV : Hid (lvR ss (j : Int) = gc ss j - 1) := if_pos hc
    have HL : Hid (lvL ss (j : Int) = leaveS ss j) := if_pos hc
    clear hc hl hr hf
    go_enter Try.func9, Try.ntmps9
    go_wp2_with fail
    refine (l2Asked_calls _ a n ca ss _ _ hnm (M0.lt 3 rfl) (M0.cell 3 rfl) hx0).mono ?_
    rintro e w1 ⟨rfl, g1⟩
    have M1 := M0.below g1
    have hx1 := hx0.below g1 (Nat.le_refl _)
    have c1 := M1.cell 3 rfl
    have hzw := g1.size
    simp only [World.size_alloc] at hzw
    clear g1 hx0 M0
    go_wp2_with fail
    refine (l2Copy_O a n ca ss _ (by omega) hx1).mono ?_
    rintro e w2 ⟨ra, rc, rfl, o2, g2⟩
    have hz2 := g2.size
    have hz1 := M1.bel.size
    have M2 := ((M1.below g2).fact OR.loc o2).alloc1 (.slice ra n rc) 26
    have q2 := M2.cell 0 rfl
    have o3 := M2.get 0 rfl
    clear g2 hx1 M1 c1 o2
    go_wp2_with fail
    refine (l2Leave_O _ (InR w1.heap.size w2.heap.size) ra n rc ss j _ q2 o3 (fun e => by have := e.2; omega) (by omega) (by omega) h9 (by omega)).mono ?_
    rintro e w3 ⟨rfl, o4, u4⟩
    have hl1 := M2.lt 1 rfl
    have M3 : Mm w w3 [(w2.heap.size, 0, .slice ra n rc), (w.heap.size + 1, 0, .int .i64 0), (w.heap.size + 1, 1, .int .i64 0), (w.heap.size + 1, 2, .slice none 0 0)] [] := (M2.sub (by simp) (by simp)).out u4 (by omega) (by simp <;> omega) (by simp)
    have hz3 := u4.size
    obtain ⟨N, la, lc, lb, rfl, hb⟩ := o4.body (by omega)
    have kk := hb.c0 j (by omega)
    rw [gc_leave hj, if_pos rfl] at kk
    have q3 := M3.cell 0 rfl
    have r0 := M3.cell 1 rfl
    have r1 := M3.cell 2 rfl
    have r2 := M3.cell 3 rfl
    have f0 := M3.fz 1 rfl
    have f1 := M3.fz 2 rfl
    have f2 := M3.fz 3 rfl
    have HB := hide M3.bel
    have HO := hide o4
    have HZ : Hid (w1.heap.size ≤ w2.heap.size ∧ w2.heap.size ≤ w3.heap.size ∧ w.heap.size + 1 + 1 ≤ w1.heap.size ∧ w.heap.size ≤ w1.heap.size) := ⟨by omega, by simp at hz3; omega, by omega, by omega⟩
    clear u4 M2 M3 hb o4 o3 q2 hz1 hz2 hz3 hzw
    go_wp2_with fail
    go_region
    all_goals (
      go_wp2
      refine bodyPost_ret (v := .agg #[.int .i64 0, .int .i64 (gc ss j - 1), .slice (some ⟨N, 0, none⟩) n rc]) (by simp [results, Try.results9, go_sem, r0, r1, r2]) rfl ⟨some ⟨N, 0, none⟩, n, rc, by rw [Hc.out, HV.out], ?_, ?_⟩
      · rw [HL.out]
        exact (OR.loc.below ((Below.refl _ _).drew) (OR.set3 HO.out (fun e => by have := e.1; have := HZ.out; omega) _ _ _)).mono (fun k hk => ⟨by have := hk.1; have := HZ.out; omega, by have := hk.2; have := HZ.out; simp; omega⟩)
      · exact (((HB.out.setCell (p := ⟨w.heap.size + 1, 0, none⟩) (by show w.heap.size ≤ w.heap.size + 1; omega) _).setCell (p := ⟨w.heap.size + 1, 1, none⟩) (by show w.heap.size ≤ w.heap.size + 1; omega) _).setCell (p := ⟨w.heap.size + 1, 2, none⟩) (by show w.heap.size ≤ w.heap.size + 1; omega) _).drew)
  · have ec : (laC ss p != 0) = true := by simp [hc]
    have HV : Hid (lvR ss p = 0) := if_neg hc
    have HL : Hid (lvL ss p = []) := if_neg hc
    clear hc
    go_enter Try.func9, Try.ntmps9
    go_wp2_with fail
    refine (l2Asked_calls _ a n ca ss _ _ hnm (M0.lt 3 rfl) (M0.cell 3 rfl) hx0).mono ?_
    rintro e w1 ⟨rfl, g1⟩
    have M1 := M0.below g1
    clear M0 g1 hx0
    go_wp2_with fail
    refine (l2Bad_calls _ _).mono ?_
    rintro e w2 ⟨rfl, g2⟩
    have M2 := M1.below g2
    have r0 := M2.cell 0 rfl
    have r1 := M2.cell 1 rfl
    have r2 := M2.cell 2 rfl
    have f0 := M2.fz 0 rfl
    have f1 := M2.fz 1 rfl
    have f2 := M2.fz 2 rfl
    have HB := hide M2.bel
    clear M1 M2 g2
    go_wp2
    refine bodyPost_ret (v := .agg #[.int .i64 (laC ss p), .int .i64 0, .slice none 0 0]) (by simp [results, Try.results9, go_sem, r0, r1, r2]) rfl ⟨none, 0, 0, by rw [HV.out], ?_, ((HB.out.setCell (by simp) _).setCell (by simp) _).setCell (by simp) _⟩
    rw [HL.out]
    exact OR.nil _ _ _

end Go.Proofs.Ytboeceabnlhnoaa
