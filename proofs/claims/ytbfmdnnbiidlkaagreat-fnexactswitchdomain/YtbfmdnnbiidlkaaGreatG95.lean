import Derived.Test.YtbfmdnnbiidlkaaGreatG27
import Derived.Test.YtbfmdnnbiidlkaaGreatG28
import Derived.Test.YtbfmdnnbiidlkaaGreatG17
import Derived.WalkKit
import Derived.ProofKit
import Derived.OpenShut
import Derived.ShutString
import Derived.ChangeOld
import Derived.Below
import Derived.WalkSpells
import Derived.Deep.QuietTactic
import Derived.BigQuiet
import Derived.Deep.RegionWith
import Derived.Deep.WholeRow
import Derived.Deep.DeepCutAuto
import Derived.Deep.RegionHeld2
import Derived.Deep.AppendLies
import Derived.Deep.RegionLaw
namespace Go.Proofs.YtbfmdnnbiidlkaaGreat
open Go.ChangeShapes Go.WideShapes Go.ChangeAt Go.RowKit

def wcC (D : SD) (x : Int) : Int := if sysF D = 0 then (if up x ((D.ds.length : Int) - 1) = true then 0 else 4) else sysF D
def wcV (D : SD) (x : Int) : Int := if wcC D x = 0 then D.ac else 0
def wcD (D : SD) (x : Int) : SD := if wcC D x = 0 then { D with ac := x } else zeroD

theorem wc_bad {D : SD} {x : Int} (h : wcC D x ≠ 0) : wcV D x = 0 ∧ wcD D x = zeroD := ⟨if_neg h, if_neg h⟩
theorem wc_ok {D : SD} {x : Int} (h : wcC D x = 0) : wcV D x = D.ac ∧ wcD D x = { D with ac := x } := ⟨if_pos h, if_pos h⟩
theorem wc_f {D : SD} {x : Int} (h : sysF D ≠ 0) : wcC D x = sysF D := if_neg h
theorem wc_n {D : SD} {x : Int} (h : sysF D = 0) (hp : up x ((D.ds.length : Int) - 1) = false) : wcC D x = 4 := by unfold wcC; rw [if_pos h, hp]; rfl
theorem wc_y {D : SD} {x : Int} (h : sysF D = 0) (hp : up x ((D.ds.length : Int) - 1) = true) : wcC D x = 0 := by unfold wcC; rw [if_pos h, if_pos hp]

/-- who is active is another: all that is owned is as it was. -/
theorem OY.act {S : Nat → Prop} {A : SA} {D : SD} {w : World} (h : OY S A D w) (x : Int) : OY S A { D with ac := x } w := by
  obtain ⟨Q, h1, h2, h3, h4, h5⟩ := h
  exact ⟨Q, h1, h2, h3, h4, ⟨h5.t, h5.m, h5.x, h5.l, h5.o, h5.g⟩⟩

set_option maxRecDepth 100000 in
set_option maxHeartbeats 4000000 in
theorem specSwitchDomain_calls (A : SA) (D : SD) (x : Int) (w : World) (hr : RS w A D) (_ : A.ln ≤ A.lc) (hz : szY A D ≤ 1048576) :
    Calls Tryz.prog 33 #[.agg #[.slice A.a A.n A.c, .slice A.ta A.tn A.tc, .slice A.da A.dn A.dc, .slice A.wa A.wn A.wc, .slice A.xa A.xn A.xc, .int .i64 D.ac, .int .i64 D.cz, .slice A.la A.ln A.lc, .int .i64 D.dv, .slice A.oa A.on A.oc, .slice A.ga A.gn A.gc], .int .i64 x] w fun e w' => ∃ B : SA, e = .returned (.agg #[.int .i64 (wcC D x), .int .i64 (wcV D x), .slice B.a B.n B.c, .slice B.ta B.tn B.tc, .slice B.da B.dn B.dc, .slice B.wa B.wn B.wc, .slice B.xa B.xn B.xc, .int .i64 (wcD D x).ac, .int .i64 (wcD D x).cz, .slice B.la B.ln B.lc, .int .i64 (wcD D x).dv, .slice B.oa B.on B.oc, .slice B.ga B.gn B.gc]) ∧ OY (InR w.heap.size w'.heap.size) B (wcD D x) w' ∧ Below w.heap.size w w' := by
  have M0 := ((Mm.start w).allocC [.slice A.a A.n A.c, .slice A.ta A.tn A.tc, .slice A.da A.dn A.dc, .slice A.wa A.wn A.wc, .slice A.xa A.xn A.xc, .int .i64 D.ac, .int .i64 D.cz, .slice A.la A.ln A.lc, .int .i64 D.dv, .slice A.oa A.on A.oc, .slice A.ga A.gn A.gc] 47).allocC [.int .i64 0, .int .i64 0, .slice none 0 0, .slice none 0 0, .slice none 0 0, .slice none 0 0, .slice none 0 0, .int .i64 0, .int .i64 0, .slice none 0 0, .int .i64 0, .slice none 0 0, .slice none 0 0] 83
  simp only [World.size_alloc] at M0
  go_enter Tryz.func33, Tryz.ntmps33
  go_wp2_with fail
  refine (l7Fault_calls w.heap.size A D _ (M0.get 1 rfl) (hr.below M0.bel (Nat.le_refl _))).mono ?_
  rintro e w1 ⟨rfl, g1⟩
  have M1 := M0.below g1
  have z1 : w.heap.size + 2 ≤ w1.heap.size := by have := g1.size; simpa using this
  clear g1 M0
  by_cases hf : sysF D = 0
  rotate_left
  · have HC := hide (wc_f (x := x) hf)
    have HX := hide (wc_bad (D := D) (x := x) (by rw [HC.out]; exact hf))
    have hne : (sysF D != 0) = true := by simpa using hf
    clear hf
    go_wp2_with fail
    refine (l8Bad_calls (sysF D) _).mono ?_
    rintro e wz ⟨rfl, gz⟩
    have Mz := M1.below gz
    clear gz M1
    have c0_ := (Mz.get 0 rfl).cell 0 rfl
    have f0_ := (Mz.get 0 rfl).fz 0 (by simp)
    have c1_ := (Mz.get 0 rfl).cell 1 rfl
    have f1_ := (Mz.get 0 rfl).fz 1 (by simp)
    have c2_ := (Mz.get 0 rfl).cell 2 rfl
    have f2_ := (Mz.get 0 rfl).fz 2 (by simp)
    have c3_ := (Mz.get 0 rfl).cell 3 rfl
    have f3_ := (Mz.get 0 rfl).fz 3 (by simp)
    have c4_ := (Mz.get 0 rfl).cell 4 rfl
    have f4_ := (Mz.get 0 rfl).fz 4 (by simp)
    have c5_ := (Mz.get 0 rfl).cell 5 rfl
    have f5_ := (Mz.get 0 rfl).fz 5 (by simp)
    have c6_ := (Mz.get 0 rfl).cell 6 rfl
    have f6_ := (Mz.get 0 rfl).fz 6 (by simp)
    have c7_ := (Mz.get 0 rfl).cell 7 rfl
    have f7_ := (Mz.get 0 rfl).fz 7 (by simp)
    have c8_ := (Mz.get 0 rfl).cell 8 rfl
    have f8_ := (Mz.get 0 rfl).fz 8 (by simp)
    have c9_ := (Mz.get 0 rfl).cell 9 rfl
    have f9_ := (Mz.get 0 rfl).fz 9 (by simp)
    have c10_ := (Mz.get 0 rfl).cell 10 rfl
    have f10_ := (Mz.get 0 rfl).fz 10 (by simp)
    have c11_ := (Mz.get 0 rfl).cell 11 rfl
    have f11_ := (Mz.get 0 rfl).fz 11 (by simp)
    have c12_ := (Mz.get 0 rfl).cell 12 rfl
    have f12_ := (Mz.get 0 rfl).fz 12 (by simp)
    have HB := hide (below_set13 Mz.bel (P := w.heap.size + 1) (by omega) (.int .i64 (sysF D)) (.int .i64 0) (.slice none 0 0) (.slice none 0 0) (.slice none 0 0) (.slice none 0 0) (.slice none 0 0) (.int .i64 0) (.int .i64 0) (.slice none 0 0) (.int .i64 0) (.slice none 0 0) (.slice none 0 0))
    clear Mz
    go_wp2
    have r0 := set13_at0 _ _ (.int .i64 (sysF D)) (.int .i64 0) (.slice none 0 0) (.slice none 0 0) (.slice none 0 0) (.slice none 0 0) (.slice none 0 0) (.int .i64 0) (.int .i64 0) (.slice none 0 0) (.int .i64 0) (.slice none 0 0) (.slice none 0 0) ⟨_, c0_⟩
    have r1 := set13_at1 _ _ (.int .i64 (sysF D)) (.int .i64 0) (.slice none 0 0) (.slice none 0 0) (.slice none 0 0) (.slice none 0 0) (.slice none 0 0) (.int .i64 0) (.int .i64 0) (.slice none 0 0) (.int .i64 0) (.slice none 0 0) (.slice none 0 0) ⟨_, c1_⟩
    have r2 := set13_at2 _ _ (.int .i64 (sysF D)) (.int .i64 0) (.slice none 0 0) (.slice none 0 0) (.slice none 0 0) (.slice none 0 0) (.slice none 0 0) (.int .i64 0) (.int .i64 0) (.slice none 0 0) (.int .i64 0) (.slice none 0 0) (.slice none 0 0) ⟨_, c2_⟩
    have r3 := set13_at3 _ _ (.int .i64 (sysF D)) (.int .i64 0) (.slice none 0 0) (.slice none 0 0) (.slice none 0 0) (.slice none 0 0) (.slice none 0 0) (.int .i64 0) (.int .i64 0) (.slice none 0 0) (.int .i64 0) (.slice none 0 0) (.slice none 0 0) ⟨_, c3_⟩
    have r4 := set13_at4 _ _ (.int .i64 (sysF D)) (.int .i64 0) (.slice none 0 0) (.slice none 0 0) (.slice none 0 0) (.slice none 0 0) (.slice none 0 0) (.int .i64 0) (.int .i64 0) (.slice none 0 0) (.int .i64 0) (.slice none 0 0) (.slice none 0 0) ⟨_, c4_⟩
    have r5 := set13_at5 _ _ (.int .i64 (sysF D)) (.int .i64 0) (.slice none 0 0) (.slice none 0 0) (.slice none 0 0) (.slice none 0 0) (.slice none 0 0) (.int .i64 0) (.int .i64 0) (.slice none 0 0) (.int .i64 0) (.slice none 0 0) (.slice none 0 0) ⟨_, c5_⟩
    have r6 := set13_at6 _ _ (.int .i64 (sysF D)) (.int .i64 0) (.slice none 0 0) (.slice none 0 0) (.slice none 0 0) (.slice none 0 0) (.slice none 0 0) (.int .i64 0) (.int .i64 0) (.slice none 0 0) (.int .i64 0) (.slice none 0 0) (.slice none 0 0) ⟨_, c6_⟩
    have r7 := set13_at7 _ _ (.int .i64 (sysF D)) (.int .i64 0) (.slice none 0 0) (.slice none 0 0) (.slice none 0 0) (.slice none 0 0) (.slice none 0 0) (.int .i64 0) (.int .i64 0) (.slice none 0 0) (.int .i64 0) (.slice none 0 0) (.slice none 0 0) ⟨_, c7_⟩
    have r8 := set13_at8 _ _ (.int .i64 (sysF D)) (.int .i64 0) (.slice none 0 0) (.slice none 0 0) (.slice none 0 0) (.slice none 0 0) (.slice none 0 0) (.int .i64 0) (.int .i64 0) (.slice none 0 0) (.int .i64 0) (.slice none 0 0) (.slice none 0 0) ⟨_, c8_⟩
    have r9 := set13_at9 _ _ (.int .i64 (sysF D)) (.int .i64 0) (.slice none 0 0) (.slice none 0 0) (.slice none 0 0) (.slice none 0 0) (.slice none 0 0) (.int .i64 0) (.int .i64 0) (.slice none 0 0) (.int .i64 0) (.slice none 0 0) (.slice none 0 0) ⟨_, c9_⟩
    have r10 := set13_at10 _ _ (.int .i64 (sysF D)) (.int .i64 0) (.slice none 0 0) (.slice none 0 0) (.slice none 0 0) (.slice none 0 0) (.slice none 0 0) (.int .i64 0) (.int .i64 0) (.slice none 0 0) (.int .i64 0) (.slice none 0 0) (.slice none 0 0) ⟨_, c10_⟩
    have r11 := set13_at11 _ _ (.int .i64 (sysF D)) (.int .i64 0) (.slice none 0 0) (.slice none 0 0) (.slice none 0 0) (.slice none 0 0) (.slice none 0 0) (.int .i64 0) (.int .i64 0) (.slice none 0 0) (.int .i64 0) (.slice none 0 0) (.slice none 0 0) ⟨_, c11_⟩
    have r12 := set13_at12 _ _ (.int .i64 (sysF D)) (.int .i64 0) (.slice none 0 0) (.slice none 0 0) (.slice none 0 0) (.slice none 0 0) (.slice none 0 0) (.int .i64 0) (.int .i64 0) (.slice none 0 0) (.int .i64 0) (.slice none 0 0) (.slice none 0 0) ⟨_, c12_⟩
    refine bodyPost_ret (v := .agg #[.int .i64 (sysF D), .int .i64 0, .slice none 0 0, .slice none 0 0, .slice none 0 0, .slice none 0 0, .slice none 0 0, .int .i64 0, .int .i64 0, .slice none 0 0, .int .i64 0, .slice none 0 0, .slice none 0 0]) (by simp [results, Tryz.results33, go_sem, r0, r1, r2, r3, r4, r5, r6, r7, r8, r9, r10, r11, r12]) rfl ⟨zeroA, ?_, ?_, HB.out⟩
    · rw [HC.out, HX.out.1, HX.out.2]; rfl
    · rw [HX.out.2]; exact OY.zero _ _
  have hne : (sysF D != 0) = false := by simp [hf]
  have hdl : D.ds.length = A.dn := hr.len.2.2.1
  have hdn : A.dn ≤ maxLen := hr.rt.2.2.2.2.1
  have x2 := (M1.get 1 rfl).cell 2 rfl
  cases hd : up x ((A.dn : Int) - 1) with
  | false =>
    have HC := hide (wc_n hf (by rw [hdl]; exact hd))
    have HX := hide (wc_bad (D := D) (x := x) (by rw [HC.out]; decide))
    clear hf hdl
    go_wp2_with (first | (go_at_call 81; with_reducible refine (hasDomain_is w.heap.size A.da A.dn A.dc _ _ _ hdn x2 hd).mono ?_; rintro e w' ⟨rfl, hw'⟩; rw [hw']; clear hw' w') | (go_at_call 80; fail))
    refine (l8Bad_calls 4 _).mono ?_
    rintro e wz ⟨rfl, gz⟩
    have Mz := M1.below gz
    clear gz M1 x2
    have c0_ := (Mz.get 0 rfl).cell 0 rfl
    have f0_ := (Mz.get 0 rfl).fz 0 (by simp)
    have c1_ := (Mz.get 0 rfl).cell 1 rfl
    have f1_ := (Mz.get 0 rfl).fz 1 (by simp)
    have c2_ := (Mz.get 0 rfl).cell 2 rfl
    have f2_ := (Mz.get 0 rfl).fz 2 (by simp)
    have c3_ := (Mz.get 0 rfl).cell 3 rfl
    have f3_ := (Mz.get 0 rfl).fz 3 (by simp)
    have c4_ := (Mz.get 0 rfl).cell 4 rfl
    have f4_ := (Mz.get 0 rfl).fz 4 (by simp)
    have c5_ := (Mz.get 0 rfl).cell 5 rfl
    have f5_ := (Mz.get 0 rfl).fz 5 (by simp)
    have c6_ := (Mz.get 0 rfl).cell 6 rfl
    have f6_ := (Mz.get 0 rfl).fz 6 (by simp)
    have c7_ := (Mz.get 0 rfl).cell 7 rfl
    have f7_ := (Mz.get 0 rfl).fz 7 (by simp)
    have c8_ := (Mz.get 0 rfl).cell 8 rfl
    have f8_ := (Mz.get 0 rfl).fz 8 (by simp)
    have c9_ := (Mz.get 0 rfl).cell 9 rfl
    have f9_ := (Mz.get 0 rfl).fz 9 (by simp)
    have c10_ := (Mz.get 0 rfl).cell 10 rfl
    have f10_ := (Mz.get 0 rfl).fz 10 (by simp)
    have c11_ := (Mz.get 0 rfl).cell 11 rfl
    have f11_ := (Mz.get 0 rfl).fz 11 (by simp)
    have c12_ := (Mz.get 0 rfl).cell 12 rfl
    have f12_ := (Mz.get 0 rfl).fz 12 (by simp)
    have HB := hide (below_set13 Mz.bel (P := w.heap.size + 1) (by omega) (.int .i64 4) (.int .i64 0) (.slice none 0 0) (.slice none 0 0) (.slice none 0 0) (.slice none 0 0) (.slice none 0 0) (.int .i64 0) (.int .i64 0) (.slice none 0 0) (.int .i64 0) (.slice none 0 0) (.slice none 0 0))
    clear Mz
    go_wp2
    have r0 := set13_at0 _ _ (.int .i64 4) (.int .i64 0) (.slice none 0 0) (.slice none 0 0) (.slice none 0 0) (.slice none 0 0) (.slice none 0 0) (.int .i64 0) (.int .i64 0) (.slice none 0 0) (.int .i64 0) (.slice none 0 0) (.slice none 0 0) ⟨_, c0_⟩
    have r1 := set13_at1 _ _ (.int .i64 4) (.int .i64 0) (.slice none 0 0) (.slice none 0 0) (.slice none 0 0) (.slice none 0 0) (.slice none 0 0) (.int .i64 0) (.int .i64 0) (.slice none 0 0) (.int .i64 0) (.slice none 0 0) (.slice none 0 0) ⟨_, c1_⟩
    have r2 := set13_at2 _ _ (.int .i64 4) (.int .i64 0) (.slice none 0 0) (.slice none 0 0) (.slice none 0 0) (.slice none 0 0) (.slice none 0 0) (.int .i64 0) (.int .i64 0) (.slice none 0 0) (.int .i64 0) (.slice none 0 0) (.slice none 0 0) ⟨_, c2_⟩
    have r3 := set13_at3 _ _ (.int .i64 4) (.int .i64 0) (.slice none 0 0) (.slice none 0 0) (.slice none 0 0) (.slice none 0 0) (.slice none 0 0) (.int .i64 0) (.int .i64 0) (.slice none 0 0) (.int .i64 0) (.slice none 0 0) (.slice none 0 0) ⟨_, c3_⟩
    have r4 := set13_at4 _ _ (.int .i64 4) (.int .i64 0) (.slice none 0 0) (.slice none 0 0) (.slice none 0 0) (.slice none 0 0) (.slice none 0 0) (.int .i64 0) (.int .i64 0) (.slice none 0 0) (.int .i64 0) (.slice none 0 0) (.slice none 0 0) ⟨_, c4_⟩
    have r5 := set13_at5 _ _ (.int .i64 4) (.int .i64 0) (.slice none 0 0) (.slice none 0 0) (.slice none 0 0) (.slice none 0 0) (.slice none 0 0) (.int .i64 0) (.int .i64 0) (.slice none 0 0) (.int .i64 0) (.slice none 0 0) (.slice none 0 0) ⟨_, c5_⟩
    have r6 := set13_at6 _ _ (.int .i64 4) (.int .i64 0) (.slice none 0 0) (.slice none 0 0) (.slice none 0 0) (.slice none 0 0) (.slice none 0 0) (.int .i64 0) (.int .i64 0) (.slice none 0 0) (.int .i64 0) (.slice none 0 0) (.slice none 0 0) ⟨_, c6_⟩
    have r7 := set13_at7 _ _ (.int .i64 4) (.int .i64 0) (.slice none 0 0) (.slice none 0 0) (.slice none 0 0) (.slice none 0 0) (.slice none 0 0) (.int .i64 0) (.int .i64 0) (.slice none 0 0) (.int .i64 0) (.slice none 0 0) (.slice none 0 0) ⟨_, c7_⟩
    have r8 := set13_at8 _ _ (.int .i64 4) (.int .i64 0) (.slice none 0 0) (.slice none 0 0) (.slice none 0 0) (.slice none 0 0) (.slice none 0 0) (.int .i64 0) (.int .i64 0) (.slice none 0 0) (.int .i64 0) (.slice none 0 0) (.slice none 0 0) ⟨_, c8_⟩
    have r9 := set13_at9 _ _ (.int .i64 4) (.int .i64 0) (.slice none 0 0) (.slice none 0 0) (.slice none 0 0) (.slice none 0 0) (.slice none 0 0) (.int .i64 0) (.int .i64 0) (.slice none 0 0) (.int .i64 0) (.slice none 0 0) (.slice none 0 0) ⟨_, c9_⟩
    have r10 := set13_at10 _ _ (.int .i64 4) (.int .i64 0) (.slice none 0 0) (.slice none 0 0) (.slice none 0 0) (.slice none 0 0) (.slice none 0 0) (.int .i64 0) (.int .i64 0) (.slice none 0 0) (.int .i64 0) (.slice none 0 0) (.slice none 0 0) ⟨_, c10_⟩
    have r11 := set13_at11 _ _ (.int .i64 4) (.int .i64 0) (.slice none 0 0) (.slice none 0 0) (.slice none 0 0) (.slice none 0 0) (.slice none 0 0) (.int .i64 0) (.int .i64 0) (.slice none 0 0) (.int .i64 0) (.slice none 0 0) (.slice none 0 0) ⟨_, c11_⟩
    have r12 := set13_at12 _ _ (.int .i64 4) (.int .i64 0) (.slice none 0 0) (.slice none 0 0) (.slice none 0 0) (.slice none 0 0) (.slice none 0 0) (.int .i64 0) (.int .i64 0) (.slice none 0 0) (.int .i64 0) (.slice none 0 0) (.slice none 0 0) ⟨_, c12_⟩
    refine bodyPost_ret (v := .agg #[.int .i64 4, .int .i64 0, .slice none 0 0, .slice none 0 0, .slice none 0 0, .slice none 0 0, .slice none 0 0, .int .i64 0, .int .i64 0, .slice none 0 0, .int .i64 0, .slice none 0 0, .slice none 0 0]) (by simp [results, Tryz.results33, go_sem, r0, r1, r2, r3, r4, r5, r6, r7, r8, r9, r10, r11, r12]) rfl ⟨zeroA, ?_, ?_, HB.out⟩
    · rw [HC.out, HX.out.1, HX.out.2]; rfl
    · rw [HX.out.2]; exact OY.zero _ _
  | true =>
    have HC := hide (wc_y hf (by rw [hdl]; exact hd))
    have HX := hide (wc_ok HC.out)
    have HR := hide hr
    clear hf hdl hr
    have a0 := (M1.get 1 rfl).cell 0 rfl
    have a1 := (M1.get 1 rfl).cell 1 rfl
    have a2 := (M1.get 1 rfl).cell 2 rfl
    have a3 := (M1.get 1 rfl).cell 3 rfl
    have a4 := (M1.get 1 rfl).cell 4 rfl
    have a5 := (M1.get 1 rfl).cell 5 rfl
    have a6 := (M1.get 1 rfl).cell 6 rfl
    have a7 := (M1.get 1 rfl).cell 7 rfl
    have a8 := (M1.get 1 rfl).cell 8 rfl
    have a9 := (M1.get 1 rfl).cell 9 rfl
    have a10 := (M1.get 1 rfl).cell 10 rfl
    go_wp2_with (first | (go_at_call 81; with_reducible refine (hasDomain_is w.heap.size A.da A.dn A.dc _ _ _ hdn x2 hd).mono ?_; rintro e w' ⟨rfl, hw'⟩; rw [hw']; clear hw' w') | (go_at_call 82; fail))
    refine (l7Copy_O A D _ hz (HR.out.below M1.bel (Nat.le_refl _))).mono ?_
    rintro e w2 ⟨B, rfl, oy, g2⟩
    have z2 := g2.size
    have M2 := M1.below g2
    obtain ⟨u, hu⟩ : ∃ y, y = w2.alloc (.cells #[.slice B.a B.n B.c, .slice B.ta B.tn B.tc, .slice B.da B.dn B.dc, .slice B.wa B.wn B.wc, .slice B.xa B.xn B.xc, .int .i64 x, .int .i64 D.cz, .slice B.la B.ln B.lc, .int .i64 D.dv, .slice B.oa B.on B.oc, .slice B.ga B.gn B.gc] 47) := ⟨_, rfl⟩
    have al : Below w2.heap.size w2 u := by rw [hu]; exact (Below.refl _ _).alloc (Nat.le_refl _) _
    have zu : u.heap.size = w2.heap.size + 1 := by rw [hu]; simp
    have HCs : Cs w2.heap.size [.slice B.a B.n B.c, .slice B.ta B.tn B.tc, .slice B.da B.dn B.dc, .slice B.wa B.wn B.wc, .slice B.xa B.xn B.xc, .int .i64 x, .int .i64 D.cz, .slice B.la B.ln B.lc, .int .i64 D.dv, .slice B.oa B.on B.oc, .slice B.ga B.gn B.gc] u := by rw [hu]; exact Cs.alloc w2 [.slice B.a B.n B.c, .slice B.ta B.tn B.tc, .slice B.da B.dn B.dc, .slice B.wa B.wn B.wc, .slice B.xa B.xn B.xc, .int .i64 x, .int .i64 D.cz, .slice B.la B.ln B.lc, .int .i64 D.dv, .slice B.oa B.on B.oc, .slice B.ga B.gn B.gc] _
    have M3 := (M2.below al).fact OY.loc (B := w1.heap.size) (T := w2.heap.size) ((OYR.loc.below al oy).oy.act x)
    have Hu := hide hu
    clear M1 M2 g2 oy hu al hd hdn x2 a0 a1 a2 a3 a4 a5 a6 a7 a8 a9 a10
    have e0 := HCs.cell 0 rfl
    have e1 := HCs.cell 1 rfl
    have e2 := HCs.cell 2 rfl
    have e3 := HCs.cell 3 rfl
    have e4 := HCs.cell 4 rfl
    have e5 := HCs.cell 5 rfl
    have e6 := HCs.cell 6 rfl
    have e7 := HCs.cell 7 rfl
    have e8 := HCs.cell 8 rfl
    have e9 := HCs.cell 9 rfl
    have e10 := HCs.cell 10 rfl
    have a5 := (M3.get 2 rfl).cell 5 rfl
    have c0_ := (M3.get 1 rfl).cell 0 rfl
    have f0_ := (M3.get 1 rfl).fz 0 (by simp)
    have c1_ := (M3.get 1 rfl).cell 1 rfl
    have f1_ := (M3.get 1 rfl).fz 1 (by simp)
    have c2_ := (M3.get 1 rfl).cell 2 rfl
    have f2_ := (M3.get 1 rfl).fz 2 (by simp)
    have c3_ := (M3.get 1 rfl).cell 3 rfl
    have f3_ := (M3.get 1 rfl).fz 3 (by simp)
    have c4_ := (M3.get 1 rfl).cell 4 rfl
    have f4_ := (M3.get 1 rfl).fz 4 (by simp)
    have c5_ := (M3.get 1 rfl).cell 5 rfl
    have f5_ := (M3.get 1 rfl).fz 5 (by simp)
    have c6_ := (M3.get 1 rfl).cell 6 rfl
    have f6_ := (M3.get 1 rfl).fz 6 (by simp)
    have c7_ := (M3.get 1 rfl).cell 7 rfl
    have f7_ := (M3.get 1 rfl).fz 7 (by simp)
    have c8_ := (M3.get 1 rfl).cell 8 rfl
    have f8_ := (M3.get 1 rfl).fz 8 (by simp)
    have c9_ := (M3.get 1 rfl).cell 9 rfl
    have f9_ := (M3.get 1 rfl).fz 9 (by simp)
    have c10_ := (M3.get 1 rfl).cell 10 rfl
    have f10_ := (M3.get 1 rfl).fz 10 (by simp)
    have c11_ := (M3.get 1 rfl).cell 11 rfl
    have f11_ := (M3.get 1 rfl).fz 11 (by simp)
    have c12_ := (M3.get 1 rfl).cell 12 rfl
    have f12_ := (M3.get 1 rfl).fz 12 (by simp)
    have HB := hide (below_set13 M3.bel (P := w.heap.size + 1) (by omega) (.int .i64 0) (.int .i64 D.ac) (.slice B.a B.n B.c) (.slice B.ta B.tn B.tc) (.slice B.da B.dn B.dc) (.slice B.wa B.wn B.wc) (.slice B.xa B.xn B.xc) (.int .i64 x) (.int .i64 D.cz) (.slice B.la B.ln B.lc) (.int .i64 D.dv) (.slice B.oa B.on B.oc) (.slice B.ga B.gn B.gc))
    have HO := hide (loc_set13 OY.loc (M3.get 0 rfl) (P := w.heap.size + 1) (fun h => by have := h.1; omega) (.int .i64 0) (.int .i64 D.ac) (.slice B.a B.n B.c) (.slice B.ta B.tn B.tc) (.slice B.da B.dn B.dc) (.slice B.wa B.wn B.wc) (.slice B.xa B.xn B.xc) (.int .i64 x) (.int .i64 D.cz) (.slice B.la B.ln B.lc) (.int .i64 D.dv) (.slice B.oa B.on B.oc) (.slice B.ga B.gn B.gc))
    clear M3
    go_upto_region 8 with fail
    rw [← Hu.out]
    clear HCs
    go_wp2
    have r0 := set13_at0 _ _ (.int .i64 0) (.int .i64 D.ac) (.slice B.a B.n B.c) (.slice B.ta B.tn B.tc) (.slice B.da B.dn B.dc) (.slice B.wa B.wn B.wc) (.slice B.xa B.xn B.xc) (.int .i64 x) (.int .i64 D.cz) (.slice B.la B.ln B.lc) (.int .i64 D.dv) (.slice B.oa B.on B.oc) (.slice B.ga B.gn B.gc) ⟨_, c0_⟩
    have r1 := set13_at1 _ _ (.int .i64 0) (.int .i64 D.ac) (.slice B.a B.n B.c) (.slice B.ta B.tn B.tc) (.slice B.da B.dn B.dc) (.slice B.wa B.wn B.wc) (.slice B.xa B.xn B.xc) (.int .i64 x) (.int .i64 D.cz) (.slice B.la B.ln B.lc) (.int .i64 D.dv) (.slice B.oa B.on B.oc) (.slice B.ga B.gn B.gc) ⟨_, c1_⟩
    have r2 := set13_at2 _ _ (.int .i64 0) (.int .i64 D.ac) (.slice B.a B.n B.c) (.slice B.ta B.tn B.tc) (.slice B.da B.dn B.dc) (.slice B.wa B.wn B.wc) (.slice B.xa B.xn B.xc) (.int .i64 x) (.int .i64 D.cz) (.slice B.la B.ln B.lc) (.int .i64 D.dv) (.slice B.oa B.on B.oc) (.slice B.ga B.gn B.gc) ⟨_, c2_⟩
    have r3 := set13_at3 _ _ (.int .i64 0) (.int .i64 D.ac) (.slice B.a B.n B.c) (.slice B.ta B.tn B.tc) (.slice B.da B.dn B.dc) (.slice B.wa B.wn B.wc) (.slice B.xa B.xn B.xc) (.int .i64 x) (.int .i64 D.cz) (.slice B.la B.ln B.lc) (.int .i64 D.dv) (.slice B.oa B.on B.oc) (.slice B.ga B.gn B.gc) ⟨_, c3_⟩
    have r4 := set13_at4 _ _ (.int .i64 0) (.int .i64 D.ac) (.slice B.a B.n B.c) (.slice B.ta B.tn B.tc) (.slice B.da B.dn B.dc) (.slice B.wa B.wn B.wc) (.slice B.xa B.xn B.xc) (.int .i64 x) (.int .i64 D.cz) (.slice B.la B.ln B.lc) (.int .i64 D.dv) (.slice B.oa B.on B.oc) (.slice B.ga B.gn B.gc) ⟨_, c4_⟩
    have r5 := set13_at5 _ _ (.int .i64 0) (.int .i64 D.ac) (.slice B.a B.n B.c) (.slice B.ta B.tn B.tc) (.slice B.da B.dn B.dc) (.slice B.wa B.wn B.wc) (.slice B.xa B.xn B.xc) (.int .i64 x) (.int .i64 D.cz) (.slice B.la B.ln B.lc) (.int .i64 D.dv) (.slice B.oa B.on B.oc) (.slice B.ga B.gn B.gc) ⟨_, c5_⟩
    have r6 := set13_at6 _ _ (.int .i64 0) (.int .i64 D.ac) (.slice B.a B.n B.c) (.slice B.ta B.tn B.tc) (.slice B.da B.dn B.dc) (.slice B.wa B.wn B.wc) (.slice B.xa B.xn B.xc) (.int .i64 x) (.int .i64 D.cz) (.slice B.la B.ln B.lc) (.int .i64 D.dv) (.slice B.oa B.on B.oc) (.slice B.ga B.gn B.gc) ⟨_, c6_⟩
    have r7 := set13_at7 _ _ (.int .i64 0) (.int .i64 D.ac) (.slice B.a B.n B.c) (.slice B.ta B.tn B.tc) (.slice B.da B.dn B.dc) (.slice B.wa B.wn B.wc) (.slice B.xa B.xn B.xc) (.int .i64 x) (.int .i64 D.cz) (.slice B.la B.ln B.lc) (.int .i64 D.dv) (.slice B.oa B.on B.oc) (.slice B.ga B.gn B.gc) ⟨_, c7_⟩
    have r8 := set13_at8 _ _ (.int .i64 0) (.int .i64 D.ac) (.slice B.a B.n B.c) (.slice B.ta B.tn B.tc) (.slice B.da B.dn B.dc) (.slice B.wa B.wn B.wc) (.slice B.xa B.xn B.xc) (.int .i64 x) (.int .i64 D.cz) (.slice B.la B.ln B.lc) (.int .i64 D.dv) (.slice B.oa B.on B.oc) (.slice B.ga B.gn B.gc) ⟨_, c8_⟩
    have r9 := set13_at9 _ _ (.int .i64 0) (.int .i64 D.ac) (.slice B.a B.n B.c) (.slice B.ta B.tn B.tc) (.slice B.da B.dn B.dc) (.slice B.wa B.wn B.wc) (.slice B.xa B.xn B.xc) (.int .i64 x) (.int .i64 D.cz) (.slice B.la B.ln B.lc) (.int .i64 D.dv) (.slice B.oa B.on B.oc) (.slice B.ga B.gn B.gc) ⟨_, c9_⟩
    have r10 := set13_at10 _ _ (.int .i64 0) (.int .i64 D.ac) (.slice B.a B.n B.c) (.slice B.ta B.tn B.tc) (.slice B.da B.dn B.dc) (.slice B.wa B.wn B.wc) (.slice B.xa B.xn B.xc) (.int .i64 x) (.int .i64 D.cz) (.slice B.la B.ln B.lc) (.int .i64 D.dv) (.slice B.oa B.on B.oc) (.slice B.ga B.gn B.gc) ⟨_, c10_⟩
    have r11 := set13_at11 _ _ (.int .i64 0) (.int .i64 D.ac) (.slice B.a B.n B.c) (.slice B.ta B.tn B.tc) (.slice B.da B.dn B.dc) (.slice B.wa B.wn B.wc) (.slice B.xa B.xn B.xc) (.int .i64 x) (.int .i64 D.cz) (.slice B.la B.ln B.lc) (.int .i64 D.dv) (.slice B.oa B.on B.oc) (.slice B.ga B.gn B.gc) ⟨_, c11_⟩
    have r12 := set13_at12 _ _ (.int .i64 0) (.int .i64 D.ac) (.slice B.a B.n B.c) (.slice B.ta B.tn B.tc) (.slice B.da B.dn B.dc) (.slice B.wa B.wn B.wc) (.slice B.xa B.xn B.xc) (.int .i64 x) (.int .i64 D.cz) (.slice B.la B.ln B.lc) (.int .i64 D.dv) (.slice B.oa B.on B.oc) (.slice B.ga B.gn B.gc) ⟨_, c12_⟩
    refine bodyPost_ret (v := .agg #[.int .i64 0, .int .i64 D.ac, .slice B.a B.n B.c, .slice B.ta B.tn B.tc, .slice B.da B.dn B.dc, .slice B.wa B.wn B.wc, .slice B.xa B.xn B.xc, .int .i64 x, .int .i64 D.cz, .slice B.la B.ln B.lc, .int .i64 D.dv, .slice B.oa B.on B.oc, .slice B.ga B.gn B.gc]) (by simp [results, Tryz.results33, go_sem, r0, r1, r2, r3, r4, r5, r6, r7, r8, r9, r10, r11, r12]) rfl ⟨B, ?_, ?_, HB.out⟩
    · rw [HC.out, HX.out.1, HX.out.2]
    · rw [HX.out.2]; exact HO.out.mono (fun q hq => ⟨by have := hq.1; omega, by have := hq.2; simp; omega⟩)

end Go.Proofs.YtbfmdnnbiidlkaaGreat
