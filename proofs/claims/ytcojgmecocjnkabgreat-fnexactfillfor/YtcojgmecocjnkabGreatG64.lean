import Derived.Test.YtcojgmecocjnkabGreatG62
import Derived.Test.YtcojgmecocjnkabGreatG35
import Derived.Test.YtcojgmecocjnkabGreatG61
import Derived.Test.YtcojgmecocjnkabGreatG11
import Derived.Test.YtcojgmecocjnkabGreatG28
import Derived.Test.YtcojgmecocjnkabGreatG27
import Derived.WalkKit
import Derived.ProofKit
import Derived.OpenShut
import Derived.ShutString
import Derived.ChangeOld
import Derived.Below
import Derived.WalkSpells
import Derived.Deep.QuietTactic
import Derived.BigQuiet
import Derived.Deep.RegionWith
import Derived.Deep.WholeRow
import Derived.Deep.DeepCutAuto
import Derived.Deep.RegionHeld2
import Derived.Deep.AppendLies
import Derived.Deep.RegionLaw
namespace Go.Proofs.YtcojgmecocjnkabGreat
open Go.ChangeShapes Go.WideShapes Go.ChangeAt Go.RowKit

def ffC (D : SD) (t p : Int) : Int := if sysF D = 0 then (if p < 0 then 3 else (if t = 0 ∨ hasT D.ts.length t = true then 0 else 4)) else sysF D
def ffP (D : SD) (t : Int) : Int := pmV D.ss D.ts D.ds D.ac t
def ffV (D : SD) (t p : Int) : Int := if ffC D t p = 0 then ffP D t else 0
def ffD (D : SD) (t p : Int) : SD := if ffC D t p = 0 then { D with ls := fiL D.cz D.ls (D.ac, t, ffP D t) p } else zeroD

theorem ff_bad {D : SD} {t p : Int} (h : ffC D t p ≠ 0) : ffV D t p = 0 ∧ ffD D t p = zeroD := ⟨if_neg h, if_neg h⟩
theorem ff_ok {D : SD} {t p : Int} (h : ffC D t p = 0) : ffV D t p = ffP D t ∧ ffD D t p = { D with ls := fiL D.cz D.ls (D.ac, t, ffP D t) p } := ⟨if_pos h, if_pos h⟩

theorem ff_f {D : SD} {t p : Int} (h : sysF D ≠ 0) : ffC D t p = sysF D := if_neg h
theorem ff_p {D : SD} {t p : Int} (h : sysF D = 0) (hp : p < 0) : ffC D t p = 3 := by unfold ffC; rw [if_pos h, if_pos hp]
theorem ff_t {D : SD} {t p : Int} (h : sysF D = 0) (hp : ¬ p < 0) (ht : ¬ (t = 0 ∨ hasT D.ts.length t = true)) : ffC D t p = 4 := by unfold ffC; rw [if_pos h, if_neg hp, if_neg ht]
theorem ff_y {D : SD} {t p : Int} (h : sysF D = 0) (hp : ¬ p < 0) (ht : t = 0 ∨ hasT D.ts.length t = true) : ffC D t p = 0 := by unfold ffC; rw [if_pos h, if_neg hp, if_pos ht]

theorem hasT_in {n : Nat} {t : Int} (h : hasT n t = true) : 1 ≤ t ∧ t ≤ (n : Int) := by
  unfold hasT at h
  rw [Bool.and_eq_true] at h
  have a := of_decide_eq_true h.1
  have b := of_decide_eq_true h.2
  omega

/-- what is known where a line is filled. -/
theorem ff_known {w : World} {A : SA} {D : SD} {k : Nat} {t p : Int} (hr : RS w A D) (hf : sysF D = 0) (H : SysR A D k) (hp : ¬ p < 0) (ht : t = 0 ∨ hasT D.ts.length t = true) :
    0 ≤ t ∧ t ≤ (A.tn : Int) ∧ A.ln ≤ 6 ∧ (A.ln : Int) ≤ D.cz ∧ fiC D.cz D.ls ((k : Int), t, pmV D.ss D.ts D.ds (k : Int) t) p = 0 ∧ pmC D.ss D.ts D.ds (k : Int) t = 0 ∧ (fiL D.cz D.ls ((k : Int), t, pmV D.ss D.ts D.ds (k : Int) t) p).length ≤ 7 := by
  obtain ⟨k0, k1, k2, k3, k4, k5, k6, k7⟩ := hr.len
  have hF := (sysF_inv hf).2.2.2.2.2.1
  obtain ⟨f1, f2, f3, f4⟩ := faultC_inv hF
  have ht2 : 0 ≤ t ∧ t ≤ (A.tn : Int) := by
    rcases ht with ht | ht
    · omega
    · have := hasT_in ht; omega
  have hk := H.hk
  have hd := H.d4
  have h6 := H.t6
  have hpm := pmV_in D.ss D.ts D.ds (k : Int) t
  refine ⟨ht2.1, ht2.2, by omega, by omega, fiC_ok hF ?_ (by omega), ?_, length_fiL _ _ (by omega)⟩
  · unfold okL
    simp only [Bool.and_eq_true, decide_eq_true_eq]
    omega
  · unfold pmC
    rw [if_pos H.tf, inC_yes (by omega : k < D.ds.length), if_pos rfl]
    by_cases h0 : t = 0
    · rw [if_pos h0]
    · rw [if_neg h0]
      exact if_pos (by omega)

set_option maxRecDepth 100000 in
set_option maxHeartbeats 4000000 in
theorem specFillFor_calls (A : SA) (D : SD) (t p : Int) (w : World) (hr : RS w A D) (_ : A.ln ≤ A.lc) (hz : szY A D ≤ 1048576) :
    Calls Tryz.prog 15 #[.agg #[.slice A.a A.n A.c, .slice A.ta A.tn A.tc, .slice A.da A.dn A.dc, .slice A.wa A.wn A.wc, .slice A.xa A.xn A.xc, .int .i64 D.ac, .int .i64 D.cz, .slice A.la A.ln A.lc, .int .i64 D.dv, .slice A.oa A.on A.oc, .slice A.ga A.gn A.gc], .int .i64 t, .int .i64 p] w fun e w' => ∃ B : SA, e = .returned (.agg #[.int .i64 (ffC D t p), .int .i64 (ffV D t p), .slice B.a B.n B.c, .slice B.ta B.tn B.tc, .slice B.da B.dn B.dc, .slice B.wa B.wn B.wc, .slice B.xa B.xn B.xc, .int .i64 (ffD D t p).ac, .int .i64 (ffD D t p).cz, .slice B.la B.ln B.lc, .int .i64 (ffD D t p).dv, .slice B.oa B.on B.oc, .slice B.ga B.gn B.gc]) ∧ OY (InR w.heap.size w'.heap.size) B (ffD D t p) w' ∧ Below w.heap.size w w' := by
  have M0 := ((Mm.start w).allocC [.slice A.a A.n A.c, .slice A.ta A.tn A.tc, .slice A.da A.dn A.dc, .slice A.wa A.wn A.wc, .slice A.xa A.xn A.xc, .int .i64 D.ac, .int .i64 D.cz, .slice A.la A.ln A.lc, .int .i64 D.dv, .slice A.oa A.on A.oc, .slice A.ga A.gn A.gc] 53).allocC [.int .i64 0, .int .i64 0, .slice none 0 0, .slice none 0 0, .slice none 0 0, .slice none 0 0, .slice none 0 0, .int .i64 0, .int .i64 0, .slice none 0 0, .int .i64 0, .slice none 0 0, .slice none 0 0] 64
  simp only [World.size_alloc] at M0
  go_enter Tryz.func15, Tryz.ntmps15
  go_wp2_with fail
  refine (l7Fault_calls w.heap.size A D _ (M0.get 1 rfl) (hr.below M0.bel (Nat.le_refl _))).mono ?_
  rintro e w1 ⟨rfl, g1⟩
  have M1 := M0.below g1
  have z1 : w.heap.size + 2 ≤ w1.heap.size := by have := g1.size; simpa using this
  clear g1 M0
  by_cases hf : sysF D = 0
  rotate_left
  · have HC := hide (ff_f (t := t) (p := p) hf)
    have HX := hide (ff_bad (D := D) (t := t) (p := p) (by rw [HC.out]; exact hf))
    have hne : (sysF D != 0) = true := by simpa using hf
    clear hf
    go_wp2_with fail
    refine (l8Bad_calls (sysF D) _).mono ?_
    rintro e wz ⟨rfl, gz⟩
    have Mz := M1.below gz
    clear gz M1
    have c0_ := (Mz.get 0 rfl).cell 0 rfl
    have f0_ := (Mz.get 0 rfl).fz 0 (by simp)
    have c1_ := (Mz.get 0 rfl).cell 1 rfl
    have f1_ := (Mz.get 0 rfl).fz 1 (by simp)
    have c2_ := (Mz.get 0 rfl).cell 2 rfl
    have f2_ := (Mz.get 0 rfl).fz 2 (by simp)
    have c3_ := (Mz.get 0 rfl).cell 3 rfl
    have f3_ := (Mz.get 0 rfl).fz 3 (by simp)
    have c4_ := (Mz.get 0 rfl).cell 4 rfl
    have f4_ := (Mz.get 0 rfl).fz 4 (by simp)
    have c5_ := (Mz.get 0 rfl).cell 5 rfl
    have f5_ := (Mz.get 0 rfl).fz 5 (by simp)
    have c6_ := (Mz.get 0 rfl).cell 6 rfl
    have f6_ := (Mz.get 0 rfl).fz 6 (by simp)
    have c7_ := (Mz.get 0 rfl).cell 7 rfl
    have f7_ := (Mz.get 0 rfl).fz 7 (by simp)
    have c8_ := (Mz.get 0 rfl).cell 8 rfl
    have f8_ := (Mz.get 0 rfl).fz 8 (by simp)
    have c9_ := (Mz.get 0 rfl).cell 9 rfl
    have f9_ := (Mz.get 0 rfl).fz 9 (by simp)
    have c10_ := (Mz.get 0 rfl).cell 10 rfl
    have f10_ := (Mz.get 0 rfl).fz 10 (by simp)
    have c11_ := (Mz.get 0 rfl).cell 11 rfl
    have f11_ := (Mz.get 0 rfl).fz 11 (by simp)
    have c12_ := (Mz.get 0 rfl).cell 12 rfl
    have f12_ := (Mz.get 0 rfl).fz 12 (by simp)
    have HB := hide (below_set13 Mz.bel (P := w.heap.size + 1) (by omega) (.int .i64 (sysF D)) (.int .i64 0) (.slice none 0 0) (.slice none 0 0) (.slice none 0 0) (.slice none 0 0) (.slice none 0 0) (.int .i64 0) (.int .i64 0) (.slice none 0 0) (.int .i64 0) (.slice none 0 0) (.slice none 0 0))
    clear Mz
    go_wp2
    have r0 := set13_at0 _ _ (.int .i64 (sysF D)) (.int .i64 0) (.slice none 0 0) (.slice none 0 0) (.slice none 0 0) (.slice none 0 0) (.slice none 0 0) (.int .i64 0) (.int .i64 0) (.slice none 0 0) (.int .i64 0) (.slice none 0 0) (.slice none 0 0) ⟨_, c0_⟩
    have r1 := set13_at1 _ _ (.int .i64 (sysF D)) (.int .i64 0) (.slice none 0 0) (.slice none 0 0) (.slice none 0 0) (.slice none 0 0) (.slice none 0 0) (.int .i64 0) (.int .i64 0) (.slice none 0 0) (.int .i64 0) (.slice none 0 0) (.slice none 0 0) ⟨_, c1_⟩
    have r2 := set13_at2 _ _ (.int .i64 (sysF D)) (.int .i64 0) (.slice none 0 0) (.slice none 0 0) (.slice none 0 0) (.slice none 0 0) (.slice none 0 0) (.int .i64 0) (.int .i64 0) (.slice none 0 0) (.int .i64 0) (.slice none 0 0) (.slice none 0 0) ⟨_, c2_⟩
    have r3 := set13_at3 _ _ (.int .i64 (sysF D)) (.int .i64 0) (.slice none 0 0) (.slice none 0 0) (.slice none 0 0) (.slice none 0 0) (.slice none 0 0) (.int .i64 0) (.int .i64 0) (.slice none 0 0) (.int .i64 0) (.slice none 0 0) (.slice none 0 0) ⟨_, c3_⟩
    have r4 := set13_at4 _ _ (.int .i64 (sysF D)) (.int .i64 0) (.slice none 0 0) (.slice none 0 0) (.slice none 0 0) (.slice none 0 0) (.slice none 0 0) (.int .i64 0) (.int .i64 0) (.slice none 0 0) (.int .i64 0) (.slice none 0 0) (.slice none 0 0) ⟨_, c4_⟩
    have r5 := set13_at5 _ _ (.int .i64 (sysF D)) (.int .i64 0) (.slice none 0 0) (.slice none 0 0) (.slice none 0 0) (.slice none 0 0) (.slice none 0 0) (.int .i64 0) (.int .i64 0) (.slice none 0 0) (.int .i64 0) (.slice none 0 0) (.slice none 0 0) ⟨_, c5_⟩
    have r6 := set13_at6 _ _ (.int .i64 (sysF D)) (.int .i64 0) (.slice none 0 0) (.slice none 0 0) (.slice none 0 0) (.slice none 0 0) (.slice none 0 0) (.int .i64 0) (.int .i64 0) (.slice none 0 0) (.int .i64 0) (.slice none 0 0) (.slice none 0 0) ⟨_, c6_⟩
    have r7 := set13_at7 _ _ (.int .i64 (sysF D)) (.int .i64 0) (.slice none 0 0) (.slice none 0 0) (.slice none 0 0) (.slice none 0 0) (.slice none 0 0) (.int .i64 0) (.int .i64 0) (.slice none 0 0) (.int .i64 0) (.slice none 0 0) (.slice none 0 0) ⟨_, c7_⟩
    have r8 := set13_at8 _ _ (.int .i64 (sysF D)) (.int .i64 0) (.slice none 0 0) (.slice none 0 0) (.slice none 0 0) (.slice none 0 0) (.slice none 0 0) (.int .i64 0) (.int .i64 0) (.slice none 0 0) (.int .i64 0) (.slice none 0 0) (.slice none 0 0) ⟨_, c8_⟩
    have r9 := set13_at9 _ _ (.int .i64 (sysF D)) (.int .i64 0) (.slice none 0 0) (.slice none 0 0) (.slice none 0 0) (.slice none 0 0) (.slice none 0 0) (.int .i64 0) (.int .i64 0) (.slice none 0 0) (.int .i64 0) (.slice none 0 0) (.slice none 0 0) ⟨_, c9_⟩
    have r10 := set13_at10 _ _ (.int .i64 (sysF D)) (.int .i64 0) (.slice none 0 0) (.slice none 0 0) (.slice none 0 0) (.slice none 0 0) (.slice none 0 0) (.int .i64 0) (.int .i64 0) (.slice none 0 0) (.int .i64 0) (.slice none 0 0) (.slice none 0 0) ⟨_, c10_⟩
    have r11 := set13_at11 _ _ (.int .i64 (sysF D)) (.int .i64 0) (.slice none 0 0) (.slice none 0 0) (.slice none 0 0) (.slice none 0 0) (.slice none 0 0) (.int .i64 0) (.int .i64 0) (.slice none 0 0) (.int .i64 0) (.slice none 0 0) (.slice none 0 0) ⟨_, c11_⟩
    have r12 := set13_at12 _ _ (.int .i64 (sysF D)) (.int .i64 0) (.slice none 0 0) (.slice none 0 0) (.slice none 0 0) (.slice none 0 0) (.slice none 0 0) (.int .i64 0) (.int .i64 0) (.slice none 0 0) (.int .i64 0) (.slice none 0 0) (.slice none 0 0) ⟨_, c12_⟩
    refine bodyPost_ret (v := .agg #[.int .i64 (sysF D), .int .i64 0, .slice none 0 0, .slice none 0 0, .slice none 0 0, .slice none 0 0, .slice none 0 0, .int .i64 0, .int .i64 0, .slice none 0 0, .int .i64 0, .slice none 0 0, .slice none 0 0]) (by simp [results, Tryz.results15, go_sem, r0, r1, r2, r3, r4, r5, r6, r7, r8, r9, r10, r11, r12]) rfl ⟨zeroA, ?_, ?_, HB.out⟩
    · rw [HC.out, HX.out.1, HX.out.2]; rfl
    · rw [HX.out.2]; exact OY.zero _ _
  have hne : (sysF D != 0) = false := by simp [hf]
  by_cases hp : p < 0
  · have HC := hide (ff_p (t := t) hf hp)
    have HX := hide (ff_bad (D := D) (t := t) (p := p) (by rw [HC.out]; decide))
    have hlt : decide (p < 0) = true := by simpa using hp
    have HF := hide hf
    clear hf
    go_wp2_with fail
    refine (l8Bad_calls 3 _).mono ?_
    rintro e wz ⟨rfl, gz⟩
    have Mz := M1.below gz
    clear gz M1
    have c0_ := (Mz.get 0 rfl).cell 0 rfl
    have f0_ := (Mz.get 0 rfl).fz 0 (by simp)
    have c1_ := (Mz.get 0 rfl).cell 1 rfl
    have f1_ := (Mz.get 0 rfl).fz 1 (by simp)
    have c2_ := (Mz.get 0 rfl).cell 2 rfl
    have f2_ := (Mz.get 0 rfl).fz 2 (by simp)
    have c3_ := (Mz.get 0 rfl).cell 3 rfl
    have f3_ := (Mz.get 0 rfl).fz 3 (by simp)
    have c4_ := (Mz.get 0 rfl).cell 4 rfl
    have f4_ := (Mz.get 0 rfl).fz 4 (by simp)
    have c5_ := (Mz.get 0 rfl).cell 5 rfl
    have f5_ := (Mz.get 0 rfl).fz 5 (by simp)
    have c6_ := (Mz.get 0 rfl).cell 6 rfl
    have f6_ := (Mz.get 0 rfl).fz 6 (by simp)
    have c7_ := (Mz.get 0 rfl).cell 7 rfl
    have f7_ := (Mz.get 0 rfl).fz 7 (by simp)
    have c8_ := (Mz.get 0 rfl).cell 8 rfl
    have f8_ := (Mz.get 0 rfl).fz 8 (by simp)
    have c9_ := (Mz.get 0 rfl).cell 9 rfl
    have f9_ := (Mz.get 0 rfl).fz 9 (by simp)
    have c10_ := (Mz.get 0 rfl).cell 10 rfl
    have f10_ := (Mz.get 0 rfl).fz 10 (by simp)
    have c11_ := (Mz.get 0 rfl).cell 11 rfl
    have f11_ := (Mz.get 0 rfl).fz 11 (by simp)
    have c12_ := (Mz.get 0 rfl).cell 12 rfl
    have f12_ := (Mz.get 0 rfl).fz 12 (by simp)
    have HB := hide (below_set13 Mz.bel (P := w.heap.size + 1) (by omega) (.int .i64 3) (.int .i64 0) (.slice none 0 0) (.slice none 0 0) (.slice none 0 0) (.slice none 0 0) (.slice none 0 0) (.int .i64 0) (.int .i64 0) (.slice none 0 0) (.int .i64 0) (.slice none 0 0) (.slice none 0 0))
    clear Mz
    go_wp2
    have r0 := set13_at0 _ _ (.int .i64 3) (.int .i64 0) (.slice none 0 0) (.slice none 0 0) (.slice none 0 0) (.slice none 0 0) (.slice none 0 0) (.int .i64 0) (.int .i64 0) (.slice none 0 0) (.int .i64 0) (.slice none 0 0) (.slice none 0 0) ⟨_, c0_⟩
    have r1 := set13_at1 _ _ (.int .i64 3) (.int .i64 0) (.slice none 0 0) (.slice none 0 0) (.slice none 0 0) (.slice none 0 0) (.slice none 0 0) (.int .i64 0) (.int .i64 0) (.slice none 0 0) (.int .i64 0) (.slice none 0 0) (.slice none 0 0) ⟨_, c1_⟩
    have r2 := set13_at2 _ _ (.int .i64 3) (.int .i64 0) (.slice none 0 0) (.slice none 0 0) (.slice none 0 0) (.slice none 0 0) (.slice none 0 0) (.int .i64 0) (.int .i64 0) (.slice none 0 0) (.int .i64 0) (.slice none 0 0) (.slice none 0 0) ⟨_, c2_⟩
    have r3 := set13_at3 _ _ (.int .i64 3) (.int .i64 0) (.slice none 0 0) (.slice none 0 0) (.slice none 0 0) (.slice none 0 0) (.slice none 0 0) (.int .i64 0) (.int .i64 0) (.slice none 0 0) (.int .i64 0) (.slice none 0 0) (.slice none 0 0) ⟨_, c3_⟩
    have r4 := set13_at4 _ _ (.int .i64 3) (.int .i64 0) (.slice none 0 0) (.slice none 0 0) (.slice none 0 0) (.slice none 0 0) (.slice none 0 0) (.int .i64 0) (.int .i64 0) (.slice none 0 0) (.int .i64 0) (.slice none 0 0) (.slice none 0 0) ⟨_, c4_⟩
    have r5 := set13_at5 _ _ (.int .i64 3) (.int .i64 0) (.slice none 0 0) (.slice none 0 0) (.slice none 0 0) (.slice none 0 0) (.slice none 0 0) (.int .i64 0) (.int .i64 0) (.slice none 0 0) (.int .i64 0) (.slice none 0 0) (.slice none 0 0) ⟨_, c5_⟩
    have r6 := set13_at6 _ _ (.int .i64 3) (.int .i64 0) (.slice none 0 0) (.slice none 0 0) (.slice none 0 0) (.slice none 0 0) (.slice none 0 0) (.int .i64 0) (.int .i64 0) (.slice none 0 0) (.int .i64 0) (.slice none 0 0) (.slice none 0 0) ⟨_, c6_⟩
    have r7 := set13_at7 _ _ (.int .i64 3) (.int .i64 0) (.slice none 0 0) (.slice none 0 0) (.slice none 0 0) (.slice none 0 0) (.slice none 0 0) (.int .i64 0) (.int .i64 0) (.slice none 0 0) (.int .i64 0) (.slice none 0 0) (.slice none 0 0) ⟨_, c7_⟩
    have r8 := set13_at8 _ _ (.int .i64 3) (.int .i64 0) (.slice none 0 0) (.slice none 0 0) (.slice none 0 0) (.slice none 0 0) (.slice none 0 0) (.int .i64 0) (.int .i64 0) (.slice none 0 0) (.int .i64 0) (.slice none 0 0) (.slice none 0 0) ⟨_, c8_⟩
    have r9 := set13_at9 _ _ (.int .i64 3) (.int .i64 0) (.slice none 0 0) (.slice none 0 0) (.slice none 0 0) (.slice none 0 0) (.slice none 0 0) (.int .i64 0) (.int .i64 0) (.slice none 0 0) (.int .i64 0) (.slice none 0 0) (.slice none 0 0) ⟨_, c9_⟩
    have r10 := set13_at10 _ _ (.int .i64 3) (.int .i64 0) (.slice none 0 0) (.slice none 0 0) (.slice none 0 0) (.slice none 0 0) (.slice none 0 0) (.int .i64 0) (.int .i64 0) (.slice none 0 0) (.int .i64 0) (.slice none 0 0) (.slice none 0 0) ⟨_, c10_⟩
    have r11 := set13_at11 _ _ (.int .i64 3) (.int .i64 0) (.slice none 0 0) (.slice none 0 0) (.slice none 0 0) (.slice none 0 0) (.slice none 0 0) (.int .i64 0) (.int .i64 0) (.slice none 0 0) (.int .i64 0) (.slice none 0 0) (.slice none 0 0) ⟨_, c11_⟩
    have r12 := set13_at12 _ _ (.int .i64 3) (.int .i64 0) (.slice none 0 0) (.slice none 0 0) (.slice none 0 0) (.slice none 0 0) (.slice none 0 0) (.int .i64 0) (.int .i64 0) (.slice none 0 0) (.int .i64 0) (.slice none 0 0) (.slice none 0 0) ⟨_, c12_⟩
    refine bodyPost_ret (v := .agg #[.int .i64 3, .int .i64 0, .slice none 0 0, .slice none 0 0, .slice none 0 0, .slice none 0 0, .slice none 0 0, .int .i64 0, .int .i64 0, .slice none 0 0, .int .i64 0, .slice none 0 0, .slice none 0 0]) (by simp [results, Tryz.results15, go_sem, r0, r1, r2, r3, r4, r5, r6, r7, r8, r9, r10, r11, r12]) rfl ⟨zeroA, ?_, ?_, HB.out⟩
    · rw [HC.out, HX.out.1, HX.out.2]; rfl
    · rw [HX.out.2]; exact OY.zero _ _
  have hlt : decide (p < 0) = false := by simpa using hp
  have htl : D.ts.length = A.tn := hr.len.2.1
  have x1 := (M1.get 1 rfl).cell 1 rfl
  by_cases ht : t = 0 ∨ hasT D.ts.length t = true
  rotate_left
  · have HC := hide (ff_t hf hp ht)
    have HX := hide (ff_bad (D := D) (t := t) (p := p) (by rw [HC.out]; decide))
    have h0 : (t != 0) = true := by have : t ≠ 0 := fun e => ht (.inl e); simpa using this
    have htg : hasT A.tn t = false := by rw [← htl]; have : ¬ hasT D.ts.length t = true := fun e => ht (.inr e); simpa using this
    clear hf ht htl
    go_wp2_with (first | (go_at_call 61; with_reducible refine (hasTag_is w.heap.size A.ta A.tn A.tc _ _ _ x1 htg).mono ?_; rintro e w' ⟨rfl, hw'⟩; rw [hw']; clear hw' w') | (go_at_call 60; fail))
    refine (l8Bad_calls 4 _).mono ?_
    rintro e wz ⟨rfl, gz⟩
    have Mz := M1.below gz
    clear gz M1 x1
    have c0_ := (Mz.get 0 rfl).cell 0 rfl
    have f0_ := (Mz.get 0 rfl).fz 0 (by simp)
    have c1_ := (Mz.get 0 rfl).cell 1 rfl
    have f1_ := (Mz.get 0 rfl).fz 1 (by simp)
    have c2_ := (Mz.get 0 rfl).cell 2 rfl
    have f2_ := (Mz.get 0 rfl).fz 2 (by simp)
    have c3_ := (Mz.get 0 rfl).cell 3 rfl
    have f3_ := (Mz.get 0 rfl).fz 3 (by simp)
    have c4_ := (Mz.get 0 rfl).cell 4 rfl
    have f4_ := (Mz.get 0 rfl).fz 4 (by simp)
    have c5_ := (Mz.get 0 rfl).cell 5 rfl
    have f5_ := (Mz.get 0 rfl).fz 5 (by simp)
    have c6_ := (Mz.get 0 rfl).cell 6 rfl
    have f6_ := (Mz.get 0 rfl).fz 6 (by simp)
    have c7_ := (Mz.get 0 rfl).cell 7 rfl
    have f7_ := (Mz.get 0 rfl).fz 7 (by simp)
    have c8_ := (Mz.get 0 rfl).cell 8 rfl
    have f8_ := (Mz.get 0 rfl).fz 8 (by simp)
    have c9_ := (Mz.get 0 rfl).cell 9 rfl
    have f9_ := (Mz.get 0 rfl).fz 9 (by simp)
    have c10_ := (Mz.get 0 rfl).cell 10 rfl
    have f10_ := (Mz.get 0 rfl).fz 10 (by simp)
    have c11_ := (Mz.get 0 rfl).cell 11 rfl
    have f11_ := (Mz.get 0 rfl).fz 11 (by simp)
    have c12_ := (Mz.get 0 rfl).cell 12 rfl
    have f12_ := (Mz.get 0 rfl).fz 12 (by simp)
    have HB := hide (below_set13 Mz.bel (P := w.heap.size + 1) (by omega) (.int .i64 4) (.int .i64 0) (.slice none 0 0) (.slice none 0 0) (.slice none 0 0) (.slice none 0 0) (.slice none 0 0) (.int .i64 0) (.int .i64 0) (.slice none 0 0) (.int .i64 0) (.slice none 0 0) (.slice none 0 0))
    clear Mz
    go_wp2
    have r0 := set13_at0 _ _ (.int .i64 4) (.int .i64 0) (.slice none 0 0) (.slice none 0 0) (.slice none 0 0) (.slice none 0 0) (.slice none 0 0) (.int .i64 0) (.int .i64 0) (.slice none 0 0) (.int .i64 0) (.slice none 0 0) (.slice none 0 0) ⟨_, c0_⟩
    have r1 := set13_at1 _ _ (.int .i64 4) (.int .i64 0) (.slice none 0 0) (.slice none 0 0) (.slice none 0 0) (.slice none 0 0) (.slice none 0 0) (.int .i64 0) (.int .i64 0) (.slice none 0 0) (.int .i64 0) (.slice none 0 0) (.slice none 0 0) ⟨_, c1_⟩
    have r2 := set13_at2 _ _ (.int .i64 4) (.int .i64 0) (.slice none 0 0) (.slice none 0 0) (.slice none 0 0) (.slice none 0 0) (.slice none 0 0) (.int .i64 0) (.int .i64 0) (.slice none 0 0) (.int .i64 0) (.slice none 0 0) (.slice none 0 0) ⟨_, c2_⟩
    have r3 := set13_at3 _ _ (.int .i64 4) (.int .i64 0) (.slice none 0 0) (.slice none 0 0) (.slice none 0 0) (.slice none 0 0) (.slice none 0 0) (.int .i64 0) (.int .i64 0) (.slice none 0 0) (.int .i64 0) (.slice none 0 0) (.slice none 0 0) ⟨_, c3_⟩
    have r4 := set13_at4 _ _ (.int .i64 4) (.int .i64 0) (.slice none 0 0) (.slice none 0 0) (.slice none 0 0) (.slice none 0 0) (.slice none 0 0) (.int .i64 0) (.int .i64 0) (.slice none 0 0) (.int .i64 0) (.slice none 0 0) (.slice none 0 0) ⟨_, c4_⟩
    have r5 := set13_at5 _ _ (.int .i64 4) (.int .i64 0) (.slice none 0 0) (.slice none 0 0) (.slice none 0 0) (.slice none 0 0) (.slice none 0 0) (.int .i64 0) (.int .i64 0) (.slice none 0 0) (.int .i64 0) (.slice none 0 0) (.slice none 0 0) ⟨_, c5_⟩
    have r6 := set13_at6 _ _ (.int .i64 4) (.int .i64 0) (.slice none 0 0) (.slice none 0 0) (.slice none 0 0) (.slice none 0 0) (.slice none 0 0) (.int .i64 0) (.int .i64 0) (.slice none 0 0) (.int .i64 0) (.slice none 0 0) (.slice none 0 0) ⟨_, c6_⟩
    have r7 := set13_at7 _ _ (.int .i64 4) (.int .i64 0) (.slice none 0 0) (.slice none 0 0) (.slice none 0 0) (.slice none 0 0) (.slice none 0 0) (.int .i64 0) (.int .i64 0) (.slice none 0 0) (.int .i64 0) (.slice none 0 0) (.slice none 0 0) ⟨_, c7_⟩
    have r8 := set13_at8 _ _ (.int .i64 4) (.int .i64 0) (.slice none 0 0) (.slice none 0 0) (.slice none 0 0) (.slice none 0 0) (.slice none 0 0) (.int .i64 0) (.int .i64 0) (.slice none 0 0) (.int .i64 0) (.slice none 0 0) (.slice none 0 0) ⟨_, c8_⟩
    have r9 := set13_at9 _ _ (.int .i64 4) (.int .i64 0) (.slice none 0 0) (.slice none 0 0) (.slice none 0 0) (.slice none 0 0) (.slice none 0 0) (.int .i64 0) (.int .i64 0) (.slice none 0 0) (.int .i64 0) (.slice none 0 0) (.slice none 0 0) ⟨_, c9_⟩
    have r10 := set13_at10 _ _ (.int .i64 4) (.int .i64 0) (.slice none 0 0) (.slice none 0 0) (.slice none 0 0) (.slice none 0 0) (.slice none 0 0) (.int .i64 0) (.int .i64 0) (.slice none 0 0) (.int .i64 0) (.slice none 0 0) (.slice none 0 0) ⟨_, c10_⟩
    have r11 := set13_at11 _ _ (.int .i64 4) (.int .i64 0) (.slice none 0 0) (.slice none 0 0) (.slice none 0 0) (.slice none 0 0) (.slice none 0 0) (.int .i64 0) (.int .i64 0) (.slice none 0 0) (.int .i64 0) (.slice none 0 0) (.slice none 0 0) ⟨_, c11_⟩
    have r12 := set13_at12 _ _ (.int .i64 4) (.int .i64 0) (.slice none 0 0) (.slice none 0 0) (.slice none 0 0) (.slice none 0 0) (.slice none 0 0) (.int .i64 0) (.int .i64 0) (.slice none 0 0) (.int .i64 0) (.slice none 0 0) (.slice none 0 0) ⟨_, c12_⟩
    refine bodyPost_ret (v := .agg #[.int .i64 4, .int .i64 0, .slice none 0 0, .slice none 0 0, .slice none 0 0, .slice none 0 0, .slice none 0 0, .int .i64 0, .int .i64 0, .slice none 0 0, .int .i64 0, .slice none 0 0, .slice none 0 0]) (by simp [results, Tryz.results15, go_sem, r0, r1, r2, r3, r4, r5, r6, r7, r8, r9, r10, r11, r12]) rfl ⟨zeroA, ?_, ?_, HB.out⟩
    · rw [HC.out, HX.out.1, HX.out.2]; rfl
    · rw [HX.out.2]; exact OY.zero _ _
  have HC := hide (ff_y hf hp ht)
  have HX := hide (ff_ok HC.out)
  obtain ⟨k, H⟩ := hr.right hf
  obtain ⟨t0, t1, l6, lz, fc, _, fl⟩ := ff_known hr hf H hp ht
  have HAC := hide H.ac
  have hsm : szY A D ≤ 1048576 := hz
  have HR := hide hr
  have HH := hide H
  have a0 := (M1.get 1 rfl).cell 0 rfl
  have a1 := (M1.get 1 rfl).cell 1 rfl
  have a2 := (M1.get 1 rfl).cell 2 rfl
  have a3 := (M1.get 1 rfl).cell 3 rfl
  have a4 := (M1.get 1 rfl).cell 4 rfl
  have a5 := (M1.get 1 rfl).cell 5 rfl
  have a6 := (M1.get 1 rfl).cell 6 rfl
  have a7 := (M1.get 1 rfl).cell 7 rfl
  have a8 := (M1.get 1 rfl).cell 8 rfl
  have a9 := (M1.get 1 rfl).cell 9 rfl
  have a10 := (M1.get 1 rfl).cell 10 rfl
  have hp0 : 0 ≤ p := by omega
  clear hf hp ht htl x1
  have hgo : (t != 0) = false ∨ ((t != 0) = true ∧ hasT A.tn t = true) := by
    by_cases h0 : t = 0
    · exact .inl (by simp [h0])
    · exact .inr ⟨by simpa using h0, by unfold hasT; rw [Bool.and_eq_true]; exact ⟨by simp; omega, by simp; omega⟩⟩
  rcases hgo with h0 | ⟨h0, htg⟩
  · go_wp2_with fail
    refine (l7Copy_O A D _ hz (HR.out.below M1.bel (Nat.le_refl _))).mono ?_
    rintro e w2 ⟨B, rfl, oy, g2⟩
    have z2 := g2.size
    have M2 := M1.below g2
    obtain ⟨u, hu⟩ : ∃ x, x = w2.alloc (.cells #[.slice B.a B.n B.c, .slice B.ta B.tn B.tc, .slice B.da B.dn B.dc, .slice B.wa B.wn B.wc, .slice B.xa B.xn B.xc, .int .i64 D.ac, .int .i64 D.cz, .slice B.la B.ln B.lc, .int .i64 D.dv, .slice B.oa B.on B.oc, .slice B.ga B.gn B.gc] 53) := ⟨_, rfl⟩
    have al : Below w2.heap.size w2 u := by rw [hu]; exact (Below.refl _ _).alloc (Nat.le_refl _) _
    have zu : u.heap.size = w2.heap.size + 1 := by rw [hu]; simp
    have Y0 : YM w2.heap.size 0 (InR w1.heap.size w2.heap.size) B D u := ⟨CsO.ofCs (by rw [hu]; exact Cs.alloc w2 [.slice B.a B.n B.c, .slice B.ta B.tn B.tc, .slice B.da B.dn B.dc, .slice B.wa B.wn B.wc, .slice B.xa B.xn B.xc, .int .i64 D.ac, .int .i64 D.cz, .slice B.la B.ln B.lc, .int .i64 D.dv, .slice B.oa B.on B.oc, .slice B.ga B.gn B.gc] _), fun j => by rw [hu]; simp, fun h => by have := h.2; omega, by omega, OYR.loc.below al oy⟩
    have M3 := M2.below al
    have Hu := hide hu
    have b0 := (M3.get 1 rfl).cell 0 rfl
    have b1 := (M3.get 1 rfl).cell 1 rfl
    have b2 := (M3.get 1 rfl).cell 2 rfl
    have b5 := (M3.get 1 rfl).cell 5 rfl
    rw [HAC.out] at b5
    have hrt := (HR.out.below M3.bel (Nat.le_refl _)).rt
    have HP := hide (l3PermY w.heap.size A D k t u b0 b1 b2 (by omega) hrt HH.out ⟨t0, t1⟩)
    clear M1 M2 g2 oy hu hrt b0 b1 b2 a0 a1 a2 a3 a4 a5 a6 a7 a8 a9 a10
    go_upto_region 9 with fail
    rw [← Hu.out]
    go_wp2_with fail
    refine HP.out.mono ?_
    rintro e w3 ⟨rfl, g3⟩
    have z3 := g3.size
    have M4 := M3.below g3
    have Y3 := Y0.below g3
    have s3 : ∀ q, InR w1.heap.size w2.heap.size q → q < w3.heap.size := fun q hq => by have := hq.2; omega
    obtain ⟨T, hT, V, back⟩ := Y3.cache s3
    have b5 := (M4.get 1 rfl).cell 5 rfl
    rw [HAC.out] at b5
    have hBl : B.ln = A.ln := by have h1 := Y3.y.oy.rs.len.2.2.2.2.2.1; have h2 := HR.out.len.2.2.2.2.2.1; omega
    have HW := hide (l4Fill_W w3 T w2.heap.size D.cz B.la B.ln B.lc D.ls (k : Int) t (pmV D.ss D.ts D.ds (k : Int) t) p w3 (by omega) (by omega) (by omega) V)
    have HBk := hide back
    have HY3 := hide Y3
    obtain ⟨pv, hpv⟩ : ∃ x, x = pmV D.ss D.ts D.ds (k : Int) t := ⟨_, rfl⟩
    rw [← hpv] at HW fc fl
    have HPV := hide hpv
    rw [← hpv]
    clear M3 Y0 al Hu g3 V back Y3 hpv HP
    go_wp2_with fail
    refine HW.out.mono ?_
    rintro e w5 ⟨rfl, fa, fcp, V5⟩
    have hzf : szY { B with la := fa, ln := (fiL D.cz D.ls ((k : Int), t, pv) p).length, lc := fcp } { D with ls := fiL D.cz D.ls ((k : Int), t, pv) p } ≤ 1048576 := by
      have h1 := HH.out.tiny HR.out
      have h2 := HY3.out.y.oy.rs.len
      have h3 := HR.out.len
      unfold szY at h1 ⊢
      dsimp only
      omega
    obtain ⟨Y5, u5⟩ := HBk.out w5 fa _ fcp _ V5 hzf
    have z5 := u5.size
    have M5 := (M4.out (B := w1.heap.size) (T := w2.heap.size + 1) (u5.mono (fun q hq => by rcases hq with hq | hq; exact ⟨hq.1, by have := hq.2; omega⟩; subst hq; exact ⟨by omega, by omega⟩)) (by omega) (by simp) (by simp; omega)).fact OY.loc (B := w1.heap.size) (T := w5.heap.size) (Y5.y.oy.mono (fun q hq => by rcases hq with hq | hq; exact ⟨hq.1, by have := hq.2; omega⟩; exact ⟨by have := hq.1; omega, hq.2⟩))
    have e0 := Y5.cs.cell 0 rfl
    have e1 := Y5.cs.cell 1 rfl
    have e2 := Y5.cs.cell 2 rfl
    have e3 := Y5.cs.cell 3 rfl
    have e4 := Y5.cs.cell 4 rfl
    have e5 := Y5.cs.cell 5 rfl
    have e6 := Y5.cs.cell 6 rfl
    have e7 := Y5.cs.cell 7 rfl
    have e8 := Y5.cs.cell 8 rfl
    have e9 := Y5.cs.cell 9 rfl
    have e10 := Y5.cs.cell 10 rfl
    simp only [Nat.zero_add] at e0 e1 e2 e3 e4 e5 e6 e7 e8 e9 e10
    have c0_ := (M5.get 1 rfl).cell 0 rfl
    have f0_ := (M5.get 1 rfl).fz 0 (by simp)
    have c1_ := (M5.get 1 rfl).cell 1 rfl
    have f1_ := (M5.get 1 rfl).fz 1 (by simp)
    have c2_ := (M5.get 1 rfl).cell 2 rfl
    have f2_ := (M5.get 1 rfl).fz 2 (by simp)
    have c3_ := (M5.get 1 rfl).cell 3 rfl
    have f3_ := (M5.get 1 rfl).fz 3 (by simp)
    have c4_ := (M5.get 1 rfl).cell 4 rfl
    have f4_ := (M5.get 1 rfl).fz 4 (by simp)
    have c5_ := (M5.get 1 rfl).cell 5 rfl
    have f5_ := (M5.get 1 rfl).fz 5 (by simp)
    have c6_ := (M5.get 1 rfl).cell 6 rfl
    have f6_ := (M5.get 1 rfl).fz 6 (by simp)
    have c7_ := (M5.get 1 rfl).cell 7 rfl
    have f7_ := (M5.get 1 rfl).fz 7 (by simp)
    have c8_ := (M5.get 1 rfl).cell 8 rfl
    have f8_ := (M5.get 1 rfl).fz 8 (by simp)
    have c9_ := (M5.get 1 rfl).cell 9 rfl
    have f9_ := (M5.get 1 rfl).fz 9 (by simp)
    have c10_ := (M5.get 1 rfl).cell 10 rfl
    have f10_ := (M5.get 1 rfl).fz 10 (by simp)
    have c11_ := (M5.get 1 rfl).cell 11 rfl
    have f11_ := (M5.get 1 rfl).fz 11 (by simp)
    have c12_ := (M5.get 1 rfl).cell 12 rfl
    have f12_ := (M5.get 1 rfl).fz 12 (by simp)
    have HB := hide (below_set13 M5.bel (P := w.heap.size + 1) (by omega) (.int .i64 0) (.int .i64 pv) (.slice B.a B.n B.c) (.slice B.ta B.tn B.tc) (.slice B.da B.dn B.dc) (.slice B.wa B.wn B.wc) (.slice B.xa B.xn B.xc) (.int .i64 D.ac) (.int .i64 D.cz) (.slice fa (fiL D.cz D.ls ((k : Int), t, pv) p).length fcp) (.int .i64 D.dv) (.slice B.oa B.on B.oc) (.slice B.ga B.gn B.gc))
    have HO := hide (loc_set13 OY.loc (M5.get 0 rfl) (P := w.heap.size + 1) (fun h => by have := h.1; omega) (.int .i64 0) (.int .i64 pv) (.slice B.a B.n B.c) (.slice B.ta B.tn B.tc) (.slice B.da B.dn B.dc) (.slice B.wa B.wn B.wc) (.slice B.xa B.xn B.xc) (.int .i64 D.ac) (.int .i64 D.cz) (.slice fa (fiL D.cz D.ls ((k : Int), t, pv) p).length fcp) (.int .i64 D.dv) (.slice B.oa B.on B.oc) (.slice B.ga B.gn B.gc))
    clear M4 M5 Y5 u5 V5 HBk HW
    go_wp2
    have r0 := set13_at0 _ _ (.int .i64 0) (.int .i64 pv) (.slice B.a B.n B.c) (.slice B.ta B.tn B.tc) (.slice B.da B.dn B.dc) (.slice B.wa B.wn B.wc) (.slice B.xa B.xn B.xc) (.int .i64 D.ac) (.int .i64 D.cz) (.slice fa (fiL D.cz D.ls ((k : Int), t, pv) p).length fcp) (.int .i64 D.dv) (.slice B.oa B.on B.oc) (.slice B.ga B.gn B.gc) ⟨_, c0_⟩
    have r1 := set13_at1 _ _ (.int .i64 0) (.int .i64 pv) (.slice B.a B.n B.c) (.slice B.ta B.tn B.tc) (.slice B.da B.dn B.dc) (.slice B.wa B.wn B.wc) (.slice B.xa B.xn B.xc) (.int .i64 D.ac) (.int .i64 D.cz) (.slice fa (fiL D.cz D.ls ((k : Int), t, pv) p).length fcp) (.int .i64 D.dv) (.slice B.oa B.on B.oc) (.slice B.ga B.gn B.gc) ⟨_, c1_⟩
    have r2 := set13_at2 _ _ (.int .i64 0) (.int .i64 pv) (.slice B.a B.n B.c) (.slice B.ta B.tn B.tc) (.slice B.da B.dn B.dc) (.slice B.wa B.wn B.wc) (.slice B.xa B.xn B.xc) (.int .i64 D.ac) (.int .i64 D.cz) (.slice fa (fiL D.cz D.ls ((k : Int), t, pv) p).length fcp) (.int .i64 D.dv) (.slice B.oa B.on B.oc) (.slice B.ga B.gn B.gc) ⟨_, c2_⟩
    have r3 := set13_at3 _ _ (.int .i64 0) (.int .i64 pv) (.slice B.a B.n B.c) (.slice B.ta B.tn B.tc) (.slice B.da B.dn B.dc) (.slice B.wa B.wn B.wc) (.slice B.xa B.xn B.xc) (.int .i64 D.ac) (.int .i64 D.cz) (.slice fa (fiL D.cz D.ls ((k : Int), t, pv) p).length fcp) (.int .i64 D.dv) (.slice B.oa B.on B.oc) (.slice B.ga B.gn B.gc) ⟨_, c3_⟩
    have r4 := set13_at4 _ _ (.int .i64 0) (.int .i64 pv) (.slice B.a B.n B.c) (.slice B.ta B.tn B.tc) (.slice B.da B.dn B.dc) (.slice B.wa B.wn B.wc) (.slice B.xa B.xn B.xc) (.int .i64 D.ac) (.int .i64 D.cz) (.slice fa (fiL D.cz D.ls ((k : Int), t, pv) p).length fcp) (.int .i64 D.dv) (.slice B.oa B.on B.oc) (.slice B.ga B.gn B.gc) ⟨_, c4_⟩
    have r5 := set13_at5 _ _ (.int .i64 0) (.int .i64 pv) (.slice B.a B.n B.c) (.slice B.ta B.tn B.tc) (.slice B.da B.dn B.dc) (.slice B.wa B.wn B.wc) (.slice B.xa B.xn B.xc) (.int .i64 D.ac) (.int .i64 D.cz) (.slice fa (fiL D.cz D.ls ((k : Int), t, pv) p).length fcp) (.int .i64 D.dv) (.slice B.oa B.on B.oc) (.slice B.ga B.gn B.gc) ⟨_, c5_⟩
    have r6 := set13_at6 _ _ (.int .i64 0) (.int .i64 pv) (.slice B.a B.n B.c) (.slice B.ta B.tn B.tc) (.slice B.da B.dn B.dc) (.slice B.wa B.wn B.wc) (.slice B.xa B.xn B.xc) (.int .i64 D.ac) (.int .i64 D.cz) (.slice fa (fiL D.cz D.ls ((k : Int), t, pv) p).length fcp) (.int .i64 D.dv) (.slice B.oa B.on B.oc) (.slice B.ga B.gn B.gc) ⟨_, c6_⟩
    have r7 := set13_at7 _ _ (.int .i64 0) (.int .i64 pv) (.slice B.a B.n B.c) (.slice B.ta B.tn B.tc) (.slice B.da B.dn B.dc) (.slice B.wa B.wn B.wc) (.slice B.xa B.xn B.xc) (.int .i64 D.ac) (.int .i64 D.cz) (.slice fa (fiL D.cz D.ls ((k : Int), t, pv) p).length fcp) (.int .i64 D.dv) (.slice B.oa B.on B.oc) (.slice B.ga B.gn B.gc) ⟨_, c7_⟩
    have r8 := set13_at8 _ _ (.int .i64 0) (.int .i64 pv) (.slice B.a B.n B.c) (.slice B.ta B.tn B.tc) (.slice B.da B.dn B.dc) (.slice B.wa B.wn B.wc) (.slice B.xa B.xn B.xc) (.int .i64 D.ac) (.int .i64 D.cz) (.slice fa (fiL D.cz D.ls ((k : Int), t, pv) p).length fcp) (.int .i64 D.dv) (.slice B.oa B.on B.oc) (.slice B.ga B.gn B.gc) ⟨_, c8_⟩
    have r9 := set13_at9 _ _ (.int .i64 0) (.int .i64 pv) (.slice B.a B.n B.c) (.slice B.ta B.tn B.tc) (.slice B.da B.dn B.dc) (.slice B.wa B.wn B.wc) (.slice B.xa B.xn B.xc) (.int .i64 D.ac) (.int .i64 D.cz) (.slice fa (fiL D.cz D.ls ((k : Int), t, pv) p).length fcp) (.int .i64 D.dv) (.slice B.oa B.on B.oc) (.slice B.ga B.gn B.gc) ⟨_, c9_⟩
    have r10 := set13_at10 _ _ (.int .i64 0) (.int .i64 pv) (.slice B.a B.n B.c) (.slice B.ta B.tn B.tc) (.slice B.da B.dn B.dc) (.slice B.wa B.wn B.wc) (.slice B.xa B.xn B.xc) (.int .i64 D.ac) (.int .i64 D.cz) (.slice fa (fiL D.cz D.ls ((k : Int), t, pv) p).length fcp) (.int .i64 D.dv) (.slice B.oa B.on B.oc) (.slice B.ga B.gn B.gc) ⟨_, c10_⟩
    have r11 := set13_at11 _ _ (.int .i64 0) (.int .i64 pv) (.slice B.a B.n B.c) (.slice B.ta B.tn B.tc) (.slice B.da B.dn B.dc) (.slice B.wa B.wn B.wc) (.slice B.xa B.xn B.xc) (.int .i64 D.ac) (.int .i64 D.cz) (.slice fa (fiL D.cz D.ls ((k : Int), t, pv) p).length fcp) (.int .i64 D.dv) (.slice B.oa B.on B.oc) (.slice B.ga B.gn B.gc) ⟨_, c11_⟩
    have r12 := set13_at12 _ _ (.int .i64 0) (.int .i64 pv) (.slice B.a B.n B.c) (.slice B.ta B.tn B.tc) (.slice B.da B.dn B.dc) (.slice B.wa B.wn B.wc) (.slice B.xa B.xn B.xc) (.int .i64 D.ac) (.int .i64 D.cz) (.slice fa (fiL D.cz D.ls ((k : Int), t, pv) p).length fcp) (.int .i64 D.dv) (.slice B.oa B.on B.oc) (.slice B.ga B.gn B.gc) ⟨_, c12_⟩
    have HE : Hid (ffV D t p = pv ∧ ffD D t p = { D with ls := fiL D.cz D.ls ((k : Int), t, pv) p }) := by
      have h1 := HX.out
      have e1 : ffP D t = pv := by unfold ffP; rw [HAC.out]; exact HPV.out.symm
      have e2 : (D.ac, t, pv) = ((k : Int), t, pv) := by rw [HAC.out]
      rw [e1, e2] at h1
      exact h1
    refine bodyPost_ret (v := .agg #[.int .i64 0, .int .i64 pv, .slice B.a B.n B.c, .slice B.ta B.tn B.tc, .slice B.da B.dn B.dc, .slice B.wa B.wn B.wc, .slice B.xa B.xn B.xc, .int .i64 D.ac, .int .i64 D.cz, .slice fa (fiL D.cz D.ls ((k : Int), t, pv) p).length fcp, .int .i64 D.dv, .slice B.oa B.on B.oc, .slice B.ga B.gn B.gc]) (by simp [results, Tryz.results15, go_sem, r0, r1, r2, r3, r4, r5, r6, r7, r8, r9, r10, r11, r12]) rfl ⟨{ B with la := fa, ln := (fiL D.cz D.ls ((k : Int), t, pv) p).length, lc := fcp }, ?_, ?_, HB.out⟩
    · rw [HC.out, HE.out.1, HE.out.2]
    · rw [HE.out.2]; exact HO.out.mono (fun q hq => ⟨by have := hq.1; omega, by simpa using hq.2⟩)
  · have x1 := (M1.get 1 rfl).cell 1 rfl
    go_wp2_with (first | (go_at_call 61; with_reducible refine (hasTag_is w.heap.size A.ta A.tn A.tc _ _ _ x1 htg).mono ?_; rintro e w' ⟨rfl, hw'⟩; rw [hw']; clear hw' w') | (go_at_call 42; fail))
    clear x1
    refine (l7Copy_O A D _ hz (HR.out.below M1.bel (Nat.le_refl _))).mono ?_
    rintro e w2 ⟨B, rfl, oy, g2⟩
    have z2 := g2.size
    have M2 := M1.below g2
    obtain ⟨u, hu⟩ : ∃ x, x = w2.alloc (.cells #[.slice B.a B.n B.c, .slice B.ta B.tn B.tc, .slice B.da B.dn B.dc, .slice B.wa B.wn B.wc, .slice B.xa B.xn B.xc, .int .i64 D.ac, .int .i64 D.cz, .slice B.la B.ln B.lc, .int .i64 D.dv, .slice B.oa B.on B.oc, .slice B.ga B.gn B.gc] 53) := ⟨_, rfl⟩
    have al : Below w2.heap.size w2 u := by rw [hu]; exact (Below.refl _ _).alloc (Nat.le_refl _) _
    have zu : u.heap.size = w2.heap.size + 1 := by rw [hu]; simp
    have Y0 : YM w2.heap.size 0 (InR w1.heap.size w2.heap.size) B D u := ⟨CsO.ofCs (by rw [hu]; exact Cs.alloc w2 [.slice B.a B.n B.c, .slice B.ta B.tn B.tc, .slice B.da B.dn B.dc, .slice B.wa B.wn B.wc, .slice B.xa B.xn B.xc, .int .i64 D.ac, .int .i64 D.cz, .slice B.la B.ln B.lc, .int .i64 D.dv, .slice B.oa B.on B.oc, .slice B.ga B.gn B.gc] _), fun j => by rw [hu]; simp, fun h => by have := h.2; omega, by omega, OYR.loc.below al oy⟩
    have M3 := M2.below al
    have Hu := hide hu
    have b0 := (M3.get 1 rfl).cell 0 rfl
    have b1 := (M3.get 1 rfl).cell 1 rfl
    have b2 := (M3.get 1 rfl).cell 2 rfl
    have b5 := (M3.get 1 rfl).cell 5 rfl
    rw [HAC.out] at b5
    have hrt := (HR.out.below M3.bel (Nat.le_refl _)).rt
    have HP := hide (l3PermY w.heap.size A D k t u b0 b1 b2 (by omega) hrt HH.out ⟨t0, t1⟩)
    clear M1 M2 g2 oy hu hrt b0 b1 b2 a0 a1 a2 a3 a4 a5 a6 a7 a8 a9 a10
    go_upto_region 9 with fail
    rw [← Hu.out]
    go_wp2_with fail
    refine HP.out.mono ?_
    rintro e w3 ⟨rfl, g3⟩
    have z3 := g3.size
    have M4 := M3.below g3
    have Y3 := Y0.below g3
    have s3 : ∀ q, InR w1.heap.size w2.heap.size q → q < w3.heap.size := fun q hq => by have := hq.2; omega
    obtain ⟨T, hT, V, back⟩ := Y3.cache s3
    have b5 := (M4.get 1 rfl).cell 5 rfl
    rw [HAC.out] at b5
    have hBl : B.ln = A.ln := by have h1 := Y3.y.oy.rs.len.2.2.2.2.2.1; have h2 := HR.out.len.2.2.2.2.2.1; omega
    have HW := hide (l4Fill_W w3 T w2.heap.size D.cz B.la B.ln B.lc D.ls (k : Int) t (pmV D.ss D.ts D.ds (k : Int) t) p w3 (by omega) (by omega) (by omega) V)
    have HBk := hide back
    have HY3 := hide Y3
    obtain ⟨pv, hpv⟩ : ∃ x, x = pmV D.ss D.ts D.ds (k : Int) t := ⟨_, rfl⟩
    rw [← hpv] at HW fc fl
    have HPV := hide hpv
    rw [← hpv]
    clear M3 Y0 al Hu g3 V back Y3 hpv HP
    go_wp2_with fail
    refine HW.out.mono ?_
    rintro e w5 ⟨rfl, fa, fcp, V5⟩
    have hzf : szY { B with la := fa, ln := (fiL D.cz D.ls ((k : Int), t, pv) p).length, lc := fcp } { D with ls := fiL D.cz D.ls ((k : Int), t, pv) p } ≤ 1048576 := by
      have h1 := HH.out.tiny HR.out
      have h2 := HY3.out.y.oy.rs.len
      have h3 := HR.out.len
      unfold szY at h1 ⊢
      dsimp only
      omega
    obtain ⟨Y5, u5⟩ := HBk.out w5 fa _ fcp _ V5 hzf
    have z5 := u5.size
    have M5 := (M4.out (B := w1.heap.size) (T := w2.heap.size + 1) (u5.mono (fun q hq => by rcases hq with hq | hq; exact ⟨hq.1, by have := hq.2; omega⟩; subst hq; exact ⟨by omega, by omega⟩)) (by omega) (by simp) (by simp; omega)).fact OY.loc (B := w1.heap.size) (T := w5.heap.size) (Y5.y.oy.mono (fun q hq => by rcases hq with hq | hq; exact ⟨hq.1, by have := hq.2; omega⟩; exact ⟨by have := hq.1; omega, hq.2⟩))
    have e0 := Y5.cs.cell 0 rfl
    have e1 := Y5.cs.cell 1 rfl
    have e2 := Y5.cs.cell 2 rfl
    have e3 := Y5.cs.cell 3 rfl
    have e4 := Y5.cs.cell 4 rfl
    have e5 := Y5.cs.cell 5 rfl
    have e6 := Y5.cs.cell 6 rfl
    have e7 := Y5.cs.cell 7 rfl
    have e8 := Y5.cs.cell 8 rfl
    have e9 := Y5.cs.cell 9 rfl
    have e10 := Y5.cs.cell 10 rfl
    simp only [Nat.zero_add] at e0 e1 e2 e3 e4 e5 e6 e7 e8 e9 e10
    have c0_ := (M5.get 1 rfl).cell 0 rfl
    have f0_ := (M5.get 1 rfl).fz 0 (by simp)
    have c1_ := (M5.get 1 rfl).cell 1 rfl
    have f1_ := (M5.get 1 rfl).fz 1 (by simp)
    have c2_ := (M5.get 1 rfl).cell 2 rfl
    have f2_ := (M5.get 1 rfl).fz 2 (by simp)
    have c3_ := (M5.get 1 rfl).cell 3 rfl
    have f3_ := (M5.get 1 rfl).fz 3 (by simp)
    have c4_ := (M5.get 1 rfl).cell 4 rfl
    have f4_ := (M5.get 1 rfl).fz 4 (by simp)
    have c5_ := (M5.get 1 rfl).cell 5 rfl
    have f5_ := (M5.get 1 rfl).fz 5 (by simp)
    have c6_ := (M5.get 1 rfl).cell 6 rfl
    have f6_ := (M5.get 1 rfl).fz 6 (by simp)
    have c7_ := (M5.get 1 rfl).cell 7 rfl
    have f7_ := (M5.get 1 rfl).fz 7 (by simp)
    have c8_ := (M5.get 1 rfl).cell 8 rfl
    have f8_ := (M5.get 1 rfl).fz 8 (by simp)
    have c9_ := (M5.get 1 rfl).cell 9 rfl
    have f9_ := (M5.get 1 rfl).fz 9 (by simp)
    have c10_ := (M5.get 1 rfl).cell 10 rfl
    have f10_ := (M5.get 1 rfl).fz 10 (by simp)
    have c11_ := (M5.get 1 rfl).cell 11 rfl
    have f11_ := (M5.get 1 rfl).fz 11 (by simp)
    have c12_ := (M5.get 1 rfl).cell 12 rfl
    have f12_ := (M5.get 1 rfl).fz 12 (by simp)
    have HB := hide (below_set13 M5.bel (P := w.heap.size + 1) (by omega) (.int .i64 0) (.int .i64 pv) (.slice B.a B.n B.c) (.slice B.ta B.tn B.tc) (.slice B.da B.dn B.dc) (.slice B.wa B.wn B.wc) (.slice B.xa B.xn B.xc) (.int .i64 D.ac) (.int .i64 D.cz) (.slice fa (fiL D.cz D.ls ((k : Int), t, pv) p).length fcp) (.int .i64 D.dv) (.slice B.oa B.on B.oc) (.slice B.ga B.gn B.gc))
    have HO := hide (loc_set13 OY.loc (M5.get 0 rfl) (P := w.heap.size + 1) (fun h => by have := h.1; omega) (.int .i64 0) (.int .i64 pv) (.slice B.a B.n B.c) (.slice B.ta B.tn B.tc) (.slice B.da B.dn B.dc) (.slice B.wa B.wn B.wc) (.slice B.xa B.xn B.xc) (.int .i64 D.ac) (.int .i64 D.cz) (.slice fa (fiL D.cz D.ls ((k : Int), t, pv) p).length fcp) (.int .i64 D.dv) (.slice B.oa B.on B.oc) (.slice B.ga B.gn B.gc))
    clear M4 M5 Y5 u5 V5 HBk HW
    go_wp2
    have r0 := set13_at0 _ _ (.int .i64 0) (.int .i64 pv) (.slice B.a B.n B.c) (.slice B.ta B.tn B.tc) (.slice B.da B.dn B.dc) (.slice B.wa B.wn B.wc) (.slice B.xa B.xn B.xc) (.int .i64 D.ac) (.int .i64 D.cz) (.slice fa (fiL D.cz D.ls ((k : Int), t, pv) p).length fcp) (.int .i64 D.dv) (.slice B.oa B.on B.oc) (.slice B.ga B.gn B.gc) ⟨_, c0_⟩
    have r1 := set13_at1 _ _ (.int .i64 0) (.int .i64 pv) (.slice B.a B.n B.c) (.slice B.ta B.tn B.tc) (.slice B.da B.dn B.dc) (.slice B.wa B.wn B.wc) (.slice B.xa B.xn B.xc) (.int .i64 D.ac) (.int .i64 D.cz) (.slice fa (fiL D.cz D.ls ((k : Int), t, pv) p).length fcp) (.int .i64 D.dv) (.slice B.oa B.on B.oc) (.slice B.ga B.gn B.gc) ⟨_, c1_⟩
    have r2 := set13_at2 _ _ (.int .i64 0) (.int .i64 pv) (.slice B.a B.n B.c) (.slice B.ta B.tn B.tc) (.slice B.da B.dn B.dc) (.slice B.wa B.wn B.wc) (.slice B.xa B.xn B.xc) (.int .i64 D.ac) (.int .i64 D.cz) (.slice fa (fiL D.cz D.ls ((k : Int), t, pv) p).length fcp) (.int .i64 D.dv) (.slice B.oa B.on B.oc) (.slice B.ga B.gn B.gc) ⟨_, c2_⟩
    have r3 := set13_at3 _ _ (.int .i64 0) (.int .i64 pv) (.slice B.a B.n B.c) (.slice B.ta B.tn B.tc) (.slice B.da B.dn B.dc) (.slice B.wa B.wn B.wc) (.slice B.xa B.xn B.xc) (.int .i64 D.ac) (.int .i64 D.cz) (.slice fa (fiL D.cz D.ls ((k : Int), t, pv) p).length fcp) (.int .i64 D.dv) (.slice B.oa B.on B.oc) (.slice B.ga B.gn B.gc) ⟨_, c3_⟩
    have r4 := set13_at4 _ _ (.int .i64 0) (.int .i64 pv) (.slice B.a B.n B.c) (.slice B.ta B.tn B.tc) (.slice B.da B.dn B.dc) (.slice B.wa B.wn B.wc) (.slice B.xa B.xn B.xc) (.int .i64 D.ac) (.int .i64 D.cz) (.slice fa (fiL D.cz D.ls ((k : Int), t, pv) p).length fcp) (.int .i64 D.dv) (.slice B.oa B.on B.oc) (.slice B.ga B.gn B.gc) ⟨_, c4_⟩
    have r5 := set13_at5 _ _ (.int .i64 0) (.int .i64 pv) (.slice B.a B.n B.c) (.slice B.ta B.tn B.tc) (.slice B.da B.dn B.dc) (.slice B.wa B.wn B.wc) (.slice B.xa B.xn B.xc) (.int .i64 D.ac) (.int .i64 D.cz) (.slice fa (fiL D.cz D.ls ((k : Int), t, pv) p).length fcp) (.int .i64 D.dv) (.slice B.oa B.on B.oc) (.slice B.ga B.gn B.gc) ⟨_, c5_⟩
    have r6 := set13_at6 _ _ (.int .i64 0) (.int .i64 pv) (.slice B.a B.n B.c) (.slice B.ta B.tn B.tc) (.slice B.da B.dn B.dc) (.slice B.wa B.wn B.wc) (.slice B.xa B.xn B.xc) (.int .i64 D.ac) (.int .i64 D.cz) (.slice fa (fiL D.cz D.ls ((k : Int), t, pv) p).length fcp) (.int .i64 D.dv) (.slice B.oa B.on B.oc) (.slice B.ga B.gn B.gc) ⟨_, c6_⟩
    have r7 := set13_at7 _ _ (.int .i64 0) (.int .i64 pv) (.slice B.a B.n B.c) (.slice B.ta B.tn B.tc) (.slice B.da B.dn B.dc) (.slice B.wa B.wn B.wc) (.slice B.xa B.xn B.xc) (.int .i64 D.ac) (.int .i64 D.cz) (.slice fa (fiL D.cz D.ls ((k : Int), t, pv) p).length fcp) (.int .i64 D.dv) (.slice B.oa B.on B.oc) (.slice B.ga B.gn B.gc) ⟨_, c7_⟩
    have r8 := set13_at8 _ _ (.int .i64 0) (.int .i64 pv) (.slice B.a B.n B.c) (.slice B.ta B.tn B.tc) (.slice B.da B.dn B.dc) (.slice B.wa B.wn B.wc) (.slice B.xa B.xn B.xc) (.int .i64 D.ac) (.int .i64 D.cz) (.slice fa (fiL D.cz D.ls ((k : Int), t, pv) p).length fcp) (.int .i64 D.dv) (.slice B.oa B.on B.oc) (.slice B.ga B.gn B.gc) ⟨_, c8_⟩
    have r9 := set13_at9 _ _ (.int .i64 0) (.int .i64 pv) (.slice B.a B.n B.c) (.slice B.ta B.tn B.tc) (.slice B.da B.dn B.dc) (.slice B.wa B.wn B.wc) (.slice B.xa B.xn B.xc) (.int .i64 D.ac) (.int .i64 D.cz) (.slice fa (fiL D.cz D.ls ((k : Int), t, pv) p).length fcp) (.int .i64 D.dv) (.slice B.oa B.on B.oc) (.slice B.ga B.gn B.gc) ⟨_, c9_⟩
    have r10 := set13_at10 _ _ (.int .i64 0) (.int .i64 pv) (.slice B.a B.n B.c) (.slice B.ta B.tn B.tc) (.slice B.da B.dn B.dc) (.slice B.wa B.wn B.wc) (.slice B.xa B.xn B.xc) (.int .i64 D.ac) (.int .i64 D.cz) (.slice fa (fiL D.cz D.ls ((k : Int), t, pv) p).length fcp) (.int .i64 D.dv) (.slice B.oa B.on B.oc) (.slice B.ga B.gn B.gc) ⟨_, c10_⟩
    have r11 := set13_at11 _ _ (.int .i64 0) (.int .i64 pv) (.slice B.a B.n B.c) (.slice B.ta B.tn B.tc) (.slice B.da B.dn B.dc) (.slice B.wa B.wn B.wc) (.slice B.xa B.xn B.xc) (.int .i64 D.ac) (.int .i64 D.cz) (.slice fa (fiL D.cz D.ls ((k : Int), t, pv) p).length fcp) (.int .i64 D.dv) (.slice B.oa B.on B.oc) (.slice B.ga B.gn B.gc) ⟨_, c11_⟩
    have r12 := set13_at12 _ _ (.int .i64 0) (.int .i64 pv) (.slice B.a B.n B.c) (.slice B.ta B.tn B.tc) (.slice B.da B.dn B.dc) (.slice B.wa B.wn B.wc) (.slice B.xa B.xn B.xc) (.int .i64 D.ac) (.int .i64 D.cz) (.slice fa (fiL D.cz D.ls ((k : Int), t, pv) p).length fcp) (.int .i64 D.dv) (.slice B.oa B.on B.oc) (.slice B.ga B.gn B.gc) ⟨_, c12_⟩
    have HE : Hid (ffV D t p = pv ∧ ffD D t p = { D with ls := fiL D.cz D.ls ((k : Int), t, pv) p }) := by
      have h1 := HX.out
      have e1 : ffP D t = pv := by unfold ffP; rw [HAC.out]; exact HPV.out.symm
      have e2 : (D.ac, t, pv) = ((k : Int), t, pv) := by rw [HAC.out]
      rw [e1, e2] at h1
      exact h1
    refine bodyPost_ret (v := .agg #[.int .i64 0, .int .i64 pv, .slice B.a B.n B.c, .slice B.ta B.tn B.tc, .slice B.da B.dn B.dc, .slice B.wa B.wn B.wc, .slice B.xa B.xn B.xc, .int .i64 D.ac, .int .i64 D.cz, .slice fa (fiL D.cz D.ls ((k : Int), t, pv) p).length fcp, .int .i64 D.dv, .slice B.oa B.on B.oc, .slice B.ga B.gn B.gc]) (by simp [results, Tryz.results15, go_sem, r0, r1, r2, r3, r4, r5, r6, r7, r8, r9, r10, r11, r12]) rfl ⟨{ B with la := fa, ln := (fiL D.cz D.ls ((k : Int), t, pv) p).length, lc := fcp }, ?_, ?_, HB.out⟩
    · rw [HC.out, HE.out.1, HE.out.2]
    · rw [HE.out.2]; exact HO.out.mono (fun q hq => ⟨by have := hq.1; omega, by simpa using hq.2⟩)

end Go.Proofs.YtcojgmecocjnkabGreat
