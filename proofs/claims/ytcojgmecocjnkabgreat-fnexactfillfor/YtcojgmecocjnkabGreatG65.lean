import Derived.Test.YtcojgmecocjnkabGreatG62
import Derived.Test.YtcojgmecocjnkabGreatG64
import Derived.Test.YtcojgmecocjnkabGreatG63
import Derived.Test.YtcojgmecocjnkabGreatG25
import Derived.Test.YtcojgmecocjnkabGreatG16
import Derived.Test.YtcojgmecocjnkabGreatG27
import Derived.WalkKit
import Derived.ProofKit
import Derived.OpenShut
import Derived.ShutString
import Derived.ChangeOld
import Derived.Below
import Derived.WalkSpells
import Derived.Deep.QuietTactic
import Derived.BigQuiet
import Derived.Deep.RegionWith
import Derived.Deep.WholeRow
import Derived.Deep.DeepCutAuto
import Derived.Deep.RegionHeld2
import Derived.Deep.AppendLies
import Derived.Deep.RegionLaw
namespace Go.Proofs.YtcojgmecocjnkabGreat
open Go.ChangeShapes Go.WideShapes Go.ChangeAt Go.RowKit

def pkC (D : SD) (p : Int) : Int := if sysF D = 0 then (if p < 0 then 3 else 0) else sysF D

set_option maxRecDepth 100000 in
theorem pickFault_calls (A : SA) (D : SD) (p : Int) (w : World) (hr : RS w A D) (hk : A.ln ≤ A.lc) :
    Calls Tryz.prog 48 #[.agg #[.slice A.a A.n A.c, .slice A.ta A.tn A.tc, .slice A.da A.dn A.dc, .slice A.wa A.wn A.wc, .slice A.xa A.xn A.xc, .int .i64 D.ac, .int .i64 D.cz, .slice A.la A.ln A.lc, .int .i64 D.dv, .slice A.oa A.on A.oc, .slice A.ga A.gn A.gc], .int .i64 p] w fun e w' => e = .returned (.int .i64 (pkC D p)) ∧ Below w.heap.size w w' := by
  have M0 := (Mm.start w).allocC [.slice A.a A.n A.c, .slice A.ta A.tn A.tc, .slice A.da A.dn A.dc, .slice A.wa A.wn A.wc, .slice A.xa A.xn A.xc, .int .i64 D.ac, .int .i64 D.cz, .slice A.la A.ln A.lc, .int .i64 D.dv, .slice A.oa A.on A.oc, .slice A.ga A.gn A.gc] 53
  go_enter Tryz.func48, Tryz.ntmps48
  go_wp2_with fail
  refine (implSystemFault_calls A D _ (hr.below M0.bel (Nat.le_refl _)) hk).mono ?_
  rintro e w1 ⟨rfl, g1⟩
  have HB := hide (M0.below g1).bel
  clear M0 g1
  by_cases hf : sysF D = 0
  rotate_left
  · have HR : Hid (pkC D p = sysF D) := if_neg hf
    have hne : (sysF D != 0) = true := by simpa using hf
    clear hf
    go_wp2
    go_ret
    exact ⟨ret_int HR.out.symm, HB.out⟩
  have hne : (sysF D != 0) = false := by simp [hf]
  by_cases hp : p < 0
  · have HR : Hid (pkC D p = 3) := by show _ = _; unfold pkC; rw [if_pos hf, if_pos hp]
    clear hf
    go_wp2
    go_ret
    exact ⟨ret_int HR.out.symm, HB.out⟩
  · have HR : Hid (pkC D p = 0) := by show _ = _; unfold pkC; rw [if_pos hf, if_neg hp]
    clear hf
    go_wp2
    go_ret
    exact ⟨ret_int HR.out.symm, HB.out⟩

theorem fieldCR (c v s l : Value) (w : World) : (Instr.field 123 (.agg #[c, v, s, l]) 2).run Tryz.prog w = .ok (.agg #[s, l]) w := by kernel_rfl

theorem YM.newL {P : Nat} {S : Nat → Prop} {A : SA} {D : SD} {X w' : World} (h : YM P 0 S A D X) (hS : ∀ q, S q → q < X.heap.size) (ho : OutS (fun q => q = P) X w') {fa : Option Addr} {fn fc b2 e2 : Nat} {ls : List (Int × Int × Int)}
    (hc : CsO P 0 [.slice A.a A.n A.c, .slice A.ta A.tn A.tc, .slice A.da A.dn A.dc, .slice A.wa A.wn A.wc, .slice A.xa A.xn A.xc, .int .i64 D.ac, .int .i64 D.cz, .slice fa fn fc, .int .i64 D.dv, .slice A.oa A.on A.oc, .slice A.ga A.gn A.gc] w')
    (ol : OL (InR b2 e2) fa fn ls w') (h2 : X.heap.size ≤ b2) (h3 : e2 ≤ w'.heap.size) (hl : fn ≤ fc) (hz : szY { A with la := fa, ln := fn, lc := fc } { D with ls := ls } ≤ 1048576) :
    YC P (fun q => S q ∨ (X.heap.size ≤ q ∧ q < w'.heap.size)) { A with la := fa, ln := fn, lc := fc } { D with ls := ls } w' := by
  obtain ⟨Q, q1, q2, q3, q4, q5, q6⟩ := h.y
  have hne : ∀ i k, Q i k → k ≠ P := fun i k e e2 => h.ns (e2 ▸ q1 _ _ e)
  have hk : ∀ j k, Q j k → k < X.heap.size → w'.heap[k]? = X.heap[k]? := fun j k e hl => ho.block k hl (hne j k e)
  refine ⟨hc, fun i k => if i = 3 then InR b2 e2 k else Q i k, fun i k e => ?_, fun i j k hij e e2 => ?_, hz, hl, ?_⟩
  · simp only at e
    split at e
    · exact .inr ⟨by have := e.1; omega, by have := e.2; omega⟩
    · exact .inl (q1 _ _ e)
  · simp only at e e2
    split at e
    · rw [if_neg (by omega)] at e2
      have := hS k (q1 _ _ e2); have := e.1; omega
    · have := hS k (q1 _ _ e)
      split at e2
      · have := e2.1; omega
      · exact q2 i j k hij e e2
  · exact ⟨OT.loc X w' (fun k e hl => hk 0 k e hl) q5.t, OWd.loc X w' (fun k e hl => hk 1 k e hl) q5.m, OX.loc X w' (fun k e hl => hk 2 k e hl) q5.x, ol, OS.loc X w' (fun k e hl => hk 4 k e hl) q5.o, OWd.loc X w' (fun k e hl => hk 5 k e hl) q5.g⟩

set_option maxRecDepth 100000 in
set_option maxHeartbeats 4000000 in
theorem implFillFor_calls (A : SA) (D : SD) (t p : Int) (w : World) (hr : RS w A D) (hk : A.ln ≤ A.lc) (hz : szY A D ≤ 1048576) :
    Calls Tryz.prog 16 #[.agg #[.slice A.a A.n A.c, .slice A.ta A.tn A.tc, .slice A.da A.dn A.dc, .slice A.wa A.wn A.wc, .slice A.xa A.xn A.xc, .int .i64 D.ac, .int .i64 D.cz, .slice A.la A.ln A.lc, .int .i64 D.dv, .slice A.oa A.on A.oc, .slice A.ga A.gn A.gc], .int .i64 t, .int .i64 p] w fun e w' => ∃ B : SA, e = .returned (.agg #[.int .i64 (ffC D t p), .int .i64 (ffV D t p), .slice B.a B.n B.c, .slice B.ta B.tn B.tc, .slice B.da B.dn B.dc, .slice B.wa B.wn B.wc, .slice B.xa B.xn B.xc, .int .i64 (ffD D t p).ac, .int .i64 (ffD D t p).cz, .slice B.la B.ln B.lc, .int .i64 (ffD D t p).dv, .slice B.oa B.on B.oc, .slice B.ga B.gn B.gc]) ∧ OY (InR w.heap.size w'.heap.size) B (ffD D t p) w' ∧ Below w.heap.size w w' := by
  have M0 := ((Mm.start w).allocC [.slice A.a A.n A.c, .slice A.ta A.tn A.tc, .slice A.da A.dn A.dc, .slice A.wa A.wn A.wc, .slice A.xa A.xn A.xc, .int .i64 D.ac, .int .i64 D.cz, .slice A.la A.ln A.lc, .int .i64 D.dv, .slice A.oa A.on A.oc, .slice A.ga A.gn A.gc] 53).allocC [.int .i64 0, .int .i64 0, .slice none 0 0, .slice none 0 0, .slice none 0 0, .slice none 0 0, .slice none 0 0, .int .i64 0, .int .i64 0, .slice none 0 0, .int .i64 0, .slice none 0 0, .slice none 0 0] 64
  simp only [World.size_alloc] at M0
  go_enter Tryz.func16, Tryz.ntmps16
  go_wp2_with fail
  refine (pickFault_calls A D p _ (hr.below M0.bel (Nat.le_refl _)) hk).mono ?_
  rintro e w1 ⟨rfl, g1⟩
  have M1 := M0.below g1
  have z1 : w.heap.size + 2 ≤ w1.heap.size := by have := g1.size; simpa using this
  clear g1 M0
  by_cases hpk : pkC D p = 0
  rotate_left
  · have HC : Hid (ffC D t p = pkC D p) := by
      show _ = _
      unfold ffC pkC
      unfold pkC at hpk
      by_cases h1 : sysF D = 0
      · rw [if_pos h1] at hpk ⊢
        by_cases h2 : p < 0
        · rw [if_pos h1, if_pos h2, if_pos h2]
        · rw [if_neg h2] at hpk; exact absurd rfl hpk
      · rw [if_neg h1, if_neg h1]
    have HX := hide (ff_bad (D := D) (t := t) (p := p) (by rw [HC.out]; exact hpk))
    have hne : (pkC D p != 0) = true := by simpa using hpk
    clear hpk
    have c0_ := (M1.get 0 rfl).cell 0 rfl
    have f0_ := (M1.get 0 rfl).fz 0 (by simp)
    have c1_ := (M1.get 0 rfl).cell 1 rfl
    have f1_ := (M1.get 0 rfl).fz 1 (by simp)
    have c2_ := (M1.get 0 rfl).cell 2 rfl
    have f2_ := (M1.get 0 rfl).fz 2 (by simp)
    have c3_ := (M1.get 0 rfl).cell 3 rfl
    have f3_ := (M1.get 0 rfl).fz 3 (by simp)
    have c4_ := (M1.get 0 rfl).cell 4 rfl
    have f4_ := (M1.get 0 rfl).fz 4 (by simp)
    have c5_ := (M1.get 0 rfl).cell 5 rfl
    have f5_ := (M1.get 0 rfl).fz 5 (by simp)
    have c6_ := (M1.get 0 rfl).cell 6 rfl
    have f6_ := (M1.get 0 rfl).fz 6 (by simp)
    have c7_ := (M1.get 0 rfl).cell 7 rfl
    have f7_ := (M1.get 0 rfl).fz 7 (by simp)
    have c8_ := (M1.get 0 rfl).cell 8 rfl
    have f8_ := (M1.get 0 rfl).fz 8 (by simp)
    have c9_ := (M1.get 0 rfl).cell 9 rfl
    have f9_ := (M1.get 0 rfl).fz 9 (by simp)
    have c10_ := (M1.get 0 rfl).cell 10 rfl
    have f10_ := (M1.get 0 rfl).fz 10 (by simp)
    have c11_ := (M1.get 0 rfl).cell 11 rfl
    have f11_ := (M1.get 0 rfl).fz 11 (by simp)
    have c12_ := (M1.get 0 rfl).cell 12 rfl
    have f12_ := (M1.get 0 rfl).fz 12 (by simp)
    have HB := hide (below_set13 M1.bel (P := w.heap.size + 1) (by omega) (.int .i64 (pkC D p)) (.int .i64 0) (.slice none 0 0) (.slice none 0 0) (.slice none 0 0) (.slice none 0 0) (.slice none 0 0) (.int .i64 0) (.int .i64 0) (.slice none 0 0) (.int .i64 0) (.slice none 0 0) (.slice none 0 0))
    clear M1
    go_wp2
    have r0 := set13_at0 _ _ (.int .i64 (pkC D p)) (.int .i64 0) (.slice none 0 0) (.slice none 0 0) (.slice none 0 0) (.slice none 0 0) (.slice none 0 0) (.int .i64 0) (.int .i64 0) (.slice none 0 0) (.int .i64 0) (.slice none 0 0) (.slice none 0 0) ⟨_, c0_⟩
    have r1 := set13_at1 _ _ (.int .i64 (pkC D p)) (.int .i64 0) (.slice none 0 0) (.slice none 0 0) (.slice none 0 0) (.slice none 0 0) (.slice none 0 0) (.int .i64 0) (.int .i64 0) (.slice none 0 0) (.int .i64 0) (.slice none 0 0) (.slice none 0 0) ⟨_, c1_⟩
    have r2 := set13_at2 _ _ (.int .i64 (pkC D p)) (.int .i64 0) (.slice none 0 0) (.slice none 0 0) (.slice none 0 0) (.slice none 0 0) (.slice none 0 0) (.int .i64 0) (.int .i64 0) (.slice none 0 0) (.int .i64 0) (.slice none 0 0) (.slice none 0 0) ⟨_, c2_⟩
    have r3 := set13_at3 _ _ (.int .i64 (pkC D p)) (.int .i64 0) (.slice none 0 0) (.slice none 0 0) (.slice none 0 0) (.slice none 0 0) (.slice none 0 0) (.int .i64 0) (.int .i64 0) (.slice none 0 0) (.int .i64 0) (.slice none 0 0) (.slice none 0 0) ⟨_, c3_⟩
    have r4 := set13_at4 _ _ (.int .i64 (pkC D p)) (.int .i64 0) (.slice none 0 0) (.slice none 0 0) (.slice none 0 0) (.slice none 0 0) (.slice none 0 0) (.int .i64 0) (.int .i64 0) (.slice none 0 0) (.int .i64 0) (.slice none 0 0) (.slice none 0 0) ⟨_, c4_⟩
    have r5 := set13_at5 _ _ (.int .i64 (pkC D p)) (.int .i64 0) (.slice none 0 0) (.slice none 0 0) (.slice none 0 0) (.slice none 0 0) (.slice none 0 0) (.int .i64 0) (.int .i64 0) (.slice none 0 0) (.int .i64 0) (.slice none 0 0) (.slice none 0 0) ⟨_, c5_⟩
    have r6 := set13_at6 _ _ (.int .i64 (pkC D p)) (.int .i64 0) (.slice none 0 0) (.slice none 0 0) (.slice none 0 0) (.slice none 0 0) (.slice none 0 0) (.int .i64 0) (.int .i64 0) (.slice none 0 0) (.int .i64 0) (.slice none 0 0) (.slice none 0 0) ⟨_, c6_⟩
    have r7 := set13_at7 _ _ (.int .i64 (pkC D p)) (.int .i64 0) (.slice none 0 0) (.slice none 0 0) (.slice none 0 0) (.slice none 0 0) (.slice none 0 0) (.int .i64 0) (.int .i64 0) (.slice none 0 0) (.int .i64 0) (.slice none 0 0) (.slice none 0 0) ⟨_, c7_⟩
    have r8 := set13_at8 _ _ (.int .i64 (pkC D p)) (.int .i64 0) (.slice none 0 0) (.slice none 0 0) (.slice none 0 0) (.slice none 0 0) (.slice none 0 0) (.int .i64 0) (.int .i64 0) (.slice none 0 0) (.int .i64 0) (.slice none 0 0) (.slice none 0 0) ⟨_, c8_⟩
    have r9 := set13_at9 _ _ (.int .i64 (pkC D p)) (.int .i64 0) (.slice none 0 0) (.slice none 0 0) (.slice none 0 0) (.slice none 0 0) (.slice none 0 0) (.int .i64 0) (.int .i64 0) (.slice none 0 0) (.int .i64 0) (.slice none 0 0) (.slice none 0 0) ⟨_, c9_⟩
    have r10 := set13_at10 _ _ (.int .i64 (pkC D p)) (.int .i64 0) (.slice none 0 0) (.slice none 0 0) (.slice none 0 0) (.slice none 0 0) (.slice none 0 0) (.int .i64 0) (.int .i64 0) (.slice none 0 0) (.int .i64 0) (.slice none 0 0) (.slice none 0 0) ⟨_, c10_⟩
    have r11 := set13_at11 _ _ (.int .i64 (pkC D p)) (.int .i64 0) (.slice none 0 0) (.slice none 0 0) (.slice none 0 0) (.slice none 0 0) (.slice none 0 0) (.int .i64 0) (.int .i64 0) (.slice none 0 0) (.int .i64 0) (.slice none 0 0) (.slice none 0 0) ⟨_, c11_⟩
    have r12 := set13_at12 _ _ (.int .i64 (pkC D p)) (.int .i64 0) (.slice none 0 0) (.slice none 0 0) (.slice none 0 0) (.slice none 0 0) (.slice none 0 0) (.int .i64 0) (.int .i64 0) (.slice none 0 0) (.int .i64 0) (.slice none 0 0) (.slice none 0 0) ⟨_, c12_⟩
    refine bodyPost_ret (v := .agg #[.int .i64 (pkC D p), .int .i64 0, .slice none 0 0, .slice none 0 0, .slice none 0 0, .slice none 0 0, .slice none 0 0, .int .i64 0, .int .i64 0, .slice none 0 0, .int .i64 0, .slice none 0 0, .slice none 0 0]) (by simp [results, Tryz.results16, go_sem, r0, r1, r2, r3, r4, r5, r6, r7, r8, r9, r10, r11, r12]) rfl ⟨zeroA, ?_, ?_, HB.out⟩
    · rw [HC.out, HX.out.1, HX.out.2]; rfl
    · rw [HX.out.2]; exact OY.zero _ _
  have hf : sysF D = 0 := by
    by_cases h1 : sysF D = 0
    · exact h1
    · unfold pkC at hpk; rw [if_neg h1] at hpk; exact hpk
  have hp : ¬ p < 0 := fun h => by unfold pkC at hpk; rw [if_pos hf, if_pos h] at hpk; omega
  have hne : (pkC D p != 0) = false := by simp [hpk]
  rw [hpk]
  obtain ⟨k, H⟩ := hr.right hf
  have HAC := hide H.ac
  have HR := hide hr
  have HH := hide H
  have htl : D.ts.length = A.tn := hr.len.2.1
  have a0 := (M1.get 1 rfl).cell 0 rfl
  have a1 := (M1.get 1 rfl).cell 1 rfl
  have a2 := (M1.get 1 rfl).cell 2 rfl
  have a3 := (M1.get 1 rfl).cell 3 rfl
  have a4 := (M1.get 1 rfl).cell 4 rfl
  have a5 := (M1.get 1 rfl).cell 5 rfl
  have a6 := (M1.get 1 rfl).cell 6 rfl
  have a7 := (M1.get 1 rfl).cell 7 rfl
  have a8 := (M1.get 1 rfl).cell 8 rfl
  have a9 := (M1.get 1 rfl).cell 9 rfl
  have a10 := (M1.get 1 rfl).cell 10 rfl
  rw [HAC.out] at a5
  have HP := hide (implPermOf_calls A.a A.n A.c D.ss A.ta A.tn A.tc D.ts A.da A.dn A.dc D.ds (k : Int) t w1 (hr.below M1.bel (Nat.le_refl _)).rt)
  by_cases ht : t = 0 ∨ hasT D.ts.length t = true
  rotate_left
  · have HC := hide (ff_t hf hp ht)
    have HX := hide (ff_bad (D := D) (t := t) (p := p) (by rw [HC.out]; decide))
    have hpm : pmC D.ss D.ts D.ds (k : Int) t = 4 := by
      have hk0 := H.hk
      have h2 := hr.len.2.2.1
      unfold pmC
      rw [if_pos H.tf, inC_yes (by omega : k < D.ds.length), if_pos rfl, if_neg (fun e => ht (.inl e))]
      refine inC_no (fun h => ht (.inr ?_))
      unfold hasT
      rw [Bool.and_eq_true]
      exact ⟨by simp; omega, by simp; omega⟩
    have hpv : pmV D.ss D.ts D.ds (k : Int) t = 0 := if_neg (by rw [hpm]; decide)
    rw [hpm, hpv] at HP
    clear hf ht htl hpm hpv hr H
    go_wp2_with fail
    refine HP.out.mono ?_
    rintro e w2 ⟨rfl, g2⟩
    have z2 := g2.size
    have M2 := (M1.below g2).allocC [.int .i64 4, .int .i64 0] 120
    have i0 := (M2.get 0 rfl).cell 0 rfl
    clear M1 g2 a0 a1 a2 a3 a4 a5 a6 a7 a8 a9 a10
    have c0_ := (M2.get 1 rfl).cell 0 rfl
    have f0_ := (M2.get 1 rfl).fz 0 (by simp)
    have c1_ := (M2.get 1 rfl).cell 1 rfl
    have f1_ := (M2.get 1 rfl).fz 1 (by simp)
    have c2_ := (M2.get 1 rfl).cell 2 rfl
    have f2_ := (M2.get 1 rfl).fz 2 (by simp)
    have c3_ := (M2.get 1 rfl).cell 3 rfl
    have f3_ := (M2.get 1 rfl).fz 3 (by simp)
    have c4_ := (M2.get 1 rfl).cell 4 rfl
    have f4_ := (M2.get 1 rfl).fz 4 (by simp)
    have c5_ := (M2.get 1 rfl).cell 5 rfl
    have f5_ := (M2.get 1 rfl).fz 5 (by simp)
    have c6_ := (M2.get 1 rfl).cell 6 rfl
    have f6_ := (M2.get 1 rfl).fz 6 (by simp)
    have c7_ := (M2.get 1 rfl).cell 7 rfl
    have f7_ := (M2.get 1 rfl).fz 7 (by simp)
    have c8_ := (M2.get 1 rfl).cell 8 rfl
    have f8_ := (M2.get 1 rfl).fz 8 (by simp)
    have c9_ := (M2.get 1 rfl).cell 9 rfl
    have f9_ := (M2.get 1 rfl).fz 9 (by simp)
    have c10_ := (M2.get 1 rfl).cell 10 rfl
    have f10_ := (M2.get 1 rfl).fz 10 (by simp)
    have c11_ := (M2.get 1 rfl).cell 11 rfl
    have f11_ := (M2.get 1 rfl).fz 11 (by simp)
    have c12_ := (M2.get 1 rfl).cell 12 rfl
    have f12_ := (M2.get 1 rfl).fz 12 (by simp)
    have HB := hide (below_set13 M2.bel (P := w.heap.size + 1) (by omega) (.int .i64 4) (.int .i64 0) (.slice none 0 0) (.slice none 0 0) (.slice none 0 0) (.slice none 0 0) (.slice none 0 0) (.int .i64 0) (.int .i64 0) (.slice none 0 0) (.int .i64 0) (.slice none 0 0) (.slice none 0 0))
    clear M2
    go_wp2
    have r0 := set13_at0 _ _ (.int .i64 4) (.int .i64 0) (.slice none 0 0) (.slice none 0 0) (.slice none 0 0) (.slice none 0 0) (.slice none 0 0) (.int .i64 0) (.int .i64 0) (.slice none 0 0) (.int .i64 0) (.slice none 0 0) (.slice none 0 0) ⟨_, c0_⟩
    have r1 := set13_at1 _ _ (.int .i64 4) (.int .i64 0) (.slice none 0 0) (.slice none 0 0) (.slice none 0 0) (.slice none 0 0) (.slice none 0 0) (.int .i64 0) (.int .i64 0) (.slice none 0 0) (.int .i64 0) (.slice none 0 0) (.slice none 0 0) ⟨_, c1_⟩
    have r2 := set13_at2 _ _ (.int .i64 4) (.int .i64 0) (.slice none 0 0) (.slice none 0 0) (.slice none 0 0) (.slice none 0 0) (.slice none 0 0) (.int .i64 0) (.int .i64 0) (.slice none 0 0) (.int .i64 0) (.slice none 0 0) (.slice none 0 0) ⟨_, c2_⟩
    have r3 := set13_at3 _ _ (.int .i64 4) (.int .i64 0) (.slice none 0 0) (.slice none 0 0) (.slice none 0 0) (.slice none 0 0) (.slice none 0 0) (.int .i64 0) (.int .i64 0) (.slice none 0 0) (.int .i64 0) (.slice none 0 0) (.slice none 0 0) ⟨_, c3_⟩
    have r4 := set13_at4 _ _ (.int .i64 4) (.int .i64 0) (.slice none 0 0) (.slice none 0 0) (.slice none 0 0) (.slice none 0 0) (.slice none 0 0) (.int .i64 0) (.int .i64 0) (.slice none 0 0) (.int .i64 0) (.slice none 0 0) (.slice none 0 0) ⟨_, c4_⟩
    have r5 := set13_at5 _ _ (.int .i64 4) (.int .i64 0) (.slice none 0 0) (.slice none 0 0) (.slice none 0 0) (.slice none 0 0) (.slice none 0 0) (.int .i64 0) (.int .i64 0) (.slice none 0 0) (.int .i64 0) (.slice none 0 0) (.slice none 0 0) ⟨_, c5_⟩
    have r6 := set13_at6 _ _ (.int .i64 4) (.int .i64 0) (.slice none 0 0) (.slice none 0 0) (.slice none 0 0) (.slice none 0 0) (.slice none 0 0) (.int .i64 0) (.int .i64 0) (.slice none 0 0) (.int .i64 0) (.slice none 0 0) (.slice none 0 0) ⟨_, c6_⟩
    have r7 := set13_at7 _ _ (.int .i64 4) (.int .i64 0) (.slice none 0 0) (.slice none 0 0) (.slice none 0 0) (.slice none 0 0) (.slice none 0 0) (.int .i64 0) (.int .i64 0) (.slice none 0 0) (.int .i64 0) (.slice none 0 0) (.slice none 0 0) ⟨_, c7_⟩
    have r8 := set13_at8 _ _ (.int .i64 4) (.int .i64 0) (.slice none 0 0) (.slice none 0 0) (.slice none 0 0) (.slice none 0 0) (.slice none 0 0) (.int .i64 0) (.int .i64 0) (.slice none 0 0) (.int .i64 0) (.slice none 0 0) (.slice none 0 0) ⟨_, c8_⟩
    have r9 := set13_at9 _ _ (.int .i64 4) (.int .i64 0) (.slice none 0 0) (.slice none 0 0) (.slice none 0 0) (.slice none 0 0) (.slice none 0 0) (.int .i64 0) (.int .i64 0) (.slice none 0 0) (.int .i64 0) (.slice none 0 0) (.slice none 0 0) ⟨_, c9_⟩
    have r10 := set13_at10 _ _ (.int .i64 4) (.int .i64 0) (.slice none 0 0) (.slice none 0 0) (.slice none 0 0) (.slice none 0 0) (.slice none 0 0) (.int .i64 0) (.int .i64 0) (.slice none 0 0) (.int .i64 0) (.slice none 0 0) (.slice none 0 0) ⟨_, c10_⟩
    have r11 := set13_at11 _ _ (.int .i64 4) (.int .i64 0) (.slice none 0 0) (.slice none 0 0) (.slice none 0 0) (.slice none 0 0) (.slice none 0 0) (.int .i64 0) (.int .i64 0) (.slice none 0 0) (.int .i64 0) (.slice none 0 0) (.slice none 0 0) ⟨_, c11_⟩
    have r12 := set13_at12 _ _ (.int .i64 4) (.int .i64 0) (.slice none 0 0) (.slice none 0 0) (.slice none 0 0) (.slice none 0 0) (.slice none 0 0) (.int .i64 0) (.int .i64 0) (.slice none 0 0) (.int .i64 0) (.slice none 0 0) (.slice none 0 0) ⟨_, c12_⟩
    refine bodyPost_ret (v := .agg #[.int .i64 4, .int .i64 0, .slice none 0 0, .slice none 0 0, .slice none 0 0, .slice none 0 0, .slice none 0 0, .int .i64 0, .int .i64 0, .slice none 0 0, .int .i64 0, .slice none 0 0, .slice none 0 0]) (by simp [results, Tryz.results16, go_sem, r0, r1, r2, r3, r4, r5, r6, r7, r8, r9, r10, r11, r12]) rfl ⟨zeroA, ?_, ?_, HB.out⟩
    · rw [HC.out, HX.out.1, HX.out.2]; rfl
    · rw [HX.out.2]; exact OY.zero _ _
  have HC := hide (ff_y hf hp ht)
  have HX := hide (ff_ok HC.out)
  obtain ⟨t0, t1, l6, lz, hfc, hpm, fl⟩ := ff_known hr hf H hp ht
  obtain ⟨pv, hpv⟩ : ∃ x, x = pmV D.ss D.ts D.ds (k : Int) t := ⟨_, rfl⟩
  rw [hpm, ← hpv] at HP
  rw [← hpv] at hfc fl
  have HPV := hide hpv
  have HFC := hide hfc
  have HSM := hide (H.tiny hr)
  clear hf ht htl hpm hpv hr H hfc hpk
  go_wp2_with fail
  refine HP.out.mono ?_
  rintro e w2 ⟨rfl, g2⟩
  have z2 := g2.size
  have M2 := (M1.below g2).allocC [.int .i64 0, .int .i64 pv] 120
  obtain ⟨U, hU⟩ : ∃ x, x = w2.alloc (.cells #[.int .i64 0, .int .i64 pv] 120) := ⟨_, rfl⟩
  rw [← hU] at M2
  have zU : U.heap.size = w2.heap.size + 1 := by rw [hU]; simp
  have HU := hide hU
  have i0 := (M2.get 0 rfl).cell 0 rfl
  have i1 := (M2.get 0 rfl).cell 1 rfl
  clear M1 g2 hU HP a0 a1 a2 a3 a4 a5 a6 a7 a8 a9 a10
  have a0 := (M2.get 2 rfl).cell 0 rfl
  have a1 := (M2.get 2 rfl).cell 1 rfl
  have a2 := (M2.get 2 rfl).cell 2 rfl
  have a3 := (M2.get 2 rfl).cell 3 rfl
  have a4 := (M2.get 2 rfl).cell 4 rfl
  have a5 := (M2.get 2 rfl).cell 5 rfl
  have a6 := (M2.get 2 rfl).cell 6 rfl
  have a7 := (M2.get 2 rfl).cell 7 rfl
  have a8 := (M2.get 2 rfl).cell 8 rfl
  have a9 := (M2.get 2 rfl).cell 9 rfl
  have a10 := (M2.get 2 rfl).cell 10 rfl
  go_upto_region 5 with fail
  rw [← HU.out]
  go_wp2_with fail
  refine (copiedSystem_O A D _ hz (HR.out.below M2.bel (Nat.le_refl _))).mono ?_
  rintro e w3 ⟨B, rfl, oy, g3⟩
  have z3 := g3.size
  have M3 := M2.below g3
  obtain ⟨u, hu⟩ : ∃ x, x = w3.alloc (.cells #[.slice B.a B.n B.c, .slice B.ta B.tn B.tc, .slice B.da B.dn B.dc, .slice B.wa B.wn B.wc, .slice B.xa B.xn B.xc, .int .i64 D.ac, .int .i64 D.cz, .slice B.la B.ln B.lc, .int .i64 D.dv, .slice B.oa B.on B.oc, .slice B.ga B.gn B.gc] 53) := ⟨_, rfl⟩
  have al : Below w3.heap.size w3 u := by rw [hu]; exact (Below.refl _ _).alloc (Nat.le_refl _) _
  have zu : u.heap.size = w3.heap.size + 1 := by rw [hu]; simp
  have Y0 : YM w3.heap.size 0 (InR U.heap.size w3.heap.size) B D u := ⟨CsO.ofCs (by rw [hu]; exact Cs.alloc w3 [.slice B.a B.n B.c, .slice B.ta B.tn B.tc, .slice B.da B.dn B.dc, .slice B.wa B.wn B.wc, .slice B.xa B.xn B.xc, .int .i64 D.ac, .int .i64 D.cz, .slice B.la B.ln B.lc, .int .i64 D.dv, .slice B.oa B.on B.oc, .slice B.ga B.gn B.gc] _), fun j => by rw [hu]; simp, fun h => by have := h.2; omega, by omega, OYR.loc.below al oy⟩
  have M4 := M3.below al
  have Hu := hide hu
  have b5 := (M4.get 2 rfl).cell 5 rfl
  have b6 := (M4.get 2 rfl).cell 6 rfl
  have b7 := (M4.get 2 rfl).cell 7 rfl
  have i1 := (M4.get 0 rfl).cell 1 rfl
  rw [HAC.out] at b5
  have HFl := hide (implFillCacheC_calls D.cz A.la A.ln A.lc D.ls (k : Int) t pv p u (by unfold maxLen; omega) hk (HR.out.below M4.bel (Nat.le_refl _)).ls)
  rw [HFC.out] at HFl
  have hcv : ∀ n : Int, cV 0 n = n := fun n => if_pos rfl
  have hcl : ∀ l, cL 0 l = l := fun l => if_pos rfl
  simp only [hcv, hcl] at HFl
  have fd := fieldCR
  have HY0 := hide Y0
  clear M2 M3 g3 oy hu al Y0 hcv hcl a0 a1 a2 a3 a4 a5 a6 a7 a8 a9 a10
  go_upto_region 8 with fail
  rw [← Hu.out]
  go_wp2_with fail
  refine HFl.out.mono ?_
  rintro e w5 ⟨ra, rn, rc, rfl, hcap, ol, g5⟩
  have z5 := g5.size
  have M5 := M4.below g5
  have Y5 := HY0.out.below g5
  obtain rfl : rn = (fiL D.cz D.ls ((k : Int), t, pv) p).length := by have := ol.1; omega
  have p6 := Y5.cs.cell 6 rfl
  have p7 := Y5.cs.cell 7 rfl
  simp only [Nat.zero_add] at p6 p7
  have q6 := Y5.fz 6
  have q7 := Y5.fz 7
  obtain ⟨X, hX⟩ : ∃ x, x = (w5.setCell ⟨w3.heap.size, 6, none⟩ (.int .i64 D.cz)).setCell ⟨w3.heap.size, 7, none⟩ (.slice ra (fiL D.cz D.ls ((k : Int), t, pv) p).length rc) := ⟨_, rfl⟩
  have uX : OutS (fun q => q = w3.heap.size) w5 X := by rw [hX]; exact ((OutS.refl _ _).setCell (by rfl) _).setCell (by rfl) _
  have zX : X.heap.size = w5.heap.size := by rw [hX]; simp
  have olX : OL (InR u.heap.size w5.heap.size) ra (fiL D.cz D.ls ((k : Int), t, pv) p).length (fiL D.cz D.ls ((k : Int), t, pv) p) X := OL.loc w5 X (fun q hq hl => uX.block q hl (fun e => by have := hq.1; omega)) ol
  have hCs : CsO w3.heap.size 0 [.slice B.a B.n B.c, .slice B.ta B.tn B.tc, .slice B.da B.dn B.dc, .slice B.wa B.wn B.wc, .slice B.xa B.xn B.xc, .int .i64 D.ac, .int .i64 D.cz, .slice ra (fiL D.cz D.ls ((k : Int), t, pv) p).length rc, .int .i64 D.dv, .slice B.oa B.on B.oc, .slice B.ga B.gn B.gc] X := by
    have ot : ∀ {i : Nat} {v : Value}, i ≠ 6 → i ≠ 7 → w5.cell? ⟨w3.heap.size, 0 + i, none⟩ = some v → X.cell? ⟨w3.heap.size, 0 + i, none⟩ = some v := fun {i v} h6 h7 hv => by
      rw [hX, World.cell?_setCell_other _ _ _ _ (fun e => by injection e with _ e2; omega), World.cell?_setCell_other _ _ _ _ (fun e => by injection e with _ e2; omega)]
      exact hv
    intro i hi
    simp only [List.length_cons, List.length_nil] at hi
    rcases (by omega : i = 0 ∨ i = 1 ∨ i = 2 ∨ i = 3 ∨ i = 4 ∨ i = 5 ∨ i = 6 ∨ i = 7 ∨ i = 8 ∨ i = 9 ∨ i = 10) with rfl | rfl | rfl | rfl | rfl | rfl | rfl | rfl | rfl | rfl | rfl
    · exact ot (by decide) (by decide) (Y5.cs.cell 0 rfl)
    · exact ot (by decide) (by decide) (Y5.cs.cell 1 rfl)
    · exact ot (by decide) (by decide) (Y5.cs.cell 2 rfl)
    · exact ot (by decide) (by decide) (Y5.cs.cell 3 rfl)
    · exact ot (by decide) (by decide) (Y5.cs.cell 4 rfl)
    · exact ot (by decide) (by decide) (Y5.cs.cell 5 rfl)
    · rw [hX, World.cell?_setCell_other _ _ _ _ (fun e => by injection e with _ e2; omega)]; exact World.cell?_setCell_same _ _ _ p6
    · rw [hX]; exact World.cell?_setCell_same _ _ _ ((World.cell?_setCell_other _ _ _ _ (fun e => by injection e with _ e2; omega)).trans p7)
    · exact ot (by decide) (by decide) (Y5.cs.cell 8 rfl)
    · exact ot (by decide) (by decide) (Y5.cs.cell 9 rfl)
    · exact ot (by decide) (by decide) (Y5.cs.cell 10 rfl)
  have hzf : szY { B with la := ra, ln := (fiL D.cz D.ls ((k : Int), t, pv) p).length, lc := rc } { D with ls := fiL D.cz D.ls ((k : Int), t, pv) p } ≤ 1048576 := by
    have h1 := HSM.out
    have h2 := HY0.out.y.oy.rs.len
    have h3 := HR.out.len
    unfold szY at h1 ⊢
    dsimp only
    omega
  have uU : OutS (fun q => q = w3.heap.size) u X := (OutS.of_below g5).trans uX
  have yc := HY0.out.newL (fun q hq => by have := hq.2; omega) uU hCs olX (Nat.le_refl _) (by omega) hcap hzf
  have M6 := (M5.out (B := U.heap.size) (T := w3.heap.size + 1) (uX.mono (fun q hq => by subst hq; exact ⟨by omega, by omega⟩)) (by omega) (by simp) (by simp; omega)).fact OY.loc (B := U.heap.size) (T := X.heap.size) (yc.oy.mono (fun q hq => by rcases hq with hq | hq; exact ⟨hq.1, by have := hq.2; omega⟩; exact ⟨by have := hq.1; omega, hq.2⟩))
  have j1 := (M6.get 1 rfl).cell 1 rfl
  have HXx := hide hX
  have e0 := yc.cs.cell 0 rfl
  have e1 := yc.cs.cell 1 rfl
  have e2 := yc.cs.cell 2 rfl
  have e3 := yc.cs.cell 3 rfl
  have e4 := yc.cs.cell 4 rfl
  have e5 := yc.cs.cell 5 rfl
  have e6 := yc.cs.cell 6 rfl
  have e7 := yc.cs.cell 7 rfl
  have e8 := yc.cs.cell 8 rfl
  have e9 := yc.cs.cell 9 rfl
  have e10 := yc.cs.cell 10 rfl
  simp only [Nat.zero_add] at e0 e1 e2 e3 e4 e5 e6 e7 e8 e9 e10
  have c0_ := (M6.get 2 rfl).cell 0 rfl
  have f0_ := (M6.get 2 rfl).fz 0 (by simp)
  have c1_ := (M6.get 2 rfl).cell 1 rfl
  have f1_ := (M6.get 2 rfl).fz 1 (by simp)
  have c2_ := (M6.get 2 rfl).cell 2 rfl
  have f2_ := (M6.get 2 rfl).fz 2 (by simp)
  have c3_ := (M6.get 2 rfl).cell 3 rfl
  have f3_ := (M6.get 2 rfl).fz 3 (by simp)
  have c4_ := (M6.get 2 rfl).cell 4 rfl
  have f4_ := (M6.get 2 rfl).fz 4 (by simp)
  have c5_ := (M6.get 2 rfl).cell 5 rfl
  have f5_ := (M6.get 2 rfl).fz 5 (by simp)
  have c6_ := (M6.get 2 rfl).cell 6 rfl
  have f6_ := (M6.get 2 rfl).fz 6 (by simp)
  have c7_ := (M6.get 2 rfl).cell 7 rfl
  have f7_ := (M6.get 2 rfl).fz 7 (by simp)
  have c8_ := (M6.get 2 rfl).cell 8 rfl
  have f8_ := (M6.get 2 rfl).fz 8 (by simp)
  have c9_ := (M6.get 2 rfl).cell 9 rfl
  have f9_ := (M6.get 2 rfl).fz 9 (by simp)
  have c10_ := (M6.get 2 rfl).cell 10 rfl
  have f10_ := (M6.get 2 rfl).fz 10 (by simp)
  have c11_ := (M6.get 2 rfl).cell 11 rfl
  have f11_ := (M6.get 2 rfl).fz 11 (by simp)
  have c12_ := (M6.get 2 rfl).cell 12 rfl
  have f12_ := (M6.get 2 rfl).fz 12 (by simp)
  have HB := hide (below_set13 M6.bel (P := w.heap.size + 1) (by omega) (.int .i64 0) (.int .i64 pv) (.slice B.a B.n B.c) (.slice B.ta B.tn B.tc) (.slice B.da B.dn B.dc) (.slice B.wa B.wn B.wc) (.slice B.xa B.xn B.xc) (.int .i64 D.ac) (.int .i64 D.cz) (.slice ra (fiL D.cz D.ls ((k : Int), t, pv) p).length rc) (.int .i64 D.dv) (.slice B.oa B.on B.oc) (.slice B.ga B.gn B.gc))
  have HO := hide (loc_set13 OY.loc (M6.get 0 rfl) (P := w.heap.size + 1) (fun h => by have := h.1; omega) (.int .i64 0) (.int .i64 pv) (.slice B.a B.n B.c) (.slice B.ta B.tn B.tc) (.slice B.da B.dn B.dc) (.slice B.wa B.wn B.wc) (.slice B.xa B.xn B.xc) (.int .i64 D.ac) (.int .i64 D.cz) (.slice ra (fiL D.cz D.ls ((k : Int), t, pv) p).length rc) (.int .i64 D.dv) (.slice B.oa B.on B.oc) (.slice B.ga B.gn B.gc))
  clear M4 M5 M6 Y5 uX uU yc hCs olX ol g5 hX hzf Hu HU HFl HY0
  go_upto_region 9 with fail
  rw [← HXx.out]
  clear HXx p6 p7 q6 q7 i1 b5 b6 b7
  go_wp2
  have r0 := set13_at0 _ _ (.int .i64 0) (.int .i64 pv) (.slice B.a B.n B.c) (.slice B.ta B.tn B.tc) (.slice B.da B.dn B.dc) (.slice B.wa B.wn B.wc) (.slice B.xa B.xn B.xc) (.int .i64 D.ac) (.int .i64 D.cz) (.slice ra (fiL D.cz D.ls ((k : Int), t, pv) p).length rc) (.int .i64 D.dv) (.slice B.oa B.on B.oc) (.slice B.ga B.gn B.gc) ⟨_, c0_⟩
  have r1 := set13_at1 _ _ (.int .i64 0) (.int .i64 pv) (.slice B.a B.n B.c) (.slice B.ta B.tn B.tc) (.slice B.da B.dn B.dc) (.slice B.wa B.wn B.wc) (.slice B.xa B.xn B.xc) (.int .i64 D.ac) (.int .i64 D.cz) (.slice ra (fiL D.cz D.ls ((k : Int), t, pv) p).length rc) (.int .i64 D.dv) (.slice B.oa B.on B.oc) (.slice B.ga B.gn B.gc) ⟨_, c1_⟩
  have r2 := set13_at2 _ _ (.int .i64 0) (.int .i64 pv) (.slice B.a B.n B.c) (.slice B.ta B.tn B.tc) (.slice B.da B.dn B.dc) (.slice B.wa B.wn B.wc) (.slice B.xa B.xn B.xc) (.int .i64 D.ac) (.int .i64 D.cz) (.slice ra (fiL D.cz D.ls ((k : Int), t, pv) p).length rc) (.int .i64 D.dv) (.slice B.oa B.on B.oc) (.slice B.ga B.gn B.gc) ⟨_, c2_⟩
  have r3 := set13_at3 _ _ (.int .i64 0) (.int .i64 pv) (.slice B.a B.n B.c) (.slice B.ta B.tn B.tc) (.slice B.da B.dn B.dc) (.slice B.wa B.wn B.wc) (.slice B.xa B.xn B.xc) (.int .i64 D.ac) (.int .i64 D.cz) (.slice ra (fiL D.cz D.ls ((k : Int), t, pv) p).length rc) (.int .i64 D.dv) (.slice B.oa B.on B.oc) (.slice B.ga B.gn B.gc) ⟨_, c3_⟩
  have r4 := set13_at4 _ _ (.int .i64 0) (.int .i64 pv) (.slice B.a B.n B.c) (.slice B.ta B.tn B.tc) (.slice B.da B.dn B.dc) (.slice B.wa B.wn B.wc) (.slice B.xa B.xn B.xc) (.int .i64 D.ac) (.int .i64 D.cz) (.slice ra (fiL D.cz D.ls ((k : Int), t, pv) p).length rc) (.int .i64 D.dv) (.slice B.oa B.on B.oc) (.slice B.ga B.gn B.gc) ⟨_, c4_⟩
  have r5 := set13_at5 _ _ (.int .i64 0) (.int .i64 pv) (.slice B.a B.n B.c) (.slice B.ta B.tn B.tc) (.slice B.da B.dn B.dc) (.slice B.wa B.wn B.wc) (.slice B.xa B.xn B.xc) (.int .i64 D.ac) (.int .i64 D.cz) (.slice ra (fiL D.cz D.ls ((k : Int), t, pv) p).length rc) (.int .i64 D.dv) (.slice B.oa B.on B.oc) (.slice B.ga B.gn B.gc) ⟨_, c5_⟩
  have r6 := set13_at6 _ _ (.int .i64 0) (.int .i64 pv) (.slice B.a B.n B.c) (.slice B.ta B.tn B.tc) (.slice B.da B.dn B.dc) (.slice B.wa B.wn B.wc) (.slice B.xa B.xn B.xc) (.int .i64 D.ac) (.int .i64 D.cz) (.slice ra (fiL D.cz D.ls ((k : Int), t, pv) p).length rc) (.int .i64 D.dv) (.slice B.oa B.on B.oc) (.slice B.ga B.gn B.gc) ⟨_, c6_⟩
  have r7 := set13_at7 _ _ (.int .i64 0) (.int .i64 pv) (.slice B.a B.n B.c) (.slice B.ta B.tn B.tc) (.slice B.da B.dn B.dc) (.slice B.wa B.wn B.wc) (.slice B.xa B.xn B.xc) (.int .i64 D.ac) (.int .i64 D.cz) (.slice ra (fiL D.cz D.ls ((k : Int), t, pv) p).length rc) (.int .i64 D.dv) (.slice B.oa B.on B.oc) (.slice B.ga B.gn B.gc) ⟨_, c7_⟩
  have r8 := set13_at8 _ _ (.int .i64 0) (.int .i64 pv) (.slice B.a B.n B.c) (.slice B.ta B.tn B.tc) (.slice B.da B.dn B.dc) (.slice B.wa B.wn B.wc) (.slice B.xa B.xn B.xc) (.int .i64 D.ac) (.int .i64 D.cz) (.slice ra (fiL D.cz D.ls ((k : Int), t, pv) p).length rc) (.int .i64 D.dv) (.slice B.oa B.on B.oc) (.slice B.ga B.gn B.gc) ⟨_, c8_⟩
  have r9 := set13_at9 _ _ (.int .i64 0) (.int .i64 pv) (.slice B.a B.n B.c) (.slice B.ta B.tn B.tc) (.slice B.da B.dn B.dc) (.slice B.wa B.wn B.wc) (.slice B.xa B.xn B.xc) (.int .i64 D.ac) (.int .i64 D.cz) (.slice ra (fiL D.cz D.ls ((k : Int), t, pv) p).length rc) (.int .i64 D.dv) (.slice B.oa B.on B.oc) (.slice B.ga B.gn B.gc) ⟨_, c9_⟩
  have r10 := set13_at10 _ _ (.int .i64 0) (.int .i64 pv) (.slice B.a B.n B.c) (.slice B.ta B.tn B.tc) (.slice B.da B.dn B.dc) (.slice B.wa B.wn B.wc) (.slice B.xa B.xn B.xc) (.int .i64 D.ac) (.int .i64 D.cz) (.slice ra (fiL D.cz D.ls ((k : Int), t, pv) p).length rc) (.int .i64 D.dv) (.slice B.oa B.on B.oc) (.slice B.ga B.gn B.gc) ⟨_, c10_⟩
  have r11 := set13_at11 _ _ (.int .i64 0) (.int .i64 pv) (.slice B.a B.n B.c) (.slice B.ta B.tn B.tc) (.slice B.da B.dn B.dc) (.slice B.wa B.wn B.wc) (.slice B.xa B.xn B.xc) (.int .i64 D.ac) (.int .i64 D.cz) (.slice ra (fiL D.cz D.ls ((k : Int), t, pv) p).length rc) (.int .i64 D.dv) (.slice B.oa B.on B.oc) (.slice B.ga B.gn B.gc) ⟨_, c11_⟩
  have r12 := set13_at12 _ _ (.int .i64 0) (.int .i64 pv) (.slice B.a B.n B.c) (.slice B.ta B.tn B.tc) (.slice B.da B.dn B.dc) (.slice B.wa B.wn B.wc) (.slice B.xa B.xn B.xc) (.int .i64 D.ac) (.int .i64 D.cz) (.slice ra (fiL D.cz D.ls ((k : Int), t, pv) p).length rc) (.int .i64 D.dv) (.slice B.oa B.on B.oc) (.slice B.ga B.gn B.gc) ⟨_, c12_⟩
  have HE : Hid (ffV D t p = pv ∧ ffD D t p = { D with ls := fiL D.cz D.ls ((k : Int), t, pv) p }) := by
    have h1 := HX.out
    have e1 : ffP D t = pv := by unfold ffP; rw [HAC.out]; exact HPV.out.symm
    have e2 : (D.ac, t, pv) = ((k : Int), t, pv) := by rw [HAC.out]
    rw [e1, e2] at h1
    exact h1
  refine bodyPost_ret (v := .agg #[.int .i64 0, .int .i64 pv, .slice B.a B.n B.c, .slice B.ta B.tn B.tc, .slice B.da B.dn B.dc, .slice B.wa B.wn B.wc, .slice B.xa B.xn B.xc, .int .i64 D.ac, .int .i64 D.cz, .slice ra (fiL D.cz D.ls ((k : Int), t, pv) p).length rc, .int .i64 D.dv, .slice B.oa B.on B.oc, .slice B.ga B.gn B.gc]) (by simp [results, Tryz.results16, go_sem, r0, r1, r2, r3, r4, r5, r6, r7, r8, r9, r10, r11, r12]) rfl ⟨{ B with la := ra, ln := (fiL D.cz D.ls ((k : Int), t, pv) p).length, lc := rc }, ?_, ?_, HB.out⟩
  · rw [HC.out, HE.out.1, HE.out.2]
  · rw [HE.out.2]; exact HO.out.mono (fun q hq => ⟨by have := hq.1; omega, by simpa using hq.2⟩)

end Go.Proofs.YtcojgmecocjnkabGreat
