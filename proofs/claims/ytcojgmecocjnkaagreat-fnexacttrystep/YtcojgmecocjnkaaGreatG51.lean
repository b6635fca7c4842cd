import Derived.Test.YtcojgmecocjnkaaGreatG47
import Derived.Test.YtcojgmecocjnkaaGreatG48
import Derived.Test.YtcojgmecocjnkaaGreatG49
import Derived.Test.YtcojgmecocjnkaaGreatG50
import Derived.Test.YtcojgmecocjnkaaGreatG17
import Derived.WalkKit
import Derived.ProofKit
import Derived.OpenShut
import Derived.ShutString
import Derived.ChangeOld
import Derived.Below
import Derived.WalkSpells
import Derived.Deep.QuietTactic
import Derived.BigQuiet
import Derived.Deep.RegionWith
import Derived.Deep.WholeRow
import Derived.Deep.DeepCutAuto
import Derived.Deep.RegionHeld2
import Derived.Deep.AppendLies
import Derived.Deep.RegionLaw
namespace Go.Proofs.YtcojgmecocjnkaaGreat
open Go.ChangeShapes Go.WideShapes Go.ChangeAt Go.RowKit

theorem l7Try_calls (A : SA) (D : SD) (k : Nat) (w : World) (hr : RS w A D) (H : SysR A D k) :
    Calls Tryz.prog 35 #[.agg #[.slice A.a A.n A.c, .slice A.ta A.tn A.tc, .slice A.da A.dn A.dc, .slice A.wa A.wn A.wc, .slice A.xa A.xn A.xc, .int .i64 D.ac, .int .i64 D.cz, .slice A.la A.ln A.lc, .int .i64 D.dv, .slice A.oa A.on A.oc, .slice A.ga A.gn A.gc]] w fun e w' => ∃ B : SA, e = .returned (.agg #[.int .i64 0, .int .i64 (tyK D k), .int .i64 (tyT D k), .int .i64 (tyC D k), .slice B.a B.n B.c, .slice B.ta B.tn B.tc, .slice B.da B.dn B.dc, .slice B.wa B.wn B.wc, .slice B.xa B.xn B.xc, .int .i64 (tyD D k).ac, .int .i64 (tyD D k).cz, .slice B.la B.ln B.lc, .int .i64 (tyD D k).dv, .slice B.oa B.on B.oc, .slice B.ga B.gn B.gc]) ∧ OYR (InR w.heap.size w'.heap.size) B (tyD D k) w' ∧ Below w.heap.size w w' := by
  cases hh : (gx D.cs k).2.2 with
  | true => exact l7Try_halted A D k w hr H hh
  | false =>
    by_cases h0 : plK D (gx D.cs k).2.1 4 = 1
    · rcases doK_cases (nxD D k) k (opX D k) (ibX D k) (imX D k) with h | h | h | h
      · exact l7Try_done1 A D k w hr H hh h0 h
      · exact l7Try_done2 A D k w hr H hh h0 h
      · exact l7Try_done3 A D k w hr H hh h0 h
      · exact l7Try_done4 A D k w hr H hh h0 h
    · exact l7Try_denied A D k w hr H hh h0

def tsK (D : SD) : Int := if sysF D = 0 then tyK D D.ac.toNat else 0
def tsT (D : SD) : Int := if sysF D = 0 then tyT D D.ac.toNat else 0
def tsC (D : SD) : Int := if sysF D = 0 then tyC D D.ac.toNat else 0
def tsD (D : SD) : SD := if sysF D = 0 then tyD D D.ac.toNat else zeroD

theorem ts_bad {D : SD} (h : sysF D ≠ 0) : tsK D = 0 ∧ tsT D = 0 ∧ tsC D = 0 ∧ tsD D = zeroD := ⟨if_neg h, if_neg h, if_neg h, if_neg h⟩
theorem ts_ok {D : SD} {k : Nat} (h : sysF D = 0) (hk : D.ac = (k : Int)) : tsK D = tyK D k ∧ tsT D = tyT D k ∧ tsC D = tyC D k ∧ tsD D = tyD D k := by
  have e : D.ac.toNat = k := by omega
  unfold tsK tsT tsC tsD
  rw [if_pos h, if_pos h, if_pos h, if_pos h, e]
  exact ⟨rfl, rfl, rfl, rfl⟩

set_option maxRecDepth 100000 in
set_option maxHeartbeats 4000000 in
theorem specTryStep_calls (A : SA) (D : SD) (w : World) (hr : RS w A D) (_ : A.ln ≤ A.lc) (_ : szY A D ≤ 1048576) :
    Calls Tryz.prog 9 #[.agg #[.slice A.a A.n A.c, .slice A.ta A.tn A.tc, .slice A.da A.dn A.dc, .slice A.wa A.wn A.wc, .slice A.xa A.xn A.xc, .int .i64 D.ac, .int .i64 D.cz, .slice A.la A.ln A.lc, .int .i64 D.dv, .slice A.oa A.on A.oc, .slice A.ga A.gn A.gc]] w fun e w' => ∃ B : SA, e = .returned (.agg #[.int .i64 (sysF D), .int .i64 (tsK D), .int .i64 (tsT D), .int .i64 (tsC D), .slice B.a B.n B.c, .slice B.ta B.tn B.tc, .slice B.da B.dn B.dc, .slice B.wa B.wn B.wc, .slice B.xa B.xn B.xc, .int .i64 (tsD D).ac, .int .i64 (tsD D).cz, .slice B.la B.ln B.lc, .int .i64 (tsD D).dv, .slice B.oa B.on B.oc, .slice B.ga B.gn B.gc]) ∧ OY (InR w.heap.size w'.heap.size) B (tsD D) w' ∧ Below w.heap.size w w' := by
  have M0 := ((Mm.start w).allocC [.slice A.a A.n A.c, .slice A.ta A.tn A.tc, .slice A.da A.dn A.dc, .slice A.wa A.wn A.wc, .slice A.xa A.xn A.xc, .int .i64 D.ac, .int .i64 D.cz, .slice A.la A.ln A.lc, .int .i64 D.dv, .slice A.oa A.on A.oc, .slice A.ga A.gn A.gc] 53).allocC [.int .i64 0, .int .i64 0, .int .i64 0, .int .i64 0, .slice none 0 0, .slice none 0 0, .slice none 0 0, .slice none 0 0, .slice none 0 0, .int .i64 0, .int .i64 0, .slice none 0 0, .int .i64 0, .slice none 0 0, .slice none 0 0] 55
  simp only [World.size_alloc] at M0
  go_enter Tryz.func9, Tryz.ntmps9
  go_wp2_with fail
  refine (l7Fault_calls w.heap.size A D _ (M0.get 1 rfl) (hr.below M0.bel (Nat.le_refl _))).mono ?_
  rintro e w1 ⟨rfl, g1⟩
  have M1 := M0.below g1
  have z1 : w.heap.size + 2 ≤ w1.heap.size := by have := g1.size; simpa using this
  clear g1 M0
  by_cases hf : sysF D = 0
  rotate_left
  · have HC := hide (ts_bad hf)
    have hne : (sysF D != 0) = true := by simpa using hf
    clear hf
    have c0 := (M1.get 0 rfl).cell 0 rfl
    have f0 := (M1.get 0 rfl).fz 0 (by simp)
    have c1 := (M1.get 0 rfl).cell 1 rfl
    have f1 := (M1.get 0 rfl).fz 1 (by simp)
    have c2 := (M1.get 0 rfl).cell 2 rfl
    have f2 := (M1.get 0 rfl).fz 2 (by simp)
    have c3 := (M1.get 0 rfl).cell 3 rfl
    have f3 := (M1.get 0 rfl).fz 3 (by simp)
    have c4 := (M1.get 0 rfl).cell 4 rfl
    have f4 := (M1.get 0 rfl).fz 4 (by simp)
    have c5 := (M1.get 0 rfl).cell 5 rfl
    have f5 := (M1.get 0 rfl).fz 5 (by simp)
    have c6 := (M1.get 0 rfl).cell 6 rfl
    have f6 := (M1.get 0 rfl).fz 6 (by simp)
    have c7 := (M1.get 0 rfl).cell 7 rfl
    have f7 := (M1.get 0 rfl).fz 7 (by simp)
    have c8 := (M1.get 0 rfl).cell 8 rfl
    have f8 := (M1.get 0 rfl).fz 8 (by simp)
    have c9 := (M1.get 0 rfl).cell 9 rfl
    have f9 := (M1.get 0 rfl).fz 9 (by simp)
    have c10 := (M1.get 0 rfl).cell 10 rfl
    have f10 := (M1.get 0 rfl).fz 10 (by simp)
    have c11 := (M1.get 0 rfl).cell 11 rfl
    have f11 := (M1.get 0 rfl).fz 11 (by simp)
    have c12 := (M1.get 0 rfl).cell 12 rfl
    have f12 := (M1.get 0 rfl).fz 12 (by simp)
    have c13 := (M1.get 0 rfl).cell 13 rfl
    have f13 := (M1.get 0 rfl).fz 13 (by simp)
    have c14 := (M1.get 0 rfl).cell 14 rfl
    have f14 := (M1.get 0 rfl).fz 14 (by simp)
    have HB := hide (below_set15 M1.bel (P := w.heap.size + 1) (by omega) (.int .i64 (sysF D)) (.int .i64 0) (.int .i64 0) (.int .i64 0) (.slice none 0 0) (.slice none 0 0) (.slice none 0 0) (.slice none 0 0) (.slice none 0 0) (.int .i64 0) (.int .i64 0) (.slice none 0 0) (.int .i64 0) (.slice none 0 0) (.slice none 0 0))
    clear M1
    go_wp2
    have r0 := set15_at0 _ _ (.int .i64 (sysF D)) (.int .i64 0) (.int .i64 0) (.int .i64 0) (.slice none 0 0) (.slice none 0 0) (.slice none 0 0) (.slice none 0 0) (.slice none 0 0) (.int .i64 0) (.int .i64 0) (.slice none 0 0) (.int .i64 0) (.slice none 0 0) (.slice none 0 0) ⟨_, c0⟩
    have r1 := set15_at1 _ _ (.int .i64 (sysF D)) (.int .i64 0) (.int .i64 0) (.int .i64 0) (.slice none 0 0) (.slice none 0 0) (.slice none 0 0) (.slice none 0 0) (.slice none 0 0) (.int .i64 0) (.int .i64 0) (.slice none 0 0) (.int .i64 0) (.slice none 0 0) (.slice none 0 0) ⟨_, c1⟩
    have r2 := set15_at2 _ _ (.int .i64 (sysF D)) (.int .i64 0) (.int .i64 0) (.int .i64 0) (.slice none 0 0) (.slice none 0 0) (.slice none 0 0) (.slice none 0 0) (.slice none 0 0) (.int .i64 0) (.int .i64 0) (.slice none 0 0) (.int .i64 0) (.slice none 0 0) (.slice none 0 0) ⟨_, c2⟩
    have r3 := set15_at3 _ _ (.int .i64 (sysF D)) (.int .i64 0) (.int .i64 0) (.int .i64 0) (.slice none 0 0) (.slice none 0 0) (.slice none 0 0) (.slice none 0 0) (.slice none 0 0) (.int .i64 0) (.int .i64 0) (.slice none 0 0) (.int .i64 0) (.slice none 0 0) (.slice none 0 0) ⟨_, c3⟩
    have r4 := set15_at4 _ _ (.int .i64 (sysF D)) (.int .i64 0) (.int .i64 0) (.int .i64 0) (.slice none 0 0) (.slice none 0 0) (.slice none 0 0) (.slice none 0 0) (.slice none 0 0) (.int .i64 0) (.int .i64 0) (.slice none 0 0) (.int .i64 0) (.slice none 0 0) (.slice none 0 0) ⟨_, c4⟩
    have r5 := set15_at5 _ _ (.int .i64 (sysF D)) (.int .i64 0) (.int .i64 0) (.int .i64 0) (.slice none 0 0) (.slice none 0 0) (.slice none 0 0) (.slice none 0 0) (.slice none 0 0) (.int .i64 0) (.int .i64 0) (.slice none 0 0) (.int .i64 0) (.slice none 0 0) (.slice none 0 0) ⟨_, c5⟩
    have r6 := set15_at6 _ _ (.int .i64 (sysF D)) (.int .i64 0) (.int .i64 0) (.int .i64 0) (.slice none 0 0) (.slice none 0 0) (.slice none 0 0) (.slice none 0 0) (.slice none 0 0) (.int .i64 0) (.int .i64 0) (.slice none 0 0) (.int .i64 0) (.slice none 0 0) (.slice none 0 0) ⟨_, c6⟩
    have r7 := set15_at7 _ _ (.int .i64 (sysF D)) (.int .i64 0) (.int .i64 0) (.int .i64 0) (.slice none 0 0) (.slice none 0 0) (.slice none 0 0) (.slice none 0 0) (.slice none 0 0) (.int .i64 0) (.int .i64 0) (.slice none 0 0) (.int .i64 0) (.slice none 0 0) (.slice none 0 0) ⟨_, c7⟩
    have r8 := set15_at8 _ _ (.int .i64 (sysF D)) (.int .i64 0) (.int .i64 0) (.int .i64 0) (.slice none 0 0) (.slice none 0 0) (.slice none 0 0) (.slice none 0 0) (.slice none 0 0) (.int .i64 0) (.int .i64 0) (.slice none 0 0) (.int .i64 0) (.slice none 0 0) (.slice none 0 0) ⟨_, c8⟩
    have r9 := set15_at9 _ _ (.int .i64 (sysF D)) (.int .i64 0) (.int .i64 0) (.int .i64 0) (.slice none 0 0) (.slice none 0 0) (.slice none 0 0) (.slice none 0 0) (.slice none 0 0) (.int .i64 0) (.int .i64 0) (.slice none 0 0) (.int .i64 0) (.slice none 0 0) (.slice none 0 0) ⟨_, c9⟩
    have r10 := set15_at10 _ _ (.int .i64 (sysF D)) (.int .i64 0) (.int .i64 0) (.int .i64 0) (.slice none 0 0) (.slice none 0 0) (.slice none 0 0) (.slice none 0 0) (.slice none 0 0) (.int .i64 0) (.int .i64 0) (.slice none 0 0) (.int .i64 0) (.slice none 0 0) (.slice none 0 0) ⟨_, c10⟩
    have r11 := set15_at11 _ _ (.int .i64 (sysF D)) (.int .i64 0) (.int .i64 0) (.int .i64 0) (.slice none 0 0) (.slice none 0 0) (.slice none 0 0) (.slice none 0 0) (.slice none 0 0) (.int .i64 0) (.int .i64 0) (.slice none 0 0) (.int .i64 0) (.slice none 0 0) (.slice none 0 0) ⟨_, c11⟩
    have r12 := set15_at12 _ _ (.int .i64 (sysF D)) (.int .i64 0) (.int .i64 0) (.int .i64 0) (.slice none 0 0) (.slice none 0 0) (.slice none 0 0) (.slice none 0 0) (.slice none 0 0) (.int .i64 0) (.int .i64 0) (.slice none 0 0) (.int .i64 0) (.slice none 0 0) (.slice none 0 0) ⟨_, c12⟩
    have r13 := set15_at13 _ _ (.int .i64 (sysF D)) (.int .i64 0) (.int .i64 0) (.int .i64 0) (.slice none 0 0) (.slice none 0 0) (.slice none 0 0) (.slice none 0 0) (.slice none 0 0) (.int .i64 0) (.int .i64 0) (.slice none 0 0) (.int .i64 0) (.slice none 0 0) (.slice none 0 0) ⟨_, c13⟩
    have r14 := set15_at14 _ _ (.int .i64 (sysF D)) (.int .i64 0) (.int .i64 0) (.int .i64 0) (.slice none 0 0) (.slice none 0 0) (.slice none 0 0) (.slice none 0 0) (.slice none 0 0) (.int .i64 0) (.int .i64 0) (.slice none 0 0) (.int .i64 0) (.slice none 0 0) (.slice none 0 0) ⟨_, c14⟩
    refine bodyPost_ret (v := .agg #[.int .i64 (sysF D), .int .i64 0, .int .i64 0, .int .i64 0, .slice none 0 0, .slice none 0 0, .slice none 0 0, .slice none 0 0, .slice none 0 0, .int .i64 0, .int .i64 0, .slice none 0 0, .int .i64 0, .slice none 0 0, .slice none 0 0]) (by simp [results, Tryz.results9, go_sem, r0, r1, r2, r3, r4, r5, r6, r7, r8, r9, r10, r11, r12, r13, r14]) rfl ⟨zeroA, ?_, ?_, HB.out⟩
    · rw [HC.out.1, HC.out.2.1, HC.out.2.2.1, HC.out.2.2.2]; rfl
    · rw [HC.out.2.2.2]; exact OY.zero _ _
  obtain ⟨k, H⟩ := hr.right hf
  have HC := hide (ts_ok hf H.ac)
  have Hf := hide hf
  have hne : (sysF D != 0) = false := by simp [hf]
  have a0 := (M1.get 1 rfl).cell 0 rfl
  have a1 := (M1.get 1 rfl).cell 1 rfl
  have a2 := (M1.get 1 rfl).cell 2 rfl
  have a3 := (M1.get 1 rfl).cell 3 rfl
  have a4 := (M1.get 1 rfl).cell 4 rfl
  have a5 := (M1.get 1 rfl).cell 5 rfl
  have a6 := (M1.get 1 rfl).cell 6 rfl
  have a7 := (M1.get 1 rfl).cell 7 rfl
  have a8 := (M1.get 1 rfl).cell 8 rfl
  have a9 := (M1.get 1 rfl).cell 9 rfl
  have a10 := (M1.get 1 rfl).cell 10 rfl
  clear hf
  go_wp2_with fail
  refine (l7Try_calls A D k _ (hr.below M1.bel (Nat.le_refl _)) H).mono ?_
  rintro e w2 ⟨B, rfl, oyr, g2⟩
  have oy := oyr.oy
  have z2 := g2.size
  have M2 := M1.below g2
  obtain ⟨E, hE⟩ : ∃ x, x = tyD D k := ⟨_, rfl⟩
  obtain ⟨K, hK⟩ : ∃ x, x = tyK D k := ⟨_, rfl⟩
  obtain ⟨T, hT⟩ : ∃ x, x = tyT D k := ⟨_, rfl⟩
  obtain ⟨C, hC⟩ : ∃ x, x = tyC D k := ⟨_, rfl⟩
  rw [← hE] at oy
  simp only [← hE, ← hK, ← hT, ← hC]
  have HE := hide (And.intro hE (And.intro hK (And.intro hT hC)))
  clear hE hK hT hC g2 M1 a0 a1 a2 a3 a4 a5 a6 a7 a8 a9 a10
  have c0 := (M2.get 0 rfl).cell 0 rfl
  have f0 := (M2.get 0 rfl).fz 0 (by simp)
  have c1 := (M2.get 0 rfl).cell 1 rfl
  have f1 := (M2.get 0 rfl).fz 1 (by simp)
  have c2 := (M2.get 0 rfl).cell 2 rfl
  have f2 := (M2.get 0 rfl).fz 2 (by simp)
  have c3 := (M2.get 0 rfl).cell 3 rfl
  have f3 := (M2.get 0 rfl).fz 3 (by simp)
  have c4 := (M2.get 0 rfl).cell 4 rfl
  have f4 := (M2.get 0 rfl).fz 4 (by simp)
  have c5 := (M2.get 0 rfl).cell 5 rfl
  have f5 := (M2.get 0 rfl).fz 5 (by simp)
  have c6 := (M2.get 0 rfl).cell 6 rfl
  have f6 := (M2.get 0 rfl).fz 6 (by simp)
  have c7 := (M2.get 0 rfl).cell 7 rfl
  have f7 := (M2.get 0 rfl).fz 7 (by simp)
  have c8 := (M2.get 0 rfl).cell 8 rfl
  have f8 := (M2.get 0 rfl).fz 8 (by simp)
  have c9 := (M2.get 0 rfl).cell 9 rfl
  have f9 := (M2.get 0 rfl).fz 9 (by simp)
  have c10 := (M2.get 0 rfl).cell 10 rfl
  have f10 := (M2.get 0 rfl).fz 10 (by simp)
  have c11 := (M2.get 0 rfl).cell 11 rfl
  have f11 := (M2.get 0 rfl).fz 11 (by simp)
  have c12 := (M2.get 0 rfl).cell 12 rfl
  have f12 := (M2.get 0 rfl).fz 12 (by simp)
  have c13 := (M2.get 0 rfl).cell 13 rfl
  have f13 := (M2.get 0 rfl).fz 13 (by simp)
  have c14 := (M2.get 0 rfl).cell 14 rfl
  have f14 := (M2.get 0 rfl).fz 14 (by simp)
  have HB := hide (below_set15 M2.bel (P := w.heap.size + 1) (by omega) (.int .i64 0) (.int .i64 K) (.int .i64 T) (.int .i64 C) (.slice B.a B.n B.c) (.slice B.ta B.tn B.tc) (.slice B.da B.dn B.dc) (.slice B.wa B.wn B.wc) (.slice B.xa B.xn B.xc) (.int .i64 E.ac) (.int .i64 E.cz) (.slice B.la B.ln B.lc) (.int .i64 E.dv) (.slice B.oa B.on B.oc) (.slice B.ga B.gn B.gc))
  have HO := hide (loc_set15 OY.loc oy (P := w.heap.size + 1) (fun h => by have := h.1; omega) (.int .i64 0) (.int .i64 K) (.int .i64 T) (.int .i64 C) (.slice B.a B.n B.c) (.slice B.ta B.tn B.tc) (.slice B.da B.dn B.dc) (.slice B.wa B.wn B.wc) (.slice B.xa B.xn B.xc) (.int .i64 E.ac) (.int .i64 E.cz) (.slice B.la B.ln B.lc) (.int .i64 E.dv) (.slice B.oa B.on B.oc) (.slice B.ga B.gn B.gc))
  clear M2 oy oyr
  go_wp2
  have r0 := set15_at0 _ _ (.int .i64 0) (.int .i64 K) (.int .i64 T) (.int .i64 C) (.slice B.a B.n B.c) (.slice B.ta B.tn B.tc) (.slice B.da B.dn B.dc) (.slice B.wa B.wn B.wc) (.slice B.xa B.xn B.xc) (.int .i64 E.ac) (.int .i64 E.cz) (.slice B.la B.ln B.lc) (.int .i64 E.dv) (.slice B.oa B.on B.oc) (.slice B.ga B.gn B.gc) ⟨_, c0⟩
  have r1 := set15_at1 _ _ (.int .i64 0) (.int .i64 K) (.int .i64 T) (.int .i64 C) (.slice B.a B.n B.c) (.slice B.ta B.tn B.tc) (.slice B.da B.dn B.dc) (.slice B.wa B.wn B.wc) (.slice B.xa B.xn B.xc) (.int .i64 E.ac) (.int .i64 E.cz) (.slice B.la B.ln B.lc) (.int .i64 E.dv) (.slice B.oa B.on B.oc) (.slice B.ga B.gn B.gc) ⟨_, c1⟩
  have r2 := set15_at2 _ _ (.int .i64 0) (.int .i64 K) (.int .i64 T) (.int .i64 C) (.slice B.a B.n B.c) (.slice B.ta B.tn B.tc) (.slice B.da B.dn B.dc) (.slice B.wa B.wn B.wc) (.slice B.xa B.xn B.xc) (.int .i64 E.ac) (.int .i64 E.cz) (.slice B.la B.ln B.lc) (.int .i64 E.dv) (.slice B.oa B.on B.oc) (.slice B.ga B.gn B.gc) ⟨_, c2⟩
  have r3 := set15_at3 _ _ (.int .i64 0) (.int .i64 K) (.int .i64 T) (.int .i64 C) (.slice B.a B.n B.c) (.slice B.ta B.tn B.tc) (.slice B.da B.dn B.dc) (.slice B.wa B.wn B.wc) (.slice B.xa B.xn B.xc) (.int .i64 E.ac) (.int .i64 E.cz) (.slice B.la B.ln B.lc) (.int .i64 E.dv) (.slice B.oa B.on B.oc) (.slice B.ga B.gn B.gc) ⟨_, c3⟩
  have r4 := set15_at4 _ _ (.int .i64 0) (.int .i64 K) (.int .i64 T) (.int .i64 C) (.slice B.a B.n B.c) (.slice B.ta B.tn B.tc) (.slice B.da B.dn B.dc) (.slice B.wa B.wn B.wc) (.slice B.xa B.xn B.xc) (.int .i64 E.ac) (.int .i64 E.cz) (.slice B.la B.ln B.lc) (.int .i64 E.dv) (.slice B.oa B.on B.oc) (.slice B.ga B.gn B.gc) ⟨_, c4⟩
  have r5 := set15_at5 _ _ (.int .i64 0) (.int .i64 K) (.int .i64 T) (.int .i64 C) (.slice B.a B.n B.c) (.slice B.ta B.tn B.tc) (.slice B.da B.dn B.dc) (.slice B.wa B.wn B.wc) (.slice B.xa B.xn B.xc) (.int .i64 E.ac) (.int .i64 E.cz) (.slice B.la B.ln B.lc) (.int .i64 E.dv) (.slice B.oa B.on B.oc) (.slice B.ga B.gn B.gc) ⟨_, c5⟩
  have r6 := set15_at6 _ _ (.int .i64 0) (.int .i64 K) (.int .i64 T) (.int .i64 C) (.slice B.a B.n B.c) (.slice B.ta B.tn B.tc) (.slice B.da B.dn B.dc) (.slice B.wa B.wn B.wc) (.slice B.xa B.xn B.xc) (.int .i64 E.ac) (.int .i64 E.cz) (.slice B.la B.ln B.lc) (.int .i64 E.dv) (.slice B.oa B.on B.oc) (.slice B.ga B.gn B.gc) ⟨_, c6⟩
  have r7 := set15_at7 _ _ (.int .i64 0) (.int .i64 K) (.int .i64 T) (.int .i64 C) (.slice B.a B.n B.c) (.slice B.ta B.tn B.tc) (.slice B.da B.dn B.dc) (.slice B.wa B.wn B.wc) (.slice B.xa B.xn B.xc) (.int .i64 E.ac) (.int .i64 E.cz) (.slice B.la B.ln B.lc) (.int .i64 E.dv) (.slice B.oa B.on B.oc) (.slice B.ga B.gn B.gc) ⟨_, c7⟩
  have r8 := set15_at8 _ _ (.int .i64 0) (.int .i64 K) (.int .i64 T) (.int .i64 C) (.slice B.a B.n B.c) (.slice B.ta B.tn B.tc) (.slice B.da B.dn B.dc) (.slice B.wa B.wn B.wc) (.slice B.xa B.xn B.xc) (.int .i64 E.ac) (.int .i64 E.cz) (.slice B.la B.ln B.lc) (.int .i64 E.dv) (.slice B.oa B.on B.oc) (.slice B.ga B.gn B.gc) ⟨_, c8⟩
  have r9 := set15_at9 _ _ (.int .i64 0) (.int .i64 K) (.int .i64 T) (.int .i64 C) (.slice B.a B.n B.c) (.slice B.ta B.tn B.tc) (.slice B.da B.dn B.dc) (.slice B.wa B.wn B.wc) (.slice B.xa B.xn B.xc) (.int .i64 E.ac) (.int .i64 E.cz) (.slice B.la B.ln B.lc) (.int .i64 E.dv) (.slice B.oa B.on B.oc) (.slice B.ga B.gn B.gc) ⟨_, c9⟩
  have r10 := set15_at10 _ _ (.int .i64 0) (.int .i64 K) (.int .i64 T) (.int .i64 C) (.slice B.a B.n B.c) (.slice B.ta B.tn B.tc) (.slice B.da B.dn B.dc) (.slice B.wa B.wn B.wc) (.slice B.xa B.xn B.xc) (.int .i64 E.ac) (.int .i64 E.cz) (.slice B.la B.ln B.lc) (.int .i64 E.dv) (.slice B.oa B.on B.oc) (.slice B.ga B.gn B.gc) ⟨_, c10⟩
  have r11 := set15_at11 _ _ (.int .i64 0) (.int .i64 K) (.int .i64 T) (.int .i64 C) (.slice B.a B.n B.c) (.slice B.ta B.tn B.tc) (.slice B.da B.dn B.dc) (.slice B.wa B.wn B.wc) (.slice B.xa B.xn B.xc) (.int .i64 E.ac) (.int .i64 E.cz) (.slice B.la B.ln B.lc) (.int .i64 E.dv) (.slice B.oa B.on B.oc) (.slice B.ga B.gn B.gc) ⟨_, c11⟩
  have r12 := set15_at12 _ _ (.int .i64 0) (.int .i64 K) (.int .i64 T) (.int .i64 C) (.slice B.a B.n B.c) (.slice B.ta B.tn B.tc) (.slice B.da B.dn B.dc) (.slice B.wa B.wn B.wc) (.slice B.xa B.xn B.xc) (.int .i64 E.ac) (.int .i64 E.cz) (.slice B.la B.ln B.lc) (.int .i64 E.dv) (.slice B.oa B.on B.oc) (.slice B.ga B.gn B.gc) ⟨_, c12⟩
  have r13 := set15_at13 _ _ (.int .i64 0) (.int .i64 K) (.int .i64 T) (.int .i64 C) (.slice B.a B.n B.c) (.slice B.ta B.tn B.tc) (.slice B.da B.dn B.dc) (.slice B.wa B.wn B.wc) (.slice B.xa B.xn B.xc) (.int .i64 E.ac) (.int .i64 E.cz) (.slice B.la B.ln B.lc) (.int .i64 E.dv) (.slice B.oa B.on B.oc) (.slice B.ga B.gn B.gc) ⟨_, c13⟩
  have r14 := set15_at14 _ _ (.int .i64 0) (.int .i64 K) (.int .i64 T) (.int .i64 C) (.slice B.a B.n B.c) (.slice B.ta B.tn B.tc) (.slice B.da B.dn B.dc) (.slice B.wa B.wn B.wc) (.slice B.xa B.xn B.xc) (.int .i64 E.ac) (.int .i64 E.cz) (.slice B.la B.ln B.lc) (.int .i64 E.dv) (.slice B.oa B.on B.oc) (.slice B.ga B.gn B.gc) ⟨_, c14⟩
  refine bodyPost_ret (v := .agg #[.int .i64 0, .int .i64 K, .int .i64 T, .int .i64 C, .slice B.a B.n B.c, .slice B.ta B.tn B.tc, .slice B.da B.dn B.dc, .slice B.wa B.wn B.wc, .slice B.xa B.xn B.xc, .int .i64 E.ac, .int .i64 E.cz, .slice B.la B.ln B.lc, .int .i64 E.dv, .slice B.oa B.on B.oc, .slice B.ga B.gn B.gc]) (by simp [results, Tryz.results9, go_sem, r0, r1, r2, r3, r4, r5, r6, r7, r8, r9, r10, r11, r12, r13, r14]) rfl ⟨B, ?_, ?_, HB.out⟩
  · rw [Hf.out, HC.out.1, HC.out.2.1, HC.out.2.2.1, HC.out.2.2.2, ← HE.out.1, ← HE.out.2.1, ← HE.out.2.2.1, ← HE.out.2.2.2]
  · rw [HC.out.2.2.2, ← HE.out.1]; exact HO.out.mono (fun q hq => ⟨by have := hq.1; omega, by have := hq.2; simp only [size_set15]; omega⟩)

end Go.Proofs.YtcojgmecocjnkaaGreat
