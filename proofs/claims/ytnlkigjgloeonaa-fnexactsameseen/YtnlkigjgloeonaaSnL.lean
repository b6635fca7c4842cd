import Derived.Test.YtnlkigjgloeonaaSnP
import Derived.Test.YtnlkigjgloeonaaLrL
import Derived.Test.YtnlkigjgloeonaaCxL
import Derived.Test.YtnlkigjgloeonaaWtL
import Derived.WalkKit
import Derived.ProofKit
import Derived.OpenShut
import Derived.ShutString
import Derived.ChangeOld
import Derived.Below
import Derived.WalkSpells
import Derived.Deep.QuietTactic
import Derived.BigQuiet
import Derived.Deep.RegionWith
import Derived.Deep.WholeRow
import Derived.Deep.DeepCutAuto
import Derived.Deep.RegionHeld2
import Derived.Deep.AppendLies
import Derived.Deep.RegionLaw
namespace Go.Proofs.Ytnlkigjgloeonaa
open Go.ChangeShapes Go.WideShapes Go.ChangeAt Go.RowKit

theorem set4_at0 (X : World) (P : Nat) (v0 v1 v2 v3 : Value) (h : ∃ u, X.cell? ⟨P, 0, none⟩ = some u) : ((((X.setCell ⟨P, 0, none⟩ v0).setCell ⟨P, 1, none⟩ v1).setCell ⟨P, 2, none⟩ v2).setCell ⟨P, 3, none⟩ v3).cell? ⟨P, 0, none⟩ = some v0 := by
  obtain ⟨u, h⟩ := h
  rw [World.cell?_setCell_other _ _ _ _ (fun e => by injection e with _ e2; omega)]
  rw [World.cell?_setCell_other _ _ _ _ (fun e => by injection e with _ e2; omega)]
  rw [World.cell?_setCell_other _ _ _ _ (fun e => by injection e with _ e2; omega)]
  exact World.cell?_setCell_same _ _ _ h

theorem set4_at1 (X : World) (P : Nat) (v0 v1 v2 v3 : Value) (h : ∃ u, X.cell? ⟨P, 1, none⟩ = some u) : ((((X.setCell ⟨P, 0, none⟩ v0).setCell ⟨P, 1, none⟩ v1).setCell ⟨P, 2, none⟩ v2).setCell ⟨P, 3, none⟩ v3).cell? ⟨P, 1, none⟩ = some v1 := by
  obtain ⟨u, h⟩ := h
  rw [World.cell?_setCell_other _ _ _ _ (fun e => by injection e with _ e2; omega)]
  rw [World.cell?_setCell_other _ _ _ _ (fun e => by injection e with _ e2; omega)]
  exact World.cell?_setCell_same _ _ _ ((World.cell?_setCell_other _ _ _ _ (fun e => by injection e with _ e2; omega)).trans h)

theorem set4_at2 (X : World) (P : Nat) (v0 v1 v2 v3 : Value) (h : ∃ u, X.cell? ⟨P, 2, none⟩ = some u) : ((((X.setCell ⟨P, 0, none⟩ v0).setCell ⟨P, 1, none⟩ v1).setCell ⟨P, 2, none⟩ v2).setCell ⟨P, 3, none⟩ v3).cell? ⟨P, 2, none⟩ = some v2 := by
  obtain ⟨u, h⟩ := h
  rw [World.cell?_setCell_other _ _ _ _ (fun e => by injection e with _ e2; omega)]
  exact World.cell?_setCell_same _ _ _ ((World.cell?_setCell_other _ _ _ _ (fun e => by injection e with _ e2; omega)).trans ((World.cell?_setCell_other _ _ _ _ (fun e => by injection e with _ e2; omega)).trans h))

theorem set4_at3 (X : World) (P : Nat) (v0 v1 v2 v3 : Value) (h : ∃ u, X.cell? ⟨P, 3, none⟩ = some u) : ((((X.setCell ⟨P, 0, none⟩ v0).setCell ⟨P, 1, none⟩ v1).setCell ⟨P, 2, none⟩ v2).setCell ⟨P, 3, none⟩ v3).cell? ⟨P, 3, none⟩ = some v3 := by
  obtain ⟨u, h⟩ := h
  exact World.cell?_setCell_same _ _ _ ((World.cell?_setCell_other _ _ _ _ (fun e => by injection e with _ e2; omega)).trans ((World.cell?_setCell_other _ _ _ _ (fun e => by injection e with _ e2; omega)).trans ((World.cell?_setCell_other _ _ _ _ (fun e => by injection e with _ e2; omega)).trans h)))

set_option maxRecDepth 100000 in
set_option maxHeartbeats 2000000 in
theorem szSeen_calls (A : NA) (D : ND) (left : Int) (w : World) (h0 : 0 ≤ left) (h1 : left ≤ 1048576) (hr : RN w A D) :
    Calls Try.prog 4 #[.agg #[.slice A.wa A.wn A.wc, .slice A.xa A.xn A.xc, .slice A.la A.ln A.lc, .slice A.oa A.on A.oc], .int .i64 left] w fun e w' => e = .returned (.int .i64 (szI (szN A D) left)) ∧ Below w.heap.size w w' := by
  have M0 := (Mm.start w).allocC [.slice A.wa A.wn A.wc, .slice A.xa A.xn A.xc, .slice A.la A.ln A.lc, .slice A.oa A.on A.oc] 27
  have HR := hide hr
  have q0 := (M0.get 0 rfl).cell 0 rfl
  obtain ⟨l0, hl0⟩ : ∃ x, x = left := ⟨_, rfl⟩
  have Hl0 := hide hl0
  have hp0 : 0 ≤ l0 := by omega
  have hq0 : l0 ≤ 1048576 := by omega
  rw [← hl0]
  clear hl0 hr
  go_enter Try.func4, Try.ntmps4
  go_wp2_with fail
  refine (szWordS_calls A.wa A.wn A.wc l0 _ hp0 hq0 HR.out.wm).mono ?_
  rintro e w1 ⟨rfl, g1⟩
  have M1 := M0.below g1
  clear g1 M0 q0
  by_cases n0 : l0 - ((A.wn : Nat) : Int) < 0
  · rw [szI_neg n0]
    have Hr := hide (szI_neg (len := szN A D) (left := l0) (by have := Hl0.out; unfold szN; omega))
    have HB := hide M1.bel
    clear n0 M1
    go_wp2
    go_ret
    exact ⟨ret_int Hr.out.symm, HB.out⟩
  rw [szI_pos (by omega)]
  obtain ⟨l1, hl1⟩ : ∃ x, x = l0 - ((A.wn : Nat) : Int) := ⟨_, rfl⟩
  rw [← hl1] at n0 ⊢
  have hd1 : ¬ (l1 < 0) := n0
  have Hl1 := hide hl1
  have hp1 : 0 ≤ l1 := by omega
  have hq1 : l1 ≤ 1048576 := by omega
  clear hl1 n0
  have q1 := (M1.get 0 rfl).cell 1 rfl
  go_wp2_with fail
  refine (szContextS_calls A.xa A.xn A.xc D.cs l1 _ hp1 hq1 HR.out.xm (HR.out.below M1.bel (Nat.le_refl _)).xs).mono ?_
  rintro e w2 ⟨rfl, g2⟩
  have M2 := M1.below g2
  clear g2 M1 q1
  by_cases n1 : l1 - (((A.xn + lenX D.cs) : Nat) : Int) < 0
  · rw [szI_neg n1]
    have Hr := hide (szI_neg (len := szN A D) (left := l0) (by have := Hl0.out; have := Hl1.out; unfold szN; omega))
    have HB := hide M2.bel
    clear n1 M2
    go_wp2
    go_ret
    exact ⟨ret_int Hr.out.symm, HB.out⟩
  rw [szI_pos (by omega)]
  obtain ⟨l2, hl2⟩ : ∃ x, x = l1 - (((A.xn + lenX D.cs) : Nat) : Int) := ⟨_, rfl⟩
  rw [← hl2] at n1 ⊢
  have hd2 : ¬ (l2 < 0) := n1
  have Hl2 := hide hl2
  have hp2 : 0 ≤ l2 := by omega
  have hq2 : l2 ≤ 1048576 := by omega
  clear hl2 n1
  have q2 := (M2.get 0 rfl).cell 2 rfl
  go_wp2_with fail
  refine (szLabelS_calls A.la A.ln A.lc D.ls l2 _ hp2 hq2 HR.out.lm (HR.out.below M2.bel (Nat.le_refl _)).ls).mono ?_
  rintro e w3 ⟨rfl, g3⟩
  have M3 := M2.below g3
  clear g3 M2 q2
  by_cases n2 : l2 - (((A.ln + lenL D.ls) : Nat) : Int) < 0
  · rw [szI_neg n2]
    have Hr := hide (szI_neg (len := szN A D) (left := l0) (by have := Hl0.out; have := Hl1.out; have := Hl2.out; unfold szN; omega))
    have HB := hide M3.bel
    clear n2 M3
    go_wp2
    go_ret
    exact ⟨ret_int Hr.out.symm, HB.out⟩
  rw [szI_pos (by omega)]
  obtain ⟨l3, hl3⟩ : ∃ x, x = l2 - (((A.ln + lenL D.ls) : Nat) : Int) := ⟨_, rfl⟩
  rw [← hl3] at n2 ⊢
  have hd3 : ¬ (l3 < 0) := n2
  have Hl3 := hide hl3
  have hp3 : 0 ≤ l3 := by omega
  have hq3 : l3 ≤ 1048576 := by omega
  clear hl3 n2
  have q3 := (M3.get 0 rfl).cell 3 rfl
  go_wp2_with fail
  refine (sz_calls A.oa A.on A.oc l3 _ hp3 hq3 HR.out.om).mono ?_
  rintro e w4 ⟨rfl, g4⟩
  have M4 := M3.below g4
  clear g4 M3 q3
  by_cases n3 : l3 - ((A.on : Nat) : Int) < 0
  · rw [szI_neg n3]
    have Hr := hide (szI_neg (len := szN A D) (left := l0) (by have := Hl0.out; have := Hl1.out; have := Hl2.out; have := Hl3.out; unfold szN; omega))
    have HB := hide M4.bel
    clear n3 M4
    go_wp2
    go_ret
    exact ⟨ret_int Hr.out.symm, HB.out⟩
  rw [szI_pos (by omega)]
  obtain ⟨l4, hl4⟩ : ∃ x, x = l3 - ((A.on : Nat) : Int) := ⟨_, rfl⟩
  rw [← hl4] at n3 ⊢
  have hd4 : ¬ (l4 < 0) := n3
  have Hl4 := hide hl4
  have hp4 : 0 ≤ l4 := by omega
  have hq4 : l4 ≤ 1048576 := by omega
  clear hl4 n3
  have Hr : Hid (szI (szN A D) l0 = l4) := by
    have := Hl1.out; have := Hl2.out; have := Hl3.out; have := Hl4.out
    show _ = _
    rw [szI_pos (by unfold szN; omega)]
    unfold szN
    omega
  have HB := hide M4.bel
  clear M4
  go_wp2
  go_ret
  exact ⟨ret_int Hr.out.symm, HB.out⟩

set_option maxRecDepth 100000 in
set_option maxHeartbeats 2000000 in
theorem toSeen_O (A : NA) (D : ND) (w : World) (hm : szN A D ≤ 1048576) (hr : RN w A D) :
    Calls Try.prog 6 #[.agg #[.slice A.wa A.wn A.wc, .slice A.xa A.xn A.xc, .slice A.la A.ln A.lc, .slice A.oa A.on A.oc]] w fun e w' => ∃ B : NA, e = .returned (.agg #[.slice B.wa B.wn B.wc, .slice B.xa B.xn B.xc, .slice B.la B.ln B.lc, .slice B.oa B.on B.oc]) ∧ ON (InR w.heap.size w'.heap.size) B D w' ∧ Below w.heap.size w w' := by
  have hm0 := hm
  unfold szN at hm
  have M0 := (((Mm.start w).allocC [.slice A.wa A.wn A.wc, .slice A.xa A.xn A.xc, .slice A.la A.ln A.lc, .slice A.oa A.on A.oc] 27).allocC [.slice none 0 0, .slice none 0 0, .slice none 0 0, .slice none 0 0] 34).allocC [.slice none 0 0, .slice none 0 0, .slice none 0 0, .slice none 0 0] 34
  simp only [World.size_alloc] at M0
  have HR0 := hide (hr.below M0.bel (Nat.le_refl _))
  have a0 := (M0.get 2 rfl).cell 0 rfl
  go_enter Try.func6, Try.ntmps6
  go_wp2_with fail
  refine (toWordS_O A.wa A.wn A.wc D.ws _ (by omega) HR0.out.ws).mono ?_
  rintro e w1 ⟨b0, rfl, o0, g1⟩
  have z1 := g1.size
  simp only [World.size_alloc] at z1 o0
  have N1 := (M0.below g1).fact OWd.loc o0
  clear a0 M0 g1 o0
  have P1 := N1.put 1 rfl 0 (by simp) (.slice (some ⟨b0, 0, none⟩) A.wn A.wn) (by omega) (by simp <;> omega) (by simp <;> omega)
  simp only [List.set] at P1
  have q0 := (N1.get 1 rfl).cell 0 rfl
  have f0 := (N1.get 1 rfl).fz 0 (by simp)
  have a1 := (N1.get 3 rfl).cell 1 rfl
  have HR1 := hide (hr.below P1.bel (Nat.le_refl _))
  have HM1 := hide P1
  clear N1 P1
  go_wp2_with fail
  refine (toContextS_O A.xa A.xn A.xc D.cs _ (by omega) HR1.out.xs).mono ?_
  rintro e w2 ⟨b1, rfl, o1, g2⟩
  have z2 := g2.size
  simp only [World.size_setCell] at z2 o1
  have N2 := (HM1.out.below g2).fact OX.loc o1
  clear a1 g2 o1 q0 f0
  have P2 := N2.put 2 rfl 1 (by simp) (.slice (some ⟨b1, 0, none⟩) A.xn A.xn) (by omega) (by simp <;> omega) (by simp <;> omega)
  simp only [List.set] at P2
  have q1 := (N2.get 2 rfl).cell 1 rfl
  have f1 := (N2.get 2 rfl).fz 1 (by simp)
  have a2 := (N2.get 4 rfl).cell 2 rfl
  have HR2 := hide (hr.below P2.bel (Nat.le_refl _))
  have HM2 := hide P2
  clear N2 P2
  go_wp2_with fail
  refine (toLabelS_O A.la A.ln A.lc D.ls _ (by omega) HR2.out.ls).mono ?_
  rintro e w3 ⟨b2, rfl, o2, g3⟩
  have z3 := g3.size
  simp only [World.size_setCell] at z3 o2
  have N3 := (HM2.out.below g3).fact OLr.loc o2
  clear a2 g3 o2 q1 f1
  have P3 := N3.put 3 rfl 2 (by simp) (.slice (some ⟨b2, 0, none⟩) A.ln A.ln) (by omega) (by simp <;> omega) (by simp <;> omega)
  simp only [List.set] at P3
  have q2 := (N3.get 3 rfl).cell 2 rfl
  have f2 := (N3.get 3 rfl).fz 2 (by simp)
  have a3 := (N3.get 5 rfl).cell 3 rfl
  have HR3 := hide (hr.below P3.bel (Nat.le_refl _))
  have HM3 := hide P3
  clear N3 P3
  go_wp2_with fail
  refine (toInts_calls A.oa _ A.oc D.os _ (by omega) HR3.out.os).mono ?_
  rintro e w4 ⟨b3, rfl, hb3, blk3, g4⟩
  have z4 := g4.size
  simp only [World.size_setCell] at z4 hb3
  have lb3 := blk3.1
  have N4 := (HM3.out.below g4).fact (B := b3) (T := b3 + 1) (P := fun u => Blk u b3 D.os) (Blk.loc ⟨Nat.le_refl _, by omega⟩) blk3
  clear a3 g4 blk3 q2 f2
  have P4 := N4.put 4 rfl 3 (by simp) (.slice (some ⟨b3, 0, none⟩) A.on A.on) (by omega) (by simp <;> omega) (by simp <;> omega)
  simp only [List.set] at P4
  have q3 := (N4.get 4 rfl).cell 3 rfl
  have f3 := (N4.get 4 rfl).fz 3 (by simp)
  have HP := hide P4
  have s0 := (N4.get 4 rfl).cell 0 rfl
  have s1 := (N4.get 4 rfl).cell 1 rfl
  have s2 := (N4.get 4 rfl).cell 2 rfl
  have c0_ := (N4.get 5 rfl).cell 0 rfl
  have f0_ := (N4.get 5 rfl).fz 0 (by simp)
  have d0_ := (P4.get 5 rfl).cell 0 rfl
  have c1_ := (N4.get 5 rfl).cell 1 rfl
  have f1_ := (N4.get 5 rfl).fz 1 (by simp)
  have d1_ := (P4.get 5 rfl).cell 1 rfl
  have c2_ := (N4.get 5 rfl).cell 2 rfl
  have f2_ := (N4.get 5 rfl).fz 2 (by simp)
  have d2_ := (P4.get 5 rfl).cell 2 rfl
  have c3_ := (N4.get 5 rfl).cell 3 rfl
  have f3_ := (N4.get 5 rfl).fz 3 (by simp)
  have d3_ := (P4.get 5 rfl).cell 3 rfl
  clear N4 P4
  go_wp2
  have r0 := set4_at0 _ _ (.slice (some ⟨b0, 0, none⟩) A.wn A.wn) (.slice (some ⟨b1, 0, none⟩) A.xn A.xn) (.slice (some ⟨b2, 0, none⟩) A.ln A.ln) (.slice (some ⟨b3, 0, none⟩) A.on A.on) ⟨_, d0_⟩
  have r1 := set4_at1 _ _ (.slice (some ⟨b0, 0, none⟩) A.wn A.wn) (.slice (some ⟨b1, 0, none⟩) A.xn A.xn) (.slice (some ⟨b2, 0, none⟩) A.ln A.ln) (.slice (some ⟨b3, 0, none⟩) A.on A.on) ⟨_, d1_⟩
  have r2 := set4_at2 _ _ (.slice (some ⟨b0, 0, none⟩) A.wn A.wn) (.slice (some ⟨b1, 0, none⟩) A.xn A.xn) (.slice (some ⟨b2, 0, none⟩) A.ln A.ln) (.slice (some ⟨b3, 0, none⟩) A.on A.on) ⟨_, d2_⟩
  have r3 := set4_at3 _ _ (.slice (some ⟨b0, 0, none⟩) A.wn A.wn) (.slice (some ⟨b1, 0, none⟩) A.xn A.xn) (.slice (some ⟨b2, 0, none⟩) A.ln A.ln) (.slice (some ⟨b3, 0, none⟩) A.on A.on) ⟨_, d3_⟩
  have HZ := hide (HP.out)
  have LS : ∀ {Q : World → Prop} {B T : Nat}, T ≤ w4.heap.size → w.heap.size + 2 < B → Loc (InR B T) Q → Q (w4.setCell ⟨w.heap.size + 1 + 1, 3, none⟩ (.slice (some ⟨b3, 0, none⟩) A.on A.on)) → Q (((((w4.setCell ⟨w.heap.size + 1 + 1, 3, none⟩ (.slice (some ⟨b3, 0, none⟩) A.on A.on)).setCell ⟨w.heap.size + 1, 0, none⟩ (.slice (some ⟨b0, 0, none⟩) A.wn A.wn)).setCell ⟨w.heap.size + 1, 1, none⟩ (.slice (some ⟨b1, 0, none⟩) A.xn A.xn)).setCell ⟨w.heap.size + 1, 2, none⟩ (.slice (some ⟨b2, 0, none⟩) A.ln A.ln)).setCell ⟨w.heap.size + 1, 3, none⟩ (.slice (some ⟨b3, 0, none⟩) A.on A.on)) := fun hT hB hl hQ => hl.setC (hl.setC (hl.setC (hl.setC hQ (fun e => by have := e.1; simp at this; omega) _) (fun e => by have := e.1; simp at this; omega) _) (fun e => by have := e.1; simp at this; omega) _) (fun e => by have := e.1; simp at this; omega) _
  refine bodyPost_ret (v := .agg #[.slice (some ⟨b0, 0, none⟩) A.wn A.wn, .slice (some ⟨b1, 0, none⟩) A.xn A.xn, .slice (some ⟨b2, 0, none⟩) A.ln A.ln, .slice (some ⟨b3, 0, none⟩) A.on A.on]) (by simp [results, Try.results6, go_sem, r0, r1, r2, r3]) rfl ⟨⟨some ⟨b0, 0, none⟩, A.wn, A.wn, some ⟨b1, 0, none⟩, A.xn, A.xn, some ⟨b2, 0, none⟩, A.ln, A.ln, some ⟨b3, 0, none⟩, A.on, A.on⟩, rfl, ?_, ?_⟩
  · refine ⟨InR (w.heap.size + 3) w1.heap.size, InR w1.heap.size w2.heap.size, InR w2.heap.size w3.heap.size, InR b3 (b3 + 1), ⟨fun k e => ⟨by have := e.1; omega, by have := e.2; simp; omega⟩, fun k e => ⟨by have := e.1; omega, by have := e.2; simp; omega⟩, fun k e => ⟨by have := e.1; omega, by have := e.2; simp; omega⟩, fun k e => ⟨by have := e.1; omega, by have := e.2; simp; omega⟩⟩, ⟨fun k e => ⟨fun h => by have := e.2; have := h.1; omega, fun h => by have := e.2; have := h.1; omega, fun h => by have := e.2; have := h.1; omega⟩, fun k e => ⟨fun h => by have := e.2; have := h.1; omega, fun h => by have := e.2; have := h.1; omega⟩, fun k e h => by have := e.2; have := h.1; omega⟩, hm0, ?_, ?_, ?_, ?_⟩
    · exact LS (by omega) (by omega) OWd.loc ((HZ.out.get 3 rfl))
    · exact LS (by omega) (by omega) OX.loc (HZ.out.get 2 rfl)
    · exact LS (by omega) (by omega) OLr.loc (HZ.out.get 1 rfl)
    · exact OS.ofBlk (LS (B := b3) (T := b3 + 1) (Q := fun u => Blk u b3 D.os) (by omega) (by omega) (Blk.loc ⟨Nat.le_refl _, by omega⟩) (HZ.out.get 0 rfl)) ⟨Nat.le_refl _, by omega⟩ HR0.out.os.1 (show A.on ≤ 1048576 by omega)
  · exact (((HZ.out.bel.setCell (by simp <;> omega) _).setCell (by simp <;> omega) _).setCell (by simp <;> omega) _).setCell (by simp <;> omega) _

set_option maxRecDepth 100000 in
set_option maxHeartbeats 1000000 in
theorem eqSeen_O (S S' : Nat → Prop) (A B : NA) (D : ND) (w : World) (hx : ON S A D w) (hy : ON S' B D w) :
    Calls Try.prog 8 #[.agg #[.slice A.wa A.wn A.wc, .slice A.xa A.xn A.xc, .slice A.la A.ln A.lc, .slice A.oa A.on A.oc], .agg #[.slice B.wa B.wn B.wc, .slice B.xa B.xn B.xc, .slice B.la B.ln B.lc, .slice B.oa B.on B.oc]] w fun e w' => e = .returned (.bool true) ∧ Below w.heap.size w w' := by
  have M0 := ((Mm.start w).allocC [.slice A.wa A.wn A.wc, .slice A.xa A.xn A.xc, .slice A.la A.ln A.lc, .slice A.oa A.on A.oc] 34).allocC [.slice B.wa B.wn B.wc, .slice B.xa B.xn B.xc, .slice B.la B.ln B.lc, .slice B.oa B.on B.oc] 34
  simp only [World.size_alloc] at M0
  have hr := hx.rn
  have hs := hy.rn
  have ew : B.wn = A.wn := by have := hr.ws.1; have := hs.ws.1; omega
  have ex : B.xn = A.xn := by have := hr.xs.1; have := hs.xs.1; omega
  have el : B.ln = A.ln := by have := hr.ls.1; have := hs.ls.1; omega
  have eo : B.on = A.on := by have := hr.os.1; have := hs.os.1; omega
  obtain ⟨bwa, bwn, bwc, bxa, bxn, bxc, bla, bln, blc, boa, bon, boc⟩ := B
  dsimp only at ew ex el eo M0
  subst ew ex el eo
  have HR := hide hr
  have HS := hide hs
  have a0 := (M0.get 1 rfl).cell 0 rfl
  have b0 := (M0.get 0 rfl).cell 0 rfl
  clear hx hy hr hs
  dsimp only
  go_enter Try.func8, Try.ntmps8
  go_wp2_with fail
  refine (eqWordS_calls A.wa bwa A.wn A.wc bwc D.ws _ HR.out.wm (HR.out.below M0.bel (Nat.le_refl _)).ws (HS.out.below M0.bel (Nat.le_refl _)).ws).mono ?_
  rintro e w1 ⟨rfl, g1⟩
  have M1 := M0.below g1
  clear g1 M0 a0 b0
  have a1 := (M1.get 1 rfl).cell 1 rfl
  have b1 := (M1.get 0 rfl).cell 1 rfl
  go_wp2_with fail
  refine (eqContextS_calls A.xa bxa A.xn A.xc bxc D.cs _ HR.out.xm (HR.out.below M1.bel (Nat.le_refl _)).xs (HS.out.below M1.bel (Nat.le_refl _)).xs).mono ?_
  rintro e w2 ⟨rfl, g2⟩
  have M2 := M1.below g2
  clear g2 M1 a1 b1
  have a2 := (M2.get 1 rfl).cell 2 rfl
  have b2 := (M2.get 0 rfl).cell 2 rfl
  go_wp2_with fail
  refine (eqLabelS_calls A.la bla A.ln A.lc blc D.ls _ HR.out.lm (HR.out.below M2.bel (Nat.le_refl _)).ls (HS.out.below M2.bel (Nat.le_refl _)).ls).mono ?_
  rintro e w3 ⟨rfl, g3⟩
  have M3 := M2.below g3
  clear g3 M2 a2 b2
  have a3 := (M3.get 1 rfl).cell 3 rfl
  have b3 := (M3.get 0 rfl).cell 3 rfl
  go_wp2_with fail
  refine (eqInts_calls A.oa boa A.on A.oc A.on boc D.os D.os _ HR.out.om HR.out.om (HR.out.below M3.bel (Nat.le_refl _)).os (HS.out.below M3.bel (Nat.le_refl _)).os).mono ?_
  rintro e w4 ⟨rfl, g4⟩
  rw [decide_eq_true rfl]
  have M4 := M3.below g4
  clear g4 M3 a3 b3
  have HB := hide M4.bel
  clear M4
  go_wp2
  go_ret
  exact ⟨rfl, HB.out⟩

end Go.Proofs.Ytnlkigjgloeonaa
