/-
  PROVED: for every system that FnExactSystemFault is called with, the call returns true, and each argument reads afterwards as it read before.
  CONDITIONS: none beyond the row's own (no cell narrows it).
-/
import Derived.Test.YtnbdhakbemcfeaaGreatG15
import Derived.Test.YtnbdhakbemcfeaaGreatG17
import Derived.Test.YtnbdhakbemcfeaaGreatG16
import Derived.Test.YtnbdhakbemcfeaaGreatG18
import Derived.WalkKit
import Derived.ProofKit
import Derived.OpenShut
import Derived.ShutString
import Derived.ChangeOld
import Derived.Below
import Derived.WalkSpells
import Derived.Deep.QuietTactic
import Derived.BigQuiet
import Derived.Deep.RegionWith
import Derived.Deep.WholeRow
import Derived.Deep.DeepCutAuto
import Derived.Deep.RegionHeld2
import Derived.Deep.AppendLies
import Derived.Deep.RegionLaw
namespace Go.Proofs.YtnbdhakbemcfeaaGreat
open Go.ChangeShapes Go.WideShapes Go.ChangeAt Go.RowKit

set_option maxRecDepth 100000 in
theorem law_big0_SystemFault (A0 : SA) (D0 : SD) (w : World) (hs0 : RS w A0 D0) (hbig : 1048576 < szY A0 D0) :
    Calls Tryz.prog 3 #[.agg #[.slice A0.a A0.n A0.c, .slice A0.ta A0.tn A0.tc, .slice A0.da A0.dn A0.dc, .slice A0.wa A0.wn A0.wc, .slice A0.xa A0.xn A0.xc, .int .i64 D0.ac, .int .i64 D0.cz, .slice A0.la A0.ln A0.lc, .int .i64 D0.dv, .slice A0.oa A0.on A0.oc, .slice A0.ga A0.gn A0.gc]] w fun e w' => e = .returned (.bool true) ∧ Below w.heap.size w w' := by
  have M0 := ((Mm.start w).alloc11 (.slice A0.a A0.n A0.c) (.slice A0.ta A0.tn A0.tc) (.slice A0.da A0.dn A0.dc) (.slice A0.wa A0.wn A0.wc) (.slice A0.xa A0.xn A0.xc) (.int .i64 D0.ac) (.int .i64 D0.cz) (.slice A0.la A0.ln A0.lc) (.int .i64 D0.dv) (.slice A0.oa A0.on A0.oc) (.slice A0.ga A0.gn A0.gc) 37)
  try simp only [World.size_alloc] at M0
  go_enter Tryz.func3, Tryz.ntmps3
  go_wp2_with fail
  refine (szSystem_calls A0 D0 1048576 _ (by omega) (by omega) (hs0.below M0.bel (Nat.le_refl _))).mono ?_
  rintro e w1 ⟨rfl, g1⟩
  have M1 := M0.below g1
  clear g1 M0
  rw [szI_neg (by omega)]
  have HB := hide M1.bel
  clear M1
  go_wp2
  go_ret
  exact ⟨rfl, HB.out⟩

set_option maxRecDepth 100000 in
set_option maxHeartbeats 16000000 in
theorem law_small_SystemFault (A0 : SA) (D0 : SD) (w : World) (hs0 : RS w A0 D0) (hz : szY A0 D0 ≤ 1048576) :
    Calls Tryz.prog 3 #[.agg #[.slice A0.a A0.n A0.c, .slice A0.ta A0.tn A0.tc, .slice A0.da A0.dn A0.dc, .slice A0.wa A0.wn A0.wc, .slice A0.xa A0.xn A0.xc, .int .i64 D0.ac, .int .i64 D0.cz, .slice A0.la A0.ln A0.lc, .int .i64 D0.dv, .slice A0.oa A0.on A0.oc, .slice A0.ga A0.gn A0.gc]] w fun e w' => e = .returned (.bool true) ∧ Below w.heap.size w w' := by
  have hz0 : szY A0 D0 ≤ 1048576 := by omega
  have M0 := ((Mm.start w).alloc11 (.slice A0.a A0.n A0.c) (.slice A0.ta A0.tn A0.tc) (.slice A0.da A0.dn A0.dc) (.slice A0.wa A0.wn A0.wc) (.slice A0.xa A0.xn A0.xc) (.int .i64 D0.ac) (.int .i64 D0.cz) (.slice A0.la A0.ln A0.lc) (.int .i64 D0.dv) (.slice A0.oa A0.on A0.oc) (.slice A0.ga A0.gn A0.gc) 37)
  try simp only [World.size_alloc] at M0
  go_enter Tryz.func3, Tryz.ntmps3
  go_wp2_with fail
  refine (szSystem_calls A0 D0 1048576 _ (by omega) (by omega) (hs0.below M0.bel (Nat.le_refl _))).mono ?_
  rintro e w1 ⟨rfl, g1⟩
  have zz1 := g1.size
  try simp only [World.size_alloc] at zz1
  have M1 := M0.below g1
  clear g1 M0
  rw [szI_pos (by omega)]
  have hge0 : ¬ (1048576 - ((szY A0 D0 : Nat) : Int) < 0) := by omega
  have q0 := M1.cell 0 rfl
  have q1 := M1.cell 1 rfl
  have q2 := M1.cell 2 rfl
  have q3 := M1.cell 3 rfl
  have q4 := M1.cell 4 rfl
  have q5 := M1.cell 5 rfl
  have q6 := M1.cell 6 rfl
  have q7 := M1.cell 7 rfl
  have q8 := M1.cell 8 rfl
  have q9 := M1.cell 9 rfl
  have q10 := M1.cell 10 rfl
  go_wp2_with fail
  refine (toSystem_O A0 D0 _ (by omega) (hs0.below M1.bel (Nat.le_refl _))).mono ?_
  rintro e w2 ⟨b_s, rfl, os, g2⟩
  have zz2 := g2.size
  try simp only [World.size_alloc] at os zz2
  have M2 := (M1.below g2).fact OY.loc os
  clear g2 M1 os q0 q1 q2 q3 q4 q5 q6 q7 q8 q9 q10
  go_wp2_with fail
  refine (specSystemFault_calls _ D0 _ (M2.get 0 rfl).rs (M2.get 0 rfl).lk).mono ?_
  rintro e w3 ⟨rfl, g3⟩
  have zz3 := g3.size
  try simp only [World.size_alloc] at zz3
  have M3 := (M2.below g3)
  clear g3 M2
  have q0 := M3.cell 0 rfl
  have q1 := M3.cell 1 rfl
  have q2 := M3.cell 2 rfl
  have q3 := M3.cell 3 rfl
  have q4 := M3.cell 4 rfl
  have q5 := M3.cell 5 rfl
  have q6 := M3.cell 6 rfl
  have q7 := M3.cell 7 rfl
  have q8 := M3.cell 8 rfl
  have q9 := M3.cell 9 rfl
  have q10 := M3.cell 10 rfl
  go_wp2_with fail
  refine (toSystem_O A0 D0 _ (by omega) (hs0.below M3.bel (Nat.le_refl _))).mono ?_
  rintro e w4 ⟨b_x0, rfl, ox0, g4⟩
  have zz4 := g4.size
  try simp only [World.size_alloc] at ox0 zz4
  have M4 := ((M3.below g4).fact OY.loc ox0).alloc11 (.slice b_x0.a b_x0.n b_x0.c) (.slice b_x0.ta b_x0.tn b_x0.tc) (.slice b_x0.da b_x0.dn b_x0.dc) (.slice b_x0.wa b_x0.wn b_x0.wc) (.slice b_x0.xa b_x0.xn b_x0.xc) (.int .i64 D0.ac) (.int .i64 D0.cz) (.slice b_x0.la b_x0.ln b_x0.lc) (.int .i64 D0.dv) (.slice b_x0.oa b_x0.on b_x0.oc) (.slice b_x0.ga b_x0.gn b_x0.gc) 54
  clear g4 M3 ox0 q0 q1 q2 q3 q4 q5 q6 q7 q8 q9 q10
  go_wp2_with fail
  refine (implSystemFault_calls _ D0 _ (M4.get 0 rfl).rs (M4.get 0 rfl).lk).mono ?_
  rintro e w5 ⟨rfl, g5⟩
  have zz5 := g5.size
  try simp only [World.size_alloc] at zz5
  have M5 := (M4.below g5)
  clear g5 M4
  have hne : ((sysF D0) != (sysF D0)) = false := by simp
  have q0 := M5.cell 0 rfl
  have q1 := M5.cell 1 rfl
  have q2 := M5.cell 2 rfl
  have q3 := M5.cell 3 rfl
  have q4 := M5.cell 4 rfl
  have q5 := M5.cell 5 rfl
  have q6 := M5.cell 6 rfl
  have q7 := M5.cell 7 rfl
  have q8 := M5.cell 8 rfl
  have q9 := M5.cell 9 rfl
  have q10 := M5.cell 10 rfl
  have q11 := M5.cell 11 rfl
  have q12 := M5.cell 12 rfl
  have q13 := M5.cell 13 rfl
  have q14 := M5.cell 14 rfl
  have q15 := M5.cell 15 rfl
  have q16 := M5.cell 16 rfl
  have q17 := M5.cell 17 rfl
  have q18 := M5.cell 18 rfl
  have q19 := M5.cell 19 rfl
  have q20 := M5.cell 20 rfl
  have q21 := M5.cell 21 rfl
  go_upto_region 10 with fail
  go_cut [26] (fun v wd => v = .bool false ∧ Below w5.heap.size w5 wd)
  case first =>
    go_region_with (first
      | (go_at_call 7; refine (toSystem_O A0 D0 _ (by omega) ?_).mono ?_; exact hs0.below M5.drew.bel (Nat.le_refl _); rintro e wa ⟨b_y, rfl, oy, ga⟩; have ha : Below w5.heap.size w5 wa := ((Below.refl w5.heap.size w5).drew).trans ga; have Ma := M5.below ha; have y0 := Ma.cell 0 rfl; have y1 := Ma.cell 1 rfl; have y2 := Ma.cell 2 rfl; have y3 := Ma.cell 3 rfl; have y4 := Ma.cell 4 rfl; have y5 := Ma.cell 5 rfl; have y6 := Ma.cell 6 rfl; have y7 := Ma.cell 7 rfl; have y8 := Ma.cell 8 rfl; have y9 := Ma.cell 9 rfl; have y10 := Ma.cell 10 rfl; clear ga)
      | (go_at_call 9; refine (eqSystem_O _ _ _ _ D0 _ (Ma.get 0 rfl) oy).mono ?_; rintro e wb ⟨rfl, gb⟩; have hb : Below w5.heap.size w5 wb := ha.trans (gb.mono ha.size); clear gb))
    all_goals go_wp2_with fail
    all_goals go_meet
    all_goals exact ⟨rfl, hb⟩
  case rest =>
    obtain ⟨rfl, g6⟩ := hcut
    obtain ⟨w6, rfl⟩ : ∃ x, x = wc := ⟨wc, rfl⟩
    have zz6 := g6.size
    have M6 := M5.below g6
    clear g6 M5 q0 q1 q2 q3 q4 q5 q6 q7 q8 q9 q10 q11 q12 q13 q14 q15 q16 q17 q18 q19 q20 q21
    have HB := hide M6.bel
    clear M6
    go_wp2
    go_ret
    exact ⟨rfl, HB.out⟩

theorem walk_SystemFault (A0 : SA) (D0 : SD) (w : World) (hs0 : RS w A0 D0) :
    Calls Tryz.prog 3 #[.agg #[.slice A0.a A0.n A0.c, .slice A0.ta A0.tn A0.tc, .slice A0.da A0.dn A0.dc, .slice A0.wa A0.wn A0.wc, .slice A0.xa A0.xn A0.xc, .int .i64 D0.ac, .int .i64 D0.cz, .slice A0.la A0.ln A0.lc, .int .i64 D0.dv, .slice A0.oa A0.on A0.oc, .slice A0.ga A0.gn A0.gc]] w fun e w' => e = .returned (.bool true) ∧ Below w.heap.size w w' := by
  by_cases hz0 : szY A0 D0 ≤ 1048576
  rotate_left
  · exact law_big0_SystemFault A0 D0 w hs0 (by omega)
  exact law_small_SystemFault A0 D0 w hs0 hz0



theorem own : ownKnob Tryz.prog.godebug = none := by kernel_rfl

theorem laidOut : laidOutB Tryz.prog = true := by kernel_rfl

set_option maxRecDepth 100000 in
theorem lifted_SystemFault (os : Os) (started : os.Started) (H : Type) (enc : TypeId × Value → H) :
    ReturnsInHanded {} Tryz.checked os 3 .any (Rows.fnExactSystemFaultSpec.pre6 enc Tryz.prog Tryz.f3 Rows.fnExactSystemFaultRow.domain false) (Rows.fnExactSystemFaultSpec.post enc Tryz.prog Tryz.f3 false true false false) := by
  refine returnsInHanded_of_change (C := Tryz.checked) own started (by kernel_rfl) Tryz.func3
    (ChangeSpec.witness6 (enc := enc) (C := Tryz.checked) false ⟨#[], #[.agg #[.slice none 0 0, .slice none 0 0, .slice none 0 0, .slice none 0 0, .slice none 0 0, .int .i64 0, .int .i64 0, .slice none 0 0, .int .i64 0, .slice none 0 0, .slice none 0 0]], []⟩ 8 (by kernel_rfl) (by kernel_rfl) (by kernel_rfl) (by kernel_rfl)) ?_
  intro W base args ds gs before hval0 hW hcnd _
  have hval : ∀ (j : Nat) t v, Tryz.f3.params[j]? = some t → args[j]? = some v → Value.okWide Tryz.prog W .any base t v := hval0
  have hW' := hW
  obtain ⟨p, q, hA0, hV, rfl, hfz, hnd⟩ := hW
  have hA : DataW.TrodAll enc Tryz.prog W 0 (fun _ => true) true Tryz.f3.params.toList args.toList ds p := hA0
  rw [Tryz.params3] at hA hval
  obtain ⟨v0, vs0, d0, ds0, p0, q0, hargs, rfl, rfl, h0, r0⟩ := trodAll_cons hA
  obtain ⟨rfl, rfl, rfl⟩ := trodAll_nil r0
  obtain rfl : args = #[v0] := by cases args; simp_all
  obtain ⟨rfl, rfl⟩ := trodVars_none hV
  have k0 := h0
  have lt0 : ∀ x ∈ p0, x.block < W.heap.size := by obtain ⟨m, hm⟩ := k0; exact DataW.trod_lt m _ _ _ hm
  obtain ⟨A0, D0, rfl, hs0⟩ := open_sys (hval 0 37 v0 rfl rfl) h0
  clear hA0 hval0
  refine (walk_SystemFault A0 D0 W hs0).mono fun e W' ⟨he, bel⟩ => ?_
  subst he
  exact ⟨_, rfl, _, _, _, [], _, [], hW', trodAll_mk1 (shut_bool Tryz.underlying4 _), (trodAll_cons_mk (Below.trod laidOut (by kernel_rfl) (of_decide_eq_true (by kernel_rfl)) k0 bel lt0) trodAll_mk0), rfl, bel.frame _, fun h => by cases h⟩

theorem fnExactSystemFault_holds : Rows.FnExactSystemFaultSaid :=
  OpenClaim.holds_of_wide 3 Tryz.f3 rfl rfl rfl rfl rfl rfl rfl ⟨rfl, rfl, rfl, rfl, rfl⟩ rfl rfl rfl rfl rfl (by kernel_rfl) Tryz.func3 (by kernel_rfl)
    (of_decide_eq_true (by kernel_rfl)) (by unfold Func.isWrapper; first | (rw [if_pos (by decide +kernel)]; kernel_rfl) | (rw [if_neg (by decide +kernel)]; exact ⟨rfl, rfl⟩))
    (fun os started H enc _ => lifted_SystemFault os started H enc)
#print axioms fnExactSystemFault_holds

end Go.Proofs.YtnbdhakbemcfeaaGreat
