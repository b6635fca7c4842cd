import Derived.Test.YtbfmdnnbiidlkaaGreatG104
import Derived.Test.YtbfmdnnbiidlkaaGreatG106
import Derived.Test.YtbfmdnnbiidlkaaGreatG102
import Derived.Test.YtbfmdnnbiidlkaaGreatG20
import Derived.Test.YtbfmdnnbiidlkaaGreatG15
import Derived.WalkKit
import Derived.ProofKit
import Derived.OpenShut
import Derived.ShutString
import Derived.ChangeOld
import Derived.Below
import Derived.WalkSpells
import Derived.Deep.QuietTactic
import Derived.BigQuiet
import Derived.Deep.RegionWith
import Derived.Deep.WholeRow
import Derived.Deep.DeepCutAuto
import Derived.Deep.RegionHeld2
import Derived.Deep.AppendLies
import Derived.Deep.RegionLaw
namespace Go.Proofs.YtbfmdnnbiidlkaaGreat
open Go.ChangeShapes Go.WideShapes Go.ChangeAt Go.RowKit

set_option maxRecDepth 100000 in
theorem law_big0_AccessesOf (A0 : SA) (D0 : SD) (w : World) (hs0 : RS w A0 D0) (hbig : 1048576 < szY A0 D0) :
    Calls Tryz.prog 4 #[.agg #[.slice A0.a A0.n A0.c, .slice A0.ta A0.tn A0.tc, .slice A0.da A0.dn A0.dc, .slice A0.wa A0.wn A0.wc, .slice A0.xa A0.xn A0.xc, .int .i64 D0.ac, .int .i64 D0.cz, .slice A0.la A0.ln A0.lc, .int .i64 D0.dv, .slice A0.oa A0.on A0.oc, .slice A0.ga A0.gn A0.gc]] w fun e w' => e = .returned (.bool true) ∧ Below w.heap.size w w' := by
  have M0 := ((Mm.start w).alloc11 (.slice A0.a A0.n A0.c) (.slice A0.ta A0.tn A0.tc) (.slice A0.da A0.dn A0.dc) (.slice A0.wa A0.wn A0.wc) (.slice A0.xa A0.xn A0.xc) (.int .i64 D0.ac) (.int .i64 D0.cz) (.slice A0.la A0.ln A0.lc) (.int .i64 D0.dv) (.slice A0.oa A0.on A0.oc) (.slice A0.ga A0.gn A0.gc) 70)
  try simp only [World.size_alloc] at M0
  go_enter Tryz.func4, Tryz.ntmps4
  go_wp2_with fail
  refine (szSystem_calls A0 D0 1048576 _ (by omega) (by omega) (hs0.below M0.bel (Nat.le_refl _))).mono ?_
  rintro e w1 ⟨rfl, g1⟩
  have M1 := M0.below g1
  clear g1 M0
  rw [szI_neg (by omega)]
  have HB := hide M1.bel
  clear M1
  go_wp2
  go_ret
  exact ⟨rfl, HB.out⟩

set_option maxRecDepth 100000 in
set_option maxHeartbeats 16000000 in
theorem law_small_AccessesOf (A0 : SA) (D0 : SD) (w : World) (hs0 : RS w A0 D0) (hz : szY A0 D0 ≤ 1048576) :
    Calls Tryz.prog 4 #[.agg #[.slice A0.a A0.n A0.c, .slice A0.ta A0.tn A0.tc, .slice A0.da A0.dn A0.dc, .slice A0.wa A0.wn A0.wc, .slice A0.xa A0.xn A0.xc, .int .i64 D0.ac, .int .i64 D0.cz, .slice A0.la A0.ln A0.lc, .int .i64 D0.dv, .slice A0.oa A0.on A0.oc, .slice A0.ga A0.gn A0.gc]] w fun e w' => e = .returned (.bool true) ∧ Below w.heap.size w w' := by
  have hz0 : szY A0 D0 ≤ 1048576 := by omega
  have M0 := ((Mm.start w).alloc11 (.slice A0.a A0.n A0.c) (.slice A0.ta A0.tn A0.tc) (.slice A0.da A0.dn A0.dc) (.slice A0.wa A0.wn A0.wc) (.slice A0.xa A0.xn A0.xc) (.int .i64 D0.ac) (.int .i64 D0.cz) (.slice A0.la A0.ln A0.lc) (.int .i64 D0.dv) (.slice A0.oa A0.on A0.oc) (.slice A0.ga A0.gn A0.gc) 70)
  try simp only [World.size_alloc] at M0
  go_enter Tryz.func4, Tryz.ntmps4
  go_wp2_with fail
  refine (szSystem_calls A0 D0 1048576 _ (by omega) (by omega) (hs0.below M0.bel (Nat.le_refl _))).mono ?_
  rintro e w1 ⟨rfl, g1⟩
  have zz1 := g1.size
  try simp only [World.size_alloc] at zz1
  have M1 := M0.below g1
  clear g1 M0
  rw [szI_pos (by omega)]
  have hge0 : ¬ (1048576 - ((szY A0 D0 : Nat) : Int) < 0) := by omega
  have q0 := M1.cell 0 rfl
  have q1 := M1.cell 1 rfl
  have q2 := M1.cell 2 rfl
  have q3 := M1.cell 3 rfl
  have q4 := M1.cell 4 rfl
  have q5 := M1.cell 5 rfl
  have q6 := M1.cell 6 rfl
  have q7 := M1.cell 7 rfl
  have q8 := M1.cell 8 rfl
  have q9 := M1.cell 9 rfl
  have q10 := M1.cell 10 rfl
  go_wp2_with fail
  refine (toSystem_O A0 D0 _ (by omega) (hs0.below M1.bel (Nat.le_refl _))).mono ?_
  rintro e w2 ⟨b_s, rfl, os, g2⟩
  have zz2 := g2.size
  try simp only [World.size_alloc] at os zz2
  have M2 := (M1.below g2).fact OY.loc os
  clear g2 M1 os q0 q1 q2 q3 q4 q5 q6 q7 q8 q9 q10
  go_wp2_with fail
  refine (specAccessesOf_calls _ D0 _ (M2.get 0 rfl).rs (M2.get 0 rfl).lk).mono ?_
  rintro e w3 ⟨va, vn, vc, rfl, ov, g3⟩
  have zz3 := g3.size
  try simp only [World.size_alloc] at ov zz3
  have M3 := ((M2.below g3).fact OA.loc ov).alloc2 (.int .i64 (sysF D0)) (.slice va vn vc) 74
  clear g3 M2 ov
  have q0 := M3.cell 2 rfl
  have q1 := M3.cell 3 rfl
  have q2 := M3.cell 4 rfl
  have q3 := M3.cell 5 rfl
  have q4 := M3.cell 6 rfl
  have q5 := M3.cell 7 rfl
  have q6 := M3.cell 8 rfl
  have q7 := M3.cell 9 rfl
  have q8 := M3.cell 10 rfl
  have q9 := M3.cell 11 rfl
  have q10 := M3.cell 12 rfl
  go_wp2_with fail
  refine (toSystem_O A0 D0 _ (by omega) (hs0.below M3.bel (Nat.le_refl _))).mono ?_
  rintro e w4 ⟨b_x0, rfl, ox0, g4⟩
  have zz4 := g4.size
  try simp only [World.size_alloc] at ox0 zz4
  have M4 := ((M3.below g4).fact OY.loc ox0).alloc11 (.slice b_x0.a b_x0.n b_x0.c) (.slice b_x0.ta b_x0.tn b_x0.tc) (.slice b_x0.da b_x0.dn b_x0.dc) (.slice b_x0.wa b_x0.wn b_x0.wc) (.slice b_x0.xa b_x0.xn b_x0.xc) (.int .i64 D0.ac) (.int .i64 D0.cz) (.slice b_x0.la b_x0.ln b_x0.lc) (.int .i64 D0.dv) (.slice b_x0.oa b_x0.on b_x0.oc) (.slice b_x0.ga b_x0.gn b_x0.gc) 47
  clear g4 M3 ox0 q0 q1 q2 q3 q4 q5 q6 q7 q8 q9 q10
  go_wp2_with fail
  refine (implAccessesOf_calls _ D0 _ (M4.get 0 rfl).rs (M4.get 0 rfl).lk).mono ?_
  rintro e w5 ⟨ra, rn, rc, rfl, or, g5⟩
  have zz5 := g5.size
  try simp only [World.size_alloc] at or zz5
  have M5 := ((M4.below g5).fact OA.loc or).alloc2 (.int .i64 (sysF D0)) (.slice ra rn rc) 74
  clear g5 M4 or
  have q0 := M5.cell 0 rfl
  have q1 := M5.cell 1 rfl
  have q2 := M5.cell 13 rfl
  have q3 := M5.cell 14 rfl
  go_wp2_with fail
  refine (eqAR_O (sysF D0) _ _ _ _ _ _ _ _ (aoL D0) _ (M5.get 0 rfl) (M5.get 2 rfl)).mono ?_
  rintro e w6 ⟨rfl, g6⟩
  have zz6 := g6.size
  try simp only [World.size_alloc] at zz6
  have M6 := M5.below g6
  clear g6 M5 q0 q1 q2 q3
  have q0 := M6.cell 2 rfl
  have q1 := M6.cell 3 rfl
  have q2 := M6.cell 4 rfl
  have q3 := M6.cell 5 rfl
  have q4 := M6.cell 6 rfl
  have q5 := M6.cell 7 rfl
  have q6 := M6.cell 8 rfl
  have q7 := M6.cell 9 rfl
  have q8 := M6.cell 10 rfl
  have q9 := M6.cell 11 rfl
  have q10 := M6.cell 12 rfl
  have q11 := M6.cell 15 rfl
  have q12 := M6.cell 16 rfl
  have q13 := M6.cell 17 rfl
  have q14 := M6.cell 18 rfl
  have q15 := M6.cell 19 rfl
  have q16 := M6.cell 20 rfl
  have q17 := M6.cell 21 rfl
  have q18 := M6.cell 22 rfl
  have q19 := M6.cell 23 rfl
  have q20 := M6.cell 24 rfl
  have q21 := M6.cell 25 rfl
  go_upto_region 10 with fail
  go_cut [31] (fun v wd => v = .bool false ∧ Below w6.heap.size w6 wd)
  case first =>
    go_region_with (first
      | (go_at_call 26; refine (toSystem_O A0 D0 _ (by omega) ?_).mono ?_; exact hs0.below M6.drew.bel (Nat.le_refl _); rintro e wa ⟨b_y, rfl, oy, ga⟩; have ha : Below w6.heap.size w6 wa := ((Below.refl w6.heap.size w6).drew).trans ga; have Ma := M6.below ha; have y0 := Ma.cell 2 rfl; have y1 := Ma.cell 3 rfl; have y2 := Ma.cell 4 rfl; have y3 := Ma.cell 5 rfl; have y4 := Ma.cell 6 rfl; have y5 := Ma.cell 7 rfl; have y6 := Ma.cell 8 rfl; have y7 := Ma.cell 9 rfl; have y8 := Ma.cell 10 rfl; have y9 := Ma.cell 11 rfl; have y10 := Ma.cell 12 rfl; clear ga)
      | (go_at_call 29; refine (eqSystem_O _ _ _ _ D0 _ (Ma.get 1 rfl) oy).mono ?_; rintro e wb ⟨rfl, gb⟩; have hb : Below w6.heap.size w6 wb := ha.trans (gb.mono ha.size); clear gb))
    all_goals go_wp2_with fail
    all_goals go_meet
    all_goals exact ⟨rfl, hb⟩
  case rest =>
    obtain ⟨rfl, g7⟩ := hcut
    obtain ⟨w7, rfl⟩ : ∃ x, x = wc := ⟨wc, rfl⟩
    have zz7 := g7.size
    have M7 := M6.below g7
    clear g7 M6 q0 q1 q2 q3 q4 q5 q6 q7 q8 q9 q10 q11 q12 q13 q14 q15 q16 q17 q18 q19 q20 q21
    have q0 := M7.cell 2 rfl
    have q1 := M7.cell 3 rfl
    have q2 := M7.cell 4 rfl
    have q3 := M7.cell 5 rfl
    have q4 := M7.cell 6 rfl
    have q5 := M7.cell 7 rfl
    have q6 := M7.cell 8 rfl
    have q7 := M7.cell 9 rfl
    have q8 := M7.cell 10 rfl
    have q9 := M7.cell 11 rfl
    have q10 := M7.cell 12 rfl
    go_wp2_with fail
    refine (markSystem_O _ _ D0 _ (M7.get 1 rfl) (fun k hk => by have := hk.2; omega)).mono ?_
    rintro e w8 ⟨rfl, _, ho⟩
    have zz8 := ho.size
    have M8 : Mm w w8 [(w5.heap.size, 0, .int .i64 (sysF D0)), (w5.heap.size, 1, .slice ra rn rc), (w3.heap.size, 0, .int .i64 (sysF D0)), (w3.heap.size, 1, .slice va vn vc), (w.heap.size, 0, .slice A0.a A0.n A0.c), (w.heap.size, 1, .slice A0.ta A0.tn A0.tc), (w.heap.size, 2, .slice A0.da A0.dn A0.dc), (w.heap.size, 3, .slice A0.wa A0.wn A0.wc), (w.heap.size, 4, .slice A0.xa A0.xn A0.xc), (w.heap.size, 5, .int .i64 D0.ac), (w.heap.size, 6, .int .i64 D0.cz), (w.heap.size, 7, .slice A0.la A0.ln A0.lc), (w.heap.size, 8, .int .i64 D0.dv), (w.heap.size, 9, .slice A0.oa A0.on A0.oc), (w.heap.size, 10, .slice A0.ga A0.gn A0.gc)] [(w4.heap.size + 1, w5.heap.size, OA (InR (w4.heap.size + 1) (w5.heap.size)) ra rn (aoL D0)), (w2.heap.size, w3.heap.size, OA (InR (w2.heap.size) (w3.heap.size)) va vn (aoL D0))] := (M7.sub (by simp) (by simp)).out ho (by omega) (by simp <;> omega) (by simp <;> omega)
    clear ho M7 q0 q1 q2 q3 q4 q5 q6 q7 q8 q9 q10
    have hlt1 : decide ((1 : Int) + (mkY b_x0 D0 : Int) < 0) = false := by simp; omega
    have q0 := M8.cell 0 rfl
    have q1 := M8.cell 1 rfl
    have q2 := M8.cell 2 rfl
    have q3 := M8.cell 3 rfl
    go_wp2_with fail
    refine (eqAR_O (sysF D0) _ _ _ _ _ _ _ _ (aoL D0) _ (M8.get 0 rfl) (M8.get 1 rfl)).mono ?_
    rintro e w9 ⟨rfl, g9⟩
    have zz9 := g9.size
    have M9 := M8.below g9
    clear g9 M8 q0 q1 q2 q3
    have q0 := M9.cell 0 rfl
    have q1 := M9.cell 1 rfl
    go_wp2_with fail
    refine (markAR_O _ _ _ _ _ _ 1 _ (by omega) (by omega) (M9.get 0 rfl)).mono ?_
    rintro e w10 ⟨rfl, om, ho⟩
    have zz10 := ho.size
    have M10a : Mm w w10 [(w5.heap.size, 0, .int .i64 (sysF D0)), (w5.heap.size, 1, .slice ra rn rc), (w3.heap.size, 0, .int .i64 (sysF D0)), (w3.heap.size, 1, .slice va vn vc), (w.heap.size, 0, .slice A0.a A0.n A0.c), (w.heap.size, 1, .slice A0.ta A0.tn A0.tc), (w.heap.size, 2, .slice A0.da A0.dn A0.dc), (w.heap.size, 3, .slice A0.wa A0.wn A0.wc), (w.heap.size, 4, .slice A0.xa A0.xn A0.xc), (w.heap.size, 5, .int .i64 D0.ac), (w.heap.size, 6, .int .i64 D0.cz), (w.heap.size, 7, .slice A0.la A0.ln A0.lc), (w.heap.size, 8, .int .i64 D0.dv), (w.heap.size, 9, .slice A0.oa A0.on A0.oc), (w.heap.size, 10, .slice A0.ga A0.gn A0.gc)] [(w2.heap.size, w3.heap.size, OA (InR (w2.heap.size) (w3.heap.size)) va vn (aoL D0))] := (M9.sub (by simp) (by simp)).out ho (by omega) (by simp <;> omega) (by simp <;> omega)
    have M10 := M10a.fact OA.loc om
    clear ho om M9 M10a q0 q1
    have q0 := M10.cell 0 rfl
    have q1 := M10.cell 1 rfl
    go_wp2_with fail
    refine (heldAR_O _ _ _ _ _ _ (M10.get 0 rfl)).mono ?_
    rintro e w11 ⟨rfl, g11⟩
    have zz11 := g11.size
    have M11 := M10.below g11
    clear g11 M10 q0 q1
    have hlt2 : decide ((1 : Int) + 5 * (rn : Int) < 0) = false := by simp; omega
    have q0 := M11.cell 4 rfl
    have q1 := M11.cell 5 rfl
    have q2 := M11.cell 6 rfl
    have q3 := M11.cell 7 rfl
    have q4 := M11.cell 8 rfl
    have q5 := M11.cell 9 rfl
    have q6 := M11.cell 10 rfl
    have q7 := M11.cell 11 rfl
    have q8 := M11.cell 12 rfl
    have q9 := M11.cell 13 rfl
    have q10 := M11.cell 14 rfl
    go_wp2_with fail
    refine (toSystem_O A0 D0 _ (by omega) (hs0.below M11.bel (Nat.le_refl _))).mono ?_
    rintro e w12 ⟨b_t, rfl, ot, g12⟩
    have zz12 := g12.size
    try simp only [World.size_alloc] at ot zz12
    have M12 := (M11.below g12).fact OY.loc ot
    clear g12 M11 ot q0 q1 q2 q3 q4 q5 q6 q7 q8 q9 q10
    go_wp2_with fail
    refine (implAccessesOf_calls _ D0 _ (M12.get 0 rfl).rs (M12.get 0 rfl).lk).mono ?_
    rintro e w13 ⟨ka, kn, kc, rfl, ok, g13⟩
    have zz13 := g13.size
    try simp only [World.size_alloc] at ok zz13
    have M13 := ((M12.below g13).fact OA.loc ok).alloc2 (.int .i64 (sysF D0)) (.slice ka kn kc) 74
    clear g13 M12 ok
    have q0 := M13.cell 0 rfl
    have q1 := M13.cell 1 rfl
    have q2 := M13.cell 4 rfl
    have q3 := M13.cell 5 rfl
    go_wp2_with fail
    refine (eqAR_O (sysF D0) _ _ _ _ _ _ _ _ (aoL D0) _ (M13.get 0 rfl) (M13.get 3 rfl)).mono ?_
    rintro e w14 ⟨rfl, g14⟩
    have M14 := M13.below g14
    clear g14 M13 q0 q1 q2 q3
    have q0 := M14.cell 2 rfl
    have q1 := M14.cell 3 rfl
    go_wp2_with fail
    refine (heldAR_O _ _ _ _ _ _ (M14.get 2 rfl)).mono ?_
    rintro e w15 ⟨rfl, g15⟩
    have zz15 := g15.size
    have M15 := M14.below g15
    clear g15 M14 q0 q1
    have HB := hide M15.bel
    clear M15
    go_wp2
    go_ret
    exact ⟨rfl, HB.out⟩

theorem walk_AccessesOf (A0 : SA) (D0 : SD) (w : World) (hs0 : RS w A0 D0) :
    Calls Tryz.prog 4 #[.agg #[.slice A0.a A0.n A0.c, .slice A0.ta A0.tn A0.tc, .slice A0.da A0.dn A0.dc, .slice A0.wa A0.wn A0.wc, .slice A0.xa A0.xn A0.xc, .int .i64 D0.ac, .int .i64 D0.cz, .slice A0.la A0.ln A0.lc, .int .i64 D0.dv, .slice A0.oa A0.on A0.oc, .slice A0.ga A0.gn A0.gc]] w fun e w' => e = .returned (.bool true) ∧ Below w.heap.size w w' := by
  by_cases hz0 : szY A0 D0 ≤ 1048576
  rotate_left
  · exact law_big0_AccessesOf A0 D0 w hs0 (by omega)
  exact law_small_AccessesOf A0 D0 w hs0 hz0

end Go.Proofs.YtbfmdnnbiidlkaaGreat
