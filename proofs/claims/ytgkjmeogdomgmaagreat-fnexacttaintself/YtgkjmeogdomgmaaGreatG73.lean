/-
  PROVED: for every system and number that FnExactTaintSelf is called with, the call returns true, and each argument reads afterwards as it read before.
  CONDITIONS: none beyond the row's own (no cell narrows it).
-/
import Derived.Test.YtgkjmeogdomgmaaGreatG72
import Derived.Test.YtgkjmeogdomgmaaGreatG26
import Derived.Test.YtgkjmeogdomgmaaGreatG15
import Derived.Test.YtgkjmeogdomgmaaGreatG18
import Derived.WalkKit
import Derived.ProofKit
import Derived.OpenShut
import Derived.ShutString
import Derived.ChangeOld
import Derived.Below
import Derived.WalkSpells
import Derived.Deep.QuietTactic
import Derived.BigQuiet
import Derived.Deep.RegionWith
import Derived.Deep.WholeRow
import Derived.Deep.DeepCutAuto
import Derived.Deep.RegionHeld2
import Derived.Deep.AppendLies
import Derived.Deep.RegionLaw
namespace Go.Proofs.YtgkjmeogdomgmaaGreat
open Go.ChangeShapes Go.WideShapes Go.ChangeAt Go.RowKit

set_option maxRecDepth 100000 in
theorem law_big0_TaintSelf (A0 : SA) (D0 : SD) (x1 : Int) (w : World) (hs0 : RS w A0 D0) (hbig : 1048576 < szY A0 D0) :
    Calls Tryz.prog 3 #[.agg #[.slice A0.a A0.n A0.c, .slice A0.ta A0.tn A0.tc, .slice A0.da A0.dn A0.dc, .slice A0.wa A0.wn A0.wc, .slice A0.xa A0.xn A0.xc, .int .i64 D0.ac, .int .i64 D0.cz, .slice A0.la A0.ln A0.lc, .int .i64 D0.dv, .slice A0.oa A0.on A0.oc, .slice A0.ga A0.gn A0.gc], .int .i64 x1] w fun e w' => e = .returned (.bool true) ∧ Below w.heap.size w w' := by
  have M0 := ((Mm.start w).alloc11 (.slice A0.a A0.n A0.c) (.slice A0.ta A0.tn A0.tc) (.slice A0.da A0.dn A0.dc) (.slice A0.wa A0.wn A0.wc) (.slice A0.xa A0.xn A0.xc) (.int .i64 D0.ac) (.int .i64 D0.cz) (.slice A0.la A0.ln A0.lc) (.int .i64 D0.dv) (.slice A0.oa A0.on A0.oc) (.slice A0.ga A0.gn A0.gc) 37)
  try simp only [World.size_alloc] at M0
  go_enter Tryz.func3, Tryz.ntmps3
  go_wp2_with fail
  refine (szSystem_calls A0 D0 1048576 _ (by omega) (by omega) (hs0.below M0.bel (Nat.le_refl _))).mono ?_
  rintro e w1 ⟨rfl, g1⟩
  have M1 := M0.below g1
  clear g1 M0
  rw [szI_neg (by omega)]
  have HB := hide M1.bel
  clear M1
  go_wp2
  go_ret
  exact ⟨rfl, HB.out⟩

set_option maxRecDepth 100000 in
set_option maxHeartbeats 16000000 in
theorem law_small_TaintSelf (A0 : SA) (D0 : SD) (x1 : Int) (w : World) (hs0 : RS w A0 D0) (hz : szY A0 D0 ≤ 1048576) :
    Calls Tryz.prog 3 #[.agg #[.slice A0.a A0.n A0.c, .slice A0.ta A0.tn A0.tc, .slice A0.da A0.dn A0.dc, .slice A0.wa A0.wn A0.wc, .slice A0.xa A0.xn A0.xc, .int .i64 D0.ac, .int .i64 D0.cz, .slice A0.la A0.ln A0.lc, .int .i64 D0.dv, .slice A0.oa A0.on A0.oc, .slice A0.ga A0.gn A0.gc], .int .i64 x1] w fun e w' => e = .returned (.bool true) ∧ Below w.heap.size w w' := by
  have hz0 : szY A0 D0 ≤ 1048576 := by omega
  have M0 := ((Mm.start w).alloc11 (.slice A0.a A0.n A0.c) (.slice A0.ta A0.tn A0.tc) (.slice A0.da A0.dn A0.dc) (.slice A0.wa A0.wn A0.wc) (.slice A0.xa A0.xn A0.xc) (.int .i64 D0.ac) (.int .i64 D0.cz) (.slice A0.la A0.ln A0.lc) (.int .i64 D0.dv) (.slice A0.oa A0.on A0.oc) (.slice A0.ga A0.gn A0.gc) 37)
  try simp only [World.size_alloc] at M0
  go_enter Tryz.func3, Tryz.ntmps3
  go_wp2_with fail
  refine (szSystem_calls A0 D0 1048576 _ (by omega) (by omega) (hs0.below M0.bel (Nat.le_refl _))).mono ?_
  rintro e w1 ⟨rfl, g1⟩
  have zz1 := g1.size
  try simp only [World.size_alloc] at zz1
  have M1 := M0.below g1
  clear g1 M0
  rw [szI_pos (by omega)]
  have hge0 : ¬ (1048576 - ((szY A0 D0 : Nat) : Int) < 0) := by omega
  have q0 := M1.cell 0 rfl
  have q1 := M1.cell 1 rfl
  have q2 := M1.cell 2 rfl
  have q3 := M1.cell 3 rfl
  have q4 := M1.cell 4 rfl
  have q5 := M1.cell 5 rfl
  have q6 := M1.cell 6 rfl
  have q7 := M1.cell 7 rfl
  have q8 := M1.cell 8 rfl
  have q9 := M1.cell 9 rfl
  have q10 := M1.cell 10 rfl
  go_wp2_with fail
  refine (toSystem_O A0 D0 _ (by omega) (hs0.below M1.bel (Nat.le_refl _))).mono ?_
  rintro e w2 ⟨b_s, rfl, os, g2⟩
  have zz2 := g2.size
  try simp only [World.size_alloc] at os zz2
  have M2 := (M1.below g2).fact OY.loc os
  clear g2 M1 os q0 q1 q2 q3 q4 q5 q6 q7 q8 q9 q10
  go_wp2_with fail
  refine (specTaintSelf_calls _ D0 x1 _ (M2.get 0 rfl).rs (M2.get 0 rfl).lk (M2.get 0 rfl).sz).mono ?_
  rintro e w3 ⟨vA, rfl, ov, g3⟩
  have zz3 := g3.size
  try simp only [World.size_alloc] at ov zz3
  have M3 := ((M2.below g3).fact OY.loc ov).alloc13 (.int .i64 (sysF D0)) (.int .i64 (tmS D0 x1)) (.slice vA.a vA.n vA.c) (.slice vA.ta vA.tn vA.tc) (.slice vA.da vA.dn vA.dc) (.slice vA.wa vA.wn vA.wc) (.slice vA.xa vA.xn vA.xc) (.int .i64 (tmD D0 x1).ac) (.int .i64 (tmD D0 x1).cz) (.slice vA.la vA.ln vA.lc) (.int .i64 (tmD D0 x1).dv) (.slice vA.oa vA.on vA.oc) (.slice vA.ga vA.gn vA.gc) 55
  clear g3 M2 ov
  have q0 := M3.cell 13 rfl
  have q1 := M3.cell 14 rfl
  have q2 := M3.cell 15 rfl
  have q3 := M3.cell 16 rfl
  have q4 := M3.cell 17 rfl
  have q5 := M3.cell 18 rfl
  have q6 := M3.cell 19 rfl
  have q7 := M3.cell 20 rfl
  have q8 := M3.cell 21 rfl
  have q9 := M3.cell 22 rfl
  have q10 := M3.cell 23 rfl
  go_wp2_with fail
  refine (toSystem_O A0 D0 _ (by omega) (hs0.below M3.bel (Nat.le_refl _))).mono ?_
  rintro e w4 ⟨b_x0, rfl, ox0, g4⟩
  have zz4 := g4.size
  try simp only [World.size_alloc] at ox0 zz4
  have M4 := ((M3.below g4).fact OY.loc ox0).alloc11 (.slice b_x0.a b_x0.n b_x0.c) (.slice b_x0.ta b_x0.tn b_x0.tc) (.slice b_x0.da b_x0.dn b_x0.dc) (.slice b_x0.wa b_x0.wn b_x0.wc) (.slice b_x0.xa b_x0.xn b_x0.xc) (.int .i64 D0.ac) (.int .i64 D0.cz) (.slice b_x0.la b_x0.ln b_x0.lc) (.int .i64 D0.dv) (.slice b_x0.oa b_x0.on b_x0.oc) (.slice b_x0.ga b_x0.gn b_x0.gc) 53
  clear g4 M3 ox0 q0 q1 q2 q3 q4 q5 q6 q7 q8 q9 q10
  go_wp2_with fail
  refine (implTaintSelf_calls _ D0 x1 _ (M4.get 0 rfl).rs (M4.get 0 rfl).lk (M4.get 0 rfl).sz).mono ?_
  rintro e w5 ⟨rA, rfl, or, g5⟩
  have zz5 := g5.size
  try simp only [World.size_alloc] at or zz5
  have M5 := ((M4.below g5).fact OY.loc or).alloc13 (.int .i64 (sysF D0)) (.int .i64 (tmS D0 x1)) (.slice rA.a rA.n rA.c) (.slice rA.ta rA.tn rA.tc) (.slice rA.da rA.dn rA.dc) (.slice rA.wa rA.wn rA.wc) (.slice rA.xa rA.xn rA.xc) (.int .i64 (tmD D0 x1).ac) (.int .i64 (tmD D0 x1).cz) (.slice rA.la rA.ln rA.lc) (.int .i64 (tmD D0 x1).dv) (.slice rA.oa rA.on rA.oc) (.slice rA.ga rA.gn rA.gc) 55
  clear g5 M4 or
  have q0 := M5.cell 0 rfl
  have q1 := M5.cell 1 rfl
  have q2 := M5.cell 2 rfl
  have q3 := M5.cell 3 rfl
  have q4 := M5.cell 4 rfl
  have q5 := M5.cell 5 rfl
  have q6 := M5.cell 6 rfl
  have q7 := M5.cell 7 rfl
  have q8 := M5.cell 8 rfl
  have q9 := M5.cell 9 rfl
  have q10 := M5.cell 10 rfl
  have q11 := M5.cell 11 rfl
  have q12 := M5.cell 12 rfl
  have q13 := M5.cell 24 rfl
  have q14 := M5.cell 25 rfl
  have q15 := M5.cell 26 rfl
  have q16 := M5.cell 27 rfl
  have q17 := M5.cell 28 rfl
  have q18 := M5.cell 29 rfl
  have q19 := M5.cell 30 rfl
  have q20 := M5.cell 31 rfl
  have q21 := M5.cell 32 rfl
  have q22 := M5.cell 33 rfl
  have q23 := M5.cell 34 rfl
  have q24 := M5.cell 35 rfl
  have q25 := M5.cell 36 rfl
  go_wp2_with fail
  refine (eqYR_O (sysF D0) (tmS D0 x1) (tmD D0 x1) (M5.get 0 rfl) (M5.get 2 rfl)).mono ?_
  rintro e w6 ⟨rfl, g6⟩
  have zz6 := g6.size
  try simp only [World.size_alloc] at zz6
  have M6 := M5.below g6
  clear g6 M5 q0 q1 q2 q3 q4 q5 q6 q7 q8 q9 q10 q11 q12 q13 q14 q15 q16 q17 q18 q19 q20 q21 q22 q23 q24 q25
  have q0 := M6.cell 13 rfl
  have q1 := M6.cell 14 rfl
  have q2 := M6.cell 15 rfl
  have q3 := M6.cell 16 rfl
  have q4 := M6.cell 17 rfl
  have q5 := M6.cell 18 rfl
  have q6 := M6.cell 19 rfl
  have q7 := M6.cell 20 rfl
  have q8 := M6.cell 21 rfl
  have q9 := M6.cell 22 rfl
  have q10 := M6.cell 23 rfl
  have q11 := M6.cell 37 rfl
  have q12 := M6.cell 38 rfl
  have q13 := M6.cell 39 rfl
  have q14 := M6.cell 40 rfl
  have q15 := M6.cell 41 rfl
  have q16 := M6.cell 42 rfl
  have q17 := M6.cell 43 rfl
  have q18 := M6.cell 44 rfl
  have q19 := M6.cell 45 rfl
  have q20 := M6.cell 46 rfl
  have q21 := M6.cell 47 rfl
  go_upto_region 10 with fail
  go_cut [35] (fun v wd => v = .bool false ∧ Below w6.heap.size w6 wd)
  case first =>
    go_region_with (first
      | (go_at_call 6; refine (toSystem_O A0 D0 _ (by omega) ?_).mono ?_; exact hs0.below M6.drew.bel (Nat.le_refl _); rintro e wa ⟨b_y, rfl, oy, ga⟩; have ha : Below w6.heap.size w6 wa := ((Below.refl w6.heap.size w6).drew).trans ga; have Ma := M6.below ha; have y0 := Ma.cell 13 rfl; have y1 := Ma.cell 14 rfl; have y2 := Ma.cell 15 rfl; have y3 := Ma.cell 16 rfl; have y4 := Ma.cell 17 rfl; have y5 := Ma.cell 18 rfl; have y6 := Ma.cell 19 rfl; have y7 := Ma.cell 20 rfl; have y8 := Ma.cell 21 rfl; have y9 := Ma.cell 22 rfl; have y10 := Ma.cell 23 rfl; clear ga)
      | (go_at_call 9; refine (eqSystem_O _ _ _ _ D0 _ (Ma.get 1 rfl) oy).mono ?_; rintro e wb ⟨rfl, gb⟩; have hb : Below w6.heap.size w6 wb := ha.trans (gb.mono ha.size); clear gb))
    all_goals go_wp2_with fail
    all_goals go_meet
    all_goals exact ⟨rfl, hb⟩
  case rest =>
    obtain ⟨rfl, g7⟩ := hcut
    obtain ⟨w7, rfl⟩ : ∃ x, x = wc := ⟨wc, rfl⟩
    have zz7 := g7.size
    have M7 := M6.below g7
    clear g7 M6 q0 q1 q2 q3 q4 q5 q6 q7 q8 q9 q10 q11 q12 q13 q14 q15 q16 q17 q18 q19 q20 q21
    have q0 := M7.cell 13 rfl
    have q1 := M7.cell 14 rfl
    have q2 := M7.cell 15 rfl
    have q3 := M7.cell 16 rfl
    have q4 := M7.cell 17 rfl
    have q5 := M7.cell 18 rfl
    have q6 := M7.cell 19 rfl
    have q7 := M7.cell 20 rfl
    have q8 := M7.cell 21 rfl
    have q9 := M7.cell 22 rfl
    have q10 := M7.cell 23 rfl
    go_wp2_with fail
    refine (markSystem_O _ _ D0 _ (M7.get 1 rfl) (fun k hk => by have := hk.2; omega)).mono ?_
    rintro e w8 ⟨rfl, _, ho⟩
    have zz8 := ho.size
    have M8 : Mm w w8 [(w5.heap.size, 0, .int .i64 (sysF D0)), (w5.heap.size, 1, .int .i64 (tmS D0 x1)), (w5.heap.size, 2, .slice rA.a rA.n rA.c), (w5.heap.size, 3, .slice rA.ta rA.tn rA.tc), (w5.heap.size, 4, .slice rA.da rA.dn rA.dc), (w5.heap.size, 5, .slice rA.wa rA.wn rA.wc), (w5.heap.size, 6, .slice rA.xa rA.xn rA.xc), (w5.heap.size, 7, .int .i64 (tmD D0 x1).ac), (w5.heap.size, 8, .int .i64 (tmD D0 x1).cz), (w5.heap.size, 9, .slice rA.la rA.ln rA.lc), (w5.heap.size, 10, .int .i64 (tmD D0 x1).dv), (w5.heap.size, 11, .slice rA.oa rA.on rA.oc), (w5.heap.size, 12, .slice rA.ga rA.gn rA.gc), (w3.heap.size, 0, .int .i64 (sysF D0)), (w3.heap.size, 1, .int .i64 (tmS D0 x1)), (w3.heap.size, 2, .slice vA.a vA.n vA.c), (w3.heap.size, 3, .slice vA.ta vA.tn vA.tc), (w3.heap.size, 4, .slice vA.da vA.dn vA.dc), (w3.heap.size, 5, .slice vA.wa vA.wn vA.wc), (w3.heap.size, 6, .slice vA.xa vA.xn vA.xc), (w3.heap.size, 7, .int .i64 (tmD D0 x1).ac), (w3.heap.size, 8, .int .i64 (tmD D0 x1).cz), (w3.heap.size, 9, .slice vA.la vA.ln vA.lc), (w3.heap.size, 10, .int .i64 (tmD D0 x1).dv), (w3.heap.size, 11, .slice vA.oa vA.on vA.oc), (w3.heap.size, 12, .slice vA.ga vA.gn vA.gc), (w.heap.size, 0, .slice A0.a A0.n A0.c), (w.heap.size, 1, .slice A0.ta A0.tn A0.tc), (w.heap.size, 2, .slice A0.da A0.dn A0.dc), (w.heap.size, 3, .slice A0.wa A0.wn A0.wc), (w.heap.size, 4, .slice A0.xa A0.xn A0.xc), (w.heap.size, 5, .int .i64 D0.ac), (w.heap.size, 6, .int .i64 D0.cz), (w.heap.size, 7, .slice A0.la A0.ln A0.lc), (w.heap.size, 8, .int .i64 D0.dv), (w.heap.size, 9, .slice A0.oa A0.on A0.oc), (w.heap.size, 10, .slice A0.ga A0.gn A0.gc)] [(w4.heap.size + 1, w5.heap.size, OY (InR (w4.heap.size + 1) (w5.heap.size)) rA (tmD D0 x1)), (w2.heap.size, w3.heap.size, OY (InR (w2.heap.size) (w3.heap.size)) vA (tmD D0 x1))] := (M7.sub (by simp) (by simp)).out ho (by omega) (by simp <;> omega) (by simp <;> omega)
    clear ho M7 q0 q1 q2 q3 q4 q5 q6 q7 q8 q9 q10
    have hlt1 : decide ((1 : Int) + (mkY b_x0 D0 : Int) < 0) = false := by simp; omega
    have q0 := M8.cell 0 rfl
    have q1 := M8.cell 1 rfl
    have q2 := M8.cell 2 rfl
    have q3 := M8.cell 3 rfl
    have q4 := M8.cell 4 rfl
    have q5 := M8.cell 5 rfl
    have q6 := M8.cell 6 rfl
    have q7 := M8.cell 7 rfl
    have q8 := M8.cell 8 rfl
    have q9 := M8.cell 9 rfl
    have q10 := M8.cell 10 rfl
    have q11 := M8.cell 11 rfl
    have q12 := M8.cell 12 rfl
    have q13 := M8.cell 13 rfl
    have q14 := M8.cell 14 rfl
    have q15 := M8.cell 15 rfl
    have q16 := M8.cell 16 rfl
    have q17 := M8.cell 17 rfl
    have q18 := M8.cell 18 rfl
    have q19 := M8.cell 19 rfl
    have q20 := M8.cell 20 rfl
    have q21 := M8.cell 21 rfl
    have q22 := M8.cell 22 rfl
    have q23 := M8.cell 23 rfl
    have q24 := M8.cell 24 rfl
    have q25 := M8.cell 25 rfl
    go_wp2_with fail
    refine (eqYR_O (sysF D0) (tmS D0 x1) (tmD D0 x1) (M8.get 0 rfl) (M8.get 1 rfl)).mono ?_
    rintro e w9 ⟨rfl, g9⟩
    have zz9 := g9.size
    have M9 := M8.below g9
    clear g9 M8 q0 q1 q2 q3 q4 q5 q6 q7 q8 q9 q10 q11 q12 q13 q14 q15 q16 q17 q18 q19 q20 q21 q22 q23 q24 q25
    have q0 := M9.cell 0 rfl
    have q1 := M9.cell 1 rfl
    have q2 := M9.cell 2 rfl
    have q3 := M9.cell 3 rfl
    have q4 := M9.cell 4 rfl
    have q5 := M9.cell 5 rfl
    have q6 := M9.cell 6 rfl
    have q7 := M9.cell 7 rfl
    have q8 := M9.cell 8 rfl
    have q9 := M9.cell 9 rfl
    have q10 := M9.cell 10 rfl
    have q11 := M9.cell 11 rfl
    have q12 := M9.cell 12 rfl
    go_wp2_with fail
    refine (markYR_O _ _  (M9.get 0 rfl) (fun k hk => by have := hk.2; omega)).mono ?_
    rintro e w10 ⟨rfl, om, ho⟩
    have zz10 := ho.size
    have M10a : Mm w w10 [(w5.heap.size, 0, .int .i64 (sysF D0)), (w5.heap.size, 1, .int .i64 (tmS D0 x1)), (w5.heap.size, 2, .slice rA.a rA.n rA.c), (w5.heap.size, 3, .slice rA.ta rA.tn rA.tc), (w5.heap.size, 4, .slice rA.da rA.dn rA.dc), (w5.heap.size, 5, .slice rA.wa rA.wn rA.wc), (w5.heap.size, 6, .slice rA.xa rA.xn rA.xc), (w5.heap.size, 7, .int .i64 (tmD D0 x1).ac), (w5.heap.size, 8, .int .i64 (tmD D0 x1).cz), (w5.heap.size, 9, .slice rA.la rA.ln rA.lc), (w5.heap.size, 10, .int .i64 (tmD D0 x1).dv), (w5.heap.size, 11, .slice rA.oa rA.on rA.oc), (w5.heap.size, 12, .slice rA.ga rA.gn rA.gc), (w3.heap.size, 0, .int .i64 (sysF D0)), (w3.heap.size, 1, .int .i64 (tmS D0 x1)), (w3.heap.size, 2, .slice vA.a vA.n vA.c), (w3.heap.size, 3, .slice vA.ta vA.tn vA.tc), (w3.heap.size, 4, .slice vA.da vA.dn vA.dc), (w3.heap.size, 5, .slice vA.wa vA.wn vA.wc), (w3.heap.size, 6, .slice vA.xa vA.xn vA.xc), (w3.heap.size, 7, .int .i64 (tmD D0 x1).ac), (w3.heap.size, 8, .int .i64 (tmD D0 x1).cz), (w3.heap.size, 9, .slice vA.la vA.ln vA.lc), (w3.heap.size, 10, .int .i64 (tmD D0 x1).dv), (w3.heap.size, 11, .slice vA.oa vA.on vA.oc), (w3.heap.size, 12, .slice vA.ga vA.gn vA.gc), (w.heap.size, 0, .slice A0.a A0.n A0.c), (w.heap.size, 1, .slice A0.ta A0.tn A0.tc), (w.heap.size, 2, .slice A0.da A0.dn A0.dc), (w.heap.size, 3, .slice A0.wa A0.wn A0.wc), (w.heap.size, 4, .slice A0.xa A0.xn A0.xc), (w.heap.size, 5, .int .i64 D0.ac), (w.heap.size, 6, .int .i64 D0.cz), (w.heap.size, 7, .slice A0.la A0.ln A0.lc), (w.heap.size, 8, .int .i64 D0.dv), (w.heap.size, 9, .slice A0.oa A0.on A0.oc), (w.heap.size, 10, .slice A0.ga A0.gn A0.gc)] [(w2.heap.size, w3.heap.size, OY (InR (w2.heap.size) (w3.heap.size)) vA (tmD D0 x1))] := (M9.sub (by simp) (by simp)).out ho (by omega) (by simp <;> omega) (by simp <;> omega)
    have M10 := M10a.fact OY.loc om
    clear ho om M9 M10a q0 q1 q2 q3 q4 q5 q6 q7 q8 q9 q10 q11 q12
    have q0 := M10.cell 0 rfl
    have q1 := M10.cell 1 rfl
    have q2 := M10.cell 2 rfl
    have q3 := M10.cell 3 rfl
    have q4 := M10.cell 4 rfl
    have q5 := M10.cell 5 rfl
    have q6 := M10.cell 6 rfl
    have q7 := M10.cell 7 rfl
    have q8 := M10.cell 8 rfl
    have q9 := M10.cell 9 rfl
    have q10 := M10.cell 10 rfl
    have q11 := M10.cell 11 rfl
    have q12 := M10.cell 12 rfl
    go_wp2_with fail
    refine (heldYR_O _ _  (M10.get 0 rfl)).mono ?_
    rintro e w11 ⟨rfl, g11⟩
    have zz11 := g11.size
    have M11 := M10.below g11
    clear g11 M10 q0 q1 q2 q3 q4 q5 q6 q7 q8 q9 q10 q11 q12
    have hlt2 : decide ((1 : Int) + (mkY rA (tmD D0 x1) : Int) < 0) = false := by simp; omega
    have q0 := M11.cell 26 rfl
    have q1 := M11.cell 27 rfl
    have q2 := M11.cell 28 rfl
    have q3 := M11.cell 29 rfl
    have q4 := M11.cell 30 rfl
    have q5 := M11.cell 31 rfl
    have q6 := M11.cell 32 rfl
    have q7 := M11.cell 33 rfl
    have q8 := M11.cell 34 rfl
    have q9 := M11.cell 35 rfl
    have q10 := M11.cell 36 rfl
    go_wp2_with fail
    refine (toSystem_O A0 D0 _ (by omega) (hs0.below M11.bel (Nat.le_refl _))).mono ?_
    rintro e w12 ⟨b_t, rfl, ot, g12⟩
    have zz12 := g12.size
    try simp only [World.size_alloc] at ot zz12
    have M12 := (M11.below g12).fact OY.loc ot
    clear g12 M11 ot q0 q1 q2 q3 q4 q5 q6 q7 q8 q9 q10
    go_wp2_with fail
    refine (implTaintSelf_calls _ D0 x1 _ (M12.get 0 rfl).rs (M12.get 0 rfl).lk (M12.get 0 rfl).sz).mono ?_
    rintro e w13 ⟨kA, rfl, ok, g13⟩
    have zz13 := g13.size
    try simp only [World.size_alloc] at ok zz13
    have M13 := ((M12.below g13).fact OY.loc ok).alloc13 (.int .i64 (sysF D0)) (.int .i64 (tmS D0 x1)) (.slice kA.a kA.n kA.c) (.slice kA.ta kA.tn kA.tc) (.slice kA.da kA.dn kA.dc) (.slice kA.wa kA.wn kA.wc) (.slice kA.xa kA.xn kA.xc) (.int .i64 (tmD D0 x1).ac) (.int .i64 (tmD D0 x1).cz) (.slice kA.la kA.ln kA.lc) (.int .i64 (tmD D0 x1).dv) (.slice kA.oa kA.on kA.oc) (.slice kA.ga kA.gn kA.gc) 55
    clear g13 M12 ok
    have q0 := M13.cell 0 rfl
    have q1 := M13.cell 1 rfl
    have q2 := M13.cell 2 rfl
    have q3 := M13.cell 3 rfl
    have q4 := M13.cell 4 rfl
    have q5 := M13.cell 5 rfl
    have q6 := M13.cell 6 rfl
    have q7 := M13.cell 7 rfl
    have q8 := M13.cell 8 rfl
    have q9 := M13.cell 9 rfl
    have q10 := M13.cell 10 rfl
    have q11 := M13.cell 11 rfl
    have q12 := M13.cell 12 rfl
    have q13 := M13.cell 26 rfl
    have q14 := M13.cell 27 rfl
    have q15 := M13.cell 28 rfl
    have q16 := M13.cell 29 rfl
    have q17 := M13.cell 30 rfl
    have q18 := M13.cell 31 rfl
    have q19 := M13.cell 32 rfl
    have q20 := M13.cell 33 rfl
    have q21 := M13.cell 34 rfl
    have q22 := M13.cell 35 rfl
    have q23 := M13.cell 36 rfl
    have q24 := M13.cell 37 rfl
    have q25 := M13.cell 38 rfl
    go_wp2_with fail
    refine (eqYR_O (sysF D0) (tmS D0 x1) (tmD D0 x1) (M13.get 0 rfl) (M13.get 3 rfl)).mono ?_
    rintro e w14 ⟨rfl, g14⟩
    have M14 := M13.below g14
    clear g14 M13 q0 q1 q2 q3 q4 q5 q6 q7 q8 q9 q10 q11 q12 q13 q14 q15 q16 q17 q18 q19 q20 q21 q22 q23 q24 q25
    have q0 := M14.cell 13 rfl
    have q1 := M14.cell 14 rfl
    have q2 := M14.cell 15 rfl
    have q3 := M14.cell 16 rfl
    have q4 := M14.cell 17 rfl
    have q5 := M14.cell 18 rfl
    have q6 := M14.cell 19 rfl
    have q7 := M14.cell 20 rfl
    have q8 := M14.cell 21 rfl
    have q9 := M14.cell 22 rfl
    have q10 := M14.cell 23 rfl
    have q11 := M14.cell 24 rfl
    have q12 := M14.cell 25 rfl
    go_wp2_with fail
    refine (heldYR_O _ _  (M14.get 2 rfl)).mono ?_
    rintro e w15 ⟨rfl, g15⟩
    have zz15 := g15.size
    have M15 := M14.below g15
    clear g15 M14 q0 q1 q2 q3 q4 q5 q6 q7 q8 q9 q10 q11 q12
    have HB := hide M15.bel
    clear M15
    go_wp2
    go_ret
    exact ⟨rfl, HB.out⟩

theorem walk_TaintSelf (A0 : SA) (D0 : SD) (x1 : Int) (w : World) (hs0 : RS w A0 D0) :
    Calls Tryz.prog 3 #[.agg #[.slice A0.a A0.n A0.c, .slice A0.ta A0.tn A0.tc, .slice A0.da A0.dn A0.dc, .slice A0.wa A0.wn A0.wc, .slice A0.xa A0.xn A0.xc, .int .i64 D0.ac, .int .i64 D0.cz, .slice A0.la A0.ln A0.lc, .int .i64 D0.dv, .slice A0.oa A0.on A0.oc, .slice A0.ga A0.gn A0.gc], .int .i64 x1] w fun e w' => e = .returned (.bool true) ∧ Below w.heap.size w w' := by
  by_cases hz0 : szY A0 D0 ≤ 1048576
  rotate_left
  · exact law_big0_TaintSelf A0 D0 x1 w hs0 (by omega)
  exact law_small_TaintSelf A0 D0 x1 w hs0 hz0



theorem own : ownKnob Tryz.prog.godebug = none := by kernel_rfl

theorem laidOut : laidOutB Tryz.prog = true := by kernel_rfl

set_option maxRecDepth 100000 in
theorem lifted_TaintSelf (os : Os) (started : os.Started) (H : Type) (enc : TypeId × Value → H) :
    ReturnsInHanded {} Tryz.checked os 3 .any (Rows.fnExactTaintSelfSpec.pre6 enc Tryz.prog Tryz.f3 Rows.fnExactTaintSelfRow.domain false) (Rows.fnExactTaintSelfSpec.post enc Tryz.prog Tryz.f3 false true false false) := by
  refine returnsInHanded_of_change (C := Tryz.checked) own started (by kernel_rfl) Tryz.func3
    (ChangeSpec.witness6 (enc := enc) (C := Tryz.checked) false ⟨#[], #[.agg #[.slice none 0 0, .slice none 0 0, .slice none 0 0, .slice none 0 0, .slice none 0 0, .int .i64 0, .int .i64 0, .slice none 0 0, .int .i64 0, .slice none 0 0, .slice none 0 0], .int .i64 0], []⟩ 8 (by kernel_rfl) (by kernel_rfl) (by kernel_rfl) (by kernel_rfl)) ?_
  intro W base args ds gs before hval0 hW hcnd _
  have hval : ∀ (j : Nat) t v, Tryz.f3.params[j]? = some t → args[j]? = some v → Value.okWide Tryz.prog W .any base t v := hval0
  have hW' := hW
  obtain ⟨p, q, hA0, hV, rfl, hfz, hnd⟩ := hW
  have hA : DataW.TrodAll enc Tryz.prog W 0 (fun _ => true) true Tryz.f3.params.toList args.toList ds p := hA0
  rw [Tryz.params3] at hA hval
  obtain ⟨v0, vs0, d0, ds0, p0, q0, hargs, rfl, rfl, h0, r0⟩ := trodAll_cons hA
  obtain ⟨v1, vs1, d1, ds1, p1, q1, rfl, rfl, rfl, h1, r1⟩ := trodAll_cons r0
  obtain ⟨rfl, rfl, rfl⟩ := trodAll_nil r1
  obtain rfl : args = #[v0, v1] := by cases args; simp_all
  obtain ⟨rfl, rfl⟩ := trodVars_none hV
  have k0 := h0
  have lt0 : ∀ x ∈ p0, x.block < W.heap.size := by obtain ⟨m, hm⟩ := k0; exact DataW.trod_lt m _ _ _ hm
  obtain ⟨A0, D0, rfl, hs0⟩ := open_sys (hval 0 37 v0 rfl rfl) h0
  have k1 := h1
  have lt1 : ∀ x ∈ p1, x.block < W.heap.size := by obtain ⟨m, hm⟩ := k1; exact DataW.trod_lt m _ _ _ hm
  obtain ⟨x1, rfl⟩ := open_num Tryz.underlying2 (hval 1 2 v1 rfl rfl) h1
  clear hA0 hval0
  refine (walk_TaintSelf A0 D0 x1 W hs0 ).mono fun e W' ⟨he, bel⟩ => ?_
  subst he
  exact ⟨_, rfl, _, _, _, [], _, [], hW', trodAll_mk1 (shut_bool Tryz.underlying4 _), (trodAll_cons_mk (Below.trod laidOut (by kernel_rfl) (of_decide_eq_true (by kernel_rfl)) k0 bel lt0) (trodAll_cons_mk (Below.trod laidOut (by kernel_rfl) (of_decide_eq_true (by kernel_rfl)) k1 bel lt1) trodAll_mk0)), rfl, bel.frame _, fun h => by cases h⟩

theorem fnExactTaintSelf_holds : Rows.FnExactTaintSelfSaid :=
  OpenClaim.holds_of_wide 3 Tryz.f3 rfl rfl rfl rfl rfl rfl rfl ⟨rfl, rfl, rfl, rfl, rfl⟩ rfl rfl rfl rfl rfl (by kernel_rfl) Tryz.func3 (by kernel_rfl)
    (of_decide_eq_true (by kernel_rfl)) (by unfold Func.isWrapper; first | (rw [if_pos (by decide +kernel)]; kernel_rfl) | (rw [if_neg (by decide +kernel)]; exact ⟨rfl, rfl⟩))
    (fun os started H enc _ => lifted_TaintSelf os started H enc)
#print axioms fnExactTaintSelf_holds

end Go.Proofs.YtgkjmeogdomgmaaGreat
