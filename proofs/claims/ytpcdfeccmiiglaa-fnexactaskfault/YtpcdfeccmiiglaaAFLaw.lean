import Derived.Test.YtpcdfeccmiiglaaAkL
import Derived.Test.YtpcdfeccmiiglaaAkI
import Derived.WalkKit
import Derived.ProofKit
import Derived.OpenShut
import Derived.ShutString
import Derived.ChangeOld
import Derived.Below
import Derived.WalkSpells
import Derived.Deep.QuietTactic
import Derived.BigQuiet
import Derived.Deep.RegionWith
import Derived.Deep.WholeRow
import Derived.Deep.DeepCutAuto
import Derived.Deep.RegionHeld2
import Derived.Deep.AppendLies
import Derived.Deep.RegionLaw
namespace Go.Proofs.Ytpcdfeccmiiglaa
open Go.ChangeShapes Go.WideShapes Go.ChangeAt Go.RowKit

theorem Mm.alloc8 {w u : World} {cs : List (Nat × Nat × Value)} {fs : List (Nat × Nat × (World → Prop))} (h : Mm w u cs fs) (v0 v1 v2 v3 v4 v5 v6 v7 : Value) (t : TypeId) : Mm w (u.alloc (.cells #[v0, v1, v2, v3, v4, v5, v6, v7] t)) ((u.heap.size, 0, v0) :: (u.heap.size, 1, v1) :: (u.heap.size, 2, v2) :: (u.heap.size, 3, v3) :: (u.heap.size, 4, v4) :: (u.heap.size, 5, v5) :: (u.heap.size, 6, v6) :: (u.heap.size, 7, v7) :: cs) fs :=
  ((((((((h.below ((Below.refl _ _).alloc (Nat.le_refl _) (.cells #[v0, v1, v2, v3, v4, v5, v6, v7] t))).cons (by simp) (by simp)).cons (by simp) (by simp)).cons (by simp) (by simp)).cons (by simp) (by simp)).cons (by simp) (by simp)).cons (by simp) (by simp)).cons (by simp) (by simp)).cons (by simp) (by simp)

set_option maxRecDepth 100000 in
theorem law_big0_AskFault (A0 : AkA) (D0 : AkD) (w : World) (hs0 : RK w A0 D0) (hbig : 1048576 < szK A0) :
    Calls Try.prog 4 #[.agg #[.int .i64 D0.kd, .slice A0.pa A0.pn A0.pc, .int .i64 D0.wh, .slice A0.la A0.ln A0.lc, .int .i64 D0.qu, .int .i64 D0.po, .int .i64 D0.nn, .slice A0.da A0.dn A0.dc]] w fun e w' => e = .returned (.bool true) ∧ Below w.heap.size w w' := by
  have M0 := ((Mm.start w).alloc8 (.int .i64 D0.kd) (.slice A0.pa A0.pn A0.pc) (.int .i64 D0.wh) (.slice A0.la A0.ln A0.lc) (.int .i64 D0.qu) (.int .i64 D0.po) (.int .i64 D0.nn) (.slice A0.da A0.dn A0.dc) 44)
  try simp only [World.size_alloc] at M0
  go_enter Try.func4, Try.ntmps4
  go_wp2_with fail
  refine (szAsk_calls A0 D0 1048576 _ (by omega) (by omega) (hs0.below M0.bel (Nat.le_refl _))).mono ?_
  rintro e w1 ⟨rfl, g1⟩
  have M1 := M0.below g1
  clear g1 M0
  rw [szI_neg (by omega)]
  have HB := hide M1.bel
  clear M1
  go_wp2
  go_ret
  exact ⟨rfl, HB.out⟩

set_option maxRecDepth 100000 in
set_option maxHeartbeats 16000000 in
theorem law_small_AskFault (A0 : AkA) (D0 : AkD) (w : World) (hs0 : RK w A0 D0) (hz : szK A0 ≤ 1048576) :
    Calls Try.prog 4 #[.agg #[.int .i64 D0.kd, .slice A0.pa A0.pn A0.pc, .int .i64 D0.wh, .slice A0.la A0.ln A0.lc, .int .i64 D0.qu, .int .i64 D0.po, .int .i64 D0.nn, .slice A0.da A0.dn A0.dc]] w fun e w' => e = .returned (.bool true) ∧ Below w.heap.size w w' := by
  have hz0 : szK A0 ≤ 1048576 := by omega
  have M0 := ((Mm.start w).alloc8 (.int .i64 D0.kd) (.slice A0.pa A0.pn A0.pc) (.int .i64 D0.wh) (.slice A0.la A0.ln A0.lc) (.int .i64 D0.qu) (.int .i64 D0.po) (.int .i64 D0.nn) (.slice A0.da A0.dn A0.dc) 44)
  try simp only [World.size_alloc] at M0
  go_enter Try.func4, Try.ntmps4
  go_wp2_with fail
  refine (szAsk_calls A0 D0 1048576 _ (by omega) (by omega) (hs0.below M0.bel (Nat.le_refl _))).mono ?_
  rintro e w1 ⟨rfl, g1⟩
  have zz1 := g1.size
  try simp only [World.size_alloc] at zz1
  have M1 := M0.below g1
  clear g1 M0
  rw [szI_pos (by omega)]
  have hge0 : ¬ (1048576 - ((szK A0 : Nat) : Int) < 0) := by omega
  have q0 := M1.cell 0 rfl
  have q1 := M1.cell 1 rfl
  have q2 := M1.cell 2 rfl
  have q3 := M1.cell 3 rfl
  have q4 := M1.cell 4 rfl
  have q5 := M1.cell 5 rfl
  have q6 := M1.cell 6 rfl
  have q7 := M1.cell 7 rfl
  go_wp2_with fail
  refine (toAsk_O A0 D0 _ (by omega) (hs0.below M1.bel (Nat.le_refl _))).mono ?_
  rintro e w2 ⟨b_s, rfl, os, g2⟩
  have zz2 := g2.size
  try simp only [World.size_alloc] at os zz2
  have M2 := (M1.below g2).fact OAk.loc os
  clear g2 M1 os q0 q1 q2 q3 q4 q5 q6 q7
  go_wp2_with fail
  refine (specAskFault_calls _ D0 _ (M2.get 0 rfl).rk).mono ?_
  rintro e w3 ⟨rfl, g3⟩
  have zz3 := g3.size
  try simp only [World.size_alloc] at zz3
  have M3 := (M2.below g3)
  clear g3 M2
  have q0 := M3.cell 0 rfl
  have q1 := M3.cell 1 rfl
  have q2 := M3.cell 2 rfl
  have q3 := M3.cell 3 rfl
  have q4 := M3.cell 4 rfl
  have q5 := M3.cell 5 rfl
  have q6 := M3.cell 6 rfl
  have q7 := M3.cell 7 rfl
  go_wp2_with fail
  refine (toAsk_O A0 D0 _ (by omega) (hs0.below M3.bel (Nat.le_refl _))).mono ?_
  rintro e w4 ⟨b_x0, rfl, ox0, g4⟩
  have zz4 := g4.size
  try simp only [World.size_alloc] at ox0 zz4
  have M4 := ((M3.below g4).fact OAk.loc ox0).alloc8 (.int .i64 D0.kd) (.slice b_x0.pa b_x0.pn b_x0.pc) (.int .i64 D0.wh) (.slice b_x0.la b_x0.ln b_x0.lc) (.int .i64 D0.qu) (.int .i64 D0.po) (.int .i64 D0.nn) (.slice b_x0.da b_x0.dn b_x0.dc) 49
  clear g4 M3 ox0 q0 q1 q2 q3 q4 q5 q6 q7
  go_wp2_with fail
  refine (implAskFault_calls _ D0 _ (M4.get 0 rfl).rk).mono ?_
  rintro e w5 ⟨rfl, g5⟩
  have zz5 := g5.size
  try simp only [World.size_alloc] at zz5
  have M5 := (M4.below g5)
  clear g5 M4
  have hne : ((askF D0) != (askF D0)) = false := by simp
  have q0 := M5.cell 0 rfl
  have q1 := M5.cell 1 rfl
  have q2 := M5.cell 2 rfl
  have q3 := M5.cell 3 rfl
  have q4 := M5.cell 4 rfl
  have q5 := M5.cell 5 rfl
  have q6 := M5.cell 6 rfl
  have q7 := M5.cell 7 rfl
  have q8 := M5.cell 8 rfl
  have q9 := M5.cell 9 rfl
  have q10 := M5.cell 10 rfl
  have q11 := M5.cell 11 rfl
  have q12 := M5.cell 12 rfl
  have q13 := M5.cell 13 rfl
  have q14 := M5.cell 14 rfl
  have q15 := M5.cell 15 rfl
  go_upto_region 10 with fail
  go_cut [26] (fun v wd => v = .bool false ∧ Below w5.heap.size w5 wd)
  case first =>
    go_region_with (first
      | (go_at_call 22; refine (toAsk_O A0 D0 _ (by omega) ?_).mono ?_; exact hs0.below M5.drew.bel (Nat.le_refl _); rintro e wa ⟨b_y, rfl, oy, ga⟩; have ha : Below w5.heap.size w5 wa := ((Below.refl w5.heap.size w5).drew).trans ga; have Ma := M5.below ha; have y0 := Ma.cell 0 rfl; have y1 := Ma.cell 1 rfl; have y2 := Ma.cell 2 rfl; have y3 := Ma.cell 3 rfl; have y4 := Ma.cell 4 rfl; have y5 := Ma.cell 5 rfl; have y6 := Ma.cell 6 rfl; have y7 := Ma.cell 7 rfl; clear ga)
      | (go_at_call 24; refine (eqAsk_O _ _ _ _ D0 _ (Ma.get 0 rfl) oy).mono ?_; rintro e wb ⟨rfl, gb⟩; have hb : Below w5.heap.size w5 wb := ha.trans (gb.mono ha.size); clear gb))
    all_goals go_wp2_with fail
    all_goals go_meet
    all_goals exact ⟨rfl, hb⟩
  case rest =>
    obtain ⟨rfl, g6⟩ := hcut
    obtain ⟨w6, rfl⟩ : ∃ x, x = wc := ⟨wc, rfl⟩
    have zz6 := g6.size
    have M6 := M5.below g6
    clear g6 M5 q0 q1 q2 q3 q4 q5 q6 q7 q8 q9 q10 q11 q12 q13 q14 q15
    have HB := hide M6.bel
    clear M6
    go_wp2
    go_ret
    exact ⟨rfl, HB.out⟩

theorem walk_AskFault (A0 : AkA) (D0 : AkD) (w : World) (hs0 : RK w A0 D0) :
    Calls Try.prog 4 #[.agg #[.int .i64 D0.kd, .slice A0.pa A0.pn A0.pc, .int .i64 D0.wh, .slice A0.la A0.ln A0.lc, .int .i64 D0.qu, .int .i64 D0.po, .int .i64 D0.nn, .slice A0.da A0.dn A0.dc]] w fun e w' => e = .returned (.bool true) ∧ Below w.heap.size w w' := by
  by_cases hz0 : szK A0 ≤ 1048576
  rotate_left
  · exact law_big0_AskFault A0 D0 w hs0 (by omega)
  exact law_small_AskFault A0 D0 w hs0 hz0

end Go.Proofs.Ytpcdfeccmiiglaa
