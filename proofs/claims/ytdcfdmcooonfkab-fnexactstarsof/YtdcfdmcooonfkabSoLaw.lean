import Derived.Test.YtdcfdmcooonfkabPaId
import Derived.Test.YtdcfdmcooonfkabPaN
import Derived.WalkKit
import Derived.ProofKit
import Derived.OpenShut
import Derived.ShutString
import Derived.ChangeOld
import Derived.Below
import Derived.WalkSpells
import Derived.Deep.QuietTactic
import Derived.BigQuiet
import Derived.Deep.RegionWith
import Derived.Deep.WholeRow
import Derived.Deep.DeepCutAuto
import Derived.Deep.RegionHeld2
import Derived.Deep.AppendLies
import Derived.Deep.RegionLaw
namespace Go.Proofs.Ytdcfdmcooonfkab
open Go.ChangeShapes Go.WideShapes Go.ChangeAt Go.RowKit

set_option maxRecDepth 100000 in
theorem law_big0_StarsOf (a0 : Option Addr) (l0 c0 : Nat) (z0 : List Int) (w : World) (hm0 : l0 ≤ maxLen) (hs0 : Sl w a0 l0 z0) (hbig : 1048576 < l0) :
    Calls Try.prog 4 #[.agg #[.slice a0 l0 c0]] w fun e w' => e = .returned (.bool true) ∧ Below w.heap.size w w' := by
  have _ := hs0
  have M0 := ((Mm.start w).alloc1 (.slice a0 l0 c0) 24)
  try simp only [World.size_alloc] at M0
  go_enter Try.func4, Try.ntmps4
  go_wp2_with fail
  refine (szLabel_calls a0 l0 c0 1048576 _ (by omega) (by omega) hm0).mono ?_
  rintro e w1 ⟨rfl, g1⟩
  have M1 := M0.below g1
  clear g1 M0
  rw [szI_neg (by omega)]
  have HB := hide M1.bel
  clear M1
  go_wp2
  go_ret
  exact ⟨rfl, HB.out⟩

set_option maxRecDepth 100000 in
set_option maxHeartbeats 16000000 in
theorem law_small_StarsOf (a0 : Option Addr) (l0 c0 : Nat) (z0 : List Int) (w : World) (hm0 : l0 ≤ maxLen) (hs0 : Sl w a0 l0 z0) (hz : l0 ≤ 1048576) :
    Calls Try.prog 4 #[.agg #[.slice a0 l0 c0]] w fun e w' => e = .returned (.bool true) ∧ Below w.heap.size w w' := by
  have hz0 : l0 ≤ 1048576 := by omega
  have M0 := ((Mm.start w).alloc1 (.slice a0 l0 c0) 24)
  try simp only [World.size_alloc] at M0
  go_enter Try.func4, Try.ntmps4
  go_wp2_with fail
  refine (szLabel_calls a0 l0 c0 1048576 _ (by omega) (by omega) hm0).mono ?_
  rintro e w1 ⟨rfl, g1⟩
  have zz1 := g1.size
  try simp only [World.size_alloc] at zz1
  have M1 := M0.below g1
  clear g1 M0
  rw [szI_pos (by omega)]
  have hge0 : ¬ (1048576 - ((l0 : Nat) : Int) < 0) := by omega
  have q0 := M1.cell 0 rfl
  go_wp2_with fail
  refine (toLabel_O a0 l0 c0 z0 _ (by omega) (hs0.below M1.bel (Nat.le_refl _))).mono ?_
  rintro e w2 ⟨b_s, rfl, os, g2⟩
  have zz2 := g2.size
  try simp only [World.size_alloc] at os zz2
  have M2 := (M1.below g2).fact OS.loc os
  clear g2 M1 os q0
  go_wp2_with fail
  refine (specStarsOf_calls _ _ _ z0 _ hm0 (M2.get 0 rfl).sl).mono ?_
  rintro e w3 ⟨va, vn, vc, rfl, ov, g3⟩
  have zz3 := g3.size
  try simp only [World.size_alloc] at ov zz3
  have M3 := ((M2.below g3).fact OS.loc ov).alloc2 (.int .i64 (fault z0)) (.slice va vn vc) 37
  clear g3 M2 ov
  have q0 := M3.cell 2 rfl
  go_wp2_with fail
  refine (toLabel_O a0 l0 c0 z0 _ (by omega) (hs0.below M3.bel (Nat.le_refl _))).mono ?_
  rintro e w4 ⟨b_x0, rfl, ox0, g4⟩
  have zz4 := g4.size
  try simp only [World.size_alloc] at ox0 zz4
  have M4 := ((M3.below g4).fact OS.loc ox0).alloc1 (.slice (some ⟨b_x0, 0, none⟩) l0 l0) 26
  clear g4 M3 ox0 q0
  go_wp2_with fail
  refine (implStarsOf_calls _ _ _ z0 _ hm0 (M4.get 0 rfl).sl).mono ?_
  rintro e w5 ⟨ra, rn, rc, rfl, or, g5⟩
  have zz5 := g5.size
  try simp only [World.size_alloc] at or zz5
  have M5 := ((M4.below g5).fact OS.loc or).alloc2 (.int .i64 (fault z0)) (.slice ra rn rc) 37
  clear g5 M4 or
  have q0 := M5.cell 0 rfl
  have q1 := M5.cell 1 rfl
  have q2 := M5.cell 3 rfl
  have q3 := M5.cell 4 rfl
  go_wp2_with fail
  refine (eqNR_O (fault z0) _ _ _ _ _ _ (stL z0) _ (M5.get 0 rfl).2.1 (M5.get 0 rfl).sl (M5.get 2 rfl).sl).mono ?_
  rintro e w6 ⟨rfl, g6⟩
  have zz6 := g6.size
  try simp only [World.size_alloc] at zz6
  have M6 := M5.below g6
  clear g6 M5 q0 q1 q2 q3
  have q0 := M6.cell 2 rfl
  have q1 := M6.cell 5 rfl
  go_upto_region 10 with fail
  go_cut [31] (fun v wd => v = .bool false ∧ Below w6.heap.size w6 wd)
  case first =>
    go_region_with (first
      | (go_at_call 7; refine (toLabel_O a0 l0 c0 z0 _ (by omega) ?_).mono ?_; exact hs0.below M6.drew.bel (Nat.le_refl _); rintro e wa ⟨b_y, rfl, oy, ga⟩; have ha : Below w6.heap.size w6 wa := ((Below.refl w6.heap.size w6).drew).trans ga; have Ma := M6.below ha; have y0 := Ma.cell 2 rfl; clear ga)
      | (go_at_call 10; refine (eqLabel_O _ _ _ _ _ _ _ z0 _ (Ma.get 1 rfl) oy).mono ?_; rintro e wb ⟨rfl, gb⟩; have hb : Below w6.heap.size w6 wb := ha.trans (gb.mono ha.size); clear gb))
    all_goals go_wp2_with fail
    all_goals go_meet
    all_goals exact ⟨rfl, hb⟩
  case rest =>
    obtain ⟨rfl, g7⟩ := hcut
    obtain ⟨w7, rfl⟩ : ∃ x, x = wc := ⟨wc, rfl⟩
    have zz7 := g7.size
    have M7 := M6.below g7
    clear g7 M6 q0 q1
    have q0 := M7.cell 2 rfl
    go_wp2_with fail
    refine (markLabel_O _ _ l0 _ z0 1 _ (by omega) (by omega) (M7.get 1 rfl)).mono ?_
    rintro e w8 ⟨rfl, _, ho⟩
    have zz8 := ho.size
    have M8 : Mm w w8 [(w5.heap.size, 0, .int .i64 (fault z0)), (w5.heap.size, 1, .slice ra rn rc), (w3.heap.size, 0, .int .i64 (fault z0)), (w3.heap.size, 1, .slice va vn vc), (w.heap.size, 0, .slice a0 l0 c0)] [(w4.heap.size + 1, w5.heap.size, OS (InR (w4.heap.size + 1) (w5.heap.size)) ra rn (stL z0)), (w2.heap.size, w3.heap.size, OS (InR (w2.heap.size) (w3.heap.size)) va vn (stL z0))] := (M7.sub (by simp) (by simp)).out ho (by omega) (by simp <;> omega) (by simp <;> omega)
    clear ho M7 q0
    have hlt1 : decide ((1 : Int) + (l0 : Int) < 0) = false := by simp; omega
    have q0 := M8.cell 0 rfl
    have q1 := M8.cell 1 rfl
    have q2 := M8.cell 2 rfl
    have q3 := M8.cell 3 rfl
    go_wp2_with fail
    refine (eqNR_O (fault z0) _ _ _ _ _ _ (stL z0) _ (M8.get 0 rfl).2.1 (M8.get 0 rfl).sl (M8.get 1 rfl).sl).mono ?_
    rintro e w9 ⟨rfl, g9⟩
    have zz9 := g9.size
    have M9 := M8.below g9
    clear g9 M8 q0 q1 q2 q3
    have q0 := M9.cell 0 rfl
    have q1 := M9.cell 1 rfl
    go_wp2_with fail
    refine (markNR_O _ _ _ _ _ _ 1 _ (by omega) (by omega) (M9.get 0 rfl)).mono ?_
    rintro e w10 ⟨rfl, om, ho⟩
    have zz10 := ho.size
    have M10a : Mm w w10 [(w5.heap.size, 0, .int .i64 (fault z0)), (w5.heap.size, 1, .slice ra rn rc), (w3.heap.size, 0, .int .i64 (fault z0)), (w3.heap.size, 1, .slice va vn vc), (w.heap.size, 0, .slice a0 l0 c0)] [(w2.heap.size, w3.heap.size, OS (InR (w2.heap.size) (w3.heap.size)) va vn (stL z0))] := (M9.sub (by simp) (by simp)).out ho (by omega) (by simp <;> omega) (by simp <;> omega)
    have M10 := M10a.fact OS.loc om
    clear ho om M9 M10a q0 q1
    have q0 := M10.cell 0 rfl
    have q1 := M10.cell 1 rfl
    go_wp2_with fail
    refine (heldNR_O _ _ _ _ _ _ (M10.get 0 rfl)).mono ?_
    rintro e w11 ⟨rfl, g11⟩
    have zz11 := g11.size
    have M11 := M10.below g11
    clear g11 M10 q0 q1
    have hlt2 : decide ((1 : Int) + (rn : Int) < 0) = false := by simp; omega
    have q0 := M11.cell 4 rfl
    go_wp2_with fail
    refine (toLabel_O a0 l0 c0 z0 _ (by omega) (hs0.below M11.bel (Nat.le_refl _))).mono ?_
    rintro e w12 ⟨b_t, rfl, ot, g12⟩
    have zz12 := g12.size
    try simp only [World.size_alloc] at ot zz12
    have M12 := (M11.below g12).fact OS.loc ot
    clear g12 M11 ot q0
    go_wp2_with fail
    refine (implStarsOf_calls _ _ _ z0 _ hm0 (M12.get 0 rfl).sl).mono ?_
    rintro e w13 ⟨ka, kn, kc, rfl, ok, g13⟩
    have zz13 := g13.size
    try simp only [World.size_alloc] at ok zz13
    have M13 := ((M12.below g13).fact OS.loc ok).alloc2 (.int .i64 (fault z0)) (.slice ka kn kc) 37
    clear g13 M12 ok
    have q0 := M13.cell 0 rfl
    have q1 := M13.cell 1 rfl
    have q2 := M13.cell 4 rfl
    have q3 := M13.cell 5 rfl
    go_wp2_with fail
    refine (eqNR_O (fault z0) _ _ _ _ _ _ (stL z0) _ (M13.get 0 rfl).2.1 (M13.get 0 rfl).sl (M13.get 3 rfl).sl).mono ?_
    rintro e w14 ⟨rfl, g14⟩
    have M14 := M13.below g14
    clear g14 M13 q0 q1 q2 q3
    have q0 := M14.cell 2 rfl
    have q1 := M14.cell 3 rfl
    go_wp2_with fail
    refine (heldNR_O _ _ _ _ _ _ (M14.get 2 rfl)).mono ?_
    rintro e w15 ⟨rfl, g15⟩
    have zz15 := g15.size
    have M15 := M14.below g15
    clear g15 M14 q0 q1
    have HB := hide M15.bel
    clear M15
    go_wp2
    go_ret
    exact ⟨rfl, HB.out⟩

theorem walk_StarsOf (a0 : Option Addr) (l0 c0 : Nat) (z0 : List Int) (w : World) (hm0 : l0 ≤ maxLen) (hs0 : Sl w a0 l0 z0) :
    Calls Try.prog 4 #[.agg #[.slice a0 l0 c0]] w fun e w' => e = .returned (.bool true) ∧ Below w.heap.size w w' := by
  by_cases hz0 : l0 ≤ 1048576
  rotate_left
  · exact law_big0_StarsOf a0 l0 c0 z0 w hm0 hs0 (by omega)
  exact law_small_StarsOf a0 l0 c0 z0 w hm0 hs0 hz0

end Go.Proofs.Ytdcfdmcooonfkab
