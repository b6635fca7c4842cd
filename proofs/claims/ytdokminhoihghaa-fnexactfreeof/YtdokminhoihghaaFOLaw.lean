import Derived.Test.YtdokminhoihghaaKgS
import Derived.Test.YtdokminhoihghaaKiH
import Derived.Test.YtdokminhoihghaaObT
import Derived.Test.YtdokminhoihghaaObE
import Derived.WalkKit
import Derived.ProofKit
import Derived.OpenShut
import Derived.ShutString
import Derived.ChangeOld
import Derived.Below
import Derived.WalkSpells
import Derived.Deep.QuietTactic
import Derived.BigQuiet
import Derived.Deep.RegionWith
import Derived.Deep.WholeRow
import Derived.Deep.DeepCutAuto
import Derived.Deep.RegionHeld2
import Derived.Deep.AppendLies
import Derived.Deep.RegionLaw
namespace Go.Proofs.Ytdokminhoihghaa
open Go.ChangeShapes Go.WideShapes Go.ChangeAt Go.RowKit

set_option maxRecDepth 100000 in
theorem eqIntResult_calls (c v : Int) (w : World) :
    Calls Try.prog 26 #[.agg #[.int .i64 c, .int .i64 v], .agg #[.int .i64 c, .int .i64 v]] w fun e w' => e = .returned (.bool true) ∧ Below w.heap.size w w' := by
  have h1 : (c != c) = false := by simp
  have h2 : (v != v) = false := by simp
  go_enter Try.func26, Try.ntmps26
  go_wp2
  go_ret
  exact ⟨rfl, ((Below.refl _ _).alloc (Nat.le_refl _) _).alloc (by simp) _⟩

set_option maxRecDepth 100000 in
theorem law_big0_FreeOf (a0 : Option Addr) (l0 c0 : Nat) (z0 : List OB) (x1 : Int) (w : World) (hm0 : l0 ≤ maxLen) (hs0 : Sob w a0 l0 z0) (hbig : 1048576 < (l0 + lenO z0)) :
    Calls Try.prog 7 #[.agg #[.slice a0 l0 c0], .int .i64 x1] w fun e w' => e = .returned (.bool true) ∧ Below w.heap.size w w' := by
  have M0 := ((Mm.start w).alloc1 (.slice a0 l0 c0) 24)
  try simp only [World.size_alloc] at M0
  go_enter Try.func7, Try.ntmps7
  go_wp2_with fail
  refine (szKernel_calls a0 l0 c0 z0 1048576 _ (by omega) (by omega) hm0 (hs0.below M0.bel (Nat.le_refl _))).mono ?_
  rintro e w1 ⟨rfl, g1⟩
  have M1 := M0.below g1
  clear g1 M0
  rw [szI_neg (by omega)]
  have HB := hide M1.bel
  clear M1
  go_wp2
  go_ret
  exact ⟨rfl, HB.out⟩

set_option maxRecDepth 100000 in
set_option maxHeartbeats 16000000 in
theorem law_small_FreeOf (a0 : Option Addr) (l0 c0 : Nat) (z0 : List OB) (x1 : Int) (w : World) (hm0 : l0 ≤ maxLen) (hs0 : Sob w a0 l0 z0) (hz : (l0 + lenO z0) ≤ 1048576) :
    Calls Try.prog 7 #[.agg #[.slice a0 l0 c0], .int .i64 x1] w fun e w' => e = .returned (.bool true) ∧ Below w.heap.size w w' := by
  have hz0 : (l0 + lenO z0) ≤ 1048576 := by omega
  have M0 := ((Mm.start w).alloc1 (.slice a0 l0 c0) 24)
  try simp only [World.size_alloc] at M0
  go_enter Try.func7, Try.ntmps7
  go_wp2_with fail
  refine (szKernel_calls a0 l0 c0 z0 1048576 _ (by omega) (by omega) hm0 (hs0.below M0.bel (Nat.le_refl _))).mono ?_
  rintro e w1 ⟨rfl, g1⟩
  have zz1 := g1.size
  try simp only [World.size_alloc] at zz1
  have M1 := M0.below g1
  clear g1 M0
  rw [szI_pos (by omega)]
  have hge0 : ¬ (1048576 - (((l0 + lenO z0) : Nat) : Int) < 0) := by omega
  have q0 := M1.cell 0 rfl
  go_wp2_with fail
  refine (toKernel_O a0 l0 c0 z0 _ (by omega) (hs0.below M1.bel (Nat.le_refl _))).mono ?_
  rintro e w2 ⟨b_s, rfl, os, g2⟩
  have zz2 := g2.size
  try simp only [World.size_alloc] at os zz2
  have M2 := (M1.below g2).fact OO.loc os
  clear g2 M1 os q0
  go_wp2_with fail
  refine (specFreeOf_calls _ _ _ z0 x1 _ hm0 (M2.get 0 rfl).sob (Nat.le_refl _)).mono ?_
  rintro e w3 ⟨rfl, g3⟩
  have zz3 := g3.size
  try simp only [World.size_alloc] at zz3
  have M3 := (M2.below g3).alloc2 (.int .i64 (boxC z0 x1)) (.int .i64 (frV z0 x1)) 48
  clear g3 M2
  have q0 := M3.cell 2 rfl
  go_wp2_with fail
  refine (toKernel_O a0 l0 c0 z0 _ (by omega) (hs0.below M3.bel (Nat.le_refl _))).mono ?_
  rintro e w4 ⟨b_x0, rfl, ox0, g4⟩
  have zz4 := g4.size
  try simp only [World.size_alloc] at ox0 zz4
  have M4 := ((M3.below g4).fact OO.loc ox0).alloc1 (.slice (some ⟨b_x0, 0, none⟩) l0 l0) 29
  clear g4 M3 ox0 q0
  go_wp2_with fail
  refine (implFreeOf_calls _ _ _ z0 x1 _ hm0 (M4.get 0 rfl).sob (Nat.le_refl _)).mono ?_
  rintro e w5 ⟨rfl, g5⟩
  have zz5 := g5.size
  try simp only [World.size_alloc] at zz5
  have M5 := (M4.below g5).alloc2 (.int .i64 (boxC z0 x1)) (.int .i64 (frV z0 x1)) 48
  clear g5 M4
  have q0 := M5.cell 0 rfl
  have q1 := M5.cell 1 rfl
  have q2 := M5.cell 3 rfl
  have q3 := M5.cell 4 rfl
  go_wp2_with fail
  refine (eqIntResult_calls _ _ _).mono ?_
  rintro e w6 ⟨rfl, g6⟩
  have zz6 := g6.size
  try simp only [World.size_alloc] at zz6
  have M6 := M5.below g6
  clear g6 M5 q0 q1 q2 q3
  have q0 := M6.cell 2 rfl
  have q1 := M6.cell 5 rfl
  go_upto_region 10 with fail
  go_cut [31] (fun v wd => v = .bool false ∧ Below w6.heap.size w6 wd)
  case first =>
    go_region_with (first
      | (go_at_call 11; refine (toKernel_O a0 l0 c0 z0 _ (by omega) ?_).mono ?_; exact hs0.below M6.drew.bel (Nat.le_refl _); rintro e wa ⟨b_y, rfl, oy, ga⟩; have ha : Below w6.heap.size w6 wa := ((Below.refl w6.heap.size w6).drew).trans ga; have Ma := M6.below ha; have y0 := Ma.cell 2 rfl; clear ga)
      | (go_at_call 13; refine (eqKernel_O _ _ _ _ _ _ _ z0 _ (Ma.get 0 rfl) oy).mono ?_; rintro e wb ⟨rfl, gb⟩; have hb : Below w6.heap.size w6 wb := ha.trans (gb.mono ha.size); clear gb))
    all_goals go_wp2_with fail
    all_goals go_meet
    all_goals exact ⟨rfl, hb⟩
  case rest =>
    obtain ⟨rfl, g7⟩ := hcut
    obtain ⟨w7, rfl⟩ : ∃ x, x = wc := ⟨wc, rfl⟩
    have zz7 := g7.size
    have M7 := M6.below g7
    clear g7 M6 q0 q1
    have HB := hide M7.bel
    clear M7
    go_wp2
    go_ret
    exact ⟨rfl, HB.out⟩

theorem walk_FreeOf (a0 : Option Addr) (l0 c0 : Nat) (z0 : List OB) (x1 : Int) (w : World) (hm0 : l0 ≤ maxLen) (hs0 : Sob w a0 l0 z0) :
    Calls Try.prog 7 #[.agg #[.slice a0 l0 c0], .int .i64 x1] w fun e w' => e = .returned (.bool true) ∧ Below w.heap.size w w' := by
  by_cases hz0 : (l0 + lenO z0) ≤ 1048576
  rotate_left
  · exact law_big0_FreeOf a0 l0 c0 z0 x1 w hm0 hs0 (by omega)
  exact law_small_FreeOf a0 l0 c0 z0 x1 w hm0 hs0 hz0

end Go.Proofs.Ytdokminhoihghaa
