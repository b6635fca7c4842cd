import Derived.Test.YtdcfdmcooonfkaaPaIp
import Derived.Test.YtdcfdmcooonfkaaPaL
import Derived.WalkKit
import Derived.ProofKit
import Derived.OpenShut
import Derived.ShutString
import Derived.ChangeOld
import Derived.Below
import Derived.WalkSpells
import Derived.Deep.QuietTactic
import Derived.BigQuiet
import Derived.Deep.RegionWith
import Derived.Deep.WholeRow
import Derived.Deep.DeepCutAuto
import Derived.Deep.RegionHeld2
import Derived.Deep.AppendLies
import Derived.Deep.RegionLaw
namespace Go.Proofs.Ytdcfdmcooonfkaa
open Go.ChangeShapes Go.WideShapes Go.ChangeAt Go.RowKit

set_option maxRecDepth 100000 in
theorem law_big0_PassFault (a0 : Option Addr) (l0 c0 : Nat) (z0 : List Int) (ta0 : Option Addr) (tl0 tc0 : Nat) (t0 : List Int) (w : World) (hs0 : PR w a0 l0 z0 ta0 tl0 t0) (hbig : 1048576 < (l0 + tl0)) :
    Calls Try.prog 5 #[.agg #[.slice a0 l0 c0, .slice ta0 tl0 tc0]] w fun e w' => e = .returned (.bool true) ∧ Below w.heap.size w w' := by
  have M0 := ((Mm.start w).alloc2 (.slice a0 l0 c0) (.slice ta0 tl0 tc0) 52)
  try simp only [World.size_alloc] at M0
  go_enter Try.func5, Try.ntmps5
  go_wp2_with fail
  refine (szPass_calls a0 l0 c0 ta0 tl0 tc0 1048576 _ (by omega) (by omega) ((hs0.below M0.bel (Nat.le_refl _))).hn ((hs0.below M0.bel (Nat.le_refl _))).hm).mono ?_
  rintro e w1 ⟨rfl, g1⟩
  have M1 := M0.below g1
  clear g1 M0
  rw [szI_neg (by omega)]
  have HB := hide M1.bel
  clear M1
  go_wp2
  go_ret
  exact ⟨rfl, HB.out⟩

set_option maxRecDepth 100000 in
set_option maxHeartbeats 16000000 in
theorem law_small_PassFault (a0 : Option Addr) (l0 c0 : Nat) (z0 : List Int) (ta0 : Option Addr) (tl0 tc0 : Nat) (t0 : List Int) (w : World) (hs0 : PR w a0 l0 z0 ta0 tl0 t0) (hz : (l0 + tl0) ≤ 1048576) :
    Calls Try.prog 5 #[.agg #[.slice a0 l0 c0, .slice ta0 tl0 tc0]] w fun e w' => e = .returned (.bool true) ∧ Below w.heap.size w w' := by
  have hz0 : (l0 + tl0) ≤ 1048576 := by omega
  have M0 := ((Mm.start w).alloc2 (.slice a0 l0 c0) (.slice ta0 tl0 tc0) 52)
  try simp only [World.size_alloc] at M0
  go_enter Try.func5, Try.ntmps5
  go_wp2_with fail
  refine (szPass_calls a0 l0 c0 ta0 tl0 tc0 1048576 _ (by omega) (by omega) ((hs0.below M0.bel (Nat.le_refl _))).hn ((hs0.below M0.bel (Nat.le_refl _))).hm).mono ?_
  rintro e w1 ⟨rfl, g1⟩
  have zz1 := g1.size
  try simp only [World.size_alloc] at zz1
  have M1 := M0.below g1
  clear g1 M0
  rw [szI_pos (by omega)]
  have hge0 : ¬ (1048576 - (((l0 + tl0) : Nat) : Int) < 0) := by omega
  have q0 := M1.cell 0 rfl
  have q1 := M1.cell 1 rfl
  go_wp2_with fail
  refine (toPass_O a0 l0 c0 z0 ta0 tl0 tc0 t0 _ (by omega) (hs0.below M1.bel (Nat.le_refl _))).mono ?_
  rintro e w2 ⟨b_s, bt_s, rfl, os, g2⟩
  have zz2 := g2.size
  try simp only [World.size_alloc] at os zz2
  have M2 := (M1.below g2).fact OPs.loc os
  clear g2 M1 os q0 q1
  go_wp2_with fail
  refine (specPassFault_calls _ _ _ z0 _ _ _ t0 _ (M2.get 0 rfl).pr).mono ?_
  rintro e w3 ⟨rfl, g3⟩
  have zz3 := g3.size
  try simp only [World.size_alloc] at zz3
  have M3 := (M2.below g3)
  clear g3 M2
  have q0 := M3.cell 0 rfl
  have q1 := M3.cell 1 rfl
  go_wp2_with fail
  refine (toPass_O a0 l0 c0 z0 ta0 tl0 tc0 t0 _ (by omega) (hs0.below M3.bel (Nat.le_refl _))).mono ?_
  rintro e w4 ⟨b_x0, bt_x0, rfl, ox0, g4⟩
  have zz4 := g4.size
  try simp only [World.size_alloc] at ox0 zz4
  have M4 := ((M3.below g4).fact OPs.loc ox0).alloc2 (.slice (some ⟨b_x0, 0, none⟩) l0 l0) (.slice (some ⟨bt_x0, 0, none⟩) tl0 tl0) 28
  clear g4 M3 ox0 q0 q1
  go_wp2_with fail
  refine (implPassFault_calls _ _ _ z0 _ _ _ t0 _ (M4.get 0 rfl).pr).mono ?_
  rintro e w5 ⟨rfl, g5⟩
  have zz5 := g5.size
  try simp only [World.size_alloc] at zz5
  have M5 := (M4.below g5)
  clear g5 M4
  have hne : ((psF z0 t0) != (psF z0 t0)) = false := by simp
  have q0 := M5.cell 0 rfl
  have q1 := M5.cell 1 rfl
  have q2 := M5.cell 2 rfl
  have q3 := M5.cell 3 rfl
  go_upto_region 10 with fail
  go_cut [26] (fun v wd => v = .bool false ∧ Below w5.heap.size w5 wd)
  case first =>
    go_region_with (first
      | (go_at_call 33; refine (toPass_O a0 l0 c0 z0 ta0 tl0 tc0 t0 _ (by omega) ?_).mono ?_; exact hs0.below M5.drew.bel (Nat.le_refl _); rintro e wa ⟨b_y, bt_y, rfl, oy, ga⟩; have ha : Below w5.heap.size w5 wa := ((Below.refl w5.heap.size w5).drew).trans ga; have Ma := M5.below ha; have y0 := Ma.cell 0 rfl; have y1 := Ma.cell 1 rfl; clear ga)
      | (go_at_call 34; refine (eqPass_O _ _ _ _ _ _ _ _ _ z0 _ _ _ t0 _ (Ma.get 0 rfl) oy).mono ?_; rintro e wb ⟨rfl, gb⟩; have hb : Below w5.heap.size w5 wb := ha.trans (gb.mono ha.size); clear gb))
    all_goals go_wp2_with fail
    all_goals go_meet
    all_goals exact ⟨rfl, hb⟩
  case rest =>
    obtain ⟨rfl, g6⟩ := hcut
    obtain ⟨w6, rfl⟩ : ∃ x, x = wc := ⟨wc, rfl⟩
    have zz6 := g6.size
    have M6 := M5.below g6
    clear g6 M5 q0 q1 q2 q3
    have HB := hide M6.bel
    clear M6
    go_wp2
    go_ret
    exact ⟨rfl, HB.out⟩

theorem walk_PassFault (a0 : Option Addr) (l0 c0 : Nat) (z0 : List Int) (ta0 : Option Addr) (tl0 tc0 : Nat) (t0 : List Int) (w : World) (hs0 : PR w a0 l0 z0 ta0 tl0 t0) :
    Calls Try.prog 5 #[.agg #[.slice a0 l0 c0, .slice ta0 tl0 tc0]] w fun e w' => e = .returned (.bool true) ∧ Below w.heap.size w w' := by
  by_cases hz0 : (l0 + tl0) ≤ 1048576
  rotate_left
  · exact law_big0_PassFault a0 l0 c0 z0 ta0 tl0 tc0 t0 w hs0 (by omega)
  exact law_small_PassFault a0 l0 c0 z0 ta0 tl0 tc0 t0 w hs0 hz0

end Go.Proofs.Ytdcfdmcooonfkaa
