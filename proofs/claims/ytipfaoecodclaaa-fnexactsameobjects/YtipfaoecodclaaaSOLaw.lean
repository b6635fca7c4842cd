import Derived.Test.YtipfaoecodclaaaSoS
import Derived.Test.YtipfaoecodclaaaObT
import Derived.Test.YtipfaoecodclaaaObE
import Derived.Test.YtipfaoecodclaaaQs
import Derived.WalkKit
import Derived.ProofKit
import Derived.OpenShut
import Derived.ShutString
import Derived.ChangeOld
import Derived.Below
import Derived.WalkSpells
import Derived.Deep.QuietTactic
import Derived.BigQuiet
import Derived.Deep.RegionWith
import Derived.Deep.WholeRow
import Derived.Deep.DeepCutAuto
import Derived.Deep.RegionHeld2
import Derived.Deep.AppendLies
import Derived.Deep.RegionLaw
namespace Go.Proofs.Ytipfaoecodclaaa
open Go.ChangeShapes Go.WideShapes Go.ChangeAt Go.RowKit

set_option maxRecDepth 100000 in
theorem law_big0_SameObjects (a0 : Option Addr) (l0 c0 : Nat) (z0 : List OB) (a1 : Option Addr) (l1 c1 : Nat) (w : World) (hm0 : l0 ≤ maxLen) (hs0 : Sob w a0 l0 z0) (hbig : 1048576 < (l0 + lenO z0)) :
    Calls Try.prog 4 #[.slice a0 l0 c0, .slice a1 l1 c1] w fun e w' => e = .returned (.bool true) ∧ Below w.heap.size w w' := by
  have M0 := (Mm.start w)
  try simp only [World.size_alloc] at M0
  go_enter Try.func4, Try.ntmps4
  go_wp2_with fail
  refine (szObjectS_calls a0 l0 c0 z0 1048576 _ (by omega) (by omega) hm0 (hs0.below M0.bel (Nat.le_refl _))).mono ?_
  rintro e w1 ⟨rfl, g1⟩
  have M1 := M0.below g1
  clear g1 M0
  rw [szI_neg (by omega)]
  have HB := hide M1.bel
  clear M1
  go_wp2
  go_ret
  exact ⟨rfl, HB.out⟩

set_option maxRecDepth 100000 in
theorem law_big1_SameObjects (a0 : Option Addr) (l0 c0 : Nat) (z0 : List OB) (a1 : Option Addr) (l1 c1 : Nat) (z1 : List OB) (w : World) (hm0 : l0 ≤ maxLen) (hs0 : Sob w a0 l0 z0) (hm1 : l1 ≤ maxLen) (hs1 : Sob w a1 l1 z1) (hz0 : (l0 + lenO z0) ≤ 1048576) (hbig : 1048576 < (l0 + lenO z0) + (l1 + lenO z1)) :
    Calls Try.prog 4 #[.slice a0 l0 c0, .slice a1 l1 c1] w fun e w' => e = .returned (.bool true) ∧ Below w.heap.size w w' := by
  have M0 := (Mm.start w)
  try simp only [World.size_alloc] at M0
  go_enter Try.func4, Try.ntmps4
  go_wp2_with fail
  refine (szObjectS_calls a0 l0 c0 z0 1048576 _ (by omega) (by omega) hm0 (hs0.below M0.bel (Nat.le_refl _))).mono ?_
  rintro e w1 ⟨rfl, g1⟩
  have M1 := M0.below g1
  clear g1 M0
  rw [szI_pos (by omega)]
  have hge0 : ¬ (1048576 - (((l0 + lenO z0) : Nat) : Int) < 0) := by omega
  go_wp2_with fail
  refine (szObjectS_calls a1 l1 c1 z1 _ _ (by omega) (by omega) hm1 (hs1.below M1.bel (Nat.le_refl _))).mono ?_
  rintro e w2 ⟨rfl, g2⟩
  have M2 := M1.below g2
  clear g2 M1
  rw [szI_neg (by omega)]
  have HB := hide M2.bel
  clear M2
  go_wp2
  go_ret
  exact ⟨rfl, HB.out⟩

set_option maxRecDepth 100000 in
set_option maxHeartbeats 16000000 in
theorem law_small_SameObjects (a0 : Option Addr) (l0 c0 : Nat) (z0 : List OB) (a1 : Option Addr) (l1 c1 : Nat) (z1 : List OB) (w : World) (hm0 : l0 ≤ maxLen) (hs0 : Sob w a0 l0 z0) (hm1 : l1 ≤ maxLen) (hs1 : Sob w a1 l1 z1) (hz : (l0 + lenO z0) + (l1 + lenO z1) ≤ 1048576) :
    Calls Try.prog 4 #[.slice a0 l0 c0, .slice a1 l1 c1] w fun e w' => e = .returned (.bool true) ∧ Below w.heap.size w w' := by
  have hz0 : (l0 + lenO z0) ≤ 1048576 := by omega
  have hz1 : (l1 + lenO z1) ≤ 1048576 := by omega
  have M0 := (Mm.start w)
  try simp only [World.size_alloc] at M0
  go_enter Try.func4, Try.ntmps4
  go_wp2_with fail
  refine (szObjectS_calls a0 l0 c0 z0 1048576 _ (by omega) (by omega) hm0 (hs0.below M0.bel (Nat.le_refl _))).mono ?_
  rintro e w1 ⟨rfl, g1⟩
  have zz1 := g1.size
  try simp only [World.size_alloc] at zz1
  have M1 := M0.below g1
  clear g1 M0
  rw [szI_pos (by omega)]
  have hge0 : ¬ (1048576 - (((l0 + lenO z0) : Nat) : Int) < 0) := by omega
  go_wp2_with fail
  refine (szObjectS_calls a1 l1 c1 z1 _ _ (by omega) (by omega) hm1 (hs1.below M1.bel (Nat.le_refl _))).mono ?_
  rintro e w2 ⟨rfl, g2⟩
  have zz2 := g2.size
  try simp only [World.size_alloc] at zz2
  have M2 := M1.below g2
  clear g2 M1
  rw [szI_pos (by omega)]
  have hge1 : ¬ (1048576 - (((l0 + lenO z0) : Nat) : Int) - (((l1 + lenO z1) : Nat) : Int) < 0) := by omega
  go_wp2_with fail
  refine (toObjectS_O a0 l0 c0 z0 _ (by omega) (hs0.below M2.bel (Nat.le_refl _))).mono ?_
  rintro e w3 ⟨b_s0, rfl, os0, g3⟩
  have zz3 := g3.size
  try simp only [World.size_alloc] at os0 zz3
  have M3 := (M2.below g3).fact OO.loc os0
  clear g3 M2 os0
  go_wp2_with fail
  refine (toObjectS_O a1 l1 c1 z1 _ (by omega) (hs1.below M3.bel (Nat.le_refl _))).mono ?_
  rintro e w4 ⟨b_s1, rfl, os1, g4⟩
  have zz4 := g4.size
  try simp only [World.size_alloc] at os1 zz4
  have M4 := (M3.below g4).fact OO.loc os1
  clear g4 M3 os1
  go_wp2_with fail
  refine (specSameObjects_calls _ _ _ z0 _ _ _ z1 _ hm0 (M4.get 1 rfl).sob hm1 (M4.get 0 rfl).sob).mono ?_
  rintro e w5 ⟨rfl, g5⟩
  have zz5 := g5.size
  try simp only [World.size_alloc] at zz5
  have M5 := (M4.below g5)
  clear g5 M4
  go_wp2_with fail
  refine (toObjectS_O a0 l0 c0 z0 _ (by omega) (hs0.below M5.bel (Nat.le_refl _))).mono ?_
  rintro e w6 ⟨b_x0, rfl, ox0, g6⟩
  have zz6 := g6.size
  try simp only [World.size_alloc] at ox0 zz6
  have M6 := (M5.below g6).fact OO.loc ox0
  clear g6 M5 ox0
  go_wp2_with fail
  refine (toObjectS_O a1 l1 c1 z1 _ (by omega) (hs1.below M6.bel (Nat.le_refl _))).mono ?_
  rintro e w7 ⟨b_x1, rfl, ox1, g7⟩
  have zz7 := g7.size
  try simp only [World.size_alloc] at ox1 zz7
  have M7 := (M6.below g7).fact OO.loc ox1
  clear g7 M6 ox1
  go_wp2_with fail
  refine (implSameObjects_calls _ _ _ z0 _ _ _ z1 _ hm0 (M7.get 1 rfl).sob hm1 (M7.get 0 rfl).sob).mono ?_
  rintro e w8 ⟨rfl, g8⟩
  have zz8 := g8.size
  try simp only [World.size_alloc] at zz8
  have M8 := (M7.below g8)
  clear g8 M7
  have hne : ((decide (z0 = z1)) != (decide (z0 = z1))) = false := by simp
  go_wp2_with fail
  refine (toObjectS_O a0 l0 c0 z0 _ (by omega) (hs0.below M8.bel (Nat.le_refl _))).mono ?_
  rintro e w9 ⟨b_y0, rfl, oy0, g9⟩
  have zz9 := g9.size
  try simp only [World.size_alloc] at oy0 zz9
  have M9 := (M8.below g9).fact OO.loc oy0
  clear g9 M8 oy0
  go_wp2_with fail
  refine (eqObjectS_calls _ _ l0 _ _ z0 _ (by unfold maxLen; omega) (M9.get 2 rfl).sob (M9.get 0 rfl).sob).mono ?_
  rintro e w10 ⟨rfl, g10⟩
  have zz10 := g10.size
  try simp only [World.size_alloc] at zz10
  have M10 := M9.below g10
  clear g10 M9
  go_wp2_with fail
  refine (toObjectS_O a1 l1 c1 z1 _ (by omega) (hs1.below M10.bel (Nat.le_refl _))).mono ?_
  rintro e w11 ⟨b_y1, rfl, oy1, g11⟩
  have zz11 := g11.size
  try simp only [World.size_alloc] at oy1 zz11
  have M11 := (M10.below g11).fact OO.loc oy1
  clear g11 M10 oy1
  go_wp2_with fail
  refine (eqObjectS_calls _ _ l1 _ _ z1 _ (by unfold maxLen; omega) (M11.get 2 rfl).sob (M11.get 0 rfl).sob).mono ?_
  rintro e w12 ⟨rfl, g12⟩
  have zz12 := g12.size
  try simp only [World.size_alloc] at zz12
  have M12 := M11.below g12
  clear g12 M11
  have HB := hide M12.bel
  clear M12
  go_wp2
  go_ret
  exact ⟨rfl, HB.out⟩

theorem walk_SameObjects (a0 : Option Addr) (l0 c0 : Nat) (z0 : List OB) (a1 : Option Addr) (l1 c1 : Nat) (z1 : List OB) (w : World) (hm0 : l0 ≤ maxLen) (hs0 : Sob w a0 l0 z0) (hm1 : l1 ≤ maxLen) (hs1 : Sob w a1 l1 z1) :
    Calls Try.prog 4 #[.slice a0 l0 c0, .slice a1 l1 c1] w fun e w' => e = .returned (.bool true) ∧ Below w.heap.size w w' := by
  by_cases hz0 : (l0 + lenO z0) ≤ 1048576
  rotate_left
  · exact law_big0_SameObjects a0 l0 c0 z0 a1 l1 c1 w hm0 hs0 (by omega)
  by_cases hz1 : (l0 + lenO z0) + (l1 + lenO z1) ≤ 1048576
  rotate_left
  · exact law_big1_SameObjects a0 l0 c0 z0 a1 l1 c1 z1 w hm0 hs0 hm1 hs1 hz0 (by omega)
  exact law_small_SameObjects a0 l0 c0 z0 a1 l1 c1 z1 w hm0 hs0 hm1 hs1 hz1

end Go.Proofs.Ytipfaoecodclaaa
