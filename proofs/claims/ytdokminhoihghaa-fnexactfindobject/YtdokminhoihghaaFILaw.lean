import Derived.Test.YtdokminhoihghaaKgF
import Derived.Test.YtdokminhoihghaaKiL
import Derived.Test.YtdokminhoihghaaObT
import Derived.Test.YtdokminhoihghaaObE
import Derived.WalkKit
import Derived.ProofKit
import Derived.OpenShut
import Derived.ShutString
import Derived.ChangeOld
import Derived.Below
import Derived.WalkSpells
import Derived.Deep.QuietTactic
import Derived.BigQuiet
import Derived.Deep.RegionWith
import Derived.Deep.WholeRow
import Derived.Deep.DeepCutAuto
import Derived.Deep.RegionHeld2
import Derived.Deep.AppendLies
import Derived.Deep.RegionLaw
namespace Go.Proofs.Ytdokminhoihghaa
open Go.ChangeShapes Go.WideShapes Go.ChangeAt Go.RowKit

set_option maxRecDepth 100000 in
theorem eqIntResult_calls (c v : Int) (w : World) :
    Calls Try.prog 26 #[.agg #[.int .i64 c, .int .i64 v], .agg #[.int .i64 c, .int .i64 v]] w fun e w' => e = .returned (.bool true) ∧ Below w.heap.size w w' := by
  have h1 : (c != c) = false := by simp
  have h2 : (v != v) = false := by simp
  go_enter Try.func26, Try.ntmps26
  go_wp2
  go_ret
  exact ⟨rfl, ((Below.refl _ _).alloc (Nat.le_refl _) _).alloc (by simp) _⟩

theorem toInt64S_O (a : Option Addr) (len cap : Nat) (zs : List Int) (w : World) (hl : len ≤ 1048576) (hs : Sl w a len zs) :
    Calls Try.prog 24 #[.slice a len cap] w fun e w' => ∃ b, e = .returned (.slice (some ⟨b, 0, none⟩) len len) ∧ OS (InR w.heap.size w'.heap.size) (some ⟨b, 0, none⟩) len zs w' ∧ Below w.heap.size w w' :=
  (toInts_calls a len cap zs w hl hs).mono fun _ _ ⟨b, h1, h2, h3, h4⟩ => ⟨b, h1, OS.ofBlk h3 ⟨h2, h3.1⟩ hs.1 hl, h4⟩

theorem eqInt64S_V (a b : Option Addr) (n ca cb : Nat) (zs : List Int) (w : World) (hn : n ≤ maxLen) (hx : Sl w a n zs) (hy : Sl w b n zs) :
    Calls Try.prog 27 #[.slice a n ca, .slice b n cb] w fun e w' => e = .returned (.bool true) ∧ Below w.heap.size w w' :=
  (eqInts_calls a b n ca n cb zs zs w hn hn hx hy).mono fun _ _ ⟨h1, h2⟩ => ⟨by rw [h1]; simp, h2⟩

set_option maxRecDepth 100000 in
theorem law_big1_FindObject (a0 : Option Addr) (l0 c0 : Nat) (a1 : Option Addr) (l1 c1 : Nat) (w : World)  (hbig : 1048576 < l1) :
    Calls Try.prog 5 #[.agg #[.slice a0 l0 c0], .slice a1 l1 c1] w fun e w' => e = .returned (.bool true) ∧ Below w.heap.size w w' := by
  have hbg : (l1 : Int) > 1048576 := by omega
  have M0 := ((Mm.start w).alloc1 (.slice a0 l0 c0) 24)
  try simp only [World.size_alloc] at M0
  have HB := hide M0.bel
  clear M0
  go_enter Try.func5, Try.ntmps5
  go_wp2
  go_ret
  exact ⟨rfl, HB.out⟩

set_option maxRecDepth 100000 in
theorem law_big0_FindObject (a0 : Option Addr) (l0 c0 : Nat) (z0 : List OB) (a1 : Option Addr) (l1 c1 : Nat) (w : World) (hm0 : l0 ≤ maxLen) (hs0 : Sob w a0 l0 z0) (hv1 : l1 ≤ 1048576) (hbig : 1048576 < (l0 + lenO z0)) :
    Calls Try.prog 5 #[.agg #[.slice a0 l0 c0], .slice a1 l1 c1] w fun e w' => e = .returned (.bool true) ∧ Below w.heap.size w w' := by
  have hw1 : ¬ ((l1 : Int) > 1048576) := by omega
  have M0 := ((Mm.start w).alloc1 (.slice a0 l0 c0) 24)
  try simp only [World.size_alloc] at M0
  go_enter Try.func5, Try.ntmps5
  go_wp2_with fail
  refine (szKernel_calls a0 l0 c0 z0 1048576 _ (by omega) (by omega) hm0 (hs0.below M0.bel (Nat.le_refl _))).mono ?_
  rintro e w1 ⟨rfl, g1⟩
  have M1 := M0.below g1
  clear g1 M0
  rw [szI_neg (by omega)]
  have HB := hide M1.bel
  clear M1
  go_wp2
  go_ret
  exact ⟨rfl, HB.out⟩

set_option maxRecDepth 100000 in
set_option maxHeartbeats 16000000 in
theorem law_small_FindObject (a0 : Option Addr) (l0 c0 : Nat) (z0 : List OB) (a1 : Option Addr) (l1 c1 : Nat) (z1 : List Int) (w : World) (hm0 : l0 ≤ maxLen) (hs0 : Sob w a0 l0 z0) (hm1 : l1 ≤ maxLen) (hs1 : Sl w a1 l1 z1) (hv1 : l1 ≤ 1048576) (hz : (l0 + lenO z0) ≤ 1048576) :
    Calls Try.prog 5 #[.agg #[.slice a0 l0 c0], .slice a1 l1 c1] w fun e w' => e = .returned (.bool true) ∧ Below w.heap.size w w' := by
  have _ := hm1
  have hw1 : ¬ ((l1 : Int) > 1048576) := by omega
  have hz0 : (l0 + lenO z0) ≤ 1048576 := by omega
  have hz1 : l1 ≤ 1048576 := by omega
  have M0 := ((Mm.start w).alloc1 (.slice a0 l0 c0) 24)
  try simp only [World.size_alloc] at M0
  go_enter Try.func5, Try.ntmps5
  go_wp2_with fail
  refine (szKernel_calls a0 l0 c0 z0 1048576 _ (by omega) (by omega) hm0 (hs0.below M0.bel (Nat.le_refl _))).mono ?_
  rintro e w1 ⟨rfl, g1⟩
  have zz1 := g1.size
  try simp only [World.size_alloc] at zz1
  have M1 := M0.below g1
  clear g1 M0
  rw [szI_pos (by omega)]
  have hge0 : ¬ (1048576 - (((l0 + lenO z0) : Nat) : Int) < 0) := by omega
  have q0 := M1.cell 0 rfl
  go_wp2_with fail
  refine (toKernel_O a0 l0 c0 z0 _ (by omega) (hs0.below M1.bel (Nat.le_refl _))).mono ?_
  rintro e w2 ⟨b_s0, rfl, os0, g2⟩
  have zz2 := g2.size
  try simp only [World.size_alloc] at os0 zz2
  have M2 := (M1.below g2).fact OO.loc os0
  clear g2 M1 os0 q0
  go_wp2_with fail
  refine (toInt64S_O a1 l1 c1 z1 _ (by omega) (hs1.below M2.bel (Nat.le_refl _))).mono ?_
  rintro e w3 ⟨b_s1, rfl, os1, g3⟩
  have zz3 := g3.size
  try simp only [World.size_alloc] at os1 zz3
  have M3 := (M2.below g3).fact OS.loc os1
  clear g3 M2 os1
  go_wp2_with fail
  refine (specFindObject_calls _ _ _ z0 _ _ _ z1 _ hm0 (M3.get 1 rfl).sob (Nat.le_refl _) (by omega) (M3.get 0 rfl).sl).mono ?_
  rintro e w4 ⟨rfl, g4⟩
  have zz4 := g4.size
  try simp only [World.size_alloc] at zz4
  have M4 := (M3.below g4).alloc2 (.int .i64 (foC z0 z1)) (.int .i64 (foV z0 z1)) 48
  clear g4 M3
  have q0 := M4.cell 2 rfl
  go_wp2_with fail
  refine (toKernel_O a0 l0 c0 z0 _ (by omega) (hs0.below M4.bel (Nat.le_refl _))).mono ?_
  rintro e w5 ⟨b_x0, rfl, ox0, g5⟩
  have zz5 := g5.size
  try simp only [World.size_alloc] at ox0 zz5
  have M5 := ((M4.below g5).fact OO.loc ox0).alloc1 (.slice (some ⟨b_x0, 0, none⟩) l0 l0) 29
  clear g5 M4 ox0 q0
  go_wp2_with fail
  refine (toInt64S_O a1 l1 c1 z1 _ (by omega) (hs1.below M5.bel (Nat.le_refl _))).mono ?_
  rintro e w6 ⟨b_x1, rfl, ox1, g6⟩
  have zz6 := g6.size
  try simp only [World.size_alloc] at ox1 zz6
  have M6 := (M5.below g6).fact OS.loc ox1
  clear g6 M5 ox1
  have q0 := M6.cell 0 rfl
  go_wp2_with fail
  refine (implFindObject_calls _ _ _ z0 _ _ _ z1 _ hm0 (M6.get 1 rfl).sob (Nat.le_refl _) (by omega) (M6.get 0 rfl).sl).mono ?_
  rintro e w7 ⟨rfl, g7⟩
  have zz7 := g7.size
  try simp only [World.size_alloc] at zz7
  have M7 := (M6.below g7).alloc2 (.int .i64 (foC z0 z1)) (.int .i64 (foV z0 z1)) 48
  clear g7 M6 q0
  have q0 := M7.cell 0 rfl
  have q1 := M7.cell 1 rfl
  have q2 := M7.cell 3 rfl
  have q3 := M7.cell 4 rfl
  go_wp2_with fail
  refine (eqIntResult_calls _ _ _).mono ?_
  rintro e w8 ⟨rfl, g8⟩
  have zz8 := g8.size
  try simp only [World.size_alloc] at zz8
  have M8 := M7.below g8
  clear g8 M7 q0 q1 q2 q3
  have q0 := M8.cell 2 rfl
  have q1 := M8.cell 5 rfl
  go_upto_region 13 with fail
  go_cut [38] (fun v wd => v = .bool false ∧ Below w8.heap.size w8 wd)
  case first =>
    go_region_with (first
      | (go_at_call 11; refine (toKernel_O a0 l0 c0 z0 _ (by omega) ?_).mono ?_; exact hs0.below M8.drew.bel (Nat.le_refl _); rintro e wa ⟨b_y, rfl, oy, ga⟩; have ha : Below w8.heap.size w8 wa := ((Below.refl w8.heap.size w8).drew).trans ga; have Ma := M8.below ha; have y0 := Ma.cell 2 rfl; clear ga)
      | (go_at_call 13; refine (eqKernel_O _ _ _ _ _ _ _ z0 _ (Ma.get 1 rfl) oy).mono ?_; rintro e wb ⟨rfl, gb⟩; have hb : Below w8.heap.size w8 wb := ha.trans (gb.mono ha.size); clear gb))
    all_goals go_wp2_with fail
    all_goals go_meet
    all_goals exact ⟨rfl, hb⟩
  case rest =>
    obtain ⟨rfl, g9⟩ := hcut
    obtain ⟨w9, rfl⟩ : ∃ x, x = wc := ⟨wc, rfl⟩
    have zz9 := g9.size
    have M9 := M8.below g9
    clear g9 M8 q0 q1
    go_wp2_with fail
    refine (toInt64S_O a1 l1 c1 z1 _ (by omega) (hs1.below M9.bel (Nat.le_refl _))).mono ?_
    rintro e w10 ⟨b_y1, rfl, oy1, g10⟩
    have zz10 := g10.size
    try simp only [World.size_alloc] at oy1 zz10
    have M10 := (M9.below g10).fact OS.loc oy1
    clear g10 M9 oy1
    go_wp2_with fail
    refine (eqInt64S_V _ _ l1 _ _ z1 _ (by unfold maxLen; omega) (M10.get 1 rfl).sl (M10.get 0 rfl).sl).mono ?_
    rintro e w11 ⟨rfl, g11⟩
    have zz11 := g11.size
    try simp only [World.size_alloc] at zz11
    have M11 := M10.below g11
    clear g11 M10
    have HB := hide M11.bel
    clear M11
    go_wp2
    go_ret
    exact ⟨rfl, HB.out⟩

theorem walk_FindObject (a0 : Option Addr) (l0 c0 : Nat) (z0 : List OB) (a1 : Option Addr) (l1 c1 : Nat) (z1 : List Int) (w : World) (hm0 : l0 ≤ maxLen) (hs0 : Sob w a0 l0 z0) (hm1 : l1 ≤ maxLen) (hs1 : Sl w a1 l1 z1) :
    Calls Try.prog 5 #[.agg #[.slice a0 l0 c0], .slice a1 l1 c1] w fun e w' => e = .returned (.bool true) ∧ Below w.heap.size w w' := by
  by_cases hv1 : l1 ≤ 1048576
  rotate_left
  · exact law_big1_FindObject a0 l0 c0 a1 l1 c1 w (by omega)
  by_cases hz0 : (l0 + lenO z0) ≤ 1048576
  rotate_left
  · exact law_big0_FindObject a0 l0 c0 z0 a1 l1 c1 w hm0 hs0 hv1 (by omega)
  exact law_small_FindObject a0 l0 c0 z0 a1 l1 c1 z1 w hm0 hs0 hm1 hs1 hv1 hz0

end Go.Proofs.Ytdokminhoihghaa
