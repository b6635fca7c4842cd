import Derived.Test.YtdcfdmcooonfkaaPaIp
import Derived.Test.YtdcfdmcooonfkaaPaL
import Derived.WalkKit
import Derived.ProofKit
import Derived.OpenShut
import Derived.ShutString
import Derived.ChangeOld
import Derived.Below
import Derived.WalkSpells
import Derived.Deep.QuietTactic
import Derived.BigQuiet
import Derived.Deep.RegionWith
import Derived.Deep.WholeRow
import Derived.Deep.DeepCutAuto
import Derived.Deep.RegionHeld2
import Derived.Deep.AppendLies
import Derived.Deep.RegionLaw
namespace Go.Proofs.Ytdcfdmcooonfkaa
open Go.ChangeShapes Go.WideShapes Go.ChangeAt Go.RowKit

set_option maxRecDepth 100000 in
theorem law_big0_MayEnter (a0 : Option Addr) (l0 c0 : Nat) (z0 : List Int) (ta0 : Option Addr) (tl0 tc0 : Nat) (t0 : List Int) (a1 : Option Addr) (l1 c1 : Nat) (w : World) (hs0 : PR w a0 l0 z0 ta0 tl0 t0) (hbig : 1048576 < (l0 + tl0)) :
    Calls Try.prog 6 #[.agg #[.slice a0 l0 c0, .slice ta0 tl0 tc0], .agg #[.slice a1 l1 c1]] w fun e w' => e = .returned (.bool true) ∧ Below w.heap.size w w' := by
  have M0 := (((Mm.start w).alloc2 (.slice a0 l0 c0) (.slice ta0 tl0 tc0) 52).alloc1 (.slice a1 l1 c1) 50)
  try simp only [World.size_alloc] at M0
  go_enter Try.func6, Try.ntmps6
  go_wp2_with fail
  refine (szPass_calls a0 l0 c0 ta0 tl0 tc0 1048576 _ (by omega) (by omega) ((hs0.below M0.bel (Nat.le_refl _))).hn ((hs0.below M0.bel (Nat.le_refl _))).hm).mono ?_
  rintro e w1 ⟨rfl, g1⟩
  have M1 := M0.below g1
  clear g1 M0
  rw [szI_neg (by omega)]
  have HB := hide M1.bel
  clear M1
  go_wp2
  go_ret
  exact ⟨rfl, HB.out⟩

set_option maxRecDepth 100000 in
theorem law_big1_MayEnter (a0 : Option Addr) (l0 c0 : Nat) (z0 : List Int) (ta0 : Option Addr) (tl0 tc0 : Nat) (t0 : List Int) (a1 : Option Addr) (l1 c1 : Nat) (z1 : List Int) (w : World) (hs0 : PR w a0 l0 z0 ta0 tl0 t0) (hm1 : l1 ≤ maxLen) (hs1 : Sl w a1 l1 z1) (hz0 : (l0 + tl0) ≤ 1048576) (hbig : 1048576 < (l0 + tl0) + l1) :
    Calls Try.prog 6 #[.agg #[.slice a0 l0 c0, .slice ta0 tl0 tc0], .agg #[.slice a1 l1 c1]] w fun e w' => e = .returned (.bool true) ∧ Below w.heap.size w w' := by
  have _ := hs1
  have M0 := (((Mm.start w).alloc2 (.slice a0 l0 c0) (.slice ta0 tl0 tc0) 52).alloc1 (.slice a1 l1 c1) 50)
  try simp only [World.size_alloc] at M0
  go_enter Try.func6, Try.ntmps6
  go_wp2_with fail
  refine (szPass_calls a0 l0 c0 ta0 tl0 tc0 1048576 _ (by omega) (by omega) ((hs0.below M0.bel (Nat.le_refl _))).hn ((hs0.below M0.bel (Nat.le_refl _))).hm).mono ?_
  rintro e w1 ⟨rfl, g1⟩
  have M1 := M0.below g1
  clear g1 M0
  rw [szI_pos (by omega)]
  have hge0 : ¬ (1048576 - (((l0 + tl0) : Nat) : Int) < 0) := by omega
  have q0_0 := M1.cell 0 rfl
  go_wp2_with fail
  refine (szLabel_calls a1 l1 c1 _ _ (by omega) (by omega) hm1).mono ?_
  rintro e w2 ⟨rfl, g2⟩
  have M2 := M1.below g2
  clear g2 M1
  rw [szI_neg (by omega)]
  have HB := hide M2.bel
  clear M2
  go_wp2
  go_ret
  exact ⟨rfl, HB.out⟩

set_option maxRecDepth 100000 in
set_option maxHeartbeats 16000000 in
theorem law_small_MayEnter (a0 : Option Addr) (l0 c0 : Nat) (z0 : List Int) (ta0 : Option Addr) (tl0 tc0 : Nat) (t0 : List Int) (a1 : Option Addr) (l1 c1 : Nat) (z1 : List Int) (w : World) (hs0 : PR w a0 l0 z0 ta0 tl0 t0) (hm1 : l1 ≤ maxLen) (hs1 : Sl w a1 l1 z1) (hz : (l0 + tl0) + l1 ≤ 1048576) :
    Calls Try.prog 6 #[.agg #[.slice a0 l0 c0, .slice ta0 tl0 tc0], .agg #[.slice a1 l1 c1]] w fun e w' => e = .returned (.bool true) ∧ Below w.heap.size w w' := by
  have hz0 : (l0 + tl0) ≤ 1048576 := by omega
  have hz1 : l1 ≤ 1048576 := by omega
  have M0 := (((Mm.start w).alloc2 (.slice a0 l0 c0) (.slice ta0 tl0 tc0) 52).alloc1 (.slice a1 l1 c1) 50)
  try simp only [World.size_alloc] at M0
  go_enter Try.func6, Try.ntmps6
  go_wp2_with fail
  refine (szPass_calls a0 l0 c0 ta0 tl0 tc0 1048576 _ (by omega) (by omega) ((hs0.below M0.bel (Nat.le_refl _))).hn ((hs0.below M0.bel (Nat.le_refl _))).hm).mono ?_
  rintro e w1 ⟨rfl, g1⟩
  have zz1 := g1.size
  try simp only [World.size_alloc] at zz1
  have M1 := M0.below g1
  clear g1 M0
  rw [szI_pos (by omega)]
  have hge0 : ¬ (1048576 - (((l0 + tl0) : Nat) : Int) < 0) := by omega
  have q0 := M1.cell 0 rfl
  go_wp2_with fail
  refine (szLabel_calls a1 l1 c1 _ _ (by omega) (by omega) hm1).mono ?_
  rintro e w2 ⟨rfl, g2⟩
  have zz2 := g2.size
  try simp only [World.size_alloc] at zz2
  have M2 := M1.below g2
  clear g2 M1 q0
  rw [szI_pos (by omega)]
  have hge1 : ¬ (1048576 - (((l0 + tl0) : Nat) : Int) - ((l1 : Nat) : Int) < 0) := by omega
  have q0 := M2.cell 1 rfl
  have q1 := M2.cell 2 rfl
  have q2 := M2.cell 0 rfl
  have lt0 := M2.lt 1 rfl
  have lt1 := M2.lt 2 rfl
  have lt2 := M2.lt 0 rfl
  have sr0 := hs0.below M2.bel (Nat.le_refl _)
  have sr1 := hs1.below M2.bel (Nat.le_refl _)
  go_upto_region 8 with fail
  go_cut [6] (fun v wd => v = .bool (meB z0 t0 z1) ∧ Below w2.heap.size w2 wd)
  case first =>
    have HS0 : Hid (w2.drew.cell? ⟨w.heap.size, 0, none⟩ = some (.slice a0 l0 c0) ∧ w2.drew.cell? ⟨w.heap.size, 1, none⟩ = some (.slice ta0 tl0 tc0) ∧ w2.drew.cell? ⟨w.heap.size + 1, 0, none⟩ = some (.slice a1 l1 c1) ∧ Below w2.heap.size w2 w2.drew) := ⟨q0, q1, q2, (Below.refl _ _).drew⟩
    go_region_held2 (fun w' => w'.cell? ⟨w.heap.size, 0, none⟩ = some (.slice a0 l0 c0) ∧ w'.cell? ⟨w.heap.size, 1, none⟩ = some (.slice ta0 tl0 tc0) ∧ w'.cell? ⟨w.heap.size + 1, 0, none⟩ = some (.slice a1 l1 c1) ∧ Below w2.heap.size w2 w')
      (first | with_reducible exact HS0.out | (repeat (first | with_reducible assumption | with_reducible refine q3_allocd lt0 lt1 lt2 ?_ _ | with_reducible refine q3_alloc lt0 lt1 lt2 ?_ _ | with_reducible refine q3_set lt0 lt1 lt2 ?_ ?_ _ | (show (_ : Nat) ≤ _; exact Nat.le_refl _) | (show (_ : Nat) ≤ _; dsimp only; omega))))
      (first
        | (go_at_call_of 33 (Value.slice a0 l0 c0); refine (toPass_O a0 l0 c0 z0 ta0 tl0 tc0 t0 _ (by omega) ?_).mono ?_; exact sr0.below (q3_bel (by with_reducible assumption)) (Nat.le_refl _); rintro e wa ⟨b_v0, bt_v0, rfl, o0, ga⟩; have hswa := q3_below lt0 lt1 lt2 (by with_reducible assumption) ga; have hzwa := ga.size; have hwwa := (q3_bel hswa).size; (try simp only [World.size_drew] at hzwa); (try have hqwa := Nat.lt_of_succ_le hzwa); obtain ⟨bc0, bf0⟩ := bcellQ ga; (try simp only [World.size_drew] at bc0 bf0); clear ga)
        | (go_at_call_of 36 (Value.slice a1 l1 c1); refine (toLabel_O a1 l1 c1 z1 _ (by omega) ?_).mono ?_; exact sr1.below (q3_bel (by with_reducible assumption)) (Nat.le_refl _); rintro e wb ⟨b_v1, rfl, o1, ga⟩; have hswb := q3_below lt0 lt1 lt2 (by with_reducible assumption) ga; have hzwb := ga.size; have hwwb := (q3_bel hswb).size; have o0 := Loc.belowA OPs.loc o0 ga (by first | exact Below.refl _ _ | exact (Below.refl _ _).alloc (Nat.le_refl _) _); (try simp only [World.size_drew] at hzwb); (try have hqwb := Nat.lt_of_succ_le hzwb); (try have hrwb := Nat.lt_of_lt_of_le hqwa hzwb); obtain ⟨bc1, bf1⟩ := bcellQ ga; (try simp only [World.size_drew] at bc1 bf1); clear ga)
        | (go_at_call 30; refine (specMayEnter_calls _ _ _ z0 _ _ _ t0 _ _ _ z1 _ (Loc.belowB OPs.loc o0 (by first | exact Below.refl _ _ | exact (Below.refl _ _).alloc (Nat.le_refl _) _)).pr hm1 (Loc.belowB OS.loc o1 (by first | exact Below.refl _ _ | exact (Below.refl _ _).alloc (Nat.le_refl _) _)).sl).mono ?_; rintro e ws ⟨rfl, gs⟩; have hss := q3_below lt0 lt1 lt2 (by with_reducible assumption) gs; have hzs := gs.size; have hws := (q3_bel hss).size; obtain ⟨bcs, bfs⟩ := bcellQ gs; (try simp only [World.size_drew] at hzs bcs bfs); (try have hts := Nat.lt_of_succ_le hzs); (try have hus := Nat.lt_of_lt_of_le hqwb hzs); (try have hvs := Nat.lt_of_lt_of_le hrwb hzs); clear gs))
    all_goals go_wp2_with fail
    all_goals go_meet
    all_goals exact ⟨rfl, q3_bel (by with_reducible assumption)⟩
  case rest =>
    obtain ⟨rfl, g3⟩ := hcut
    obtain ⟨w3, rfl⟩ : ∃ x, x = wc := ⟨wc, rfl⟩
    have zz3 := g3.size
    have M3 := (M2.below g3)
    clear g3 M2 lt0 lt1 lt2 sr0 sr1 q0 q1 q2
    have q0 := M3.cell 1 rfl
    have q1 := M3.cell 2 rfl
    go_wp2_with fail
    refine (toPass_O a0 l0 c0 z0 ta0 tl0 tc0 t0 _ (by omega) (hs0.below M3.bel (Nat.le_refl _))).mono ?_
    rintro e w4 ⟨b_x0, bt_x0, rfl, ox0, g4⟩
    have zz4 := g4.size
    try simp only [World.size_alloc] at ox0 zz4
    have M4 := ((M3.below g4).fact OPs.loc ox0).alloc2 (.slice (some ⟨b_x0, 0, none⟩) l0 l0) (.slice (some ⟨bt_x0, 0, none⟩) tl0 tl0) 28
    clear g4 M3 ox0 q0 q1
    have q0 := M4.cell 2 rfl
    go_wp2_with fail
    refine (toLabel_O a1 l1 c1 z1 _ (by omega) (hs1.below M4.bel (Nat.le_refl _))).mono ?_
    rintro e w5 ⟨b_x1, rfl, ox1, g5⟩
    have zz5 := g5.size
    try simp only [World.size_alloc] at ox1 zz5
    have M5 := ((M4.below g5).fact OS.loc ox1).alloc1 (.slice (some ⟨b_x1, 0, none⟩) l1 l1) 26
    clear g5 M4 ox1 q0
    have q0 := M5.cell 1 rfl
    have q1 := M5.cell 2 rfl
    have q2 := M5.cell 0 rfl
    go_wp2_with fail
    refine (implMayEnter_calls _ _ _ z0 _ _ _ t0 _ _ _ z1 _ (M5.get 1 rfl).pr hm1 (M5.get 0 rfl).sl).mono ?_
    rintro e w6 ⟨rfl, g6⟩
    have zz6 := g6.size
    try simp only [World.size_alloc] at zz6
    have M6 := (M5.below g6)
    clear g6 M5 q0 q1 q2
    have hne : ((meB z0 t0 z1) != (meB z0 t0 z1)) = false := by simp
    have q0 := M6.cell 1 rfl
    have q1 := M6.cell 2 rfl
    have q2 := M6.cell 4 rfl
    have q3 := M6.cell 5 rfl
    go_upto_region 14 with fail
    go_cut [39] (fun v wd => v = .bool false ∧ Below w6.heap.size w6 wd)
    case first =>
      go_region_with (first
        | (go_at_call 33; refine (toPass_O a0 l0 c0 z0 ta0 tl0 tc0 t0 _ (by omega) ?_).mono ?_; exact hs0.below M6.drew.bel (Nat.le_refl _); rintro e wa ⟨b_y, bt_y, rfl, oy, ga⟩; have ha : Below w6.heap.size w6 wa := ((Below.refl w6.heap.size w6).drew).trans ga; have Ma := M6.below ha; have y0 := Ma.cell 1 rfl; have y1 := Ma.cell 2 rfl; clear ga)
        | (go_at_call 34; refine (eqPass_O _ _ _ _ _ _ _ _ _ z0 _ _ _ t0 _ (Ma.get 1 rfl) oy).mono ?_; rintro e wb ⟨rfl, gb⟩; have hb : Below w6.heap.size w6 wb := ha.trans (gb.mono ha.size); clear gb))
      all_goals go_wp2_with fail
      all_goals go_meet
      all_goals exact ⟨rfl, hb⟩
    case rest =>
      obtain ⟨rfl, g7⟩ := hcut
      obtain ⟨w7, rfl⟩ : ∃ x, x = wc := ⟨wc, rfl⟩
      have zz7 := g7.size
      have M7 := M6.below g7
      clear g7 M6 q0 q1 q2 q3
      have q0 := M7.cell 0 rfl
      have q1 := M7.cell 3 rfl
      go_upto_region 16 with fail
      go_cut [44] (fun v wd => v = .bool false ∧ Below w7.heap.size w7 wd)
      case first =>
        go_region_with (first
          | (go_at_call 36; refine (toLabel_O a1 l1 c1 z1 _ (by omega) ?_).mono ?_; exact hs1.below M7.drew.bel (Nat.le_refl _); rintro e wa ⟨b_y, rfl, oy, ga⟩; have ha : Below w7.heap.size w7 wa := ((Below.refl w7.heap.size w7).drew).trans ga; have Ma := M7.below ha; have y0 := Ma.cell 0 rfl; clear ga)
          | (go_at_call 37; refine (eqLabel_O _ _ _ _ _ _ _ z1 _ (Ma.get 0 rfl) oy).mono ?_; rintro e wb ⟨rfl, gb⟩; have hb : Below w7.heap.size w7 wb := ha.trans (gb.mono ha.size); clear gb))
        all_goals go_wp2_with fail
        all_goals go_meet
        all_goals exact ⟨rfl, hb⟩
      case rest =>
        obtain ⟨rfl, g8⟩ := hcut
        obtain ⟨w8, rfl⟩ : ∃ x, x = wc := ⟨wc, rfl⟩
        have zz8 := g8.size
        have M8 := M7.below g8
        clear g8 M7 q0 q1
        have HB := hide M8.bel
        clear M8
        go_wp2
        go_ret
        exact ⟨rfl, HB.out⟩

theorem walk_MayEnter (a0 : Option Addr) (l0 c0 : Nat) (z0 : List Int) (ta0 : Option Addr) (tl0 tc0 : Nat) (t0 : List Int) (a1 : Option Addr) (l1 c1 : Nat) (z1 : List Int) (w : World) (hs0 : PR w a0 l0 z0 ta0 tl0 t0) (hm1 : l1 ≤ maxLen) (hs1 : Sl w a1 l1 z1) :
    Calls Try.prog 6 #[.agg #[.slice a0 l0 c0, .slice ta0 tl0 tc0], .agg #[.slice a1 l1 c1]] w fun e w' => e = .returned (.bool true) ∧ Below w.heap.size w w' := by
  by_cases hz0 : (l0 + tl0) ≤ 1048576
  rotate_left
  · exact law_big0_MayEnter a0 l0 c0 z0 ta0 tl0 tc0 t0 a1 l1 c1 w hs0 (by omega)
  by_cases hz1 : (l0 + tl0) + l1 ≤ 1048576
  rotate_left
  · exact law_big1_MayEnter a0 l0 c0 z0 ta0 tl0 tc0 t0 a1 l1 c1 z1 w hs0 hm1 hs1 hz0 (by omega)
  exact law_small_MayEnter a0 l0 c0 z0 ta0 tl0 tc0 t0 a1 l1 c1 z1 w hs0 hm1 hs1 hz1

end Go.Proofs.Ytdcfdmcooonfkaa
