import Derived.Test.YtbfmdnnbiidlkaaGreatK112
import Derived.Test.YtbfmdnnbiidlkaaGreatK111
import Derived.Test.YtbfmdnnbiidlkaaGreatK26
import Derived.Test.YtbfmdnnbiidlkaaGreatK15
import Derived.WalkKit
import Derived.ProofKit
import Derived.OpenShut
import Derived.ShutString
import Derived.ChangeOld
import Derived.Below
import Derived.WalkSpells
import Derived.Deep.QuietTactic
import Derived.BigQuiet
import Derived.Deep.RegionWith
import Derived.Deep.WholeRow
import Derived.Deep.DeepCutAuto
import Derived.Deep.RegionHeld2
import Derived.Deep.AppendLies
import Derived.Deep.RegionLaw
namespace Go.Proofs.YtbfmdnnbiidlkaaGreat
open Go.ChangeShapes Go.WideShapes Go.ChangeAt Go.RowKit

set_option maxRecDepth 100000 in
theorem law_big0_NewSystem (a0 : Option Addr) (l0 c0 : Nat) (z0 : List (Int × List Int)) (ta0 : Option Addr) (tl0 tc0 : Nat) (t0 : List Int) (da0 : Option Addr) (dl0 dc0 : Nat) (d0 : List Int) (a1 : Option Addr) (l1 c1 : Nat) (x2 : Int) (x3 : Int) (a4 : Option Addr) (l4 c4 : Nat) (w : World) (hs0 : RT w a0 l0 z0 ta0 tl0 t0 da0 dl0 d0) (hbig : 1048576 < (l0 + lenSum z0 + tl0 + dl0)) :
    Calls Tryz.prog 3 #[.agg #[.slice a0 l0 c0, .slice ta0 tl0 tc0, .slice da0 dl0 dc0], .slice a1 l1 c1, .int .i64 x2, .int .i64 x3, .slice a4 l4 c4] w fun e w' => e = .returned (.bool true) ∧ Below w.heap.size w w' := by
  have M0 := ((Mm.start w).alloc3 (.slice a0 l0 c0) (.slice ta0 tl0 tc0) (.slice da0 dl0 dc0) 27)
  try simp only [World.size_alloc] at M0
  go_enter Tryz.func3, Tryz.ntmps3
  go_wp2_with fail
  refine (szTables_calls a0 l0 c0 z0 ta0 tl0 tc0 t0 da0 dl0 dc0 d0 1048576 _ (by omega) (by omega) (hs0.below M0.bel (Nat.le_refl _))).mono ?_
  rintro e w1 ⟨rfl, g1⟩
  have M1 := M0.below g1
  clear g1 M0
  rw [szI_neg (by omega)]
  have HB := hide M1.bel
  clear M1
  go_wp2
  go_ret
  exact ⟨rfl, HB.out⟩

set_option maxRecDepth 100000 in
theorem law_big1_NewSystem (a0 : Option Addr) (l0 c0 : Nat) (z0 : List (Int × List Int)) (ta0 : Option Addr) (tl0 tc0 : Nat) (t0 : List Int) (da0 : Option Addr) (dl0 dc0 : Nat) (d0 : List Int) (a1 : Option Addr) (l1 c1 : Nat) (z1 : List (Int × Int)) (x2 : Int) (x3 : Int) (a4 : Option Addr) (l4 c4 : Nat) (w : World) (hs0 : RT w a0 l0 z0 ta0 tl0 t0 da0 dl0 d0) (hm1 : l1 ≤ maxLen) (hs1 : Swd w a1 l1 z1) (hz0 : (l0 + lenSum z0 + tl0 + dl0) ≤ 1048576) (hbig : 1048576 < (l0 + lenSum z0 + tl0 + dl0) + l1) :
    Calls Tryz.prog 3 #[.agg #[.slice a0 l0 c0, .slice ta0 tl0 tc0, .slice da0 dl0 dc0], .slice a1 l1 c1, .int .i64 x2, .int .i64 x3, .slice a4 l4 c4] w fun e w' => e = .returned (.bool true) ∧ Below w.heap.size w w' := by
  have _ := hs1
  have M0 := ((Mm.start w).alloc3 (.slice a0 l0 c0) (.slice ta0 tl0 tc0) (.slice da0 dl0 dc0) 27)
  try simp only [World.size_alloc] at M0
  go_enter Tryz.func3, Tryz.ntmps3
  go_wp2_with fail
  refine (szTables_calls a0 l0 c0 z0 ta0 tl0 tc0 t0 da0 dl0 dc0 d0 1048576 _ (by omega) (by omega) (hs0.below M0.bel (Nat.le_refl _))).mono ?_
  rintro e w1 ⟨rfl, g1⟩
  have M1 := M0.below g1
  clear g1 M0
  rw [szI_pos (by omega)]
  have hge0 : ¬ (1048576 - (((l0 + lenSum z0 + tl0 + dl0) : Nat) : Int) < 0) := by omega
  go_wp2_with fail
  refine (szWordS_calls a1 l1 c1 _ _ (by omega) (by omega) hm1).mono ?_
  rintro e w2 ⟨rfl, g2⟩
  have M2 := M1.below g2
  clear g2 M1
  rw [szI_neg (by omega)]
  have HB := hide M2.bel
  clear M2
  go_wp2
  go_ret
  exact ⟨rfl, HB.out⟩

set_option maxRecDepth 100000 in
theorem law_big4_NewSystem (a0 : Option Addr) (l0 c0 : Nat) (z0 : List (Int × List Int)) (ta0 : Option Addr) (tl0 tc0 : Nat) (t0 : List Int) (da0 : Option Addr) (dl0 dc0 : Nat) (d0 : List Int) (a1 : Option Addr) (l1 c1 : Nat) (z1 : List (Int × Int)) (x2 : Int) (x3 : Int) (a4 : Option Addr) (l4 c4 : Nat) (z4 : List (Int × Int)) (w : World) (hs0 : RT w a0 l0 z0 ta0 tl0 t0 da0 dl0 d0) (hm1 : l1 ≤ maxLen) (hs1 : Swd w a1 l1 z1) (hm4 : l4 ≤ maxLen) (hs4 : Swd w a4 l4 z4) (hz0 : (l0 + lenSum z0 + tl0 + dl0) ≤ 1048576) (hz1 : (l0 + lenSum z0 + tl0 + dl0) + l1 ≤ 1048576) (hbig : 1048576 < (l0 + lenSum z0 + tl0 + dl0) + l1 + l4) :
    Calls Tryz.prog 3 #[.agg #[.slice a0 l0 c0, .slice ta0 tl0 tc0, .slice da0 dl0 dc0], .slice a1 l1 c1, .int .i64 x2, .int .i64 x3, .slice a4 l4 c4] w fun e w' => e = .returned (.bool true) ∧ Below w.heap.size w w' := by
  have _ := hs1
  have _ := hs4
  have M0 := ((Mm.start w).alloc3 (.slice a0 l0 c0) (.slice ta0 tl0 tc0) (.slice da0 dl0 dc0) 27)
  try simp only [World.size_alloc] at M0
  go_enter Tryz.func3, Tryz.ntmps3
  go_wp2_with fail
  refine (szTables_calls a0 l0 c0 z0 ta0 tl0 tc0 t0 da0 dl0 dc0 d0 1048576 _ (by omega) (by omega) (hs0.below M0.bel (Nat.le_refl _))).mono ?_
  rintro e w1 ⟨rfl, g1⟩
  have M1 := M0.below g1
  clear g1 M0
  rw [szI_pos (by omega)]
  have hge0 : ¬ (1048576 - (((l0 + lenSum z0 + tl0 + dl0) : Nat) : Int) < 0) := by omega
  go_wp2_with fail
  refine (szWordS_calls a1 l1 c1 _ _ (by omega) (by omega) hm1).mono ?_
  rintro e w2 ⟨rfl, g2⟩
  have M2 := M1.below g2
  clear g2 M1
  rw [szI_pos (by omega)]
  have hge1 : ¬ (1048576 - (((l0 + lenSum z0 + tl0 + dl0) : Nat) : Int) - ((l1 : Nat) : Int) < 0) := by omega
  go_wp2_with fail
  refine (szGateS_calls a4 l4 c4 _ _ (by omega) (by omega) hm4).mono ?_
  rintro e w3 ⟨rfl, g3⟩
  have M3 := M2.below g3
  clear g3 M2
  rw [szI_neg (by omega)]
  have HB := hide M3.bel
  clear M3
  go_wp2
  go_ret
  exact ⟨rfl, HB.out⟩

set_option maxRecDepth 100000 in
set_option maxHeartbeats 16000000 in
theorem law_small_NewSystem (a0 : Option Addr) (l0 c0 : Nat) (z0 : List (Int × List Int)) (ta0 : Option Addr) (tl0 tc0 : Nat) (t0 : List Int) (da0 : Option Addr) (dl0 dc0 : Nat) (d0 : List Int) (a1 : Option Addr) (l1 c1 : Nat) (z1 : List (Int × Int)) (x2 : Int) (x3 : Int) (a4 : Option Addr) (l4 c4 : Nat) (z4 : List (Int × Int)) (w : World) (hs0 : RT w a0 l0 z0 ta0 tl0 t0 da0 dl0 d0) (hm1 : l1 ≤ maxLen) (hs1 : Swd w a1 l1 z1) (hm4 : l4 ≤ maxLen) (hs4 : Swd w a4 l4 z4) (hz : (l0 + lenSum z0 + tl0 + dl0) + l1 + l4 ≤ 1048576) :
    Calls Tryz.prog 3 #[.agg #[.slice a0 l0 c0, .slice ta0 tl0 tc0, .slice da0 dl0 dc0], .slice a1 l1 c1, .int .i64 x2, .int .i64 x3, .slice a4 l4 c4] w fun e w' => e = .returned (.bool true) ∧ Below w.heap.size w w' := by
  have hz0 : (l0 + lenSum z0 + tl0 + dl0) ≤ 1048576 := by omega
  have hz1 : l1 ≤ 1048576 := by omega
  have hz4 : l4 ≤ 1048576 := by omega
  have M0 := ((Mm.start w).alloc3 (.slice a0 l0 c0) (.slice ta0 tl0 tc0) (.slice da0 dl0 dc0) 27)
  try simp only [World.size_alloc] at M0
  go_enter Tryz.func3, Tryz.ntmps3
  go_wp2_with fail
  refine (szTables_calls a0 l0 c0 z0 ta0 tl0 tc0 t0 da0 dl0 dc0 d0 1048576 _ (by omega) (by omega) (hs0.below M0.bel (Nat.le_refl _))).mono ?_
  rintro e w1 ⟨rfl, g1⟩
  have zz1 := g1.size
  try simp only [World.size_alloc] at zz1
  have M1 := M0.below g1
  clear g1 M0
  rw [szI_pos (by omega)]
  have hge0 : ¬ (1048576 - (((l0 + lenSum z0 + tl0 + dl0) : Nat) : Int) < 0) := by omega
  go_wp2_with fail
  refine (szWordS_calls a1 l1 c1 _ _ (by omega) (by omega) hm1).mono ?_
  rintro e w2 ⟨rfl, g2⟩
  have zz2 := g2.size
  try simp only [World.size_alloc] at zz2
  have M2 := M1.below g2
  clear g2 M1
  rw [szI_pos (by omega)]
  have hge1 : ¬ (1048576 - (((l0 + lenSum z0 + tl0 + dl0) : Nat) : Int) - ((l1 : Nat) : Int) < 0) := by omega
  go_wp2_with fail
  refine (szGateS_calls a4 l4 c4 _ _ (by omega) (by omega) hm4).mono ?_
  rintro e w3 ⟨rfl, g3⟩
  have zz3 := g3.size
  try simp only [World.size_alloc] at zz3
  have M3 := M2.below g3
  clear g3 M2
  rw [szI_pos (by omega)]
  have hge2 : ¬ (1048576 - (((l0 + lenSum z0 + tl0 + dl0) : Nat) : Int) - ((l1 : Nat) : Int) - ((l4 : Nat) : Int) < 0) := by omega
  have q0 := M3.cell 0 rfl
  have q1 := M3.cell 1 rfl
  have q2 := M3.cell 2 rfl
  go_wp2_with fail
  refine (toTables_O a0 l0 c0 z0 ta0 tl0 tc0 t0 da0 dl0 dc0 d0 _ (by omega) (hs0.below M3.bel (Nat.le_refl _))).mono ?_
  rintro e w4 ⟨b_s0, bt_s0, bd_s0, rfl, os0, g4⟩
  have zz4 := g4.size
  try simp only [World.size_alloc] at os0 zz4
  have M4 := (M3.below g4).fact OT.loc os0
  clear g4 M3 os0 q0 q1 q2
  go_wp2_with fail
  refine (toWordS_O a1 l1 c1 z1 _ (by omega) (hs1.below M4.bel (Nat.le_refl _))).mono ?_
  rintro e w5 ⟨b_s1, rfl, os1, g5⟩
  have zz5 := g5.size
  try simp only [World.size_alloc] at os1 zz5
  have M5 := (M4.below g5).fact OWd.loc os1
  clear g5 M4 os1
  go_wp2_with fail
  refine (toGateS_O a4 l4 c4 z4 _ (by omega) (hs4.below M5.bel (Nat.le_refl _))).mono ?_
  rintro e w6 ⟨b_s4, rfl, os4, g6⟩
  have zz6 := g6.size
  try simp only [World.size_alloc] at os4 zz6
  have M6 := (M5.below g6).fact OWd.loc os4
  clear g6 M5 os4
  go_wp2_with fail
  refine (specNewSystem_calls _ _ _ z0 _ _ _ t0 _ _ _ d0 _ _ _ z1 x2 x3 _ _ _ z4 _ (M6.get 2 rfl).rt (by omega) (M6.get 1 rfl).swd (by omega) (M6.get 0 rfl).swd).mono ?_
  rintro e w7 ⟨vA, rfl, ov, g7⟩
  have zz7 := g7.size
  try simp only [World.size_alloc] at ov zz7
  have M7 := ((M6.below g7).fact OY.loc ov).allocC [.int .i64 (nsC z0 t0 d0 z1 x2 x3 z4), .slice vA.a vA.n vA.c, .slice vA.ta vA.tn vA.tc, .slice vA.da vA.dn vA.dc, .slice vA.wa vA.wn vA.wc, .slice vA.xa vA.xn vA.xc, .int .i64 (nsR z0 t0 d0 z1 x2 x3 z4).ac, .int .i64 (nsR z0 t0 d0 z1 x2 x3 z4).cz, .slice vA.la vA.ln vA.lc, .int .i64 (nsR z0 t0 d0 z1 x2 x3 z4).dv, .slice vA.oa vA.on vA.oc, .slice vA.ga vA.gn vA.gc] 49
  clear g7 M6 ov
  as_aux_lemma =>
    have q0 := M7.cell 0 rfl
    have q1 := M7.cell 1 rfl
    have q2 := M7.cell 2 rfl
    go_wp2_with fail
    refine (toTables_O a0 l0 c0 z0 ta0 tl0 tc0 t0 da0 dl0 dc0 d0 _ (by omega) (hs0.below M7.bel (Nat.le_refl _))).mono ?_
    rintro e w8 ⟨b_x0, bt_x0, bd_x0, rfl, ox0, g8⟩
    have zz8 := g8.size
    try simp only [World.size_alloc] at ox0 zz8
    have M8 := ((M7.below g8).fact OT.loc ox0).alloc3 (.slice (some ⟨b_x0, 0, none⟩) l0 l0) (.slice (some ⟨bt_x0, 0, none⟩) tl0 tl0) (.slice (some ⟨bd_x0, 0, none⟩) dl0 dl0) 37
    clear g8 M7 ox0 q0 q1 q2
    go_wp2_with fail
    refine (toWordS_O a1 l1 c1 z1 _ (by omega) (hs1.below M8.bel (Nat.le_refl _))).mono ?_
    rintro e w9 ⟨b_x1, rfl, ox1, g9⟩
    have zz9 := g9.size
    try simp only [World.size_alloc] at ox1 zz9
    have M9 := (M8.below g9).fact OWd.loc ox1
    clear g9 M8 ox1
    go_wp2_with fail
    refine (toGateS_O a4 l4 c4 z4 _ (by omega) (hs4.below M9.bel (Nat.le_refl _))).mono ?_
    rintro e w10 ⟨b_x4, rfl, ox4, g10⟩
    have zz10 := g10.size
    try simp only [World.size_alloc] at ox4 zz10
    have M10 := (M9.below g10).fact OWd.loc ox4
    clear g10 M9 ox4
    have q0 := M10.cell 0 rfl
    have q1 := M10.cell 1 rfl
    have q2 := M10.cell 2 rfl
    go_wp2_with fail
    refine (implNewSystem_calls _ _ _ z0 _ _ _ t0 _ _ _ d0 _ _ _ z1 x2 x3 _ _ _ z4 _ (M10.get 2 rfl).rt (by omega) (M10.get 1 rfl).swd (by omega) (M10.get 0 rfl).swd).mono ?_
    rintro e w11 ⟨rA, rfl, or, g11⟩
    have zz11 := g11.size
    try simp only [World.size_alloc] at or zz11
    have M11 := ((M10.below g11).fact OY.loc or).allocC [.int .i64 (nsC z0 t0 d0 z1 x2 x3 z4), .slice rA.a rA.n rA.c, .slice rA.ta rA.tn rA.tc, .slice rA.da rA.dn rA.dc, .slice rA.wa rA.wn rA.wc, .slice rA.xa rA.xn rA.xc, .int .i64 (nsR z0 t0 d0 z1 x2 x3 z4).ac, .int .i64 (nsR z0 t0 d0 z1 x2 x3 z4).cz, .slice rA.la rA.ln rA.lc, .int .i64 (nsR z0 t0 d0 z1 x2 x3 z4).dv, .slice rA.oa rA.on rA.oc, .slice rA.ga rA.gn rA.gc] 49
    clear g11 M10 or q0 q1 q2
    as_aux_lemma =>
      have q0 := (M11.get 0 rfl).cell 0 rfl
      have q1 := (M11.get 0 rfl).cell 1 rfl
      have q2 := (M11.get 0 rfl).cell 2 rfl
      have q3 := (M11.get 0 rfl).cell 3 rfl
      have q4 := (M11.get 0 rfl).cell 4 rfl
      have q5 := (M11.get 0 rfl).cell 5 rfl
      have q6 := (M11.get 0 rfl).cell 6 rfl
      have q7 := (M11.get 0 rfl).cell 7 rfl
      have q8 := (M11.get 0 rfl).cell 8 rfl
      have q9 := (M11.get 0 rfl).cell 9 rfl
      have q10 := (M11.get 0 rfl).cell 10 rfl
      have q11 := (M11.get 0 rfl).cell 11 rfl
      have q12 := (M11.get 5 rfl).cell 0 rfl
      have q13 := (M11.get 5 rfl).cell 1 rfl
      have q14 := (M11.get 5 rfl).cell 2 rfl
      have q15 := (M11.get 5 rfl).cell 3 rfl
      have q16 := (M11.get 5 rfl).cell 4 rfl
      have q17 := (M11.get 5 rfl).cell 5 rfl
      have q18 := (M11.get 5 rfl).cell 6 rfl
      have q19 := (M11.get 5 rfl).cell 7 rfl
      have q20 := (M11.get 5 rfl).cell 8 rfl
      have q21 := (M11.get 5 rfl).cell 9 rfl
      have q22 := (M11.get 5 rfl).cell 10 rfl
      have q23 := (M11.get 5 rfl).cell 11 rfl
      go_wp2_with fail
      refine (eqGR_O (nsC z0 t0 d0 z1 x2 x3 z4) (nsR z0 t0 d0 z1 x2 x3 z4) (M11.get 1 rfl) (M11.get 6 rfl)).mono ?_
      rintro e w12 ⟨rfl, g12⟩
      have zz12 := g12.size
      try simp only [World.size_alloc] at zz12
      have M12 := M11.below g12
      clear g12 M11 q0 q1 q2 q3 q4 q5 q6 q7 q8 q9 q10 q11 q12 q13 q14 q15 q16 q17 q18 q19 q20 q21 q22 q23
      have q0 := M12.cell 0 rfl
      have q1 := M12.cell 1 rfl
      have q2 := M12.cell 2 rfl
      have q3 := M12.cell 3 rfl
      have q4 := M12.cell 4 rfl
      have q5 := M12.cell 5 rfl
      go_upto_region 18 with fail
      go_cut [65] (fun v wd => v = .bool false ∧ Below w12.heap.size w12 wd)
      case first =>
        go_region_with (first
          | (go_at_call 11; refine (toTables_O a0 l0 c0 z0 ta0 tl0 tc0 t0 da0 dl0 dc0 d0 _ (by omega) ?_).mono ?_; exact hs0.below M12.drew.bel (Nat.le_refl _); rintro e wa ⟨b_y, bt_y, bd_y, rfl, oy, ga⟩; have ha : Below w12.heap.size w12 wa := ((Below.refl w12.heap.size w12).drew).trans ga; have Ma := M12.below ha; have y0 := Ma.cell 0 rfl; have y1 := Ma.cell 1 rfl; have y2 := Ma.cell 2 rfl; clear ga)
          | (go_at_call 16; refine (eqTables_O _ _ _ _ _ _ _ z0 _ _ _ _ _ t0 _ _ _ _ _ d0 _ (Ma.get 4 rfl) oy).mono ?_; rintro e wb ⟨rfl, gb⟩; have hb : Below w12.heap.size w12 wb := ha.trans (gb.mono ha.size); clear gb))
        all_goals go_wp2_with fail
        all_goals go_meet
        all_goals exact ⟨rfl, hb⟩
      case rest =>
        obtain ⟨rfl, g13⟩ := hcut
        obtain ⟨w13, rfl⟩ : ∃ x, x = wc := ⟨wc, rfl⟩
        have zz13 := g13.size
        have M13 := M12.below g13
        clear g13 M12 q0 q1 q2 q3 q4 q5
        as_aux_lemma =>
          go_wp2_with fail
          refine (toWordS_O a1 l1 c1 z1 _ (by omega) (hs1.below M13.bel (Nat.le_refl _))).mono ?_
          rintro e w14 ⟨b_y1, rfl, oy1, g14⟩
          have zz14 := g14.size
          try simp only [World.size_alloc] at oy1 zz14
          have M14 := (M13.below g14).fact OWd.loc oy1
          clear g14 M13 oy1
          go_wp2_with fail
          refine (eqWordS_calls _ _ l1 _ _ z1 _ (by unfold maxLen; omega) (M14.get 4 rfl).swd (M14.get 0 rfl).swd).mono ?_
          rintro e w15 ⟨rfl, g15⟩
          have zz15 := g15.size
          try simp only [World.size_alloc] at zz15
          have M15 := M14.below g15
          clear g15 M14
          as_aux_lemma =>
            go_wp2_with fail
            refine (toGateS_O a4 l4 c4 z4 _ (by omega) (hs4.below M15.bel (Nat.le_refl _))).mono ?_
            rintro e w16 ⟨b_y4, rfl, oy4, g16⟩
            have zz16 := g16.size
            try simp only [World.size_alloc] at oy4 zz16
            have M16 := (M15.below g16).fact OWd.loc oy4
            clear g16 M15 oy4
            go_wp2_with fail
            refine (eqGateS_calls _ _ l4 _ _ z4 _ (by unfold maxLen; omega) (M16.get 4 rfl).swd (M16.get 0 rfl).swd).mono ?_
            rintro e w17 ⟨rfl, g17⟩
            have zz17 := g17.size
            try simp only [World.size_alloc] at zz17
            have M17 := M16.below g17
            clear g17 M16
            as_aux_lemma =>
              have q0 := M17.cell 0 rfl
              have q1 := M17.cell 1 rfl
              have q2 := M17.cell 2 rfl
              go_wp2_with fail
              refine (markTables_O _ _ l0 _ z0 _ tl0 _ t0 _ dl0 _ d0 1 _ (by omega) (by omega) (M17.get 6 rfl) (fun k hk => by have := hk.2; omega)).mono ?_
              rintro e w18 ⟨rfl, _, ho⟩
              have zz18 := ho.size
              have M18 : Mm w w18 [(w.heap.size, 0, .slice a0 l0 c0), (w.heap.size, 1, .slice ta0 tl0 tc0), (w.heap.size, 2, .slice da0 dl0 dc0)] [(w11.heap.size, w11.heap.size + 1, Cs (w11.heap.size) [.int .i64 (nsC z0 t0 d0 z1 x2 x3 z4), .slice rA.a rA.n rA.c, .slice rA.ta rA.tn rA.tc, .slice rA.da rA.dn rA.dc, .slice rA.wa rA.wn rA.wc, .slice rA.xa rA.xn rA.xc, .int .i64 (nsR z0 t0 d0 z1 x2 x3 z4).ac, .int .i64 (nsR z0 t0 d0 z1 x2 x3 z4).cz, .slice rA.la rA.ln rA.lc, .int .i64 (nsR z0 t0 d0 z1 x2 x3 z4).dv, .slice rA.oa rA.on rA.oc, .slice rA.ga rA.gn rA.gc]), (w10.heap.size, w11.heap.size, OY (InR (w10.heap.size) (w11.heap.size)) rA (nsR z0 t0 d0 z1 x2 x3 z4)), (w9.heap.size, w10.heap.size, OWd (InR (w9.heap.size) (w10.heap.size)) (some ⟨b_x4, 0, none⟩) l4 z4), (w8.heap.size + 1, w9.heap.size, OWd (InR (w8.heap.size + 1) (w9.heap.size)) (some ⟨b_x1, 0, none⟩) l1 z1), (w7.heap.size, w7.heap.size + 1, Cs (w7.heap.size) [.int .i64 (nsC z0 t0 d0 z1 x2 x3 z4), .slice vA.a vA.n vA.c, .slice vA.ta vA.tn vA.tc, .slice vA.da vA.dn vA.dc, .slice vA.wa vA.wn vA.wc, .slice vA.xa vA.xn vA.xc, .int .i64 (nsR z0 t0 d0 z1 x2 x3 z4).ac, .int .i64 (nsR z0 t0 d0 z1 x2 x3 z4).cz, .slice vA.la vA.ln vA.lc, .int .i64 (nsR z0 t0 d0 z1 x2 x3 z4).dv, .slice vA.oa vA.on vA.oc, .slice vA.ga vA.gn vA.gc]), (w6.heap.size, w7.heap.size, OY (InR (w6.heap.size) (w7.heap.size)) vA (nsR z0 t0 d0 z1 x2 x3 z4))] := (M17.sub (by simp) (by simp)).out ho (by omega) (by simp <;> omega) (by simp <;> omega)
              clear ho M17 q0 q1 q2
              go_wp2_with fail
              refine (markWordS_O _ _ l1 _ z1 _ _ (by omega) (by omega) (M18.get 3 rfl)).mono ?_
              rintro e w19 ⟨rfl, _, ho⟩
              have zz19 := ho.size
              have M19 : Mm w w19 [(w.heap.size, 0, .slice a0 l0 c0), (w.heap.size, 1, .slice ta0 tl0 tc0), (w.heap.size, 2, .slice da0 dl0 dc0)] [(w11.heap.size, w11.heap.size + 1, Cs (w11.heap.size) [.int .i64 (nsC z0 t0 d0 z1 x2 x3 z4), .slice rA.a rA.n rA.c, .slice rA.ta rA.tn rA.tc, .slice rA.da rA.dn rA.dc, .slice rA.wa rA.wn rA.wc, .slice rA.xa rA.xn rA.xc, .int .i64 (nsR z0 t0 d0 z1 x2 x3 z4).ac, .int .i64 (nsR z0 t0 d0 z1 x2 x3 z4).cz, .slice rA.la rA.ln rA.lc, .int .i64 (nsR z0 t0 d0 z1 x2 x3 z4).dv, .slice rA.oa rA.on rA.oc, .slice rA.ga rA.gn rA.gc]), (w10.heap.size, w11.heap.size, OY (InR (w10.heap.size) (w11.heap.size)) rA (nsR z0 t0 d0 z1 x2 x3 z4)), (w9.heap.size, w10.heap.size, OWd (InR (w9.heap.size) (w10.heap.size)) (some ⟨b_x4, 0, none⟩) l4 z4), (w7.heap.size, w7.heap.size + 1, Cs (w7.heap.size) [.int .i64 (nsC z0 t0 d0 z1 x2 x3 z4), .slice vA.a vA.n vA.c, .slice vA.ta vA.tn vA.tc, .slice vA.da vA.dn vA.dc, .slice vA.wa vA.wn vA.wc, .slice vA.xa vA.xn vA.xc, .int .i64 (nsR z0 t0 d0 z1 x2 x3 z4).ac, .int .i64 (nsR z0 t0 d0 z1 x2 x3 z4).cz, .slice vA.la vA.ln vA.lc, .int .i64 (nsR z0 t0 d0 z1 x2 x3 z4).dv, .slice vA.oa vA.on vA.oc, .slice vA.ga vA.gn vA.gc]), (w6.heap.size, w7.heap.size, OY (InR (w6.heap.size) (w7.heap.size)) vA (nsR z0 t0 d0 z1 x2 x3 z4))] := (M18.sub (by simp) (by simp)).out ho (by omega) (by simp <;> omega) (by simp <;> omega)
              clear ho M18
              go_wp2_with fail
              refine (markGateS_O _ _ l4 _ z4 _ _ (by omega) (by omega) (M19.get 2 rfl)).mono ?_
              rintro e w20 ⟨rfl, _, ho⟩
              have zz20 := ho.size
              have M20 : Mm w w20 [(w.heap.size, 0, .slice a0 l0 c0), (w.heap.size, 1, .slice ta0 tl0 tc0), (w.heap.size, 2, .slice da0 dl0 dc0)] [(w11.heap.size, w11.heap.size + 1, Cs (w11.heap.size) [.int .i64 (nsC z0 t0 d0 z1 x2 x3 z4), .slice rA.a rA.n rA.c, .slice rA.ta rA.tn rA.tc, .slice rA.da rA.dn rA.dc, .slice rA.wa rA.wn rA.wc, .slice rA.xa rA.xn rA.xc, .int .i64 (nsR z0 t0 d0 z1 x2 x3 z4).ac, .int .i64 (nsR z0 t0 d0 z1 x2 x3 z4).cz, .slice rA.la rA.ln rA.lc, .int .i64 (nsR z0 t0 d0 z1 x2 x3 z4).dv, .slice rA.oa rA.on rA.oc, .slice rA.ga rA.gn rA.gc]), (w10.heap.size, w11.heap.size, OY (InR (w10.heap.size) (w11.heap.size)) rA (nsR z0 t0 d0 z1 x2 x3 z4)), (w7.heap.size, w7.heap.size + 1, Cs (w7.heap.size) [.int .i64 (nsC z0 t0 d0 z1 x2 x3 z4), .slice vA.a vA.n vA.c, .slice vA.ta vA.tn vA.tc, .slice vA.da vA.dn vA.dc, .slice vA.wa vA.wn vA.wc, .slice vA.xa vA.xn vA.xc, .int .i64 (nsR z0 t0 d0 z1 x2 x3 z4).ac, .int .i64 (nsR z0 t0 d0 z1 x2 x3 z4).cz, .slice vA.la vA.ln vA.lc, .int .i64 (nsR z0 t0 d0 z1 x2 x3 z4).dv, .slice vA.oa vA.on vA.oc, .slice vA.ga vA.gn vA.gc]), (w6.heap.size, w7.heap.size, OY (InR (w6.heap.size) (w7.heap.size)) vA (nsR z0 t0 d0 z1 x2 x3 z4))] := (M19.sub (by simp) (by simp)).out ho (by omega) (by simp <;> omega) (by simp <;> omega)
              clear ho M19
              have hlt1 : decide ((1 : Int) + (l0 : Int) + (lenSum z0 : Int) + (tl0 : Int) + (dl0 : Int) + 2 * (l1 : Int) + 2 * (l4 : Int) < 0) = false := by simp; omega
              have q0 := (M20.get 0 rfl).cell 0 rfl
              have q1 := (M20.get 0 rfl).cell 1 rfl
              have q2 := (M20.get 0 rfl).cell 2 rfl
              have q3 := (M20.get 0 rfl).cell 3 rfl
              have q4 := (M20.get 0 rfl).cell 4 rfl
              have q5 := (M20.get 0 rfl).cell 5 rfl
              have q6 := (M20.get 0 rfl).cell 6 rfl
              have q7 := (M20.get 0 rfl).cell 7 rfl
              have q8 := (M20.get 0 rfl).cell 8 rfl
              have q9 := (M20.get 0 rfl).cell 9 rfl
              have q10 := (M20.get 0 rfl).cell 10 rfl
              have q11 := (M20.get 0 rfl).cell 11 rfl
              have q12 := (M20.get 2 rfl).cell 0 rfl
              have q13 := (M20.get 2 rfl).cell 1 rfl
              have q14 := (M20.get 2 rfl).cell 2 rfl
              have q15 := (M20.get 2 rfl).cell 3 rfl
              have q16 := (M20.get 2 rfl).cell 4 rfl
              have q17 := (M20.get 2 rfl).cell 5 rfl
              have q18 := (M20.get 2 rfl).cell 6 rfl
              have q19 := (M20.get 2 rfl).cell 7 rfl
              have q20 := (M20.get 2 rfl).cell 8 rfl
              have q21 := (M20.get 2 rfl).cell 9 rfl
              have q22 := (M20.get 2 rfl).cell 10 rfl
              have q23 := (M20.get 2 rfl).cell 11 rfl
              go_wp2_with fail
              refine (eqGR_O (nsC z0 t0 d0 z1 x2 x3 z4) (nsR z0 t0 d0 z1 x2 x3 z4) (M20.get 1 rfl) (M20.get 3 rfl)).mono ?_
              rintro e w21 ⟨rfl, g21⟩
              have zz21 := g21.size
              have M21 := M20.below g21
              clear g21 M20 q0 q1 q2 q3 q4 q5 q6 q7 q8 q9 q10 q11 q12 q13 q14 q15 q16 q17 q18 q19 q20 q21 q22 q23
              as_aux_lemma =>
                have q0 := (M21.get 0 rfl).cell 0 rfl
                have q1 := (M21.get 0 rfl).cell 1 rfl
                have q2 := (M21.get 0 rfl).cell 2 rfl
                have q3 := (M21.get 0 rfl).cell 3 rfl
                have q4 := (M21.get 0 rfl).cell 4 rfl
                have q5 := (M21.get 0 rfl).cell 5 rfl
                have q6 := (M21.get 0 rfl).cell 6 rfl
                have q7 := (M21.get 0 rfl).cell 7 rfl
                have q8 := (M21.get 0 rfl).cell 8 rfl
                have q9 := (M21.get 0 rfl).cell 9 rfl
                have q10 := (M21.get 0 rfl).cell 10 rfl
                have q11 := (M21.get 0 rfl).cell 11 rfl
                go_wp2_with fail
                refine (markGR_O _  (M21.get 1 rfl) (fun k hk => by have := hk.2; omega)).mono ?_
                rintro e w22 ⟨rfl, om, ho⟩
                have zz22 := ho.size
                have M22a : Mm w w22 [(w.heap.size, 0, .slice a0 l0 c0), (w.heap.size, 1, .slice ta0 tl0 tc0), (w.heap.size, 2, .slice da0 dl0 dc0)] [(w11.heap.size, w11.heap.size + 1, Cs (w11.heap.size) [.int .i64 (nsC z0 t0 d0 z1 x2 x3 z4), .slice rA.a rA.n rA.c, .slice rA.ta rA.tn rA.tc, .slice rA.da rA.dn rA.dc, .slice rA.wa rA.wn rA.wc, .slice rA.xa rA.xn rA.xc, .int .i64 (nsR z0 t0 d0 z1 x2 x3 z4).ac, .int .i64 (nsR z0 t0 d0 z1 x2 x3 z4).cz, .slice rA.la rA.ln rA.lc, .int .i64 (nsR z0 t0 d0 z1 x2 x3 z4).dv, .slice rA.oa rA.on rA.oc, .slice rA.ga rA.gn rA.gc]), (w7.heap.size, w7.heap.size + 1, Cs (w7.heap.size) [.int .i64 (nsC z0 t0 d0 z1 x2 x3 z4), .slice vA.a vA.n vA.c, .slice vA.ta vA.tn vA.tc, .slice vA.da vA.dn vA.dc, .slice vA.wa vA.wn vA.wc, .slice vA.xa vA.xn vA.xc, .int .i64 (nsR z0 t0 d0 z1 x2 x3 z4).ac, .int .i64 (nsR z0 t0 d0 z1 x2 x3 z4).cz, .slice vA.la vA.ln vA.lc, .int .i64 (nsR z0 t0 d0 z1 x2 x3 z4).dv, .slice vA.oa vA.on vA.oc, .slice vA.ga vA.gn vA.gc]), (w6.heap.size, w7.heap.size, OY (InR (w6.heap.size) (w7.heap.size)) vA (nsR z0 t0 d0 z1 x2 x3 z4))] := (M21.sub (by simp) (by simp)).out ho (by omega) (by simp <;> omega) (by simp <;> omega)
                have M22 := M22a.fact OY.loc om
                clear ho om M21 M22a q0 q1 q2 q3 q4 q5 q6 q7 q8 q9 q10 q11
                have q0 := (M22.get 1 rfl).cell 0 rfl
                have q1 := (M22.get 1 rfl).cell 1 rfl
                have q2 := (M22.get 1 rfl).cell 2 rfl
                have q3 := (M22.get 1 rfl).cell 3 rfl
                have q4 := (M22.get 1 rfl).cell 4 rfl
                have q5 := (M22.get 1 rfl).cell 5 rfl
                have q6 := (M22.get 1 rfl).cell 6 rfl
                have q7 := (M22.get 1 rfl).cell 7 rfl
                have q8 := (M22.get 1 rfl).cell 8 rfl
                have q9 := (M22.get 1 rfl).cell 9 rfl
                have q10 := (M22.get 1 rfl).cell 10 rfl
                have q11 := (M22.get 1 rfl).cell 11 rfl
                go_wp2_with fail
                refine (heldGR_O _  (M22.get 0 rfl)).mono ?_
                rintro e w23 ⟨rfl, g23⟩
                have zz23 := g23.size
                have M23 := M22.below g23
                clear g23 M22 q0 q1 q2 q3 q4 q5 q6 q7 q8 q9 q10 q11
                have hlt2 : decide ((1 : Int) + (mkY rA (nsR z0 t0 d0 z1 x2 x3 z4) : Int) < 0) = false := by simp; omega
                as_aux_lemma =>
                  have q0 := M23.cell 0 rfl
                  have q1 := M23.cell 1 rfl
                  have q2 := M23.cell 2 rfl
                  go_wp2_with fail
                  refine (toTables_O a0 l0 c0 z0 ta0 tl0 tc0 t0 da0 dl0 dc0 d0 _ (by omega) (hs0.below M23.bel (Nat.le_refl _))).mono ?_
                  rintro e w24 ⟨b_t0, bt_t0, bd_t0, rfl, ot0, g24⟩
                  have zz24 := g24.size
                  try simp only [World.size_alloc] at ot0 zz24
                  have M24 := (M23.below g24).fact OT.loc ot0
                  clear g24 M23 ot0 q0 q1 q2
                  go_wp2_with fail
                  refine (toWordS_O a1 l1 c1 z1 _ (by omega) (hs1.below M24.bel (Nat.le_refl _))).mono ?_
                  rintro e w25 ⟨b_t1, rfl, ot1, g25⟩
                  have zz25 := g25.size
                  try simp only [World.size_alloc] at ot1 zz25
                  have M25 := (M24.below g25).fact OWd.loc ot1
                  clear g25 M24 ot1
                  go_wp2_with fail
                  refine (toGateS_O a4 l4 c4 z4 _ (by omega) (hs4.below M25.bel (Nat.le_refl _))).mono ?_
                  rintro e w26 ⟨b_t4, rfl, ot4, g26⟩
                  have zz26 := g26.size
                  try simp only [World.size_alloc] at ot4 zz26
                  have M26 := (M25.below g26).fact OWd.loc ot4
                  clear g26 M25 ot4
                  go_wp2_with fail
                  refine (implNewSystem_calls _ _ _ z0 _ _ _ t0 _ _ _ d0 _ _ _ z1 x2 x3 _ _ _ z4 _ (M26.get 2 rfl).rt (by omega) (M26.get 1 rfl).swd (by omega) (M26.get 0 rfl).swd).mono ?_
                  rintro e w27 ⟨kA, rfl, ok, g27⟩
                  have zz27 := g27.size
                  try simp only [World.size_alloc] at ok zz27
                  have M27 := ((M26.below g27).fact OY.loc ok).allocC [.int .i64 (nsC z0 t0 d0 z1 x2 x3 z4), .slice kA.a kA.n kA.c, .slice kA.ta kA.tn kA.tc, .slice kA.da kA.dn kA.dc, .slice kA.wa kA.wn kA.wc, .slice kA.xa kA.xn kA.xc, .int .i64 (nsR z0 t0 d0 z1 x2 x3 z4).ac, .int .i64 (nsR z0 t0 d0 z1 x2 x3 z4).cz, .slice kA.la kA.ln kA.lc, .int .i64 (nsR z0 t0 d0 z1 x2 x3 z4).dv, .slice kA.oa kA.on kA.oc, .slice kA.ga kA.gn kA.gc] 49
                  clear g27 M26 ok
                  have q0 := (M27.get 0 rfl).cell 0 rfl
                  have q1 := (M27.get 0 rfl).cell 1 rfl
                  have q2 := (M27.get 0 rfl).cell 2 rfl
                  have q3 := (M27.get 0 rfl).cell 3 rfl
                  have q4 := (M27.get 0 rfl).cell 4 rfl
                  have q5 := (M27.get 0 rfl).cell 5 rfl
                  have q6 := (M27.get 0 rfl).cell 6 rfl
                  have q7 := (M27.get 0 rfl).cell 7 rfl
                  have q8 := (M27.get 0 rfl).cell 8 rfl
                  have q9 := (M27.get 0 rfl).cell 9 rfl
                  have q10 := (M27.get 0 rfl).cell 10 rfl
                  have q11 := (M27.get 0 rfl).cell 11 rfl
                  have q12 := (M27.get 7 rfl).cell 0 rfl
                  have q13 := (M27.get 7 rfl).cell 1 rfl
                  have q14 := (M27.get 7 rfl).cell 2 rfl
                  have q15 := (M27.get 7 rfl).cell 3 rfl
                  have q16 := (M27.get 7 rfl).cell 4 rfl
                  have q17 := (M27.get 7 rfl).cell 5 rfl
                  have q18 := (M27.get 7 rfl).cell 6 rfl
                  have q19 := (M27.get 7 rfl).cell 7 rfl
                  have q20 := (M27.get 7 rfl).cell 8 rfl
                  have q21 := (M27.get 7 rfl).cell 9 rfl
                  have q22 := (M27.get 7 rfl).cell 10 rfl
                  have q23 := (M27.get 7 rfl).cell 11 rfl
                  go_wp2_with fail
                  refine (eqGR_O (nsC z0 t0 d0 z1 x2 x3 z4) (nsR z0 t0 d0 z1 x2 x3 z4) (M27.get 1 rfl) (M27.get 8 rfl)).mono ?_
                  rintro e w28 ⟨rfl, g28⟩
                  have M28 := M27.below g28
                  clear g28 M27 q0 q1 q2 q3 q4 q5 q6 q7 q8 q9 q10 q11 q12 q13 q14 q15 q16 q17 q18 q19 q20 q21 q22 q23
                  have q0 := (M28.get 6 rfl).cell 0 rfl
                  have q1 := (M28.get 6 rfl).cell 1 rfl
                  have q2 := (M28.get 6 rfl).cell 2 rfl
                  have q3 := (M28.get 6 rfl).cell 3 rfl
                  have q4 := (M28.get 6 rfl).cell 4 rfl
                  have q5 := (M28.get 6 rfl).cell 5 rfl
                  have q6 := (M28.get 6 rfl).cell 6 rfl
                  have q7 := (M28.get 6 rfl).cell 7 rfl
                  have q8 := (M28.get 6 rfl).cell 8 rfl
                  have q9 := (M28.get 6 rfl).cell 9 rfl
                  have q10 := (M28.get 6 rfl).cell 10 rfl
                  have q11 := (M28.get 6 rfl).cell 11 rfl
                  go_wp2_with fail
                  refine (heldGR_O _  (M28.get 5 rfl)).mono ?_
                  rintro e w29 ⟨rfl, g29⟩
                  have zz29 := g29.size
                  have M29 := M28.below g29
                  clear g29 M28 q0 q1 q2 q3 q4 q5 q6 q7 q8 q9 q10 q11
                  have HB := hide M29.bel
                  clear M29
                  go_wp2
                  go_ret
                  exact ⟨rfl, HB.out⟩

theorem walk_NewSystem (a0 : Option Addr) (l0 c0 : Nat) (z0 : List (Int × List Int)) (ta0 : Option Addr) (tl0 tc0 : Nat) (t0 : List Int) (da0 : Option Addr) (dl0 dc0 : Nat) (d0 : List Int) (a1 : Option Addr) (l1 c1 : Nat) (z1 : List (Int × Int)) (x2 : Int) (x3 : Int) (a4 : Option Addr) (l4 c4 : Nat) (z4 : List (Int × Int)) (w : World) (hs0 : RT w a0 l0 z0 ta0 tl0 t0 da0 dl0 d0) (hm1 : l1 ≤ maxLen) (hs1 : Swd w a1 l1 z1) (hm4 : l4 ≤ maxLen) (hs4 : Swd w a4 l4 z4) :
    Calls Tryz.prog 3 #[.agg #[.slice a0 l0 c0, .slice ta0 tl0 tc0, .slice da0 dl0 dc0], .slice a1 l1 c1, .int .i64 x2, .int .i64 x3, .slice a4 l4 c4] w fun e w' => e = .returned (.bool true) ∧ Below w.heap.size w w' := by
  by_cases hz0 : (l0 + lenSum z0 + tl0 + dl0) ≤ 1048576
  rotate_left
  · exact law_big0_NewSystem a0 l0 c0 z0 ta0 tl0 tc0 t0 da0 dl0 dc0 d0 a1 l1 c1 x2 x3 a4 l4 c4 w hs0 (by omega)
  by_cases hz1 : (l0 + lenSum z0 + tl0 + dl0) + l1 ≤ 1048576
  rotate_left
  · exact law_big1_NewSystem a0 l0 c0 z0 ta0 tl0 tc0 t0 da0 dl0 dc0 d0 a1 l1 c1 z1 x2 x3 a4 l4 c4 w hs0 hm1 hs1 hz0 (by omega)
  by_cases hz2 : (l0 + lenSum z0 + tl0 + dl0) + l1 + l4 ≤ 1048576
  rotate_left
  · exact law_big4_NewSystem a0 l0 c0 z0 ta0 tl0 tc0 t0 da0 dl0 dc0 d0 a1 l1 c1 z1 x2 x3 a4 l4 c4 z4 w hs0 hm1 hs1 hm4 hs4 hz0 hz1 (by omega)
  exact law_small_NewSystem a0 l0 c0 z0 ta0 tl0 tc0 t0 da0 dl0 dc0 d0 a1 l1 c1 z1 x2 x3 a4 l4 c4 z4 w hs0 hm1 hs1 hm4 hs4 hz2

end Go.Proofs.YtbfmdnnbiidlkaaGreat
