import Derived.Test.YtpcdfeccmiiglaaMpS
import Derived.Test.YtpcdfeccmiiglaaMpI
import Derived.Test.YtpcdfeccmiiglaaObT
import Derived.Test.YtpcdfeccmiiglaaObE
import Derived.WalkKit
import Derived.ProofKit
import Derived.OpenShut
import Derived.ShutString
import Derived.ChangeOld
import Derived.Below
import Derived.WalkSpells
import Derived.Deep.QuietTactic
import Derived.BigQuiet
import Derived.Deep.RegionWith
import Derived.Deep.WholeRow
import Derived.Deep.DeepCutAuto
import Derived.Deep.RegionHeld2
import Derived.Deep.AppendLies
import Derived.Deep.RegionLaw
namespace Go.Proofs.Ytpcdfeccmiiglaa
open Go.ChangeShapes Go.WideShapes Go.ChangeAt Go.RowKit

theorem toInt64S_O (a : Option Addr) (len cap : Nat) (zs : List Int) (w : World) (hl : len ≤ 1048576) (hs : Sl w a len zs) :
    Calls Try.prog 30 #[.slice a len cap] w fun e w' => ∃ b, e = .returned (.slice (some ⟨b, 0, none⟩) len len) ∧ OS (InR w.heap.size w'.heap.size) (some ⟨b, 0, none⟩) len zs w' ∧ Below w.heap.size w w' :=
  (toInts_calls a len cap zs w hl hs).mono fun _ _ ⟨b, h1, h2, h3, h4⟩ => ⟨b, h1, OS.ofBlk h3 ⟨h2, h3.1⟩ hs.1 hl, h4⟩

theorem eqInt64S_V (a b : Option Addr) (n ca cb : Nat) (zs : List Int) (w : World) (hn : n ≤ maxLen) (hx : Sl w a n zs) (hy : Sl w b n zs) :
    Calls Try.prog 34 #[.slice a n ca, .slice b n cb] w fun e w' => e = .returned (.bool true) ∧ Below w.heap.size w w' :=
  (eqInts_calls a b n ca n cb zs zs w hn hn hx hy).mono fun _ _ ⟨h1, h2⟩ => ⟨by rw [h1]; simp, h2⟩

theorem toLabel_O (a : Option Addr) (n cap : Nat) (zs : List Int) (w : World) (hl : n ≤ 1048576) (hs : Sl w a n zs) :
    Calls Try.prog 29 #[.agg #[.slice a n cap]] w fun e w' => ∃ b, e = .returned (.agg #[.slice (some ⟨b, 0, none⟩) n n]) ∧ OS (InR w.heap.size w'.heap.size) (some ⟨b, 0, none⟩) n zs w' ∧ Below w.heap.size w w' :=
  (toLabel_calls a n cap zs w hl hs).mono (fun _ _ h => by obtain ⟨b, e, h1, h2, h3⟩ := h; exact ⟨b, e, OS.ofBlk h2 ⟨h1, h2.1⟩ hs.1 hl, h3⟩)

theorem eqLabel_O (S S' : Nat → Prop) (a b : Option Addr) (n ca cb : Nat) (zs : List Int) (w : World) (hx : OS S a n zs w) (hy : OS S' b n zs w) :
    Calls Try.prog 33 #[.agg #[.slice a n ca], .agg #[.slice b n cb]] w fun e w' => e = .returned (.bool true) ∧ Below w.heap.size w w' :=
  (eqLabel_calls a b n ca n cb zs zs w (by have := hx.2.1; unfold maxLen; omega) (by have := hx.2.1; unfold maxLen; omega) hx.sl hy.sl).mono (fun _ _ h => by obtain ⟨h1, h2⟩ := h; exact ⟨by rw [h1, decide_eq_true rfl], h2⟩)

set_option maxRecDepth 100000 in
theorem law_big2_MayPass (a0 : Option Addr) (l0 c0 : Nat) (a1 : Option Addr) (l1 c1 : Nat) (a2 : Option Addr) (l2 c2 : Nat) (w : World)  (hbig : 1048576 < l2) :
    Calls Try.prog 5 #[.agg #[.slice a0 l0 c0], .agg #[.slice a1 l1 c1], .slice a2 l2 c2] w fun e w' => e = .returned (.bool true) ∧ Below w.heap.size w w' := by
  have hbg : (l2 : Int) > 1048576 := by omega
  have M0 := (((Mm.start w).alloc1 (.slice a0 l0 c0) 55).alloc1 (.slice a1 l1 c1) 42)
  try simp only [World.size_alloc] at M0
  have HB := hide M0.bel
  clear M0
  go_enter Try.func5, Try.ntmps5
  go_wp2
  go_ret
  exact ⟨rfl, HB.out⟩

set_option maxRecDepth 100000 in
theorem law_big0_MayPass (a0 : Option Addr) (l0 c0 : Nat) (z0 : List OB) (a1 : Option Addr) (l1 c1 : Nat) (a2 : Option Addr) (l2 c2 : Nat) (w : World) (hm0 : l0 ≤ maxLen) (hs0 : Sob w a0 l0 z0) (hv2 : l2 ≤ 1048576) (hbig : 1048576 < (l0 + lenO z0)) :
    Calls Try.prog 5 #[.agg #[.slice a0 l0 c0], .agg #[.slice a1 l1 c1], .slice a2 l2 c2] w fun e w' => e = .returned (.bool true) ∧ Below w.heap.size w w' := by
  have hw2 : ¬ ((l2 : Int) > 1048576) := by omega
  have M0 := (((Mm.start w).alloc1 (.slice a0 l0 c0) 55).alloc1 (.slice a1 l1 c1) 42)
  try simp only [World.size_alloc] at M0
  go_enter Try.func5, Try.ntmps5
  go_wp2_with fail
  refine (szKernel_calls a0 l0 c0 z0 1048576 _ (by omega) (by omega) hm0 (hs0.below M0.bel (Nat.le_refl _))).mono ?_
  rintro e w1 ⟨rfl, g1⟩
  have M1 := M0.below g1
  clear g1 M0
  rw [szI_neg (by omega)]
  have HB := hide M1.bel
  clear M1
  go_wp2
  go_ret
  exact ⟨rfl, HB.out⟩

set_option maxRecDepth 100000 in
theorem law_big1_MayPass (a0 : Option Addr) (l0 c0 : Nat) (z0 : List OB) (a1 : Option Addr) (l1 c1 : Nat) (z1 : List Int) (a2 : Option Addr) (l2 c2 : Nat) (w : World) (hm0 : l0 ≤ maxLen) (hs0 : Sob w a0 l0 z0) (hm1 : l1 ≤ maxLen) (hs1 : Sl w a1 l1 z1) (hv2 : l2 ≤ 1048576) (hz0 : (l0 + lenO z0) ≤ 1048576) (hbig : 1048576 < (l0 + lenO z0) + l1) :
    Calls Try.prog 5 #[.agg #[.slice a0 l0 c0], .agg #[.slice a1 l1 c1], .slice a2 l2 c2] w fun e w' => e = .returned (.bool true) ∧ Below w.heap.size w w' := by
  have _ := hs1
  have hw2 : ¬ ((l2 : Int) > 1048576) := by omega
  have M0 := (((Mm.start w).alloc1 (.slice a0 l0 c0) 55).alloc1 (.slice a1 l1 c1) 42)
  try simp only [World.size_alloc] at M0
  go_enter Try.func5, Try.ntmps5
  go_wp2_with fail
  refine (szKernel_calls a0 l0 c0 z0 1048576 _ (by omega) (by omega) hm0 (hs0.below M0.bel (Nat.le_refl _))).mono ?_
  rintro e w1 ⟨rfl, g1⟩
  have M1 := M0.below g1
  clear g1 M0
  rw [szI_pos (by omega)]
  have hge0 : ¬ (1048576 - (((l0 + lenO z0) : Nat) : Int) < 0) := by omega
  have q0_0 := M1.cell 0 rfl
  go_wp2_with fail
  refine (szLabel_calls a1 l1 c1 _ _ (by omega) (by omega) hm1).mono ?_
  rintro e w2 ⟨rfl, g2⟩
  have M2 := M1.below g2
  clear g2 M1
  rw [szI_neg (by omega)]
  have HB := hide M2.bel
  clear M2
  go_wp2
  go_ret
  exact ⟨rfl, HB.out⟩

set_option maxRecDepth 100000 in
set_option maxHeartbeats 16000000 in
theorem law_small_MayPass (a0 : Option Addr) (l0 c0 : Nat) (z0 : List OB) (a1 : Option Addr) (l1 c1 : Nat) (z1 : List Int) (a2 : Option Addr) (l2 c2 : Nat) (z2 : List Int) (w : World) (hm0 : l0 ≤ maxLen) (hs0 : Sob w a0 l0 z0) (hm1 : l1 ≤ maxLen) (hs1 : Sl w a1 l1 z1) (hm2 : l2 ≤ maxLen) (hs2 : Sl w a2 l2 z2) (hv2 : l2 ≤ 1048576) (hz : (l0 + lenO z0) + l1 ≤ 1048576) :
    Calls Try.prog 5 #[.agg #[.slice a0 l0 c0], .agg #[.slice a1 l1 c1], .slice a2 l2 c2] w fun e w' => e = .returned (.bool true) ∧ Below w.heap.size w w' := by
  have _ := hm2
  have hw2 : ¬ ((l2 : Int) > 1048576) := by omega
  have hz0 : (l0 + lenO z0) ≤ 1048576 := by omega
  have hz1 : l1 ≤ 1048576 := by omega
  have hz2 : l2 ≤ 1048576 := by omega
  have M0 := (((Mm.start w).alloc1 (.slice a0 l0 c0) 55).alloc1 (.slice a1 l1 c1) 42)
  try simp only [World.size_alloc] at M0
  go_enter Try.func5, Try.ntmps5
  go_wp2_with fail
  refine (szKernel_calls a0 l0 c0 z0 1048576 _ (by omega) (by omega) hm0 (hs0.below M0.bel (Nat.le_refl _))).mono ?_
  rintro e w1 ⟨rfl, g1⟩
  have zz1 := g1.size
  try simp only [World.size_alloc] at zz1
  have M1 := M0.below g1
  clear g1 M0
  rw [szI_pos (by omega)]
  have hge0 : ¬ (1048576 - (((l0 + lenO z0) : Nat) : Int) < 0) := by omega
  have q0 := M1.cell 0 rfl
  go_wp2_with fail
  refine (szLabel_calls a1 l1 c1 _ _ (by omega) (by omega) hm1).mono ?_
  rintro e w2 ⟨rfl, g2⟩
  have zz2 := g2.size
  try simp only [World.size_alloc] at zz2
  have M2 := M1.below g2
  clear g2 M1 q0
  rw [szI_pos (by omega)]
  have hge1 : ¬ (1048576 - (((l0 + lenO z0) : Nat) : Int) - ((l1 : Nat) : Int) < 0) := by omega
  have q0 := M2.cell 1 rfl
  have q1 := M2.cell 0 rfl
  have lt0 := M2.lt 1 rfl
  have lt1 := M2.lt 0 rfl
  have sr0 := hide (hs0.below M2.bel (Nat.le_refl _))
  have sr1 := hide (hs1.below M2.bel (Nat.le_refl _))
  have sr2 := hide (hs2.below M2.bel (Nat.le_refl _))
  go_upto_region 10 with fail
  go_cut [8] (fun v wd => v = .bool (mpB z0 z1 z2) ∧ Below w2.heap.size w2 wd)
  case first =>
    have HS0 : Hid (w2.drew.cell? ⟨w.heap.size, 0, none⟩ = some (.slice a0 l0 c0) ∧ w2.drew.cell? ⟨w.heap.size + 1, 0, none⟩ = some (.slice a1 l1 c1) ∧ Below w2.heap.size w2 w2.drew) := ⟨q0, q1, (Below.refl _ _).drew⟩
    go_region_held2 (fun w' => w'.cell? ⟨w.heap.size, 0, none⟩ = some (.slice a0 l0 c0) ∧ w'.cell? ⟨w.heap.size + 1, 0, none⟩ = some (.slice a1 l1 c1) ∧ Below w2.heap.size w2 w')
      (first | with_reducible exact HS0.out | with_reducible assumption)
      (first
        | (go_at_call 28; refine (toKernel_O a0 l0 c0 z0 _ (by omega) ?_).mono ?_; exact sr0.out.below (q2_bel (by with_reducible assumption)) (Nat.le_refl _); rintro e wa ⟨b_v0, rfl, oo, ga⟩; have hs := q2_below lt0 lt1 (by with_reducible assumption) ga; (try have r1 := hide (by first | exact r1.out.below ga (Nat.le_refl _) | exact (r1.out.below (Below.refl _ _).drew (Nat.le_refl _)).below ga (Nat.le_refl _))); (try have r2 := hide (by first | exact r2.out.below ga (Nat.le_refl _) | exact (r2.out.below (Below.refl _ _).drew (Nat.le_refl _)).below ga (Nat.le_refl _))); have r0 := hide oo.sob; clear ga oo)
        | (go_at_call 29; refine (toLabel_O a1 l1 c1 z1 _ (by omega) ?_).mono ?_; exact sr1.out.below (q2_bel (by with_reducible assumption)) (Nat.le_refl _); rintro e wa ⟨b_v1, rfl, oo, ga⟩; have hs := q2_below lt0 lt1 (by with_reducible assumption) ga; (try have r0 := hide (by first | exact r0.out.below ga (Nat.le_refl _) | exact (r0.out.below (Below.refl _ _).drew (Nat.le_refl _)).below ga (Nat.le_refl _))); (try have r2 := hide (by first | exact r2.out.below ga (Nat.le_refl _) | exact (r2.out.below (Below.refl _ _).drew (Nat.le_refl _)).below ga (Nat.le_refl _))); have r1 := hide oo.sl; clear ga oo)
        | (go_at_call 30; refine (toInt64S_O a2 l2 c2 z2 _ (by omega) ?_).mono ?_; exact sr2.out.below (q2_bel (by with_reducible assumption)) (Nat.le_refl _); rintro e wa ⟨b_v2, rfl, oo, ga⟩; have hs := q2_below lt0 lt1 (by with_reducible assumption) ga; (try have r0 := hide (by first | exact r0.out.below ga (Nat.le_refl _) | exact (r0.out.below (Below.refl _ _).drew (Nat.le_refl _)).below ga (Nat.le_refl _))); (try have r1 := hide (by first | exact r1.out.below ga (Nat.le_refl _) | exact (r1.out.below (Below.refl _ _).drew (Nat.le_refl _)).below ga (Nat.le_refl _))); have r2 := hide oo.sl; clear ga oo)
        | (go_at_call 27; refine (specMayPass_calls _ _ _ z0 _ _ _ z1 _ _ _ z2 _ hm0 (by first | exact r0.out | exact r0.out.below (Below.refl _ _).drew (Nat.le_refl _)) (Nat.le_refl _) hm1 (by first | exact r1.out | exact r1.out.below (Below.refl _ _).drew (Nat.le_refl _)) (by omega) (by first | exact r2.out | exact r2.out.below (Below.refl _ _).drew (Nat.le_refl _))).mono ?_; rintro e ws ⟨rfl, gs⟩; have hss := q2_below lt0 lt1 (by with_reducible assumption) gs; clear gs))
    all_goals go_wp2_with fail
    all_goals go_meet
    all_goals exact ⟨rfl, q2_bel (by with_reducible assumption)⟩
  case rest =>
    obtain ⟨rfl, g3⟩ := hcut
    obtain ⟨w3, rfl⟩ : ∃ x, x = wc := ⟨wc, rfl⟩
    have zz3 := g3.size
    have M3 := M2.below g3
    clear g3 M2 lt0 lt1 sr0 sr1 sr2 q0 q1
    have q0 := M3.cell 1 rfl
    go_wp2_with fail
    refine (toKernel_O a0 l0 c0 z0 _ (by omega) (hs0.below M3.bel (Nat.le_refl _))).mono ?_
    rintro e w4 ⟨b_x0, rfl, ox0, g4⟩
    have zz4 := g4.size
    try simp only [World.size_alloc] at ox0 zz4
    have M4 := ((M3.below g4).fact OO.loc ox0).alloc1 (.slice (some ⟨b_x0, 0, none⟩) l0 l0) 26
    clear g4 M3 ox0 q0
    have q0 := M4.cell 1 rfl
    go_wp2_with fail
    refine (toLabel_O a1 l1 c1 z1 _ (by omega) (hs1.below M4.bel (Nat.le_refl _))).mono ?_
    rintro e w5 ⟨b_x1, rfl, ox1, g5⟩
    have zz5 := g5.size
    try simp only [World.size_alloc] at ox1 zz5
    have M5 := ((M4.below g5).fact OS.loc ox1).alloc1 (.slice (some ⟨b_x1, 0, none⟩) l1 l1) 47
    clear g5 M4 ox1 q0
    go_wp2_with fail
    refine (toInt64S_O a2 l2 c2 z2 _ (by omega) (hs2.below M5.bel (Nat.le_refl _))).mono ?_
    rintro e w6 ⟨b_x2, rfl, ox2, g6⟩
    have zz6 := g6.size
    try simp only [World.size_alloc] at ox2 zz6
    have M6 := (M5.below g6).fact OS.loc ox2
    clear g6 M5 ox2
    have q0 := M6.cell 1 rfl
    have q1 := M6.cell 0 rfl
    go_wp2_with fail
    refine (implMayPass_calls _ _ _ z0 _ _ _ z1 _ _ _ z2 _ hm0 (M6.get 2 rfl).sob (Nat.le_refl _) hm1 (M6.get 1 rfl).sl (by omega) (M6.get 0 rfl).sl).mono ?_
    rintro e w7 ⟨rfl, g7⟩
    have zz7 := g7.size
    try simp only [World.size_alloc] at zz7
    have M7 := (M6.below g7)
    clear g7 M6 q0 q1
    have hne : ((mpB z0 z1 z2) != (mpB z0 z1 z2)) = false := by simp
    have q0 := M7.cell 1 rfl
    have q1 := M7.cell 3 rfl
    go_upto_region 17 with fail
    go_cut [50] (fun v wd => v = .bool false ∧ Below w7.heap.size w7 wd)
    case first =>
      go_region_with (first
        | (go_at_call 28; refine (toKernel_O a0 l0 c0 z0 _ (by omega) ?_).mono ?_; exact hs0.below M7.drew.bel (Nat.le_refl _); rintro e wa ⟨b_y, rfl, oy, ga⟩; have ha : Below w7.heap.size w7 wa := ((Below.refl w7.heap.size w7).drew).trans ga; have Ma := M7.below ha; have y0 := Ma.cell 1 rfl; clear ga)
        | (go_at_call 32; refine (eqKernel_O _ _ _ _ _ _ _ z0 _ (Ma.get 2 rfl) oy).mono ?_; rintro e wb ⟨rfl, gb⟩; have hb : Below w7.heap.size w7 wb := ha.trans (gb.mono ha.size); clear gb))
      all_goals go_wp2_with fail
      all_goals go_meet
      all_goals exact ⟨rfl, hb⟩
    case rest =>
      obtain ⟨rfl, g8⟩ := hcut
      obtain ⟨w8, rfl⟩ : ∃ x, x = wc := ⟨wc, rfl⟩
      have zz8 := g8.size
      have M8 := M7.below g8
      clear g8 M7 q0 q1
      have q0 := M8.cell 0 rfl
      have q1 := M8.cell 2 rfl
      go_upto_region 19 with fail
      go_cut [55] (fun v wd => v = .bool false ∧ Below w8.heap.size w8 wd)
      case first =>
        go_region_with (first
          | (go_at_call 29; refine (toLabel_O a1 l1 c1 z1 _ (by omega) ?_).mono ?_; exact hs1.below M8.drew.bel (Nat.le_refl _); rintro e wa ⟨b_y, rfl, oy, ga⟩; have ha : Below w8.heap.size w8 wa := ((Below.refl w8.heap.size w8).drew).trans ga; have Ma := M8.below ha; have y0 := Ma.cell 0 rfl; clear ga)
          | (go_at_call 33; refine (eqLabel_O _ _ _ _ _ _ _ z1 _ (Ma.get 1 rfl) oy).mono ?_; rintro e wb ⟨rfl, gb⟩; have hb : Below w8.heap.size w8 wb := ha.trans (gb.mono ha.size); clear gb))
        all_goals go_wp2_with fail
        all_goals go_meet
        all_goals exact ⟨rfl, hb⟩
      case rest =>
        obtain ⟨rfl, g9⟩ := hcut
        obtain ⟨w9, rfl⟩ : ∃ x, x = wc := ⟨wc, rfl⟩
        have zz9 := g9.size
        have M9 := M8.below g9
        clear g9 M8 q0 q1
        go_wp2_with fail
        refine (toInt64S_O a2 l2 c2 z2 _ (by omega) (hs2.below M9.bel (Nat.le_refl _))).mono ?_
        rintro e w10 ⟨b_y2, rfl, oy2, g10⟩
        have zz10 := g10.size
        try simp only [World.size_alloc] at oy2 zz10
        have M10 := (M9.below g10).fact OS.loc oy2
        clear g10 M9 oy2
        go_wp2_with fail
        refine (eqInt64S_V _ _ l2 _ _ z2 _ (by unfold maxLen; omega) (M10.get 1 rfl).sl (M10.get 0 rfl).sl).mono ?_
        rintro e w11 ⟨rfl, g11⟩
        have zz11 := g11.size
        try simp only [World.size_alloc] at zz11
        have M11 := M10.below g11
        clear g11 M10
        have HB := hide M11.bel
        clear M11
        go_wp2
        go_ret
        exact ⟨rfl, HB.out⟩

theorem walk_MayPass (a0 : Option Addr) (l0 c0 : Nat) (z0 : List OB) (a1 : Option Addr) (l1 c1 : Nat) (z1 : List Int) (a2 : Option Addr) (l2 c2 : Nat) (z2 : List Int) (w : World) (hm0 : l0 ≤ maxLen) (hs0 : Sob w a0 l0 z0) (hm1 : l1 ≤ maxLen) (hs1 : Sl w a1 l1 z1) (hm2 : l2 ≤ maxLen) (hs2 : Sl w a2 l2 z2) :
    Calls Try.prog 5 #[.agg #[.slice a0 l0 c0], .agg #[.slice a1 l1 c1], .slice a2 l2 c2] w fun e w' => e = .returned (.bool true) ∧ Below w.heap.size w w' := by
  by_cases hv2 : l2 ≤ 1048576
  rotate_left
  · exact law_big2_MayPass a0 l0 c0 a1 l1 c1 a2 l2 c2 w (by omega)
  by_cases hz0 : (l0 + lenO z0) ≤ 1048576
  rotate_left
  · exact law_big0_MayPass a0 l0 c0 z0 a1 l1 c1 a2 l2 c2 w hm0 hs0 hv2 (by omega)
  by_cases hz1 : (l0 + lenO z0) + l1 ≤ 1048576
  rotate_left
  · exact law_big1_MayPass a0 l0 c0 z0 a1 l1 c1 z1 a2 l2 c2 w hm0 hs0 hm1 hs1 hv2 hz0 (by omega)
  exact law_small_MayPass a0 l0 c0 z0 a1 l1 c1 z1 a2 l2 c2 z2 w hm0 hs0 hm1 hs1 hm2 hs2 hv2 hz1

end Go.Proofs.Ytpcdfeccmiiglaa
