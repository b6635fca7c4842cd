import Derived.Test.YtipfaoecodclaaaKsS
import Derived.Test.YtipfaoecodclaaaKsI
import Derived.Test.YtipfaoecodclaaaObT
import Derived.Test.YtipfaoecodclaaaObE
import Derived.Test.YtipfaoecodclaaaOrR
import Derived.WalkKit
import Derived.ProofKit
import Derived.OpenShut
import Derived.ShutString
import Derived.ChangeOld
import Derived.Below
import Derived.WalkSpells
import Derived.Deep.QuietTactic
import Derived.BigQuiet
import Derived.Deep.RegionWith
import Derived.Deep.WholeRow
import Derived.Deep.DeepCutAuto
import Derived.Deep.RegionHeld2
import Derived.Deep.AppendLies
import Derived.Deep.RegionLaw
namespace Go.Proofs.Ytipfaoecodclaaa
open Go.ChangeShapes Go.WideShapes Go.ChangeAt Go.RowKit

theorem toLabel_O (a : Option Addr) (n cap : Nat) (zs : List Int) (w : World) (hl : n ≤ 1048576) (hs : Sl w a n zs) :
    Calls Try.prog 9 #[.agg #[.slice a n cap]] w fun e w' => ∃ b, e = .returned (.agg #[.slice (some ⟨b, 0, none⟩) n n]) ∧ OS (InR w.heap.size w'.heap.size) (some ⟨b, 0, none⟩) n zs w' ∧ Below w.heap.size w w' :=
  (toLabel_calls a n cap zs w hl hs).mono (fun _ _ h => by obtain ⟨b, e, h1, h2, h3⟩ := h; exact ⟨b, e, OS.ofBlk h2 ⟨h1, h2.1⟩ hs.1 hl, h3⟩)

theorem eqLabel_O (S S' : Nat → Prop) (a b : Option Addr) (n ca cb : Nat) (zs : List Int) (w : World) (hx : OS S a n zs w) (hy : OS S' b n zs w) :
    Calls Try.prog 13 #[.agg #[.slice a n ca], .agg #[.slice b n cb]] w fun e w' => e = .returned (.bool true) ∧ Below w.heap.size w w' :=
  (eqLabel_calls a b n ca n cb zs zs w (by have := hx.2.1; unfold maxLen; omega) (by have := hx.2.1; unfold maxLen; omega) hx.sl hy.sl).mono (fun _ _ h => by obtain ⟨h1, h2⟩ := h; exact ⟨by rw [h1, decide_eq_true rfl], h2⟩)

set_option maxRecDepth 100000 in
theorem markLabel_O (S : Nat → Prop) (a : Option Addr) (n cap : Nat) (rs : List Int) (m : Int) (w : World) (hm0 : 0 ≤ m) (hm : m ≤ 8388608) (hs : OS S a n rs w) :
    Calls Try.prog 15 #[.agg #[.slice a n cap], .int .i64 m] w fun e w' => e = .returned (.int .i64 (m + n)) ∧ OS S a n (marksFrom m n) w' ∧ OutS S w w' := by
  go_enter Try.func15, Try.ntmps15
  go_wp2_with fail
  refine (markInt64B_O S a n cap rs m _ hm0 hm (OS.loc.below ((Below.refl _ _).alloc (Nat.le_refl _) _) hs)).mono ?_
  rintro e w1 ⟨rfl, h1, h2⟩
  go_wp2
  go_ret
  exact ⟨rfl, h1, (OutS.of_below ((Below.refl _ _).alloc (Nat.le_refl _) _)).trans h2⟩

set_option maxRecDepth 100000 in
theorem law_big0_KernelSeen (a0 : Option Addr) (l0 c0 : Nat) (z0 : List OB) (a1 : Option Addr) (l1 c1 : Nat) (w : World) (hm0 : l0 ≤ maxLen) (hs0 : Sob w a0 l0 z0) (hbig : 1048576 < (l0 + lenO z0)) :
    Calls Try.prog 3 #[.agg #[.slice a0 l0 c0], .agg #[.slice a1 l1 c1]] w fun e w' => e = .returned (.bool true) ∧ Below w.heap.size w w' := by
  have M0 := (((Mm.start w).alloc1 (.slice a0 l0 c0) 24).alloc1 (.slice a1 l1 c1) 27)
  try simp only [World.size_alloc] at M0
  go_enter Try.func3, Try.ntmps3
  go_wp2_with fail
  refine (szKernel_calls a0 l0 c0 z0 1048576 _ (by omega) (by omega) hm0 (hs0.below M0.bel (Nat.le_refl _))).mono ?_
  rintro e w1 ⟨rfl, g1⟩
  have M1 := M0.below g1
  clear g1 M0
  rw [szI_neg (by omega)]
  have HB := hide M1.bel
  clear M1
  go_wp2
  go_ret
  exact ⟨rfl, HB.out⟩

set_option maxRecDepth 100000 in
theorem law_big1_KernelSeen (a0 : Option Addr) (l0 c0 : Nat) (z0 : List OB) (a1 : Option Addr) (l1 c1 : Nat) (z1 : List Int) (w : World) (hm0 : l0 ≤ maxLen) (hs0 : Sob w a0 l0 z0) (hm1 : l1 ≤ maxLen) (hs1 : Sl w a1 l1 z1) (hz0 : (l0 + lenO z0) ≤ 1048576) (hbig : 1048576 < (l0 + lenO z0) + l1) :
    Calls Try.prog 3 #[.agg #[.slice a0 l0 c0], .agg #[.slice a1 l1 c1]] w fun e w' => e = .returned (.bool true) ∧ Below w.heap.size w w' := by
  have _ := hs1
  have M0 := (((Mm.start w).alloc1 (.slice a0 l0 c0) 24).alloc1 (.slice a1 l1 c1) 27)
  try simp only [World.size_alloc] at M0
  go_enter Try.func3, Try.ntmps3
  go_wp2_with fail
  refine (szKernel_calls a0 l0 c0 z0 1048576 _ (by omega) (by omega) hm0 (hs0.below M0.bel (Nat.le_refl _))).mono ?_
  rintro e w1 ⟨rfl, g1⟩
  have M1 := M0.below g1
  clear g1 M0
  rw [szI_pos (by omega)]
  have hge0 : ¬ (1048576 - (((l0 + lenO z0) : Nat) : Int) < 0) := by omega
  have q0_0 := M1.cell 0 rfl
  go_wp2_with fail
  refine (szLabel_calls a1 l1 c1 _ _ (by omega) (by omega) hm1).mono ?_
  rintro e w2 ⟨rfl, g2⟩
  have M2 := M1.below g2
  clear g2 M1
  rw [szI_neg (by omega)]
  have HB := hide M2.bel
  clear M2
  go_wp2
  go_ret
  exact ⟨rfl, HB.out⟩

set_option maxRecDepth 100000 in
set_option maxHeartbeats 16000000 in
theorem law_small_KernelSeen (a0 : Option Addr) (l0 c0 : Nat) (z0 : List OB) (a1 : Option Addr) (l1 c1 : Nat) (z1 : List Int) (w : World) (hm0 : l0 ≤ maxLen) (hs0 : Sob w a0 l0 z0) (hm1 : l1 ≤ maxLen) (hs1 : Sl w a1 l1 z1) (hz : (l0 + lenO z0) + l1 ≤ 1048576) :
    Calls Try.prog 3 #[.agg #[.slice a0 l0 c0], .agg #[.slice a1 l1 c1]] w fun e w' => e = .returned (.bool true) ∧ Below w.heap.size w w' := by
  have hz0 : (l0 + lenO z0) ≤ 1048576 := by omega
  have hz1 : l1 ≤ 1048576 := by omega
  have M0 := (((Mm.start w).alloc1 (.slice a0 l0 c0) 24).alloc1 (.slice a1 l1 c1) 27)
  try simp only [World.size_alloc] at M0
  go_enter Try.func3, Try.ntmps3
  go_wp2_with fail
  refine (szKernel_calls a0 l0 c0 z0 1048576 _ (by omega) (by omega) hm0 (hs0.below M0.bel (Nat.le_refl _))).mono ?_
  rintro e w1 ⟨rfl, g1⟩
  have zz1 := g1.size
  try simp only [World.size_alloc] at zz1
  have M1 := M0.below g1
  clear g1 M0
  rw [szI_pos (by omega)]
  have hge0 : ¬ (1048576 - (((l0 + lenO z0) : Nat) : Int) < 0) := by omega
  have q0 := M1.cell 0 rfl
  go_wp2_with fail
  refine (szLabel_calls a1 l1 c1 _ _ (by omega) (by omega) hm1).mono ?_
  rintro e w2 ⟨rfl, g2⟩
  have zz2 := g2.size
  try simp only [World.size_alloc] at zz2
  have M2 := M1.below g2
  clear g2 M1 q0
  rw [szI_pos (by omega)]
  have hge1 : ¬ (1048576 - (((l0 + lenO z0) : Nat) : Int) - ((l1 : Nat) : Int) < 0) := by omega
  have q0 := M2.cell 1 rfl
  have q1 := M2.cell 0 rfl
  have lt0 := M2.lt 1 rfl
  have lt1 := M2.lt 0 rfl
  have sr0 := hs0.below M2.bel (Nat.le_refl _)
  have sr1 := hs1.below M2.bel (Nat.le_refl _)
  go_upto_region 8 with fail
  go_cut [6] (fun v wd => ∃ P va vn vc , v = .pointer (some ⟨P, 0, none⟩) ∧ wd.cell? ⟨P, 0, none⟩ = some (.int .i64 (ksC z0 z1)) ∧ wd.frozen? ⟨P, 0, none⟩ = false ∧ wd.cell? ⟨P, 1, none⟩ = some (.slice va vn vc) ∧ wd.frozen? ⟨P, 1, none⟩ = false ∧ OO (InR w2.heap.size wd.heap.size) va vn (ksL z0 z1) wd ∧ Below w2.heap.size w2 wd)
  case first =>
    have HS0 : Hid (w2.drew.cell? ⟨w.heap.size, 0, none⟩ = some (.slice a0 l0 c0) ∧ w2.drew.cell? ⟨w.heap.size + 1, 0, none⟩ = some (.slice a1 l1 c1) ∧ Below w2.heap.size w2 w2.drew) := ⟨q0, q1, (Below.refl _ _).drew⟩
    go_region_held2 (fun w' => w'.cell? ⟨w.heap.size, 0, none⟩ = some (.slice a0 l0 c0) ∧ w'.cell? ⟨w.heap.size + 1, 0, none⟩ = some (.slice a1 l1 c1) ∧ Below w2.heap.size w2 w')
      (first | with_reducible exact HS0.out | (repeat (first | with_reducible assumption | with_reducible refine q2_allocd lt0 lt1 ?_ _ | with_reducible refine q2_alloc lt0 lt1 ?_ _ | with_reducible refine q2_set lt0 lt1 ?_ ?_ _ | (show (_ : Nat) ≤ _; exact Nat.le_refl _) | (show (_ : Nat) ≤ _; dsimp only; omega))))
      (first
        | (go_at_call_of 8 (Value.slice a0 l0 c0); refine (toKernel_O a0 l0 c0 z0 _ (by omega) ?_).mono ?_; exact sr0.below (q2_bel (by with_reducible assumption)) (Nat.le_refl _); rintro e wa ⟨b_v0, rfl, o0, ga⟩; have hswa := q2_below lt0 lt1 (by with_reducible assumption) ga; have hzwa := ga.size; have hwwa := (q2_bel hswa).size; (try simp only [World.size_alloc, World.size_drew] at hzwa); (try have hqwa := Nat.lt_of_succ_le hzwa); obtain ⟨bc0, bf0⟩ := bcellQ ga; (try simp only [World.size_alloc, World.size_drew] at bc0 bf0); clear ga)
        | (go_at_call_of 9 (Value.slice a1 l1 c1); refine (toLabel_O a1 l1 c1 z1 _ (by omega) ?_).mono ?_; exact sr1.below (q2_bel (by with_reducible assumption)) (Nat.le_refl _); rintro e wb ⟨b_v1, rfl, o1, ga⟩; have hswb := q2_below lt0 lt1 (by with_reducible assumption) ga; have hzwb := ga.size; have hwwb := (q2_bel hswb).size; have o0 := Loc.belowA OO.loc o0 ga (by first | exact Below.refl _ _ | exact (Below.refl _ _).alloc (Nat.le_refl _) _); (try simp only [World.size_alloc] at hzwb); (try have hqwb := Nat.lt_of_succ_le hzwb); (try have hrwb := Nat.lt_of_lt_of_le hqwa hzwb); obtain ⟨bc1, bf1⟩ := bcellQ ga; (try simp only [World.size_alloc] at bc1 bf1); clear ga)
        | (go_at_call 7; refine (specKernelSeen_calls _ _ _ z0 _ _ _ z1 _ hm0 (Loc.belowB OO.loc o0 (by first | exact Below.refl _ _ | exact (Below.refl _ _).alloc (Nat.le_refl _) _)).sob (Nat.le_refl _) hm1 (Loc.belowB OS.loc o1 (by first | exact Below.refl _ _ | exact (Below.refl _ _).alloc (Nat.le_refl _) _)).sl).mono ?_; rintro e ws ⟨va, vn, vc, rfl, os, gs⟩; have hss := q2_below lt0 lt1 (by with_reducible assumption) gs; have hzs := gs.size; have hws := (q2_bel hss).size; obtain ⟨bcs, bfs⟩ := bcellQ gs; (try simp only [World.size_alloc] at hzs bcs bfs); (try have hts := Nat.lt_of_succ_le hzs); (try have hus := Nat.lt_of_lt_of_le hqwb hzs); (try have hvs := Nat.lt_of_lt_of_le hrwb hzs); (try simp only [World.size_alloc] at os); clear gs))
    all_goals go_wp2_with fail
    all_goals go_meet
    all_goals (
      refine ⟨_, va, vn, vc, rfl, ?c0, ?f0, ?c1, ?f1, ?o, ?b⟩
      case b => exact q2_bel (by with_reducible assumption)
      case o => first | (with_reducible exact OO.allocR os (by omega)) | (with_reducible exact OO.set2R os (by omega) (by omega) _ _ )
      case c0 => first | (go_simp; done) | (with_reducible refine set2_at0 _ _ _ _ ?_; go_simp; done)
      case f0 => (go_simp; done)
      case c1 => first | (go_simp; done) | (with_reducible refine set2_at1 _ _ _ _ ?_; go_simp; done)
      case f1 => (go_simp; done))
  case rest =>
    obtain ⟨Pv, va, vn, vc, rfl, cc0, cf0, cc1, cf1, ov, g3⟩ := hcut
    obtain ⟨w3, rfl⟩ : ∃ x, x = wc := ⟨wc, rfl⟩
    have zz3 := g3.size
    have lPv := World.block_lt_of_cell? _ _ cc0
    have M3 := ((((M2.below g3).fact OO.loc ov).cons cc1 cf1).cons cc0 cf0)
    clear g3 M2 ov cc0 cc1 cf0 cf1 lt0 lt1 sr0 sr1 q0 q1
    have q0 := M3.cell 3 rfl
    go_wp2_with fail
    refine (toKernel_O a0 l0 c0 z0 _ (by omega) (hs0.below M3.bel (Nat.le_refl _))).mono ?_
    rintro e w4 ⟨b_x0, rfl, ox0, g4⟩
    have zz4 := g4.size
    try simp only [World.size_alloc] at ox0 zz4
    have M4 := ((M3.below g4).fact OO.loc ox0).alloc1 (.slice (some ⟨b_x0, 0, none⟩) l0 l0) 35
    clear g4 M3 ox0 q0
    have q0 := M4.cell 3 rfl
    go_wp2_with fail
    refine (toLabel_O a1 l1 c1 z1 _ (by omega) (hs1.below M4.bel (Nat.le_refl _))).mono ?_
    rintro e w5 ⟨b_x1, rfl, ox1, g5⟩
    have zz5 := g5.size
    try simp only [World.size_alloc] at ox1 zz5
    have M5 := ((M4.below g5).fact OS.loc ox1).alloc1 (.slice (some ⟨b_x1, 0, none⟩) l1 l1) 37
    clear g5 M4 ox1 q0
    have q0 := M5.cell 1 rfl
    have q1 := M5.cell 0 rfl
    go_wp2_with fail
    refine (implKernelSeen_calls _ _ _ z0 _ _ _ z1 _ hm0 (M5.get 1 rfl).sob (Nat.le_refl _) hm1 (M5.get 0 rfl).sl).mono ?_
    rintro e w6 ⟨ra, rn, rc, rfl, or, g6⟩
    have zz6 := g6.size
    try simp only [World.size_alloc] at or zz6
    have M6 := ((M5.below g6).fact OO.loc or).alloc2 (.int .i64 (ksC z0 z1)) (.slice ra rn rc) 32
    clear g6 M5 or q0 q1
    have q0 := M6.cell 0 rfl
    have q1 := M6.cell 1 rfl
    have q2 := M6.cell 4 rfl
    have q3 := M6.cell 5 rfl
    go_wp2_with fail
    refine (eqOR_O (ksC z0 z1) _ _ _ _ _ _ _ _ (ksL z0 z1) _ (M6.get 0 rfl) (M6.get 3 rfl)).mono ?_
    rintro e w7 ⟨rfl, g7⟩
    have zz7 := g7.size
    try simp only [World.size_alloc] at zz7
    have M7 := M6.below g7
    clear g7 M6 q0 q1 q2 q3
    have q0 := M7.cell 3 rfl
    have q1 := M7.cell 7 rfl
    go_upto_region 14 with fail
    go_cut [44] (fun v wd => v = .bool false ∧ Below w7.heap.size w7 wd)
    case first =>
      go_region_with (first
        | (go_at_call 8; refine (toKernel_O a0 l0 c0 z0 _ (by omega) ?_).mono ?_; exact hs0.below M7.drew.bel (Nat.le_refl _); rintro e wa ⟨b_y, rfl, oy, ga⟩; have ha : Below w7.heap.size w7 wa := ((Below.refl w7.heap.size w7).drew).trans ga; have Ma := M7.below ha; have y0 := Ma.cell 3 rfl; clear ga)
        | (go_at_call 12; refine (eqKernel_O _ _ _ _ _ _ _ z0 _ (Ma.get 2 rfl) oy).mono ?_; rintro e wb ⟨rfl, gb⟩; have hb : Below w7.heap.size w7 wb := ha.trans (gb.mono ha.size); clear gb))
      all_goals go_wp2_with fail
      all_goals go_meet
      all_goals exact ⟨rfl, hb⟩
    case rest =>
      obtain ⟨rfl, g8⟩ := hcut
      obtain ⟨w8, rfl⟩ : ∃ x, x = wc := ⟨wc, rfl⟩
      have zz8 := g8.size
      have M8 := M7.below g8
      clear g8 M7 q0 q1
      have q0 := M8.cell 2 rfl
      have q1 := M8.cell 6 rfl
      go_upto_region 16 with fail
      go_cut [49] (fun v wd => v = .bool false ∧ Below w8.heap.size w8 wd)
      case first =>
        go_region_with (first
          | (go_at_call 9; refine (toLabel_O a1 l1 c1 z1 _ (by omega) ?_).mono ?_; exact hs1.below M8.drew.bel (Nat.le_refl _); rintro e wa ⟨b_y, rfl, oy, ga⟩; have ha : Below w8.heap.size w8 wa := ((Below.refl w8.heap.size w8).drew).trans ga; have Ma := M8.below ha; have y0 := Ma.cell 2 rfl; clear ga)
          | (go_at_call 13; refine (eqLabel_O _ _ _ _ _ _ _ z1 _ (Ma.get 1 rfl) oy).mono ?_; rintro e wb ⟨rfl, gb⟩; have hb : Below w8.heap.size w8 wb := ha.trans (gb.mono ha.size); clear gb))
        all_goals go_wp2_with fail
        all_goals go_meet
        all_goals exact ⟨rfl, hb⟩
      case rest =>
        obtain ⟨rfl, g9⟩ := hcut
        obtain ⟨w9, rfl⟩ : ∃ x, x = wc := ⟨wc, rfl⟩
        have zz9 := g9.size
        have M9 := M8.below g9
        clear g9 M8 q0 q1
        have q0 := M9.cell 3 rfl
        go_wp2_with fail
        refine (markKernel_O _ _ l0 _ z0 1 _ (by omega) (by omega) (M9.get 2 rfl)).mono ?_
        rintro e w10 ⟨rfl, _, ho⟩
        have zz10 := ho.size
        have M10 : Mm w w10 [(w6.heap.size, 0, .int .i64 (ksC z0 z1)), (w6.heap.size, 1, .slice ra rn rc), (w5.heap.size, 0, .slice (some ⟨b_x1, 0, none⟩) l1 l1), (Pv, 0, .int .i64 (ksC z0 z1)), (Pv, 1, .slice va vn vc), (w.heap.size + 1, 0, .slice a1 l1 c1), (w.heap.size, 0, .slice a0 l0 c0)] [(w5.heap.size + 1, w6.heap.size, OO (InR (w5.heap.size + 1) (w6.heap.size)) ra rn (ksL z0 z1)), (w4.heap.size + 1, w5.heap.size, OS (InR (w4.heap.size + 1) (w5.heap.size)) (some ⟨b_x1, 0, none⟩) l1 z1), (w2.heap.size, w3.heap.size, OO (InR (w2.heap.size) (w3.heap.size)) va vn (ksL z0 z1))] := (M9.sub (by simp) (by simp)).out ho (by omega) (by simp <;> omega) (by simp <;> omega)
        clear ho M9 q0
        have q0 := M10.cell 2 rfl
        go_wp2_with fail
        refine (markLabel_O _ _ l1 _ z1 _ _ (by omega) (by omega) (M10.get 1 rfl)).mono ?_
        rintro e w11 ⟨rfl, _, ho⟩
        have zz11 := ho.size
        have M11 : Mm w w11 [(w6.heap.size, 0, .int .i64 (ksC z0 z1)), (w6.heap.size, 1, .slice ra rn rc), (Pv, 0, .int .i64 (ksC z0 z1)), (Pv, 1, .slice va vn vc), (w.heap.size + 1, 0, .slice a1 l1 c1), (w.heap.size, 0, .slice a0 l0 c0)] [(w5.heap.size + 1, w6.heap.size, OO (InR (w5.heap.size + 1) (w6.heap.size)) ra rn (ksL z0 z1)), (w2.heap.size, w3.heap.size, OO (InR (w2.heap.size) (w3.heap.size)) va vn (ksL z0 z1))] := (M10.sub (by simp) (by simp)).out ho (by omega) (by simp <;> omega) (by simp <;> omega)
        clear ho M10 q0
        have hlt1 : decide ((1 : Int) + 5 * (l0 : Int) + (lenO z0 : Int) + (l1 : Int) < 0) = false := by simp; omega
        have q0 := M11.cell 0 rfl
        have q1 := M11.cell 1 rfl
        have q2 := M11.cell 2 rfl
        have q3 := M11.cell 3 rfl
        go_wp2_with fail
        refine (eqOR_O (ksC z0 z1) _ _ _ _ _ _ _ _ (ksL z0 z1) _ (M11.get 0 rfl) (M11.get 1 rfl)).mono ?_
        rintro e w12 ⟨rfl, g12⟩
        have zz12 := g12.size
        have M12 := M11.below g12
        clear g12 M11 q0 q1 q2 q3
        have q0 := M12.cell 0 rfl
        have q1 := M12.cell 1 rfl
        go_wp2_with fail
        refine (markOR_O _ _ _ _ _ _ 1 _ (by omega) (by omega) (M12.get 0 rfl)).mono ?_
        rintro e w13 ⟨rfl, om, ho⟩
        have zz13 := ho.size
        have M13a : Mm w w13 [(w6.heap.size, 0, .int .i64 (ksC z0 z1)), (w6.heap.size, 1, .slice ra rn rc), (Pv, 0, .int .i64 (ksC z0 z1)), (Pv, 1, .slice va vn vc), (w.heap.size + 1, 0, .slice a1 l1 c1), (w.heap.size, 0, .slice a0 l0 c0)] [(w2.heap.size, w3.heap.size, OO (InR (w2.heap.size) (w3.heap.size)) va vn (ksL z0 z1))] := (M12.sub (by simp) (by simp)).out ho (by omega) (by simp <;> omega) (by simp <;> omega)
        have M13 := M13a.fact OO.loc om
        clear ho om M12 M13a q0 q1
        have q0 := M13.cell 0 rfl
        have q1 := M13.cell 1 rfl
        go_wp2_with fail
        refine (heldOR_O _ _ _ _ _ (ksL z0 z1) _ (M13.get 0 rfl)).mono ?_
        rintro e w14 ⟨rfl, g14⟩
        have zz14 := g14.size
        have M14 := M13.below g14
        clear g14 M13 q0 q1
        have hlt2 : decide ((1 : Int) + 5 * (rn : Int) + (lenO (ksL z0 z1) : Int) < 0) = false := by simp; omega
        have q0 := M14.cell 5 rfl
        have q1 := M14.cell 4 rfl
        have lt0 := M14.lt 5 rfl
        have lt1 := M14.lt 4 rfl
        have sr0 := hs0.below M14.bel (Nat.le_refl _)
        have sr1 := hs1.below M14.bel (Nat.le_refl _)
        go_upto_region 31 with fail
        go_cut [13] (fun v wd => ∃ P ka kn kc , v = .pointer (some ⟨P, 0, none⟩) ∧ wd.cell? ⟨P, 0, none⟩ = some (.int .i64 (ksC z0 z1)) ∧ wd.frozen? ⟨P, 0, none⟩ = false ∧ wd.cell? ⟨P, 1, none⟩ = some (.slice ka kn kc) ∧ wd.frozen? ⟨P, 1, none⟩ = false ∧ OO (InR w14.heap.size wd.heap.size) ka kn (ksL z0 z1) wd ∧ Below w14.heap.size w14 wd)
        case first =>
          have HS0 : Hid (w14.drew.cell? ⟨w.heap.size, 0, none⟩ = some (.slice a0 l0 c0) ∧ w14.drew.cell? ⟨w.heap.size + 1, 0, none⟩ = some (.slice a1 l1 c1) ∧ Below w14.heap.size w14 w14.drew) := ⟨q0, q1, (Below.refl _ _).drew⟩
          go_region_held2 (fun w' => w'.cell? ⟨w.heap.size, 0, none⟩ = some (.slice a0 l0 c0) ∧ w'.cell? ⟨w.heap.size + 1, 0, none⟩ = some (.slice a1 l1 c1) ∧ Below w14.heap.size w14 w')
            (first | with_reducible exact HS0.out | (repeat (first | with_reducible assumption | with_reducible refine q2_allocd lt0 lt1 ?_ _ | with_reducible refine q2_alloc lt0 lt1 ?_ _ | with_reducible refine q2_set lt0 lt1 ?_ ?_ _ | (show (_ : Nat) ≤ _; exact Nat.le_refl _) | (show (_ : Nat) ≤ _; dsimp only; omega))))
            (first
              | (go_at_call_of 8 (Value.slice a0 l0 c0); refine (toKernel_O a0 l0 c0 z0 _ (by omega) ?_).mono ?_; exact sr0.below (q2_bel (by with_reducible assumption)) (Nat.le_refl _); rintro e wa ⟨b_k0, rfl, o0, ga⟩; have hswa := q2_below lt0 lt1 (by with_reducible assumption) ga; have hzwa := ga.size; have hwwa := (q2_bel hswa).size; (try simp only [World.size_alloc, World.size_drew] at hzwa); (try have hqwa := Nat.lt_of_succ_le hzwa); obtain ⟨bc0, bf0⟩ := bcellQ ga; (try simp only [World.size_alloc, World.size_drew] at bc0 bf0); clear ga)
              | (go_at_call_of 9 (Value.slice a1 l1 c1); refine (toLabel_O a1 l1 c1 z1 _ (by omega) ?_).mono ?_; exact sr1.below (q2_bel (by with_reducible assumption)) (Nat.le_refl _); rintro e wb ⟨b_k1, rfl, o1, ga⟩; have hswb := q2_below lt0 lt1 (by with_reducible assumption) ga; have hzwb := ga.size; have hwwb := (q2_bel hswb).size; have o0 := Loc.belowA OO.loc o0 ga (by first | exact Below.refl _ _ | exact (Below.refl _ _).alloc (Nat.le_refl _) _); (try simp only [World.size_alloc] at hzwb); (try have hqwb := Nat.lt_of_succ_le hzwb); (try have hrwb := Nat.lt_of_lt_of_le hqwa hzwb); obtain ⟨bc1, bf1⟩ := bcellQ ga; (try simp only [World.size_alloc] at bc1 bf1); clear ga)
              | (go_at_call 10; refine (implKernelSeen_calls _ _ _ z0 _ _ _ z1 _ hm0 (Loc.belowB OO.loc o0 (by first | exact Below.refl _ _ | exact (Below.refl _ _).alloc (Nat.le_refl _) _)).sob (Nat.le_refl _) hm1 (Loc.belowB OS.loc o1 (by first | exact Below.refl _ _ | exact (Below.refl _ _).alloc (Nat.le_refl _) _)).sl).mono ?_; rintro e ws ⟨ka, kn, kc, rfl, os, gs⟩; have hss := q2_below lt0 lt1 (by with_reducible assumption) gs; have hzs := gs.size; have hws := (q2_bel hss).size; obtain ⟨bcs, bfs⟩ := bcellQ gs; (try simp only [World.size_alloc] at hzs bcs bfs); (try have hts := Nat.lt_of_succ_le hzs); (try have hus := Nat.lt_of_lt_of_le hqwb hzs); (try have hvs := Nat.lt_of_lt_of_le hrwb hzs); (try simp only [World.size_alloc] at os); clear gs))
          all_goals go_wp2_with fail
          all_goals go_meet
          all_goals (
            refine ⟨_, ka, kn, kc, rfl, ?c0, ?f0, ?c1, ?f1, ?o, ?b⟩
            case b => exact q2_bel (by with_reducible assumption)
            case o => first | (with_reducible exact OO.allocR os (by omega)) | (with_reducible exact OO.set2R os (by omega) (by omega) _ _ )
            case c0 => first | (go_simp; done) | (with_reducible refine set2_at0 _ _ _ _ ?_; go_simp; done)
            case f0 => (go_simp; done)
            case c1 => first | (go_simp; done) | (with_reducible refine set2_at1 _ _ _ _ ?_; go_simp; done)
            case f1 => (go_simp; done))
        case rest =>
          obtain ⟨Pk, ka, kn, kc, rfl, cc0, cf0, cc1, cf1, ok, g15⟩ := hcut
          obtain ⟨w15, rfl⟩ : ∃ x, x = wc := ⟨wc, rfl⟩
          have zz15 := g15.size
          have lPk := World.block_lt_of_cell? _ _ cc0
          have M15 := ((((M14.below g15).fact OO.loc ok).cons cc1 cf1).cons cc0 cf0)
          clear g15 M14 ok cc0 cc1 cf0 cf1 lt0 lt1 sr0 sr1 q0 q1
          have q0 := M15.cell 0 rfl
          have q1 := M15.cell 1 rfl
          have q2 := M15.cell 4 rfl
          have q3 := M15.cell 5 rfl
          go_wp2_with fail
          refine (eqOR_O (ksC z0 z1) _ _ _ _ _ _ _ _ (ksL z0 z1) _ (M15.get 0 rfl) (M15.get 2 rfl)).mono ?_
          rintro e w16 ⟨rfl, g16⟩
          have M16 := M15.below g16
          clear g16 M15 q0 q1 q2 q3
          have q0 := M16.cell 2 rfl
          have q1 := M16.cell 3 rfl
          go_wp2_with fail
          refine (heldOR_O _ _ _ _ _ (ksL z0 z1) _ (M16.get 1 rfl)).mono ?_
          rintro e w17 ⟨rfl, g17⟩
          have zz17 := g17.size
          have M17 := M16.below g17
          clear g17 M16 q0 q1
          have HB := hide M17.bel
          clear M17
          go_wp2
          go_ret
          exact ⟨rfl, HB.out⟩

theorem walk_KernelSeen (a0 : Option Addr) (l0 c0 : Nat) (z0 : List OB) (a1 : Option Addr) (l1 c1 : Nat) (z1 : List Int) (w : World) (hm0 : l0 ≤ maxLen) (hs0 : Sob w a0 l0 z0) (hm1 : l1 ≤ maxLen) (hs1 : Sl w a1 l1 z1) :
    Calls Try.prog 3 #[.agg #[.slice a0 l0 c0], .agg #[.slice a1 l1 c1]] w fun e w' => e = .returned (.bool true) ∧ Below w.heap.size w w' := by
  by_cases hz0 : (l0 + lenO z0) ≤ 1048576
  rotate_left
  · exact law_big0_KernelSeen a0 l0 c0 z0 a1 l1 c1 w hm0 hs0 (by omega)
  by_cases hz1 : (l0 + lenO z0) + l1 ≤ 1048576
  rotate_left
  · exact law_big1_KernelSeen a0 l0 c0 z0 a1 l1 c1 z1 w hm0 hs0 hm1 hs1 hz0 (by omega)
  exact law_small_KernelSeen a0 l0 c0 z0 a1 l1 c1 z1 w hm0 hs0 hm1 hs1 hz1

end Go.Proofs.Ytipfaoecodclaaa
