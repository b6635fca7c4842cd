import Derived.Test.YtdokminhoihghaaNkI
import Derived.Test.YtdokminhoihghaaObT
import Derived.Test.YtdokminhoihghaaObE
import Derived.Test.YtdokminhoihghaaObH
import Derived.WalkKit
import Derived.ProofKit
import Derived.OpenShut
import Derived.ShutString
import Derived.ChangeOld
import Derived.Below
import Derived.WalkSpells
import Derived.Deep.QuietTactic
import Derived.BigQuiet
import Derived.Deep.RegionWith
import Derived.Deep.WholeRow
import Derived.Deep.DeepCutAuto
import Derived.Deep.RegionHeld2
import Derived.Deep.AppendLies
import Derived.Deep.RegionLaw
namespace Go.Proofs.Ytdokminhoihghaa
open Go.ChangeShapes Go.WideShapes Go.ChangeAt Go.RowKit

set_option maxRecDepth 100000 in
theorem markInt64S_O (S : Nat → Prop) (a : Option Addr) (n cap : Nat) (rs : List Int) (m : Int) (w : World) (hm0 : 0 ≤ m) (hm : m ≤ 4194304) (hs : OS S a n rs w) :
    Calls Try.prog 54 #[.slice a n cap, .int .i64 m] w fun e w' => e = .returned (.int .i64 (m + n)) ∧ OS S a n (marksFrom m n) w' ∧ OutS S w w' := by
  obtain ⟨hlen, hn, hs⟩ := hs
  rcases hs with rfl | ⟨b, rfl, hB, blk⟩
  · go_enter Try.func54, Try.ntmps54
    go_wp2
    go_loop [1, 5] (fun k i => k = .int .i64 m ∧ i = .int .i64 0) (fun _ _ => 0)
    case atStart => exact ⟨rfl, rfl⟩
    case round =>
      obtain ⟨rfl, rfl⟩ := hrel
      go_wp2
      go_ret
      exact ⟨ret_int (by simp), ⟨length_marksFrom _ _, by omega, (.inl rfl)⟩, OutS.refl _ _⟩
  · subst hlen
    go_enter Try.func54, Try.ntmps54
    go_wp2
    go_loopw [1, 5] (fun q i wr => ∃ k : Nat, k ≤ rs.length ∧ q = .int .i64 (m + k) ∧ i = .int .i64 k ∧ MRow wr b rs.length k m ∧ OutS S w wr) (fun _ i _ => rs.length - (intOf i).toNat)
    case atStart => exact ⟨0, Nat.zero_le _, by simp, rfl, MRow.start blk, OutS.refl _ _⟩
    case round =>
      obtain ⟨k, hk, rfl, rfl, hrow, hbut⟩ := hrel
      by_cases hlt : k < rs.length
      · obtain ⟨v, hv⟩ := hrow.2.2.1 k hlt
        have hfz := hrow.2.2.2 k
        go_wp2
        go_roundw
        case rel => exact ⟨k + 1, by omega, by go_num, by go_num, hrow.store hlt, hbut.setCell hB _⟩
        case measure => simp [intOf]; omega
      · have e : k = rs.length := by omega
        subst e
        go_wp2
        go_ret
        exact ⟨rfl, ⟨length_marksFrom _ _, hn, .inr ⟨b, rfl, hB, hrow.done⟩⟩, hbut⟩

theorem toLabel_O (a : Option Addr) (n cap : Nat) (zs : List Int) (w : World) (hl : n ≤ 1048576) (hs : Sl w a n zs) :
    Calls Try.prog 16 #[.agg #[.slice a n cap]] w fun e w' => ∃ b, e = .returned (.agg #[.slice (some ⟨b, 0, none⟩) n n]) ∧ OS (InR w.heap.size w'.heap.size) (some ⟨b, 0, none⟩) n zs w' ∧ Below w.heap.size w w' :=
  (toLabel_calls a n cap zs w hl hs).mono (fun _ _ h => by obtain ⟨b, e, h1, h2, h3⟩ := h; exact ⟨b, e, OS.ofBlk h2 ⟨h1, h2.1⟩ hs.1 hl, h3⟩)

theorem eqLabel_O (S S' : Nat → Prop) (a b : Option Addr) (n ca cb : Nat) (zs : List Int) (w : World) (hx : OS S a n zs w) (hy : OS S' b n zs w) :
    Calls Try.prog 19 #[.agg #[.slice a n ca], .agg #[.slice b n cb]] w fun e w' => e = .returned (.bool true) ∧ Below w.heap.size w w' :=
  (eqLabel_calls a b n ca n cb zs zs w (by have := hx.2.1; unfold maxLen; omega) (by have := hx.2.1; unfold maxLen; omega) hx.sl hy.sl).mono (fun _ _ h => by obtain ⟨h1, h2⟩ := h; exact ⟨by rw [h1, decide_eq_true rfl], h2⟩)

set_option maxRecDepth 100000 in
theorem markLabel_O (S : Nat → Prop) (a : Option Addr) (n cap : Nat) (rs : List Int) (m : Int) (w : World) (hm0 : 0 ≤ m) (hm : m ≤ 4194304) (hs : OS S a n rs w) :
    Calls Try.prog 20 #[.agg #[.slice a n cap], .int .i64 m] w fun e w' => e = .returned (.int .i64 (m + n)) ∧ OS S a n (marksFrom m n) w' ∧ OutS S w w' := by
  go_enter Try.func20, Try.ntmps20
  go_wp2_with fail
  refine (markInt64S_O S a n cap rs m _ hm0 hm (OS.loc.below ((Below.refl _ _).alloc (Nat.le_refl _) _) hs)).mono ?_
  rintro e w1 ⟨rfl, h1, h2⟩
  go_wp2
  go_ret
  exact ⟨rfl, h1, (OutS.of_below ((Below.refl _ _).alloc (Nat.le_refl _) _)).trans h2⟩

set_option maxRecDepth 100000 in
theorem law_big0_NewKernel (a0 : Option Addr) (l0 c0 : Nat) (z0 : List Int) (x1 : Int) (w : World) (hm0 : l0 ≤ maxLen) (hs0 : Sl w a0 l0 z0) (hbig : 1048576 < l0) :
    Calls Try.prog 4 #[.agg #[.slice a0 l0 c0], .int .i64 x1] w fun e w' => e = .returned (.bool true) ∧ Below w.heap.size w w' := by
  have _ := hs0
  have M0 := ((Mm.start w).alloc1 (.slice a0 l0 c0) 35)
  try simp only [World.size_alloc] at M0
  go_enter Try.func4, Try.ntmps4
  go_wp2_with fail
  refine (szLabel_calls a0 l0 c0 1048576 _ (by omega) (by omega) hm0).mono ?_
  rintro e w1 ⟨rfl, g1⟩
  have M1 := M0.below g1
  clear g1 M0
  rw [szI_neg (by omega)]
  have HB := hide M1.bel
  clear M1
  go_wp2
  go_ret
  exact ⟨rfl, HB.out⟩

set_option maxRecDepth 100000 in
set_option maxHeartbeats 16000000 in
theorem law_small_NewKernel (a0 : Option Addr) (l0 c0 : Nat) (z0 : List Int) (x1 : Int) (w : World) (hm0 : l0 ≤ maxLen) (hs0 : Sl w a0 l0 z0) (hz : l0 ≤ 1048576) :
    Calls Try.prog 4 #[.agg #[.slice a0 l0 c0], .int .i64 x1] w fun e w' => e = .returned (.bool true) ∧ Below w.heap.size w w' := by
  have hz0 : l0 ≤ 1048576 := by omega
  have M0 := ((Mm.start w).alloc1 (.slice a0 l0 c0) 35)
  try simp only [World.size_alloc] at M0
  go_enter Try.func4, Try.ntmps4
  go_wp2_with fail
  refine (szLabel_calls a0 l0 c0 1048576 _ (by omega) (by omega) hm0).mono ?_
  rintro e w1 ⟨rfl, g1⟩
  have zz1 := g1.size
  try simp only [World.size_alloc] at zz1
  have M1 := M0.below g1
  clear g1 M0
  rw [szI_pos (by omega)]
  have hge0 : ¬ (1048576 - ((l0 : Nat) : Int) < 0) := by omega
  have q0 := M1.cell 0 rfl
  go_wp2_with fail
  refine (toLabel_O a0 l0 c0 z0 _ (by omega) (hs0.below M1.bel (Nat.le_refl _))).mono ?_
  rintro e w2 ⟨b_s, rfl, os, g2⟩
  have zz2 := g2.size
  try simp only [World.size_alloc] at os zz2
  have M2 := (M1.below g2).fact OS.loc os
  clear g2 M1 os q0
  go_wp2_with fail
  refine (specNewKernel_calls _ _ _ z0 x1 _ hm0 (M2.get 0 rfl).sl).mono ?_
  rintro e w3 ⟨va, vn, vc, rfl, ov, g3⟩
  have zz3 := g3.size
  try simp only [World.size_alloc] at ov zz3
  have M3 := ((M2.below g3).fact OO.loc ov).alloc3 (.int .i64 (nkC z0 x1)) (.int .i64 (0)) (.slice va vn vc) 38
  clear g3 M2 ov
  have q0 := M3.cell 3 rfl
  go_wp2_with fail
  refine (toLabel_O a0 l0 c0 z0 _ (by omega) (hs0.below M3.bel (Nat.le_refl _))).mono ?_
  rintro e w4 ⟨b_x0, rfl, ox0, g4⟩
  have zz4 := g4.size
  try simp only [World.size_alloc] at ox0 zz4
  have M4 := ((M3.below g4).fact OS.loc ox0).alloc1 (.slice (some ⟨b_x0, 0, none⟩) l0 l0) 40
  clear g4 M3 ox0 q0
  go_wp2_with fail
  refine (implNewKernel_calls _ _ _ z0 x1 _ hm0 (M4.get 0 rfl).sl).mono ?_
  rintro e w5 ⟨ra, rn, rc, rfl, or, g5⟩
  have zz5 := g5.size
  try simp only [World.size_alloc] at or zz5
  have M5 := ((M4.below g5).fact OO.loc or).alloc3 (.int .i64 (nkC z0 x1)) (.int .i64 (0)) (.slice ra rn rc) 38
  clear g5 M4 or
  have q0 := M5.cell 0 rfl
  have q1 := M5.cell 1 rfl
  have q2 := M5.cell 2 rfl
  have q3 := M5.cell 4 rfl
  have q4 := M5.cell 5 rfl
  have q5 := M5.cell 6 rfl
  go_wp2_with fail
  refine (eqKN_O (nkC z0 x1) (0) _ _ _ _ _ _ _ _ (nkL z0 x1) _ (M5.get 0 rfl) (M5.get 2 rfl)).mono ?_
  rintro e w6 ⟨rfl, g6⟩
  have zz6 := g6.size
  try simp only [World.size_alloc] at zz6
  have M6 := M5.below g6
  clear g6 M5 q0 q1 q2 q3 q4 q5
  have q0 := M6.cell 3 rfl
  have q1 := M6.cell 7 rfl
  go_upto_region 10 with fail
  go_cut [35] (fun v wd => v = .bool false ∧ Below w6.heap.size w6 wd)
  case first =>
    go_region_with (first
      | (go_at_call 16; refine (toLabel_O a0 l0 c0 z0 _ (by omega) ?_).mono ?_; exact hs0.below M6.drew.bel (Nat.le_refl _); rintro e wa ⟨b_y, rfl, oy, ga⟩; have ha : Below w6.heap.size w6 wa := ((Below.refl w6.heap.size w6).drew).trans ga; have Ma := M6.below ha; have y0 := Ma.cell 3 rfl; clear ga)
      | (go_at_call 19; refine (eqLabel_O _ _ _ _ _ _ _ z0 _ (Ma.get 1 rfl) oy).mono ?_; rintro e wb ⟨rfl, gb⟩; have hb : Below w6.heap.size w6 wb := ha.trans (gb.mono ha.size); clear gb))
    all_goals go_wp2_with fail
    all_goals go_meet
    all_goals exact ⟨rfl, hb⟩
  case rest =>
    obtain ⟨rfl, g7⟩ := hcut
    obtain ⟨w7, rfl⟩ : ∃ x, x = wc := ⟨wc, rfl⟩
    have zz7 := g7.size
    have M7 := M6.below g7
    clear g7 M6 q0 q1
    have q0 := M7.cell 3 rfl
    go_wp2_with fail
    refine (markLabel_O _ _ l0 _ z0 1 _ (by omega) (by omega) (M7.get 1 rfl)).mono ?_
    rintro e w8 ⟨rfl, _, ho⟩
    have zz8 := ho.size
    have M8 : Mm w w8 [(w5.heap.size, 0, .int .i64 (nkC z0 x1)), (w5.heap.size, 1, .int .i64 (0)), (w5.heap.size, 2, .slice ra rn rc), (w3.heap.size, 0, .int .i64 (nkC z0 x1)), (w3.heap.size, 1, .int .i64 (0)), (w3.heap.size, 2, .slice va vn vc), (w.heap.size, 0, .slice a0 l0 c0)] [(w4.heap.size + 1, w5.heap.size, OO (InR (w4.heap.size + 1) (w5.heap.size)) ra rn (nkL z0 x1)), (w2.heap.size, w3.heap.size, OO (InR (w2.heap.size) (w3.heap.size)) va vn (nkL z0 x1))] := (M7.sub (by simp) (by simp)).out ho (by omega) (by simp <;> omega) (by simp <;> omega)
    clear ho M7 q0
    have hlt1 : decide ((1 : Int) + (l0 : Int) < 0) = false := by simp; omega
    have q0 := M8.cell 0 rfl
    have q1 := M8.cell 1 rfl
    have q2 := M8.cell 2 rfl
    have q3 := M8.cell 3 rfl
    have q4 := M8.cell 4 rfl
    have q5 := M8.cell 5 rfl
    go_wp2_with fail
    refine (eqKN_O (nkC z0 x1) (0) _ _ _ _ _ _ _ _ (nkL z0 x1) _ (M8.get 0 rfl) (M8.get 1 rfl)).mono ?_
    rintro e w9 ⟨rfl, g9⟩
    have zz9 := g9.size
    have M9 := M8.below g9
    clear g9 M8 q0 q1 q2 q3 q4 q5
    have q0 := M9.cell 0 rfl
    have q1 := M9.cell 1 rfl
    have q2 := M9.cell 2 rfl
    go_wp2_with fail
    refine (markKN_O _ _ _ _ _ _ _ 1 _ (by omega) (by omega) (M9.get 0 rfl)).mono ?_
    rintro e w10 ⟨rfl, om, ho⟩
    have zz10 := ho.size
    have M10a : Mm w w10 [(w5.heap.size, 0, .int .i64 (nkC z0 x1)), (w5.heap.size, 1, .int .i64 (0)), (w5.heap.size, 2, .slice ra rn rc), (w3.heap.size, 0, .int .i64 (nkC z0 x1)), (w3.heap.size, 1, .int .i64 (0)), (w3.heap.size, 2, .slice va vn vc), (w.heap.size, 0, .slice a0 l0 c0)] [(w2.heap.size, w3.heap.size, OO (InR (w2.heap.size) (w3.heap.size)) va vn (nkL z0 x1))] := (M9.sub (by simp) (by simp)).out ho (by omega) (by simp <;> omega) (by simp <;> omega)
    have M10 := M10a.fact OO.loc om
    clear ho om M9 M10a q0 q1 q2
    have q0 := M10.cell 0 rfl
    have q1 := M10.cell 1 rfl
    have q2 := M10.cell 2 rfl
    go_wp2_with fail
    refine (heldKN_O _ _ _ _ _ _ (nkL z0 x1) _ (M10.get 0 rfl)).mono ?_
    rintro e w11 ⟨rfl, g11⟩
    have zz11 := g11.size
    have M11 := M10.below g11
    clear g11 M10 q0 q1 q2
    have hlt2 : decide ((1 : Int) + 5 * (rn : Int) + (lenO (nkL z0 x1) : Int) < 0) = false := by simp; omega
    have q0 := M11.cell 6 rfl
    go_wp2_with fail
    refine (toLabel_O a0 l0 c0 z0 _ (by omega) (hs0.below M11.bel (Nat.le_refl _))).mono ?_
    rintro e w12 ⟨b_t, rfl, ot, g12⟩
    have zz12 := g12.size
    try simp only [World.size_alloc] at ot zz12
    have M12 := (M11.below g12).fact OS.loc ot
    clear g12 M11 ot q0
    go_wp2_with fail
    refine (implNewKernel_calls _ _ _ z0 x1 _ hm0 (M12.get 0 rfl).sl).mono ?_
    rintro e w13 ⟨ka, kn, kc, rfl, ok, g13⟩
    have zz13 := g13.size
    try simp only [World.size_alloc] at ok zz13
    have M13 := ((M12.below g13).fact OO.loc ok).alloc3 (.int .i64 (nkC z0 x1)) (.int .i64 (0)) (.slice ka kn kc) 38
    clear g13 M12 ok
    have q0 := M13.cell 0 rfl
    have q1 := M13.cell 1 rfl
    have q2 := M13.cell 2 rfl
    have q3 := M13.cell 6 rfl
    have q4 := M13.cell 7 rfl
    have q5 := M13.cell 8 rfl
    go_wp2_with fail
    refine (eqKN_O (nkC z0 x1) (0) _ _ _ _ _ _ _ _ (nkL z0 x1) _ (M13.get 0 rfl) (M13.get 3 rfl)).mono ?_
    rintro e w14 ⟨rfl, g14⟩
    have M14 := M13.below g14
    clear g14 M13 q0 q1 q2 q3 q4 q5
    have q0 := M14.cell 3 rfl
    have q1 := M14.cell 4 rfl
    have q2 := M14.cell 5 rfl
    go_wp2_with fail
    refine (heldKN_O _ _ _ _ _ _ (nkL z0 x1) _ (M14.get 2 rfl)).mono ?_
    rintro e w15 ⟨rfl, g15⟩
    have zz15 := g15.size
    have M15 := M14.below g15
    clear g15 M14 q0 q1 q2
    have HB := hide M15.bel
    clear M15
    go_wp2
    go_ret
    exact ⟨rfl, HB.out⟩

theorem walk_NewKernel (a0 : Option Addr) (l0 c0 : Nat) (z0 : List Int) (x1 : Int) (w : World) (hm0 : l0 ≤ maxLen) (hs0 : Sl w a0 l0 z0) :
    Calls Try.prog 4 #[.agg #[.slice a0 l0 c0], .int .i64 x1] w fun e w' => e = .returned (.bool true) ∧ Below w.heap.size w w' := by
  by_cases hz0 : l0 ≤ 1048576
  rotate_left
  · exact law_big0_NewKernel a0 l0 c0 z0 x1 w hm0 hs0 (by omega)
  exact law_small_NewKernel a0 l0 c0 z0 x1 w hm0 hs0 hz0

end Go.Proofs.Ytdokminhoihghaa
