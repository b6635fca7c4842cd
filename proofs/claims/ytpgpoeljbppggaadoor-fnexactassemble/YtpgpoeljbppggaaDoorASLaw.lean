import Derived.Test.YtpgpoeljbppggaaDoorAsR
import Derived.WalkKit
import Derived.ProofKit
import Derived.OpenShut
import Derived.ShutString
import Derived.ChangeOld
import Derived.Below
import Derived.WalkSpells
import Derived.Deep.QuietTactic
import Derived.BigQuiet
import Derived.Deep.RegionWith
import Derived.Deep.WholeRow
import Derived.Deep.DeepCutAuto
import Derived.Deep.RegionHeld2
import Derived.Deep.AppendLies
import Derived.Deep.RegionLaw
namespace Go.Proofs.YtpgpoeljbppggaaDoor
open Go.ChangeShapes Go.WideShapes Go.ChangeAt Go.RowKit

/-- marks k, k+1, .. -/
def marksFrom (k : Int) (n : Nat) : List Int := (List.range n).map (fun j : Nat => k + (j : Int))

theorem length_marksFrom (k : Int) (n : Nat) : (marksFrom k n).length = n := by simp [marksFrom]

theorem gt_marksFrom (k : Int) (n j : Nat) (h : j < n) : gt (marksFrom k n) j = k + j := by simp [marksFrom, gt, h]

/-- a row that is being marked: the first k hold marks, all n are there. -/
def MRow (w : World) (b n k : Nat) (m : Int) : Prop :=
  b < w.heap.size ∧ (∀ j, j < k → w.cell? ⟨b, j, none⟩ = some (.int .i64 (m + j))) ∧ (∀ j, j < n → ∃ v, w.cell? ⟨b, j, none⟩ = some v) ∧ ∀ j, w.frozen? ⟨b, j, none⟩ = false

theorem MRow.start {w : World} {b : Nat} {rs : List Int} {m : Int} (h : Blk w b rs) : MRow w b rs.length 0 m := ⟨h.1, fun j hj => by omega, fun j hj => ⟨_, h.2.1 j hj⟩, h.2.2⟩

theorem MRow.store {w : World} {b n k : Nat} {m : Int} (h : MRow w b n k m) (hk : k < n) : MRow (w.setCell ⟨b, k, none⟩ (.int .i64 (m + k))) b n (k + 1) m := by
  obtain ⟨h1, h2, h3, h4⟩ := h
  obtain ⟨v, hv⟩ := h3 k hk
  refine ⟨by simpa using h1, fun j hj => ?_, fun j hj => ?_, fun j => by simpa using h4 j⟩
  · by_cases e : j = k
    · subst e; exact World.cell?_setCell_same _ _ _ hv
    · rw [World.cell?_setCell_other _ _ _ _ (fun h => e (by injection h with _ h2; exact h2.symm))]; exact h2 j (by omega)
  · exact cell?_setCell_some (h3 j hj).choose_spec

theorem MRow.done {w : World} {b n : Nat} {m : Int} (h : MRow w b n n m) : Blk w b (marksFrom m n) :=
  ⟨h.1, fun j hj => by rw [length_marksFrom] at hj; rw [gt_marksFrom m n j hj]; exact h.2.1 j hj, h.2.2.2⟩

set_option maxRecDepth 100000 in
theorem eqInts_calls (a b : Option Addr) (la ca lb cb : Nat) (xs ys : List Int) (w : World) (hla : la ≤ maxLen) (hlb : lb ≤ maxLen) (hx : Sl w a la xs) (hy : Sl w b lb ys) :
    Calls Tryd.prog 48 #[.slice a la ca, .slice b lb cb] w fun e w' => e = .returned (.bool (decide (xs = ys))) ∧ Below w.heap.size w w' := by
  unfold maxLen at hla hlb
  obtain ⟨hxl, hx⟩ := hx
  obtain ⟨hyl, hy⟩ := hy
  by_cases hne : la = lb
  · subst hne
    have hn : ((la : Int) == (la : Int)) = true := by simp
    · go_enter Tryd.func48, Tryd.ntmps48
      go_wp2
      go_loopw [5] (fun i wr => ∃ k : Nat, k ≤ la ∧ i = .int .i64 k ∧ Below w.heap.size w wr ∧ ∀ j, j < k → gt xs j = gt ys j) (fun i _ => la - (intOf i).toNat)
      case atStart => exact ⟨0, Nat.zero_le _, rfl, Below.refl _ _, fun j hj => by omega⟩
      case round =>
        obtain ⟨k, hk, rfl, hbel, hall⟩ := hrel
        have Hall : Hid (∀ j, j < k → gt xs j = gt ys j) := hall
        clear hall
        by_cases hlt : k < la
        · obtain ⟨b1, o1, rfl, hb1, hc1⟩ := hx (by omega)
          obtain ⟨b2, o2, rfl, hb2, hc2⟩ := hy (by omega)
          have hck1 := (hbel.cell (p := ⟨b1, o1 + k, none⟩) hb1).trans (hc1 k hlt)
          have hck2 := (hbel.cell (p := ⟨b2, o2 + k, none⟩) hb2).trans (hc2 k hlt)
          have hki : (k : Int) < (la : Int) := by omega
          by_cases he : gt xs k = gt ys k
          · have hbq : (gt xs k != gt ys k) = false := by simp [he]
            have He : Hid (gt xs k = gt ys k) := he
            clear he
            go_wp2_with fail
            go_quiet (fail)
            go_wp2
            go_roundw
            case rel => exact ⟨k + 1, by omega, by go_num, bdrewN hbel _, fun j hj => by (by_cases e : j = k); (subst e; exact He.out); exact Hall.out j (by omega)⟩
            case measure => simp [intOf]; omega
          · have hbq : (gt xs k != gt ys k) = true := by simp [he]
            go_wp2_with fail
            go_quiet (fail)
            go_wp2
            go_ret
            exact ⟨ret_bool (by simp; intro e; exact he (by rw [e])), bdrewN hbel _⟩
        · go_wp2
          go_ret
          exact ⟨ret_bool (by simp; exact getD_ext (by omega) (fun i hi => Hall.out i (by omega))), hbel⟩
  · have hn : ((la : Int) == (lb : Int)) = false := by simp; omega
    go_enter Tryd.func48, Tryd.ntmps48
    go_wp2
    go_ret
    exact ⟨ret_bool (by simp; intro e; rw [e] at hxl; omega), Below.refl _ _⟩

set_option maxRecDepth 100000 in
theorem markInt64S_O (S : Nat → Prop) (a : Option Addr) (n cap : Nat) (rs : List Int) (m : Int) (w : World) (hm0 : 0 ≤ m) (hm : m ≤ 4194304) (hs : OS S a n rs w) :
    Calls Tryd.prog 50 #[.slice a n cap, .int .i64 m] w fun e w' => e = .returned (.int .i64 (m + n)) ∧ OS S a n (marksFrom m n) w' ∧ OutS S w w' := by
  obtain ⟨hlen, hn, hs⟩ := hs
  rcases hs with rfl | ⟨b, rfl, hB, blk⟩
  · go_enter Tryd.func50, Tryd.ntmps50
    go_wp2
    go_loop [1, 5] (fun k i => k = .int .i64 m ∧ i = .int .i64 0) (fun _ _ => 0)
    case atStart => exact ⟨rfl, rfl⟩
    case round =>
      obtain ⟨rfl, rfl⟩ := hrel
      go_wp2
      go_ret
      exact ⟨ret_int (by simp), ⟨length_marksFrom _ _, by omega, (.inl rfl)⟩, OutS.refl _ _⟩
  · subst hlen
    go_enter Tryd.func50, Tryd.ntmps50
    go_wp2
    go_loopw [1, 5] (fun q i wr => ∃ k : Nat, k ≤ rs.length ∧ q = .int .i64 (m + k) ∧ i = .int .i64 k ∧ MRow wr b rs.length k m ∧ OutS S w wr) (fun _ i _ => rs.length - (intOf i).toNat)
    case atStart => exact ⟨0, Nat.zero_le _, by simp, rfl, MRow.start blk, OutS.refl _ _⟩
    case round =>
      obtain ⟨k, hk, rfl, rfl, hrow, hbut⟩ := hrel
      by_cases hlt : k < rs.length
      · obtain ⟨v, hv⟩ := hrow.2.2.1 k hlt
        have hfz := hrow.2.2.2 k
        go_wp2
        go_roundw
        case rel => exact ⟨k + 1, by omega, by go_num, by go_num, hrow.store hlt, hbut.setCell hB _⟩
        case measure => simp [intOf]; omega
      · have e : k = rs.length := by omega
        subst e
        go_wp2
        go_ret
        exact ⟨rfl, ⟨length_marksFrom _ _, hn, .inr ⟨b, rfl, hB, hrow.done⟩⟩, hbut⟩

set_option maxRecDepth 100000 in
theorem heldInt64S_calls (a : Option Addr) (n cap : Nat) (m : Int) (w : World) (hm0 : 0 ≤ m) (hm : m ≤ 4194304) (hn : n ≤ 1048576) (hs : Sl w a n (marksFrom m n)) :
    Calls Tryd.prog 51 #[.slice a n cap, .int .i64 m] w fun e w' => e = .returned (.int .i64 (m + n)) ∧ Below w.heap.size w w' := by
  obtain ⟨_, hs⟩ := hs
  go_enter Tryd.func51, Tryd.ntmps51
  go_wp2
  go_loopw [1, 5] (fun q i wr => ∃ k : Nat, k ≤ n ∧ q = .int .i64 (m + k) ∧ i = .int .i64 k ∧ Below w.heap.size w wr) (fun _ i _ => n - (intOf i).toNat)
  case atStart => exact ⟨0, Nat.zero_le _, by simp, rfl, Below.refl _ _⟩
  case round =>
    obtain ⟨k, hk, rfl, rfl, hbel⟩ := hrel
    by_cases hlt : k < n
    · obtain ⟨b, off, rfl, hb, hc⟩ := hs (by omega)
      have hck := (hbel.cell (p := ⟨b, off + k, none⟩) hb).trans (hc k hlt)
      rw [gt_marksFrom m n k hlt] at hck
      go_wp2
      go_roundw
      case rel => exact ⟨k + 1, by omega, by go_num, by go_num, hbel⟩
      case measure => simp [intOf]; omega
    · have e : k = n := by omega
      subst e
      go_wp2
      go_ret
      exact ⟨rfl, hbel⟩

set_option maxRecDepth 100000 in
theorem eqNR_O (c : Int) (a b : Option Addr) (n m ca cb : Nat) (zs : List Int) (w : World) (hn : n ≤ 1048576) (hx : Sl w a n zs) (hy : Sl w b m zs) :
    Calls Tryd.prog 24 #[.agg #[.int .i64 c, .slice a n ca], .agg #[.int .i64 c, .slice b m cb]] w fun e w' => e = .returned (.bool true) ∧ Below w.heap.size w w' := by
  obtain rfl : m = n := by have := hx.1; have := hy.1; omega
  have hb0 := fun o1 o2 => ((Below.refl w.heap.size w).alloc (Nat.le_refl _) o1).alloc (by simp) o2
  have hcc : (c != c) = false := by simp
  go_enter Tryd.func24, Tryd.ntmps24
  go_wp2_with fail
  refine (eqInts_calls a b m ca m cb zs zs _ (by unfold maxLen; omega) (by unfold maxLen; omega) (hx.below (hb0 _ _) (Nat.le_refl _)) (hy.below (hb0 _ _) (Nat.le_refl _))).mono ?_
  rintro e w1 ⟨rfl, hb⟩
  rw [decide_eq_true rfl]
  go_wp2
  go_ret
  exact ⟨rfl, (hb0 _ _).trans (hb.mono (by simp; omega))⟩

set_option maxRecDepth 100000 in
theorem markNR_O (S : Nat → Prop) (c : Int) (a : Option Addr) (n cap : Nat) (rs : List Int) (m : Int) (w : World) (hm0 : 0 ≤ m) (hm : m ≤ 4194304) (hs : OS S a n rs w) :
    Calls Tryd.prog 27 #[.agg #[.int .i64 c, .slice a n cap], .int .i64 m] w fun e w' => e = .returned (.int .i64 (m + n)) ∧ OS S a n (marksFrom m n) w' ∧ OutS S w w' := by
  go_enter Tryd.func27, Tryd.ntmps27
  go_wp2_with fail
  refine (markInt64S_O S a n cap rs m _ hm0 hm (OS.loc.below ((Below.refl _ _).alloc (Nat.le_refl _) _) hs)).mono ?_
  rintro e w1 ⟨rfl, h1, h2⟩
  go_wp2
  go_ret
  exact ⟨rfl, h1, (OutS.of_below ((Below.refl _ _).alloc (Nat.le_refl _) _)).trans h2⟩

set_option maxRecDepth 100000 in
theorem heldNR_O (c : Int) (S : Nat → Prop) (a : Option Addr) (n cap : Nat) (w : World) (hs : OS S a n (marksFrom 1 n) w) :
    Calls Tryd.prog 28 #[.agg #[.int .i64 c, .slice a n cap], .int .i64 1] w fun e w' => e = .returned (.int .i64 (1 + n)) ∧ Below w.heap.size w w' := by
  have hb1 := fun o1 => (Below.refl w.heap.size w).alloc (Nat.le_refl _) o1
  have hlt : decide ((1 : Int) + (n : Int) < 0) = false := by simp; omega
  go_enter Tryd.func28, Tryd.ntmps28
  go_wp2_with fail
  refine (heldInt64S_calls a n cap 1 _ (by omega) (by omega) hs.2.1 (hs.sl.below (hb1 _) (Nat.le_refl _))).mono ?_
  rintro e w1 ⟨rfl, hb⟩
  go_wp2
  go_ret
  exact ⟨rfl, (hb1 _).trans (hb.mono (by simp))⟩

theorem q2_bel {W X : World} {A0 A1 : Addr} {v0 v1 : Value} (h : X.cell? A0 = some v0 ∧ X.cell? A1 = some v1 ∧ Below W.heap.size W X) : Below W.heap.size W X := h.2.2

theorem q2_below {W X Y : World} {A0 A1 : Addr} {v0 v1 : Value} (h0 : A0.block < W.heap.size) (h1 : A1.block < W.heap.size) (h : X.cell? A0 = some v0 ∧ X.cell? A1 = some v1 ∧ Below W.heap.size W X) (g : Below X.heap.size X Y) : Y.cell? A0 = some v0 ∧ Y.cell? A1 = some v1 ∧ Below W.heap.size W Y := by
  have hz := (h.2.2).size
  exact ⟨(g.cell (by omega)).trans h.1, (g.cell (by omega)).trans h.2.1, (h.2.2).trans (g.mono hz)⟩

theorem q2_alloc {W X : World} {A0 A1 : Addr} {v0 v1 : Value} (h0 : A0.block < W.heap.size) (h1 : A1.block < W.heap.size) (h : X.cell? A0 = some v0 ∧ X.cell? A1 = some v1 ∧ Below W.heap.size W X) (o : Obj) : (X.alloc o).cell? A0 = some v0 ∧ (X.alloc o).cell? A1 = some v1 ∧ Below W.heap.size W (X.alloc o) := q2_below h0 h1 h ((Below.refl _ _).alloc (Nat.le_refl _) o)

theorem q2_allocd {W X : World} {A0 A1 : Addr} {v0 v1 : Value} (h0 : A0.block < W.heap.size) (h1 : A1.block < W.heap.size) (h : X.drew.cell? A0 = some v0 ∧ X.drew.cell? A1 = some v1 ∧ Below W.heap.size W X.drew) (o : Obj) : (X.alloc o).drew.cell? A0 = some v0 ∧ (X.alloc o).drew.cell? A1 = some v1 ∧ Below W.heap.size W (X.alloc o).drew := q2_alloc h0 h1 h o

theorem q2_set {W X : World} {A0 A1 : Addr} {v0 v1 : Value} (h0 : A0.block < W.heap.size) (h1 : A1.block < W.heap.size) (h : X.cell? A0 = some v0 ∧ X.cell? A1 = some v1 ∧ Below W.heap.size W X) {p : Addr} (hp : W.heap.size ≤ p.block) (y : Value) : (X.setCell p y).cell? A0 = some v0 ∧ (X.setCell p y).cell? A1 = some v1 ∧ Below W.heap.size W (X.setCell p y) :=
  ⟨(World.cell?_setCell_other _ _ _ _ (fun e => by rw [e] at hp; omega)).trans h.1, (World.cell?_setCell_other _ _ _ _ (fun e => by rw [e] at hp; omega)).trans h.2.1, (h.2.2).setCell hp y⟩

theorem set4_at0 (X : World) (P : Nat) (v0 v1 v2 v3 : Value) (h : ∃ u, X.cell? ⟨P, 0, none⟩ = some u) : ((((X.setCell ⟨P, 0, none⟩ v0).setCell ⟨P, 1, none⟩ v1).setCell ⟨P, 2, none⟩ v2).setCell ⟨P, 3, none⟩ v3).cell? ⟨P, 0, none⟩ = some v0 := by
  obtain ⟨u, h⟩ := h
  rw [World.cell?_setCell_other _ _ _ _ (fun e => by injection e with _ e2; omega)]
  rw [World.cell?_setCell_other _ _ _ _ (fun e => by injection e with _ e2; omega)]
  rw [World.cell?_setCell_other _ _ _ _ (fun e => by injection e with _ e2; omega)]
  exact World.cell?_setCell_same _ _ _ h

theorem set4_at1 (X : World) (P : Nat) (v0 v1 v2 v3 : Value) (h : ∃ u, X.cell? ⟨P, 1, none⟩ = some u) : ((((X.setCell ⟨P, 0, none⟩ v0).setCell ⟨P, 1, none⟩ v1).setCell ⟨P, 2, none⟩ v2).setCell ⟨P, 3, none⟩ v3).cell? ⟨P, 1, none⟩ = some v1 := by
  obtain ⟨u, h⟩ := h
  rw [World.cell?_setCell_other _ _ _ _ (fun e => by injection e with _ e2; omega)]
  rw [World.cell?_setCell_other _ _ _ _ (fun e => by injection e with _ e2; omega)]
  exact World.cell?_setCell_same _ _ _ ((World.cell?_setCell_other _ _ _ _ (fun e => by injection e with _ e2; omega)).trans h)

theorem set4_at2 (X : World) (P : Nat) (v0 v1 v2 v3 : Value) (h : ∃ u, X.cell? ⟨P, 2, none⟩ = some u) : ((((X.setCell ⟨P, 0, none⟩ v0).setCell ⟨P, 1, none⟩ v1).setCell ⟨P, 2, none⟩ v2).setCell ⟨P, 3, none⟩ v3).cell? ⟨P, 2, none⟩ = some v2 := by
  obtain ⟨u, h⟩ := h
  rw [World.cell?_setCell_other _ _ _ _ (fun e => by injection e with _ e2; omega)]
  exact World.cell?_setCell_same _ _ _ ((World.cell?_setCell_other _ _ _ _ (fun e => by injection e with _ e2; omega)).trans ((World.cell?_setCell_other _ _ _ _ (fun e => by injection e with _ e2; omega)).trans h))

theorem set4_at3 (X : World) (P : Nat) (v0 v1 v2 v3 : Value) (h : ∃ u, X.cell? ⟨P, 3, none⟩ = some u) : ((((X.setCell ⟨P, 0, none⟩ v0).setCell ⟨P, 1, none⟩ v1).setCell ⟨P, 2, none⟩ v2).setCell ⟨P, 3, none⟩ v3).cell? ⟨P, 3, none⟩ = some v3 := by
  obtain ⟨u, h⟩ := h
  exact World.cell?_setCell_same _ _ _ ((World.cell?_setCell_other _ _ _ _ (fun e => by injection e with _ e2; omega)).trans ((World.cell?_setCell_other _ _ _ _ (fun e => by injection e with _ e2; omega)).trans ((World.cell?_setCell_other _ _ _ _ (fun e => by injection e with _ e2; omega)).trans h)))

set_option maxRecDepth 100000 in
theorem law_big0_Assemble (a0 : Option Addr) (l0 c0 : Nat) (z0 : List ByteArray) (w : World) (hm0 : l0 ≤ maxLen) (hb0 : ∀ j, j < l0 → (z0.getD j ⟨#[]⟩).size ≤ maxLen) (hs0 : Stx w a0 l0 z0) (hbig : 1048576 < (l0 + sumB z0)) :
    Calls Tryd.prog 5 #[.slice a0 l0 c0] w fun e w' => e = .returned (.bool true) ∧ Below w.heap.size w w' := by
  have M0 := (Mm.start w)
  try simp only [World.size_alloc] at M0
  go_enter Tryd.func5, Tryd.ntmps5
  go_wp2_with fail
  refine (szStringS_calls a0 l0 c0 z0 1048576 _ (by omega) (by omega) hm0 hb0 (hs0.below M0.bel (Nat.le_refl _))).mono ?_
  rintro e w1 ⟨rfl, g1⟩
  have M1 := M0.below g1
  clear g1 M0
  rw [szI_neg (by omega)]
  have HB := hide M1.bel
  clear M1
  go_wp2
  go_ret
  exact ⟨rfl, HB.out⟩

set_option maxRecDepth 100000 in
set_option maxHeartbeats 16000000 in
theorem law_small_Assemble (a0 : Option Addr) (l0 c0 : Nat) (z0 : List ByteArray) (w : World) (hm0 : l0 ≤ maxLen) (hb0 : ∀ j, j < l0 → (z0.getD j ⟨#[]⟩).size ≤ maxLen) (hs0 : Stx w a0 l0 z0) (hkw : Kw w) (hz : (l0 + sumB z0) ≤ 1048576) :
    Calls Tryd.prog 5 #[.slice a0 l0 c0] w fun e w' => e = .returned (.bool true) ∧ Below w.heap.size w w' := by
  have hz0 : (l0 + sumB z0) ≤ 1048576 := by omega
  have M0 := (Mm.start w)
  try simp only [World.size_alloc] at M0
  go_enter Tryd.func5, Tryd.ntmps5
  go_wp2_with fail
  refine (szStringS_calls a0 l0 c0 z0 1048576 _ (by omega) (by omega) hm0 hb0 (hs0.below M0.bel (Nat.le_refl _))).mono ?_
  rintro e w1 ⟨rfl, g1⟩
  have zz1 := g1.size
  try simp only [World.size_alloc] at zz1
  have M1 := M0.below g1
  clear g1 M0
  rw [szI_pos (by omega)]
  have hge0 : ¬ (1048576 - (((l0 + sumB z0) : Nat) : Int) < 0) := by omega
  go_wp2_with fail
  refine (toStringS_O a0 l0 c0 z0 _ (by omega) (hs0.below M1.bel (Nat.le_refl _))).mono ?_
  rintro e w2 ⟨b_s, rfl, os, g2⟩
  have zz2 := g2.size
  try simp only [World.size_alloc] at os zz2
  have M2 := (M1.below g2).fact OSt.loc os
  clear g2 M1 os
  go_wp2_with fail
  refine (specAssemble_calls _ _ _ z0 _ (M2.get 0 rfl).sts (M2.get 0 rfl).hz (by omega)).mono ?_
  rintro e w3 ⟨va, vn, vc, rfl, ov, g3⟩
  have zz3 := g3.size
  try simp only [World.size_alloc] at ov zz3
  have M3 := ((M2.below g3).fact OS.loc ov).alloc2 (.int .i64 (asmC z0)) (.slice va vn vc) 42
  clear g3 M2 ov
  go_wp2_with fail
  refine (toStringS_O a0 l0 c0 z0 _ (by omega) (hs0.below M3.bel (Nat.le_refl _))).mono ?_
  rintro e w4 ⟨b_x0, rfl, ox0, g4⟩
  have zz4 := g4.size
  try simp only [World.size_alloc] at ox0 zz4
  have M4 := (M3.below g4).fact OSt.loc ox0
  clear g4 M3 ox0
  go_wp2_with fail
  refine (implAssemble_calls _ _ _ z0 _ (M4.get 0 rfl).sts (M4.get 0 rfl).hz (by omega) (hkw.below M4.bel)).mono ?_
  rintro e w5 ⟨ra, rn, rc, rfl, or, g5⟩
  have zz5 := g5.size
  try simp only [World.size_alloc] at or zz5
  have M5 := ((M4.below g5).fact OS.loc or).alloc2 (.int .i64 (asmC z0)) (.slice ra rn rc) 42
  clear g5 M4 or
  have q0 := M5.cell 0 rfl
  have q1 := M5.cell 1 rfl
  have q2 := M5.cell 2 rfl
  have q3 := M5.cell 3 rfl
  go_wp2_with fail
  refine (eqNR_O (asmC z0) _ _ _ _ _ _ (asmL z0) _ (M5.get 0 rfl).2.1 (M5.get 0 rfl).sl (M5.get 2 rfl).sl).mono ?_
  rintro e w6 ⟨rfl, g6⟩
  have zz6 := g6.size
  try simp only [World.size_alloc] at zz6
  have M6 := M5.below g6
  clear g6 M5 q0 q1 q2 q3
  go_wp2_with fail
  refine (toStringS_O a0 l0 c0 z0 _ (by omega) (hs0.below M6.bel (Nat.le_refl _))).mono ?_
  rintro e w7 ⟨b_y0, rfl, oy0, g7⟩
  have zz7 := g7.size
  try simp only [World.size_alloc] at oy0 zz7
  have M7 := (M6.below g7).fact OSt.loc oy0
  clear g7 M6 oy0
  go_wp2_with fail
  refine (eqStringS_calls _ _ l0 _ _ z0 _ (by unfold maxLen; omega) (M7.get 2 rfl).stx (M7.get 0 rfl).stx).mono ?_
  rintro e w8 ⟨rfl, g8⟩
  have zz8 := g8.size
  try simp only [World.size_alloc] at zz8
  have M8 := M7.below g8
  clear g8 M7
  go_wp2_with fail
  refine (markStringS_O _ _ l0 _ z0 1 _ (by omega) (by omega) (M8.get 2 rfl)).mono ?_
  rintro e w9 ⟨rfl, _, ho⟩
  have zz9 := ho.size
  have M9 : Mm w w9 [(w5.heap.size, 0, .int .i64 (asmC z0)), (w5.heap.size, 1, .slice ra rn rc), (w3.heap.size, 0, .int .i64 (asmC z0)), (w3.heap.size, 1, .slice va vn vc)] [(w4.heap.size, w5.heap.size, OS (InR (w4.heap.size) (w5.heap.size)) ra rn (asmL z0)), (w2.heap.size, w3.heap.size, OS (InR (w2.heap.size) (w3.heap.size)) va vn (asmL z0))] := (M8.sub (by simp) (by simp)).out ho (by omega) (by simp <;> omega) (by simp <;> omega)
  clear ho M8
  have hlt1 : decide ((1 : Int) + (l0 : Int) < 0) = false := by simp; omega
  have q0 := M9.cell 0 rfl
  have q1 := M9.cell 1 rfl
  have q2 := M9.cell 2 rfl
  have q3 := M9.cell 3 rfl
  go_wp2_with fail
  refine (eqNR_O (asmC z0) _ _ _ _ _ _ (asmL z0) _ (M9.get 0 rfl).2.1 (M9.get 0 rfl).sl (M9.get 1 rfl).sl).mono ?_
  rintro e w10 ⟨rfl, g10⟩
  have zz10 := g10.size
  have M10 := M9.below g10
  clear g10 M9 q0 q1 q2 q3
  have q0 := M10.cell 0 rfl
  have q1 := M10.cell 1 rfl
  go_wp2_with fail
  refine (markNR_O _ _ _ _ _ _ 1 _ (by omega) (by omega) (M10.get 0 rfl)).mono ?_
  rintro e w11 ⟨rfl, om, ho⟩
  have zz11 := ho.size
  have M11a : Mm w w11 [(w5.heap.size, 0, .int .i64 (asmC z0)), (w5.heap.size, 1, .slice ra rn rc), (w3.heap.size, 0, .int .i64 (asmC z0)), (w3.heap.size, 1, .slice va vn vc)] [(w2.heap.size, w3.heap.size, OS (InR (w2.heap.size) (w3.heap.size)) va vn (asmL z0))] := (M10.sub (by simp) (by simp)).out ho (by omega) (by simp <;> omega) (by simp <;> omega)
  have M11 := M11a.fact OS.loc om
  clear ho om M10 M11a q0 q1
  have q0 := M11.cell 0 rfl
  have q1 := M11.cell 1 rfl
  go_wp2_with fail
  refine (heldNR_O _ _ _ _ _ _ (M11.get 0 rfl)).mono ?_
  rintro e w12 ⟨rfl, g12⟩
  have zz12 := g12.size
  have M12 := M11.below g12
  clear g12 M11 q0 q1
  have hlt2 : decide ((1 : Int) + (rn : Int) < 0) = false := by simp; omega
  go_wp2_with fail
  refine (toStringS_O a0 l0 c0 z0 _ (by omega) (hs0.below M12.bel (Nat.le_refl _))).mono ?_
  rintro e w13 ⟨b_t, rfl, ot, g13⟩
  have zz13 := g13.size
  try simp only [World.size_alloc] at ot zz13
  have M13 := (M12.below g13).fact OSt.loc ot
  clear g13 M12 ot
  go_wp2_with fail
  refine (implAssemble_calls _ _ _ z0 _ (M13.get 0 rfl).sts (M13.get 0 rfl).hz (by omega) (hkw.below M13.bel)).mono ?_
  rintro e w14 ⟨ka, kn, kc, rfl, ok, g14⟩
  have zz14 := g14.size
  try simp only [World.size_alloc] at ok zz14
  have M14 := ((M13.below g14).fact OS.loc ok).alloc2 (.int .i64 (asmC z0)) (.slice ka kn kc) 42
  clear g14 M13 ok
  have q0 := M14.cell 0 rfl
  have q1 := M14.cell 1 rfl
  have q2 := M14.cell 4 rfl
  have q3 := M14.cell 5 rfl
  go_wp2_with fail
  refine (eqNR_O (asmC z0) _ _ _ _ _ _ (asmL z0) _ (M14.get 0 rfl).2.1 (M14.get 0 rfl).sl (M14.get 3 rfl).sl).mono ?_
  rintro e w15 ⟨rfl, g15⟩
  have M15 := M14.below g15
  clear g15 M14 q0 q1 q2 q3
  have q0 := M15.cell 2 rfl
  have q1 := M15.cell 3 rfl
  go_wp2_with fail
  refine (heldNR_O _ _ _ _ _ _ (M15.get 2 rfl)).mono ?_
  rintro e w16 ⟨rfl, g16⟩
  have zz16 := g16.size
  have M16 := M15.below g16
  clear g16 M15 q0 q1
  have HB := hide M16.bel
  clear M16
  go_wp2
  go_ret
  exact ⟨rfl, HB.out⟩

theorem walk_Assemble (a0 : Option Addr) (l0 c0 : Nat) (z0 : List ByteArray) (w : World) (hm0 : l0 ≤ maxLen) (hb0 : ∀ j, j < l0 → (z0.getD j ⟨#[]⟩).size ≤ maxLen) (hs0 : Stx w a0 l0 z0) (hkw : Kw w) :
    Calls Tryd.prog 5 #[.slice a0 l0 c0] w fun e w' => e = .returned (.bool true) ∧ Below w.heap.size w w' := by
  by_cases hz0 : (l0 + sumB z0) ≤ 1048576
  rotate_left
  · exact law_big0_Assemble a0 l0 c0 z0 w hm0 hb0 hs0 (by omega)
  exact law_small_Assemble a0 l0 c0 z0 w hm0 hb0 hs0 hkw hz0

end Go.Proofs.YtpgpoeljbppggaaDoor
