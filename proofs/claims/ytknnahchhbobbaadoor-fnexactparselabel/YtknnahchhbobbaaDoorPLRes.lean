import Derived.Test.YtknnahchhbobbaaDoorSep
import Derived.Test.YtknnahchhbobbaaDoorBase
import Derived.WalkKit
import Derived.ProofKit
import Derived.OpenShut
import Derived.ShutString
import Derived.ChangeOld
import Derived.Below
import Derived.WalkSpells
import Derived.Deep.QuietTactic
import Derived.BigQuiet
import Derived.Deep.RegionWith
import Derived.Deep.WholeRow
import Derived.Deep.DeepCutAuto
import Derived.Deep.RegionHeld2
import Derived.Deep.AppendLies
import Derived.Deep.RegionLaw
namespace Go.Proofs.YtknnahchhbobbaaDoor
open Go.ChangeShapes Go.WideShapes Go.ChangeAt Go.RowKit

/-- marks k, k+1, .. -/
def marksFrom (k : Int) (n : Nat) : List Int := (List.range n).map (fun j : Nat => k + (j : Int))

theorem length_marksFrom (k : Int) (n : Nat) : (marksFrom k n).length = n := by simp [marksFrom]

theorem gt_marksFrom (k : Int) (n j : Nat) (h : j < n) : gt (marksFrom k n) j = k + j := by simp [marksFrom, gt, h]

/-- a row that is being marked: the first k hold marks, all n are there. -/
def MRow (w : World) (b n k : Nat) (m : Int) : Prop :=
  b < w.heap.size ∧ (∀ j, j < k → w.cell? ⟨b, j, none⟩ = some (.int .i64 (m + j))) ∧ (∀ j, j < n → ∃ v, w.cell? ⟨b, j, none⟩ = some v) ∧ ∀ j, w.frozen? ⟨b, j, none⟩ = false

theorem MRow.start {w : World} {b : Nat} {rs : List Int} {m : Int} (h : Blk w b rs) : MRow w b rs.length 0 m := ⟨h.1, fun j hj => by omega, fun j hj => ⟨_, h.2.1 j hj⟩, h.2.2⟩

theorem MRow.store {w : World} {b n k : Nat} {m : Int} (h : MRow w b n k m) (hk : k < n) : MRow (w.setCell ⟨b, k, none⟩ (.int .i64 (m + k))) b n (k + 1) m := by
  obtain ⟨h1, h2, h3, h4⟩ := h
  obtain ⟨v, hv⟩ := h3 k hk
  refine ⟨by simpa using h1, fun j hj => ?_, fun j hj => ?_, fun j => by simpa using h4 j⟩
  · by_cases e : j = k
    · subst e; exact World.cell?_setCell_same _ _ _ hv
    · rw [World.cell?_setCell_other _ _ _ _ (fun h => e (by injection h with _ h2; exact h2.symm))]; exact h2 j (by omega)
  · exact cell?_setCell_some (h3 j hj).choose_spec

theorem MRow.done {w : World} {b n : Nat} {m : Int} (h : MRow w b n n m) : Blk w b (marksFrom m n) :=
  ⟨h.1, fun j hj => by rw [length_marksFrom] at hj; rw [gt_marksFrom m n j hj]; exact h.2.1 j hj, h.2.2.2⟩

set_option maxRecDepth 100000 in
theorem eqLabelResult_calls (c : Int) (a b : Option Addr) (n ca cb : Nat) (rs : List Int) (w : World) (hn : n ≤ maxLen) (hx : Sl w a n rs) (hy : Sl w b n rs) :
    Calls Tryd.prog 19 #[.agg #[.int .i64 c, .slice a n ca], .agg #[.int .i64 c, .slice b n cb]] w fun e w' => e = .returned (.bool true) ∧ Below w.heap.size w w' := by
  have hb0 := fun o1 o2 => ((Below.refl w.heap.size w).alloc (Nat.le_refl _) o1).alloc (by simp) o2
  go_enter Tryd.func19, Tryd.ntmps19
  go_wp2_with fail
  refine (eqLabel_calls a b n ca n cb rs rs _ hn hn (hx.below (hb0 _ _) (Nat.le_refl _)) (hy.below (hb0 _ _) (Nat.le_refl _))).mono ?_
  rintro e w1 ⟨rfl, hb⟩
  rw [decide_eq_true rfl]
  go_wp2
  go_ret
  exact ⟨rfl, (hb0 _ _).trans (hb.mono (by simp; omega))⟩

set_option maxRecDepth 100000 in
theorem heldInt64S_calls (a : Option Addr) (n cap : Nat) (m : Int) (w : World) (hm0 : 0 ≤ m) (hm : m ≤ 4194304) (hn : n ≤ 1048576) (hs : Sl w a n (marksFrom m n)) :
    Calls Tryd.prog 43 #[.slice a n cap, .int .i64 m] w fun e w' => e = .returned (.int .i64 (m + n)) ∧ Below w.heap.size w w' := by
  obtain ⟨_, hs⟩ := hs
  go_enter Tryd.func43, Tryd.ntmps43
  go_wp2
  go_loopw [1, 5] (fun q i wr => ∃ k : Nat, k ≤ n ∧ q = .int .i64 (m + k) ∧ i = .int .i64 k ∧ Below w.heap.size w wr) (fun _ i _ => n - (intOf i).toNat)
  case atStart => exact ⟨0, Nat.zero_le _, by simp, rfl, Below.refl _ _⟩
  case round =>
    obtain ⟨k, hk, rfl, rfl, hbel⟩ := hrel
    by_cases hlt : k < n
    · obtain ⟨b, off, rfl, hb, hc⟩ := hs (by omega)
      have hck := (hbel.cell (p := ⟨b, off + k, none⟩) hb).trans (hc k hlt)
      rw [gt_marksFrom m n k hlt] at hck
      go_wp2
      go_roundw
      case rel => exact ⟨k + 1, by omega, by go_num, by go_num, hbel⟩
      case measure => simp [intOf]; omega
    · have e : k = n := by omega
      subst e
      go_wp2
      go_ret
      exact ⟨rfl, hbel⟩

set_option maxRecDepth 100000 in
theorem heldLabel_calls (a : Option Addr) (n cap : Nat) (m : Int) (w : World) (hm0 : 0 ≤ m) (hm : m ≤ 4194304) (hn : n ≤ 1048576) (hs : Sl w a n (marksFrom m n)) :
    Calls Tryd.prog 37 #[.agg #[.slice a n cap], .int .i64 m] w fun e w' => e = .returned (.int .i64 (m + n)) ∧ Below w.heap.size w w' := by
  have hp : ¬ (m + n < 0) := by omega
  go_enter Tryd.func37, Tryd.ntmps37
  go_wp2_with fail
  refine (heldInt64S_calls a n cap m _ hm0 hm hn (hs.below ((Below.refl _ _).alloc (Nat.le_refl _) _) (Nat.le_refl _))).mono ?_
  rintro e w1 ⟨rfl, hb⟩
  go_wp2
  go_ret
  exact ⟨rfl, ((Below.refl _ _).alloc (Nat.le_refl _) _).trans (hb.mono (by simp))⟩

set_option maxRecDepth 100000 in
theorem heldLabelResult_calls (c : Int) (a : Option Addr) (n cap : Nat) (m : Int) (w : World) (hm0 : 0 ≤ m) (hm : m ≤ 4194304) (hn : n ≤ 1048576) (hs : Sl w a n (marksFrom m n)) :
    Calls Tryd.prog 21 #[.agg #[.int .i64 c, .slice a n cap], .int .i64 m] w fun e w' => e = .returned (.int .i64 (m + n)) ∧ Below w.heap.size w w' := by
  have hp : ¬ (m + n < 0) := by omega
  go_enter Tryd.func21, Tryd.ntmps21
  go_wp2_with fail
  refine (heldLabel_calls a n cap m _ hm0 hm hn (hs.below ((Below.refl _ _).alloc (Nat.le_refl _) _) (Nat.le_refl _))).mono ?_
  rintro e w1 ⟨rfl, hb⟩
  go_wp2
  go_ret
  exact ⟨rfl, ((Below.refl _ _).alloc (Nat.le_refl _) _).trans (hb.mono (by simp))⟩

set_option maxRecDepth 100000 in
theorem markInt64S_O (S : Nat → Prop) (a : Option Addr) (n cap : Nat) (rs : List Int) (m : Int) (w : World) (hm0 : 0 ≤ m) (hm : m ≤ 4194304) (hs : OS S a n rs w) :
    Calls Tryd.prog 42 #[.slice a n cap, .int .i64 m] w fun e w' => e = .returned (.int .i64 (m + n)) ∧ OS S a n (marksFrom m n) w' ∧ OutS S w w' := by
  obtain ⟨hlen, hn, hs⟩ := hs
  rcases hs with rfl | ⟨b, rfl, hB, blk⟩
  · go_enter Tryd.func42, Tryd.ntmps42
    go_wp2
    go_loop [1, 5] (fun k i => k = .int .i64 m ∧ i = .int .i64 0) (fun _ _ => 0)
    case atStart => exact ⟨rfl, rfl⟩
    case round =>
      obtain ⟨rfl, rfl⟩ := hrel
      go_wp2
      go_ret
      exact ⟨ret_int (by simp), ⟨length_marksFrom _ _, by omega, (.inl rfl)⟩, OutS.refl _ _⟩
  · subst hlen
    go_enter Tryd.func42, Tryd.ntmps42
    go_wp2
    go_loopw [1, 5] (fun q i wr => ∃ k : Nat, k ≤ rs.length ∧ q = .int .i64 (m + k) ∧ i = .int .i64 k ∧ MRow wr b rs.length k m ∧ OutS S w wr) (fun _ i _ => rs.length - (intOf i).toNat)
    case atStart => exact ⟨0, Nat.zero_le _, by simp, rfl, MRow.start blk, OutS.refl _ _⟩
    case round =>
      obtain ⟨k, hk, rfl, rfl, hrow, hbut⟩ := hrel
      by_cases hlt : k < rs.length
      · obtain ⟨v, hv⟩ := hrow.2.2.1 k hlt
        have hfz := hrow.2.2.2 k
        go_wp2
        go_roundw
        case rel => exact ⟨k + 1, by omega, by go_num, by go_num, hrow.store hlt, hbut.setCell hB _⟩
        case measure => simp [intOf]; omega
      · have e : k = rs.length := by omega
        subst e
        go_wp2
        go_ret
        exact ⟨rfl, ⟨length_marksFrom _ _, hn, .inr ⟨b, rfl, hB, hrow.done⟩⟩, hbut⟩

theorem eqLR_O (c : Int) (a b : Option Addr) (n m ca cb : Nat) (zs : List Int) (w : World) (hn : n ≤ 1048576) (hx : Sl w a n zs) (hy : Sl w b m zs) :
    Calls Tryd.prog 19 #[.agg #[.int .i64 c, .slice a n ca], .agg #[.int .i64 c, .slice b m cb]] w fun e w' => e = .returned (.bool true) ∧ Below w.heap.size w w' := by
  obtain rfl : m = n := by have := hx.1; have := hy.1; omega
  exact eqLabelResult_calls c a b m ca cb zs w (by unfold maxLen; omega) hx hy

set_option maxRecDepth 100000 in
theorem markLabel_O (S : Nat → Prop) (a : Option Addr) (n cap : Nat) (rs : List Int) (m : Int) (w : World) (hm0 : 0 ≤ m) (hm : m ≤ 4194304) (hs : OS S a n rs w) :
    Calls Tryd.prog 36 #[.agg #[.slice a n cap], .int .i64 m] w fun e w' => e = .returned (.int .i64 (m + n)) ∧ OS S a n (marksFrom m n) w' ∧ OutS S w w' := by
  go_enter Tryd.func36, Tryd.ntmps36
  go_wp2_with fail
  refine (markInt64S_O S a n cap rs m _ hm0 hm (OS.loc.below ((Below.refl _ _).alloc (Nat.le_refl _) _) hs)).mono ?_
  rintro e w1 ⟨rfl, h1, h2⟩
  go_wp2
  go_ret
  exact ⟨rfl, h1, (OutS.of_below ((Below.refl _ _).alloc (Nat.le_refl _) _)).trans h2⟩

set_option maxRecDepth 100000 in
theorem markLR_O (S : Nat → Prop) (c : Int) (a : Option Addr) (n cap : Nat) (rs : List Int) (m : Int) (w : World) (hm0 : 0 ≤ m) (hm : m ≤ 4194304) (hs : OS S a n rs w) :
    Calls Tryd.prog 20 #[.agg #[.int .i64 c, .slice a n cap], .int .i64 m] w fun e w' => e = .returned (.int .i64 (m + n)) ∧ OS S a n (marksFrom m n) w' ∧ OutS S w w' := by
  go_enter Tryd.func20, Tryd.ntmps20
  go_wp2_with fail
  refine (markLabel_O S a n cap rs m _ hm0 hm (OS.loc.below ((Below.refl _ _).alloc (Nat.le_refl _) _) hs)).mono ?_
  rintro e w1 ⟨rfl, h1, h2⟩
  go_wp2
  go_ret
  exact ⟨rfl, h1, (OutS.of_below ((Below.refl _ _).alloc (Nat.le_refl _) _)).trans h2⟩

theorem heldLR_O (c : Int) (S : Nat → Prop) (a : Option Addr) (n cap : Nat) (w : World) (hs : OS S a n (marksFrom 1 n) w) :
    Calls Tryd.prog 21 #[.agg #[.int .i64 c, .slice a n cap], .int .i64 1] w fun e w' => e = .returned (.int .i64 (1 + n)) ∧ Below w.heap.size w w' :=
  heldLabelResult_calls c a n cap 1 w (by omega) (by omega) hs.2.1 hs.sl

end Go.Proofs.YtknnahchhbobbaaDoor
