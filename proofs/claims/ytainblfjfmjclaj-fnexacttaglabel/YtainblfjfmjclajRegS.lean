import Derived.Test.YtainblfjfmjclajRegP2
import Derived.WalkKit
import Derived.ProofKit
import Derived.OpenShut
import Derived.ShutString
import Derived.ChangeOld
import Derived.Below
import Derived.WalkSpells
import Derived.Deep.QuietTactic
import Derived.BigQuiet
import Derived.Deep.RegionWith
import Derived.Deep.WholeRow
import Derived.Deep.DeepCutAuto
import Derived.Deep.RegionHeld2
import Derived.Deep.AppendLies
import Derived.Deep.RegionLaw
namespace Go.Proofs.Ytainblfjfmjclaj
open Go.ChangeShapes Go.WideShapes Go.ChangeAt Go.RowKit

/-- the first slot that is meant and has the label; -1: none. -/
def hit (ss : List (Int × List Int)) (zs : List Int) (i : Nat) : Bool := decide (0 < gc ss i) && decide (gl ss i = zs)

def at2 (ss : List (Int × List Int)) (zs : List Int) : Int :=
  match (List.range ss.length).find? (hit ss zs) with
  | some i => (i : Int)
  | none => -1

theorem find_first {p : Nat → Bool} {n k : Nat} (hk : k < n) (hno : ∀ j, j < k → p j = false) (hp : p k = true) : (List.range n).find? p = some k := by
  rw [List.find?_range_eq_some]
  exact ⟨hp, by simpa using hk, fun j hj => by simp [hno j hj]⟩

theorem at2_hit {ss : List (Int × List Int)} {zs : List Int} {k : Nat} (hk : k < ss.length) (hno : ∀ j, j < k → hit ss zs j = false) (hp : hit ss zs k = true) : at2 ss zs = (k : Int) := by
  unfold at2
  rw [find_first hk hno hp]

theorem at2_none {ss : List (Int × List Int)} {zs : List Int} (hno : ∀ j, j < ss.length → hit ss zs j = false) : at2 ss zs = -1 := by
  unfold at2
  have : (List.range ss.length).find? (hit ss zs) = none := by
    rw [List.find?_eq_none]
    intro j hj
    simp [hno j (List.mem_range.1 hj)]
  rw [this]

/-- what is wrong with slot i. -/
def slotF (ss : List (Int × List Int)) (i : Nat) : Int :=
  if (decide (0 ≤ gc ss i) && decide (gc ss i ≤ 99)) = false then 3
  else if gc ss i = 0 then (if 0 < (gl ss i).length then 1 else 0)
  else if fault (gl ss i) = 0 then (if at2 ss (gl ss i) = (i : Int) then 0 else 8)
  else fault (gl ss i)

def faultR (ss : List (Int × List Int)) : Int :=
  if 10 < ss.length then 2
  else match (List.range ss.length).find? (fun i => !(slotF ss i == 0)) with
    | some i => slotF ss i
    | none => 0

theorem faultR_many {ss : List (Int × List Int)} (h : 10 < ss.length) : faultR ss = 2 := if_pos h

theorem faultR_hit {ss : List (Int × List Int)} {k : Nat} (h : ss.length ≤ 10) (hk : k < ss.length) (hno : ∀ j, j < k → slotF ss j = 0) (hp : slotF ss k ≠ 0) : faultR ss = slotF ss k := by
  unfold faultR
  rw [if_neg (by omega), find_first hk (fun j hj => by simp [hno j hj]) (by simpa using hp)]

theorem faultR_ok {ss : List (Int × List Int)} (h : ss.length ≤ 10) (hno : ∀ j, j < ss.length → slotF ss j = 0) : faultR ss = 0 := by
  unfold faultR
  rw [if_neg (by omega)]
  have : (List.range ss.length).find? (fun i => !(slotF ss i == 0)) = none := by
    rw [List.find?_eq_none]
    intro j hj
    simp [hno j (List.mem_range.1 hj)]
  rw [this]

theorem slotF_range {ss : List (Int × List Int)} {i : Nat} (h : (decide (0 ≤ gc ss i) && decide (gc ss i ≤ 99)) = false) : slotF ss i = 3 := if_pos h

theorem slotF_form {ss : List (Int × List Int)} {i : Nat} (h0 : gc ss i = 0) (h : 0 < (gl ss i).length) : slotF ss i = 1 := by
  unfold slotF
  rw [if_neg (by rw [h0]; simp), if_pos h0, if_pos h]

theorem slotF_empty {ss : List (Int × List Int)} {i : Nat} (h0 : gc ss i = 0) (h : (gl ss i).length = 0) : slotF ss i = 0 := by
  unfold slotF
  rw [if_neg (by rw [h0]; simp), if_pos h0, if_neg (by omega)]

theorem slotF_label {ss : List (Int × List Int)} {i : Nat} (h : (decide (0 ≤ gc ss i) && decide (gc ss i ≤ 99)) = true) (h0 : gc ss i ≠ 0) (hf : fault (gl ss i) ≠ 0) : slotF ss i = fault (gl ss i) := by
  unfold slotF
  rw [if_neg (by rw [h]; simp), if_neg h0, if_neg hf]

theorem slotF_state {ss : List (Int × List Int)} {i : Nat} (h : (decide (0 ≤ gc ss i) && decide (gc ss i ≤ 99)) = true) (h0 : gc ss i ≠ 0) (hf : fault (gl ss i) = 0) (ha : at2 ss (gl ss i) ≠ (i : Int)) : slotF ss i = 8 := by
  unfold slotF
  rw [if_neg (by rw [h]; simp), if_neg h0, if_pos hf, if_neg ha]

theorem slotF_ok {ss : List (Int × List Int)} {i : Nat} (h : (decide (0 ≤ gc ss i) && decide (gc ss i ≤ 99)) = true) (h0 : gc ss i ≠ 0) (hf : fault (gl ss i) = 0) (ha : at2 ss (gl ss i) = (i : Int)) : slotF ss i = 0 := by
  unfold slotF
  rw [if_neg (by rw [h]; simp), if_neg h0, if_pos hf, if_pos ha]

end Go.Proofs.Ytainblfjfmjclaj
