import Derived.Test.YtnlkigjgloeonaaGreatLnT
import Derived.WalkKit
import Derived.ProofKit
import Derived.OpenShut
import Derived.ShutString
import Derived.ChangeOld
import Derived.Below
import Derived.WalkSpells
import Derived.Deep.QuietTactic
import Derived.BigQuiet
import Derived.Deep.RegionWith
import Derived.Deep.WholeRow
import Derived.Deep.DeepCutAuto
import Derived.Deep.RegionHeld2
import Derived.Deep.AppendLies
import Derived.Deep.RegionLaw
namespace Go.Proofs.YtnlkigjgloeonaaGreat
open Go.ChangeShapes Go.WideShapes Go.ChangeAt Go.RowKit

def okL (x : Int × Int × Int) : Bool := decide (0 ≤ x.1) && decide (x.1 ≤ 3) && (decide (0 ≤ x.2.1) && decide (x.2.1 ≤ 6)) && (decide (0 ≤ x.2.2) && decide (x.2.2 ≤ 7))

def hitL (d t : Int) (x : Int × Int × Int) : Bool := decide (x.1 = d) && decide (x.2.1 = t)

/-- the place of the first line of d and t; -1: none. -/
def atK (ls : List (Int × Int × Int)) (d t : Int) : Int :=
  match (List.range ls.length).find? (fun i => hitL d t (g3 ls i)) with
  | some i => (i : Int)
  | none => -1

theorem findL {p : Nat → Bool} {n k : Nat} (hk : k < n) (hno : ∀ j, j < k → p j = false) (hp : p k = true) : (List.range n).find? p = some k := by
  rw [List.find?_range_eq_some]
  exact ⟨hp, by simpa using hk, fun j hj => by simp [hno j hj]⟩

theorem findN {p : Nat → Bool} {n : Nat} (hno : ∀ j, j < n → p j = false) : (List.range n).find? p = none := by
  rw [List.find?_eq_none]
  intro j hj
  simp [hno j (List.mem_range.1 hj)]

theorem atK_hit {ls : List (Int × Int × Int)} {d t : Int} {k : Nat} (hk : k < ls.length) (hno : ∀ j, j < k → hitL d t (g3 ls j) = false) (hp : hitL d t (g3 ls k) = true) : atK ls d t = (k : Int) := by
  unfold atK
  rw [findL hk hno hp]

theorem atK_none {ls : List (Int × Int × Int)} {d t : Int} (hno : ∀ j, j < ls.length → hitL d t (g3 ls j) = false) : atK ls d t = -1 := by
  unfold atK
  rw [findN hno]

/-- the first k lines are not of d and t, or one of them is. -/
theorem hit_or (ls : List (Int × Int × Int)) (d t : Int) : ∀ k : Nat, (∀ j, j < k → hitL d t (g3 ls j) = false) ∨ ∃ i, i < k ∧ (∀ j, j < i → hitL d t (g3 ls j) = false) ∧ hitL d t (g3 ls i) = true
  | 0 => .inl (fun j hj => by omega)
  | k + 1 => by
    rcases hit_or ls d t k with h | ⟨i, h1, h2, h3⟩
    · by_cases e : hitL d t (g3 ls k) = true
      · exact .inr ⟨k, by omega, h, e⟩
      · refine .inl (fun j hj => ?_)
        by_cases e2 : j = k
        · subst e2; simpa using e
        · exact h j (by omega)
    · exact .inr ⟨i, by omega, h2, h3⟩

theorem atK_lt (ls : List (Int × Int × Int)) (d t : Int) : -1 ≤ atK ls d t ∧ atK ls d t < ls.length := by
  rcases hit_or ls d t ls.length with h | ⟨i, h1, h2, h3⟩
  · rw [atK_none h]; omega
  · rw [atK_hit h1 h2 h3]; omega

theorem hitL_self (x : Int × Int × Int) : hitL x.1 x.2.1 x = true := by simp [hitL]

/-- ahead of line k none is of its domain and tag, just where it is the first of them. -/
theorem atK_take {ls : List (Int × Int × Int)} {k : Nat} (hk : k < ls.length) : (atK (ls.take k) (g3 ls k).1 (g3 ls k).2.1 < 0) ↔ atK ls (g3 ls k).1 (g3 ls k).2.1 = (k : Int) := by
  rcases hit_or ls (g3 ls k).1 (g3 ls k).2.1 k with h | ⟨i, h1, h2, h3⟩
  · have e1 : atK (ls.take k) (g3 ls k).1 (g3 ls k).2.1 = -1 := atK_none (fun j hj => by rw [List.length_take] at hj; rw [g3_take ls (by omega)]; exact h j (by omega))
    have e2 : atK ls (g3 ls k).1 (g3 ls k).2.1 = (k : Int) := atK_hit hk h (hitL_self _)
    rw [e1, e2]; omega
  · have e1 : atK (ls.take k) (g3 ls k).1 (g3 ls k).2.1 = (i : Int) := atK_hit (by rw [List.length_take]; omega) (fun j hj => by rw [g3_take ls (by omega)]; exact h2 j hj) (by rw [g3_take ls h1]; exact h3)
    have e2 : atK ls (g3 ls k).1 (g3 ls k).2.1 = (i : Int) := atK_hit (by omega) h2 h3
    rw [e1, e2]; omega

/-- what is wrong with line i. -/
def lineF (ls : List (Int × Int × Int)) (i : Nat) : Int :=
  if okL (g3 ls i) = false then 3 else if atK ls (g3 ls i).1 (g3 ls i).2.1 = (i : Int) then 0 else 8

theorem lineF_range {ls : List (Int × Int × Int)} {i : Nat} (h : okL (g3 ls i) = false) : lineF ls i = 3 := if_pos h

theorem lineF_state {ls : List (Int × Int × Int)} {i : Nat} (h : okL (g3 ls i) = true) (h2 : atK ls (g3 ls i).1 (g3 ls i).2.1 ≠ (i : Int)) : lineF ls i = 8 := by
  unfold lineF
  rw [if_neg (by rw [h]; simp), if_neg h2]

theorem lineF_ok {ls : List (Int × Int × Int)} {i : Nat} (h : okL (g3 ls i) = true) (h2 : atK ls (g3 ls i).1 (g3 ls i).2.1 = (i : Int)) : lineF ls i = 0 := by
  unfold lineF
  rw [if_neg (by rw [h]; simp), if_pos h2]

def faultC (s : Int) (ls : List (Int × Int × Int)) : Int :=
  if (decide (0 ≤ s) && decide (s ≤ 6)) = false then 3
  else if s < (ls.length : Int) then 2
  else match (List.range ls.length).find? (fun i => !(lineF ls i == 0)) with
    | some i => lineF ls i
    | none => 0

theorem faultC_size {s : Int} {ls : List (Int × Int × Int)} (h : (decide (0 ≤ s) && decide (s ≤ 6)) = false) : faultC s ls = 3 := if_pos h

theorem faultC_many {s : Int} {ls : List (Int × Int × Int)} (h : (decide (0 ≤ s) && decide (s ≤ 6)) = true) (h2 : s < (ls.length : Int)) : faultC s ls = 2 := by
  unfold faultC
  rw [if_neg (by rw [h]; simp), if_pos h2]

theorem faultC_hit {s : Int} {ls : List (Int × Int × Int)} {k : Nat} (h : (decide (0 ≤ s) && decide (s ≤ 6)) = true) (h2 : ¬ s < (ls.length : Int)) (hk : k < ls.length) (hno : ∀ j, j < k → lineF ls j = 0) (hp : lineF ls k ≠ 0) : faultC s ls = lineF ls k := by
  unfold faultC
  rw [if_neg (by rw [h]; simp), if_neg h2, findL hk (fun j hj => by simp [hno j hj]) (by simpa using hp)]

theorem faultC_ok {s : Int} {ls : List (Int × Int × Int)} (h : (decide (0 ≤ s) && decide (s ≤ 6)) = true) (h2 : ¬ s < (ls.length : Int)) (hno : ∀ j, j < ls.length → lineF ls j = 0) : faultC s ls = 0 := by
  unfold faultC
  rw [if_neg (by rw [h]; simp), if_neg h2, findN (fun j hj => by simp [hno j hj])]

theorem faultC_inv {s : Int} {ls : List (Int × Int × Int)} (h : faultC s ls = 0) : 0 ≤ s ∧ s ≤ 6 ∧ (ls.length : Int) ≤ s ∧ ∀ j, j < ls.length → okL (g3 ls j) = true ∧ atK ls (g3 ls j).1 (g3 ls j).2.1 = (j : Int) := by
  by_cases h1 : (decide (0 ≤ s) && decide (s ≤ 6)) = true
  · by_cases h2 : s < (ls.length : Int)
    · rw [faultC_many h1 h2] at h; omega
    · have hb : 0 ≤ s ∧ s ≤ 6 := by simpa using h1
      refine ⟨hb.1, hb.2, by omega, ?_⟩
      have hall : ∀ j, j < ls.length → lineF ls j = 0 := by
        unfold faultC at h
        rw [if_neg (by rw [h1]; simp), if_neg h2] at h
        intro j hj
        cases hf : (List.range ls.length).find? (fun i => !(lineF ls i == 0)) with
        | none =>
          rw [List.find?_eq_none] at hf
          have := hf j (List.mem_range.2 hj)
          simpa using this
        | some i =>
          rw [hf] at h
          have := List.find?_some hf
          simp at this
          exact absurd h this
      intro j hj
      have h3 := hall j hj
      unfold lineF at h3
      by_cases e1 : okL (g3 ls j) = false
      · rw [if_pos e1] at h3; omega
      · rw [if_neg e1] at h3
        by_cases e2 : atK ls (g3 ls j).1 (g3 ls j).2.1 = (j : Int)
        · exact ⟨by simpa using e1, e2⟩
        · rw [if_neg e2] at h3; omega
  · rw [faultC_size (by simpa using h1)] at h; omega

/-- the code of what is wrong up to line k is that of all. -/
theorem faultC_at {s : Int} {ls : List (Int × Int × Int)} {k : Nat} {c : Int} (h : (decide (0 ≤ s) && decide (s ≤ 6)) = true) (h2 : ¬ s < (ls.length : Int)) (hk : k < ls.length) (hno : ∀ j, j < k → lineF ls j = 0) (hc : lineF ls k = c) (h0 : c ≠ 0) : faultC s ls = c := by
  rw [faultC_hit h h2 hk hno (by rw [hc]; exact h0), hc]

end Go.Proofs.YtnlkigjgloeonaaGreat
