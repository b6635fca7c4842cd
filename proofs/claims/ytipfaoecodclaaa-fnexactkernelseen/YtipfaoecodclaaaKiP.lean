import Derived.Test.YtipfaoecodclaaaKfP
import Derived.Test.YtipfaoecodclaaaKgP
import Derived.WalkKit
import Derived.ProofKit
import Derived.OpenShut
import Derived.ShutString
import Derived.ChangeOld
import Derived.Below
import Derived.WalkSpells
import Derived.Deep.QuietTactic
import Derived.BigQuiet
import Derived.Deep.RegionWith
import Derived.Deep.WholeRow
import Derived.Deep.DeepCutAuto
import Derived.Deep.RegionHeld2
import Derived.Deep.AppendLies
import Derived.Deep.RegionLaw
namespace Go.Proofs.Ytipfaoecodclaaa
open Go.ChangeShapes Go.WideShapes Go.ChangeAt Go.RowKit

/-- the objects that are in a box, of the first k. -/
def kidX (f : Nat → OB) (p : Int) : Nat → List OB
  | 0 => []
  | k + 1 => kidX f p k ++ (if (f k).1 = p then [f k] else [])

theorem kidX_y {f : Nat → OB} {p : Int} {k : Nat} (h : (f k).1 = p) : kidX f p (k + 1) = kidX f p k ++ [f k] := by
  show kidX f p k ++ (if (f k).1 = p then [f k] else []) = _
  rw [if_pos h]
theorem kidX_n {f : Nat → OB} {p : Int} {k : Nat} (h : (f k).1 ≠ p) : kidX f p (k + 1) = kidX f p k := by
  show kidX f p k ++ (if (f k).1 = p then [f k] else []) = _
  rw [if_neg h, List.append_nil]
theorem kidX_le (f : Nat → OB) (p : Int) (k : Nat) : (kidX f p k).length ≤ k := by
  induction k with
  | zero => simp [kidX]
  | succ k ih =>
    unfold kidX
    split <;> simp <;> omega

/-- the quotas of the first k. -/
def qS (f : Nat → OB) : Nat → Int
  | 0 => 0
  | k + 1 => qS f k + (f k).2.2.2.2.1

theorem qS_congr {f g : Nat → OB} {k : Nat} (h : ∀ j, j < k → f j = g j) : qS f k = qS g k := by
  induction k with
  | zero => rfl
  | succ k ih => unfold qS; rw [ih (fun j hj => h j (by omega)), h k (by omega)]

theorem gO_left {xs ys : List OB} {j : Nat} (h : j < xs.length) : gO (xs ++ ys) j = gO xs j := by
  unfold gO
  rw [List.getD_eq_getElem?_getD, List.getD_eq_getElem?_getD, List.getElem?_append_left h]
theorem gO_last (xs : List OB) (x : OB) : gO (xs ++ [x]) xs.length = x := by simp [gO]

theorem kidX_used {f : Nat → OB} {p : Int} (h0 : (f 0).1 ≠ p) (k : Nat) : qS (gO (kidX f p k)) (kidX f p k).length = usedO f p k := by
  induction k with
  | zero => rfl
  | succ k ih =>
    unfold usedO
    by_cases h : (f k).1 = p
    · have hk : 1 ≤ k := by
        rcases Nat.eq_zero_or_pos k with e | e
        · subst e; exact absurd h h0
        · exact e
      rw [kidX_y h, if_pos ⟨hk, h⟩, List.length_append, ← ih]
      show qS (gO (kidX f p k ++ [f k])) ((kidX f p k).length + 1) = _
      unfold qS
      rw [gO_last, qS_congr (g := gO (kidX f p k)) (fun j hj => gO_left hj)]
      cases (kidX f p k).length <;> rfl
    · rw [kidX_n h, if_neg (fun e => h e.2), ih]; omega

theorem kidX_kid {f : Nat → OB} {p : Int} (h0 : (f 0).1 ≠ p) (k : Nat) : (kidX f p k).map (fun x => x.2.1) = kidO f p k := by
  induction k with
  | zero => rfl
  | succ k ih =>
    unfold kidO
    by_cases h : (f k).1 = p
    · have hk : 1 ≤ k := by
        rcases Nat.eq_zero_or_pos k with e | e
        · subst e; exact absurd h h0
        · exact e
      rw [kidX_y h, if_pos ⟨hk, h⟩, List.map_append, ih]; rfl
    · rw [kidX_n h, if_neg (fun e => h e.2), ih, List.append_nil]

theorem kidX_mem {f : Nat → OB} {p : Int} {k : Nat} {x : OB} (h : x ∈ kidX f p k) : ∃ j, j < k ∧ f j = x := by
  induction k with
  | zero => simp [kidX] at h
  | succ k ih =>
    unfold kidX at h
    rw [List.mem_append] at h
    rcases h with h | h
    · obtain ⟨j, h1, h2⟩ := ih h
      exact ⟨j, by omega, h2⟩
    · by_cases e : (f k).1 = p
      · rw [if_pos e] at h
        simp at h
        exact ⟨k, by omega, h.symm⟩
      · rw [if_neg e] at h; simp at h

theorem kidX_at {f : Nat → OB} {p : Int} {k i : Nat} (h : i < (kidX f p k).length) : ∃ j, j < k ∧ f j = gO (kidX f p k) i := by
  apply kidX_mem (p := p)
  have e : gO (kidX f p k) i = (kidX f p k)[i] := by simp [gO, h]
  rw [e]; exact List.getElem_mem h

theorem qS_bound {f : Nat → OB} {k : Nat} (h : ∀ j, j < k → 0 ≤ (f j).2.2.2.2.1 ∧ (f j).2.2.2.2.1 ≤ 200) : 0 ≤ qS f k ∧ qS f k ≤ 200 * (k : Int) := by
  induction k with
  | zero => simp [qS]
  | succ k ih =>
    have h1 := ih (fun j hj => h j (by omega))
    have h2 := h k (by omega)
    unfold qS
    omega

/-- the place of what has a name in a box, of all places. -/
def pinHit (f : Nat → OB) (p x : Int) (i : Nat) : Bool := decide ((f i).1 = p) && decide ((f i).2.1 = x)
def pinA (f : Nat → OB) (n : Nat) (p x : Int) : Int := match (List.range n).find? (pinHit f p x) with | some i => (i : Int) | none => -1

theorem pin_first {p : Nat → Bool} {n k : Nat} (hk : k < n) (hno : ∀ j, j < k → p j = false) (h : p k = true) : (List.range n).find? p = some k := by
  rw [List.find?_range_eq_some]
  exact ⟨h, List.mem_range.2 hk, fun j hj => by rw [hno j hj]; rfl⟩

theorem pinA_hit {f : Nat → OB} {n k : Nat} {p x : Int} (hk : k < n) (hno : ∀ j, j < k → pinHit f p x j = false) (h : pinHit f p x k = true) : pinA f n p x = (k : Int) := by
  unfold pinA
  rw [pin_first hk hno h]
theorem pinA_no {f : Nat → OB} {n : Nat} {p x : Int} (hno : ∀ j, j < n → pinHit f p x j = false) : pinA f n p x = -1 := by
  unfold pinA
  have : (List.range n).find? (pinHit f p x) = none := by
    rw [List.find?_eq_none]
    intro j hj
    simp [hno j (List.mem_range.1 hj)]
  rw [this]
theorem pinA_in (f : Nat → OB) (n : Nat) (p x : Int) : pinA f n p x = -1 ∨ (0 ≤ pinA f n p x ∧ pinA f n p x < (n : Int)) := by
  unfold pinA
  cases h : (List.range n).find? (pinHit f p x) with
  | none => exact .inl rfl
  | some i =>
    have h1 := List.mem_of_find?_eq_some h
    simp at h1
    right
    show 0 ≤ (i : Int) ∧ (i : Int) < (n : Int)
    omega

/-- one ahead is in the same box with that name: by the program's search. -/
theorem pin_twin {f : Nat → OB} {i : Nat} (h0 : (f 0).1 ≠ (f i).1) : (pinA f i (f i).1 (f i).2.1 ≥ 0) ↔ ((List.range i).any (twin f i) = true) := by
  have hh : ∀ j, twin f i j = pinHit f (f i).1 (f i).2.1 j := by
    intro j
    unfold twin pinHit
    rcases Nat.eq_zero_or_pos j with e | e
    · subst e; simp [h0]
    · have : decide (1 ≤ j) = true := decide_eq_true e
      rw [this, Bool.true_and]
  constructor
  · intro h
    unfold pinA at h
    cases e : (List.range i).find? (pinHit f (f i).1 (f i).2.1) with
    | none => rw [e] at h; simp at h
    | some j =>
      have h1 := List.mem_of_find?_eq_some e
      have h2 := List.find?_some e
      exact any_range_yes (List.mem_range.1 h1) ((hh j).trans h2)
  · intro h
    rw [List.any_eq_true] at h
    obtain ⟨j, h1, h2⟩ := h
    rw [hh] at h2
    unfold pinA
    cases e : (List.range i).find? (pinHit f (f i).1 (f i).2.1) with
    | none =>
      rw [List.find?_eq_none] at e
      exact absurd h2 (by simpa using e j h1)
    | some j' => simp

/-- what an object has by its kind, as a value: rn the data's row, kn what is in it. -/
def ctV (x : OB) (da : Option Addr) (dc : Nat) (ka : Option Addr) (kn kc : Nat) : Value := if formB x = true then (if x.2.2.1 = 1 then .iface 96 (.agg #[.int .i64 x.2.2.2.2.2.1, .slice ka kn kc]) else .iface 103 (.agg #[.slice da x.2.2.2.2.2.2.length dc])) else .nilIface

/-- a slice of n objects f 0, f 1, .., only their seven cells. -/
def S7 (w : World) (a : Option Addr) (n : Nat) (f : Nat → OB) : Prop :=
  0 < n → ∃ b off, a = some ⟨b, off, none⟩ ∧ b < w.heap.size ∧ ∀ i, i < n → ∃ la lc da dc, O7 w b (off + i * 7) (f i) la lc da dc

theorem S7.below {w w' : World} {a : Option Addr} {n : Nat} {f : Nat → OB} (h2 : S7 w a n f) {B : Nat} (hb : Below B w w') (hB : w.heap.size ≤ B) : S7 w' a n f := by
  refine fun hp => ?_
  obtain ⟨b, off, h3, h4, h5⟩ := h2 hp
  refine ⟨b, off, h3, by have := hb.size; omega, fun i hi => ?_⟩
  obtain ⟨la, lc, da, dc, h6⟩ := h5 i hi
  exact ⟨la, lc, da, dc, h6.of_block (hb.block b (by omega))⟩

theorem S7.take {w : World} {a : Option Addr} {n i : Nat} {f : Nat → OB} (h : S7 w a n f) (hi : i ≤ n) : S7 w a i f := fun hp => by
  obtain ⟨b, off, h3, h4, h5⟩ := h (by omega)
  exact ⟨b, off, h3, h4, fun j hj => h5 j (by omega)⟩

theorem Sob.s7 {w : World} {a : Option Addr} {n : Nat} {xs : List OB} (h : Sob w a n xs) : S7 w a n (gO xs) := fun hp => by
  obtain ⟨b, off, h3, h4, h5⟩ := h.2 hp
  exact ⟨b, off, h3, h4, fun j hj => by obtain ⟨la, lc, da, dc, h6, _⟩ := h5 j hj; exact ⟨la, lc, da, dc, h6⟩⟩

theorem S7.setC {w : World} {a : Option Addr} {n : Nat} {f : Nat → OB} (h : S7 w a n f) {P o : Nat} {v : Value} (hne : ∀ ad, a = some ad → ad.block ≠ P) : S7 (w.setCell ⟨P, o, none⟩ v) a n f := fun hp => by
  obtain ⟨b, off, h3, h4, h5⟩ := h hp
  refine ⟨b, off, h3, by simpa using h4, fun i hi => ?_⟩
  obtain ⟨la, lc, da, dc, h6⟩ := h5 i hi
  exact ⟨la, lc, da, dc, h6.of_block (Below.heap_setCell _ _ _ _ (by show b ≠ P; exact hne _ h3))⟩

end Go.Proofs.Ytipfaoecodclaaa
