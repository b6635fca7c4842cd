import Derived.Test.YtipfaoecodclaaaObP
import Derived.Test.YtipfaoecodclaaaBase
import Derived.Test.YtipfaoecodclaaaThing
import Derived.WalkKit
import Derived.ProofKit
import Derived.OpenShut
import Derived.ShutString
import Derived.ChangeOld
import Derived.Below
import Derived.WalkSpells
import Derived.Deep.QuietTactic
import Derived.BigQuiet
import Derived.Deep.RegionWith
import Derived.Deep.WholeRow
import Derived.Deep.DeepCutAuto
import Derived.Deep.RegionHeld2
import Derived.Deep.AppendLies
import Derived.Deep.RegionLaw
namespace Go.Proofs.Ytipfaoecodclaaa
open Go.ChangeShapes Go.WideShapes Go.ChangeAt Go.RowKit

/-- the first code that is not 0. -/
def ffst (n : Nat) (f : Nat → Int) : Int :=
  match (List.range n).find? (fun i => !(f i == 0)) with
  | some i => f i
  | none => 0

theorem ffst_hit {n k : Nat} {f : Nat → Int} (hk : k < n) (hno : ∀ j, j < k → f j = 0) (hp : f k ≠ 0) : ffst n f = f k := by
  unfold ffst
  rw [find_first hk (fun j hj => by simp [hno j hj]) (by simpa using hp)]

theorem ffst_ok {n : Nat} {f : Nat → Int} (hno : ∀ j, j < n → f j = 0) : ffst n f = 0 := by
  unfold ffst
  have : (List.range n).find? (fun i => !(f i == 0)) = none := by
    rw [List.find?_eq_none]
    intro j hj
    simp [hno j (List.mem_range.1 hj)]
  rw [this]

theorem ffst_inv {n : Nat} {f : Nat → Int} (h : ffst n f = 0) : ∀ j, j < n → f j = 0 := by
  unfold ffst at h
  intro j hj
  cases hf : (List.range n).find? (fun i => !(f i == 0)) with
  | none =>
    rw [List.find?_eq_none] at hf
    have := hf j (List.mem_range.2 hj)
    simpa using this
  | some i =>
    rw [hf] at h
    have := List.find?_some hf
    simp at this
    exact absurd h this

def inB (v lo hi : Int) : Bool := decide (lo ≤ v) && decide (v ≤ hi)

theorem inB_iff {v lo hi : Int} : inB v lo hi = true ↔ lo ≤ v ∧ v ≤ hi := by simp [inB]

def formB (x : OB) : Bool := if x.2.2.1 = 1 then decide (x.2.2.2.2.2.2.length = 0) else (decide (x.2.2.1 = 2) && decide (x.2.2.2.2.2.1 = 0))

def rngB (x : OB) : Bool := (inB x.2.2.2.2.1 0 200 && (!(decide (x.2.2.1 = 1)) || inB x.2.2.2.2.2.1 1 100)) && (decide ((x.2.2.2.2.2.2.length : Int) ≤ x.2.2.2.2.1) && x.2.2.2.2.2.2.all (fun v => inB v 0 65535))

def upB (f : Nat → OB) (i : Nat) : Bool := if i = 0 then (decide ((f i).1 = -1) && decide ((f i).2.1 = 0)) && decide ((f i).2.2.1 = 1) else inB (f i).1 0 ((i : Int) - 1) && decide ((f (f i).1.toNat).2.2.1 = 1)

/-- is one ahead in the same box with that name. -/
def twin (f : Nat → OB) (i n : Nat) : Bool := decide (1 ≤ n) && (decide ((f n).1 = (f i).1) && decide ((f n).2.1 = (f i).2.1))

def namB (f : Nat → OB) (i : Nat) : Bool := if i = 0 then true else inB (f i).2.1 1 ((f (f i).1.toNat).2.2.2.2.2.1 - 1) && !((List.range i).any (twin f i))

def oneF (f : Nat → OB) (i : Nat) : Int := if formB (f i) = false then 1 else if fault (f i).2.2.2.1 ≠ 0 then fault (f i).2.2.2.1 else if thing0 (f i).2.2.2.1 = false then 1 else if rngB (f i) = false then 3 else if upB f i = false then 4 else if namB f i = false then 8 else 0

/-- the quotas of what is in a box, of the first k. -/
def usedO (f : Nat → OB) (p : Int) : Nat → Int
  | 0 => 0
  | k + 1 => usedO f p k + (if 1 ≤ k ∧ (f k).1 = p then (f k).2.2.2.2.1 else 0)

def freeO (f : Nat → OB) (n : Nat) (p : Nat) : Int := (f p).2.2.2.2.1 - usedO f (p : Int) n

def fullO (f : Nat → OB) (n p : Nat) : Bool := decide ((f p).2.2.1 = 1) && decide (freeO f n p < 0)

def kerF (xs : List OB) : Int := if xs.length < 1 ∨ 12 < xs.length then 2 else if ffst xs.length (oneF (gO xs)) ≠ 0 then ffst xs.length (oneF (gO xs)) else if (List.range xs.length).any (fullO (gO xs) xs.length) = true then 7 else 0

theorem oneF_inv {f : Nat → OB} {i : Nat} (h : oneF f i = 0) : formB (f i) = true ∧ fault (f i).2.2.2.1 = 0 ∧ thing0 (f i).2.2.2.1 = true ∧ rngB (f i) = true ∧ upB f i = true ∧ namB f i = true := by
  unfold oneF at h
  by_cases h1 : formB (f i) = false
  · rw [if_pos h1] at h; omega
  rw [if_neg h1] at h
  by_cases h2 : fault (f i).2.2.2.1 = 0
  rotate_left
  · rw [if_pos h2] at h; exact absurd h h2
  rw [if_neg (by simpa using h2)] at h
  by_cases h3 : thing0 (f i).2.2.2.1 = false
  · rw [if_pos h3] at h; omega
  rw [if_neg h3] at h
  by_cases h4 : rngB (f i) = false
  · rw [if_pos h4] at h; omega
  rw [if_neg h4] at h
  by_cases h5 : upB f i = false
  · rw [if_pos h5] at h; omega
  rw [if_neg h5] at h
  by_cases h6 : namB f i = false
  · rw [if_pos h6] at h; omega
  exact ⟨by simpa using h1, h2, by simpa using h3, by simpa using h4, by simpa using h5, by simpa using h6⟩

theorem rngB_inv {x : OB} (h : rngB x = true) : (0 ≤ x.2.2.2.2.1 ∧ x.2.2.2.2.1 ≤ 200) ∧ (x.2.2.1 = 1 → 1 ≤ x.2.2.2.2.2.1 ∧ x.2.2.2.2.2.1 ≤ 100) ∧ (x.2.2.2.2.2.2.length : Int) ≤ x.2.2.2.2.1 ∧ x.2.2.2.2.2.2.all (fun v => inB v 0 65535) = true := by
  unfold rngB at h
  simp only [Bool.and_eq_true, Bool.or_eq_true, decide_eq_true_eq] at h
  obtain ⟨⟨a, b⟩, c, d⟩ := h
  refine ⟨inB_iff.1 a, fun hk => ?_, c, d⟩
  rcases b with b | b
  · simp at b; exact absurd hk b
  · exact inB_iff.1 b

theorem usedO_le {f : Nat → OB} {p : Int} {k : Nat} (h : ∀ j, j < k → 0 ≤ (f j).2.2.2.2.1 ∧ (f j).2.2.2.2.1 ≤ 200) : 0 ≤ usedO f p k ∧ usedO f p k ≤ 200 * (k : Int) := by
  induction k with
  | zero => simp [usedO]
  | succ k ih =>
    have h1 := ih (fun j hj => h j (by omega))
    have h2 := h k (by omega)
    unfold usedO
    split <;> omega

/-- of a right kernel: what each object is. -/
theorem kerF_inv {xs : List OB} (h : kerF xs = 0) : 1 ≤ xs.length ∧ xs.length ≤ 12 ∧ (∀ j, j < xs.length → oneF (gO xs) j = 0) ∧ (List.range xs.length).any (fullO (gO xs) xs.length) = false := by
  unfold kerF at h
  by_cases h1 : xs.length < 1 ∨ 12 < xs.length
  · rw [if_pos h1] at h; omega
  rw [if_neg h1] at h
  by_cases h2 : ffst xs.length (oneF (gO xs)) = 0
  rotate_left
  · rw [if_pos h2] at h; exact absurd h h2
  rw [if_neg (by simpa using h2)] at h
  by_cases h3 : (List.range xs.length).any (fullO (gO xs) xs.length) = true
  · rw [if_pos h3] at h; omega
  exact ⟨by omega, by omega, ffst_inv h2, by simpa using h3⟩

theorem any_range_no {p : Nat → Bool} {n : Nat} (h : ∀ j, j < n → p j = false) : (List.range n).any p = false := by
  rw [List.any_eq_false]
  intro x hx
  rw [h x (List.mem_range.1 hx)]
  simp

theorem any_range_yes {p : Nat → Bool} {n k : Nat} (hk : k < n) (h : p k = true) : (List.range n).any p = true := by
  rw [List.any_eq_true]
  exact ⟨k, List.mem_range.2 hk, h⟩

/-- a kernel behind the pointer ⟨P, 0⟩, only read. -/
structure KR (P : Nat) (a : Option Addr) (n c : Nat) (xs : List OB) (w : World) : Prop where
  lt : P < w.heap.size
  c0 : w.cell? ⟨P, 0, none⟩ = some (.slice a n c)
  nm : n ≤ maxLen
  so : Sob w a n xs

theorem KR.below {P : Nat} {a : Option Addr} {n c : Nat} {xs : List OB} {w w' : World} (h : KR P a n c xs w) (hb : Below w.heap.size w w') : KR P a n c xs w' :=
  ⟨by have := hb.size; have := h.lt; omega, (hb.cell (p := ⟨P, 0, none⟩) h.lt).trans h.c0, h.nm, h.so.below hb (Nat.le_refl _)⟩

set_option maxRecDepth 100000 in
theorem inB_calls (v lo hi : Int) (w : World) :
    Calls Try.prog 47 #[.int .i64 v, .int .i64 lo, .int .i64 hi] w fun e w' => e = .returned (.bool (inB v lo hi)) ∧ w' = w := by
  by_cases h1 : lo ≤ v
  · by_cases h2 : v ≤ hi
    all_goals
      go_enter Try.func47, Try.ntmps47
      go_wp2
      go_ret
      exact ⟨ret_bool (by simp [inB, h1, h2]), rfl⟩
  · go_enter Try.func47, Try.ntmps47
    go_wp2
    go_ret
    exact ⟨ret_bool (by simp [inB]; omega), rfl⟩

theorem inB_is (v lo hi : Int) (b : Bool) (w : World) (h : inB v lo hi = b) : Calls Try.prog 47 #[.int .i64 v, .int .i64 lo, .int .i64 hi] w fun e w' => e = .returned (.bool b) ∧ w' = w := h ▸ inB_calls v lo hi w

end Go.Proofs.Ytipfaoecodclaaa
