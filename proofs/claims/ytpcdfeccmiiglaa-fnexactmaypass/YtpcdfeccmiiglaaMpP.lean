import Derived.Test.YtpcdfeccmiiglaaKgP
import Derived.Test.YtpcdfeccmiiglaaKgF
import Derived.Test.YtpcdfeccmiiglaaPermI
import Derived.WalkKit
import Derived.ProofKit
import Derived.OpenShut
import Derived.ShutString
import Derived.ChangeOld
import Derived.Below
import Derived.WalkSpells
import Derived.Deep.QuietTactic
import Derived.BigQuiet
import Derived.Deep.RegionWith
import Derived.Deep.WholeRow
import Derived.Deep.DeepCutAuto
import Derived.Deep.RegionHeld2
import Derived.Deep.AppendLies
import Derived.Deep.RegionLaw
namespace Go.Proofs.Ytpcdfeccmiiglaa
open Go.ChangeShapes Go.WideShapes Go.ChangeAt Go.RowKit

/-- may the object be observed (neither has a fault). -/
def obX (ws : List Int) (f : Nat → OB) (i : Nat) : Bool := thing0 (f i).2.2.2.1 && belowB (f i).2.2.2.1 (highL ws)

/-- from an object up to the first one: may all boxes on the way be observed. -/
def passU (f : Nat → OB) (ob : Nat → Bool) : Nat → Nat → Bool
  | 0, _ => true
  | m + 1, i => if i = 0 then true else ob (f i).1.toNat && passU f ob m (f i).1.toNat

/-- from the first one down along a path. -/
def downB (f : Nat → OB) (n : Nat) (ob : Nat → Bool) (zs : List Int) (k : Nat) : Bool := (List.range k).all fun j => ob (findO f n (zs.take j)).toNat

def psB (xs : List OB) (ws zs : List Int) : Bool := decide (0 ≤ findO (gO xs) xs.length zs) && downB (gO xs) xs.length (obX ws (gO xs)) zs zs.length

def mpB (xs : List OB) (ws zs : List Int) : Bool := if kerF xs = 0 ∧ fault ws = 0 then psB xs ws zs else false

theorem downB_succ (f : Nat → OB) (n : Nat) (ob : Nat → Bool) (zs : List Int) (k : Nat) : downB f n ob zs (k + 1) = (downB f n ob zs k && ob (findO f n (zs.take k)).toNat) := by
  unfold downB
  rw [List.range_succ, List.all_append]
  simp

theorem downB_no {f : Nat → OB} {n : Nat} {ob : Nat → Bool} {zs : List Int} {k m : Nat} (hk : k < m) (h : ob (findO f n (zs.take k)).toNat = false) : downB f n ob zs m = false := by
  unfold downB
  rw [List.all_eq_false]
  exact ⟨k, List.mem_range.2 hk, by rw [h]; simp⟩

theorem downB_yes {f : Nat → OB} {n : Nat} {ob : Nat → Bool} {zs : List Int} {m : Nat} (h : ∀ j, j < m → ob (findO f n (zs.take j)).toNat = true) : downB f n ob zs m = true := by
  unfold downB
  rw [List.all_eq_true]
  intro j hj
  exact h j (List.mem_range.1 hj)

theorem kidAt_up {f : Nat → OB} {n : Nat} {p x : Int} (h : 0 ≤ kidAt f n p x) : ∃ i : Nat, kidAt f n p x = (i : Int) ∧ 1 ≤ i ∧ i < n ∧ (f i).1 = p := by
  unfold kidAt at h ⊢
  cases hf : (List.range n).find? (kidHit f p x) with
  | none => rw [hf] at h; exact absurd h (by decide)
  | some i =>
    have h1 := List.mem_of_find?_eq_some hf
    have h2 := List.find?_some hf
    unfold kidHit at h2
    simp at h2 h1
    exact ⟨i, rfl, by omega, h1, h2.2.1⟩

theorem passU_fuel {f : Nat → OB} {ob : Nat → Bool} {n : Nat} (hu : ∀ i, 0 < i → i < n → 0 ≤ (f i).1 ∧ (f i).1 < (i : Int)) : ∀ i, i < n → ∀ m k, i ≤ m → i ≤ k → passU f ob m i = passU f ob k i := by
  intro i
  induction i using Nat.strongRecOn with
  | _ i ih =>
    intro hn m k hm hk
    by_cases h0 : i = 0
    · subst h0; cases m <;> cases k <;> simp [passU]
    · obtain ⟨m, rfl⟩ : ∃ r, m = r + 1 := ⟨m - 1, by omega⟩
      obtain ⟨k, rfl⟩ : ∃ r, k = r + 1 := ⟨k - 1, by omega⟩
      have hq := hu i (by omega) hn
      show (if i = 0 then true else ob (f i).1.toNat && passU f ob m (f i).1.toNat) = (if i = 0 then true else ob (f i).1.toNat && passU f ob k (f i).1.toNat)
      rw [if_neg h0, if_neg h0, ih (f i).1.toNat (by omega) (by omega) m k (by omega) (by omega)]

theorem passU_step {f : Nat → OB} {ob : Nat → Bool} {n : Nat} (hu : ∀ i, 0 < i → i < n → 0 ≤ (f i).1 ∧ (f i).1 < (i : Int)) {i : Nat} (h0 : i ≠ 0) (hn : i < n) : passU f ob i i = (ob (f i).1.toNat && passU f ob (f i).1.toNat (f i).1.toNat) := by
  obtain ⟨r, rfl⟩ : ∃ r, i = r + 1 := ⟨i - 1, by omega⟩
  have hq := hu (r + 1) (by omega) hn
  show (if r + 1 = 0 then true else ob (f (r + 1)).1.toNat && passU f ob r (f (r + 1)).1.toNat) = _
  rw [if_neg h0, passU_fuel hu (f (r + 1)).1.toNat (by omega) r _ (by omega) (Nat.le_refl _)]

theorem pass_down {f : Nat → OB} {ob : Nat → Bool} {n : Nat} (hu : ∀ i, 0 < i → i < n → 0 ≤ (f i).1 ∧ (f i).1 < (i : Int)) (zs : List Int) : ∀ k, k ≤ zs.length → 0 ≤ findO f n (zs.take k) → passU f ob (findO f n (zs.take k)).toNat (findO f n (zs.take k)).toNat = downB f n ob zs k := by
  intro k
  induction k with
  | zero => intro _ _; simp [findO, passU, downB]
  | succ k ih =>
    intro hk h0
    rw [findO_take (by omega)] at h0 ⊢
    obtain ⟨p, hp⟩ : ∃ p, p = findO f n (zs.take k) := ⟨_, rfl⟩
    rw [downB_succ]
    rw [← hp] at h0 ⊢ ih
    by_cases hneg : p < 0
    · rw [show findS f n p (gt zs k) = p from if_pos hneg] at h0; omega
    rw [show findS f n p (gt zs k) = kidAt f n p (gt zs k) from if_neg hneg] at h0 ⊢
    obtain ⟨i, e, h1, h2, h3⟩ := kidAt_up h0
    rw [e]
    have et : ((i : Int)).toNat = i := by omega
    rw [et, passU_step hu (by omega) h2, h3, ih (by omega) (by omega), Bool.and_comm]

theorem psB_pass {xs : List OB} {ws zs : List Int} (h : kerF xs = 0) (h0 : 0 ≤ findO (gO xs) xs.length zs) : psB xs ws zs = passU (gO xs) (obX ws (gO xs)) (findO (gO xs) xs.length zs).toNat (findO (gO xs) xs.length zs).toNat := by
  have hp := pass_down (f := gO xs) (ob := obX ws (gO xs)) (n := xs.length) (fun i h1 h2 => up_of h h1 h2) zs zs.length (Nat.le_refl _)
  rw [List.take_length] at hp
  unfold psB
  rw [decide_eq_true h0, Bool.true_and, hp h0]

theorem psB_neg {xs : List OB} {ws zs : List Int} (h0 : findO (gO xs) xs.length zs < 0) : psB xs ws zs = false := by
  unfold psB
  rw [decide_eq_false (by omega), Bool.false_and]

theorem obX_obs {xs : List OB} {ws : List Int} {i : Nat} (h : kerF xs = 0) (hw : fault ws = 0) (hi : i < xs.length) : obsB ws (gO xs i).2.2.2.1 = obX ws (gO xs) i := by
  have h1 := (oneF_inv ((kerF_inv h).2.2.1 i hi)).2.1
  unfold obsB obX
  rw [hw, h1]
  simp

theorem lab_four {xs : List OB} {i : Nat} (h : kerF xs = 0) (hi : i < xs.length) : (gO xs i).2.2.2.1.length = 4 := fault_len (oneF_inv ((kerF_inv h).2.2.1 i hi)).2.1

end Go.Proofs.Ytpcdfeccmiiglaa
