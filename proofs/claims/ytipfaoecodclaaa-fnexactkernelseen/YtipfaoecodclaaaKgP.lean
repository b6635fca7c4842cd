import Derived.Test.YtipfaoecodclaaaKfP
import Derived.WalkKit
import Derived.ProofKit
import Derived.OpenShut
import Derived.ShutString
import Derived.ChangeOld
import Derived.Below
import Derived.WalkSpells
import Derived.Deep.QuietTactic
import Derived.BigQuiet
import Derived.Deep.RegionWith
import Derived.Deep.WholeRow
import Derived.Deep.DeepCutAuto
import Derived.Deep.RegionHeld2
import Derived.Deep.AppendLies
import Derived.Deep.RegionLaw
namespace Go.Proofs.Ytipfaoecodclaaa
open Go.ChangeShapes Go.WideShapes Go.ChangeAt Go.RowKit

def askC (xs : List OB) (i : Int) : Int := if kerF xs = 0 then (if inB i 0 ((xs.length : Int) - 1) = true then 0 else 3) else kerF xs
def boxC (xs : List OB) (i : Int) : Int := if askC xs i = 0 then (if (gO xs i.toNat).2.2.1 = 1 then 0 else 1) else askC xs i
def frV (xs : List OB) (i : Int) : Int := if boxC xs i = 0 then freeO (gO xs) xs.length i.toNat else 0

/-- the names of what is in a box, of the first k. -/
def kidO (f : Nat → OB) (p : Int) : Nat → List Int
  | 0 => []
  | k + 1 => kidO f p k ++ (if 1 ≤ k ∧ (f k).1 = p then [(f k).2.1] else [])
def kidL (xs : List OB) (i : Int) : List Int := if boxC xs i = 0 then kidO (gO xs) i xs.length else []

/-- the path of an object (m: how deep at most). -/
def pathO (f : Nat → OB) : Nat → Nat → List Int
  | 0, _ => []
  | m + 1, i => if i = 0 then [] else pathO f m (f i).1.toNat ++ [(f i).2.1]
def pathL (xs : List OB) (i : Int) : List Int := if askC xs i = 0 then pathO (gO xs) i.toNat i.toNat else []

theorem askC_inv {xs : List OB} {i : Int} (h : askC xs i = 0) : kerF xs = 0 ∧ 0 ≤ i ∧ i ≤ (xs.length : Int) - 1 := by
  unfold askC at h
  by_cases h1 : kerF xs = 0
  · rw [if_pos h1] at h
    by_cases h2 : inB i 0 ((xs.length : Int) - 1) = true
    · exact ⟨h1, inB_iff.1 h2⟩
    · rw [if_neg h2] at h; omega
  · rw [if_neg h1] at h; exact absurd h h1

theorem boxC_inv {xs : List OB} {i : Int} (h : boxC xs i = 0) : askC xs i = 0 ∧ (gO xs i.toNat).2.2.1 = 1 := by
  unfold boxC at h
  by_cases h1 : askC xs i = 0
  · rw [if_pos h1] at h
    by_cases h2 : (gO xs i.toNat).2.2.1 = 1
    · exact ⟨h1, h2⟩
    · rw [if_neg h2] at h; omega
  · rw [if_neg h1] at h; exact absurd h h1

theorem kidO_le (f : Nat → OB) (p : Int) (k : Nat) : (kidO f p k).length ≤ k := by
  induction k with
  | zero => simp [kidO]
  | succ k ih =>
    unfold kidO
    split <;> simp <;> omega

theorem pathO_le (f : Nat → OB) : ∀ (m i : Nat), (pathO f m i).length ≤ m
  | 0, _ => by simp [pathO]
  | m + 1, i => by
    unfold pathO
    split
    · simp
    · have := pathO_le f m (f i).1.toNat
      simp; omega

/-- more depth than there is leads to no other path. -/
theorem pathO_more {f : Nat → OB} {n : Nat} (hu : ∀ i, 0 < i → i < n → 0 ≤ (f i).1 ∧ (f i).1 < (i : Int)) : ∀ (m i : Nat), i < n → i ≤ m → pathO f m i = pathO f i i
  | 0, i, _, h => by obtain rfl : i = 0 := by omega
                     rfl
  | m + 1, i, hn, h => by
    by_cases h0 : i = 0
    · subst h0; simp [pathO]
    · obtain ⟨q, rfl⟩ : ∃ q, i = q + 1 := ⟨i - 1, by omega⟩
      have hq := hu (q + 1) (by omega) hn
      have hlt : (f (q + 1)).1.toNat ≤ q := by omega
      unfold pathO
      rw [if_neg h0, if_neg h0, pathO_more hu m _ (by omega) (by omega), pathO_more hu q _ (by omega) hlt]

theorem up_of {xs : List OB} (h : kerF xs = 0) {i : Nat} (h0 : 0 < i) (hi : i < xs.length) : 0 ≤ (gO xs i).1 ∧ (gO xs i).1 < (i : Int) := by
  have := (oneF_inv ((kerF_inv h).2.2.1 i hi)).2.2.2.2.1
  unfold upB at this
  rw [if_neg (by omega), Bool.and_eq_true] at this
  have := inB_iff.1 this.1
  omega

end Go.Proofs.Ytipfaoecodclaaa
