import Derived.Test.YtpgpoeljbppggaaDoorL5Num
import Derived.WalkKit
import Derived.ProofKit
import Derived.OpenShut
import Derived.ShutString
import Derived.ChangeOld
import Derived.Below
import Derived.WalkSpells
import Derived.Deep.QuietTactic
import Derived.BigQuiet
import Derived.Deep.RegionWith
import Derived.Deep.WholeRow
import Derived.Deep.DeepCutAuto
import Derived.Deep.RegionHeld2
import Derived.Deep.AppendLies
import Derived.Deep.RegionLaw
namespace Go.Proofs.YtpgpoeljbppggaaDoor
open Go.ChangeShapes Go.WideShapes Go.ChangeAt Go.RowKit

/-- the next blank from a place on, or the end. -/
def nbG (s : ByteArray) : Nat → Nat → Nat
  | 0, a => a
  | m + 1, a => if a < s.size ∧ byt s a ≠ 32 then nbG s m (a + 1) else a

def nb (s : ByteArray) (a : Nat) : Nat := nbG s (s.size - a) a

theorem nbG_spec (s : ByteArray) : ∀ (m a : Nat), a ≤ s.size → s.size ≤ a + m → a ≤ nbG s m a ∧ nbG s m a ≤ s.size ∧ (∀ j, a ≤ j → j < nbG s m a → byt s j ≠ 32) ∧ (nbG s m a = s.size ∨ byt s (nbG s m a) = 32)
  | 0, a, h, h2 => ⟨Nat.le_refl _, h, fun j h1 h2 => by simp only [nbG] at h2; omega, .inl (by simp only [nbG]; omega)⟩
  | m + 1, a, h, h2 => by
    simp only [nbG]
    split
    · rename_i hc
      obtain ⟨i1, i2, i3, i4⟩ := nbG_spec s m (a + 1) (by omega) (by omega)
      refine ⟨by omega, i2, fun j h1 h2 => ?_, i4⟩
      by_cases e : j = a
      · subst e; exact hc.2
      · exact i3 j (by omega) h2
    · rename_i hc
      refine ⟨Nat.le_refl _, h, fun j h1 h2 => by omega, ?_⟩
      by_cases e : a = s.size
      · exact .inl e
      · refine .inr ?_
        by_cases e2 : byt s a = 32
        · exact e2
        · exact absurd ⟨by omega, e2⟩ hc

theorem nb_spec {s : ByteArray} {a : Nat} (h : a ≤ s.size) : a ≤ nb s a ∧ nb s a ≤ s.size ∧ (∀ j, a ≤ j → j < nb s a → byt s j ≠ 32) ∧ (nb s a = s.size ∨ byt s (nb s a) = 32) := nbG_spec s _ a h (by omega)

theorem size_ext {s : ByteArray} {a e : Nat} (he : e ≤ s.size) : (s.extract a e).size = e - a := by
  rw [ByteArray.size_extract]; omega

theorem byt_ext {s : ByteArray} {a e j : Nat} (he : e ≤ s.size) (hj : a + j < e) : byt (s.extract a e) j = byt s (a + j) := by
  unfold byt
  rw [dif_pos (by rw [size_ext he]; omega), dif_pos (by omega)]
  rw [ByteArray.getElem_extract]

theorem dgt_yes {s : ByteArray} {k : Nat} (h : k < s.size) (h1 : 48 ≤ byt s k) (h2 : byt s k ≤ 57) : dgt s k = byt s k - 48 := if_pos ⟨h, h1, h2⟩

theorem dgt_no {s : ByteArray} {k : Nat} (h : s.size ≤ k ∨ byt s k < 48 ∨ 57 < byt s k) : dgt s k = -1 := if_neg (by omega)

theorem numK_mono {s : ByteArray} {k : Nat} : ∀ {m : Nat}, digs s m → k ≤ m → 0 ≤ numK s k ∧ numK s k ≤ numK s m
  | 0, _, h => by
    obtain rfl : k = 0 := by omega
    exact ⟨by simp [numK], Int.le_refl _⟩
  | m + 1, hd, h => by
    have hm := (numK_lt s m (fun j hj => hd j (by omega))).1
    have hb := hd m (by omega)
    by_cases e : k = m + 1
    · subst e
      exact ⟨(numK_lt s (m + 1) hd).1, Int.le_refl _⟩
    · obtain ⟨h1, h2⟩ := numK_mono (k := k) (m := m) (fun j hj => hd j (by omega)) (by omega)
      refine ⟨h1, ?_⟩
      show numK s k ≤ numK s m * 10 + (byt s m - 48)
      omega

/-- a number that is in bounds has no number among its first digits that is not. -/
theorem numV_ge {s : ByteArray} {k : Nat} (hk : k ≤ s.size) (h : 63 < numK s k) : ¬ (0 ≤ numV s ∧ numV s ≤ 63) := by
  intro ⟨h1, h2⟩
  unfold numV at h1 h2
  split at h1
  · omega
  · rename_i hc
    rw [if_neg hc] at h2
    split at h1
    · rename_i hd
      rw [if_pos hd] at h2
      have := (numK_mono hd hk).2
      omega
    · omega

/-- the machine that reads three numbers: its labels are 'at a blank' and 'in a number'; the number that is read, its place, the three numbers so far. -/
def mach (s : ByteArray) : Nat → Bool → Nat → Nat → Int → Int → Int → Option (Int × Int × Int)
  | 0, _, _, _, _, _, _ => none
  | m + 1, false, j, a, p, q, r => if s.size ≤ a ∨ byt s a ≠ 32 then none else if dgt s (a + 1) < 0 then none else mach s m true j (a + 1) p q r
  | m + 1, true, j, a, p, q, r =>
    if 63 < 10 * (if j = 0 then p else if j = 1 then q else r) + dgt s a then none
    else if 0 ≤ dgt s (a + 1) ∧ 0 < 10 * (if j = 0 then p else if j = 1 then q else r) + dgt s a then
      mach s m true j (a + 1) (if j = 0 then 10 * p + dgt s a else p) (if j = 1 then 10 * q + dgt s a else q) (if j = 2 then 10 * r + dgt s a else r)
    else if j < 2 then mach s m false (j + 1) (a + 1) (if j = 0 then 10 * p + dgt s a else p) (if j = 1 then 10 * q + dgt s a else q) (if j = 2 then 10 * r + dgt s a else r)
    else if a + 1 = s.size then some ((if j = 0 then 10 * p + dgt s a else p), (if j = 1 then 10 * q + dgt s a else q), (if j = 2 then 10 * r + dgt s a else r)) else none

theorem mach_stop {s : ByteArray} {m j a : Nat} {p q r : Int} (h : s.size ≤ a ∨ byt s a ≠ 32) : mach s m false j a p q r = none := by
  cases m with
  | zero => rfl
  | succ m => simp only [mach]; rw [if_pos h]

/-- behind a number. -/
def mEnd (s : ByteArray) (m j e : Nat) (p q r : Int) : Option (Int × Int × Int) := if j < 2 then mach s m false (j + 1) e p q r else if e = s.size then some (p, q, r) else none

theorem mEnd_stop {s : ByteArray} {m j e : Nat} {p q r : Int} (h : e < s.size) (h2 : byt s e ≠ 32) : mEnd s m j e p q r = none := by
  unfold mEnd
  split
  · exact mach_stop (.inr h2)
  · rw [if_neg (by omega)]

theorem mach_true {s : ByteArray} {m j a : Nat} {p q r n : Int} (hn : 10 * (if j = 0 then p else if j = 1 then q else r) + dgt s a = n) (hj : j ≤ 2) :
    mach s (m + 1) true j a p q r = if 63 < n then none else if 0 ≤ dgt s (a + 1) ∧ 0 < n then mach s m true j (a + 1) (if j = 0 then n else p) (if j = 1 then n else q) (if j = 2 then n else r) else mEnd s m j (a + 1) (if j = 0 then n else p) (if j = 1 then n else q) (if j = 2 then n else r) := by
  simp only [mach, mEnd]
  obtain rfl | rfl | rfl : j = 0 ∨ j = 1 ∨ j = 2 := by omega
  all_goals simp at hn ⊢
  all_goals rw [hn]

end Go.Proofs.YtpgpoeljbppggaaDoor
