import Derived.Test.YtlilbbkidaahlaaEvict
import Derived.WalkKit
import Derived.ProofKit
import Derived.OpenShut
import Derived.ShutString
import Derived.ChangeOld
import Derived.Below
import Derived.WalkSpells
import Derived.Deep.QuietTactic
import Derived.BigQuiet
import Derived.Deep.RegionWith
import Derived.Deep.WholeRow
import Derived.Deep.DeepCutAuto
import Derived.Deep.RegionHeld2
import Derived.Deep.AppendLies
import Derived.Deep.RegionLaw
namespace Go.Proofs.Ytlilbbkidaahlaa
open Go.ChangeShapes Go.WideShapes Go.ChangeAt Go.RowKit

/-- without the line of d and t. -/
def dropL (ls : List (Int × Int × Int)) (d t : Int) : List (Int × Int × Int) := if atL ls d t < 0 then ls else ls.eraseIdx (atL ls d t).toNat

/-- a line is put behind the others, one is gone where there is no room. -/
def fiL (s : Int) (ls : List (Int × Int × Int)) (x : Int × Int × Int) (p : Int) : List (Int × Int × Int) :=
  if s = 0 then [] else (if s ≤ ((dropL ls x.1 x.2.1).length : Int) then evL (dropL ls x.1 x.2.1) p else dropL ls x.1 x.2.1) ++ [x]

def fiC (s : Int) (ls : List (Int × Int × Int)) (x : Int × Int × Int) (p : Int) : Int :=
  if faultC s ls = 0 then (if okL x = false ∨ p < 0 then 3 else 0) else faultC s ls

theorem mem_g3 {ls : List (Int × Int × Int)} {y : Int × Int × Int} (h : y ∈ ls) : ∃ j, j < ls.length ∧ g3 ls j = y := by
  obtain ⟨j, hj, rfl⟩ := List.getElem_of_mem h
  exact ⟨j, hj, by simp [g3, hj]⟩

theorem gone_hit {d t : Int} (hd : 0 ≤ d) (ht : 0 ≤ t) (x : Int × Int × Int) : gone d t x = hitL d t x := by
  unfold gone hitL
  have h1 : decide (d = -1) = false := by simp; omega
  have h2 : decide (t = -1) = false := by simp; omega
  rw [h1, h2]
  simp

theorem hitL_eq {d t : Int} {x : Int × Int × Int} (h : hitL d t x = true) : x.1 = d ∧ x.2.1 = t := by simpa [hitL] using h

theorem flL_dropL {ls : List (Int × Int × Int)} {d t : Int} (hall : ∀ j, j < ls.length → atL ls (g3 ls j).1 (g3 ls j).2.1 = (j : Int)) (hd : 0 ≤ d) (ht : 0 ≤ t) : flL ls d t = dropL ls d t := by
  rcases hit_or ls d t ls.length with h | ⟨i, h1, h2, h3⟩
  · unfold dropL
    rw [atL_none h, if_pos (by omega)]
    unfold flL
    rw [List.filter_eq_self]
    intro y hy
    obtain ⟨j, hj, rfl⟩ := mem_g3 hy
    rw [gone_hit hd ht, h j hj]
    rfl
  · have hi : atL ls d t = (i : Int) := atL_hit h1 h2 h3
    have huniq : ∀ j, j < ls.length → hitL d t (g3 ls j) = true → j = i := fun j hj hh => by
      have := hall j hj
      rw [(hitL_eq hh).1, (hitL_eq hh).2, hi] at this
      omega
    unfold dropL
    rw [hi, if_neg (by omega), Int.toNat_natCast, List.eraseIdx_eq_take_drop_succ]
    have hsplit : ls = ls.take i ++ (g3 ls i :: ls.drop (i + 1)) := by
      have : g3 ls i = ls[i] := by simp [g3, h1]
      rw [this, List.getElem_cons_drop, List.take_append_drop]
    have hno : ∀ y ∈ ls.take i, (!gone d t y) = true := fun y hy => by
      obtain ⟨j, hj, rfl⟩ := mem_g3 hy
      rw [List.length_take] at hj
      rw [g3_take ls (by omega), gone_hit hd ht, h2 j (by omega)]
      rfl
    have hno2 : ∀ y ∈ ls.drop (i + 1), (!gone d t y) = true := fun y hy => by
      obtain ⟨j, hj, rfl⟩ := mem_g3 hy
      rw [List.length_drop] at hj
      have e : g3 (ls.drop (i + 1)) j = g3 ls (i + 1 + j) := by simp [g3]
      rw [e, gone_hit hd ht]
      cases hh : hitL d t (g3 ls (i + 1 + j)) with
      | false => rfl
      | true => have := huniq _ (by omega) hh; omega
    have hg : (!gone d t (g3 ls i)) = false := by rw [gone_hit hd ht, h3]; rfl
    show ls.filter _ = _
    conv => lhs; rw [hsplit]
    rw [List.filter_append, List.filter_cons, if_neg (by rw [hg]; simp), List.filter_eq_self.2 hno, List.filter_eq_self.2 hno2]

theorem length_dropL (ls : List (Int × Int × Int)) (d t : Int) : (dropL ls d t).length ≤ ls.length := by
  unfold dropL
  split
  · exact Nat.le_refl _
  · exact List.length_eraseIdx_le _ _

theorem dropL_no {ls : List (Int × Int × Int)} {d t : Int} (h : atL ls d t < 0) : dropL ls d t = ls := if_pos h

theorem dropL_at {ls : List (Int × Int × Int)} {d t : Int} {i : Nat} (h : atL ls d t = (i : Int)) : dropL ls d t = ls.eraseIdx i := by
  unfold dropL
  rw [h, if_neg (by omega)]
  rfl

theorem fiL_zero {s : Int} {ls : List (Int × Int × Int)} {x : Int × Int × Int} {p : Int} (h : s = 0) : fiL s ls x p = [] := if_pos h

theorem fiL_full {s : Int} {ls ks : List (Int × Int × Int)} {x : Int × Int × Int} {p : Int} (h : s ≠ 0) (hk : dropL ls x.1 x.2.1 = ks) (hf : s ≤ (ks.length : Int)) : fiL s ls x p = evL ks p ++ [x] := by
  unfold fiL
  rw [if_neg h, hk, if_pos hf]

theorem fiL_room {s : Int} {ls ks : List (Int × Int × Int)} {x : Int × Int × Int} {p : Int} (h : s ≠ 0) (hk : dropL ls x.1 x.2.1 = ks) (hf : ¬ s ≤ (ks.length : Int)) : fiL s ls x p = ks ++ [x] := by
  unfold fiL
  rw [if_neg h, hk, if_neg hf]

theorem fiC_fault {s : Int} {ls : List (Int × Int × Int)} {x : Int × Int × Int} {p : Int} (h : faultC s ls ≠ 0) : fiC s ls x p = faultC s ls := if_neg h

theorem fiC_bad {s : Int} {ls : List (Int × Int × Int)} {x : Int × Int × Int} {p : Int} (h : faultC s ls = 0) (h2 : okL x = false ∨ p < 0) : fiC s ls x p = 3 := by
  unfold fiC
  rw [if_pos h, if_pos h2]

theorem fiC_ok {s : Int} {ls : List (Int × Int × Int)} {x : Int × Int × Int} {p : Int} (h : faultC s ls = 0) (h2 : okL x = true) (h3 : 0 ≤ p) : fiC s ls x p = 0 := by
  unfold fiC
  rw [if_pos h, if_neg (by rw [h2]; simp; omega)]

theorem okL_nonneg {x : Int × Int × Int} (h : okL x = true) : 0 ≤ x.1 ∧ 0 ≤ x.2.1 := by
  simp [okL] at h
  exact ⟨h.1.1.1, h.1.2.1⟩

theorem length_fiL {s : Int} {ls : List (Int × Int × Int)} (x : Int × Int × Int) (p : Int) (hn : ls.length ≤ 6) : (fiL s ls x p).length ≤ 7 := by
  have h1 := length_dropL ls x.1 x.2.1
  have h2 := length_evL (dropL ls x.1 x.2.1) p
  unfold fiL
  split
  · simp
  · split <;> simp <;> omega

end Go.Proofs.Ytlilbbkidaahlaa
