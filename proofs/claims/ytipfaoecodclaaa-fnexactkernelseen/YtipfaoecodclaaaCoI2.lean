import Derived.Test.YtipfaoecodclaaaCoI
import Derived.WalkKit
import Derived.ProofKit
import Derived.OpenShut
import Derived.ShutString
import Derived.ChangeOld
import Derived.Below
import Derived.WalkSpells
import Derived.Deep.QuietTactic
import Derived.BigQuiet
import Derived.Deep.RegionWith
import Derived.Deep.WholeRow
import Derived.Deep.DeepCutAuto
import Derived.Deep.RegionHeld2
import Derived.Deep.AppendLies
import Derived.Deep.RegionLaw
namespace Go.Proofs.Ytipfaoecodclaaa
open Go.ChangeShapes Go.WideShapes Go.ChangeAt Go.RowKit

theorem v7_lt {x : OB} {a1 a2 : Option Addr} {c1 c2 j : Nat} {u : Value} (h : (v7 x a1 c1 a2 c2)[j]? = some u) : j < 7 := by have := (List.getElem?_eq_some_iff.1 h).1; simpa [v7] using this

/-- the label of the object k is written. -/
theorem CH.label {wr : World} {B : Nat} {f : Nat → OB} {k n g c : Nat} {la : Nat → Option Addr} {lc lb : Nat → Nat} {xs : List Value} (h : CH wr B f k n g c la lc lb xs) (hk : k < n) (ra : Option Addr) (rc : Nat) : CH (wr.setCell ⟨g, k * 7 + 3, none⟩ (.slice ra (f k).2.2.2.1.length rc)) B f k n g c la lc lb (xs.set (k * 7 + 3) (.slice ra (f k).2.2.2.1.length rc)) ∧ (xs.set (k * 7 + 3) (.slice ra (f k).2.2.2.1.length rc))[k * 7 + 3]? = some (.slice ra (f k).2.2.2.1.length rc) := by
  have hl : xs.length = n * 7 := h.own.1
  refine ⟨⟨(h.own.stored _ _).1, fun i hi j u hu => ?_, fun i hi hin => ?_, fun q hq => OS.loc.setC (h.os q hq) (fun e => (h.ge q hq e.2).2.2 (by rw [← e.1])) _, fun q hq hl2 => by have := h.ge q hq hl2; simpa using this, h.ap⟩, by rw [List.getElem?_set_self (by omega)]⟩
  · have := v7_lt hu
    rw [List.getElem?_set_ne (by omega)]
    exact h.x i hi j u hu
  · obtain ⟨l1, c1, l2, c2, h1⟩ := h.y i hi hin
    by_cases e : i = k
    · subst e
      refine ⟨ra, rc, l2, c2, fun j u hu => ?_⟩
      have hj := v7_lt hu
      by_cases e3 : j = 3
      · subst e3
        rw [List.getElem?_set_self (by omega)]
        simpa [v7] using hu
      · rw [List.getElem?_set_ne (by omega)]
        refine h1 j u ?_
        match j, hj, e3, hu with
        | 0, _, _, hu => simpa [v7] using hu
        | 1, _, _, hu => simpa [v7] using hu
        | 2, _, _, hu => simpa [v7] using hu
        | 4, _, _, hu => simpa [v7] using hu
        | 5, _, _, hu => simpa [v7] using hu
        | 6, _, _, hu => simpa [v7] using hu
    · refine ⟨l1, c1, l2, c2, fun j u hu => ?_⟩
      have hj := v7_lt hu
      rw [List.getElem?_set_ne (by omega)]
      exact h1 j u hu

/-- the data of the object k is written: one object more has its own. -/
theorem CH.next {wr : World} {B : Nat} {f : Nat → OB} {k n g c : Nat} {la : Nat → Option Addr} {lc lb : Nat → Nat} {xs : List Value} (h : CH wr B f k n g c la lc lb xs) (hk : k < n) {a1 a2 : Option Addr} {c1 c2 b1 b2 : Nat} (h3 : xs[k * 7 + 3]? = some (.slice a1 (f k).2.2.2.1.length c1))
    (o1 : OS (fun b => b = b1 ∧ 0 < (f k).2.2.2.1.length) a1 (f k).2.2.2.1.length (f k).2.2.2.1 wr) (o2 : OS (fun b => b = b2 ∧ 0 < (f k).2.2.2.2.2.2.length) a2 (f k).2.2.2.2.2.2.length (f k).2.2.2.2.2.2 wr)
    (g1 : 0 < (f k).2.2.2.1.length → B ≤ b1 ∧ b1 < wr.heap.size ∧ b1 ≠ g ∧ ∀ q, q < 2 * k → 0 < (sbO f q).length → lb q ≠ b1)
    (g2 : 0 < (f k).2.2.2.2.2.2.length → B ≤ b2 ∧ b2 < wr.heap.size ∧ b2 ≠ g ∧ ∀ q, q < 2 * k → 0 < (sbO f q).length → lb q ≠ b2)
    (g12 : 0 < (f k).2.2.2.1.length → 0 < (f k).2.2.2.2.2.2.length → b1 ≠ b2) :
    ∃ la' lc' lb', CH (wr.setCell ⟨g, k * 7 + 6, none⟩ (.slice a2 (f k).2.2.2.2.2.2.length c2)) B f (k + 1) n g c la' lc' lb' (xs.set (k * 7 + 6) (.slice a2 (f k).2.2.2.2.2.2.length c2)) := by
  have hl : xs.length = n * 7 := h.own.1
  have s1 : sbO f (2 * k) = (f k).2.2.2.1 := sbO_l f k
  have s2 : sbO f (2 * k + 1) = (f k).2.2.2.2.2.2 := sbO_d f k
  refine ⟨fun q => if q = 2 * k then a1 else if q = 2 * k + 1 then a2 else la q, fun q => if q = 2 * k then c1 else if q = 2 * k + 1 then c2 else lc q, fun q => if q = 2 * k then b1 else if q = 2 * k + 1 then b2 else lb q, (h.own.stored _ _).1, fun i hi j u hu => ?_, fun i hi hin => ?_, fun q hq => ?_, fun q hq hl2 => ?_, fun q r hq hr hqr lq lr => ?_⟩
  · have hj := v7_lt hu
    by_cases e : i = k
    · subst e
      simp only [if_true, if_neg (show ¬ 2 * i + 1 = 2 * i by omega)] at hu
      obtain ⟨l1, d1, l2, d2, h1⟩ := h.y i (Nat.le_refl _) hk
      match j, hj, hu with
      | 0, _, hu => rw [List.getElem?_set_ne (by omega)]; exact h1 0 u (by simpa [v7] using hu)
      | 1, _, hu => rw [List.getElem?_set_ne (by omega)]; exact h1 1 u (by simpa [v7] using hu)
      | 2, _, hu => rw [List.getElem?_set_ne (by omega)]; exact h1 2 u (by simpa [v7] using hu)
      | 3, _, hu => rw [List.getElem?_set_ne (by omega), h3]; simpa [v7] using hu
      | 4, _, hu => rw [List.getElem?_set_ne (by omega)]; exact h1 4 u (by simpa [v7] using hu)
      | 5, _, hu => rw [List.getElem?_set_ne (by omega)]; exact h1 5 u (by simpa [v7] using hu)
      | 6, _, hu => rw [List.getElem?_set_self (by omega)]; simpa [v7] using hu
    · simp only [if_neg (show ¬ 2 * i = 2 * k by omega), if_neg (show ¬ 2 * i = 2 * k + 1 by omega), if_neg (show ¬ 2 * i + 1 = 2 * k by omega), if_neg (show ¬ 2 * i + 1 = 2 * k + 1 by omega)] at hu
      rw [List.getElem?_set_ne (by omega)]
      exact h.x i (by omega) j u hu
  · obtain ⟨l1, d1, l2, d2, h1⟩ := h.y i (by omega) hin
    refine ⟨l1, d1, l2, d2, fun j u hu => ?_⟩
    have hj := v7_lt hu
    rw [List.getElem?_set_ne (by omega)]
    exact h1 j u hu
  · by_cases e1 : q = 2 * k
    · subst e1
      simp only [if_true]
      rw [s1]
      exact OS.loc.setC o1 (fun e => (g1 e.2).2.2.1 (by rw [← e.1])) _
    · by_cases e2 : q = 2 * k + 1
      · subst e2
        simp only [if_neg (show ¬ 2 * k + 1 = 2 * k by omega), if_true]
        rw [s2]
        exact OS.loc.setC o2 (fun e => (g2 e.2).2.2.1 (by rw [← e.1])) _
      · simp only [if_neg e1, if_neg e2]
        exact OS.loc.setC (h.os q (by omega)) (fun e => (h.ge q (by omega) e.2).2.2 (by rw [← e.1])) _
  · by_cases e1 : q = 2 * k
    · subst e1; rw [s1] at hl2; rw [if_pos rfl]; have := g1 hl2; simp; omega
    · by_cases e2 : q = 2 * k + 1
      · subst e2; rw [s2] at hl2; rw [if_neg (by omega), if_pos rfl]; have := g2 hl2; simp; omega
      · rw [if_neg e1, if_neg e2]; have := h.ge q (by omega) hl2; simpa using this
  · have far1 : ∀ q, q < 2 * k → 0 < (sbO f q).length → 0 < (sbO f (2 * k)).length → lb q ≠ b1 := fun q hq h1 h2 => (g1 (by rw [s1] at h2; exact h2)).2.2.2 q hq h1
    have far2 : ∀ q, q < 2 * k → 0 < (sbO f q).length → 0 < (sbO f (2 * k + 1)).length → lb q ≠ b2 := fun q hq h1 h2 => (g2 (by rw [s2] at h2; exact h2)).2.2.2 q hq h1
    have far : 0 < (sbO f (2 * k)).length → 0 < (sbO f (2 * k + 1)).length → b1 ≠ b2 := fun h1 h2 => g12 (by rw [s1] at h1; exact h1) (by rw [s2] at h2; exact h2)
    by_cases q1 : q = 2 * k
    · by_cases r2 : r = 2 * k + 1
      · rw [if_pos q1, if_neg (by omega), if_pos r2]; subst q1 r2; exact far lq lr
      · rw [if_pos q1, if_neg (by omega), if_neg r2]; subst q1; exact (far1 r (by omega) lr lq).symm
    · by_cases q2 : q = 2 * k + 1
      · by_cases r1 : r = 2 * k
        · rw [if_neg q1, if_pos q2, if_pos r1]; subst q2 r1; exact (far lr lq).symm
        · rw [if_neg q1, if_pos q2, if_neg r1, if_neg (by omega)]; subst q2; exact (far2 r (by omega) lr lq).symm
      · by_cases r1 : r = 2 * k
        · rw [if_neg q1, if_neg q2, if_pos r1]; subst r1; exact far1 q (by omega) lq lr
        · by_cases r2 : r = 2 * k + 1
          · rw [if_neg q1, if_neg q2, if_neg r1, if_pos r2]; subst r2; exact far2 q (by omega) lq lr
          · rw [if_neg q1, if_neg q2, if_neg r1, if_neg r2]; exact h.ap q r (by omega) (by omega) hqr lq lr

end Go.Proofs.Ytipfaoecodclaaa
