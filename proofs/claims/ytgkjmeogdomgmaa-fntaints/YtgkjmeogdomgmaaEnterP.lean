import Derived.Test.YtgkjmeogdomgmaaFirstE
import Derived.WalkKit
import Derived.ProofKit
import Derived.OpenShut
import Derived.ShutString
import Derived.ChangeOld
import Derived.Below
import Derived.WalkSpells
import Derived.Deep.QuietTactic
import Derived.BigQuiet
import Derived.Deep.RegionWith
import Derived.Deep.WholeRow
import Derived.Deep.DeepCutAuto
import Derived.Deep.RegionHeld2
import Derived.Deep.AppendLies
import Derived.Deep.RegionLaw
namespace Go.Proofs.Ytgkjmeogdomgmaa
open Go.ChangeShapes Go.WideShapes Go.ChangeAt Go.RowKit

/-- a slot laid at place q: in the row, or behind it. -/
def layS (ss : List (Int × List Int)) (q : Nat) (x : Int × List Int) : List (Int × List Int) := if q < ss.length then ss.set q x else ss ++ [x]

theorem length_layS {ss : List (Int × List Int)} {q : Nat} (x : Int × List Int) (hq : q ≤ ss.length) : (layS ss q x).length = max ss.length (q + 1) := by
  unfold layS
  split
  · simp; omega
  · simp; omega

theorem gc_put {ss : List (Int × List Int)} {q : Nat} (x : Int × List Int) (hq : q ≤ ss.length) (j : Nat) : gc (layS ss q x) j = if j = q then x.1 else gc ss j := by
  unfold layS
  split
  · rename_i h; exact gc_set ss q j x h
  · have e : q = ss.length := by omega
    subst e
    unfold gc
    by_cases e : j = ss.length
    · subst e; simp
    · rw [if_neg e]
      by_cases h : j < ss.length
      · simp [h, List.getElem?_append_left]
      · simp only [List.getD_eq_getElem?_getD]
        rw [List.getElem?_eq_none (by simp; omega), List.getElem?_eq_none (by omega)]

theorem gl_put {ss : List (Int × List Int)} {q : Nat} (x : Int × List Int) (hq : q ≤ ss.length) (j : Nat) : gl (layS ss q x) j = if j = q then x.2 else gl ss j := by
  unfold layS
  split
  · rename_i h; exact gl_set ss q j x h
  · have e : q = ss.length := by omega
    subst e
    unfold gl
    by_cases e : j = ss.length
    · subst e; simp
    · rw [if_neg e]
      by_cases h : j < ss.length
      · simp [h, List.getElem?_append_left]
      · simp only [List.getD_eq_getElem?_getD]
        rw [List.getElem?_eq_none (by simp; omega), List.getElem?_eq_none (by omega)]

theorem good_put {ss : List (Int × List Int)} (g : Good ss) {q : Nat} (hq : q ≤ ss.length) (h10 : q < 10) {c : Int} {zs : List Int} (hz : fault zs = 0) (h1 : 1 ≤ c) (h99 : c ≤ 99) (hu : ∀ j, j < ss.length → 0 < gc ss j → gl ss j = zs → j = q) : Good (layS ss q (c, zs)) := by
  have hl := length_layS (c, zs) hq
  have few := g.few
  have lt : ∀ j, j < (layS ss q (c, zs)).length → j ≠ q → j < ss.length := fun j hj e => by omega
  refine ⟨by omega, fun j hj => ?_, fun j hj => ?_, fun j hj h0 => ?_, fun j hj h => ?_, fun i j hi hj pi pj e => ?_⟩
  · rw [gc_put _ hq]
    split
    · simp; omega
    · rename_i e; exact g.low j (lt j hj e)
  · rw [gc_put _ hq]
    split
    · exact h99
    · rename_i e; exact g.top j (lt j hj e)
  · rw [gc_put _ hq] at h0
    rw [gl_put _ hq]
    by_cases e : j = q
    · rw [if_pos e] at h0; simp at h0; omega
    · rw [if_neg e] at h0 ⊢; exact g.empty j (lt j hj e) h0
  · rw [gc_put _ hq] at h
    rw [gl_put _ hq]
    by_cases e : j = q
    · rw [if_pos e]; exact hz
    · rw [if_neg e] at h ⊢; exact g.right j (lt j hj e) h
  · rw [gc_put _ hq] at pi pj
    rw [gl_put _ hq, gl_put _ hq] at e
    by_cases ei : i = q
    · by_cases ej : j = q
      · omega
      · rw [if_neg ej] at pj e
        rw [if_pos ei] at e
        have := hu j (lt j hj ej) pj e.symm
        omega
    · rw [if_neg ei] at pi e
      by_cases ej : j = q
      · rw [if_pos ej] at e
        have := hu i (lt i hi ei) pi e
        omega
      · rw [if_neg ej] at pj e
        exact g.uniq i j (lt i hi ei) (lt j hj ej) pi pj e

theorem rep_put {ss : List (Int × List Int)} (g : Good ss) {D : DataW Unit} (r : Rep ss D) (hm : Go.Maps.IsMap D) {q : Nat} (hq : q ≤ ss.length) {c : Int} {zs : List Int} (hz : fault zs = 0) (h1 : 1 ≤ c) (hu : ∀ j, j < ss.length → 0 < gc ss j → gl ss j = zs → j = q) (ho : q < ss.length → 0 < gc ss q → gl ss q = zs) : Rep (layS ss q (c, zs)) (D.put (kl zs) (st (q : Int) c)) := by
  have hl := length_layS (c, zs) hq
  have lt : ∀ j, j < (layS ss q (c, zs)).length → j ≠ q → j < ss.length := fun j hj e => by omega
  have hql : q < (layS ss q (c, zs)).length := by omega
  have hne : ∀ j, j < ss.length → 0 < gc ss j → j ≠ q → kl (gl ss j) ≠ kl zs := fun j hj hpj e h => e (hu j hj hpj (kl_inj (g.right j hj hpj) hz h))
  refine ⟨fun k => ?_, fun j hj hpj z => ?_⟩
  · by_cases hk : k = kl zs
    · rw [hk, Go.Maps.has_put_same hm (kl_key _)]
      exact ⟨fun _ => ⟨q, hql, by rw [gc_put _ hq, if_pos rfl]; exact (by omega : 0 < c), by rw [gl_put _ hq, if_pos rfl]⟩, fun _ => rfl⟩
    · rw [Go.Maps.has_put_other hk, r.keys k]
      constructor
      · rintro ⟨j, hj, hpj, rfl⟩
        have e : j ≠ q := fun e => hk (by rw [e, ho (e ▸ hj) (e ▸ hpj)])
        exact ⟨j, by omega, by rw [gc_put _ hq, if_neg e]; exact hpj, by rw [gl_put _ hq, if_neg e]⟩
      · rintro ⟨j, hj, hpj, rfl⟩
        have e : j ≠ q := fun e => hk (by rw [gl_put _ hq, if_pos e])
        rw [gc_put _ hq, if_neg e] at hpj
        exact ⟨j, lt j hj e, hpj, by rw [gl_put _ hq, if_neg e]⟩
  · rw [gc_put _ hq] at hpj ⊢
    rw [gl_put _ hq]
    by_cases e : j = q
    · rw [if_pos e, if_pos e, Go.Maps.atKey_put_same hm (kl_key _), e]
    · rw [if_neg e] at hpj
      rw [if_neg e, if_neg e, Go.Maps.atKey_put_other (hne j (lt j hj e) hpj e)]
      exact r.vals j (lt j hj e) hpj z

/-- where a label would stand, and how often it is meant till now. -/
def enQ (ss : List (Int × List Int)) (zs : List Int) : Nat := if at2 ss zs < 0 then fe ss else (at2 ss zs).toNat

def enN (ss : List (Int × List Int)) (zs : List Int) : Int := if at2 ss zs < 0 then 0 else gc ss (at2 ss zs).toNat

def etC (ss : List (Int × List Int)) (zs : List Int) : Int := if enQ ss zs = 10 ∨ enN ss zs = 99 then 7 else 0

def enS (ss : List (Int × List Int)) (zs : List Int) : List (Int × List Int) := layS ss (enQ ss zs) (enN ss zs + 1, zs)

theorem fe_le (ss : List (Int × List Int)) : fe ss ≤ ss.length := List.findIdx_le_length

theorem fe_gc {ss : List (Int × List Int)} (h : fe ss < ss.length) : gc ss (fe ss) = 0 := by
  have := List.findIdx_getElem (w := h)
  unfold gc
  unfold fe at h ⊢
  simpa [h] using this

theorem en_facts {ss : List (Int × List Int)} (g : Good ss) {zs : List Int} :
    enQ ss zs ≤ ss.length ∧ 0 ≤ enN ss zs ∧ enN ss zs ≤ 99 ∧ (∀ j, j < ss.length → 0 < gc ss j → gl ss j = zs → j = enQ ss zs) ∧ (enQ ss zs < ss.length → 0 < gc ss (enQ ss zs) → gl ss (enQ ss zs) = zs) := by
  rcases at2_cases ss zs with ⟨h1, h2⟩ | ⟨j, hj, h1, h2⟩
  · have e1 : enQ ss zs = fe ss := if_pos (by omega)
    have e2 : enN ss zs = 0 := if_pos (by omega)
    rw [e1, e2]
    refine ⟨fe_le ss, by omega, by omega, fun j hj hp e => ?_, fun h hp => ?_⟩
    · have := h2 j hj
      simp [hit, hp, e] at this
    · rw [fe_gc h] at hp
      omega
  · have hh : 0 < gc ss j ∧ gl ss j = zs := by simpa [hit] using h2
    have e1 : enQ ss zs = j := by unfold enQ; rw [if_neg (by omega), h1]; omega
    have e2 : enN ss zs = gc ss j := by unfold enN; rw [if_neg (by omega), h1]; rfl
    rw [e1, e2]
    exact ⟨by omega, g.low j hj, g.top j hj, fun i hi hp e => g.uniq i j hi hj hp hh.1 (by rw [e, hh.2]), fun _ _ => hh.2⟩

theorem good_enter {ss : List (Int × List Int)} (g : Good ss) {zs : List Int} (hz : fault zs = 0) (h : etC ss zs = 0) : Good (enS ss zs) := by
  obtain ⟨h1, h2, h3, h4, _⟩ := en_facts g (zs := zs)
  have hn : ¬ (enQ ss zs = 10 ∨ enN ss zs = 99) := fun e => by unfold etC at h; rw [if_pos e] at h; cases h
  have := g.few
  exact good_put g h1 (by omega) hz (by omega) (by omega) h4

theorem rep_enter {ss : List (Int × List Int)} (g : Good ss) {D : DataW Unit} (r : Rep ss D) (hm : Go.Maps.IsMap D) {zs : List Int} (hz : fault zs = 0) : Rep (enS ss zs) (D.put (kl zs) (st (enQ ss zs : Int) (enN ss zs + 1))) := by
  obtain ⟨h1, h2, h3, h4, h5⟩ := en_facts g (zs := zs)
  exact rep_put g r hm h1 hz (by omega) h4 h5

end Go.Proofs.Ytgkjmeogdomgmaa
