import Derived.Test.YtainblfjfmjclajMapB
import Derived.WalkKit
import Derived.ProofKit
import Derived.OpenShut
import Derived.ShutString
import Derived.ChangeOld
import Derived.Below
import Derived.WalkSpells
import Derived.Deep.QuietTactic
import Derived.BigQuiet
import Derived.Deep.RegionWith
import Derived.Deep.WholeRow
import Derived.Deep.DeepCutAuto
import Derived.Deep.RegionHeld2
import Derived.Deep.AppendLies
import Derived.Deep.RegionLaw
namespace Go.Proofs.Ytainblfjfmjclaj
open Go.ChangeShapes Go.WideShapes Go.ChangeAt Go.RowKit

theorem faultR_zero {ss : List (Int × List Int)} (h : faultR ss = 0) : ss.length ≤ 10 ∧ ∀ j, j < ss.length → slotF ss j = 0 := by
  unfold faultR at h
  split at h
  · cases h
  · rename_i h10
    refine ⟨by omega, fun j hj => ?_⟩
    split at h
    · rename_i i hi
      have := List.find?_some hi
      simp [h] at this
    · rename_i hi
      have := List.find?_eq_none.1 hi j (List.mem_range.2 hj)
      simpa using this

theorem at2_cases (ss : List (Int × List Int)) (zs : List Int) : at2 ss zs = -1 ∧ (∀ j, j < ss.length → hit ss zs j = false) ∨ ∃ j, j < ss.length ∧ at2 ss zs = (j : Int) ∧ hit ss zs j = true := by
  unfold at2
  split
  · rename_i i hi
    exact .inr ⟨i, List.mem_range.1 (List.mem_of_find?_eq_some hi), rfl, List.find?_some hi⟩
  · rename_i hi
    refine .inl ⟨rfl, fun j hj => ?_⟩
    have := List.find?_eq_none.1 hi j (List.mem_range.2 hj)
    simpa using this

/-- what a right label's look-up in the book of all slots finds. -/
theorem bk_found {ss : List (Int × List Int)} {zs : List Int} (hr : faultR ss = 0) (hz : fault zs = 0) :
    (at2 ss zs = -1 ∧ Go.Maps.has (bk ss ss.length) (kl zs) = false) ∨ ∃ j, j < ss.length ∧ at2 ss zs = (j : Int) ∧ Go.Maps.has (bk ss ss.length) (kl zs) = true ∧ ∀ z, (bk ss ss.length).atKey (kl zs) z = st (j : Int) (gc ss j) := by
  obtain ⟨_, hall⟩ := faultR_zero hr
  have hh := bk_has hz ss.length hall
  rcases at2_cases ss zs with ⟨h1, h2⟩ | ⟨j, hj, h1, h2⟩
  · refine .inl ⟨h1, ?_⟩
    cases hx : Go.Maps.has (bk ss ss.length) (kl zs)
    · rfl
    · obtain ⟨j, hj, hjh⟩ := hh.1 hx
      rw [h2 j hj] at hjh
      cases hjh
  · refine .inr ⟨j, hj, h1, hh.2 ⟨j, hj, h2⟩, fun z => bk_at hz z ss.length j hall hj h2 (fun i hi hih => ?_)⟩
    have hg : 0 < gc ss i ∧ gl ss i = zs := by simpa [hit] using hih
    have := (slotF_good (hall i hi) hg.1).2.1
    rw [hg.2, h1] at this
    omega

def codeFor (ss : List (Int × List Int)) (zs : List Int) : Int := if faultR ss = 0 then fault zs else faultR ss

def soC (ss : List (Int × List Int)) (zs : List Int) : Int := if codeFor ss zs = 0 then (if at2 ss zs < 0 then 4 else 0) else codeFor ss zs

def soV (ss : List (Int × List Int)) (zs : List Int) : Int := if codeFor ss zs = 0 then (if at2 ss zs < 0 then 0 else at2 ss zs) else 0

theorem codeFor_zero {ss : List (Int × List Int)} {zs : List Int} (h : codeFor ss zs = 0) : faultR ss = 0 ∧ fault zs = 0 := by
  unfold codeFor at h
  split at h
  · rename_i h1
    exact ⟨h1, h⟩
  · rename_i h1
    exact absurd h h1

end Go.Proofs.Ytainblfjfmjclaj
