import Derived.Test.YtgkjmeogdomgmaaL3Fault
import Derived.WalkKit
import Derived.ProofKit
import Derived.OpenShut
import Derived.ShutString
import Derived.ChangeOld
import Derived.Below
import Derived.WalkSpells
import Derived.Deep.QuietTactic
import Derived.BigQuiet
import Derived.Deep.RegionWith
import Derived.Deep.WholeRow
import Derived.Deep.DeepCutAuto
import Derived.Deep.RegionHeld2
import Derived.Deep.AppendLies
import Derived.Deep.RegionLaw
namespace Go.Proofs.Ytgkjmeogdomgmaa
open Go.ChangeShapes Go.WideShapes Go.ChangeAt Go.RowKit

theorem tabF_zero {ss : List (Int × List Int)} {ts ds : List Int} (h : tabF ss ts ds = 0) : faultR ss = 0 ∧ manyB ts ds = false ∧ allS ss ts = true ∧ allS ss ds = true ∧ thingsB (labs ss ts) = true ∧ lowsB (labs ss ds) = true ∧ cntB ss ts ds = true := by
  unfold tabF at h
  split at h
  · rename_i hr
    split at h
    · cases h
    · rename_i hm
      unfold ledF at h
      split at h
      · rename_i h1
        split at h
        · rename_i h2
          split at h
          · rename_i h3
            simp at h1 h2 hm
            exact ⟨hr, hm, h1.1, h1.2, h2.1, h2.2, h3⟩
          · cases h
        · cases h
      · cases h
  · rename_i hr
    exact absurd h hr

theorem many_len {ts ds : List Int} (h : manyB ts ds = false) : ts.length ≤ 6 ∧ ds.length ≤ 4 := by
  unfold manyB at h
  simp at h
  exact h

def inC (l : List Int) (i : Int) : Int := if 0 ≤ i ∧ i < (l.length : Int) then 0 else 4

def inL (ss : List (Int × List Int)) (l : List Int) (i : Int) : List Int := if inC l i = 0 then atL ss (gt l i.toNat) else []

theorem inC_yes {l : List Int} {j : Nat} (h : j < l.length) : inC l (j : Int) = 0 := if_pos (by omega)

theorem inC_no {l : List Int} {i : Int} (h : ¬ (0 ≤ i ∧ i < (l.length : Int))) : inC l i = 4 := if_neg h

theorem inL_yes {ss : List (Int × List Int)} {l : List Int} {j : Nat} (h : j < l.length) : inL ss l (j : Int) = atL ss (gt l j) := by
  unfold inL
  rw [inC_yes h]
  rfl

theorem inL_no {ss : List (Int × List Int)} {l : List Int} {i : Int} (h : ¬ (0 ≤ i ∧ i < (l.length : Int))) : inL ss l i = [] := by
  unfold inL
  rw [inC_no h]
  rfl

def tgC (ss : List (Int × List Int)) (ts ds l : List Int) (i : Int) : Int := if tabF ss ts ds = 0 then inC l i else tabF ss ts ds

def tgL (ss : List (Int × List Int)) (ts ds l : List Int) (i : Int) : List Int := if tabF ss ts ds = 0 then inL ss l i else []

theorem tgC_ok {ss : List (Int × List Int)} {ts ds l : List Int} {i : Int} (h : tabF ss ts ds = 0) : tgC ss ts ds l i = inC l i := if_pos h

theorem tgC_bad {ss : List (Int × List Int)} {ts ds l : List Int} {i : Int} (h : tabF ss ts ds ≠ 0) : tgC ss ts ds l i = tabF ss ts ds := if_neg h

theorem tgL_ok {ss : List (Int × List Int)} {ts ds l : List Int} {i : Int} (h : tabF ss ts ds = 0) : tgL ss ts ds l i = inL ss l i := if_pos h

theorem tgL_bad {ss : List (Int × List Int)} {ts ds l : List Int} {i : Int} (h : tabF ss ts ds ≠ 0) : tgL ss ts ds l i = [] := if_neg h

theorem atC_all {ss : List (Int × List Int)} {l : List Int} (h : allS ss l = true) {j : Nat} (hj : j < l.length) : atC ss (gt l j) = 0 := by
  have h1 := all_get (d := 0) h hj
  simpa [okS, gt] using h1

end Go.Proofs.Ytgkjmeogdomgmaa
