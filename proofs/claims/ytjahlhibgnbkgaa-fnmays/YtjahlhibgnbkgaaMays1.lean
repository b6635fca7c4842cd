import Derived.Test.YtjahlhibgnbkgaaModify
import Derived.WalkKit
import Derived.ProofKit
import Derived.OpenShut
import Derived.ShutString
import Derived.ChangeOld
import Derived.Below
import Derived.WalkSpells
import Derived.Deep.QuietTactic
import Derived.BigQuiet
import Derived.Deep.RegionWith
import Derived.Deep.WholeRow
import Derived.Deep.DeepCutAuto
import Derived.Deep.RegionHeld2
import Derived.Deep.AppendLies
import Derived.Deep.RegionLaw
namespace Go.Proofs.Ytjahlhibgnbkgaa
open Go.ChangeShapes Go.WideShapes Go.ChangeAt Go.RowKit

def thingK (zs : List Int) (k : Nat) : Bool := (List.range k).all (fun j => !(gt zs j == 0) && !(gt zs j == 5))

theorem thingK_zero (zs : List Int) : thingK zs 0 = true := rfl

theorem thingK_succ (zs : List Int) (k : Nat) : thingK zs (k + 1) = (thingK zs k && (!(gt zs k == 0) && !(gt zs k == 5))) := by
  unfold thingK
  rw [List.range_succ, List.all_append]
  simp

theorem thingK_full (zs : List Int) : thingK zs zs.length = thing0 zs := by
  cases h : thingK zs zs.length with
  | true =>
    refine (thing0_yes fun j hj => ?_).symm
    have := List.all_eq_true.1 h j (List.mem_range.2 hj)
    simpa using this
  | false =>
    obtain ⟨j, hj, hq⟩ := List.all_eq_false.1 h
    have hj' := List.mem_range.1 hj
    refine (thing0_no hj' ?_).symm
    by_cases e : gt zs j = 0
    · exact .inl e
    · exact .inr (by simpa [e] using hq)

theorem obsB_fault {xs ys : List Int} (h : obsB xs ys = true) : fault xs = 0 ∧ fault ys = 0 := by
  unfold obsB at h
  simp only [Bool.and_eq_true, beq_iff_eq] at h
  exact h.1

theorem modB_obs {xs ys : List Int} (h : modB xs ys = true) : obsB xs ys = true := by
  rw [modB_eq, Bool.and_eq_true] at h
  exact h.1

theorem modB_below {xs ys : List Int} (h : modB xs ys = true) : isBelowB xs ys = true := by
  rw [modB_eq, Bool.and_eq_true] at h
  exact h.2

theorem obsB_thing {xs ys : List Int} (h : obsB xs ys = true) : thing0 ys = true := by
  unfold obsB at h
  simp only [Bool.and_eq_true, beq_iff_eq] at h
  exact h.2.1

theorem highL_not {xs : List Int} (h : has xs 0 = false) : highL xs = xs := by
  apply getD_ext (length_highL xs)
  intro i hi
  rw [length_highL] at hi
  rw [gt_highL xs i hi]
  split
  · rename_i e
    rw [has_yes hi e] at h
    cases h
  · rfl

theorem obsB_plain {xs ys : List Int} (hx : fault xs = 0) (hy : fault ys = 0) (ho : ownsB xs = false) (ht : thing0 ys = true) : obsB xs ys = isBelowB ys xs := by
  have hh : has xs 0 = false := by
    unfold ownsB at ho
    simpa [hx] using ho
  unfold obsB isBelowB
  rw [highL_not hh, hx, hy, ht]
  simp

end Go.Proofs.Ytjahlhibgnbkgaa
