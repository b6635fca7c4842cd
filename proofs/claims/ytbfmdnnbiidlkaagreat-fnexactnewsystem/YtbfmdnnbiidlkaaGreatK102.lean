import Derived.Test.YtbfmdnnbiidlkaaGreatK17
import Derived.WalkKit
import Derived.ProofKit
import Derived.OpenShut
import Derived.ShutString
import Derived.ChangeOld
import Derived.Below
import Derived.WalkSpells
import Derived.Deep.QuietTactic
import Derived.BigQuiet
import Derived.Deep.RegionWith
import Derived.Deep.WholeRow
import Derived.Deep.DeepCutAuto
import Derived.Deep.RegionHeld2
import Derived.Deep.AppendLies
import Derived.Deep.RegionLaw
namespace Go.Proofs.YtbfmdnnbiidlkaaGreat
open Go.ChangeShapes Go.WideShapes Go.ChangeAt Go.RowKit
/-- the cells of a block from o on. -/
def CsO (P o : Nat) (vs : List Value) (w : World) : Prop := ∀ i, i < vs.length → w.cell? ⟨P, o + i, none⟩ = some (vs.getD i undef)

theorem CsO.cell {P o : Nat} {vs : List Value} {w : World} (h : CsO P o vs w) (i : Nat) {v : Value} (hv : vs[i]? = some v) : w.cell? ⟨P, o + i, none⟩ = some v := by
  obtain ⟨hi, e⟩ := List.getElem?_eq_some_iff.1 hv
  rw [h i hi]
  simp [hi, e]

/-- the rows of a cache that a step goes on with: few, each one within its bounds. -/
def LB (ls : List (Int × Int × Int)) : Prop := ls.length ≤ 8 ∧ ∀ j, j < ls.length → okL (g3 ls j) = true

theorem LB.of {s : Int} {ls : List (Int × Int × Int)} (h : faultC s ls = 0) : LB ls := by
  obtain ⟨h1, h2, h3, h4⟩ := faultC_inv h
  exact ⟨by omega, fun j hj => (h4 j hj).1⟩

end Go.Proofs.YtbfmdnnbiidlkaaGreat
