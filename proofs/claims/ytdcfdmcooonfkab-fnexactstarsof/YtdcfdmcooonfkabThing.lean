import Derived.Test.YtdcfdmcooonfkabBase
import Derived.WalkKit
import Derived.ProofKit
import Derived.OpenShut
import Derived.ShutString
import Derived.ChangeOld
import Derived.Below
import Derived.WalkSpells
import Derived.Deep.QuietTactic
import Derived.BigQuiet
import Derived.Deep.RegionWith
import Derived.Deep.WholeRow
import Derived.Deep.DeepCutAuto
import Derived.Deep.RegionHeld2
import Derived.Deep.AppendLies
import Derived.Deep.RegionLaw
namespace Go.Proofs.Ytdcfdmcooonfkab
open Go.ChangeShapes Go.WideShapes Go.ChangeAt Go.RowKit



def thingB (zs : List Int) : Bool := (fault zs == 0) && !has zs 0 && !has zs 5

def thing0 (zs : List Int) : Bool := !has zs 0 && !has zs 5

theorem thing0_no {zs : List Int} {k : Nat} (hk : k < zs.length) (h : gt zs k = 0 ∨ gt zs k = 5) : thing0 zs = false := by
  unfold thing0
  rcases h with h | h
  · rw [has_yes hk h]; rfl
  · rw [has_yes hk h]; simp

theorem thing0_yes {zs : List Int} (h : ∀ j, j < zs.length → gt zs j ≠ 0 ∧ gt zs j ≠ 5) : thing0 zs = true := by
  unfold thing0
  rw [has_no (fun j hj => (h j hj).1), has_no (fun j hj => (h j hj).2)]; rfl

end Go.Proofs.Ytdcfdmcooonfkab
