import Derived.Test.YtainblfjfmjclajEqReg
import Derived.Test.YtainblfjfmjclajRegO
import Derived.WalkKit
import Derived.ProofKit
import Derived.OpenShut
import Derived.ShutString
import Derived.ChangeOld
import Derived.Below
import Derived.WalkSpells
import Derived.Deep.QuietTactic
import Derived.BigQuiet
import Derived.Deep.RegionWith
import Derived.Deep.WholeRow
import Derived.Deep.DeepCutAuto
import Derived.Deep.RegionHeld2
import Derived.Deep.AppendLies
import Derived.Deep.RegionLaw
namespace Go.Proofs.Ytainblfjfmjclaj
open Go.ChangeShapes Go.WideShapes Go.ChangeAt Go.RowKit

theorem eqRegistry_O (S S' : Nat → Prop) (a b : Option Addr) (n ca cb : Nat) (ss : List (Int × List Int)) (w : World) (hx : OR S a n ss w) (hy : OR S' b n ss w) :
    Calls Try.prog 47 #[.agg #[.slice a n ca], .agg #[.slice b n cb]] w fun e w' => e = .returned (.bool true) ∧ Below w.heap.size w w' :=
  eqRegistry_calls a b n ca cb ss w (by have := hx.2.1; unfold maxLen; omega) hx.sls hy.sls

end Go.Proofs.Ytainblfjfmjclaj
