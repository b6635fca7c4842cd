import Derived.Test.YtcojgmecocjnkaaChI2
import Derived.WalkKit
import Derived.ProofKit
import Derived.OpenShut
import Derived.ShutString
import Derived.ChangeOld
import Derived.Below
import Derived.WalkSpells
import Derived.Deep.QuietTactic
import Derived.BigQuiet
import Derived.Deep.RegionWith
import Derived.Deep.WholeRow
import Derived.Deep.DeepCutAuto
import Derived.Deep.RegionHeld2
import Derived.Deep.AppendLies
import Derived.Deep.RegionLaw
namespace Go.Proofs.Ytcojgmecocjnkaa
open Go.ChangeShapes Go.WideShapes Go.ChangeAt Go.RowKit


def lkC (s : Int) (ls : List (Int × Int × Int)) (d t : Int) : Int := if faultC s ls = 0 then (if atL ls d t < 0 then 4 else 0) else faultC s ls

def lkV (s : Int) (ls : List (Int × Int × Int)) (d t : Int) : Int := if faultC s ls = 0 then (if atL ls d t < 0 then 0 else (g3 ls (atL ls d t).toNat).2.2) else 0

end Go.Proofs.Ytcojgmecocjnkaa
