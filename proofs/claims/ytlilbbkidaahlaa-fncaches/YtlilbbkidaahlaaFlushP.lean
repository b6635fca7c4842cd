import Derived.Test.YtlilbbkidaahlaaRowP
import Derived.WalkKit
import Derived.ProofKit
import Derived.OpenShut
import Derived.ShutString
import Derived.ChangeOld
import Derived.Below
import Derived.WalkSpells
import Derived.Deep.QuietTactic
import Derived.BigQuiet
import Derived.Deep.RegionWith
import Derived.Deep.WholeRow
import Derived.Deep.DeepCutAuto
import Derived.Deep.RegionHeld2
import Derived.Deep.AppendLies
import Derived.Deep.RegionLaw
namespace Go.Proofs.Ytlilbbkidaahlaa
open Go.ChangeShapes Go.WideShapes Go.ChangeAt Go.RowKit

/-- a line is of d and t, where -1 is of any. -/
def gone (d t : Int) (x : Int × Int × Int) : Bool := (decide (d = -1) || decide (x.1 = d)) && (decide (t = -1) || decide (x.2.1 = t))

def flL (ls : List (Int × Int × Int)) (d t : Int) : List (Int × Int × Int) := ls.filter (fun x => !gone d t x)

theorem take_snoc3 (ls : List (Int × Int × Int)) (k : Nat) (h : k < ls.length) : ls.take (k + 1) = ls.take k ++ [g3 ls k] := by
  rw [List.take_succ_eq_append_getElem h]
  simp [g3, h]

theorem flL_keep {ls : List (Int × Int × Int)} {d t : Int} {k : Nat} (h : k < ls.length) (hg : gone d t (g3 ls k) = false) : flL (ls.take (k + 1)) d t = flL (ls.take k) d t ++ [g3 ls k] := by
  rw [take_snoc3 ls k h]
  simp [flL, hg]

theorem flL_drop {ls : List (Int × Int × Int)} {d t : Int} {k : Nat} (h : k < ls.length) (hg : gone d t (g3 ls k) = true) : flL (ls.take (k + 1)) d t = flL (ls.take k) d t := by
  rw [take_snoc3 ls k h]
  simp [flL, hg]

theorem length_flL (ls : List (Int × Int × Int)) (d t : Int) (k : Nat) : (flL (ls.take k) d t).length ≤ k := by
  have h1 := List.length_filter_le (fun x => !gone d t x) (ls.take k)
  have h2 := List.length_take_le k ls
  unfold flL
  omega

theorem length_flL' (ls : List (Int × Int × Int)) (d t : Int) : (flL ls d t).length ≤ ls.length := List.length_filter_le _ _

end Go.Proofs.Ytlilbbkidaahlaa
