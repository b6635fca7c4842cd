import Derived.Test.YtlilbbkidaahlaaFlushed
import Derived.Test.YtlilbbkidaahlaaChI2
import Derived.WalkKit
import Derived.ProofKit
import Derived.OpenShut
import Derived.ShutString
import Derived.ChangeOld
import Derived.Below
import Derived.WalkSpells
import Derived.Deep.QuietTactic
import Derived.BigQuiet
import Derived.Deep.RegionWith
import Derived.Deep.WholeRow
import Derived.Deep.DeepCutAuto
import Derived.Deep.RegionHeld2
import Derived.Deep.AppendLies
import Derived.Deep.RegionLaw
namespace Go.Proofs.Ytlilbbkidaahlaa
open Go.ChangeShapes Go.WideShapes Go.ChangeAt Go.RowKit

def cV (c n : Int) : Int := if c = 0 then n else 0

def cL (c : Int) (ls : List (Int × Int × Int)) : List (Int × Int × Int) := if c = 0 then ls else []

theorem cV_ok {c n : Int} (h : c = 0) : cV c n = n := if_pos h
theorem cV_no {c n : Int} (h : c ≠ 0) : cV c n = 0 := if_neg h
theorem cL_ok {c : Int} {ls : List (Int × Int × Int)} (h : c = 0) : cL c ls = ls := if_pos h
theorem cL_no {c : Int} {ls : List (Int × Int × Int)} (h : c ≠ 0) : cL c ls = [] := if_neg h

theorem OL.set4 {S : Nat → Prop} {a : Option Addr} {n : Nat} {ls : List (Int × Int × Int)} {w : World} (h : OL S a n ls w) {P : Nat} (hP : ¬ S P) (v0 v1 v2 v3 : Value) :
    OL S a n ls ((((w.setCell ⟨P, 0, none⟩ v0).setCell ⟨P, 1, none⟩ v1).setCell ⟨P, 2, none⟩ v2).setCell ⟨P, 3, none⟩ v3) :=
  OL.loc.setC (OL.loc.setC (OL.loc.setC (OL.loc.setC h (by exact hP) v0) (by exact hP) v1) (by exact hP) v2) (by exact hP) v3

theorem below_set4 {B : Nat} {w u : World} (h : Below B w u) {P : Nat} (hP : B ≤ P) (v0 v1 v2 v3 : Value) :
    Below B w ((((u.setCell ⟨P, 0, none⟩ v0).setCell ⟨P, 1, none⟩ v1).setCell ⟨P, 2, none⟩ v2).setCell ⟨P, 3, none⟩ v3) :=
  (((h.setCell (by exact hP) v0).setCell (by exact hP) v1).setCell (by exact hP) v2).setCell (by exact hP) v3

end Go.Proofs.Ytlilbbkidaahlaa
