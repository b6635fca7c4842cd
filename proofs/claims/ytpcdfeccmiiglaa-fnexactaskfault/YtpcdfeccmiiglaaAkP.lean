import Derived.Test.YtpcdfeccmiiglaaKiA
import Derived.WalkKit
import Derived.ProofKit
import Derived.OpenShut
import Derived.ShutString
import Derived.ChangeOld
import Derived.Below
import Derived.WalkSpells
import Derived.Deep.QuietTactic
import Derived.BigQuiet
import Derived.Deep.RegionWith
import Derived.Deep.WholeRow
import Derived.Deep.DeepCutAuto
import Derived.Deep.RegionHeld2
import Derived.Deep.AppendLies
import Derived.Deep.RegionLaw
namespace Go.Proofs.Ytpcdfeccmiiglaa
open Go.ChangeShapes Go.WideShapes Go.ChangeAt Go.RowKit

/-- an ask: where its slices lie. -/
structure AkA where
  pa : Option Addr
  pn : Nat
  pc : Nat
  la : Option Addr
  ln : Nat
  lc : Nat
  da : Option Addr
  dn : Nat
  dc : Nat

/-- an ask: what it reads as. -/
structure AkD where
  kd : Int
  ps : List Int
  wh : Int
  ls : List Int
  qu : Int
  po : Int
  nn : Int
  ds : List Int

/-- an ask that reads as D. -/
structure RK (w : World) (A : AkA) (D : AkD) : Prop where
  pm : A.pn ≤ maxLen
  ps : Sl w A.pa A.pn D.ps
  lm : A.ln ≤ maxLen
  ls : Sl w A.la A.ln D.ls
  dm : A.dn ≤ maxLen
  ds : Sl w A.da A.dn D.ds

theorem RK.below {w w' : World} {A : AkA} {D : AkD} (h : RK w A D) {B : Nat} (hb : Below B w w') (hB : w.heap.size ≤ B) : RK w' A D := ⟨h.pm, h.ps.below hb hB, h.lm, h.ls.below hb hB, h.dm, h.ds.below hb hB⟩

def szK (A : AkA) : Nat := A.pn + A.ln + A.dn

/-- an ask whose slices lie in blocks of S. -/
def OAk (S : Nat → Prop) (A : AkA) (D : AkD) (w : World) : Prop := szK A ≤ 1048576 ∧ OS S A.pa A.pn D.ps w ∧ OS S A.la A.ln D.ls w ∧ OS S A.da A.dn D.ds w

theorem OAk.loc {S : Nat → Prop} {A : AkA} {D : AkD} : Loc S (OAk S A D) := fun w w' hk h => ⟨h.1, OS.loc w w' hk h.2.1, OS.loc w w' hk h.2.2.1, OS.loc w w' hk h.2.2.2⟩

theorem OAk.rk {S : Nat → Prop} {A : AkA} {D : AkD} {w : World} (h : OAk S A D w) : RK w A D := by
  obtain ⟨h1, h2, h3, h4⟩ := h
  have a1 := h2.2.1
  have a2 := h3.2.1
  have a3 := h4.2.1
  exact ⟨by unfold maxLen; omega, h2.sl, by unfold maxLen; omega, h3.sl, by unfold maxLen; omega, h4.sl⟩

/-- the form of an ask: it has nothing that its kind has not. -/
def tooB (D : AkD) : Bool := !((D.kd == 1 || (D.wh == 0 && D.ls.length == 0 && D.qu == 0)) && (D.kd == 2 || D.kd == 3 || D.po == 0) && (D.kd == 2 || D.kd == 5 || D.nn == 0) && (D.kd == 3 || D.ds.length == 0))
def nmB (zs : List Int) : Bool := zs.all (fun x => inB x 1 99)
def rgA (D : AkD) : Bool := nmB D.ps && D.ds.all okv && inB D.qu 0 200 && inB D.po 0 200 && inB D.nn 0 200
def askF (D : AkD) : Int := if inB D.kd 1 6 = false ∨ tooB D = true then 1 else if 6 < D.ps.length ∨ 20 < D.ds.length then 2 else if rgA D = false then 3 else if D.kd ≠ 1 then 0 else if inB D.wh 1 2 = false then 3 else thgF D.ls

theorem askF_form {D : AkD} (h : inB D.kd 1 6 = false ∨ tooB D = true) : askF D = 1 := if_pos h
theorem askF_many {D : AkD} (h : inB D.kd 1 6 = true) (h2 : tooB D = false) (h3 : 6 < D.ps.length ∨ 20 < D.ds.length) : askF D = 2 := by unfold askF; rw [if_neg (by rw [h, h2]; simp), if_pos h3]
theorem askF_range {D : AkD} (h : inB D.kd 1 6 = true) (h2 : tooB D = false) (h3 : ¬ (6 < D.ps.length ∨ 20 < D.ds.length)) (h4 : rgA D = false) : askF D = 3 := by unfold askF; rw [if_neg (by rw [h, h2]; simp), if_neg h3, if_pos h4]
theorem askF_else {D : AkD} (h : inB D.kd 1 6 = true) (h2 : tooB D = false) (h3 : ¬ (6 < D.ps.length ∨ 20 < D.ds.length)) (h4 : rgA D = true) (h5 : D.kd ≠ 1) : askF D = 0 := by unfold askF; rw [if_neg (by rw [h, h2]; simp), if_neg h3, if_neg (by rw [h4]; simp), if_pos h5]
theorem askF_what {D : AkD} (h : inB D.kd 1 6 = true) (h2 : tooB D = false) (h3 : ¬ (6 < D.ps.length ∨ 20 < D.ds.length)) (h4 : rgA D = true) (h5 : D.kd = 1) (h6 : inB D.wh 1 2 = false) : askF D = 3 := by unfold askF; rw [if_neg (by rw [h, h2]; simp), if_neg h3, if_neg (by rw [h4]; simp), if_neg (by rw [h5]; simp), if_pos h6]
theorem askF_make {D : AkD} (h : inB D.kd 1 6 = true) (h2 : tooB D = false) (h3 : ¬ (6 < D.ps.length ∨ 20 < D.ds.length)) (h4 : rgA D = true) (h5 : D.kd = 1) (h6 : inB D.wh 1 2 = true) : askF D = thgF D.ls := by unfold askF; rw [if_neg (by rw [h, h2]; simp), if_neg h3, if_neg (by rw [h4]; simp), if_neg (by rw [h5]; simp), if_neg (by rw [h6]; simp)]

end Go.Proofs.Ytpcdfeccmiiglaa
