import Derived.Test.YtnlkigjgloeonaaLrP
import Derived.Test.YtnlkigjgloeonaaCxP
import Derived.Test.YtnlkigjgloeonaaWt
import Derived.Test.YtnlkigjgloeonaaCsK
import Derived.WalkKit
import Derived.ProofKit
import Derived.OpenShut
import Derived.ShutString
import Derived.ChangeOld
import Derived.Below
import Derived.WalkSpells
import Derived.Deep.QuietTactic
import Derived.BigQuiet
import Derived.Deep.RegionWith
import Derived.Deep.WholeRow
import Derived.Deep.DeepCutAuto
import Derived.Deep.RegionHeld2
import Derived.Deep.AppendLies
import Derived.Deep.RegionLaw
namespace Go.Proofs.Ytnlkigjgloeonaa
open Go.ChangeShapes Go.WideShapes Go.ChangeAt Go.RowKit

/-- where a seen thing's slices lie. -/
structure NA where
  wa : Option Addr
  wn : Nat
  wc : Nat
  xa : Option Addr
  xn : Nat
  xc : Nat
  la : Option Addr
  ln : Nat
  lc : Nat
  oa : Option Addr
  on : Nat
  oc : Nat

/-- what it reads as: words, contexts, labels, Out. -/
structure ND where
  ws : List (Int × Int)
  cs : List (List Int × Int × Bool)
  ls : List (List Int)
  os : List Int

structure RN (w : World) (A : NA) (D : ND) : Prop where
  wm : A.wn ≤ maxLen
  ws : Swd w A.wa A.wn D.ws
  xm : A.xn ≤ maxLen
  xs : Scx w A.xa A.xn D.cs
  lm : A.ln ≤ maxLen
  ls : Slb w A.la A.ln D.ls
  om : A.on ≤ maxLen
  os : Sl w A.oa A.on D.os

theorem RN.below {w w' : World} {A : NA} {D : ND} (h : RN w A D) {B : Nat} (hb : Below B w w') (hB : w.heap.size ≤ B) : RN w' A D :=
  ⟨h.wm, h.ws.below hb hB, h.xm, h.xs.below hb hB, h.lm, h.ls.below hb hB, h.om, h.os.below hb hB⟩

def szN (A : NA) (D : ND) : Nat := A.wn + (A.xn + lenX D.cs) + (A.ln + lenL D.ls) + A.on

/-- a seen thing of one's own: its four rows in sets of blocks that are apart. -/
def ON (S : Nat → Prop) (A : NA) (D : ND) (w : World) : Prop :=
  ∃ S1 S2 S3 S4 : Nat → Prop, ((∀ k, S1 k → S k) ∧ (∀ k, S2 k → S k) ∧ (∀ k, S3 k → S k) ∧ (∀ k, S4 k → S k)) ∧ ((∀ k, S1 k → ¬ S2 k ∧ ¬ S3 k ∧ ¬ S4 k) ∧ (∀ k, S2 k → ¬ S3 k ∧ ¬ S4 k) ∧ (∀ k, S3 k → ¬ S4 k)) ∧ szN A D ≤ 1048576 ∧ OWd S1 A.wa A.wn D.ws w ∧ OX S2 A.xa A.xn D.cs w ∧ OLr S3 A.la A.ln D.ls w ∧ OS S4 A.oa A.on D.os w

theorem ON.loc {S : Nat → Prop} {A : NA} {D : ND} : Loc S (ON S A D) := fun w w' hk h => by
  obtain ⟨S1, S2, S3, S4, ⟨h1, h2, h3, h4⟩, hd, hz, o1, o2, o3, o4⟩ := h
  exact ⟨S1, S2, S3, S4, ⟨h1, h2, h3, h4⟩, hd, hz, OWd.loc w w' (fun k e hl => hk k (h1 k e) hl) o1, OX.loc w w' (fun k e hl => hk k (h2 k e) hl) o2, OLr.loc w w' (fun k e hl => hk k (h3 k e) hl) o3, OS.loc w w' (fun k e hl => hk k (h4 k e) hl) o4⟩

theorem ON.mono {S S' : Nat → Prop} {A : NA} {D : ND} {w : World} (h : ON S A D w) (hs : ∀ k, S k → S' k) : ON S' A D w := by
  obtain ⟨S1, S2, S3, S4, ⟨h1, h2, h3, h4⟩, hd, hz, o⟩ := h
  exact ⟨S1, S2, S3, S4, ⟨fun k e => hs k (h1 k e), fun k e => hs k (h2 k e), fun k e => hs k (h3 k e), fun k e => hs k (h4 k e)⟩, hd, hz, o⟩

theorem ON.rn {S : Nat → Prop} {A : NA} {D : ND} {w : World} (h : ON S A D w) : RN w A D := by
  obtain ⟨S1, S2, S3, S4, _, _, hz, o1, o2, o3, o4⟩ := h
  unfold szN at hz
  exact ⟨by unfold maxLen; omega, o1.swd, by unfold maxLen; omega, o2.scx, by unfold maxLen; omega, o3.slb, by unfold maxLen; omega, o4.sl⟩

/-- are two the same. -/
def snB (D E : ND) : Bool := decide (D.ws = E.ws) && (decide (D.cs = E.cs) && (decide (D.ls = E.ls) && decide (D.os = E.os)))
theorem snB_w {D E : ND} (h : D.ws ≠ E.ws) : snB D E = false := by unfold snB; simp [h]
theorem snB_x {D E : ND} (h : D.cs ≠ E.cs) : snB D E = false := by unfold snB; simp [h]
theorem snB_l {D E : ND} (h : D.ls ≠ E.ls) : snB D E = false := by unfold snB; simp [h]
theorem snB_o {D E : ND} (h1 : D.ws = E.ws) (h2 : D.cs = E.cs) (h3 : D.ls = E.ls) : snB D E = decide (D.os = E.os) := by unfold snB; simp [h1, h2, h3]

end Go.Proofs.Ytnlkigjgloeonaa
