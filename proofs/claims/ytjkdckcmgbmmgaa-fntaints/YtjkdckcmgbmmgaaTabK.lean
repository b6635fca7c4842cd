import Derived.Test.YtjkdckcmgbmmgaaOpenTab
import Derived.Test.YtjkdckcmgbmmgaaSzReg
import Derived.Test.YtjkdckcmgbmmgaaToRegO
import Derived.WalkKit
import Derived.ProofKit
import Derived.OpenShut
import Derived.ShutString
import Derived.ChangeOld
import Derived.Below
import Derived.WalkSpells
import Derived.Deep.QuietTactic
import Derived.BigQuiet
import Derived.Deep.RegionWith
import Derived.Deep.WholeRow
import Derived.Deep.DeepCutAuto
import Derived.Deep.RegionHeld2
import Derived.Deep.AppendLies
import Derived.Deep.RegionLaw
namespace Go.Proofs.Ytjkdckcmgbmmgaa
open Go.ChangeShapes Go.WideShapes Go.ChangeAt Go.RowKit

/-- owned tables: slots, tags and domains in blocks of S, no two of the three in one. -/
def OT (S : Nat → Prop) (a : Option Addr) (n : Nat) (ss : List (Int × List Int)) (ta : Option Addr) (tn : Nat) (ts : List Int) (da : Option Addr) (dn : Nat) (ds : List Int) (w : World) : Prop :=
  ∃ S1 S2 S3 : Nat → Prop, (∀ k, S1 k → S k) ∧ (∀ k, S2 k → S k) ∧ (∀ k, S3 k → S k) ∧ (∀ k, S1 k → ¬ S2 k) ∧ (∀ k, S1 k → ¬ S3 k) ∧ (∀ k, S2 k → ¬ S3 k) ∧ OR S1 a n ss w ∧ OS S2 ta tn ts w ∧ OS S3 da dn ds w

theorem OT.loc {S : Nat → Prop} {a : Option Addr} {n : Nat} {ss : List (Int × List Int)} {ta : Option Addr} {tn : Nat} {ts : List Int} {da : Option Addr} {dn : Nat} {ds : List Int} : Loc S (OT S a n ss ta tn ts da dn ds) := fun w w' hk h => by
  obtain ⟨S1, S2, S3, i1, i2, i3, d1, d2, d3, o1, o2, o3⟩ := h
  exact ⟨S1, S2, S3, i1, i2, i3, d1, d2, d3, OR.loc w w' (fun k h hl => hk k (i1 k h) hl) o1, OS.loc w w' (fun k h hl => hk k (i2 k h) hl) o2, OS.loc w w' (fun k h hl => hk k (i3 k h) hl) o3⟩

theorem OT.mono {S S' : Nat → Prop} {a : Option Addr} {n : Nat} {ss : List (Int × List Int)} {ta : Option Addr} {tn : Nat} {ts : List Int} {da : Option Addr} {dn : Nat} {ds : List Int} {w : World} (h : OT S a n ss ta tn ts da dn ds w) (hs : ∀ k, S k → S' k) : OT S' a n ss ta tn ts da dn ds w := by
  obtain ⟨S1, S2, S3, i1, i2, i3, d⟩ := h
  exact ⟨S1, S2, S3, fun k h => hs k (i1 k h), fun k h => hs k (i2 k h), fun k h => hs k (i3 k h), d⟩

theorem OT.rt {S : Nat → Prop} {a : Option Addr} {n : Nat} {ss : List (Int × List Int)} {ta : Option Addr} {tn : Nat} {ts : List Int} {da : Option Addr} {dn : Nat} {ds : List Int} {w : World} (h : OT S a n ss ta tn ts da dn ds w) : RT w a n ss ta tn ts da dn ds := by
  obtain ⟨S1, S2, S3, i1, i2, i3, d1, d2, d3, o1, o2, o3⟩ := h
  exact ⟨by have := o1.2.1; unfold maxLen; omega, o1.sls, by have := o2.2.1; unfold maxLen; omega, o2.sl, by have := o3.2.1; unfold maxLen; omega, o3.sl⟩

end Go.Proofs.Ytjkdckcmgbmmgaa
