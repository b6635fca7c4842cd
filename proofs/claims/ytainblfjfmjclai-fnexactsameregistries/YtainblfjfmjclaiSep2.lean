import Derived.Test.YtainblfjfmjclaiSep
import Derived.WalkKit
import Derived.ProofKit
import Derived.OpenShut
import Derived.ShutString
import Derived.ChangeOld
import Derived.Below
import Derived.WalkSpells
import Derived.Deep.QuietTactic
import Derived.BigQuiet
import Derived.Deep.RegionWith
import Derived.Deep.WholeRow
import Derived.Deep.DeepCutAuto
import Derived.Deep.RegionHeld2
import Derived.Deep.AppendLies
import Derived.Deep.RegionLaw
namespace Go.Proofs.Ytainblfjfmjclai
open Go.ChangeShapes Go.WideShapes Go.ChangeAt Go.RowKit

theorem Loc.alloc {S : Nat → Prop} {P : World → Prop} (h : Loc S P) {w : World} (p : P w) (o : Obj) : P (w.alloc o) := h.below ((Below.refl _ _).alloc (Nat.le_refl _) o) p

theorem Loc.setC {S : Nat → Prop} {P : World → Prop} (h : Loc S P) {w : World} (p : P w) {q : Addr} (hq : ¬ S q.block) (v : Value) : P (w.setCell q v) := h w _ (fun _ hk _ => Below.heap_setCell _ _ _ _ (fun e => hq (e ▸ hk))) p

theorem Loc.belowA {S : Nat → Prop} {P : World → Prop} (h : Loc S P) {wa X wb : World} (p : P wa) (hb : Below X.heap.size X wb) (ha : Below wa.heap.size wa X) : P wb := h.below hb (h.below ha p)

theorem Loc.belowB {S : Nat → Prop} {P : World → Prop} (h : Loc S P) {wa X : World} (p : P wa) (ha : Below wa.heap.size wa X) : P X := h.below ha p

theorem bcellQ {X Y : World} (hb : Below X.heap.size X Y) : (∀ b o, b < X.heap.size → Y.cell? ⟨b, o, none⟩ = X.cell? ⟨b, o, none⟩) ∧ (∀ b o, b < X.heap.size → Y.frozen? ⟨b, o, none⟩ = X.frozen? ⟨b, o, none⟩) :=
  ⟨fun b o h => hb.cell (p := ⟨b, o, none⟩) h, fun b o h => hb.frozen (p := ⟨b, o, none⟩) h⟩

end Go.Proofs.Ytainblfjfmjclai
