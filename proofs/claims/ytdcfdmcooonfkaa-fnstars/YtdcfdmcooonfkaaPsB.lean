import Derived.Test.YtdcfdmcooonfkaaLbBentM
import Derived.WalkKit
import Derived.ProofKit
import Derived.OpenShut
import Derived.ShutString
import Derived.ChangeOld
import Derived.Below
import Derived.WalkSpells
import Derived.Deep.QuietTactic
import Derived.BigQuiet
import Derived.Deep.RegionWith
import Derived.Deep.WholeRow
import Derived.Deep.DeepCutAuto
import Derived.Deep.RegionHeld2
import Derived.Deep.AppendLies
import Derived.Deep.RegionLaw
namespace Go.Proofs.Ytdcfdmcooonfkaa
open Go.ChangeShapes Go.WideShapes Go.ChangeAt Go.RowKit

/-- a slice of numbers that lies in a block of S and reads as xs. -/
def FrS (S : Nat → Prop) (a : Option Addr) (n : Nat) (xs : List Int) (w : World) : Prop :=
  xs.length = n ∧ (0 < n → ∃ b off, a = some ⟨b, off, none⟩ ∧ S b ∧ b < w.heap.size ∧ ∀ i, i < n → w.cell? ⟨b, off + i, none⟩ = some (.int .i64 (gt xs i)))

theorem blk_lt {w w' : World} {b : Nat} (h : w'.heap[b]? = w.heap[b]?) (hb : b < w.heap.size) : b < w'.heap.size := by
  rw [Array.getElem?_eq_getElem hb] at h
  exact (Array.getElem?_eq_some_iff.1 h).1

theorem FrS.loc {S : Nat → Prop} {a : Option Addr} {n : Nat} {xs : List Int} : Loc S (FrS S a n xs) := fun w w' hk h => by
  refine ⟨h.1, fun hp => ?_⟩
  obtain ⟨b, off, e, h1, h2, h3⟩ := h.2 hp
  have hb := hk b h1 h2
  exact ⟨b, off, e, h1, blk_lt hb h2, fun i hi => (World.cell?_of_block (a := ⟨b, off + i, none⟩) hb).trans (h3 i hi)⟩

theorem FrS.mono {S S' : Nat → Prop} {a : Option Addr} {n : Nat} {xs : List Int} {w : World} (h : FrS S a n xs w) (hs : ∀ k, S k → S' k) : FrS S' a n xs w :=
  ⟨h.1, fun hp => by obtain ⟨b, off, e, h1, h2⟩ := h.2 hp; exact ⟨b, off, e, hs b h1, h2⟩⟩

theorem FrS.sl {S : Nat → Prop} {a : Option Addr} {n : Nat} {xs : List Int} {w : World} (h : FrS S a n xs w) : Sl w a n xs :=
  ⟨h.1, fun hp => by obtain ⟨b, off, e, _, h2, h3⟩ := h.2 hp; exact ⟨b, off, e, h2, h3⟩⟩

/-- what a bent label is, in blocks of S. -/
theorem Fr.frS {w : World} {lo : Nat} {a : Option Addr} {n : Nat} {xs : List Int} (h : Fr w lo a n xs) : FrS (InR lo w.heap.size) a n xs w :=
  ⟨h.1, fun hp => by obtain ⟨b, off, e, h1, h2, h3⟩ := h.2.2 hp; exact ⟨b, off, e, ⟨h1, h2⟩, h2, h3⟩⟩

theorem set3_at0 (X : World) (P : Nat) (v0 v1 v2 : Value) (h : ∃ u, X.cell? ⟨P, 0, none⟩ = some u) : (((X.setCell ⟨P, 0, none⟩ v0).setCell ⟨P, 1, none⟩ v1).setCell ⟨P, 2, none⟩ v2).cell? ⟨P, 0, none⟩ = some v0 := by
  obtain ⟨u, h⟩ := h
  rw [World.cell?_setCell_other _ _ _ _ (fun e => by injection e with _ e2; omega)]
  rw [World.cell?_setCell_other _ _ _ _ (fun e => by injection e with _ e2; omega)]
  exact World.cell?_setCell_same _ _ _ h

theorem set3_at1 (X : World) (P : Nat) (v0 v1 v2 : Value) (h : ∃ u, X.cell? ⟨P, 1, none⟩ = some u) : (((X.setCell ⟨P, 0, none⟩ v0).setCell ⟨P, 1, none⟩ v1).setCell ⟨P, 2, none⟩ v2).cell? ⟨P, 1, none⟩ = some v1 := by
  obtain ⟨u, h⟩ := h
  rw [World.cell?_setCell_other _ _ _ _ (fun e => by injection e with _ e2; omega)]
  exact World.cell?_setCell_same _ _ _ ((World.cell?_setCell_other _ _ _ _ (fun e => by injection e with _ e2; omega)).trans h)

theorem set3_at2 (X : World) (P : Nat) (v0 v1 v2 : Value) (h : ∃ u, X.cell? ⟨P, 2, none⟩ = some u) : (((X.setCell ⟨P, 0, none⟩ v0).setCell ⟨P, 1, none⟩ v1).setCell ⟨P, 2, none⟩ v2).cell? ⟨P, 2, none⟩ = some v2 := by
  obtain ⟨u, h⟩ := h
  exact World.cell?_setCell_same _ _ _ ((World.cell?_setCell_other _ _ _ _ (fun e => by injection e with _ e2; omega)).trans ((World.cell?_setCell_other _ _ _ _ (fun e => by injection e with _ e2; omega)).trans h))

end Go.Proofs.Ytdcfdmcooonfkaa
