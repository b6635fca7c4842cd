import Derived.Test.YtpelhkailpdhoagSj
import Derived.WalkKit
import Derived.ProofKit
import Derived.OpenShut
import Derived.ShutString
import Derived.ChangeOld
import Derived.Below
import Derived.WalkSpells
import Derived.Deep.QuietTactic
import Derived.BigQuiet
import Derived.Deep.RegionWith
import Derived.Deep.WholeRow
import Derived.Deep.DeepCutAuto
import Derived.Deep.RegionHeld2
import Derived.Deep.AppendLies
import Derived.Deep.RegionLaw
namespace Go.Proofs.Ytpelhkailpdhoag
open Go.ChangeShapes Go.WideShapes Go.ChangeAt Go.RowKit

theorem Blk.belowA {wa X wb : World} {b : Nat} {zs : List Int} (h : Blk wa b zs) (hb : Below X.heap.size X wb) (ha : Below wa.heap.size wa X) : Blk wb b zs := (h.below ha).below hb

theorem Blk.slA {wa X : World} {b : Nat} {zs : List Int} (h : Blk wa b zs) (ha : Below wa.heap.size wa X) : Sl X (some ⟨b, 0, none⟩) zs.length zs := (h.below ha).sl

theorem OSl.alloc {w : World} {B T : Nat} {a : Option Addr} {n : Nat} {rs : List Int} (h : OSl w B T a n rs) (o : Obj) : OSl (w.alloc o) B T a n rs := h.below ((Below.refl _ _).alloc (Nat.le_refl _) o)

theorem OSl.set2 {w : World} {B T P : Nat} {a : Option Addr} {n : Nat} {rs : List Int} (h : OSl w B T a n rs) (hP : P < B) (u v : Value) : OSl ((w.setCell ⟨P, 0, none⟩ u).setCell ⟨P, 1, none⟩ v) B T a n rs :=
  h.map fun b h1 _ hb => (hb.setCell (by simp; omega) _).setCell (by simp; omega) _

theorem set2_at0 (X : World) (g : Nat) (y0 y1 : Value) (h : (X.cell? ⟨g, 0, none⟩).isSome = true) : ((X.setCell ⟨g, 0, none⟩ y0).setCell ⟨g, 1, none⟩ y1).cell? ⟨g, 0, none⟩ = some y0 := by
  rw [World.cell?_setCell_other _ _ _ _ (by simp), World.cell?_setCell_same' _ _ _ h]

theorem set2_at1 (X : World) (g : Nat) (y0 y1 : Value) (h : (X.cell? ⟨g, 1, none⟩).isSome = true) : ((X.setCell ⟨g, 0, none⟩ y0).setCell ⟨g, 1, none⟩ y1).cell? ⟨g, 1, none⟩ = some y1 := by
  rw [World.cell?_setCell_same' _ _ _ (some_set h)]

theorem Mem.cons {w u : World} {cs : List (Nat × Nat × Value)} {ss : List (Nat × Nat × Option Addr × Nat × List Int)} (h : Mem w u cs ss) {b o : Nat} {v : Value} (hc : u.cell? ⟨b, o, none⟩ = some v) (hb : b < u.heap.size) : Mem w u ((b, o, v) :: cs) ss :=
  ⟨h.bel, fun c k => by rcases List.mem_cons.1 k with rfl | k; exact ⟨hb, hc⟩; exact h.cells c k, h.slices⟩

end Go.Proofs.Ytpelhkailpdhoag
