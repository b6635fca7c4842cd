import Derived.Test.YtnlkigjgloeonaaPlain
import Derived.WalkKit
import Derived.ProofKit
import Derived.OpenShut
import Derived.ShutString
import Derived.ChangeOld
import Derived.Below
import Derived.WalkSpells
import Derived.Deep.QuietTactic
import Derived.BigQuiet
import Derived.Deep.RegionWith
import Derived.Deep.WholeRow
import Derived.Deep.DeepCutAuto
import Derived.Deep.RegionHeld2
import Derived.Deep.AppendLies
import Derived.Deep.RegionLaw
namespace Go.Proofs.Ytnlkigjgloeonaa
open Go.ChangeShapes Go.WideShapes Go.ChangeAt Go.RowKit

theorem q2_bel {W X : World} {A0 A1 : Addr} {v0 v1 : Value} (h : X.cell? A0 = some v0 ∧ X.cell? A1 = some v1 ∧ Below W.heap.size W X) : Below W.heap.size W X := h.2.2

theorem q2_below {W X Y : World} {A0 A1 : Addr} {v0 v1 : Value} (h0 : A0.block < W.heap.size) (h1 : A1.block < W.heap.size) (h : X.cell? A0 = some v0 ∧ X.cell? A1 = some v1 ∧ Below W.heap.size W X) (g : Below X.heap.size X Y) : Y.cell? A0 = some v0 ∧ Y.cell? A1 = some v1 ∧ Below W.heap.size W Y := by
  have hz := (h.2.2).size
  exact ⟨(g.cell (by omega)).trans h.1, (g.cell (by omega)).trans h.2.1, (h.2.2).trans (g.mono hz)⟩

theorem q2_alloc {W X : World} {A0 A1 : Addr} {v0 v1 : Value} (h0 : A0.block < W.heap.size) (h1 : A1.block < W.heap.size) (h : X.cell? A0 = some v0 ∧ X.cell? A1 = some v1 ∧ Below W.heap.size W X) (o : Obj) : (X.alloc o).cell? A0 = some v0 ∧ (X.alloc o).cell? A1 = some v1 ∧ Below W.heap.size W (X.alloc o) := q2_below h0 h1 h ((Below.refl _ _).alloc (Nat.le_refl _) o)

theorem q2_allocd {W X : World} {A0 A1 : Addr} {v0 v1 : Value} (h0 : A0.block < W.heap.size) (h1 : A1.block < W.heap.size) (h : X.drew.cell? A0 = some v0 ∧ X.drew.cell? A1 = some v1 ∧ Below W.heap.size W X.drew) (o : Obj) : (X.alloc o).drew.cell? A0 = some v0 ∧ (X.alloc o).drew.cell? A1 = some v1 ∧ Below W.heap.size W (X.alloc o).drew := q2_alloc h0 h1 h o

theorem q2_set {W X : World} {A0 A1 : Addr} {v0 v1 : Value} (h0 : A0.block < W.heap.size) (h1 : A1.block < W.heap.size) (h : X.cell? A0 = some v0 ∧ X.cell? A1 = some v1 ∧ Below W.heap.size W X) {p : Addr} (hp : W.heap.size ≤ p.block) (y : Value) : (X.setCell p y).cell? A0 = some v0 ∧ (X.setCell p y).cell? A1 = some v1 ∧ Below W.heap.size W (X.setCell p y) :=
  ⟨(World.cell?_setCell_other _ _ _ _ (fun e => by rw [e] at hp; omega)).trans h.1, (World.cell?_setCell_other _ _ _ _ (fun e => by rw [e] at hp; omega)).trans h.2.1, (h.2.2).setCell hp y⟩

theorem q3_bel {W X : World} {A0 A1 A2 : Addr} {v0 v1 v2 : Value} (h : X.cell? A0 = some v0 ∧ X.cell? A1 = some v1 ∧ X.cell? A2 = some v2 ∧ Below W.heap.size W X) : Below W.heap.size W X := h.2.2.2

theorem q3_below {W X Y : World} {A0 A1 A2 : Addr} {v0 v1 v2 : Value} (h0 : A0.block < W.heap.size) (h1 : A1.block < W.heap.size) (h2 : A2.block < W.heap.size) (h : X.cell? A0 = some v0 ∧ X.cell? A1 = some v1 ∧ X.cell? A2 = some v2 ∧ Below W.heap.size W X) (g : Below X.heap.size X Y) : Y.cell? A0 = some v0 ∧ Y.cell? A1 = some v1 ∧ Y.cell? A2 = some v2 ∧ Below W.heap.size W Y := by
  have hz := (h.2.2.2).size
  exact ⟨(g.cell (by omega)).trans h.1, (g.cell (by omega)).trans h.2.1, (g.cell (by omega)).trans h.2.2.1, (h.2.2.2).trans (g.mono hz)⟩

theorem q3_alloc {W X : World} {A0 A1 A2 : Addr} {v0 v1 v2 : Value} (h0 : A0.block < W.heap.size) (h1 : A1.block < W.heap.size) (h2 : A2.block < W.heap.size) (h : X.cell? A0 = some v0 ∧ X.cell? A1 = some v1 ∧ X.cell? A2 = some v2 ∧ Below W.heap.size W X) (o : Obj) : (X.alloc o).cell? A0 = some v0 ∧ (X.alloc o).cell? A1 = some v1 ∧ (X.alloc o).cell? A2 = some v2 ∧ Below W.heap.size W (X.alloc o) := q3_below h0 h1 h2 h ((Below.refl _ _).alloc (Nat.le_refl _) o)

theorem q3_allocd {W X : World} {A0 A1 A2 : Addr} {v0 v1 v2 : Value} (h0 : A0.block < W.heap.size) (h1 : A1.block < W.heap.size) (h2 : A2.block < W.heap.size) (h : X.drew.cell? A0 = some v0 ∧ X.drew.cell? A1 = some v1 ∧ X.drew.cell? A2 = some v2 ∧ Below W.heap.size W X.drew) (o : Obj) : (X.alloc o).drew.cell? A0 = some v0 ∧ (X.alloc o).drew.cell? A1 = some v1 ∧ (X.alloc o).drew.cell? A2 = some v2 ∧ Below W.heap.size W (X.alloc o).drew := q3_alloc h0 h1 h2 h o

theorem q3_set {W X : World} {A0 A1 A2 : Addr} {v0 v1 v2 : Value} (h0 : A0.block < W.heap.size) (h1 : A1.block < W.heap.size) (h2 : A2.block < W.heap.size) (h : X.cell? A0 = some v0 ∧ X.cell? A1 = some v1 ∧ X.cell? A2 = some v2 ∧ Below W.heap.size W X) {p : Addr} (hp : W.heap.size ≤ p.block) (y : Value) : (X.setCell p y).cell? A0 = some v0 ∧ (X.setCell p y).cell? A1 = some v1 ∧ (X.setCell p y).cell? A2 = some v2 ∧ Below W.heap.size W (X.setCell p y) :=
  ⟨(World.cell?_setCell_other _ _ _ _ (fun e => by rw [e] at hp; omega)).trans h.1, (World.cell?_setCell_other _ _ _ _ (fun e => by rw [e] at hp; omega)).trans h.2.1, (World.cell?_setCell_other _ _ _ _ (fun e => by rw [e] at hp; omega)).trans h.2.2.1, (h.2.2.2).setCell hp y⟩

theorem q4_bel {W X : World} {A0 A1 A2 A3 : Addr} {v0 v1 v2 v3 : Value} (h : X.cell? A0 = some v0 ∧ X.cell? A1 = some v1 ∧ X.cell? A2 = some v2 ∧ X.cell? A3 = some v3 ∧ Below W.heap.size W X) : Below W.heap.size W X := h.2.2.2.2

theorem q4_below {W X Y : World} {A0 A1 A2 A3 : Addr} {v0 v1 v2 v3 : Value} (h0 : A0.block < W.heap.size) (h1 : A1.block < W.heap.size) (h2 : A2.block < W.heap.size) (h3 : A3.block < W.heap.size) (h : X.cell? A0 = some v0 ∧ X.cell? A1 = some v1 ∧ X.cell? A2 = some v2 ∧ X.cell? A3 = some v3 ∧ Below W.heap.size W X) (g : Below X.heap.size X Y) : Y.cell? A0 = some v0 ∧ Y.cell? A1 = some v1 ∧ Y.cell? A2 = some v2 ∧ Y.cell? A3 = some v3 ∧ Below W.heap.size W Y := by
  have hz := (h.2.2.2.2).size
  exact ⟨(g.cell (by omega)).trans h.1, (g.cell (by omega)).trans h.2.1, (g.cell (by omega)).trans h.2.2.1, (g.cell (by omega)).trans h.2.2.2.1, (h.2.2.2.2).trans (g.mono hz)⟩

theorem q4_alloc {W X : World} {A0 A1 A2 A3 : Addr} {v0 v1 v2 v3 : Value} (h0 : A0.block < W.heap.size) (h1 : A1.block < W.heap.size) (h2 : A2.block < W.heap.size) (h3 : A3.block < W.heap.size) (h : X.cell? A0 = some v0 ∧ X.cell? A1 = some v1 ∧ X.cell? A2 = some v2 ∧ X.cell? A3 = some v3 ∧ Below W.heap.size W X) (o : Obj) : (X.alloc o).cell? A0 = some v0 ∧ (X.alloc o).cell? A1 = some v1 ∧ (X.alloc o).cell? A2 = some v2 ∧ (X.alloc o).cell? A3 = some v3 ∧ Below W.heap.size W (X.alloc o) := q4_below h0 h1 h2 h3 h ((Below.refl _ _).alloc (Nat.le_refl _) o)

theorem q4_allocd {W X : World} {A0 A1 A2 A3 : Addr} {v0 v1 v2 v3 : Value} (h0 : A0.block < W.heap.size) (h1 : A1.block < W.heap.size) (h2 : A2.block < W.heap.size) (h3 : A3.block < W.heap.size) (h : X.drew.cell? A0 = some v0 ∧ X.drew.cell? A1 = some v1 ∧ X.drew.cell? A2 = some v2 ∧ X.drew.cell? A3 = some v3 ∧ Below W.heap.size W X.drew) (o : Obj) : (X.alloc o).drew.cell? A0 = some v0 ∧ (X.alloc o).drew.cell? A1 = some v1 ∧ (X.alloc o).drew.cell? A2 = some v2 ∧ (X.alloc o).drew.cell? A3 = some v3 ∧ Below W.heap.size W (X.alloc o).drew := q4_alloc h0 h1 h2 h3 h o

theorem q4_set {W X : World} {A0 A1 A2 A3 : Addr} {v0 v1 v2 v3 : Value} (h0 : A0.block < W.heap.size) (h1 : A1.block < W.heap.size) (h2 : A2.block < W.heap.size) (h3 : A3.block < W.heap.size) (h : X.cell? A0 = some v0 ∧ X.cell? A1 = some v1 ∧ X.cell? A2 = some v2 ∧ X.cell? A3 = some v3 ∧ Below W.heap.size W X) {p : Addr} (hp : W.heap.size ≤ p.block) (y : Value) : (X.setCell p y).cell? A0 = some v0 ∧ (X.setCell p y).cell? A1 = some v1 ∧ (X.setCell p y).cell? A2 = some v2 ∧ (X.setCell p y).cell? A3 = some v3 ∧ Below W.heap.size W (X.setCell p y) :=
  ⟨(World.cell?_setCell_other _ _ _ _ (fun e => by rw [e] at hp; omega)).trans h.1, (World.cell?_setCell_other _ _ _ _ (fun e => by rw [e] at hp; omega)).trans h.2.1, (World.cell?_setCell_other _ _ _ _ (fun e => by rw [e] at hp; omega)).trans h.2.2.1, (World.cell?_setCell_other _ _ _ _ (fun e => by rw [e] at hp; omega)).trans h.2.2.2.1, (h.2.2.2.2).setCell hp y⟩

theorem set4_at0 (X : World) (P : Nat) (v0 v1 v2 v3 : Value) (h : ∃ u, X.cell? ⟨P, 0, none⟩ = some u) : ((((X.setCell ⟨P, 0, none⟩ v0).setCell ⟨P, 1, none⟩ v1).setCell ⟨P, 2, none⟩ v2).setCell ⟨P, 3, none⟩ v3).cell? ⟨P, 0, none⟩ = some v0 := by
  obtain ⟨u, h⟩ := h
  rw [World.cell?_setCell_other _ _ _ _ (fun e => by injection e with _ e2; omega)]
  rw [World.cell?_setCell_other _ _ _ _ (fun e => by injection e with _ e2; omega)]
  rw [World.cell?_setCell_other _ _ _ _ (fun e => by injection e with _ e2; omega)]
  exact World.cell?_setCell_same _ _ _ h

theorem set4_at1 (X : World) (P : Nat) (v0 v1 v2 v3 : Value) (h : ∃ u, X.cell? ⟨P, 1, none⟩ = some u) : ((((X.setCell ⟨P, 0, none⟩ v0).setCell ⟨P, 1, none⟩ v1).setCell ⟨P, 2, none⟩ v2).setCell ⟨P, 3, none⟩ v3).cell? ⟨P, 1, none⟩ = some v1 := by
  obtain ⟨u, h⟩ := h
  rw [World.cell?_setCell_other _ _ _ _ (fun e => by injection e with _ e2; omega)]
  rw [World.cell?_setCell_other _ _ _ _ (fun e => by injection e with _ e2; omega)]
  exact World.cell?_setCell_same _ _ _ ((World.cell?_setCell_other _ _ _ _ (fun e => by injection e with _ e2; omega)).trans h)

theorem set4_at2 (X : World) (P : Nat) (v0 v1 v2 v3 : Value) (h : ∃ u, X.cell? ⟨P, 2, none⟩ = some u) : ((((X.setCell ⟨P, 0, none⟩ v0).setCell ⟨P, 1, none⟩ v1).setCell ⟨P, 2, none⟩ v2).setCell ⟨P, 3, none⟩ v3).cell? ⟨P, 2, none⟩ = some v2 := by
  obtain ⟨u, h⟩ := h
  rw [World.cell?_setCell_other _ _ _ _ (fun e => by injection e with _ e2; omega)]
  exact World.cell?_setCell_same _ _ _ ((World.cell?_setCell_other _ _ _ _ (fun e => by injection e with _ e2; omega)).trans ((World.cell?_setCell_other _ _ _ _ (fun e => by injection e with _ e2; omega)).trans h))

theorem set4_at3 (X : World) (P : Nat) (v0 v1 v2 v3 : Value) (h : ∃ u, X.cell? ⟨P, 3, none⟩ = some u) : ((((X.setCell ⟨P, 0, none⟩ v0).setCell ⟨P, 1, none⟩ v1).setCell ⟨P, 2, none⟩ v2).setCell ⟨P, 3, none⟩ v3).cell? ⟨P, 3, none⟩ = some v3 := by
  obtain ⟨u, h⟩ := h
  exact World.cell?_setCell_same _ _ _ ((World.cell?_setCell_other _ _ _ _ (fun e => by injection e with _ e2; omega)).trans ((World.cell?_setCell_other _ _ _ _ (fun e => by injection e with _ e2; omega)).trans ((World.cell?_setCell_other _ _ _ _ (fun e => by injection e with _ e2; omega)).trans h)))

end Go.Proofs.Ytnlkigjgloeonaa
