import Derived.Test.YtboeceabnlhnoaaL2DrawLv
import Derived.Test.YtboeceabnlhnoaaSpecEL
import Derived.Test.YtboeceabnlhnoaaImplEL
import Derived.Test.YtboeceabnlhnoaaSpecLL
import Derived.Test.YtboeceabnlhnoaaImplLL
import Derived.Test.YtboeceabnlhnoaaSlotS
import Derived.Test.YtboeceabnlhnoaaSlotI
import Derived.Test.YtboeceabnlhnoaaImplLAX
import Derived.Test.YtboeceabnlhnoaaRegFI
import Derived.Test.YtboeceabnlhnoaaSameReg
import Derived.Test.YtboeceabnlhnoaaFnSlP
import Derived.Test.YtboeceabnlhnoaaLwN
import Derived.WalkKit
import Derived.ProofKit
import Derived.OpenShut
import Derived.ShutString
import Derived.ChangeOld
import Derived.Below
import Derived.WalkSpells
import Derived.Deep.QuietTactic
import Derived.BigQuiet
import Derived.Deep.RegionWith
import Derived.Deep.WholeRow
import Derived.Deep.DeepCutAuto
import Derived.Deep.RegionHeld2
import Derived.Deep.AppendLies
import Derived.Deep.RegionLaw
namespace Go.Proofs.Ytboeceabnlhnoaa
open Go.ChangeShapes Go.WideShapes Go.ChangeAt Go.RowKit

theorem q3_bel {W X : World} {A0 A1 A2 : Addr} {v0 v1 v2 : Value} (h : X.cell? A0 = some v0 ∧ X.cell? A1 = some v1 ∧ X.cell? A2 = some v2 ∧ Below W.heap.size W X) : Below W.heap.size W X := h.2.2.2

theorem q3_below {W X Y : World} {A0 A1 A2 : Addr} {v0 v1 v2 : Value} (h0 : A0.block < W.heap.size) (h1 : A1.block < W.heap.size) (h2 : A2.block < W.heap.size) (h : X.cell? A0 = some v0 ∧ X.cell? A1 = some v1 ∧ X.cell? A2 = some v2 ∧ Below W.heap.size W X) (g : Below X.heap.size X Y) : Y.cell? A0 = some v0 ∧ Y.cell? A1 = some v1 ∧ Y.cell? A2 = some v2 ∧ Below W.heap.size W Y := by
  have hz := (h.2.2.2).size
  exact ⟨(g.cell (by omega)).trans h.1, (g.cell (by omega)).trans h.2.1, (g.cell (by omega)).trans h.2.2.1, (h.2.2.2).trans (g.mono hz)⟩

theorem q3_alloc {W X : World} {A0 A1 A2 : Addr} {v0 v1 v2 : Value} (h0 : A0.block < W.heap.size) (h1 : A1.block < W.heap.size) (h2 : A2.block < W.heap.size) (h : X.cell? A0 = some v0 ∧ X.cell? A1 = some v1 ∧ X.cell? A2 = some v2 ∧ Below W.heap.size W X) (o : Obj) : (X.alloc o).cell? A0 = some v0 ∧ (X.alloc o).cell? A1 = some v1 ∧ (X.alloc o).cell? A2 = some v2 ∧ Below W.heap.size W (X.alloc o) := q3_below h0 h1 h2 h ((Below.refl _ _).alloc (Nat.le_refl _) o)

theorem q3_allocd {W X : World} {A0 A1 A2 : Addr} {v0 v1 v2 : Value} (h0 : A0.block < W.heap.size) (h1 : A1.block < W.heap.size) (h2 : A2.block < W.heap.size) (h : X.drew.cell? A0 = some v0 ∧ X.drew.cell? A1 = some v1 ∧ X.drew.cell? A2 = some v2 ∧ Below W.heap.size W X.drew) (o : Obj) : (X.alloc o).drew.cell? A0 = some v0 ∧ (X.alloc o).drew.cell? A1 = some v1 ∧ (X.alloc o).drew.cell? A2 = some v2 ∧ Below W.heap.size W (X.alloc o).drew := q3_alloc h0 h1 h2 h o

theorem q3_set {W X : World} {A0 A1 A2 : Addr} {v0 v1 v2 : Value} (h0 : A0.block < W.heap.size) (h1 : A1.block < W.heap.size) (h2 : A2.block < W.heap.size) (h : X.cell? A0 = some v0 ∧ X.cell? A1 = some v1 ∧ X.cell? A2 = some v2 ∧ Below W.heap.size W X) {p : Addr} (hp : W.heap.size ≤ p.block) (y : Value) : (X.setCell p y).cell? A0 = some v0 ∧ (X.setCell p y).cell? A1 = some v1 ∧ (X.setCell p y).cell? A2 = some v2 ∧ Below W.heap.size W (X.setCell p y) :=
  ⟨(World.cell?_setCell_other _ _ _ _ (fun e => by rw [e] at hp; omega)).trans h.1, (World.cell?_setCell_other _ _ _ _ (fun e => by rw [e] at hp; omega)).trans h.2.1, (World.cell?_setCell_other _ _ _ _ (fun e => by rw [e] at hp; omega)).trans h.2.2.1, (h.2.2.2).setCell hp y⟩

theorem q4_bel {W X : World} {A0 A1 A2 A3 : Addr} {v0 v1 v2 v3 : Value} (h : X.cell? A0 = some v0 ∧ X.cell? A1 = some v1 ∧ X.cell? A2 = some v2 ∧ X.cell? A3 = some v3 ∧ Below W.heap.size W X) : Below W.heap.size W X := h.2.2.2.2

theorem q4_below {W X Y : World} {A0 A1 A2 A3 : Addr} {v0 v1 v2 v3 : Value} (h0 : A0.block < W.heap.size) (h1 : A1.block < W.heap.size) (h2 : A2.block < W.heap.size) (h3 : A3.block < W.heap.size) (h : X.cell? A0 = some v0 ∧ X.cell? A1 = some v1 ∧ X.cell? A2 = some v2 ∧ X.cell? A3 = some v3 ∧ Below W.heap.size W X) (g : Below X.heap.size X Y) : Y.cell? A0 = some v0 ∧ Y.cell? A1 = some v1 ∧ Y.cell? A2 = some v2 ∧ Y.cell? A3 = some v3 ∧ Below W.heap.size W Y := by
  have hz := (h.2.2.2.2).size
  exact ⟨(g.cell (by omega)).trans h.1, (g.cell (by omega)).trans h.2.1, (g.cell (by omega)).trans h.2.2.1, (g.cell (by omega)).trans h.2.2.2.1, (h.2.2.2.2).trans (g.mono hz)⟩

theorem q4_alloc {W X : World} {A0 A1 A2 A3 : Addr} {v0 v1 v2 v3 : Value} (h0 : A0.block < W.heap.size) (h1 : A1.block < W.heap.size) (h2 : A2.block < W.heap.size) (h3 : A3.block < W.heap.size) (h : X.cell? A0 = some v0 ∧ X.cell? A1 = some v1 ∧ X.cell? A2 = some v2 ∧ X.cell? A3 = some v3 ∧ Below W.heap.size W X) (o : Obj) : (X.alloc o).cell? A0 = some v0 ∧ (X.alloc o).cell? A1 = some v1 ∧ (X.alloc o).cell? A2 = some v2 ∧ (X.alloc o).cell? A3 = some v3 ∧ Below W.heap.size W (X.alloc o) := q4_below h0 h1 h2 h3 h ((Below.refl _ _).alloc (Nat.le_refl _) o)

theorem q4_allocd {W X : World} {A0 A1 A2 A3 : Addr} {v0 v1 v2 v3 : Value} (h0 : A0.block < W.heap.size) (h1 : A1.block < W.heap.size) (h2 : A2.block < W.heap.size) (h3 : A3.block < W.heap.size) (h : X.drew.cell? A0 = some v0 ∧ X.drew.cell? A1 = some v1 ∧ X.drew.cell? A2 = some v2 ∧ X.drew.cell? A3 = some v3 ∧ Below W.heap.size W X.drew) (o : Obj) : (X.alloc o).drew.cell? A0 = some v0 ∧ (X.alloc o).drew.cell? A1 = some v1 ∧ (X.alloc o).drew.cell? A2 = some v2 ∧ (X.alloc o).drew.cell? A3 = some v3 ∧ Below W.heap.size W (X.alloc o).drew := q4_alloc h0 h1 h2 h3 h o

theorem q4_set {W X : World} {A0 A1 A2 A3 : Addr} {v0 v1 v2 v3 : Value} (h0 : A0.block < W.heap.size) (h1 : A1.block < W.heap.size) (h2 : A2.block < W.heap.size) (h3 : A3.block < W.heap.size) (h : X.cell? A0 = some v0 ∧ X.cell? A1 = some v1 ∧ X.cell? A2 = some v2 ∧ X.cell? A3 = some v3 ∧ Below W.heap.size W X) {p : Addr} (hp : W.heap.size ≤ p.block) (y : Value) : (X.setCell p y).cell? A0 = some v0 ∧ (X.setCell p y).cell? A1 = some v1 ∧ (X.setCell p y).cell? A2 = some v2 ∧ (X.setCell p y).cell? A3 = some v3 ∧ Below W.heap.size W (X.setCell p y) :=
  ⟨(World.cell?_setCell_other _ _ _ _ (fun e => by rw [e] at hp; omega)).trans h.1, (World.cell?_setCell_other _ _ _ _ (fun e => by rw [e] at hp; omega)).trans h.2.1, (World.cell?_setCell_other _ _ _ _ (fun e => by rw [e] at hp; omega)).trans h.2.2.1, (World.cell?_setCell_other _ _ _ _ (fun e => by rw [e] at hp; omega)).trans h.2.2.2.1, (h.2.2.2.2).setCell hp y⟩

theorem q13_bel {W X : World} {A0 A1 A2 A3 A4 A5 A6 A7 A8 A9 A10 A11 A12 : Addr} {v0 v1 v2 v3 v4 v5 v6 v7 v8 v9 v10 v11 v12 : Value} (h : X.cell? A0 = some v0 ∧ X.cell? A1 = some v1 ∧ X.cell? A2 = some v2 ∧ X.cell? A3 = some v3 ∧ X.cell? A4 = some v4 ∧ X.cell? A5 = some v5 ∧ X.cell? A6 = some v6 ∧ X.cell? A7 = some v7 ∧ X.cell? A8 = some v8 ∧ X.cell? A9 = some v9 ∧ X.cell? A10 = some v10 ∧ X.cell? A11 = some v11 ∧ X.cell? A12 = some v12 ∧ Below W.heap.size W X) : Below W.heap.size W X := h.2.2.2.2.2.2.2.2.2.2.2.2.2

theorem q13_below {W X Y : World} {A0 A1 A2 A3 A4 A5 A6 A7 A8 A9 A10 A11 A12 : Addr} {v0 v1 v2 v3 v4 v5 v6 v7 v8 v9 v10 v11 v12 : Value} (h0 : A0.block < W.heap.size) (h1 : A1.block < W.heap.size) (h2 : A2.block < W.heap.size) (h3 : A3.block < W.heap.size) (h4 : A4.block < W.heap.size) (h5 : A5.block < W.heap.size) (h6 : A6.block < W.heap.size) (h7 : A7.block < W.heap.size) (h8 : A8.block < W.heap.size) (h9 : A9.block < W.heap.size) (h10 : A10.block < W.heap.size) (h11 : A11.block < W.heap.size) (h12 : A12.block < W.heap.size) (h : X.cell? A0 = some v0 ∧ X.cell? A1 = some v1 ∧ X.cell? A2 = some v2 ∧ X.cell? A3 = some v3 ∧ X.cell? A4 = some v4 ∧ X.cell? A5 = some v5 ∧ X.cell? A6 = some v6 ∧ X.cell? A7 = some v7 ∧ X.cell? A8 = some v8 ∧ X.cell? A9 = some v9 ∧ X.cell? A10 = some v10 ∧ X.cell? A11 = some v11 ∧ X.cell? A12 = some v12 ∧ Below W.heap.size W X) (g : Below X.heap.size X Y) : Y.cell? A0 = some v0 ∧ Y.cell? A1 = some v1 ∧ Y.cell? A2 = some v2 ∧ Y.cell? A3 = some v3 ∧ Y.cell? A4 = some v4 ∧ Y.cell? A5 = some v5 ∧ Y.cell? A6 = some v6 ∧ Y.cell? A7 = some v7 ∧ Y.cell? A8 = some v8 ∧ Y.cell? A9 = some v9 ∧ Y.cell? A10 = some v10 ∧ Y.cell? A11 = some v11 ∧ Y.cell? A12 = some v12 ∧ Below W.heap.size W Y := by
  have hz := (h.2.2.2.2.2.2.2.2.2.2.2.2.2).size
  exact ⟨(g.cell (by omega)).trans h.1, (g.cell (by omega)).trans h.2.1, (g.cell (by omega)).trans h.2.2.1, (g.cell (by omega)).trans h.2.2.2.1, (g.cell (by omega)).trans h.2.2.2.2.1, (g.cell (by omega)).trans h.2.2.2.2.2.1, (g.cell (by omega)).trans h.2.2.2.2.2.2.1, (g.cell (by omega)).trans h.2.2.2.2.2.2.2.1, (g.cell (by omega)).trans h.2.2.2.2.2.2.2.2.1, (g.cell (by omega)).trans h.2.2.2.2.2.2.2.2.2.1, (g.cell (by omega)).trans h.2.2.2.2.2.2.2.2.2.2.1, (g.cell (by omega)).trans h.2.2.2.2.2.2.2.2.2.2.2.1, (g.cell (by omega)).trans h.2.2.2.2.2.2.2.2.2.2.2.2.1, (h.2.2.2.2.2.2.2.2.2.2.2.2.2).trans (g.mono hz)⟩

theorem q13_alloc {W X : World} {A0 A1 A2 A3 A4 A5 A6 A7 A8 A9 A10 A11 A12 : Addr} {v0 v1 v2 v3 v4 v5 v6 v7 v8 v9 v10 v11 v12 : Value} (h0 : A0.block < W.heap.size) (h1 : A1.block < W.heap.size) (h2 : A2.block < W.heap.size) (h3 : A3.block < W.heap.size) (h4 : A4.block < W.heap.size) (h5 : A5.block < W.heap.size) (h6 : A6.block < W.heap.size) (h7 : A7.block < W.heap.size) (h8 : A8.block < W.heap.size) (h9 : A9.block < W.heap.size) (h10 : A10.block < W.heap.size) (h11 : A11.block < W.heap.size) (h12 : A12.block < W.heap.size) (h : X.cell? A0 = some v0 ∧ X.cell? A1 = some v1 ∧ X.cell? A2 = some v2 ∧ X.cell? A3 = some v3 ∧ X.cell? A4 = some v4 ∧ X.cell? A5 = some v5 ∧ X.cell? A6 = some v6 ∧ X.cell? A7 = some v7 ∧ X.cell? A8 = some v8 ∧ X.cell? A9 = some v9 ∧ X.cell? A10 = some v10 ∧ X.cell? A11 = some v11 ∧ X.cell? A12 = some v12 ∧ Below W.heap.size W X) (o : Obj) : (X.alloc o).cell? A0 = some v0 ∧ (X.alloc o).cell? A1 = some v1 ∧ (X.alloc o).cell? A2 = some v2 ∧ (X.alloc o).cell? A3 = some v3 ∧ (X.alloc o).cell? A4 = some v4 ∧ (X.alloc o).cell? A5 = some v5 ∧ (X.alloc o).cell? A6 = some v6 ∧ (X.alloc o).cell? A7 = some v7 ∧ (X.alloc o).cell? A8 = some v8 ∧ (X.alloc o).cell? A9 = some v9 ∧ (X.alloc o).cell? A10 = some v10 ∧ (X.alloc o).cell? A11 = some v11 ∧ (X.alloc o).cell? A12 = some v12 ∧ Below W.heap.size W (X.alloc o) := q13_below h0 h1 h2 h3 h4 h5 h6 h7 h8 h9 h10 h11 h12 h ((Below.refl _ _).alloc (Nat.le_refl _) o)

theorem q13_allocd {W X : World} {A0 A1 A2 A3 A4 A5 A6 A7 A8 A9 A10 A11 A12 : Addr} {v0 v1 v2 v3 v4 v5 v6 v7 v8 v9 v10 v11 v12 : Value} (h0 : A0.block < W.heap.size) (h1 : A1.block < W.heap.size) (h2 : A2.block < W.heap.size) (h3 : A3.block < W.heap.size) (h4 : A4.block < W.heap.size) (h5 : A5.block < W.heap.size) (h6 : A6.block < W.heap.size) (h7 : A7.block < W.heap.size) (h8 : A8.block < W.heap.size) (h9 : A9.block < W.heap.size) (h10 : A10.block < W.heap.size) (h11 : A11.block < W.heap.size) (h12 : A12.block < W.heap.size) (h : X.drew.cell? A0 = some v0 ∧ X.drew.cell? A1 = some v1 ∧ X.drew.cell? A2 = some v2 ∧ X.drew.cell? A3 = some v3 ∧ X.drew.cell? A4 = some v4 ∧ X.drew.cell? A5 = some v5 ∧ X.drew.cell? A6 = some v6 ∧ X.drew.cell? A7 = some v7 ∧ X.drew.cell? A8 = some v8 ∧ X.drew.cell? A9 = some v9 ∧ X.drew.cell? A10 = some v10 ∧ X.drew.cell? A11 = some v11 ∧ X.drew.cell? A12 = some v12 ∧ Below W.heap.size W X.drew) (o : Obj) : (X.alloc o).drew.cell? A0 = some v0 ∧ (X.alloc o).drew.cell? A1 = some v1 ∧ (X.alloc o).drew.cell? A2 = some v2 ∧ (X.alloc o).drew.cell? A3 = some v3 ∧ (X.alloc o).drew.cell? A4 = some v4 ∧ (X.alloc o).drew.cell? A5 = some v5 ∧ (X.alloc o).drew.cell? A6 = some v6 ∧ (X.alloc o).drew.cell? A7 = some v7 ∧ (X.alloc o).drew.cell? A8 = some v8 ∧ (X.alloc o).drew.cell? A9 = some v9 ∧ (X.alloc o).drew.cell? A10 = some v10 ∧ (X.alloc o).drew.cell? A11 = some v11 ∧ (X.alloc o).drew.cell? A12 = some v12 ∧ Below W.heap.size W (X.alloc o).drew := q13_alloc h0 h1 h2 h3 h4 h5 h6 h7 h8 h9 h10 h11 h12 h o

theorem q13_set {W X : World} {A0 A1 A2 A3 A4 A5 A6 A7 A8 A9 A10 A11 A12 : Addr} {v0 v1 v2 v3 v4 v5 v6 v7 v8 v9 v10 v11 v12 : Value} (h0 : A0.block < W.heap.size) (h1 : A1.block < W.heap.size) (h2 : A2.block < W.heap.size) (h3 : A3.block < W.heap.size) (h4 : A4.block < W.heap.size) (h5 : A5.block < W.heap.size) (h6 : A6.block < W.heap.size) (h7 : A7.block < W.heap.size) (h8 : A8.block < W.heap.size) (h9 : A9.block < W.heap.size) (h10 : A10.block < W.heap.size) (h11 : A11.block < W.heap.size) (h12 : A12.block < W.heap.size) (h : X.cell? A0 = some v0 ∧ X.cell? A1 = some v1 ∧ X.cell? A2 = some v2 ∧ X.cell? A3 = some v3 ∧ X.cell? A4 = some v4 ∧ X.cell? A5 = some v5 ∧ X.cell? A6 = some v6 ∧ X.cell? A7 = some v7 ∧ X.cell? A8 = some v8 ∧ X.cell? A9 = some v9 ∧ X.cell? A10 = some v10 ∧ X.cell? A11 = some v11 ∧ X.cell? A12 = some v12 ∧ Below W.heap.size W X) {p : Addr} (hp : W.heap.size ≤ p.block) (y : Value) : (X.setCell p y).cell? A0 = some v0 ∧ (X.setCell p y).cell? A1 = some v1 ∧ (X.setCell p y).cell? A2 = some v2 ∧ (X.setCell p y).cell? A3 = some v3 ∧ (X.setCell p y).cell? A4 = some v4 ∧ (X.setCell p y).cell? A5 = some v5 ∧ (X.setCell p y).cell? A6 = some v6 ∧ (X.setCell p y).cell? A7 = some v7 ∧ (X.setCell p y).cell? A8 = some v8 ∧ (X.setCell p y).cell? A9 = some v9 ∧ (X.setCell p y).cell? A10 = some v10 ∧ (X.setCell p y).cell? A11 = some v11 ∧ (X.setCell p y).cell? A12 = some v12 ∧ Below W.heap.size W (X.setCell p y) :=
  ⟨(World.cell?_setCell_other _ _ _ _ (fun e => by rw [e] at hp; omega)).trans h.1, (World.cell?_setCell_other _ _ _ _ (fun e => by rw [e] at hp; omega)).trans h.2.1, (World.cell?_setCell_other _ _ _ _ (fun e => by rw [e] at hp; omega)).trans h.2.2.1, (World.cell?_setCell_other _ _ _ _ (fun e => by rw [e] at hp; omega)).trans h.2.2.2.1, (World.cell?_setCell_other _ _ _ _ (fun e => by rw [e] at hp; omega)).trans h.2.2.2.2.1, (World.cell?_setCell_other _ _ _ _ (fun e => by rw [e] at hp; omega)).trans h.2.2.2.2.2.1, (World.cell?_setCell_other _ _ _ _ (fun e => by rw [e] at hp; omega)).trans h.2.2.2.2.2.2.1, (World.cell?_setCell_other _ _ _ _ (fun e => by rw [e] at hp; omega)).trans h.2.2.2.2.2.2.2.1, (World.cell?_setCell_other _ _ _ _ (fun e => by rw [e] at hp; omega)).trans h.2.2.2.2.2.2.2.2.1, (World.cell?_setCell_other _ _ _ _ (fun e => by rw [e] at hp; omega)).trans h.2.2.2.2.2.2.2.2.2.1, (World.cell?_setCell_other _ _ _ _ (fun e => by rw [e] at hp; omega)).trans h.2.2.2.2.2.2.2.2.2.2.1, (World.cell?_setCell_other _ _ _ _ (fun e => by rw [e] at hp; omega)).trans h.2.2.2.2.2.2.2.2.2.2.2.1, (World.cell?_setCell_other _ _ _ _ (fun e => by rw [e] at hp; omega)).trans h.2.2.2.2.2.2.2.2.2.2.2.2.1, (h.2.2.2.2.2.2.2.2.2.2.2.2.2).setCell hp y⟩

theorem rrF0 (c v : Int) (l : Value) (w : World) : (Instr.field 33 (.agg #[.int .i64 c, .int .i64 v, l]) 0).run Try.prog w = .ok (.int .i64 c) w := by kernel_rfl

theorem rrF1 (c v : Int) (l : Value) (w : World) : (Instr.field 33 (.agg #[.int .i64 c, .int .i64 v, l]) 1).run Try.prog w = .ok (.int .i64 v) w := by kernel_rfl

theorem lrF0 (c : Int) (l : Value) (w : World) : (Instr.field 40 (.agg #[.int .i64 c, l]) 0).run Try.prog w = .ok (.int .i64 c) w := by kernel_rfl

theorem irF0 (c v : Int) (w : World) : (Instr.field 43 (.agg #[.int .i64 c, .int .i64 v]) 0).run Try.prog w = .ok (.int .i64 c) w := by kernel_rfl

theorem undef_no {b : Bool} (h : some undef = some (Value.bool b)) : False := by
  injection h with h
  cases h

set_option maxRecDepth 100000 in
theorem slots_big (a : Option Addr) (len cap : Nat) (w : World) (hl : len ≤ maxLen) (hbig : 1048576 < len) :
    Calls Try.prog 3 #[.slice a len cap] w fun e w' => e = .returned (.bool true) ∧ Below w.heap.size w w' := by
  go_enter Try.func3, Try.ntmps3
  go_wp2_with fail
  refine (lwBig_calls a len cap _ hl).mono ?_
  rintro e w1 ⟨rfl, hw⟩
  obtain rfl : w = w1 := hw.symm
  clear hw
  rw [decide_eq_true (by omega)]
  go_wp2
  go_ret
  exact ⟨rfl, Below.refl _ _⟩

set_option maxRecDepth 100000 in
set_option maxHeartbeats 8000000 in
theorem slots_small (a : Option Addr) (len cap : Nat) (w : World) (hc : Cd w a len) :
    Calls Try.prog 3 #[.slice a len cap] w fun e w' => e = .returned (.bool true) ∧ Below w.heap.size w w' := by
  have hlm : len ≤ maxLen := by have := hc.1; unfold maxLen; omega
  have M0 := Mm.start w
  have fd0 := rrF0
  have fd1 := rrF1
  have fd2 := lrF0
  have fd3 := irF0
  go_enter Try.func3, Try.ntmps3
  go_wp2_with fail
  refine (lwBig_calls a len cap _ hlm).mono ?_
  rintro e w0 ⟨rfl, hw⟩
  obtain rfl : w = w0 := hw.symm
  rw [decide_eq_false (by have := hc.1; omega)]
  clear hw
  go_wp2_with fail
  refine (drawEnterLabel_calls a len cap _ hc).mono ?_
  rintro e w1 ⟨ra, n, rc, ss, la, ll, lc, zs, rfl, rg, hn, fr, hl, g1⟩
  have z1 := g1.size
  have M1 := ((((M0.below g1).fact RgS.loc rg).fact FrS.loc fr).alloc1 (.slice ra n rc) 26).alloc1 (.slice la ll lc) 29
  simp only [World.size_alloc] at M1
  have hnm : n ≤ maxLen := by unfold maxLen; omega
  have hllm : ll ≤ maxLen := by unfold maxLen; omega
  clear M0 g1 rg fr
  go_wp2_with fail
  refine (implEnterLabel_calls ra n rc ss la ll lc zs _ hnm (M1.get 1 rfl).sls hllm (M1.get 0 rfl).sl).mono ?_
  rintro e w2 ⟨ea, en, ec, rfl, o2, g2⟩
  have z2 := g2.size
  simp only [World.size_alloc] at z2 o2
  have M2 := ((M1.below g2).fact OR.loc o2).alloc3 (.int .i64 (elC ss zs)) (.int .i64 (elV ss zs)) (.slice ea en ec) 33
  have henm : en ≤ maxLen := by have h1 := o2.2.1; unfold maxLen; omega
  clear M1 g2 o2
  have hc2 := hc.below M2.bel
  go_wp2_with fail
  refine (drawLeaveLabel_calls a len cap _ hc2).mono ?_
  rintro e w3 ⟨xa, xn, xc, xs, p, rfl, rg3, hxn, g3⟩
  have z3 := g3.size
  simp only [World.size_alloc] at z3 rg3
  have M3 := ((M2.below g3).fact RgS.loc rg3).alloc1 (.slice xa xn xc) 26
  have hxm : xn ≤ maxLen := by unfold maxLen; omega
  clear M2 g3 rg3 hc2
  go_wp2_with fail
  refine (implLeaveLabel_calls xa xn xc xs p _ hxm (M3.get 0 rfl).sls).mono ?_
  rintro e w4 ⟨ya, yn, yc, rfl, o4, g4⟩
  have z4 := g4.size
  simp only [World.size_alloc] at z4 o4
  have M4 := ((M3.below g4).fact OR.loc o4).alloc3 (.int .i64 (laC xs p)) (.int .i64 (lvR xs p)) (.slice ya yn yc) 33
  have hym : yn ≤ maxLen := by have h1 := o4.2.1; unfold maxLen; omega
  clear M3 g4 o4
  have e1 : (laC xs p != laC xs p) = false := by simp
  have e2 : (lvR xs p != lvR xs p) = false := by simp
  have u0 := M4.cell 0 rfl
  have u1 := M4.cell 1 rfl
  have u2 := M4.cell 2 rfl
  have u3 := M4.cell 3 rfl
  obtain ⟨W, hW⟩ : ∃ W : World, W = w4.alloc (.cells #[.int .i64 (laC xs p), .int .i64 (lvR xs p), .slice ya yn yc] 33) := ⟨_, rfl⟩
  rw [← hW] at M4
  have HW := hide hW
  have lt0 : (Addr.mk (w4.heap.size) 0 none).block < W.heap.size := M4.lt 0 rfl
  have lt1 : (Addr.mk (w4.heap.size) 1 none).block < W.heap.size := M4.lt 1 rfl
  have lt2 : (Addr.mk (w4.heap.size) 2 none).block < W.heap.size := M4.lt 2 rfl
  have lt3 : (Addr.mk (w3.heap.size) 0 none).block < W.heap.size := M4.lt 3 rfl
  have HM := hide M4
  have HXS := hide ((M4.get 1 rfl).sls)
  have HYS := hide ((M4.get 0 rfl).sls)
  have HS0 : Hid (W.drew.cell? ⟨w4.heap.size, 0, none⟩ = some (.int .i64 (laC xs p)) ∧ W.drew.cell? ⟨w4.heap.size, 1, none⟩ = some (.int .i64 (lvR xs p)) ∧ W.drew.cell? ⟨w4.heap.size, 2, none⟩ = some (.slice ya yn yc) ∧ W.drew.cell? ⟨w3.heap.size, 0, none⟩ = some (.slice xa xn xc) ∧ Below W.heap.size W W.drew) := ⟨M4.cell 0 rfl, M4.cell 1 rfl, M4.cell 2 rfl, M4.cell 3 rfl, (Below.refl _ _).drew⟩
  clear M4 hW
  go_upto_region 7 with fail
  rw [← HW.out]
  clear u0 u1 u2 u3
  go_cut [68] (fun v wd => v = .bool false ∧ Below W.heap.size W wd)
  case first =>
    by_cases hp : laC xs p = 0
    · have e3 : (laC xs p == 0) = true := by simp [hp]
      have e4 : (faultR (lvL xs p) != 0) = false := by rw [lv_fault hp]; rfl
      clear hp
      go_region_held2 (fun w' => w'.cell? ⟨w4.heap.size, 0, none⟩ = some (.int .i64 (laC xs p)) ∧ w'.cell? ⟨w4.heap.size, 1, none⟩ = some (.int .i64 (lvR xs p)) ∧ w'.cell? ⟨w4.heap.size, 2, none⟩ = some (.slice ya yn yc) ∧ w'.cell? ⟨w3.heap.size, 0, none⟩ = some (.slice xa xn xc) ∧ Below W.heap.size W w')
        (first | with_reducible exact HS0.out | with_reducible assumption)
        (first
          | (go_at_call 9; refine (specLeaveLabel_calls xa xn xc xs p _ hxm ?_).mono ?_; exact HXS.out.below (q4_bel (by with_reducible assumption)) (Nat.le_refl _); rintro e y1 ⟨_, _, _, rfl, _, ga⟩; have hs1 := q4_below lt0 lt1 lt2 lt3 (by with_reducible assumption) ga; clear ga)
          | (go_at_call 10; refine (implRegistryFault_calls ya yn yc (lvL xs p) _ hym ?_).mono ?_; exact HYS.out.below (q4_bel (by with_reducible assumption)) (Nat.le_refl _); rintro e y1 ⟨rfl, ga⟩; have hs1 := q4_below lt0 lt1 lt2 lt3 (by with_reducible assumption) ga; clear ga)
          | (go_at_call 11; refine (implLabelAt_calls xa xn xc xs p _ hxm ?_).mono ?_; exact HXS.out.below (q4_bel (by with_reducible assumption)) (Nat.le_refl _); rintro e y1 ⟨_, _, _, rfl, _, ga⟩; have hs1 := q4_below lt0 lt1 lt2 lt3 (by with_reducible assumption) ga; clear ga)
          | (go_at_call 12; refine (specLabelAt_calls xa xn xc xs p _ hxm ?_).mono ?_; exact HXS.out.below (q4_bel (by with_reducible assumption)) (Nat.le_refl _); rintro e y1 ⟨_, _, _, rfl, _, ga⟩; have hs1 := q4_below lt0 lt1 lt2 lt3 (by with_reducible assumption) ga; clear ga))
      all_goals go_wp2_with fail
      all_goals go_meet
      all_goals exact ⟨rfl, q4_bel hs1⟩
    · have e3 : (laC xs p == 0) = false := by simpa using hp
      clear hp
      refine wp_region_held_drew (S := (fun w' => w'.cell? ⟨w4.heap.size, 0, none⟩ = some (.int .i64 (laC xs p)) ∧ w'.cell? ⟨w4.heap.size, 1, none⟩ = some (.int .i64 (lvR xs p)) ∧ w'.cell? ⟨w4.heap.size, 2, none⟩ = some (.slice ya yn yc) ∧ w'.cell? ⟨w3.heap.size, 0, none⟩ = some (.slice xa xn xc) ∧ Below W.heap.size W w')) (by kernel_rfl) HS0.out (fun hHeld => ?_)
      refine wpAnyH_take (i := 0) (oi := { dst := some 31, op := Go.Op.fieldAddr 33 (Go.Operand.tmp 8) 0, type := 0, pos := "laws.go:124", after := #[], guard := none }) (v := ?_) rfl (by kernel_rfl) (by kernel_rfl) (by kernel_rfl) (fun _ _ _ h => h) (Or.inl ⟨by rfl, ?_⟩) (by assumption) ?_
      rotate_left
      · (intro w hSw; (try dsimp only at hSw); go_simp; (try with_reducible rfl))
      (try simp only [Act.put, List.setIfInBounds_toArray, List.set_cons_zero, List.set_cons_succ])
      refine wpAnyH_take (i := 1) (oi := { dst := some 32, op := Go.Op.load 2 (Go.Operand.tmp 31), type := 2, pos := "laws.go:124", after := #[{ on := 0, ground := Go.Ground.data }], guard := none }) (v := ?_) rfl (by kernel_rfl) (by kernel_rfl) (by kernel_rfl) (fun _ _ _ h => h) (Or.inl ⟨by rfl, ?_⟩) (by assumption) ?_
      rotate_left
      · (intro w hSw; (try dsimp only at hSw); go_simp; (try with_reducible rfl))
      (try simp only [Act.put, List.setIfInBounds_toArray, List.set_cons_zero, List.set_cons_succ])
      refine wpAnyH_take (i := 2) (oi := { dst := some 33, op := Go.Op.load 26 (Go.Operand.tmp 6), type := 26, pos := "laws.go:124", after := #[], guard := none }) (v := ?_) rfl (by kernel_rfl) (by kernel_rfl) (by kernel_rfl) (fun _ _ _ h => h) (Or.inl ⟨by rfl, ?_⟩) (by assumption) ?_
      rotate_left
      · (intro w hSw; (try dsimp only at hSw); go_simp; (try with_reducible rfl))
      (try simp only [Act.put, List.setIfInBounds_toArray, List.set_cons_zero, List.set_cons_succ])
      refine wpAnyH_take (i := 3) (oi := { dst := some 34, op := Go.Op.move (Go.Operand.tmp 7), type := 2, pos := "laws.go:124", after := #[], guard := none }) (v := ?_) rfl (by kernel_rfl) (by kernel_rfl) (by kernel_rfl) (fun _ _ _ h => h) (Or.inl ⟨by rfl, ?_⟩) (by assumption) ?_
      rotate_left
      · (intro w hSw; (try dsimp only at hSw); go_simp; (try with_reducible rfl))
      (try simp only [Act.put, List.setIfInBounds_toArray, List.set_cons_zero, List.set_cons_succ])
      refine wpAnyH_ready (rs := [4]) (by kernel_rfl) (by simp) ?_
      refine AllReadyH.cons (o := { dst := some 35, op := Go.Op.call { callee := Go.Callee.value (Go.Operand.func 9), args := #[Go.Operand.tmp 33, Go.Operand.tmp 34], argTypes := #[26, 2] }, type := 33, pos := "laws.go:124", after := #[{ on := 2, ground := Go.Ground.data }, { on := 3, ground := Go.Ground.data }], guard := none }) rfl (fun K hK => ?_) AllReadyH.nil
      go_simp
      go_wp2_with (go_at_call 9; refine (specLeaveLabel_calls xa xn xc xs p _ hxm ?_).mono ?_; exact HXS.out.below (q4_bel (by with_reducible assumption)) (Nat.le_refl _); rintro e y1 ⟨_, _, _, rfl, _, ga⟩; have hs1 := q4_below lt0 lt1 lt2 lt3 (by with_reducible assumption) ga; clear ga)
      refine hK.out _ _ hs1 (fun hHeld => ?_)
      clear hK K
      (try simp only [Act.put, List.setIfInBounds_toArray, List.set_cons_zero, List.set_cons_succ])
      refine wpAnyH_take (i := 5) (oi := { dst := some 36, op := Go.Op.field 33 (Go.Operand.tmp 35) 0, type := 2, pos := "laws.go:124", after := #[{ on := 4, ground := Go.Ground.data }], guard := none }) (v := ?_) rfl (by kernel_rfl) (by kernel_rfl) (by kernel_rfl) (fun _ _ _ h => h) (Or.inl ⟨by rfl, ?_⟩) (by assumption) ?_
      rotate_left
      · (intro w hSw; (try dsimp only at hSw); go_simp; (try with_reducible rfl))
      (try simp only [Act.put, List.setIfInBounds_toArray, List.set_cons_zero, List.set_cons_succ])
      refine wpAnyH_take (i := 6) (oi := { dst := some 37, op := Go.Op.binOp Go.BinOp.neq 2 (Go.Operand.tmp 32) (Go.Operand.tmp 36) 2, type := 4, pos := "laws.go:124", after := #[{ on := 1, ground := Go.Ground.data }, { on := 5, ground := Go.Ground.data }], guard := none }) (v := ?_) rfl (by kernel_rfl) (by kernel_rfl) (by kernel_rfl) (fun _ _ _ h => h) (Or.inl ⟨by rfl, ?_⟩) (by assumption) ?_
      rotate_left
      · (intro w hSw; (try dsimp only at hSw); go_simp; (try with_reducible rfl))
      (try simp only [Act.put, List.setIfInBounds_toArray, List.set_cons_zero, List.set_cons_succ])
      refine wpAnyH_take (i := 7) (oi := { dst := some 38, op := Go.Op.move (Go.Operand.tmp 37), type := 4, pos := "laws.go:124", after := #[{ on := 6, ground := Go.Ground.data }, { on := 4, ground := Go.Ground.chain }], guard := none }) (v := ?_) rfl (by kernel_rfl) (by kernel_rfl) (by kernel_rfl) (fun _ _ _ h => h) (Or.inl ⟨by rfl, ?_⟩) (by assumption) ?_
      rotate_left
      · (intro w hSw; (try dsimp only at hSw); go_simp; (try with_reducible rfl))
      (try simp only [Act.put, List.setIfInBounds_toArray, List.set_cons_zero, List.set_cons_succ])
      refine wpAnyH_take (i := 8) (oi := { dst := some 39, op := Go.Op.fieldAddr 33 (Go.Operand.tmp 8) 1, type := 0, pos := "laws.go:124", after := #[{ on := 7, ground := Go.Ground.guard }], guard := some (7, false) }) (v := ?_) rfl (by kernel_rfl) (by kernel_rfl) (by kernel_rfl) (fun _ _ _ h => h) (Or.inl ⟨by rfl, ?_⟩) (by assumption) ?_
      rotate_left
      · (intro w hSw; (try dsimp only at hSw); go_simp; (try with_reducible rfl))
      (try simp only [Act.put, List.setIfInBounds_toArray, List.set_cons_zero, List.set_cons_succ])
      refine wpAnyH_take (i := 9) (oi := { dst := some 40, op := Go.Op.load 2 (Go.Operand.tmp 39), type := 2, pos := "laws.go:124", after := #[{ on := 8, ground := Go.Ground.data }, { on := 7, ground := Go.Ground.guard }], guard := some (7, false) }) (v := ?_) rfl (by kernel_rfl) (by kernel_rfl) (by kernel_rfl) (fun _ _ _ h => h) (Or.inl ⟨by rfl, ?_⟩) (by assumption) ?_
      rotate_left
      · (intro w hSw; (try dsimp only at hSw); go_simp; (try with_reducible rfl))
      (try simp only [Act.put, List.setIfInBounds_toArray, List.set_cons_zero, List.set_cons_succ])
      refine wpAnyH_take (i := 10) (oi := { dst := some 41, op := Go.Op.load 26 (Go.Operand.tmp 6), type := 26, pos := "laws.go:124", after := #[{ on := 7, ground := Go.Ground.guard }], guard := some (7, false) }) (v := ?_) rfl (by kernel_rfl) (by kernel_rfl) (by kernel_rfl) (fun _ _ _ h => h) (Or.inl ⟨by rfl, ?_⟩) (by assumption) ?_
      rotate_left
      · (intro w hSw; (try dsimp only at hSw); go_simp; (try with_reducible rfl))
      (try simp only [Act.put, List.setIfInBounds_toArray, List.set_cons_zero, List.set_cons_succ])
      refine wpAnyH_take (i := 11) (oi := { dst := some 42, op := Go.Op.move (Go.Operand.tmp 7), type := 2, pos := "laws.go:124", after := #[{ on := 7, ground := Go.Ground.guard }], guard := some (7, false) }) (v := ?_) rfl (by kernel_rfl) (by kernel_rfl) (by kernel_rfl) (fun _ _ _ h => h) (Or.inl ⟨by rfl, ?_⟩) (by assumption) ?_
      rotate_left
      · (intro w hSw; (try dsimp only at hSw); go_simp; (try with_reducible rfl))
      (try simp only [Act.put, List.setIfInBounds_toArray, List.set_cons_zero, List.set_cons_succ])
      refine wpAnyH_ready (rs := [12]) (by kernel_rfl) (by simp) ?_
      refine AllReadyH.cons (o := { dst := some 43, op := Go.Op.call { callee := Go.Callee.value (Go.Operand.func 9), args := #[Go.Operand.tmp 41, Go.Operand.tmp 42], argTypes := #[26, 2] }, type := 33, pos := "laws.go:124", after := #[{ on := 10, ground := Go.Ground.data }, { on := 11, ground := Go.Ground.data }, { on := 7, ground := Go.Ground.chain }, { on := 7, ground := Go.Ground.guard }], guard := some (7, false) }) rfl (fun K hK => ?_) AllReadyH.nil
      go_simp
      go_wp2_with (go_at_call 9; refine (specLeaveLabel_calls xa xn xc xs p _ hxm ?_).mono ?_; exact HXS.out.below (q4_bel (by with_reducible assumption)) (Nat.le_refl _); rintro e y1 ⟨_, _, _, rfl, _, ga⟩; have hs1 := q4_below lt0 lt1 lt2 lt3 (by with_reducible assumption) ga; clear ga)
      refine hK.out _ _ hs1 (fun hHeld => ?_)
      clear hK K
      (try simp only [Act.put, List.setIfInBounds_toArray, List.set_cons_zero, List.set_cons_succ])
      refine wpAnyH_take (i := 13) (oi := { dst := some 44, op := Go.Op.field 33 (Go.Operand.tmp 43) 1, type := 2, pos := "laws.go:124", after := #[{ on := 12, ground := Go.Ground.data }, { on := 7, ground := Go.Ground.guard }], guard := some (7, false) }) (v := ?_) rfl (by kernel_rfl) (by kernel_rfl) (by kernel_rfl) (fun _ _ _ h => h) (Or.inl ⟨by rfl, ?_⟩) (by assumption) ?_
      rotate_left
      · (intro w hSw; (try dsimp only at hSw); go_simp; (try with_reducible rfl))
      (try simp only [Act.put, List.setIfInBounds_toArray, List.set_cons_zero, List.set_cons_succ])
      refine wpAnyH_take (i := 14) (oi := { dst := some 45, op := Go.Op.binOp Go.BinOp.neq 2 (Go.Operand.tmp 40) (Go.Operand.tmp 44) 2, type := 4, pos := "laws.go:124", after := #[{ on := 9, ground := Go.Ground.data }, { on := 13, ground := Go.Ground.data }, { on := 7, ground := Go.Ground.guard }], guard := some (7, false) }) (v := ?_) rfl (by kernel_rfl) (by kernel_rfl) (by kernel_rfl) (fun _ _ _ h => h) (Or.inl ⟨by rfl, ?_⟩) (by assumption) ?_
      rotate_left
      · (intro w hSw; (try dsimp only at hSw); go_simp; (try with_reducible rfl))
      (try simp only [Act.put, List.setIfInBounds_toArray, List.set_cons_zero, List.set_cons_succ])
      refine wpAnyH_take (i := 15) (oi := { dst := some 46, op := Go.Op.pick (Go.Operand.tmp 38) (Go.Operand.const (Go.Value.bool true)) (Go.Operand.tmp 45), type := 4, pos := "laws.go:124", after := #[{ on := 7, ground := Go.Ground.data }, { on := 14, ground := Go.Ground.data }], guard := none }) (v := ?_) rfl (by kernel_rfl) (by kernel_rfl) (by kernel_rfl) (fun _ _ _ h => h) (Or.inl ⟨by rfl, ?_⟩) (by assumption) ?_
      rotate_left
      · (intro w hSw; (try dsimp only at hSw); go_simp; (try with_reducible rfl))
      (try simp only [Act.put, List.setIfInBounds_toArray, List.set_cons_zero, List.set_cons_succ])
      refine wpAnyH_take (i := 16) (oi := { dst := some 47, op := Go.Op.move (Go.Operand.tmp 46), type := 4, pos := "laws.go:124", after := #[{ on := 15, ground := Go.Ground.data }, { on := 12, ground := Go.Ground.chain }], guard := none }) (v := ?_) rfl (by kernel_rfl) (by kernel_rfl) (by kernel_rfl) (fun _ _ _ h => h) (Or.inl ⟨by rfl, ?_⟩) (by assumption) ?_
      rotate_left
      · (intro w hSw; (try dsimp only at hSw); go_simp; (try with_reducible rfl))
      (try simp only [Act.put, List.setIfInBounds_toArray, List.set_cons_zero, List.set_cons_succ])
      refine wpAnyH_take (i := 17) (oi := { dst := some 48, op := Go.Op.fieldAddr 33 (Go.Operand.tmp 8) 0, type := 0, pos := "laws.go:124", after := #[{ on := 16, ground := Go.Ground.guard }], guard := some (16, false) }) (v := ?_) rfl (by kernel_rfl) (by kernel_rfl) (by kernel_rfl) (fun _ _ _ h => h) (Or.inl ⟨by rfl, ?_⟩) (by assumption) ?_
      rotate_left
      · (intro w hSw; (try dsimp only at hSw); go_simp; (try with_reducible rfl))
      (try simp only [Act.put, List.setIfInBounds_toArray, List.set_cons_zero, List.set_cons_succ])
      refine wpAnyH_take (i := 18) (oi := { dst := some 49, op := Go.Op.load 2 (Go.Operand.tmp 48), type := 2, pos := "laws.go:124", after := #[{ on := 17, ground := Go.Ground.data }, { on := 16, ground := Go.Ground.guard }], guard := some (16, false) }) (v := ?_) rfl (by kernel_rfl) (by kernel_rfl) (by kernel_rfl) (fun _ _ _ h => h) (Or.inl ⟨by rfl, ?_⟩) (by assumption) ?_
      rotate_left
      · (intro w hSw; (try dsimp only at hSw); go_simp; (try with_reducible rfl))
      (try simp only [Act.put, List.setIfInBounds_toArray, List.set_cons_zero, List.set_cons_succ])
      refine wpAnyH_take (i := 19) (oi := { dst := some 50, op := Go.Op.binOp Go.BinOp.eql 2 (Go.Operand.tmp 49) (Go.Operand.const (Go.Value.int Go.IntKind.i64 0)) 2, type := 4, pos := "laws.go:124", after := #[{ on := 18, ground := Go.Ground.data }, { on := 16, ground := Go.Ground.guard }], guard := some (16, false) }) (v := ?_) rfl (by kernel_rfl) (by kernel_rfl) (by kernel_rfl) (fun _ _ _ h => h) (Or.inl ⟨by rfl, ?_⟩) (by assumption) ?_
      rotate_left
      · (intro w hSw; (try dsimp only at hSw); go_simp; (try with_reducible rfl))
      (try simp only [Act.put, List.setIfInBounds_toArray, List.set_cons_zero, List.set_cons_succ])
      refine wpAnyH_take (i := 20) (oi := { dst := some 51, op := Go.Op.move (Go.Operand.tmp 50), type := 4, pos := "laws.go:124", after := #[{ on := 19, ground := Go.Ground.data }, { on := 16, ground := Go.Ground.chain }, { on := 16, ground := Go.Ground.guard }], guard := some (16, false) }) (v := ?_) rfl (by kernel_rfl) (by kernel_rfl) (by kernel_rfl) (fun _ _ _ h => h) (Or.inl ⟨by rfl, ?_⟩) (by assumption) ?_
      rotate_left
      · (intro w hSw; (try dsimp only at hSw); go_simp; (try with_reducible rfl))
      (try simp only [Act.put, List.setIfInBounds_toArray, List.set_cons_zero, List.set_cons_succ])
      refine wpAnyH_take (i := 21) (oi := { dst := some 52, op := Go.Op.fieldAddr 33 (Go.Operand.tmp 8) 2, type := 0, pos := "laws.go:124", after := #[{ on := 20, ground := Go.Ground.guard }], guard := some (20, true) }) (v := undef) rfl (by kernel_rfl) (by kernel_rfl) (by kernel_rfl) (fun _ _ _ h => h) (Or.inr ⟨by rfl, rfl⟩) (by assumption) ?_
      (try simp only [Act.put, List.setIfInBounds_toArray, List.set_cons_zero, List.set_cons_succ])
      refine wpAnyH_take (i := 22) (oi := { dst := some 53, op := Go.Op.load 26 (Go.Operand.tmp 52), type := 26, pos := "laws.go:124", after := #[{ on := 21, ground := Go.Ground.data }, { on := 20, ground := Go.Ground.guard }], guard := some (20, true) }) (v := undef) rfl (by kernel_rfl) (by kernel_rfl) (by kernel_rfl) (fun _ _ _ h => h) (Or.inr ⟨by rfl, rfl⟩) (by assumption) ?_
      (try simp only [Act.put, List.setIfInBounds_toArray, List.set_cons_zero, List.set_cons_succ])
      refine wpAnyH_take (i := 23) (oi := { dst := some 54, op := Go.Op.call { callee := Go.Callee.value (Go.Operand.func 10), args := #[Go.Operand.tmp 53], argTypes := #[26] }, type := 2, pos := "laws.go:124", after := #[{ on := 22, ground := Go.Ground.data }, { on := 20, ground := Go.Ground.chain }, { on := 20, ground := Go.Ground.guard }], guard := some (20, true) }) (v := undef) rfl (by kernel_rfl) (by kernel_rfl) (by kernel_rfl) (fun _ _ _ h => h) (Or.inr ⟨by rfl, rfl⟩) (by assumption) ?_
      (try simp only [Act.put, List.setIfInBounds_toArray, List.set_cons_zero, List.set_cons_succ])
      refine wpAnyH_take (i := 24) (oi := { dst := some 55, op := Go.Op.binOp Go.BinOp.neq 2 (Go.Operand.tmp 54) (Go.Operand.const (Go.Value.int Go.IntKind.i64 0)) 2, type := 4, pos := "laws.go:124", after := #[{ on := 23, ground := Go.Ground.data }, { on := 20, ground := Go.Ground.guard }], guard := some (20, true) }) (v := undef) rfl (by kernel_rfl) (by kernel_rfl) (by kernel_rfl) (fun _ _ _ h => h) (Or.inr ⟨by rfl, rfl⟩) (by assumption) ?_
      (try simp only [Act.put, List.setIfInBounds_toArray, List.set_cons_zero, List.set_cons_succ])
      refine wpAnyH_take (i := 25) (oi := { dst := some 56, op := Go.Op.pick (Go.Operand.tmp 51) (Go.Operand.tmp 55) (Go.Operand.const (Go.Value.bool false)), type := 4, pos := "laws.go:124", after := #[{ on := 20, ground := Go.Ground.data }, { on := 24, ground := Go.Ground.data }, { on := 16, ground := Go.Ground.guard }], guard := some (16, false) }) (v := ?_) rfl (by kernel_rfl) (by kernel_rfl) (by kernel_rfl) (fun _ _ _ h => h) (Or.inl ⟨by rfl, ?_⟩) (by assumption) ?_
      rotate_left
      · (intro w hSw; (try dsimp only at hSw); go_simp; (try with_reducible rfl))
      (try simp only [Act.put, List.setIfInBounds_toArray, List.set_cons_zero, List.set_cons_succ])
      refine wpAnyH_take (i := 26) (oi := { dst := some 57, op := Go.Op.pick (Go.Operand.tmp 47) (Go.Operand.const (Go.Value.bool true)) (Go.Operand.tmp 56), type := 4, pos := "laws.go:124", after := #[{ on := 16, ground := Go.Ground.data }, { on := 25, ground := Go.Ground.data }], guard := none }) (v := ?_) rfl (by kernel_rfl) (by kernel_rfl) (by kernel_rfl) (fun _ _ _ h => h) (Or.inl ⟨by rfl, ?_⟩) (by assumption) ?_
      rotate_left
      · (intro w hSw; (try dsimp only at hSw); go_simp; (try with_reducible rfl))
      (try simp only [Act.put, List.setIfInBounds_toArray, List.set_cons_zero, List.set_cons_succ])
      refine wpAnyH_take (i := 27) (oi := { dst := some 58, op := Go.Op.move (Go.Operand.tmp 57), type := 4, pos := "laws.go:124", after := #[{ on := 26, ground := Go.Ground.data }, { on := 23, ground := Go.Ground.chain }], guard := none }) (v := ?_) rfl (by kernel_rfl) (by kernel_rfl) (by kernel_rfl) (fun _ _ _ h => h) (Or.inl ⟨by rfl, ?_⟩) (by assumption) ?_
      rotate_left
      · (intro w hSw; (try dsimp only at hSw); go_simp; (try with_reducible rfl))
      (try simp only [Act.put, List.setIfInBounds_toArray, List.set_cons_zero, List.set_cons_succ])
      refine wpAnyH_take (i := 28) (oi := { dst := some 59, op := Go.Op.load 26 (Go.Operand.tmp 6), type := 26, pos := "laws.go:124", after := #[{ on := 27, ground := Go.Ground.guard }], guard := some (27, false) }) (v := ?_) rfl (by kernel_rfl) (by kernel_rfl) (by kernel_rfl) (fun _ _ _ h => h) (Or.inl ⟨by rfl, ?_⟩) (by assumption) ?_
      rotate_left
      · (intro w hSw; (try dsimp only at hSw); go_simp; (try with_reducible rfl))
      (try simp only [Act.put, List.setIfInBounds_toArray, List.set_cons_zero, List.set_cons_succ])
      refine wpAnyH_take (i := 29) (oi := { dst := some 60, op := Go.Op.move (Go.Operand.tmp 7), type := 2, pos := "laws.go:124", after := #[{ on := 27, ground := Go.Ground.guard }], guard := some (27, false) }) (v := ?_) rfl (by kernel_rfl) (by kernel_rfl) (by kernel_rfl) (fun _ _ _ h => h) (Or.inl ⟨by rfl, ?_⟩) (by assumption) ?_
      rotate_left
      · (intro w hSw; (try dsimp only at hSw); go_simp; (try with_reducible rfl))
      (try simp only [Act.put, List.setIfInBounds_toArray, List.set_cons_zero, List.set_cons_succ])
      refine wpAnyH_take (i := 32) (oi := { dst := some 63, op := Go.Op.load 26 (Go.Operand.tmp 6), type := 26, pos := "laws.go:124", after := #[{ on := 27, ground := Go.Ground.guard }], guard := some (27, false) }) (v := ?_) rfl (by kernel_rfl) (by kernel_rfl) (by kernel_rfl) (fun _ _ _ h => h) (Or.inl ⟨by rfl, ?_⟩) (by assumption) ?_
      rotate_left
      · (intro w hSw; (try dsimp only at hSw); go_simp; (try with_reducible rfl))
      (try simp only [Act.put, List.setIfInBounds_toArray, List.set_cons_zero, List.set_cons_succ])
      refine wpAnyH_take (i := 33) (oi := { dst := some 64, op := Go.Op.move (Go.Operand.tmp 7), type := 2, pos := "laws.go:124", after := #[{ on := 27, ground := Go.Ground.guard }], guard := some (27, false) }) (v := ?_) rfl (by kernel_rfl) (by kernel_rfl) (by kernel_rfl) (fun _ _ _ h => h) (Or.inl ⟨by rfl, ?_⟩) (by assumption) ?_
      rotate_left
      · (intro w hSw; (try dsimp only at hSw); go_simp; (try with_reducible rfl))
      (try simp only [Act.put, List.setIfInBounds_toArray, List.set_cons_zero, List.set_cons_succ])
      refine wpAnyH_ready (rs := [30]) (by kernel_rfl) (by simp) ?_
      refine AllReadyH.cons (o := { dst := some 61, op := Go.Op.call { callee := Go.Callee.value (Go.Operand.func 11), args := #[Go.Operand.tmp 59, Go.Operand.tmp 60], argTypes := #[26, 2] }, type := 40, pos := "laws.go:124", after := #[{ on := 28, ground := Go.Ground.data }, { on := 29, ground := Go.Ground.data }, { on := 27, ground := Go.Ground.chain }, { on := 27, ground := Go.Ground.guard }], guard := some (27, false) }) rfl (fun K hK => ?_) AllReadyH.nil
      go_simp
      go_wp2_with (go_at_call 11; refine (implLabelAt_calls xa xn xc xs p _ hxm ?_).mono ?_; exact HXS.out.below (q4_bel (by with_reducible assumption)) (Nat.le_refl _); rintro e y1 ⟨_, _, _, rfl, _, ga⟩; have hs1 := q4_below lt0 lt1 lt2 lt3 (by with_reducible assumption) ga; clear ga)
      refine hK.out _ _ hs1 (fun hHeld => ?_)
      clear hK K
      (try simp only [Act.put, List.setIfInBounds_toArray, List.set_cons_zero, List.set_cons_succ])
      refine wpAnyH_take (i := 31) (oi := { dst := some 62, op := Go.Op.field 40 (Go.Operand.tmp 61) 0, type := 2, pos := "laws.go:124", after := #[{ on := 30, ground := Go.Ground.data }, { on := 27, ground := Go.Ground.guard }], guard := some (27, false) }) (v := ?_) rfl (by kernel_rfl) (by kernel_rfl) (by kernel_rfl) (fun _ _ _ h => h) (Or.inl ⟨by rfl, ?_⟩) (by assumption) ?_
      rotate_left
      · (intro w hSw; (try dsimp only at hSw); go_simp; (try with_reducible rfl))
      (try simp only [Act.put, List.setIfInBounds_toArray, List.set_cons_zero, List.set_cons_succ])
      refine wpAnyH_ready (rs := [34]) (by kernel_rfl) (by simp) ?_
      refine AllReadyH.cons (o := { dst := some 65, op := Go.Op.call { callee := Go.Callee.value (Go.Operand.func 12), args := #[Go.Operand.tmp 63, Go.Operand.tmp 64], argTypes := #[26, 2] }, type := 40, pos := "laws.go:124", after := #[{ on := 32, ground := Go.Ground.data }, { on := 33, ground := Go.Ground.data }, { on := 30, ground := Go.Ground.chain }, { on := 27, ground := Go.Ground.guard }], guard := some (27, false) }) rfl (fun K hK => ?_) AllReadyH.nil
      go_simp
      go_wp2_with (go_at_call 12; refine (specLabelAt_calls xa xn xc xs p _ hxm ?_).mono ?_; exact HXS.out.below (q4_bel (by with_reducible assumption)) (Nat.le_refl _); rintro e y1 ⟨_, _, _, rfl, _, ga⟩; have hs1 := q4_below lt0 lt1 lt2 lt3 (by with_reducible assumption) ga; clear ga)
      refine hK.out _ _ hs1 (fun hHeld => ?_)
      clear hK K
      (try simp only [Act.put, List.setIfInBounds_toArray, List.set_cons_zero, List.set_cons_succ])
      refine wpAnyH_take (i := 35) (oi := { dst := some 66, op := Go.Op.field 40 (Go.Operand.tmp 65) 0, type := 2, pos := "laws.go:124", after := #[{ on := 34, ground := Go.Ground.data }, { on := 27, ground := Go.Ground.guard }], guard := some (27, false) }) (v := ?_) rfl (by kernel_rfl) (by kernel_rfl) (by kernel_rfl) (fun _ _ _ h => h) (Or.inl ⟨by rfl, ?_⟩) (by assumption) ?_
      rotate_left
      · (intro w hSw; (try dsimp only at hSw); go_simp; (try with_reducible rfl))
      (try simp only [Act.put, List.setIfInBounds_toArray, List.set_cons_zero, List.set_cons_succ])
      refine wpAnyH_take (i := 36) (oi := { dst := some 67, op := Go.Op.binOp Go.BinOp.neq 2 (Go.Operand.tmp 62) (Go.Operand.tmp 66) 2, type := 4, pos := "laws.go:124", after := #[{ on := 31, ground := Go.Ground.data }, { on := 35, ground := Go.Ground.data }, { on := 27, ground := Go.Ground.guard }], guard := some (27, false) }) (v := ?_) rfl (by kernel_rfl) (by kernel_rfl) (by kernel_rfl) (fun _ _ _ h => h) (Or.inl ⟨by rfl, ?_⟩) (by assumption) ?_
      rotate_left
      · (intro w hSw; (try dsimp only at hSw); go_simp; (try with_reducible rfl))
      (try simp only [Act.put, List.setIfInBounds_toArray, List.set_cons_zero, List.set_cons_succ])
      refine wpAnyH_take (i := 37) (oi := { dst := some 68, op := Go.Op.pick (Go.Operand.tmp 58) (Go.Operand.const (Go.Value.bool true)) (Go.Operand.tmp 67), type := 4, pos := "laws.go:124", after := #[{ on := 27, ground := Go.Ground.data }, { on := 36, ground := Go.Ground.data }], guard := none }) (v := ?_) rfl (by kernel_rfl) (by kernel_rfl) (by kernel_rfl) (fun _ _ _ h => h) (Or.inl ⟨by rfl, ?_⟩) (by assumption) ?_
      rotate_left
      · (intro w hSw; (try dsimp only at hSw); go_simp; (try with_reducible rfl))
      (try simp only [Act.put, List.setIfInBounds_toArray, List.set_cons_zero, List.set_cons_succ])
      refine wpAnyH_done (by kernel_rfl) ?_ _
      go_wp2_with fail
      go_meet
      exact ⟨rfl, q4_bel hs1⟩
  case rest =>
    obtain ⟨rfl, gc7⟩ := hcut
    obtain ⟨w5, rfl⟩ : ∃ x, x = wc := ⟨wc, rfl⟩
    have M5 := (HM.out.below gc7).sub (cs' := [(w2.heap.size, 0, .int .i64 (elC ss zs)), (w2.heap.size, 1, .int .i64 (elV ss zs)), (w2.heap.size, 2, .slice ea en ec), (w1.heap.size + 1, 0, .slice la ll lc), (w1.heap.size, 0, .slice ra n rc)]) (fs' := [(w1.heap.size + 1 + 1, w2.heap.size, OR (InR (w1.heap.size + 1 + 1) w2.heap.size) ea en (elL ss zs)), (w.heap.size, w1.heap.size, FrS (InR w.heap.size w1.heap.size) la ll zs), (w.heap.size, w1.heap.size, RgS (InR w.heap.size w1.heap.size) ra n ss)]) (fun _ h => List.mem_cons_of_mem _ (List.mem_cons_of_mem _ (List.mem_cons_of_mem _ (List.mem_cons_of_mem _ h)))) (fun _ h => List.mem_cons_of_mem _ (List.mem_cons_of_mem _ h))
    clear gc7 HM HS0 lt0 lt1 lt2 lt3 HXS HYS HW e1 e2
    have v0 := M5.cell 0 rfl
    have v2 := M5.cell 2 rfl
    have v3 := M5.cell 3 rfl
    have v4 := M5.cell 4 rfl
    by_cases hf : elC ss zs = 0
    rotate_left
    · have ef : (elC ss zs != 0) = true := by simpa using hf
      have eA : (elC ss zs == elC ss zs) = true := by simp
      have eB : (soC ss zs == soC ss zs) = true := by simp
      clear hf v2
      have lt0 : (Addr.mk (w2.heap.size) 0 none).block < w5.heap.size := M5.lt 0 rfl
      have lt1 : (Addr.mk (w1.heap.size + 1) 0 none).block < w5.heap.size := M5.lt 3 rfl
      have lt2 : (Addr.mk (w1.heap.size) 0 none).block < w5.heap.size := M5.lt 4 rfl
      have HM := hide M5
      have HLS := hide ((M5.get 1 rfl).sl)
      have HRS := hide ((M5.get 2 rfl).sls)
      have HS0 : Hid (w5.drew.cell? ⟨w2.heap.size, 0, none⟩ = some (.int .i64 (elC ss zs)) ∧ w5.drew.cell? ⟨w1.heap.size + 1, 0, none⟩ = some (.slice la ll lc) ∧ w5.drew.cell? ⟨w1.heap.size, 0, none⟩ = some (.slice ra n rc) ∧ Below w5.heap.size w5 w5.drew) := ⟨M5.cell 0 rfl, M5.cell 3 rfl, M5.cell 4 rfl, (Below.refl _ _).drew⟩
      clear M5
      go_upto_region 10 with fail
      clear v0 v3 v4
      go_region_held2 (fun w' => w'.cell? ⟨w2.heap.size, 0, none⟩ = some (.int .i64 (elC ss zs)) ∧ w'.cell? ⟨w1.heap.size + 1, 0, none⟩ = some (.slice la ll lc) ∧ w'.cell? ⟨w1.heap.size, 0, none⟩ = some (.slice ra n rc) ∧ Below w5.heap.size w5 w')
        (first | with_reducible exact HS0.out | with_reducible assumption)
        (first
          | (go_at_call 13; refine (specEnterLabel_calls ra n rc ss la ll lc zs _ hnm ?_ hllm ?_).mono ?_; exact HRS.out.below (q3_bel (by with_reducible assumption)) (Nat.le_refl _); exact HLS.out.below (q3_bel (by with_reducible assumption)) (Nat.le_refl _); rintro e y1 ⟨_, _, _, rfl, _, ga⟩; have hs1 := q3_below lt0 lt1 lt2 (by with_reducible assumption) ga; clear ga)
          | (go_at_call 14; refine (implSlotOf_calls ra la n rc ll lc ss zs _ hnm hllm ?_ ?_).mono ?_; exact HRS.out.below (q3_bel (by with_reducible assumption)) (Nat.le_refl _); exact HLS.out.below (q3_bel (by with_reducible assumption)) (Nat.le_refl _); rintro e y1 ⟨rfl, ga⟩; have hs1 := q3_below lt0 lt1 lt2 (by with_reducible assumption) ga; clear ga)
          | (go_at_call 15; refine (specSlotOf_calls ra la n rc ll lc ss zs _ hnm hllm ?_ ?_).mono ?_; exact HRS.out.below (q3_bel (by with_reducible assumption)) (Nat.le_refl _); exact HLS.out.below (q3_bel (by with_reducible assumption)) (Nat.le_refl _); rintro e y1 ⟨rfl, ga⟩; have hs1 := q3_below lt0 lt1 lt2 (by with_reducible assumption) ga; clear ga))
      have HE := hide (HM.out.below (q3_bel hs1)).bel
      clear hs1 HS0 HM
      go_wp2
      go_ret
      exact ⟨rfl, HE.out⟩
    have ef : (elC ss zs != 0) = false := by simp [hf]
    obtain ⟨so1, so2⟩ := en_so hf
    obtain ⟨at1, at2⟩ := en_at hf
    have HF := hide hf
    have HFa := hide (en_fault hf)
    clear hf
    go_wp2_with fail
    refine (implSlotOf_calls ea la en ec ll lc (elL ss zs) zs _ henm hllm (M5.get 0 rfl).sls (M5.get 1 rfl).sl).mono ?_
    rintro e w6 ⟨rfl, g6⟩
    rw [so1, so2]
    have M6 := (M5.below g6).alloc2 (.int .i64 0) (.int .i64 (elV ss zs)) 43
    clear M5 g6 v0 v2 v3 v4 so1 so2
    have v1 := M6.cell 3 rfl
    have v2 := M6.cell 4 rfl
    go_wp2_with fail
    refine (implLeaveLabel_calls ea en ec (elL ss zs) (elV ss zs) _ henm (M6.get 0 rfl).sls).mono ?_
    rintro e w7 ⟨ba, bn, bc, rfl, o7, g7⟩
    rw [at1]
    have z7 := g7.size
    simp only [World.size_alloc] at z7 o7
    have M7 := ((M6.below g7).fact OR.loc o7).alloc3 (.int .i64 0) (.int .i64 (lvR (elL ss zs) (elV ss zs))) (.slice ba bn bc) 33
    have hbm : bn ≤ maxLen := by have h1 := o7.2.1; unfold maxLen; omega
    clear M6 g7 o7 v1 v2
    have v1 := M7.cell 6 rfl
    have v2 := M7.cell 7 rfl
    go_wp2_with fail
    refine (implLabelAt_calls ea en ec (elL ss zs) (elV ss zs) _ henm (M7.get 1 rfl).sls).mono ?_
    rintro e w8 ⟨ta, tn, tc, rfl, o8, g8⟩
    rw [at1]
    rw [at2] at o8
    have z8 := g8.size
    simp only [World.size_alloc] at z8 o8
    have M8 := ((M7.below g8).fact OS.loc o8).alloc2 (.int .i64 0) (.slice ta tn tc) 40
    have htm : tn ≤ maxLen := by have h1 := o8.2.1; unfold maxLen; omega
    clear M7 g8 o8 v1 v2
    have v3 := M8.cell 10 rfl
    have v4 := M8.cell 11 rfl
    go_wp2_with fail
    refine (implSlotOf_calls ra la n rc ll lc ss zs _ hnm hllm (M8.get 4 rfl).sls (M8.get 3 rfl).sl).mono ?_
    rintro e w9 ⟨rfl, g9⟩
    have z9 := g9.size
    have M9 := (M8.below g9).alloc2 (.int .i64 (soC ss zs)) (.int .i64 (soV ss zs)) 43
    clear M8 g9 v3 v4 at1 at2
    have eF : (faultR (elL ss zs) == 0) = true := by rw [HFa.out]; rfl
    have eV : (elV ss zs == elV ss zs) = true := by simp
    have eN : decide (zs = zs) = true := by simp
    by_cases hw : soC ss zs = 0
    · obtain ⟨bs1, bs2⟩ := back_same HF.out hw
      have eW : (soC ss zs == 0) = true := by simp [hw]
      have eU : (soV ss zs == elV ss zs) = true := by rw [bs1]; simp
      have eS : decide (lvL (elL ss zs) (elV ss zs) = ss) = true := by simp [bs2]
      clear hw bs1 bs2
      have x0 := M9.cell 10 rfl
      have x1 := M9.cell 11 rfl
      have x2 := M9.cell 7 rfl
      have x3 := M9.cell 8 rfl
      have x4 := M9.cell 2 rfl
      have x5 := M9.cell 3 rfl
      have x6 := M9.cell 12 rfl
      have x7 := M9.cell 4 rfl
      have x8 := M9.cell 5 rfl
      have x9 := M9.cell 6 rfl
      have x10 := M9.cell 0 rfl
      have x11 := M9.cell 1 rfl
      have x12 := M9.cell 13 rfl
      go_wp2_with fail
      refine (implRegistryFault_calls ea en ec (elL ss zs) _ henm (M9.get 2 rfl).sls).mono ?_
      rintro e w10 ⟨rfl, g10⟩
      have M10 := M9.below g10
      clear M9 g10 x0 x1 x2 x3 x4 x5 x6 x7 x8 x9 x10 x11 x12
      have x0 := M10.cell 10 rfl
      have x1 := M10.cell 11 rfl
      have x2 := M10.cell 7 rfl
      have x3 := M10.cell 8 rfl
      have x4 := M10.cell 2 rfl
      have x5 := M10.cell 3 rfl
      have x6 := M10.cell 12 rfl
      have x7 := M10.cell 4 rfl
      have x8 := M10.cell 5 rfl
      have x9 := M10.cell 6 rfl
      have x10 := M10.cell 0 rfl
      have x11 := M10.cell 1 rfl
      have x12 := M10.cell 13 rfl
      go_wp2_with fail
      refine (lwNums_calls ta la tn tc ll lc zs zs _ htm hllm (M10.get 0 rfl).sl (M10.get 3 rfl).sl).mono ?_
      rintro e w11 ⟨rfl, g11⟩
      have M11 := M10.below g11
      clear M10 g11 x0 x1 x2 x3 x4 x5 x6 x7 x8 x9 x10 x11 x12
      have x0 := M11.cell 10 rfl
      have x1 := M11.cell 11 rfl
      have x2 := M11.cell 7 rfl
      have x3 := M11.cell 8 rfl
      have x4 := M11.cell 2 rfl
      have x5 := M11.cell 3 rfl
      have x6 := M11.cell 12 rfl
      have x7 := M11.cell 4 rfl
      have x8 := M11.cell 5 rfl
      have x9 := M11.cell 6 rfl
      have x10 := M11.cell 0 rfl
      have x11 := M11.cell 1 rfl
      have x12 := M11.cell 13 rfl
      go_wp2_with fail
      refine (implSameRegistries_calls ba bn bc (lvL (elL ss zs) (elV ss zs)) ra n rc ss _ hbm (M11.get 1 rfl).sls hnm (M11.get 4 rfl).sls).mono ?_
      rintro e w12 ⟨rfl, g12⟩
      rw [eS]
      have M12 := M11.below g12
      clear M11 g12 x0 x1 x2 x3 x4 x5 x6 x7 x8 x9 x10 x11 x12
      have x0 := M12.cell 10 rfl
      have x1 := M12.cell 11 rfl
      have x2 := M12.cell 7 rfl
      have x3 := M12.cell 8 rfl
      have x4 := M12.cell 2 rfl
      have x5 := M12.cell 3 rfl
      have x6 := M12.cell 12 rfl
      have x7 := M12.cell 4 rfl
      have x8 := M12.cell 5 rfl
      have x9 := M12.cell 6 rfl
      have x10 := M12.cell 0 rfl
      have x11 := M12.cell 1 rfl
      have x12 := M12.cell 13 rfl
      have HE := hide M12.bel
      clear M12
      go_wp2_with fail
      all_goals first | exact (undef_no (by assumption)).elim | (go_ret; exact ⟨rfl, HE.out⟩)
    · obtain ⟨bn1, bn2, bn3⟩ := back_none HF.out hw
      have eW : (soC ss zs == 0) = false := by simpa using hw
      have eX : (soC ss zs == 4) = true := by simp [bn1]
      have eY : (lvR (elL ss zs) (elV ss zs) == 0) = true := by simp [bn2]
      have eZ : (soC (lvL (elL ss zs) (elV ss zs)) zs == 4) = true := by simp [bn3]
      clear hw bn1 bn2 bn3
      have x0 := M9.cell 10 rfl
      have x1 := M9.cell 11 rfl
      have x2 := M9.cell 7 rfl
      have x3 := M9.cell 8 rfl
      have x4 := M9.cell 2 rfl
      have x5 := M9.cell 3 rfl
      have x6 := M9.cell 12 rfl
      have x7 := M9.cell 4 rfl
      have x8 := M9.cell 5 rfl
      have x9 := M9.cell 6 rfl
      have x10 := M9.cell 0 rfl
      have x11 := M9.cell 1 rfl
      have x12 := M9.cell 13 rfl
      go_wp2_with fail
      refine (implRegistryFault_calls ea en ec (elL ss zs) _ henm (M9.get 2 rfl).sls).mono ?_
      rintro e w10 ⟨rfl, g10⟩
      have M10 := M9.below g10
      clear M9 g10 x0 x1 x2 x3 x4 x5 x6 x7 x8 x9 x10 x11 x12
      have x0 := M10.cell 10 rfl
      have x1 := M10.cell 11 rfl
      have x2 := M10.cell 7 rfl
      have x3 := M10.cell 8 rfl
      have x4 := M10.cell 2 rfl
      have x5 := M10.cell 3 rfl
      have x6 := M10.cell 12 rfl
      have x7 := M10.cell 4 rfl
      have x8 := M10.cell 5 rfl
      have x9 := M10.cell 6 rfl
      have x10 := M10.cell 0 rfl
      have x11 := M10.cell 1 rfl
      have x12 := M10.cell 13 rfl
      go_wp2_with fail
      refine (lwNums_calls ta la tn tc ll lc zs zs _ htm hllm (M10.get 0 rfl).sl (M10.get 3 rfl).sl).mono ?_
      rintro e w11 ⟨rfl, g11⟩
      have M11 := M10.below g11
      clear M10 g11 x0 x1 x2 x3 x4 x5 x6 x7 x8 x9 x10 x11 x12
      have x0 := M11.cell 10 rfl
      have x1 := M11.cell 11 rfl
      have x2 := M11.cell 7 rfl
      have x3 := M11.cell 8 rfl
      have x4 := M11.cell 2 rfl
      have x5 := M11.cell 3 rfl
      have x6 := M11.cell 12 rfl
      have x7 := M11.cell 4 rfl
      have x8 := M11.cell 5 rfl
      have x9 := M11.cell 6 rfl
      have x10 := M11.cell 0 rfl
      have x11 := M11.cell 1 rfl
      have x12 := M11.cell 13 rfl
      go_wp2_with fail
      refine (implSlotOf_calls ba la bn bc ll lc (lvL (elL ss zs) (elV ss zs)) zs _ hbm hllm (M11.get 1 rfl).sls (M11.get 3 rfl).sl).mono ?_
      rintro e w12 ⟨rfl, g12⟩
      have M12 := M11.below g12
      clear M11 g12 x0 x1 x2 x3 x4 x5 x6 x7 x8 x9 x10 x11 x12
      have x0 := M12.cell 10 rfl
      have x1 := M12.cell 11 rfl
      have x2 := M12.cell 7 rfl
      have x3 := M12.cell 8 rfl
      have x4 := M12.cell 2 rfl
      have x5 := M12.cell 3 rfl
      have x6 := M12.cell 12 rfl
      have x7 := M12.cell 4 rfl
      have x8 := M12.cell 5 rfl
      have x9 := M12.cell 6 rfl
      have x10 := M12.cell 0 rfl
      have x11 := M12.cell 1 rfl
      have x12 := M12.cell 13 rfl
      have HE := hide M12.bel
      clear M12
      go_wp2
      go_ret
      exact ⟨rfl, HE.out⟩

end Go.Proofs.Ytboeceabnlhnoaa
