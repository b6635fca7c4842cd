import Derived.Test.YtjahlhibgnbkgaaHigh
import Derived.Test.YtjahlhibgnbkgaaBelowImpl
import Derived.WalkKit
import Derived.ProofKit
import Derived.OpenShut
import Derived.ShutString
import Derived.ChangeOld
import Derived.Below
import Derived.WalkSpells
import Derived.Deep.QuietTactic
import Derived.BigQuiet
import Derived.Deep.RegionWith
import Derived.Deep.WholeRow
import Derived.Deep.DeepCutAuto
import Derived.Deep.RegionHeld2
import Derived.Deep.AppendLies
import Derived.Deep.RegionLaw
namespace Go.Proofs.Ytjahlhibgnbkgaa
open Go.ChangeShapes Go.WideShapes Go.ChangeAt Go.RowKit

/-- what the region keeps: two boxes, and all that was there. -/
theorem sj_alloc {w1 X : World} {N M : Nat} {u v : Value} (h : X.cell? ⟨N, 0, none⟩ = some u ∧ X.cell? ⟨M, 0, none⟩ = some v ∧ Below w1.heap.size w1 X) (o : Obj) :
    (X.alloc o).cell? ⟨N, 0, none⟩ = some u ∧ (X.alloc o).cell? ⟨M, 0, none⟩ = some v ∧ Below w1.heap.size w1 (X.alloc o) :=
  ⟨(World.cell?_alloc_lt _ _ _ (World.block_lt_of_cell? _ _ h.1)).trans h.1, (World.cell?_alloc_lt _ _ _ (World.block_lt_of_cell? _ _ h.2.1)).trans h.2.1, h.2.2.alloc h.2.2.size o⟩

theorem sj_below {w1 X Y : World} {N M : Nat} {u v : Value} (h : X.cell? ⟨N, 0, none⟩ = some u ∧ X.cell? ⟨M, 0, none⟩ = some v ∧ Below w1.heap.size w1 X) (hb : Below X.heap.size X Y) :
    Y.cell? ⟨N, 0, none⟩ = some u ∧ Y.cell? ⟨M, 0, none⟩ = some v ∧ Below w1.heap.size w1 Y :=
  ⟨(hb.cell (p := ⟨N, 0, none⟩) (World.block_lt_of_cell? _ _ h.1)).trans h.1, (hb.cell (p := ⟨M, 0, none⟩) (World.block_lt_of_cell? _ _ h.2.1)).trans h.2.1, h.2.2.trans (hb.mono h.2.2.size)⟩

theorem sj_sl {w w1 X : World} {N M : Nat} {u v : Value} {a : Option Addr} {n : Nat} {xs : List Int} (h : X.cell? ⟨N, 0, none⟩ = some u ∧ X.cell? ⟨M, 0, none⟩ = some v ∧ Below w1.heap.size w1 X) (h1 : Below w.heap.size w w1) (hx : Sl w a n xs) : Sl X a n xs :=
  hx.below (h1.trans (h.2.2.mono h1.size)) (Nat.le_refl _)

theorem sj_set {w1 X : World} {N M : Nat} {u v : Value} (nN : N < w1.heap.size) (nM : M < w1.heap.size) (h : X.cell? ⟨N, 0, none⟩ = some u ∧ X.cell? ⟨M, 0, none⟩ = some v ∧ Below w1.heap.size w1 X) {p : Addr} (hp : w1.heap.size ≤ p.block) (y : Value) :
    (X.setCell p y).cell? ⟨N, 0, none⟩ = some u ∧ (X.setCell p y).cell? ⟨M, 0, none⟩ = some v ∧ Below w1.heap.size w1 (X.setCell p y) :=
  ⟨(World.cell?_setCell_other _ _ _ _ (fun e => by rw [e] at hp; simp at hp; omega)).trans h.1, (World.cell?_setCell_other _ _ _ _ (fun e => by rw [e] at hp; simp at hp; omega)).trans h.2.1, h.2.2.setCell hp y⟩

theorem sj_allocd {w1 X : World} {N M : Nat} {u v : Value} (h : X.drew.cell? ⟨N, 0, none⟩ = some u ∧ X.drew.cell? ⟨M, 0, none⟩ = some v ∧ Below w1.heap.size w1 X.drew) (o : Obj) :
    (X.alloc o).drew.cell? ⟨N, 0, none⟩ = some u ∧ (X.alloc o).drew.cell? ⟨M, 0, none⟩ = some v ∧ Below w1.heap.size w1 (X.alloc o).drew := sj_alloc (X := X.drew) h o

theorem bcell {W w1 : World} (hb : Below W.heap.size W w1) : (∀ b o, b < W.heap.size → w1.cell? ⟨b, o, none⟩ = W.cell? ⟨b, o, none⟩) ∧ (∀ b o, b < W.heap.size → w1.frozen? ⟨b, o, none⟩ = W.frozen? ⟨b, o, none⟩) :=
  ⟨fun b o h => hb.cell (p := ⟨b, o, none⟩) h, fun b o h => hb.frozen (p := ⟨b, o, none⟩) h⟩

theorem sj_start {w1 : World} {N M : Nat} {u v : Value} (h : w1.cell? ⟨N, 0, none⟩ = some u) (k : w1.cell? ⟨M, 0, none⟩ = some v) :
    w1.drew.cell? ⟨N, 0, none⟩ = some u ∧ w1.drew.cell? ⟨M, 0, none⟩ = some v ∧ Below w1.heap.size w1 w1.drew := ⟨h, k, (Below.refl _ _).drew⟩

theorem bcell_lt {W w1 : World} {n : Nat} (hb : Below W.heap.size W w1) (hn : n ≤ W.heap.size) : (∀ b o, b < n → w1.cell? ⟨b, o, none⟩ = W.cell? ⟨b, o, none⟩) ∧ (∀ b o, b < n → w1.frozen? ⟨b, o, none⟩ = W.frozen? ⟨b, o, none⟩) :=
  ⟨fun b o h => hb.cell (p := ⟨b, o, none⟩) (Nat.lt_of_lt_of_le h hn), fun b o h => hb.frozen (p := ⟨b, o, none⟩) (Nat.lt_of_lt_of_le h hn)⟩

theorem set4_other (X : World) (g h j : Nat) (y0 y1 y2 y3 : Value) (hne : g ≠ h) : ((((X.setCell ⟨h, 0, none⟩ y0).setCell ⟨h, 1, none⟩ y1).setCell ⟨h, 2, none⟩ y2).setCell ⟨h, 3, none⟩ y3).cell? ⟨g, j, none⟩ = X.cell? ⟨g, j, none⟩ := by
  rw [World.cell?_setCell_other _ _ _ _ (fun e => hne (by injection e with e1; exact e1.symm)), World.cell?_setCell_other _ _ _ _ (fun e => hne (by injection e with e1; exact e1.symm)), World.cell?_setCell_other _ _ _ _ (fun e => hne (by injection e with e1; exact e1.symm)), World.cell?_setCell_other _ _ _ _ (fun e => hne (by injection e with e1; exact e1.symm))]

theorem ARow.mk4 {w : World} {g : Nat} {f : Nat → Int} (h0 : w.cell? ⟨g, 0, none⟩ = some (.int .i64 (f 0))) (h1 : w.cell? ⟨g, 1, none⟩ = some (.int .i64 (f 1))) (h2 : w.cell? ⟨g, 2, none⟩ = some (.int .i64 (f 2))) (h3 : w.cell? ⟨g, 3, none⟩ = some (.int .i64 (f 3))) (hf : ∀ j, w.frozen? ⟨g, j, none⟩ = false) : ARow w g f :=
  ⟨fun j hj => by rcases (by omega : j = 0 ∨ j = 1 ∨ j = 2 ∨ j = 3) with rfl | rfl | rfl | rfl <;> assumption, hf⟩

theorem mix4 (f : Int → Int → Int) {xs ys : List Int} (h : xs.length = 4) : mix f xs ys = [f (gt xs 0) (gt ys 0), f (gt xs 1) (gt ys 1), f (gt xs 2) (gt ys 2), f (gt xs 3) (gt ys 3)] := by
  rw [list4 (zs := mix f xs ys) (by rw [length_mix]; exact h), gt_mix f xs ys 0 (by omega), gt_mix f xs ys 1 (by omega), gt_mix f xs ys 2 (by omega), gt_mix f xs ys 3 (by omega)]

theorem some_set {X : World} {p q : Addr} {v : Value} (h : (X.cell? q).isSome = true) : ((X.setCell p v).cell? q).isSome = true := by
  obtain ⟨u, hu⟩ := Option.isSome_iff_exists.1 h
  obtain ⟨u', hu'⟩ := cell?_setCell_some (p := p) (x := v) hu
  rw [hu']; rfl

theorem set4_at0 (X : World) (g : Nat) (y0 y1 y2 y3 : Value) (h : (X.cell? ⟨g, 0, none⟩).isSome = true) : ((((X.setCell ⟨g, 0, none⟩ y0).setCell ⟨g, 1, none⟩ y1).setCell ⟨g, 2, none⟩ y2).setCell ⟨g, 3, none⟩ y3).cell? ⟨g, 0, none⟩ = some y0 := by
  rw [World.cell?_setCell_other _ _ _ _ (by simp), World.cell?_setCell_other _ _ _ _ (by simp), World.cell?_setCell_other _ _ _ _ (by simp), World.cell?_setCell_same' _ _ _ h]

theorem set4_at1 (X : World) (g : Nat) (y0 y1 y2 y3 : Value) (h : (X.cell? ⟨g, 1, none⟩).isSome = true) : ((((X.setCell ⟨g, 0, none⟩ y0).setCell ⟨g, 1, none⟩ y1).setCell ⟨g, 2, none⟩ y2).setCell ⟨g, 3, none⟩ y3).cell? ⟨g, 1, none⟩ = some y1 := by
  rw [World.cell?_setCell_other _ _ _ _ (by simp), World.cell?_setCell_other _ _ _ _ (by simp), World.cell?_setCell_same' _ _ _ (some_set h)]

theorem set4_at2 (X : World) (g : Nat) (y0 y1 y2 y3 : Value) (h : (X.cell? ⟨g, 2, none⟩).isSome = true) : ((((X.setCell ⟨g, 0, none⟩ y0).setCell ⟨g, 1, none⟩ y1).setCell ⟨g, 2, none⟩ y2).setCell ⟨g, 3, none⟩ y3).cell? ⟨g, 2, none⟩ = some y2 := by
  rw [World.cell?_setCell_other _ _ _ _ (by simp), World.cell?_setCell_same' _ _ _ (some_set (some_set h))]

theorem set4_at3 (X : World) (g : Nat) (y0 y1 y2 y3 : Value) (h : (X.cell? ⟨g, 3, none⟩).isSome = true) : ((((X.setCell ⟨g, 0, none⟩ y0).setCell ⟨g, 1, none⟩ y1).setCell ⟨g, 2, none⟩ y2).setCell ⟨g, 3, none⟩ y3).cell? ⟨g, 3, none⟩ = some y3 := by
  rw [World.cell?_setCell_same' _ _ _ (some_set (some_set (some_set h)))]

end Go.Proofs.Ytjahlhibgnbkgaa
