import Derived.Test.YtcojgmecocjnkaaGreatG1
import Derived.Test.YtcojgmecocjnkaaGreatG44
import Derived.Test.YtcojgmecocjnkaaGreatG34
import Derived.WalkKit
import Derived.ProofKit
import Derived.OpenShut
import Derived.ShutString
import Derived.ChangeOld
import Derived.Below
import Derived.WalkSpells
import Derived.Deep.QuietTactic
import Derived.BigQuiet
import Derived.Deep.RegionWith
import Derived.Deep.WholeRow
import Derived.Deep.DeepCutAuto
import Derived.Deep.RegionHeld2
import Derived.Deep.AppendLies
import Derived.Deep.RegionLaw
namespace Go.Proofs.YtcojgmecocjnkaaGreat
open Go.ChangeShapes Go.WideShapes Go.ChangeAt Go.RowKit

theorem below_set15 {B : Nat} {w u : World} (h : Below B w u) {P : Nat} (hP : B ≤ P) (v0 v1 v2 v3 v4 v5 v6 v7 v8 v9 v10 v11 v12 v13 v14 : Value) : Below B w (((((((((((((((u.setCell ⟨P, 0, none⟩ v0).setCell ⟨P, 1, none⟩ v1).setCell ⟨P, 2, none⟩ v2).setCell ⟨P, 3, none⟩ v3).setCell ⟨P, 4, none⟩ v4).setCell ⟨P, 5, none⟩ v5).setCell ⟨P, 6, none⟩ v6).setCell ⟨P, 7, none⟩ v7).setCell ⟨P, 8, none⟩ v8).setCell ⟨P, 9, none⟩ v9).setCell ⟨P, 10, none⟩ v10).setCell ⟨P, 11, none⟩ v11).setCell ⟨P, 12, none⟩ v12).setCell ⟨P, 13, none⟩ v13).setCell ⟨P, 14, none⟩ v14) :=
  (Below.setCell (Below.setCell (Below.setCell (Below.setCell (Below.setCell (Below.setCell (Below.setCell (Below.setCell (Below.setCell (Below.setCell (Below.setCell (Below.setCell (Below.setCell (Below.setCell (Below.setCell h (by exact hP) v0) (by exact hP) v1) (by exact hP) v2) (by exact hP) v3) (by exact hP) v4) (by exact hP) v5) (by exact hP) v6) (by exact hP) v7) (by exact hP) v8) (by exact hP) v9) (by exact hP) v10) (by exact hP) v11) (by exact hP) v12) (by exact hP) v13) (by exact hP) v14)

theorem loc_set15 {S : Nat → Prop} {Q : World → Prop} (hl : Loc S Q) {w : World} (h : Q w) {P : Nat} (hP : ¬ S P) (v0 v1 v2 v3 v4 v5 v6 v7 v8 v9 v10 v11 v12 v13 v14 : Value) : Q (((((((((((((((w.setCell ⟨P, 0, none⟩ v0).setCell ⟨P, 1, none⟩ v1).setCell ⟨P, 2, none⟩ v2).setCell ⟨P, 3, none⟩ v3).setCell ⟨P, 4, none⟩ v4).setCell ⟨P, 5, none⟩ v5).setCell ⟨P, 6, none⟩ v6).setCell ⟨P, 7, none⟩ v7).setCell ⟨P, 8, none⟩ v8).setCell ⟨P, 9, none⟩ v9).setCell ⟨P, 10, none⟩ v10).setCell ⟨P, 11, none⟩ v11).setCell ⟨P, 12, none⟩ v12).setCell ⟨P, 13, none⟩ v13).setCell ⟨P, 14, none⟩ v14) :=
  (hl.setC (hl.setC (hl.setC (hl.setC (hl.setC (hl.setC (hl.setC (hl.setC (hl.setC (hl.setC (hl.setC (hl.setC (hl.setC (hl.setC (hl.setC h (by exact hP) v0) (by exact hP) v1) (by exact hP) v2) (by exact hP) v3) (by exact hP) v4) (by exact hP) v5) (by exact hP) v6) (by exact hP) v7) (by exact hP) v8) (by exact hP) v9) (by exact hP) v10) (by exact hP) v11) (by exact hP) v12) (by exact hP) v13) (by exact hP) v14)

theorem size_set15 (w : World) (P : Nat) (v0 v1 v2 v3 v4 v5 v6 v7 v8 v9 v10 v11 v12 v13 v14 : Value) : (((((((((((((((w.setCell ⟨P, 0, none⟩ v0).setCell ⟨P, 1, none⟩ v1).setCell ⟨P, 2, none⟩ v2).setCell ⟨P, 3, none⟩ v3).setCell ⟨P, 4, none⟩ v4).setCell ⟨P, 5, none⟩ v5).setCell ⟨P, 6, none⟩ v6).setCell ⟨P, 7, none⟩ v7).setCell ⟨P, 8, none⟩ v8).setCell ⟨P, 9, none⟩ v9).setCell ⟨P, 10, none⟩ v10).setCell ⟨P, 11, none⟩ v11).setCell ⟨P, 12, none⟩ v12).setCell ⟨P, 13, none⟩ v13).setCell ⟨P, 14, none⟩ v14).heap.size = w.heap.size := by simp

theorem set15_at0 (X : World) (P : Nat) (v0 v1 v2 v3 v4 v5 v6 v7 v8 v9 v10 v11 v12 v13 v14 : Value) (h : ∃ u, X.cell? ⟨P, 0, none⟩ = some u) : (((((((((((((((X.setCell ⟨P, 0, none⟩ v0).setCell ⟨P, 1, none⟩ v1).setCell ⟨P, 2, none⟩ v2).setCell ⟨P, 3, none⟩ v3).setCell ⟨P, 4, none⟩ v4).setCell ⟨P, 5, none⟩ v5).setCell ⟨P, 6, none⟩ v6).setCell ⟨P, 7, none⟩ v7).setCell ⟨P, 8, none⟩ v8).setCell ⟨P, 9, none⟩ v9).setCell ⟨P, 10, none⟩ v10).setCell ⟨P, 11, none⟩ v11).setCell ⟨P, 12, none⟩ v12).setCell ⟨P, 13, none⟩ v13).setCell ⟨P, 14, none⟩ v14).cell? ⟨P, 0, none⟩ = some v0 := by
  obtain ⟨u, h⟩ := h
  rw [World.cell?_setCell_other _ _ _ _ (fun e => by injection e with _ e2; omega)]
  rw [World.cell?_setCell_other _ _ _ _ (fun e => by injection e with _ e2; omega)]
  rw [World.cell?_setCell_other _ _ _ _ (fun e => by injection e with _ e2; omega)]
  rw [World.cell?_setCell_other _ _ _ _ (fun e => by injection e with _ e2; omega)]
  rw [World.cell?_setCell_other _ _ _ _ (fun e => by injection e with _ e2; omega)]
  rw [World.cell?_setCell_other _ _ _ _ (fun e => by injection e with _ e2; omega)]
  rw [World.cell?_setCell_other _ _ _ _ (fun e => by injection e with _ e2; omega)]
  rw [World.cell?_setCell_other _ _ _ _ (fun e => by injection e with _ e2; omega)]
  rw [World.cell?_setCell_other _ _ _ _ (fun e => by injection e with _ e2; omega)]
  rw [World.cell?_setCell_other _ _ _ _ (fun e => by injection e with _ e2; omega)]
  rw [World.cell?_setCell_other _ _ _ _ (fun e => by injection e with _ e2; omega)]
  rw [World.cell?_setCell_other _ _ _ _ (fun e => by injection e with _ e2; omega)]
  rw [World.cell?_setCell_other _ _ _ _ (fun e => by injection e with _ e2; omega)]
  rw [World.cell?_setCell_other _ _ _ _ (fun e => by injection e with _ e2; omega)]
  exact World.cell?_setCell_same _ _ _ h

theorem set15_at1 (X : World) (P : Nat) (v0 v1 v2 v3 v4 v5 v6 v7 v8 v9 v10 v11 v12 v13 v14 : Value) (h : ∃ u, X.cell? ⟨P, 1, none⟩ = some u) : (((((((((((((((X.setCell ⟨P, 0, none⟩ v0).setCell ⟨P, 1, none⟩ v1).setCell ⟨P, 2, none⟩ v2).setCell ⟨P, 3, none⟩ v3).setCell ⟨P, 4, none⟩ v4).setCell ⟨P, 5, none⟩ v5).setCell ⟨P, 6, none⟩ v6).setCell ⟨P, 7, none⟩ v7).setCell ⟨P, 8, none⟩ v8).setCell ⟨P, 9, none⟩ v9).setCell ⟨P, 10, none⟩ v10).setCell ⟨P, 11, none⟩ v11).setCell ⟨P, 12, none⟩ v12).setCell ⟨P, 13, none⟩ v13).setCell ⟨P, 14, none⟩ v14).cell? ⟨P, 1, none⟩ = some v1 := by
  obtain ⟨u, h⟩ := h
  rw [World.cell?_setCell_other _ _ _ _ (fun e => by injection e with _ e2; omega)]
  rw [World.cell?_setCell_other _ _ _ _ (fun e => by injection e with _ e2; omega)]
  rw [World.cell?_setCell_other _ _ _ _ (fun e => by injection e with _ e2; omega)]
  rw [World.cell?_setCell_other _ _ _ _ (fun e => by injection e with _ e2; omega)]
  rw [World.cell?_setCell_other _ _ _ _ (fun e => by injection e with _ e2; omega)]
  rw [World.cell?_setCell_other _ _ _ _ (fun e => by injection e with _ e2; omega)]
  rw [World.cell?_setCell_other _ _ _ _ (fun e => by injection e with _ e2; omega)]
  rw [World.cell?_setCell_other _ _ _ _ (fun e => by injection e with _ e2; omega)]
  rw [World.cell?_setCell_other _ _ _ _ (fun e => by injection e with _ e2; omega)]
  rw [World.cell?_setCell_other _ _ _ _ (fun e => by injection e with _ e2; omega)]
  rw [World.cell?_setCell_other _ _ _ _ (fun e => by injection e with _ e2; omega)]
  rw [World.cell?_setCell_other _ _ _ _ (fun e => by injection e with _ e2; omega)]
  rw [World.cell?_setCell_other _ _ _ _ (fun e => by injection e with _ e2; omega)]
  exact World.cell?_setCell_same _ _ _ ((World.cell?_setCell_other _ _ _ _ (fun e => by injection e with _ e2; omega)).trans h)

theorem set15_at2 (X : World) (P : Nat) (v0 v1 v2 v3 v4 v5 v6 v7 v8 v9 v10 v11 v12 v13 v14 : Value) (h : ∃ u, X.cell? ⟨P, 2, none⟩ = some u) : (((((((((((((((X.setCell ⟨P, 0, none⟩ v0).setCell ⟨P, 1, none⟩ v1).setCell ⟨P, 2, none⟩ v2).setCell ⟨P, 3, none⟩ v3).setCell ⟨P, 4, none⟩ v4).setCell ⟨P, 5, none⟩ v5).setCell ⟨P, 6, none⟩ v6).setCell ⟨P, 7, none⟩ v7).setCell ⟨P, 8, none⟩ v8).setCell ⟨P, 9, none⟩ v9).setCell ⟨P, 10, none⟩ v10).setCell ⟨P, 11, none⟩ v11).setCell ⟨P, 12, none⟩ v12).setCell ⟨P, 13, none⟩ v13).setCell ⟨P, 14, none⟩ v14).cell? ⟨P, 2, none⟩ = some v2 := by
  obtain ⟨u, h⟩ := h
  rw [World.cell?_setCell_other _ _ _ _ (fun e => by injection e with _ e2; omega)]
  rw [World.cell?_setCell_other _ _ _ _ (fun e => by injection e with _ e2; omega)]
  rw [World.cell?_setCell_other _ _ _ _ (fun e => by injection e with _ e2; omega)]
  rw [World.cell?_setCell_other _ _ _ _ (fun e => by injection e with _ e2; omega)]
  rw [World.cell?_setCell_other _ _ _ _ (fun e => by injection e with _ e2; omega)]
  rw [World.cell?_setCell_other _ _ _ _ (fun e => by injection e with _ e2; omega)]
  rw [World.cell?_setCell_other _ _ _ _ (fun e => by injection e with _ e2; omega)]
  rw [World.cell?_setCell_other _ _ _ _ (fun e => by injection e with _ e2; omega)]
  rw [World.cell?_setCell_other _ _ _ _ (fun e => by injection e with _ e2; omega)]
  rw [World.cell?_setCell_other _ _ _ _ (fun e => by injection e with _ e2; omega)]
  rw [World.cell?_setCell_other _ _ _ _ (fun e => by injection e with _ e2; omega)]
  rw [World.cell?_setCell_other _ _ _ _ (fun e => by injection e with _ e2; omega)]
  exact World.cell?_setCell_same _ _ _ ((World.cell?_setCell_other _ _ _ _ (fun e => by injection e with _ e2; omega)).trans ((World.cell?_setCell_other _ _ _ _ (fun e => by injection e with _ e2; omega)).trans h))

theorem set15_at3 (X : World) (P : Nat) (v0 v1 v2 v3 v4 v5 v6 v7 v8 v9 v10 v11 v12 v13 v14 : Value) (h : ∃ u, X.cell? ⟨P, 3, none⟩ = some u) : (((((((((((((((X.setCell ⟨P, 0, none⟩ v0).setCell ⟨P, 1, none⟩ v1).setCell ⟨P, 2, none⟩ v2).setCell ⟨P, 3, none⟩ v3).setCell ⟨P, 4, none⟩ v4).setCell ⟨P, 5, none⟩ v5).setCell ⟨P, 6, none⟩ v6).setCell ⟨P, 7, none⟩ v7).setCell ⟨P, 8, none⟩ v8).setCell ⟨P, 9, none⟩ v9).setCell ⟨P, 10, none⟩ v10).setCell ⟨P, 11, none⟩ v11).setCell ⟨P, 12, none⟩ v12).setCell ⟨P, 13, none⟩ v13).setCell ⟨P, 14, none⟩ v14).cell? ⟨P, 3, none⟩ = some v3 := by
  obtain ⟨u, h⟩ := h
  rw [World.cell?_setCell_other _ _ _ _ (fun e => by injection e with _ e2; omega)]
  rw [World.cell?_setCell_other _ _ _ _ (fun e => by injection e with _ e2; omega)]
  rw [World.cell?_setCell_other _ _ _ _ (fun e => by injection e with _ e2; omega)]
  rw [World.cell?_setCell_other _ _ _ _ (fun e => by injection e with _ e2; omega)]
  rw [World.cell?_setCell_other _ _ _ _ (fun e => by injection e with _ e2; omega)]
  rw [World.cell?_setCell_other _ _ _ _ (fun e => by injection e with _ e2; omega)]
  rw [World.cell?_setCell_other _ _ _ _ (fun e => by injection e with _ e2; omega)]
  rw [World.cell?_setCell_other _ _ _ _ (fun e => by injection e with _ e2; omega)]
  rw [World.cell?_setCell_other _ _ _ _ (fun e => by injection e with _ e2; omega)]
  rw [World.cell?_setCell_other _ _ _ _ (fun e => by injection e with _ e2; omega)]
  rw [World.cell?_setCell_other _ _ _ _ (fun e => by injection e with _ e2; omega)]
  exact World.cell?_setCell_same _ _ _ ((World.cell?_setCell_other _ _ _ _ (fun e => by injection e with _ e2; omega)).trans ((World.cell?_setCell_other _ _ _ _ (fun e => by injection e with _ e2; omega)).trans ((World.cell?_setCell_other _ _ _ _ (fun e => by injection e with _ e2; omega)).trans h)))

theorem set15_at4 (X : World) (P : Nat) (v0 v1 v2 v3 v4 v5 v6 v7 v8 v9 v10 v11 v12 v13 v14 : Value) (h : ∃ u, X.cell? ⟨P, 4, none⟩ = some u) : (((((((((((((((X.setCell ⟨P, 0, none⟩ v0).setCell ⟨P, 1, none⟩ v1).setCell ⟨P, 2, none⟩ v2).setCell ⟨P, 3, none⟩ v3).setCell ⟨P, 4, none⟩ v4).setCell ⟨P, 5, none⟩ v5).setCell ⟨P, 6, none⟩ v6).setCell ⟨P, 7, none⟩ v7).setCell ⟨P, 8, none⟩ v8).setCell ⟨P, 9, none⟩ v9).setCell ⟨P, 10, none⟩ v10).setCell ⟨P, 11, none⟩ v11).setCell ⟨P, 12, none⟩ v12).setCell ⟨P, 13, none⟩ v13).setCell ⟨P, 14, none⟩ v14).cell? ⟨P, 4, none⟩ = some v4 := by
  obtain ⟨u, h⟩ := h
  rw [World.cell?_setCell_other _ _ _ _ (fun e => by injection e with _ e2; omega)]
  rw [World.cell?_setCell_other _ _ _ _ (fun e => by injection e with _ e2; omega)]
  rw [World.cell?_setCell_other _ _ _ _ (fun e => by injection e with _ e2; omega)]
  rw [World.cell?_setCell_other _ _ _ _ (fun e => by injection e with _ e2; omega)]
  rw [World.cell?_setCell_other _ _ _ _ (fun e => by injection e with _ e2; omega)]
  rw [World.cell?_setCell_other _ _ _ _ (fun e => by injection e with _ e2; omega)]
  rw [World.cell?_setCell_other _ _ _ _ (fun e => by injection e with _ e2; omega)]
  rw [World.cell?_setCell_other _ _ _ _ (fun e => by injection e with _ e2; omega)]
  rw [World.cell?_setCell_other _ _ _ _ (fun e => by injection e with _ e2; omega)]
  rw [World.cell?_setCell_other _ _ _ _ (fun e => by injection e with _ e2; omega)]
  exact World.cell?_setCell_same _ _ _ ((World.cell?_setCell_other _ _ _ _ (fun e => by injection e with _ e2; omega)).trans ((World.cell?_setCell_other _ _ _ _ (fun e => by injection e with _ e2; omega)).trans ((World.cell?_setCell_other _ _ _ _ (fun e => by injection e with _ e2; omega)).trans ((World.cell?_setCell_other _ _ _ _ (fun e => by injection e with _ e2; omega)).trans h))))

theorem set15_at5 (X : World) (P : Nat) (v0 v1 v2 v3 v4 v5 v6 v7 v8 v9 v10 v11 v12 v13 v14 : Value) (h : ∃ u, X.cell? ⟨P, 5, none⟩ = some u) : (((((((((((((((X.setCell ⟨P, 0, none⟩ v0).setCell ⟨P, 1, none⟩ v1).setCell ⟨P, 2, none⟩ v2).setCell ⟨P, 3, none⟩ v3).setCell ⟨P, 4, none⟩ v4).setCell ⟨P, 5, none⟩ v5).setCell ⟨P, 6, none⟩ v6).setCell ⟨P, 7, none⟩ v7).setCell ⟨P, 8, none⟩ v8).setCell ⟨P, 9, none⟩ v9).setCell ⟨P, 10, none⟩ v10).setCell ⟨P, 11, none⟩ v11).setCell ⟨P, 12, none⟩ v12).setCell ⟨P, 13, none⟩ v13).setCell ⟨P, 14, none⟩ v14).cell? ⟨P, 5, none⟩ = some v5 := by
  obtain ⟨u, h⟩ := h
  rw [World.cell?_setCell_other _ _ _ _ (fun e => by injection e with _ e2; omega)]
  rw [World.cell?_setCell_other _ _ _ _ (fun e => by injection e with _ e2; omega)]
  rw [World.cell?_setCell_other _ _ _ _ (fun e => by injection e with _ e2; omega)]
  rw [World.cell?_setCell_other _ _ _ _ (fun e => by injection e with _ e2; omega)]
  rw [World.cell?_setCell_other _ _ _ _ (fun e => by injection e with _ e2; omega)]
  rw [World.cell?_setCell_other _ _ _ _ (fun e => by injection e with _ e2; omega)]
  rw [World.cell?_setCell_other _ _ _ _ (fun e => by injection e with _ e2; omega)]
  rw [World.cell?_setCell_other _ _ _ _ (fun e => by injection e with _ e2; omega)]
  rw [World.cell?_setCell_other _ _ _ _ (fun e => by injection e with _ e2; omega)]
  exact World.cell?_setCell_same _ _ _ ((World.cell?_setCell_other _ _ _ _ (fun e => by injection e with _ e2; omega)).trans ((World.cell?_setCell_other _ _ _ _ (fun e => by injection e with _ e2; omega)).trans ((World.cell?_setCell_other _ _ _ _ (fun e => by injection e with _ e2; omega)).trans ((World.cell?_setCell_other _ _ _ _ (fun e => by injection e with _ e2; omega)).trans ((World.cell?_setCell_other _ _ _ _ (fun e => by injection e with _ e2; omega)).trans h)))))

theorem set15_at6 (X : World) (P : Nat) (v0 v1 v2 v3 v4 v5 v6 v7 v8 v9 v10 v11 v12 v13 v14 : Value) (h : ∃ u, X.cell? ⟨P, 6, none⟩ = some u) : (((((((((((((((X.setCell ⟨P, 0, none⟩ v0).setCell ⟨P, 1, none⟩ v1).setCell ⟨P, 2, none⟩ v2).setCell ⟨P, 3, none⟩ v3).setCell ⟨P, 4, none⟩ v4).setCell ⟨P, 5, none⟩ v5).setCell ⟨P, 6, none⟩ v6).setCell ⟨P, 7, none⟩ v7).setCell ⟨P, 8, none⟩ v8).setCell ⟨P, 9, none⟩ v9).setCell ⟨P, 10, none⟩ v10).setCell ⟨P, 11, none⟩ v11).setCell ⟨P, 12, none⟩ v12).setCell ⟨P, 13, none⟩ v13).setCell ⟨P, 14, none⟩ v14).cell? ⟨P, 6, none⟩ = some v6 := by
  obtain ⟨u, h⟩ := h
  rw [World.cell?_setCell_other _ _ _ _ (fun e => by injection e with _ e2; omega)]
  rw [World.cell?_setCell_other _ _ _ _ (fun e => by injection e with _ e2; omega)]
  rw [World.cell?_setCell_other _ _ _ _ (fun e => by injection e with _ e2; omega)]
  rw [World.cell?_setCell_other _ _ _ _ (fun e => by injection e with _ e2; omega)]
  rw [World.cell?_setCell_other _ _ _ _ (fun e => by injection e with _ e2; omega)]
  rw [World.cell?_setCell_other _ _ _ _ (fun e => by injection e with _ e2; omega)]
  rw [World.cell?_setCell_other _ _ _ _ (fun e => by injection e with _ e2; omega)]
  rw [World.cell?_setCell_other _ _ _ _ (fun e => by injection e with _ e2; omega)]
  exact World.cell?_setCell_same _ _ _ ((World.cell?_setCell_other _ _ _ _ (fun e => by injection e with _ e2; omega)).trans ((World.cell?_setCell_other _ _ _ _ (fun e => by injection e with _ e2; omega)).trans ((World.cell?_setCell_other _ _ _ _ (fun e => by injection e with _ e2; omega)).trans ((World.cell?_setCell_other _ _ _ _ (fun e => by injection e with _ e2; omega)).trans ((World.cell?_setCell_other _ _ _ _ (fun e => by injection e with _ e2; omega)).trans ((World.cell?_setCell_other _ _ _ _ (fun e => by injection e with _ e2; omega)).trans h))))))

theorem set15_at7 (X : World) (P : Nat) (v0 v1 v2 v3 v4 v5 v6 v7 v8 v9 v10 v11 v12 v13 v14 : Value) (h : ∃ u, X.cell? ⟨P, 7, none⟩ = some u) : (((((((((((((((X.setCell ⟨P, 0, none⟩ v0).setCell ⟨P, 1, none⟩ v1).setCell ⟨P, 2, none⟩ v2).setCell ⟨P, 3, none⟩ v3).setCell ⟨P, 4, none⟩ v4).setCell ⟨P, 5, none⟩ v5).setCell ⟨P, 6, none⟩ v6).setCell ⟨P, 7, none⟩ v7).setCell ⟨P, 8, none⟩ v8).setCell ⟨P, 9, none⟩ v9).setCell ⟨P, 10, none⟩ v10).setCell ⟨P, 11, none⟩ v11).setCell ⟨P, 12, none⟩ v12).setCell ⟨P, 13, none⟩ v13).setCell ⟨P, 14, none⟩ v14).cell? ⟨P, 7, none⟩ = some v7 := by
  obtain ⟨u, h⟩ := h
  rw [World.cell?_setCell_other _ _ _ _ (fun e => by injection e with _ e2; omega)]
  rw [World.cell?_setCell_other _ _ _ _ (fun e => by injection e with _ e2; omega)]
  rw [World.cell?_setCell_other _ _ _ _ (fun e => by injection e with _ e2; omega)]
  rw [World.cell?_setCell_other _ _ _ _ (fun e => by injection e with _ e2; omega)]
  rw [World.cell?_setCell_other _ _ _ _ (fun e => by injection e with _ e2; omega)]
  rw [World.cell?_setCell_other _ _ _ _ (fun e => by injection e with _ e2; omega)]
  rw [World.cell?_setCell_other _ _ _ _ (fun e => by injection e with _ e2; omega)]
  exact World.cell?_setCell_same _ _ _ ((World.cell?_setCell_other _ _ _ _ (fun e => by injection e with _ e2; omega)).trans ((World.cell?_setCell_other _ _ _ _ (fun e => by injection e with _ e2; omega)).trans ((World.cell?_setCell_other _ _ _ _ (fun e => by injection e with _ e2; omega)).trans ((World.cell?_setCell_other _ _ _ _ (fun e => by injection e with _ e2; omega)).trans ((World.cell?_setCell_other _ _ _ _ (fun e => by injection e with _ e2; omega)).trans ((World.cell?_setCell_other _ _ _ _ (fun e => by injection e with _ e2; omega)).trans ((World.cell?_setCell_other _ _ _ _ (fun e => by injection e with _ e2; omega)).trans h)))))))

theorem set15_at8 (X : World) (P : Nat) (v0 v1 v2 v3 v4 v5 v6 v7 v8 v9 v10 v11 v12 v13 v14 : Value) (h : ∃ u, X.cell? ⟨P, 8, none⟩ = some u) : (((((((((((((((X.setCell ⟨P, 0, none⟩ v0).setCell ⟨P, 1, none⟩ v1).setCell ⟨P, 2, none⟩ v2).setCell ⟨P, 3, none⟩ v3).setCell ⟨P, 4, none⟩ v4).setCell ⟨P, 5, none⟩ v5).setCell ⟨P, 6, none⟩ v6).setCell ⟨P, 7, none⟩ v7).setCell ⟨P, 8, none⟩ v8).setCell ⟨P, 9, none⟩ v9).setCell ⟨P, 10, none⟩ v10).setCell ⟨P, 11, none⟩ v11).setCell ⟨P, 12, none⟩ v12).setCell ⟨P, 13, none⟩ v13).setCell ⟨P, 14, none⟩ v14).cell? ⟨P, 8, none⟩ = some v8 := by
  obtain ⟨u, h⟩ := h
  rw [World.cell?_setCell_other _ _ _ _ (fun e => by injection e with _ e2; omega)]
  rw [World.cell?_setCell_other _ _ _ _ (fun e => by injection e with _ e2; omega)]
  rw [World.cell?_setCell_other _ _ _ _ (fun e => by injection e with _ e2; omega)]
  rw [World.cell?_setCell_other _ _ _ _ (fun e => by injection e with _ e2; omega)]
  rw [World.cell?_setCell_other _ _ _ _ (fun e => by injection e with _ e2; omega)]
  rw [World.cell?_setCell_other _ _ _ _ (fun e => by injection e with _ e2; omega)]
  exact World.cell?_setCell_same _ _ _ ((World.cell?_setCell_other _ _ _ _ (fun e => by injection e with _ e2; omega)).trans ((World.cell?_setCell_other _ _ _ _ (fun e => by injection e with _ e2; omega)).trans ((World.cell?_setCell_other _ _ _ _ (fun e => by injection e with _ e2; omega)).trans ((World.cell?_setCell_other _ _ _ _ (fun e => by injection e with _ e2; omega)).trans ((World.cell?_setCell_other _ _ _ _ (fun e => by injection e with _ e2; omega)).trans ((World.cell?_setCell_other _ _ _ _ (fun e => by injection e with _ e2; omega)).trans ((World.cell?_setCell_other _ _ _ _ (fun e => by injection e with _ e2; omega)).trans ((World.cell?_setCell_other _ _ _ _ (fun e => by injection e with _ e2; omega)).trans h))))))))

theorem set15_at9 (X : World) (P : Nat) (v0 v1 v2 v3 v4 v5 v6 v7 v8 v9 v10 v11 v12 v13 v14 : Value) (h : ∃ u, X.cell? ⟨P, 9, none⟩ = some u) : (((((((((((((((X.setCell ⟨P, 0, none⟩ v0).setCell ⟨P, 1, none⟩ v1).setCell ⟨P, 2, none⟩ v2).setCell ⟨P, 3, none⟩ v3).setCell ⟨P, 4, none⟩ v4).setCell ⟨P, 5, none⟩ v5).setCell ⟨P, 6, none⟩ v6).setCell ⟨P, 7, none⟩ v7).setCell ⟨P, 8, none⟩ v8).setCell ⟨P, 9, none⟩ v9).setCell ⟨P, 10, none⟩ v10).setCell ⟨P, 11, none⟩ v11).setCell ⟨P, 12, none⟩ v12).setCell ⟨P, 13, none⟩ v13).setCell ⟨P, 14, none⟩ v14).cell? ⟨P, 9, none⟩ = some v9 := by
  obtain ⟨u, h⟩ := h
  rw [World.cell?_setCell_other _ _ _ _ (fun e => by injection e with _ e2; omega)]
  rw [World.cell?_setCell_other _ _ _ _ (fun e => by injection e with _ e2; omega)]
  rw [World.cell?_setCell_other _ _ _ _ (fun e => by injection e with _ e2; omega)]
  rw [World.cell?_setCell_other _ _ _ _ (fun e => by injection e with _ e2; omega)]
  rw [World.cell?_setCell_other _ _ _ _ (fun e => by injection e with _ e2; omega)]
  exact World.cell?_setCell_same _ _ _ ((World.cell?_setCell_other _ _ _ _ (fun e => by injection e with _ e2; omega)).trans ((World.cell?_setCell_other _ _ _ _ (fun e => by injection e with _ e2; omega)).trans ((World.cell?_setCell_other _ _ _ _ (fun e => by injection e with _ e2; omega)).trans ((World.cell?_setCell_other _ _ _ _ (fun e => by injection e with _ e2; omega)).trans ((World.cell?_setCell_other _ _ _ _ (fun e => by injection e with _ e2; omega)).trans ((World.cell?_setCell_other _ _ _ _ (fun e => by injection e with _ e2; omega)).trans ((World.cell?_setCell_other _ _ _ _ (fun e => by injection e with _ e2; omega)).trans ((World.cell?_setCell_other _ _ _ _ (fun e => by injection e with _ e2; omega)).trans ((World.cell?_setCell_other _ _ _ _ (fun e => by injection e with _ e2; omega)).trans h)))))))))

theorem set15_at10 (X : World) (P : Nat) (v0 v1 v2 v3 v4 v5 v6 v7 v8 v9 v10 v11 v12 v13 v14 : Value) (h : ∃ u, X.cell? ⟨P, 10, none⟩ = some u) : (((((((((((((((X.setCell ⟨P, 0, none⟩ v0).setCell ⟨P, 1, none⟩ v1).setCell ⟨P, 2, none⟩ v2).setCell ⟨P, 3, none⟩ v3).setCell ⟨P, 4, none⟩ v4).setCell ⟨P, 5, none⟩ v5).setCell ⟨P, 6, none⟩ v6).setCell ⟨P, 7, none⟩ v7).setCell ⟨P, 8, none⟩ v8).setCell ⟨P, 9, none⟩ v9).setCell ⟨P, 10, none⟩ v10).setCell ⟨P, 11, none⟩ v11).setCell ⟨P, 12, none⟩ v12).setCell ⟨P, 13, none⟩ v13).setCell ⟨P, 14, none⟩ v14).cell? ⟨P, 10, none⟩ = some v10 := by
  obtain ⟨u, h⟩ := h
  rw [World.cell?_setCell_other _ _ _ _ (fun e => by injection e with _ e2; omega)]
  rw [World.cell?_setCell_other _ _ _ _ (fun e => by injection e with _ e2; omega)]
  rw [World.cell?_setCell_other _ _ _ _ (fun e => by injection e with _ e2; omega)]
  rw [World.cell?_setCell_other _ _ _ _ (fun e => by injection e with _ e2; omega)]
  exact World.cell?_setCell_same _ _ _ ((World.cell?_setCell_other _ _ _ _ (fun e => by injection e with _ e2; omega)).trans ((World.cell?_setCell_other _ _ _ _ (fun e => by injection e with _ e2; omega)).trans ((World.cell?_setCell_other _ _ _ _ (fun e => by injection e with _ e2; omega)).trans ((World.cell?_setCell_other _ _ _ _ (fun e => by injection e with _ e2; omega)).trans ((World.cell?_setCell_other _ _ _ _ (fun e => by injection e with _ e2; omega)).trans ((World.cell?_setCell_other _ _ _ _ (fun e => by injection e with _ e2; omega)).trans ((World.cell?_setCell_other _ _ _ _ (fun e => by injection e with _ e2; omega)).trans ((World.cell?_setCell_other _ _ _ _ (fun e => by injection e with _ e2; omega)).trans ((World.cell?_setCell_other _ _ _ _ (fun e => by injection e with _ e2; omega)).trans ((World.cell?_setCell_other _ _ _ _ (fun e => by injection e with _ e2; omega)).trans h))))))))))

theorem set15_at11 (X : World) (P : Nat) (v0 v1 v2 v3 v4 v5 v6 v7 v8 v9 v10 v11 v12 v13 v14 : Value) (h : ∃ u, X.cell? ⟨P, 11, none⟩ = some u) : (((((((((((((((X.setCell ⟨P, 0, none⟩ v0).setCell ⟨P, 1, none⟩ v1).setCell ⟨P, 2, none⟩ v2).setCell ⟨P, 3, none⟩ v3).setCell ⟨P, 4, none⟩ v4).setCell ⟨P, 5, none⟩ v5).setCell ⟨P, 6, none⟩ v6).setCell ⟨P, 7, none⟩ v7).setCell ⟨P, 8, none⟩ v8).setCell ⟨P, 9, none⟩ v9).setCell ⟨P, 10, none⟩ v10).setCell ⟨P, 11, none⟩ v11).setCell ⟨P, 12, none⟩ v12).setCell ⟨P, 13, none⟩ v13).setCell ⟨P, 14, none⟩ v14).cell? ⟨P, 11, none⟩ = some v11 := by
  obtain ⟨u, h⟩ := h
  rw [World.cell?_setCell_other _ _ _ _ (fun e => by injection e with _ e2; omega)]
  rw [World.cell?_setCell_other _ _ _ _ (fun e => by injection e with _ e2; omega)]
  rw [World.cell?_setCell_other _ _ _ _ (fun e => by injection e with _ e2; omega)]
  exact World.cell?_setCell_same _ _ _ ((World.cell?_setCell_other _ _ _ _ (fun e => by injection e with _ e2; omega)).trans ((World.cell?_setCell_other _ _ _ _ (fun e => by injection e with _ e2; omega)).trans ((World.cell?_setCell_other _ _ _ _ (fun e => by injection e with _ e2; omega)).trans ((World.cell?_setCell_other _ _ _ _ (fun e => by injection e with _ e2; omega)).trans ((World.cell?_setCell_other _ _ _ _ (fun e => by injection e with _ e2; omega)).trans ((World.cell?_setCell_other _ _ _ _ (fun e => by injection e with _ e2; omega)).trans ((World.cell?_setCell_other _ _ _ _ (fun e => by injection e with _ e2; omega)).trans ((World.cell?_setCell_other _ _ _ _ (fun e => by injection e with _ e2; omega)).trans ((World.cell?_setCell_other _ _ _ _ (fun e => by injection e with _ e2; omega)).trans ((World.cell?_setCell_other _ _ _ _ (fun e => by injection e with _ e2; omega)).trans ((World.cell?_setCell_other _ _ _ _ (fun e => by injection e with _ e2; omega)).trans h)))))))))))

theorem set15_at12 (X : World) (P : Nat) (v0 v1 v2 v3 v4 v5 v6 v7 v8 v9 v10 v11 v12 v13 v14 : Value) (h : ∃ u, X.cell? ⟨P, 12, none⟩ = some u) : (((((((((((((((X.setCell ⟨P, 0, none⟩ v0).setCell ⟨P, 1, none⟩ v1).setCell ⟨P, 2, none⟩ v2).setCell ⟨P, 3, none⟩ v3).setCell ⟨P, 4, none⟩ v4).setCell ⟨P, 5, none⟩ v5).setCell ⟨P, 6, none⟩ v6).setCell ⟨P, 7, none⟩ v7).setCell ⟨P, 8, none⟩ v8).setCell ⟨P, 9, none⟩ v9).setCell ⟨P, 10, none⟩ v10).setCell ⟨P, 11, none⟩ v11).setCell ⟨P, 12, none⟩ v12).setCell ⟨P, 13, none⟩ v13).setCell ⟨P, 14, none⟩ v14).cell? ⟨P, 12, none⟩ = some v12 := by
  obtain ⟨u, h⟩ := h
  rw [World.cell?_setCell_other _ _ _ _ (fun e => by injection e with _ e2; omega)]
  rw [World.cell?_setCell_other _ _ _ _ (fun e => by injection e with _ e2; omega)]
  exact World.cell?_setCell_same _ _ _ ((World.cell?_setCell_other _ _ _ _ (fun e => by injection e with _ e2; omega)).trans ((World.cell?_setCell_other _ _ _ _ (fun e => by injection e with _ e2; omega)).trans ((World.cell?_setCell_other _ _ _ _ (fun e => by injection e with _ e2; omega)).trans ((World.cell?_setCell_other _ _ _ _ (fun e => by injection e with _ e2; omega)).trans ((World.cell?_setCell_other _ _ _ _ (fun e => by injection e with _ e2; omega)).trans ((World.cell?_setCell_other _ _ _ _ (fun e => by injection e with _ e2; omega)).trans ((World.cell?_setCell_other _ _ _ _ (fun e => by injection e with _ e2; omega)).trans ((World.cell?_setCell_other _ _ _ _ (fun e => by injection e with _ e2; omega)).trans ((World.cell?_setCell_other _ _ _ _ (fun e => by injection e with _ e2; omega)).trans ((World.cell?_setCell_other _ _ _ _ (fun e => by injection e with _ e2; omega)).trans ((World.cell?_setCell_other _ _ _ _ (fun e => by injection e with _ e2; omega)).trans ((World.cell?_setCell_other _ _ _ _ (fun e => by injection e with _ e2; omega)).trans h))))))))))))

theorem set15_at13 (X : World) (P : Nat) (v0 v1 v2 v3 v4 v5 v6 v7 v8 v9 v10 v11 v12 v13 v14 : Value) (h : ∃ u, X.cell? ⟨P, 13, none⟩ = some u) : (((((((((((((((X.setCell ⟨P, 0, none⟩ v0).setCell ⟨P, 1, none⟩ v1).setCell ⟨P, 2, none⟩ v2).setCell ⟨P, 3, none⟩ v3).setCell ⟨P, 4, none⟩ v4).setCell ⟨P, 5, none⟩ v5).setCell ⟨P, 6, none⟩ v6).setCell ⟨P, 7, none⟩ v7).setCell ⟨P, 8, none⟩ v8).setCell ⟨P, 9, none⟩ v9).setCell ⟨P, 10, none⟩ v10).setCell ⟨P, 11, none⟩ v11).setCell ⟨P, 12, none⟩ v12).setCell ⟨P, 13, none⟩ v13).setCell ⟨P, 14, none⟩ v14).cell? ⟨P, 13, none⟩ = some v13 := by
  obtain ⟨u, h⟩ := h
  rw [World.cell?_setCell_other _ _ _ _ (fun e => by injection e with _ e2; omega)]
  exact World.cell?_setCell_same _ _ _ ((World.cell?_setCell_other _ _ _ _ (fun e => by injection e with _ e2; omega)).trans ((World.cell?_setCell_other _ _ _ _ (fun e => by injection e with _ e2; omega)).trans ((World.cell?_setCell_other _ _ _ _ (fun e => by injection e with _ e2; omega)).trans ((World.cell?_setCell_other _ _ _ _ (fun e => by injection e with _ e2; omega)).trans ((World.cell?_setCell_other _ _ _ _ (fun e => by injection e with _ e2; omega)).trans ((World.cell?_setCell_other _ _ _ _ (fun e => by injection e with _ e2; omega)).trans ((World.cell?_setCell_other _ _ _ _ (fun e => by injection e with _ e2; omega)).trans ((World.cell?_setCell_other _ _ _ _ (fun e => by injection e with _ e2; omega)).trans ((World.cell?_setCell_other _ _ _ _ (fun e => by injection e with _ e2; omega)).trans ((World.cell?_setCell_other _ _ _ _ (fun e => by injection e with _ e2; omega)).trans ((World.cell?_setCell_other _ _ _ _ (fun e => by injection e with _ e2; omega)).trans ((World.cell?_setCell_other _ _ _ _ (fun e => by injection e with _ e2; omega)).trans ((World.cell?_setCell_other _ _ _ _ (fun e => by injection e with _ e2; omega)).trans h)))))))))))))

theorem set15_at14 (X : World) (P : Nat) (v0 v1 v2 v3 v4 v5 v6 v7 v8 v9 v10 v11 v12 v13 v14 : Value) (h : ∃ u, X.cell? ⟨P, 14, none⟩ = some u) : (((((((((((((((X.setCell ⟨P, 0, none⟩ v0).setCell ⟨P, 1, none⟩ v1).setCell ⟨P, 2, none⟩ v2).setCell ⟨P, 3, none⟩ v3).setCell ⟨P, 4, none⟩ v4).setCell ⟨P, 5, none⟩ v5).setCell ⟨P, 6, none⟩ v6).setCell ⟨P, 7, none⟩ v7).setCell ⟨P, 8, none⟩ v8).setCell ⟨P, 9, none⟩ v9).setCell ⟨P, 10, none⟩ v10).setCell ⟨P, 11, none⟩ v11).setCell ⟨P, 12, none⟩ v12).setCell ⟨P, 13, none⟩ v13).setCell ⟨P, 14, none⟩ v14).cell? ⟨P, 14, none⟩ = some v14 := by
  obtain ⟨u, h⟩ := h
  exact World.cell?_setCell_same _ _ _ ((World.cell?_setCell_other _ _ _ _ (fun e => by injection e with _ e2; omega)).trans ((World.cell?_setCell_other _ _ _ _ (fun e => by injection e with _ e2; omega)).trans ((World.cell?_setCell_other _ _ _ _ (fun e => by injection e with _ e2; omega)).trans ((World.cell?_setCell_other _ _ _ _ (fun e => by injection e with _ e2; omega)).trans ((World.cell?_setCell_other _ _ _ _ (fun e => by injection e with _ e2; omega)).trans ((World.cell?_setCell_other _ _ _ _ (fun e => by injection e with _ e2; omega)).trans ((World.cell?_setCell_other _ _ _ _ (fun e => by injection e with _ e2; omega)).trans ((World.cell?_setCell_other _ _ _ _ (fun e => by injection e with _ e2; omega)).trans ((World.cell?_setCell_other _ _ _ _ (fun e => by injection e with _ e2; omega)).trans ((World.cell?_setCell_other _ _ _ _ (fun e => by injection e with _ e2; omega)).trans ((World.cell?_setCell_other _ _ _ _ (fun e => by injection e with _ e2; omega)).trans ((World.cell?_setCell_other _ _ _ _ (fun e => by injection e with _ e2; omega)).trans ((World.cell?_setCell_other _ _ _ _ (fun e => by injection e with _ e2; omega)).trans ((World.cell?_setCell_other _ _ _ _ (fun e => by injection e with _ e2; omega)).trans h))))))))))))))

theorem below_set11o4 {B : Nat} {w u : World} (h : Below B w u) {P : Nat} (hP : B ≤ P) (v0 v1 v2 v3 v4 v5 v6 v7 v8 v9 v10 : Value) : Below B w (((((((((((u.setCell ⟨P, 4, none⟩ v0).setCell ⟨P, 5, none⟩ v1).setCell ⟨P, 6, none⟩ v2).setCell ⟨P, 7, none⟩ v3).setCell ⟨P, 8, none⟩ v4).setCell ⟨P, 9, none⟩ v5).setCell ⟨P, 10, none⟩ v6).setCell ⟨P, 11, none⟩ v7).setCell ⟨P, 12, none⟩ v8).setCell ⟨P, 13, none⟩ v9).setCell ⟨P, 14, none⟩ v10) :=
  (Below.setCell (Below.setCell (Below.setCell (Below.setCell (Below.setCell (Below.setCell (Below.setCell (Below.setCell (Below.setCell (Below.setCell (Below.setCell h (by exact hP) v0) (by exact hP) v1) (by exact hP) v2) (by exact hP) v3) (by exact hP) v4) (by exact hP) v5) (by exact hP) v6) (by exact hP) v7) (by exact hP) v8) (by exact hP) v9) (by exact hP) v10)

theorem loc_set11o4 {S : Nat → Prop} {Q : World → Prop} (hl : Loc S Q) {w : World} (h : Q w) {P : Nat} (hP : ¬ S P) (v0 v1 v2 v3 v4 v5 v6 v7 v8 v9 v10 : Value) : Q (((((((((((w.setCell ⟨P, 4, none⟩ v0).setCell ⟨P, 5, none⟩ v1).setCell ⟨P, 6, none⟩ v2).setCell ⟨P, 7, none⟩ v3).setCell ⟨P, 8, none⟩ v4).setCell ⟨P, 9, none⟩ v5).setCell ⟨P, 10, none⟩ v6).setCell ⟨P, 11, none⟩ v7).setCell ⟨P, 12, none⟩ v8).setCell ⟨P, 13, none⟩ v9).setCell ⟨P, 14, none⟩ v10) :=
  (hl.setC (hl.setC (hl.setC (hl.setC (hl.setC (hl.setC (hl.setC (hl.setC (hl.setC (hl.setC (hl.setC h (by exact hP) v0) (by exact hP) v1) (by exact hP) v2) (by exact hP) v3) (by exact hP) v4) (by exact hP) v5) (by exact hP) v6) (by exact hP) v7) (by exact hP) v8) (by exact hP) v9) (by exact hP) v10)

theorem size_set11o4 (w : World) (P : Nat) (v0 v1 v2 v3 v4 v5 v6 v7 v8 v9 v10 : Value) : (((((((((((w.setCell ⟨P, 4, none⟩ v0).setCell ⟨P, 5, none⟩ v1).setCell ⟨P, 6, none⟩ v2).setCell ⟨P, 7, none⟩ v3).setCell ⟨P, 8, none⟩ v4).setCell ⟨P, 9, none⟩ v5).setCell ⟨P, 10, none⟩ v6).setCell ⟨P, 11, none⟩ v7).setCell ⟨P, 12, none⟩ v8).setCell ⟨P, 13, none⟩ v9).setCell ⟨P, 14, none⟩ v10).heap.size = w.heap.size := by simp

theorem Cs.set11o4 {P : Nat} {u0 u1 u2 u3 u4 u5 u6 u7 u8 u9 u10 u11 u12 u13 u14 : Value} {w : World} (h : Cs P [u0, u1, u2, u3, u4, u5, u6, u7, u8, u9, u10, u11, u12, u13, u14] w) (v0 v1 v2 v3 v4 v5 v6 v7 v8 v9 v10 : Value) : Cs P [u0, u1, u2, u3, v0, v1, v2, v3, v4, v5, v6, v7, v8, v9, v10] (((((((((((w.setCell ⟨P, 4, none⟩ v0).setCell ⟨P, 5, none⟩ v1).setCell ⟨P, 6, none⟩ v2).setCell ⟨P, 7, none⟩ v3).setCell ⟨P, 8, none⟩ v4).setCell ⟨P, 9, none⟩ v5).setCell ⟨P, 10, none⟩ v6).setCell ⟨P, 11, none⟩ v7).setCell ⟨P, 12, none⟩ v8).setCell ⟨P, 13, none⟩ v9).setCell ⟨P, 14, none⟩ v10) := by
  have h0 := h.set 4 (by simp) v0
  simp only [List.set] at h0
  have h1 := h0.set 5 (by simp) v1
  simp only [List.set] at h1
  have h2 := h1.set 6 (by simp) v2
  simp only [List.set] at h2
  have h3 := h2.set 7 (by simp) v3
  simp only [List.set] at h3
  have h4 := h3.set 8 (by simp) v4
  simp only [List.set] at h4
  have h5 := h4.set 9 (by simp) v5
  simp only [List.set] at h5
  have h6 := h5.set 10 (by simp) v6
  simp only [List.set] at h6
  have h7 := h6.set 11 (by simp) v7
  simp only [List.set] at h7
  have h8 := h7.set 12 (by simp) v8
  simp only [List.set] at h8
  have h9 := h8.set 13 (by simp) v9
  simp only [List.set] at h9
  have h10 := h9.set 14 (by simp) v10
  simp only [List.set] at h10
  exact h10

set_option maxRecDepth 100000 in
set_option maxHeartbeats 8000000 in
theorem l7Try_halted (A : SA) (D : SD) (k : Nat) (w : World) (hr : RS w A D) (H : SysR A D k) (hh : (gx D.cs k).2.2 = true) :
    Calls Tryz.prog 35 #[.agg #[.slice A.a A.n A.c, .slice A.ta A.tn A.tc, .slice A.da A.dn A.dc, .slice A.wa A.wn A.wc, .slice A.xa A.xn A.xc, .int .i64 D.ac, .int .i64 D.cz, .slice A.la A.ln A.lc, .int .i64 D.dv, .slice A.oa A.on A.oc, .slice A.ga A.gn A.gc]] w fun e w' => ∃ B : SA, e = .returned (.agg #[.int .i64 0, .int .i64 (tyK D k), .int .i64 (tyT D k), .int .i64 (tyC D k), .slice B.a B.n B.c, .slice B.ta B.tn B.tc, .slice B.da B.dn B.dc, .slice B.wa B.wn B.wc, .slice B.xa B.xn B.xc, .int .i64 (tyD D k).ac, .int .i64 (tyD D k).cz, .slice B.la B.ln B.lc, .int .i64 (tyD D k).dv, .slice B.oa B.on B.oc, .slice B.ga B.gn B.gc]) ∧ OYR (InR w.heap.size w'.heap.size) B (tyD D k) w' ∧ Below w.heap.size w w' := by
  have hz : szY A D ≤ 1048576 := by have := H.small hr; omega
  have hk := H.hk
  have hxd := H.xd
  obtain ⟨h8, hrg, hp0, hp1⟩ := H.cx k hk
  obtain ⟨bx, off, hax, hbx, hcx⟩ := hr.xs.2 (by omega)
  obtain ⟨la, ll, lc, y0, y1, y2, hll, hsl⟩ := hcx k (by omega)
  have M0 := (((Mm.start w).allocC [.slice A.a A.n A.c, .slice A.ta A.tn A.tc, .slice A.da A.dn A.dc, .slice A.wa A.wn A.wc, .slice A.xa A.xn A.xc, .int .i64 D.ac, .int .i64 D.cz, .slice A.la A.ln A.lc, .int .i64 D.dv, .slice A.oa A.on A.oc, .slice A.ga A.gn A.gc] 53).allocC [.int .i64 0, .int .i64 0, .int .i64 0, .int .i64 0, .slice none 0 0, .slice none 0 0, .slice none 0 0, .slice none 0 0, .slice none 0 0, .int .i64 0, .int .i64 0, .slice none 0 0, .int .i64 0, .slice none 0 0, .slice none 0 0] 55).allocC [.int .i64 0, .int .i64 5, .int .i64 0, .int .i64 0, .slice none 0 0, .slice none 0 0, .slice none 0 0, .slice none 0 0, .slice none 0 0, .int .i64 0, .int .i64 0, .slice none 0 0, .int .i64 0, .slice none 0 0, .slice none 0 0] 55
  simp only [World.size_alloc] at M0
  obtain ⟨W, hW⟩ : ∃ x, x = ((w.alloc (.cells #[.slice A.a A.n A.c, .slice A.ta A.tn A.tc, .slice A.da A.dn A.dc, .slice A.wa A.wn A.wc, .slice A.xa A.xn A.xc, .int .i64 D.ac, .int .i64 D.cz, .slice A.la A.ln A.lc, .int .i64 D.dv, .slice A.oa A.on A.oc, .slice A.ga A.gn A.gc] 53)).alloc (.cells #[.int .i64 0, .int .i64 0, .int .i64 0, .int .i64 0, .slice none 0 0, .slice none 0 0, .slice none 0 0, .slice none 0 0, .slice none 0 0, .int .i64 0, .int .i64 0, .slice none 0 0, .int .i64 0, .slice none 0 0, .slice none 0 0] 55)).alloc (.cells #[.int .i64 0, .int .i64 5, .int .i64 0, .int .i64 0, .slice none 0 0, .slice none 0 0, .slice none 0 0, .slice none 0 0, .slice none 0 0, .int .i64 0, .int .i64 0, .slice none 0 0, .int .i64 0, .slice none 0 0, .slice none 0 0] 55) := ⟨_, rfl⟩
  have hWs : W.heap.size = w.heap.size + 3 := by rw [hW]; simp
  rw [← hW] at M0
  have BW := M0.bel
  have i0 : (0 : Int) ≤ (k : Int) := by omega
  have i1 : (k : Int) < (A.xn : Int) := by omega
  have HAC := hide H.ac
  clear hxd
  have HAX := hide hax
  clear hax hcx y0
  have HW := hide hW
  clear hW
  go_enter Tryz.func35, Tryz.ntmps35
  go_upto_region 2 with fail
  rw [← HW.out]
  have a4 := (M0.get 2 rfl).cell 4 rfl
  have a5 := (M0.get 2 rfl).cell 5 rfl
  rw [HAX.out] at a4
  rw [HAC.out] at a5
  have p1 := (BW.cell (p := ⟨bx, off + k * 3 + 1, none⟩) hbx).trans y1
  have p2 := (BW.cell (p := ⟨bx, off + k * 3 + 2, none⟩) hbx).trans y2
  have hk0 : k0X D k = 5 := if_pos hh
  have ht0 : t0X D k = 0 := if_pos hh
  have HT := hide (ty_no (D := D) (k := k) (by rw [hk0]; omega))
  have HK := hide hk0
  have HT0 := hide ht0
  clear hk0 ht0
  rw [hh] at p2
  have q1 := (M0.get 0 rfl).cell 1 rfl
  go_upto_region 9 with fail
  clear a4 a5 p1 p2 q1
  have s0 := (M0.get 2 rfl).cell 0 rfl
  have s1 := (M0.get 2 rfl).cell 1 rfl
  have s2 := (M0.get 2 rfl).cell 2 rfl
  have s3 := (M0.get 2 rfl).cell 3 rfl
  have s4 := (M0.get 2 rfl).cell 4 rfl
  have s5 := (M0.get 2 rfl).cell 5 rfl
  have s6 := (M0.get 2 rfl).cell 6 rfl
  have s7 := (M0.get 2 rfl).cell 7 rfl
  have s8 := (M0.get 2 rfl).cell 8 rfl
  have s9 := (M0.get 2 rfl).cell 9 rfl
  have s10 := (M0.get 2 rfl).cell 10 rfl
  go_wp2_with fail
  refine (l7Copy_O A D _ hz (hr.below M0.bel (Nat.le_refl _))).mono ?_
  rintro e w2 ⟨B, rfl, oy, g2⟩
  have z2 := g2.size
  have M2 := M0.below g2
  clear g2 M0 s0 s1 s2 s3 s4 s5 s6 s7 s8 s9 s10
  have c4 := (M2.get 0 rfl).cell 4 rfl
  have f4 := (M2.get 0 rfl).fz 4 (by simp)
  have c5 := (M2.get 0 rfl).cell 5 rfl
  have f5 := (M2.get 0 rfl).fz 5 (by simp)
  have c6 := (M2.get 0 rfl).cell 6 rfl
  have f6 := (M2.get 0 rfl).fz 6 (by simp)
  have c7 := (M2.get 0 rfl).cell 7 rfl
  have f7 := (M2.get 0 rfl).fz 7 (by simp)
  have c8 := (M2.get 0 rfl).cell 8 rfl
  have f8 := (M2.get 0 rfl).fz 8 (by simp)
  have c9 := (M2.get 0 rfl).cell 9 rfl
  have f9 := (M2.get 0 rfl).fz 9 (by simp)
  have c10 := (M2.get 0 rfl).cell 10 rfl
  have f10 := (M2.get 0 rfl).fz 10 (by simp)
  have c11 := (M2.get 0 rfl).cell 11 rfl
  have f11 := (M2.get 0 rfl).fz 11 (by simp)
  have c12 := (M2.get 0 rfl).cell 12 rfl
  have f12 := (M2.get 0 rfl).fz 12 (by simp)
  have c13 := (M2.get 0 rfl).cell 13 rfl
  have f13 := (M2.get 0 rfl).fz 13 (by simp)
  have c14 := (M2.get 0 rfl).cell 14 rfl
  have f14 := (M2.get 0 rfl).fz 14 (by simp)
  go_upto_region 10 with fail
  have hC := Cs.set11o4 (M2.get 0 rfl) (.slice B.a B.n B.c) (.slice B.ta B.tn B.tc) (.slice B.da B.dn B.dc) (.slice B.wa B.wn B.wc) (.slice B.xa B.xn B.xc) (.int .i64 D.ac) (.int .i64 D.cz) (.slice B.la B.ln B.lc) (.int .i64 D.dv) (.slice B.oa B.on B.oc) (.slice B.ga B.gn B.gc)
  have hR := loc_set11o4 Cs.loc (M2.get 1 rfl) (P := w.heap.size + 1 + 1) (fun h => by have := h.2; omega) (.slice B.a B.n B.c) (.slice B.ta B.tn B.tc) (.slice B.da B.dn B.dc) (.slice B.wa B.wn B.wc) (.slice B.xa B.xn B.xc) (.int .i64 D.ac) (.int .i64 D.cz) (.slice B.la B.ln B.lc) (.int .i64 D.dv) (.slice B.oa B.on B.oc) (.slice B.ga B.gn B.gc)
  have hO := loc_set11o4 OYR.loc oy (P := w.heap.size + 1 + 1) (fun h => by have := h.1; omega) (.slice B.a B.n B.c) (.slice B.ta B.tn B.tc) (.slice B.da B.dn B.dc) (.slice B.wa B.wn B.wc) (.slice B.xa B.xn B.xc) (.int .i64 D.ac) (.int .i64 D.cz) (.slice B.la B.ln B.lc) (.int .i64 D.dv) (.slice B.oa B.on B.oc) (.slice B.ga B.gn B.gc)
  have hB := below_set11o4 M2.bel (P := w.heap.size + 1 + 1) (by omega) (.slice B.a B.n B.c) (.slice B.ta B.tn B.tc) (.slice B.da B.dn B.dc) (.slice B.wa B.wn B.wc) (.slice B.xa B.xn B.xc) (.int .i64 D.ac) (.int .i64 D.cz) (.slice B.la B.ln B.lc) (.int .i64 D.dv) (.slice B.oa B.on B.oc) (.slice B.ga B.gn B.gc)
  have hN := size_set11o4 w2 (w.heap.size + 1 + 1) (.slice B.a B.n B.c) (.slice B.ta B.tn B.tc) (.slice B.da B.dn B.dc) (.slice B.wa B.wn B.wc) (.slice B.xa B.xn B.xc) (.int .i64 D.ac) (.int .i64 D.cz) (.slice B.la B.ln B.lc) (.int .i64 D.dv) (.slice B.oa B.on B.oc) (.slice B.ga B.gn B.gc)
  obtain ⟨X1, hX1⟩ : ∃ x, x = (((((((((((w2.setCell ⟨w.heap.size + 1 + 1, 4, none⟩ (.slice B.a B.n B.c)).setCell ⟨w.heap.size + 1 + 1, 5, none⟩ (.slice B.ta B.tn B.tc)).setCell ⟨w.heap.size + 1 + 1, 6, none⟩ (.slice B.da B.dn B.dc)).setCell ⟨w.heap.size + 1 + 1, 7, none⟩ (.slice B.wa B.wn B.wc)).setCell ⟨w.heap.size + 1 + 1, 8, none⟩ (.slice B.xa B.xn B.xc)).setCell ⟨w.heap.size + 1 + 1, 9, none⟩ (.int .i64 D.ac)).setCell ⟨w.heap.size + 1 + 1, 10, none⟩ (.int .i64 D.cz)).setCell ⟨w.heap.size + 1 + 1, 11, none⟩ (.slice B.la B.ln B.lc)).setCell ⟨w.heap.size + 1 + 1, 12, none⟩ (.int .i64 D.dv)).setCell ⟨w.heap.size + 1 + 1, 13, none⟩ (.slice B.oa B.on B.oc)).setCell ⟨w.heap.size + 1 + 1, 14, none⟩ (.slice B.ga B.gn B.gc)) := ⟨_, rfl⟩
  rw [← hX1] at hC hR hO hB hN ⊢
  clear hX1 M2 oy c4 f4 c5 f5 c6 f6 c7 f7 c8 f8 c9 f9 c10 f10 c11 f11 c12 f12 c13 f13 c14 f14
  have s0 := hC.cell 0 rfl
  have c0 := hR.cell 0 rfl
  have f0 := hR.fz 0 (by simp)
  have s1 := hC.cell 1 rfl
  have c1 := hR.cell 1 rfl
  have f1 := hR.fz 1 (by simp)
  have s2 := hC.cell 2 rfl
  have c2 := hR.cell 2 rfl
  have f2 := hR.fz 2 (by simp)
  have s3 := hC.cell 3 rfl
  have c3 := hR.cell 3 rfl
  have f3 := hR.fz 3 (by simp)
  have s4 := hC.cell 4 rfl
  have c4 := hR.cell 4 rfl
  have f4 := hR.fz 4 (by simp)
  have s5 := hC.cell 5 rfl
  have c5 := hR.cell 5 rfl
  have f5 := hR.fz 5 (by simp)
  have s6 := hC.cell 6 rfl
  have c6 := hR.cell 6 rfl
  have f6 := hR.fz 6 (by simp)
  have s7 := hC.cell 7 rfl
  have c7 := hR.cell 7 rfl
  have f7 := hR.fz 7 (by simp)
  have s8 := hC.cell 8 rfl
  have c8 := hR.cell 8 rfl
  have f8 := hR.fz 8 (by simp)
  have s9 := hC.cell 9 rfl
  have c9 := hR.cell 9 rfl
  have f9 := hR.fz 9 (by simp)
  have s10 := hC.cell 10 rfl
  have c10 := hR.cell 10 rfl
  have f10 := hR.fz 10 (by simp)
  have s11 := hC.cell 11 rfl
  have c11 := hR.cell 11 rfl
  have f11 := hR.fz 11 (by simp)
  have s12 := hC.cell 12 rfl
  have c12 := hR.cell 12 rfl
  have f12 := hR.fz 12 (by simp)
  have s13 := hC.cell 13 rfl
  have c13 := hR.cell 13 rfl
  have f13 := hR.fz 13 (by simp)
  have s14 := hC.cell 14 rfl
  have c14 := hR.cell 14 rfl
  have f14 := hR.fz 14 (by simp)
  have HB := hide (below_set15 hB (P := w.heap.size + 1) (by omega) (.int .i64 0) (.int .i64 5) (.int .i64 0) (.int .i64 0) (.slice B.a B.n B.c) (.slice B.ta B.tn B.tc) (.slice B.da B.dn B.dc) (.slice B.wa B.wn B.wc) (.slice B.xa B.xn B.xc) (.int .i64 D.ac) (.int .i64 D.cz) (.slice B.la B.ln B.lc) (.int .i64 D.dv) (.slice B.oa B.on B.oc) (.slice B.ga B.gn B.gc))
  have HO := hide (loc_set15 OYR.loc hO (P := w.heap.size + 1) (fun h => by have := h.1; omega) (.int .i64 0) (.int .i64 5) (.int .i64 0) (.int .i64 0) (.slice B.a B.n B.c) (.slice B.ta B.tn B.tc) (.slice B.da B.dn B.dc) (.slice B.wa B.wn B.wc) (.slice B.xa B.xn B.xc) (.int .i64 D.ac) (.int .i64 D.cz) (.slice B.la B.ln B.lc) (.int .i64 D.dv) (.slice B.oa B.on B.oc) (.slice B.ga B.gn B.gc))
  clear hC hR hO hB
  go_wp2
  have r0 := set15_at0 _ _ (.int .i64 0) (.int .i64 5) (.int .i64 0) (.int .i64 0) (.slice B.a B.n B.c) (.slice B.ta B.tn B.tc) (.slice B.da B.dn B.dc) (.slice B.wa B.wn B.wc) (.slice B.xa B.xn B.xc) (.int .i64 D.ac) (.int .i64 D.cz) (.slice B.la B.ln B.lc) (.int .i64 D.dv) (.slice B.oa B.on B.oc) (.slice B.ga B.gn B.gc) ⟨_, c0⟩
  have r1 := set15_at1 _ _ (.int .i64 0) (.int .i64 5) (.int .i64 0) (.int .i64 0) (.slice B.a B.n B.c) (.slice B.ta B.tn B.tc) (.slice B.da B.dn B.dc) (.slice B.wa B.wn B.wc) (.slice B.xa B.xn B.xc) (.int .i64 D.ac) (.int .i64 D.cz) (.slice B.la B.ln B.lc) (.int .i64 D.dv) (.slice B.oa B.on B.oc) (.slice B.ga B.gn B.gc) ⟨_, c1⟩
  have r2 := set15_at2 _ _ (.int .i64 0) (.int .i64 5) (.int .i64 0) (.int .i64 0) (.slice B.a B.n B.c) (.slice B.ta B.tn B.tc) (.slice B.da B.dn B.dc) (.slice B.wa B.wn B.wc) (.slice B.xa B.xn B.xc) (.int .i64 D.ac) (.int .i64 D.cz) (.slice B.la B.ln B.lc) (.int .i64 D.dv) (.slice B.oa B.on B.oc) (.slice B.ga B.gn B.gc) ⟨_, c2⟩
  have r3 := set15_at3 _ _ (.int .i64 0) (.int .i64 5) (.int .i64 0) (.int .i64 0) (.slice B.a B.n B.c) (.slice B.ta B.tn B.tc) (.slice B.da B.dn B.dc) (.slice B.wa B.wn B.wc) (.slice B.xa B.xn B.xc) (.int .i64 D.ac) (.int .i64 D.cz) (.slice B.la B.ln B.lc) (.int .i64 D.dv) (.slice B.oa B.on B.oc) (.slice B.ga B.gn B.gc) ⟨_, c3⟩
  have r4 := set15_at4 _ _ (.int .i64 0) (.int .i64 5) (.int .i64 0) (.int .i64 0) (.slice B.a B.n B.c) (.slice B.ta B.tn B.tc) (.slice B.da B.dn B.dc) (.slice B.wa B.wn B.wc) (.slice B.xa B.xn B.xc) (.int .i64 D.ac) (.int .i64 D.cz) (.slice B.la B.ln B.lc) (.int .i64 D.dv) (.slice B.oa B.on B.oc) (.slice B.ga B.gn B.gc) ⟨_, c4⟩
  have r5 := set15_at5 _ _ (.int .i64 0) (.int .i64 5) (.int .i64 0) (.int .i64 0) (.slice B.a B.n B.c) (.slice B.ta B.tn B.tc) (.slice B.da B.dn B.dc) (.slice B.wa B.wn B.wc) (.slice B.xa B.xn B.xc) (.int .i64 D.ac) (.int .i64 D.cz) (.slice B.la B.ln B.lc) (.int .i64 D.dv) (.slice B.oa B.on B.oc) (.slice B.ga B.gn B.gc) ⟨_, c5⟩
  have r6 := set15_at6 _ _ (.int .i64 0) (.int .i64 5) (.int .i64 0) (.int .i64 0) (.slice B.a B.n B.c) (.slice B.ta B.tn B.tc) (.slice B.da B.dn B.dc) (.slice B.wa B.wn B.wc) (.slice B.xa B.xn B.xc) (.int .i64 D.ac) (.int .i64 D.cz) (.slice B.la B.ln B.lc) (.int .i64 D.dv) (.slice B.oa B.on B.oc) (.slice B.ga B.gn B.gc) ⟨_, c6⟩
  have r7 := set15_at7 _ _ (.int .i64 0) (.int .i64 5) (.int .i64 0) (.int .i64 0) (.slice B.a B.n B.c) (.slice B.ta B.tn B.tc) (.slice B.da B.dn B.dc) (.slice B.wa B.wn B.wc) (.slice B.xa B.xn B.xc) (.int .i64 D.ac) (.int .i64 D.cz) (.slice B.la B.ln B.lc) (.int .i64 D.dv) (.slice B.oa B.on B.oc) (.slice B.ga B.gn B.gc) ⟨_, c7⟩
  have r8 := set15_at8 _ _ (.int .i64 0) (.int .i64 5) (.int .i64 0) (.int .i64 0) (.slice B.a B.n B.c) (.slice B.ta B.tn B.tc) (.slice B.da B.dn B.dc) (.slice B.wa B.wn B.wc) (.slice B.xa B.xn B.xc) (.int .i64 D.ac) (.int .i64 D.cz) (.slice B.la B.ln B.lc) (.int .i64 D.dv) (.slice B.oa B.on B.oc) (.slice B.ga B.gn B.gc) ⟨_, c8⟩
  have r9 := set15_at9 _ _ (.int .i64 0) (.int .i64 5) (.int .i64 0) (.int .i64 0) (.slice B.a B.n B.c) (.slice B.ta B.tn B.tc) (.slice B.da B.dn B.dc) (.slice B.wa B.wn B.wc) (.slice B.xa B.xn B.xc) (.int .i64 D.ac) (.int .i64 D.cz) (.slice B.la B.ln B.lc) (.int .i64 D.dv) (.slice B.oa B.on B.oc) (.slice B.ga B.gn B.gc) ⟨_, c9⟩
  have r10 := set15_at10 _ _ (.int .i64 0) (.int .i64 5) (.int .i64 0) (.int .i64 0) (.slice B.a B.n B.c) (.slice B.ta B.tn B.tc) (.slice B.da B.dn B.dc) (.slice B.wa B.wn B.wc) (.slice B.xa B.xn B.xc) (.int .i64 D.ac) (.int .i64 D.cz) (.slice B.la B.ln B.lc) (.int .i64 D.dv) (.slice B.oa B.on B.oc) (.slice B.ga B.gn B.gc) ⟨_, c10⟩
  have r11 := set15_at11 _ _ (.int .i64 0) (.int .i64 5) (.int .i64 0) (.int .i64 0) (.slice B.a B.n B.c) (.slice B.ta B.tn B.tc) (.slice B.da B.dn B.dc) (.slice B.wa B.wn B.wc) (.slice B.xa B.xn B.xc) (.int .i64 D.ac) (.int .i64 D.cz) (.slice B.la B.ln B.lc) (.int .i64 D.dv) (.slice B.oa B.on B.oc) (.slice B.ga B.gn B.gc) ⟨_, c11⟩
  have r12 := set15_at12 _ _ (.int .i64 0) (.int .i64 5) (.int .i64 0) (.int .i64 0) (.slice B.a B.n B.c) (.slice B.ta B.tn B.tc) (.slice B.da B.dn B.dc) (.slice B.wa B.wn B.wc) (.slice B.xa B.xn B.xc) (.int .i64 D.ac) (.int .i64 D.cz) (.slice B.la B.ln B.lc) (.int .i64 D.dv) (.slice B.oa B.on B.oc) (.slice B.ga B.gn B.gc) ⟨_, c12⟩
  have r13 := set15_at13 _ _ (.int .i64 0) (.int .i64 5) (.int .i64 0) (.int .i64 0) (.slice B.a B.n B.c) (.slice B.ta B.tn B.tc) (.slice B.da B.dn B.dc) (.slice B.wa B.wn B.wc) (.slice B.xa B.xn B.xc) (.int .i64 D.ac) (.int .i64 D.cz) (.slice B.la B.ln B.lc) (.int .i64 D.dv) (.slice B.oa B.on B.oc) (.slice B.ga B.gn B.gc) ⟨_, c13⟩
  have r14 := set15_at14 _ _ (.int .i64 0) (.int .i64 5) (.int .i64 0) (.int .i64 0) (.slice B.a B.n B.c) (.slice B.ta B.tn B.tc) (.slice B.da B.dn B.dc) (.slice B.wa B.wn B.wc) (.slice B.xa B.xn B.xc) (.int .i64 D.ac) (.int .i64 D.cz) (.slice B.la B.ln B.lc) (.int .i64 D.dv) (.slice B.oa B.on B.oc) (.slice B.ga B.gn B.gc) ⟨_, c14⟩
  refine bodyPost_ret (v := .agg #[.int .i64 0, .int .i64 5, .int .i64 0, .int .i64 0, .slice B.a B.n B.c, .slice B.ta B.tn B.tc, .slice B.da B.dn B.dc, .slice B.wa B.wn B.wc, .slice B.xa B.xn B.xc, .int .i64 D.ac, .int .i64 D.cz, .slice B.la B.ln B.lc, .int .i64 D.dv, .slice B.oa B.on B.oc, .slice B.ga B.gn B.gc]) (by simp [results, Tryz.results35, go_sem, r0, r1, r2, r3, r4, r5, r6, r7, r8, r9, r10, r11, r12, r13, r14]) rfl ⟨B, ?_, ?_, HB.out⟩
  · rw [HT.out.1, HT.out.2.1, HT.out.2.2.1, HT.out.2.2.2, HK.out, HT0.out]
  · rw [HT.out.2.2.2]; exact HO.out.mono (fun q hq => ⟨by have := hq.1; omega, by have := hq.2; simp only [size_set15]; omega⟩)

set_option maxRecDepth 100000 in
set_option maxHeartbeats 8000000 in
theorem l7Try_denied (A : SA) (D : SD) (k : Nat) (w : World) (hr : RS w A D) (H : SysR A D k) (hh : (gx D.cs k).2.2 = false) (h0 : plK D (gx D.cs k).2.1 4 ≠ 1) :
    Calls Tryz.prog 35 #[.agg #[.slice A.a A.n A.c, .slice A.ta A.tn A.tc, .slice A.da A.dn A.dc, .slice A.wa A.wn A.wc, .slice A.xa A.xn A.xc, .int .i64 D.ac, .int .i64 D.cz, .slice A.la A.ln A.lc, .int .i64 D.dv, .slice A.oa A.on A.oc, .slice A.ga A.gn A.gc]] w fun e w' => ∃ B : SA, e = .returned (.agg #[.int .i64 0, .int .i64 (tyK D k), .int .i64 (tyT D k), .int .i64 (tyC D k), .slice B.a B.n B.c, .slice B.ta B.tn B.tc, .slice B.da B.dn B.dc, .slice B.wa B.wn B.wc, .slice B.xa B.xn B.xc, .int .i64 (tyD D k).ac, .int .i64 (tyD D k).cz, .slice B.la B.ln B.lc, .int .i64 (tyD D k).dv, .slice B.oa B.on B.oc, .slice B.ga B.gn B.gc]) ∧ OYR (InR w.heap.size w'.heap.size) B (tyD D k) w' ∧ Below w.heap.size w w' := by
  have hz : szY A D ≤ 1048576 := by have := H.small hr; omega
  have hk := H.hk
  have hxd := H.xd
  obtain ⟨h8, hrg, hp0, hp1⟩ := H.cx k hk
  obtain ⟨bx, off, hax, hbx, hcx⟩ := hr.xs.2 (by omega)
  obtain ⟨la, ll, lc, y0, y1, y2, hll, hsl⟩ := hcx k (by omega)
  have M0 := (((Mm.start w).allocC [.slice A.a A.n A.c, .slice A.ta A.tn A.tc, .slice A.da A.dn A.dc, .slice A.wa A.wn A.wc, .slice A.xa A.xn A.xc, .int .i64 D.ac, .int .i64 D.cz, .slice A.la A.ln A.lc, .int .i64 D.dv, .slice A.oa A.on A.oc, .slice A.ga A.gn A.gc] 53).allocC [.int .i64 0, .int .i64 0, .int .i64 0, .int .i64 0, .slice none 0 0, .slice none 0 0, .slice none 0 0, .slice none 0 0, .slice none 0 0, .int .i64 0, .int .i64 0, .slice none 0 0, .int .i64 0, .slice none 0 0, .slice none 0 0] 55).allocC [.int .i64 0, .int .i64 5, .int .i64 0, .int .i64 0, .slice none 0 0, .slice none 0 0, .slice none 0 0, .slice none 0 0, .slice none 0 0, .int .i64 0, .int .i64 0, .slice none 0 0, .int .i64 0, .slice none 0 0, .slice none 0 0] 55
  simp only [World.size_alloc] at M0
  obtain ⟨W, hW⟩ : ∃ x, x = ((w.alloc (.cells #[.slice A.a A.n A.c, .slice A.ta A.tn A.tc, .slice A.da A.dn A.dc, .slice A.wa A.wn A.wc, .slice A.xa A.xn A.xc, .int .i64 D.ac, .int .i64 D.cz, .slice A.la A.ln A.lc, .int .i64 D.dv, .slice A.oa A.on A.oc, .slice A.ga A.gn A.gc] 53)).alloc (.cells #[.int .i64 0, .int .i64 0, .int .i64 0, .int .i64 0, .slice none 0 0, .slice none 0 0, .slice none 0 0, .slice none 0 0, .slice none 0 0, .int .i64 0, .int .i64 0, .slice none 0 0, .int .i64 0, .slice none 0 0, .slice none 0 0] 55)).alloc (.cells #[.int .i64 0, .int .i64 5, .int .i64 0, .int .i64 0, .slice none 0 0, .slice none 0 0, .slice none 0 0, .slice none 0 0, .slice none 0 0, .int .i64 0, .int .i64 0, .slice none 0 0, .int .i64 0, .slice none 0 0, .slice none 0 0] 55) := ⟨_, rfl⟩
  have hWs : W.heap.size = w.heap.size + 3 := by rw [hW]; simp
  rw [← hW] at M0
  have BW := M0.bel
  have i0 : (0 : Int) ≤ (k : Int) := by omega
  have i1 : (k : Int) < (A.xn : Int) := by omega
  have HAC := hide H.ac
  clear hxd
  have HAX := hide hax
  clear hax hcx y0
  have HW := hide hW
  clear hW
  go_enter Tryz.func35, Tryz.ntmps35
  go_upto_region 2 with fail
  rw [← HW.out]
  have a4 := (M0.get 2 rfl).cell 4 rfl
  have a5 := (M0.get 2 rfl).cell 5 rfl
  rw [HAX.out] at a4
  rw [HAC.out] at a5
  have p1 := (BW.cell (p := ⟨bx, off + k * 3 + 1, none⟩) hbx).trans y1
  have p2 := (BW.cell (p := ⟨bx, off + k * 3 + 2, none⟩) hbx).trans y2
  have hk0 : k0X D k = plK D (gx D.cs k).2.1 4 := if_neg (by rw [hh]; simp)
  have ht0 : t0X D k = if plK D (gx D.cs k).2.1 4 = 2 then plT D (gx D.cs k).2.1 else 0 := if_neg (by rw [hh]; simp)
  have HT := hide (ty_no (D := D) (k := k) (by rw [hk0]; exact h0))
  have HK := hide hk0
  have HT0 := hide ht0
  clear hk0 ht0
  rw [hh] at p2
  go_wp2_with fail
  refine (l7Place_calls w.heap.size 0 A D (gx D.cs k).2.1 4 _ H.fc (by omega) (CsO.ofCs (M0.get 2 rfl)) (hr.below M0.bel (Nat.le_refl _))).mono ?_
  rintro e w1 ⟨rfl, g1⟩
  have z1 := g1.size
  have M1 := M0.below g1
  clear g1 M0 a4 a5 p1 p2
  have d1 := (M1.get 0 rfl).cell 1 rfl
  have e1 := (M1.get 0 rfl).fz 1 (by simp)
  have d2 := (M1.get 0 rfl).cell 2 rfl
  have e2 := (M1.get 0 rfl).fz 2 (by simp)
  obtain ⟨kd, hkd⟩ : ∃ x, x = plK D (gx D.cs k).2.1 4 := ⟨_, rfl⟩
  obtain ⟨tg, htg⟩ : ∃ x, x = plT D (gx D.cs k).2.1 := ⟨_, rfl⟩
  rw [← hkd] at h0 ⊢
  rw [← htg]
  have HKD := hide hkd
  have HTG := hide htg
  have hcs : kd = 2 ∨ kd = 3 := by have := plK_cases D (gx D.cs k).2.1 4; rw [← hkd] at this; omega
  clear hkd htg
  rcases hcs with rfl | rfl
  · have P0 := M1.put 0 rfl 1 (by simp) (.int .i64 2) (by omega) (by simp) (by simp <;> omega)
    simp only [List.set] at P0
    have P1 := P0.put 0 rfl 2 (by simp) (.int .i64 tg) (by omega) (by simp) (by simp <;> omega)
    simp only [List.set] at P1
    have MM := P1
    clear M1 P1 P0
    go_upto_region 8 with fail
    obtain ⟨W2, hW2⟩ : ∃ x, x = ((w1.setCell ⟨w.heap.size + 1 + 1, 1, none⟩ (.int .i64 2)).setCell ⟨w.heap.size + 1 + 1, 2, none⟩ (.int .i64 tg)) := ⟨_, rfl⟩
    rw [← hW2] at MM ⊢
    have hZ2 : W2.heap.size = w1.heap.size := by rw [hW2]; simp
    clear hW2 d1 e1 d2 e2
    have q1 := (MM.get 0 rfl).cell 1 rfl
    have a4 := q1
    have a5 := q1
    have p1 := q1
    have p2 := q1
    go_upto_region 9 with fail
    clear a4 a5 p1 p2 q1
    have s0 := (MM.get 2 rfl).cell 0 rfl
    have s1 := (MM.get 2 rfl).cell 1 rfl
    have s2 := (MM.get 2 rfl).cell 2 rfl
    have s3 := (MM.get 2 rfl).cell 3 rfl
    have s4 := (MM.get 2 rfl).cell 4 rfl
    have s5 := (MM.get 2 rfl).cell 5 rfl
    have s6 := (MM.get 2 rfl).cell 6 rfl
    have s7 := (MM.get 2 rfl).cell 7 rfl
    have s8 := (MM.get 2 rfl).cell 8 rfl
    have s9 := (MM.get 2 rfl).cell 9 rfl
    have s10 := (MM.get 2 rfl).cell 10 rfl
    go_wp2_with fail
    refine (l7Copy_O A D _ hz (hr.below MM.bel (Nat.le_refl _))).mono ?_
    rintro e w2 ⟨B, rfl, oy, g2⟩
    have z2 := g2.size
    have M2 := MM.below g2
    clear g2 MM s0 s1 s2 s3 s4 s5 s6 s7 s8 s9 s10
    have c4 := (M2.get 0 rfl).cell 4 rfl
    have f4 := (M2.get 0 rfl).fz 4 (by simp)
    have c5 := (M2.get 0 rfl).cell 5 rfl
    have f5 := (M2.get 0 rfl).fz 5 (by simp)
    have c6 := (M2.get 0 rfl).cell 6 rfl
    have f6 := (M2.get 0 rfl).fz 6 (by simp)
    have c7 := (M2.get 0 rfl).cell 7 rfl
    have f7 := (M2.get 0 rfl).fz 7 (by simp)
    have c8 := (M2.get 0 rfl).cell 8 rfl
    have f8 := (M2.get 0 rfl).fz 8 (by simp)
    have c9 := (M2.get 0 rfl).cell 9 rfl
    have f9 := (M2.get 0 rfl).fz 9 (by simp)
    have c10 := (M2.get 0 rfl).cell 10 rfl
    have f10 := (M2.get 0 rfl).fz 10 (by simp)
    have c11 := (M2.get 0 rfl).cell 11 rfl
    have f11 := (M2.get 0 rfl).fz 11 (by simp)
    have c12 := (M2.get 0 rfl).cell 12 rfl
    have f12 := (M2.get 0 rfl).fz 12 (by simp)
    have c13 := (M2.get 0 rfl).cell 13 rfl
    have f13 := (M2.get 0 rfl).fz 13 (by simp)
    have c14 := (M2.get 0 rfl).cell 14 rfl
    have f14 := (M2.get 0 rfl).fz 14 (by simp)
    go_upto_region 10 with fail
    have hC := Cs.set11o4 (M2.get 0 rfl) (.slice B.a B.n B.c) (.slice B.ta B.tn B.tc) (.slice B.da B.dn B.dc) (.slice B.wa B.wn B.wc) (.slice B.xa B.xn B.xc) (.int .i64 D.ac) (.int .i64 D.cz) (.slice B.la B.ln B.lc) (.int .i64 D.dv) (.slice B.oa B.on B.oc) (.slice B.ga B.gn B.gc)
    have hR := loc_set11o4 Cs.loc (M2.get 1 rfl) (P := w.heap.size + 1 + 1) (fun h => by have := h.2; omega) (.slice B.a B.n B.c) (.slice B.ta B.tn B.tc) (.slice B.da B.dn B.dc) (.slice B.wa B.wn B.wc) (.slice B.xa B.xn B.xc) (.int .i64 D.ac) (.int .i64 D.cz) (.slice B.la B.ln B.lc) (.int .i64 D.dv) (.slice B.oa B.on B.oc) (.slice B.ga B.gn B.gc)
    have hO := loc_set11o4 OYR.loc oy (P := w.heap.size + 1 + 1) (fun h => by have := h.1; omega) (.slice B.a B.n B.c) (.slice B.ta B.tn B.tc) (.slice B.da B.dn B.dc) (.slice B.wa B.wn B.wc) (.slice B.xa B.xn B.xc) (.int .i64 D.ac) (.int .i64 D.cz) (.slice B.la B.ln B.lc) (.int .i64 D.dv) (.slice B.oa B.on B.oc) (.slice B.ga B.gn B.gc)
    have hB := below_set11o4 M2.bel (P := w.heap.size + 1 + 1) (by omega) (.slice B.a B.n B.c) (.slice B.ta B.tn B.tc) (.slice B.da B.dn B.dc) (.slice B.wa B.wn B.wc) (.slice B.xa B.xn B.xc) (.int .i64 D.ac) (.int .i64 D.cz) (.slice B.la B.ln B.lc) (.int .i64 D.dv) (.slice B.oa B.on B.oc) (.slice B.ga B.gn B.gc)
    have hN := size_set11o4 w2 (w.heap.size + 1 + 1) (.slice B.a B.n B.c) (.slice B.ta B.tn B.tc) (.slice B.da B.dn B.dc) (.slice B.wa B.wn B.wc) (.slice B.xa B.xn B.xc) (.int .i64 D.ac) (.int .i64 D.cz) (.slice B.la B.ln B.lc) (.int .i64 D.dv) (.slice B.oa B.on B.oc) (.slice B.ga B.gn B.gc)
    obtain ⟨X1, hX1⟩ : ∃ x, x = (((((((((((w2.setCell ⟨w.heap.size + 1 + 1, 4, none⟩ (.slice B.a B.n B.c)).setCell ⟨w.heap.size + 1 + 1, 5, none⟩ (.slice B.ta B.tn B.tc)).setCell ⟨w.heap.size + 1 + 1, 6, none⟩ (.slice B.da B.dn B.dc)).setCell ⟨w.heap.size + 1 + 1, 7, none⟩ (.slice B.wa B.wn B.wc)).setCell ⟨w.heap.size + 1 + 1, 8, none⟩ (.slice B.xa B.xn B.xc)).setCell ⟨w.heap.size + 1 + 1, 9, none⟩ (.int .i64 D.ac)).setCell ⟨w.heap.size + 1 + 1, 10, none⟩ (.int .i64 D.cz)).setCell ⟨w.heap.size + 1 + 1, 11, none⟩ (.slice B.la B.ln B.lc)).setCell ⟨w.heap.size + 1 + 1, 12, none⟩ (.int .i64 D.dv)).setCell ⟨w.heap.size + 1 + 1, 13, none⟩ (.slice B.oa B.on B.oc)).setCell ⟨w.heap.size + 1 + 1, 14, none⟩ (.slice B.ga B.gn B.gc)) := ⟨_, rfl⟩
    rw [← hX1] at hC hR hO hB hN ⊢
    clear hX1 M2 oy c4 f4 c5 f5 c6 f6 c7 f7 c8 f8 c9 f9 c10 f10 c11 f11 c12 f12 c13 f13 c14 f14
    have s0 := hC.cell 0 rfl
    have c0 := hR.cell 0 rfl
    have f0 := hR.fz 0 (by simp)
    have s1 := hC.cell 1 rfl
    have c1 := hR.cell 1 rfl
    have f1 := hR.fz 1 (by simp)
    have s2 := hC.cell 2 rfl
    have c2 := hR.cell 2 rfl
    have f2 := hR.fz 2 (by simp)
    have s3 := hC.cell 3 rfl
    have c3 := hR.cell 3 rfl
    have f3 := hR.fz 3 (by simp)
    have s4 := hC.cell 4 rfl
    have c4 := hR.cell 4 rfl
    have f4 := hR.fz 4 (by simp)
    have s5 := hC.cell 5 rfl
    have c5 := hR.cell 5 rfl
    have f5 := hR.fz 5 (by simp)
    have s6 := hC.cell 6 rfl
    have c6 := hR.cell 6 rfl
    have f6 := hR.fz 6 (by simp)
    have s7 := hC.cell 7 rfl
    have c7 := hR.cell 7 rfl
    have f7 := hR.fz 7 (by simp)
    have s8 := hC.cell 8 rfl
    have c8 := hR.cell 8 rfl
    have f8 := hR.fz 8 (by simp)
    have s9 := hC.cell 9 rfl
    have c9 := hR.cell 9 rfl
    have f9 := hR.fz 9 (by simp)
    have s10 := hC.cell 10 rfl
    have c10 := hR.cell 10 rfl
    have f10 := hR.fz 10 (by simp)
    have s11 := hC.cell 11 rfl
    have c11 := hR.cell 11 rfl
    have f11 := hR.fz 11 (by simp)
    have s12 := hC.cell 12 rfl
    have c12 := hR.cell 12 rfl
    have f12 := hR.fz 12 (by simp)
    have s13 := hC.cell 13 rfl
    have c13 := hR.cell 13 rfl
    have f13 := hR.fz 13 (by simp)
    have s14 := hC.cell 14 rfl
    have c14 := hR.cell 14 rfl
    have f14 := hR.fz 14 (by simp)
    have HB := hide (below_set15 hB (P := w.heap.size + 1) (by omega) (.int .i64 0) (.int .i64 2) (.int .i64 tg) (.int .i64 0) (.slice B.a B.n B.c) (.slice B.ta B.tn B.tc) (.slice B.da B.dn B.dc) (.slice B.wa B.wn B.wc) (.slice B.xa B.xn B.xc) (.int .i64 D.ac) (.int .i64 D.cz) (.slice B.la B.ln B.lc) (.int .i64 D.dv) (.slice B.oa B.on B.oc) (.slice B.ga B.gn B.gc))
    have HO := hide (loc_set15 OYR.loc hO (P := w.heap.size + 1) (fun h => by have := h.1; omega) (.int .i64 0) (.int .i64 2) (.int .i64 tg) (.int .i64 0) (.slice B.a B.n B.c) (.slice B.ta B.tn B.tc) (.slice B.da B.dn B.dc) (.slice B.wa B.wn B.wc) (.slice B.xa B.xn B.xc) (.int .i64 D.ac) (.int .i64 D.cz) (.slice B.la B.ln B.lc) (.int .i64 D.dv) (.slice B.oa B.on B.oc) (.slice B.ga B.gn B.gc))
    clear hC hR hO hB
    go_wp2
    have r0 := set15_at0 _ _ (.int .i64 0) (.int .i64 2) (.int .i64 tg) (.int .i64 0) (.slice B.a B.n B.c) (.slice B.ta B.tn B.tc) (.slice B.da B.dn B.dc) (.slice B.wa B.wn B.wc) (.slice B.xa B.xn B.xc) (.int .i64 D.ac) (.int .i64 D.cz) (.slice B.la B.ln B.lc) (.int .i64 D.dv) (.slice B.oa B.on B.oc) (.slice B.ga B.gn B.gc) ⟨_, c0⟩
    have r1 := set15_at1 _ _ (.int .i64 0) (.int .i64 2) (.int .i64 tg) (.int .i64 0) (.slice B.a B.n B.c) (.slice B.ta B.tn B.tc) (.slice B.da B.dn B.dc) (.slice B.wa B.wn B.wc) (.slice B.xa B.xn B.xc) (.int .i64 D.ac) (.int .i64 D.cz) (.slice B.la B.ln B.lc) (.int .i64 D.dv) (.slice B.oa B.on B.oc) (.slice B.ga B.gn B.gc) ⟨_, c1⟩
    have r2 := set15_at2 _ _ (.int .i64 0) (.int .i64 2) (.int .i64 tg) (.int .i64 0) (.slice B.a B.n B.c) (.slice B.ta B.tn B.tc) (.slice B.da B.dn B.dc) (.slice B.wa B.wn B.wc) (.slice B.xa B.xn B.xc) (.int .i64 D.ac) (.int .i64 D.cz) (.slice B.la B.ln B.lc) (.int .i64 D.dv) (.slice B.oa B.on B.oc) (.slice B.ga B.gn B.gc) ⟨_, c2⟩
    have r3 := set15_at3 _ _ (.int .i64 0) (.int .i64 2) (.int .i64 tg) (.int .i64 0) (.slice B.a B.n B.c) (.slice B.ta B.tn B.tc) (.slice B.da B.dn B.dc) (.slice B.wa B.wn B.wc) (.slice B.xa B.xn B.xc) (.int .i64 D.ac) (.int .i64 D.cz) (.slice B.la B.ln B.lc) (.int .i64 D.dv) (.slice B.oa B.on B.oc) (.slice B.ga B.gn B.gc) ⟨_, c3⟩
    have r4 := set15_at4 _ _ (.int .i64 0) (.int .i64 2) (.int .i64 tg) (.int .i64 0) (.slice B.a B.n B.c) (.slice B.ta B.tn B.tc) (.slice B.da B.dn B.dc) (.slice B.wa B.wn B.wc) (.slice B.xa B.xn B.xc) (.int .i64 D.ac) (.int .i64 D.cz) (.slice B.la B.ln B.lc) (.int .i64 D.dv) (.slice B.oa B.on B.oc) (.slice B.ga B.gn B.gc) ⟨_, c4⟩
    have r5 := set15_at5 _ _ (.int .i64 0) (.int .i64 2) (.int .i64 tg) (.int .i64 0) (.slice B.a B.n B.c) (.slice B.ta B.tn B.tc) (.slice B.da B.dn B.dc) (.slice B.wa B.wn B.wc) (.slice B.xa B.xn B.xc) (.int .i64 D.ac) (.int .i64 D.cz) (.slice B.la B.ln B.lc) (.int .i64 D.dv) (.slice B.oa B.on B.oc) (.slice B.ga B.gn B.gc) ⟨_, c5⟩
    have r6 := set15_at6 _ _ (.int .i64 0) (.int .i64 2) (.int .i64 tg) (.int .i64 0) (.slice B.a B.n B.c) (.slice B.ta B.tn B.tc) (.slice B.da B.dn B.dc) (.slice B.wa B.wn B.wc) (.slice B.xa B.xn B.xc) (.int .i64 D.ac) (.int .i64 D.cz) (.slice B.la B.ln B.lc) (.int .i64 D.dv) (.slice B.oa B.on B.oc) (.slice B.ga B.gn B.gc) ⟨_, c6⟩
    have r7 := set15_at7 _ _ (.int .i64 0) (.int .i64 2) (.int .i64 tg) (.int .i64 0) (.slice B.a B.n B.c) (.slice B.ta B.tn B.tc) (.slice B.da B.dn B.dc) (.slice B.wa B.wn B.wc) (.slice B.xa B.xn B.xc) (.int .i64 D.ac) (.int .i64 D.cz) (.slice B.la B.ln B.lc) (.int .i64 D.dv) (.slice B.oa B.on B.oc) (.slice B.ga B.gn B.gc) ⟨_, c7⟩
    have r8 := set15_at8 _ _ (.int .i64 0) (.int .i64 2) (.int .i64 tg) (.int .i64 0) (.slice B.a B.n B.c) (.slice B.ta B.tn B.tc) (.slice B.da B.dn B.dc) (.slice B.wa B.wn B.wc) (.slice B.xa B.xn B.xc) (.int .i64 D.ac) (.int .i64 D.cz) (.slice B.la B.ln B.lc) (.int .i64 D.dv) (.slice B.oa B.on B.oc) (.slice B.ga B.gn B.gc) ⟨_, c8⟩
    have r9 := set15_at9 _ _ (.int .i64 0) (.int .i64 2) (.int .i64 tg) (.int .i64 0) (.slice B.a B.n B.c) (.slice B.ta B.tn B.tc) (.slice B.da B.dn B.dc) (.slice B.wa B.wn B.wc) (.slice B.xa B.xn B.xc) (.int .i64 D.ac) (.int .i64 D.cz) (.slice B.la B.ln B.lc) (.int .i64 D.dv) (.slice B.oa B.on B.oc) (.slice B.ga B.gn B.gc) ⟨_, c9⟩
    have r10 := set15_at10 _ _ (.int .i64 0) (.int .i64 2) (.int .i64 tg) (.int .i64 0) (.slice B.a B.n B.c) (.slice B.ta B.tn B.tc) (.slice B.da B.dn B.dc) (.slice B.wa B.wn B.wc) (.slice B.xa B.xn B.xc) (.int .i64 D.ac) (.int .i64 D.cz) (.slice B.la B.ln B.lc) (.int .i64 D.dv) (.slice B.oa B.on B.oc) (.slice B.ga B.gn B.gc) ⟨_, c10⟩
    have r11 := set15_at11 _ _ (.int .i64 0) (.int .i64 2) (.int .i64 tg) (.int .i64 0) (.slice B.a B.n B.c) (.slice B.ta B.tn B.tc) (.slice B.da B.dn B.dc) (.slice B.wa B.wn B.wc) (.slice B.xa B.xn B.xc) (.int .i64 D.ac) (.int .i64 D.cz) (.slice B.la B.ln B.lc) (.int .i64 D.dv) (.slice B.oa B.on B.oc) (.slice B.ga B.gn B.gc) ⟨_, c11⟩
    have r12 := set15_at12 _ _ (.int .i64 0) (.int .i64 2) (.int .i64 tg) (.int .i64 0) (.slice B.a B.n B.c) (.slice B.ta B.tn B.tc) (.slice B.da B.dn B.dc) (.slice B.wa B.wn B.wc) (.slice B.xa B.xn B.xc) (.int .i64 D.ac) (.int .i64 D.cz) (.slice B.la B.ln B.lc) (.int .i64 D.dv) (.slice B.oa B.on B.oc) (.slice B.ga B.gn B.gc) ⟨_, c12⟩
    have r13 := set15_at13 _ _ (.int .i64 0) (.int .i64 2) (.int .i64 tg) (.int .i64 0) (.slice B.a B.n B.c) (.slice B.ta B.tn B.tc) (.slice B.da B.dn B.dc) (.slice B.wa B.wn B.wc) (.slice B.xa B.xn B.xc) (.int .i64 D.ac) (.int .i64 D.cz) (.slice B.la B.ln B.lc) (.int .i64 D.dv) (.slice B.oa B.on B.oc) (.slice B.ga B.gn B.gc) ⟨_, c13⟩
    have r14 := set15_at14 _ _ (.int .i64 0) (.int .i64 2) (.int .i64 tg) (.int .i64 0) (.slice B.a B.n B.c) (.slice B.ta B.tn B.tc) (.slice B.da B.dn B.dc) (.slice B.wa B.wn B.wc) (.slice B.xa B.xn B.xc) (.int .i64 D.ac) (.int .i64 D.cz) (.slice B.la B.ln B.lc) (.int .i64 D.dv) (.slice B.oa B.on B.oc) (.slice B.ga B.gn B.gc) ⟨_, c14⟩
    refine bodyPost_ret (v := .agg #[.int .i64 0, .int .i64 2, .int .i64 tg, .int .i64 0, .slice B.a B.n B.c, .slice B.ta B.tn B.tc, .slice B.da B.dn B.dc, .slice B.wa B.wn B.wc, .slice B.xa B.xn B.xc, .int .i64 D.ac, .int .i64 D.cz, .slice B.la B.ln B.lc, .int .i64 D.dv, .slice B.oa B.on B.oc, .slice B.ga B.gn B.gc]) (by simp [results, Tryz.results35, go_sem, r0, r1, r2, r3, r4, r5, r6, r7, r8, r9, r10, r11, r12, r13, r14]) rfl ⟨B, ?_, ?_, HB.out⟩
    · rw [HT.out.1, HT.out.2.1, HT.out.2.2.1, HT.out.2.2.2, HK.out, HT0.out, ← HKD.out, ← HTG.out, if_pos rfl]
    · rw [HT.out.2.2.2]; exact HO.out.mono (fun q hq => ⟨by have := hq.1; omega, by have := hq.2; simp only [size_set15]; omega⟩)
  · have P0 := M1.put 0 rfl 1 (by simp) (.int .i64 3) (by omega) (by simp) (by simp <;> omega)
    simp only [List.set] at P0
    have MM := P0
    clear M1 P0
    go_upto_region 8 with fail
    obtain ⟨W2, hW2⟩ : ∃ x, x = (w1.setCell ⟨w.heap.size + 1 + 1, 1, none⟩ (.int .i64 3)) := ⟨_, rfl⟩
    rw [← hW2] at MM ⊢
    have hZ2 : W2.heap.size = w1.heap.size := by rw [hW2]; simp
    clear hW2 d1 e1 d2 e2
    have q1 := (MM.get 0 rfl).cell 1 rfl
    have a4 := q1
    have a5 := q1
    have p1 := q1
    have p2 := q1
    go_upto_region 9 with fail
    clear a4 a5 p1 p2 q1
    have s0 := (MM.get 2 rfl).cell 0 rfl
    have s1 := (MM.get 2 rfl).cell 1 rfl
    have s2 := (MM.get 2 rfl).cell 2 rfl
    have s3 := (MM.get 2 rfl).cell 3 rfl
    have s4 := (MM.get 2 rfl).cell 4 rfl
    have s5 := (MM.get 2 rfl).cell 5 rfl
    have s6 := (MM.get 2 rfl).cell 6 rfl
    have s7 := (MM.get 2 rfl).cell 7 rfl
    have s8 := (MM.get 2 rfl).cell 8 rfl
    have s9 := (MM.get 2 rfl).cell 9 rfl
    have s10 := (MM.get 2 rfl).cell 10 rfl
    go_wp2_with fail
    refine (l7Copy_O A D _ hz (hr.below MM.bel (Nat.le_refl _))).mono ?_
    rintro e w2 ⟨B, rfl, oy, g2⟩
    have z2 := g2.size
    have M2 := MM.below g2
    clear g2 MM s0 s1 s2 s3 s4 s5 s6 s7 s8 s9 s10
    have c4 := (M2.get 0 rfl).cell 4 rfl
    have f4 := (M2.get 0 rfl).fz 4 (by simp)
    have c5 := (M2.get 0 rfl).cell 5 rfl
    have f5 := (M2.get 0 rfl).fz 5 (by simp)
    have c6 := (M2.get 0 rfl).cell 6 rfl
    have f6 := (M2.get 0 rfl).fz 6 (by simp)
    have c7 := (M2.get 0 rfl).cell 7 rfl
    have f7 := (M2.get 0 rfl).fz 7 (by simp)
    have c8 := (M2.get 0 rfl).cell 8 rfl
    have f8 := (M2.get 0 rfl).fz 8 (by simp)
    have c9 := (M2.get 0 rfl).cell 9 rfl
    have f9 := (M2.get 0 rfl).fz 9 (by simp)
    have c10 := (M2.get 0 rfl).cell 10 rfl
    have f10 := (M2.get 0 rfl).fz 10 (by simp)
    have c11 := (M2.get 0 rfl).cell 11 rfl
    have f11 := (M2.get 0 rfl).fz 11 (by simp)
    have c12 := (M2.get 0 rfl).cell 12 rfl
    have f12 := (M2.get 0 rfl).fz 12 (by simp)
    have c13 := (M2.get 0 rfl).cell 13 rfl
    have f13 := (M2.get 0 rfl).fz 13 (by simp)
    have c14 := (M2.get 0 rfl).cell 14 rfl
    have f14 := (M2.get 0 rfl).fz 14 (by simp)
    go_upto_region 10 with fail
    have hC := Cs.set11o4 (M2.get 0 rfl) (.slice B.a B.n B.c) (.slice B.ta B.tn B.tc) (.slice B.da B.dn B.dc) (.slice B.wa B.wn B.wc) (.slice B.xa B.xn B.xc) (.int .i64 D.ac) (.int .i64 D.cz) (.slice B.la B.ln B.lc) (.int .i64 D.dv) (.slice B.oa B.on B.oc) (.slice B.ga B.gn B.gc)
    have hR := loc_set11o4 Cs.loc (M2.get 1 rfl) (P := w.heap.size + 1 + 1) (fun h => by have := h.2; omega) (.slice B.a B.n B.c) (.slice B.ta B.tn B.tc) (.slice B.da B.dn B.dc) (.slice B.wa B.wn B.wc) (.slice B.xa B.xn B.xc) (.int .i64 D.ac) (.int .i64 D.cz) (.slice B.la B.ln B.lc) (.int .i64 D.dv) (.slice B.oa B.on B.oc) (.slice B.ga B.gn B.gc)
    have hO := loc_set11o4 OYR.loc oy (P := w.heap.size + 1 + 1) (fun h => by have := h.1; omega) (.slice B.a B.n B.c) (.slice B.ta B.tn B.tc) (.slice B.da B.dn B.dc) (.slice B.wa B.wn B.wc) (.slice B.xa B.xn B.xc) (.int .i64 D.ac) (.int .i64 D.cz) (.slice B.la B.ln B.lc) (.int .i64 D.dv) (.slice B.oa B.on B.oc) (.slice B.ga B.gn B.gc)
    have hB := below_set11o4 M2.bel (P := w.heap.size + 1 + 1) (by omega) (.slice B.a B.n B.c) (.slice B.ta B.tn B.tc) (.slice B.da B.dn B.dc) (.slice B.wa B.wn B.wc) (.slice B.xa B.xn B.xc) (.int .i64 D.ac) (.int .i64 D.cz) (.slice B.la B.ln B.lc) (.int .i64 D.dv) (.slice B.oa B.on B.oc) (.slice B.ga B.gn B.gc)
    have hN := size_set11o4 w2 (w.heap.size + 1 + 1) (.slice B.a B.n B.c) (.slice B.ta B.tn B.tc) (.slice B.da B.dn B.dc) (.slice B.wa B.wn B.wc) (.slice B.xa B.xn B.xc) (.int .i64 D.ac) (.int .i64 D.cz) (.slice B.la B.ln B.lc) (.int .i64 D.dv) (.slice B.oa B.on B.oc) (.slice B.ga B.gn B.gc)
    obtain ⟨X1, hX1⟩ : ∃ x, x = (((((((((((w2.setCell ⟨w.heap.size + 1 + 1, 4, none⟩ (.slice B.a B.n B.c)).setCell ⟨w.heap.size + 1 + 1, 5, none⟩ (.slice B.ta B.tn B.tc)).setCell ⟨w.heap.size + 1 + 1, 6, none⟩ (.slice B.da B.dn B.dc)).setCell ⟨w.heap.size + 1 + 1, 7, none⟩ (.slice B.wa B.wn B.wc)).setCell ⟨w.heap.size + 1 + 1, 8, none⟩ (.slice B.xa B.xn B.xc)).setCell ⟨w.heap.size + 1 + 1, 9, none⟩ (.int .i64 D.ac)).setCell ⟨w.heap.size + 1 + 1, 10, none⟩ (.int .i64 D.cz)).setCell ⟨w.heap.size + 1 + 1, 11, none⟩ (.slice B.la B.ln B.lc)).setCell ⟨w.heap.size + 1 + 1, 12, none⟩ (.int .i64 D.dv)).setCell ⟨w.heap.size + 1 + 1, 13, none⟩ (.slice B.oa B.on B.oc)).setCell ⟨w.heap.size + 1 + 1, 14, none⟩ (.slice B.ga B.gn B.gc)) := ⟨_, rfl⟩
    rw [← hX1] at hC hR hO hB hN ⊢
    clear hX1 M2 oy c4 f4 c5 f5 c6 f6 c7 f7 c8 f8 c9 f9 c10 f10 c11 f11 c12 f12 c13 f13 c14 f14
    have s0 := hC.cell 0 rfl
    have c0 := hR.cell 0 rfl
    have f0 := hR.fz 0 (by simp)
    have s1 := hC.cell 1 rfl
    have c1 := hR.cell 1 rfl
    have f1 := hR.fz 1 (by simp)
    have s2 := hC.cell 2 rfl
    have c2 := hR.cell 2 rfl
    have f2 := hR.fz 2 (by simp)
    have s3 := hC.cell 3 rfl
    have c3 := hR.cell 3 rfl
    have f3 := hR.fz 3 (by simp)
    have s4 := hC.cell 4 rfl
    have c4 := hR.cell 4 rfl
    have f4 := hR.fz 4 (by simp)
    have s5 := hC.cell 5 rfl
    have c5 := hR.cell 5 rfl
    have f5 := hR.fz 5 (by simp)
    have s6 := hC.cell 6 rfl
    have c6 := hR.cell 6 rfl
    have f6 := hR.fz 6 (by simp)
    have s7 := hC.cell 7 rfl
    have c7 := hR.cell 7 rfl
    have f7 := hR.fz 7 (by simp)
    have s8 := hC.cell 8 rfl
    have c8 := hR.cell 8 rfl
    have f8 := hR.fz 8 (by simp)
    have s9 := hC.cell 9 rfl
    have c9 := hR.cell 9 rfl
    have f9 := hR.fz 9 (by simp)
    have s10 := hC.cell 10 rfl
    have c10 := hR.cell 10 rfl
    have f10 := hR.fz 10 (by simp)
    have s11 := hC.cell 11 rfl
    have c11 := hR.cell 11 rfl
    have f11 := hR.fz 11 (by simp)
    have s12 := hC.cell 12 rfl
    have c12 := hR.cell 12 rfl
    have f12 := hR.fz 12 (by simp)
    have s13 := hC.cell 13 rfl
    have c13 := hR.cell 13 rfl
    have f13 := hR.fz 13 (by simp)
    have s14 := hC.cell 14 rfl
    have c14 := hR.cell 14 rfl
    have f14 := hR.fz 14 (by simp)
    have HB := hide (below_set15 hB (P := w.heap.size + 1) (by omega) (.int .i64 0) (.int .i64 3) (.int .i64 0) (.int .i64 0) (.slice B.a B.n B.c) (.slice B.ta B.tn B.tc) (.slice B.da B.dn B.dc) (.slice B.wa B.wn B.wc) (.slice B.xa B.xn B.xc) (.int .i64 D.ac) (.int .i64 D.cz) (.slice B.la B.ln B.lc) (.int .i64 D.dv) (.slice B.oa B.on B.oc) (.slice B.ga B.gn B.gc))
    have HO := hide (loc_set15 OYR.loc hO (P := w.heap.size + 1) (fun h => by have := h.1; omega) (.int .i64 0) (.int .i64 3) (.int .i64 0) (.int .i64 0) (.slice B.a B.n B.c) (.slice B.ta B.tn B.tc) (.slice B.da B.dn B.dc) (.slice B.wa B.wn B.wc) (.slice B.xa B.xn B.xc) (.int .i64 D.ac) (.int .i64 D.cz) (.slice B.la B.ln B.lc) (.int .i64 D.dv) (.slice B.oa B.on B.oc) (.slice B.ga B.gn B.gc))
    clear hC hR hO hB
    go_wp2
    have r0 := set15_at0 _ _ (.int .i64 0) (.int .i64 3) (.int .i64 0) (.int .i64 0) (.slice B.a B.n B.c) (.slice B.ta B.tn B.tc) (.slice B.da B.dn B.dc) (.slice B.wa B.wn B.wc) (.slice B.xa B.xn B.xc) (.int .i64 D.ac) (.int .i64 D.cz) (.slice B.la B.ln B.lc) (.int .i64 D.dv) (.slice B.oa B.on B.oc) (.slice B.ga B.gn B.gc) ⟨_, c0⟩
    have r1 := set15_at1 _ _ (.int .i64 0) (.int .i64 3) (.int .i64 0) (.int .i64 0) (.slice B.a B.n B.c) (.slice B.ta B.tn B.tc) (.slice B.da B.dn B.dc) (.slice B.wa B.wn B.wc) (.slice B.xa B.xn B.xc) (.int .i64 D.ac) (.int .i64 D.cz) (.slice B.la B.ln B.lc) (.int .i64 D.dv) (.slice B.oa B.on B.oc) (.slice B.ga B.gn B.gc) ⟨_, c1⟩
    have r2 := set15_at2 _ _ (.int .i64 0) (.int .i64 3) (.int .i64 0) (.int .i64 0) (.slice B.a B.n B.c) (.slice B.ta B.tn B.tc) (.slice B.da B.dn B.dc) (.slice B.wa B.wn B.wc) (.slice B.xa B.xn B.xc) (.int .i64 D.ac) (.int .i64 D.cz) (.slice B.la B.ln B.lc) (.int .i64 D.dv) (.slice B.oa B.on B.oc) (.slice B.ga B.gn B.gc) ⟨_, c2⟩
    have r3 := set15_at3 _ _ (.int .i64 0) (.int .i64 3) (.int .i64 0) (.int .i64 0) (.slice B.a B.n B.c) (.slice B.ta B.tn B.tc) (.slice B.da B.dn B.dc) (.slice B.wa B.wn B.wc) (.slice B.xa B.xn B.xc) (.int .i64 D.ac) (.int .i64 D.cz) (.slice B.la B.ln B.lc) (.int .i64 D.dv) (.slice B.oa B.on B.oc) (.slice B.ga B.gn B.gc) ⟨_, c3⟩
    have r4 := set15_at4 _ _ (.int .i64 0) (.int .i64 3) (.int .i64 0) (.int .i64 0) (.slice B.a B.n B.c) (.slice B.ta B.tn B.tc) (.slice B.da B.dn B.dc) (.slice B.wa B.wn B.wc) (.slice B.xa B.xn B.xc) (.int .i64 D.ac) (.int .i64 D.cz) (.slice B.la B.ln B.lc) (.int .i64 D.dv) (.slice B.oa B.on B.oc) (.slice B.ga B.gn B.gc) ⟨_, c4⟩
    have r5 := set15_at5 _ _ (.int .i64 0) (.int .i64 3) (.int .i64 0) (.int .i64 0) (.slice B.a B.n B.c) (.slice B.ta B.tn B.tc) (.slice B.da B.dn B.dc) (.slice B.wa B.wn B.wc) (.slice B.xa B.xn B.xc) (.int .i64 D.ac) (.int .i64 D.cz) (.slice B.la B.ln B.lc) (.int .i64 D.dv) (.slice B.oa B.on B.oc) (.slice B.ga B.gn B.gc) ⟨_, c5⟩
    have r6 := set15_at6 _ _ (.int .i64 0) (.int .i64 3) (.int .i64 0) (.int .i64 0) (.slice B.a B.n B.c) (.slice B.ta B.tn B.tc) (.slice B.da B.dn B.dc) (.slice B.wa B.wn B.wc) (.slice B.xa B.xn B.xc) (.int .i64 D.ac) (.int .i64 D.cz) (.slice B.la B.ln B.lc) (.int .i64 D.dv) (.slice B.oa B.on B.oc) (.slice B.ga B.gn B.gc) ⟨_, c6⟩
    have r7 := set15_at7 _ _ (.int .i64 0) (.int .i64 3) (.int .i64 0) (.int .i64 0) (.slice B.a B.n B.c) (.slice B.ta B.tn B.tc) (.slice B.da B.dn B.dc) (.slice B.wa B.wn B.wc) (.slice B.xa B.xn B.xc) (.int .i64 D.ac) (.int .i64 D.cz) (.slice B.la B.ln B.lc) (.int .i64 D.dv) (.slice B.oa B.on B.oc) (.slice B.ga B.gn B.gc) ⟨_, c7⟩
    have r8 := set15_at8 _ _ (.int .i64 0) (.int .i64 3) (.int .i64 0) (.int .i64 0) (.slice B.a B.n B.c) (.slice B.ta B.tn B.tc) (.slice B.da B.dn B.dc) (.slice B.wa B.wn B.wc) (.slice B.xa B.xn B.xc) (.int .i64 D.ac) (.int .i64 D.cz) (.slice B.la B.ln B.lc) (.int .i64 D.dv) (.slice B.oa B.on B.oc) (.slice B.ga B.gn B.gc) ⟨_, c8⟩
    have r9 := set15_at9 _ _ (.int .i64 0) (.int .i64 3) (.int .i64 0) (.int .i64 0) (.slice B.a B.n B.c) (.slice B.ta B.tn B.tc) (.slice B.da B.dn B.dc) (.slice B.wa B.wn B.wc) (.slice B.xa B.xn B.xc) (.int .i64 D.ac) (.int .i64 D.cz) (.slice B.la B.ln B.lc) (.int .i64 D.dv) (.slice B.oa B.on B.oc) (.slice B.ga B.gn B.gc) ⟨_, c9⟩
    have r10 := set15_at10 _ _ (.int .i64 0) (.int .i64 3) (.int .i64 0) (.int .i64 0) (.slice B.a B.n B.c) (.slice B.ta B.tn B.tc) (.slice B.da B.dn B.dc) (.slice B.wa B.wn B.wc) (.slice B.xa B.xn B.xc) (.int .i64 D.ac) (.int .i64 D.cz) (.slice B.la B.ln B.lc) (.int .i64 D.dv) (.slice B.oa B.on B.oc) (.slice B.ga B.gn B.gc) ⟨_, c10⟩
    have r11 := set15_at11 _ _ (.int .i64 0) (.int .i64 3) (.int .i64 0) (.int .i64 0) (.slice B.a B.n B.c) (.slice B.ta B.tn B.tc) (.slice B.da B.dn B.dc) (.slice B.wa B.wn B.wc) (.slice B.xa B.xn B.xc) (.int .i64 D.ac) (.int .i64 D.cz) (.slice B.la B.ln B.lc) (.int .i64 D.dv) (.slice B.oa B.on B.oc) (.slice B.ga B.gn B.gc) ⟨_, c11⟩
    have r12 := set15_at12 _ _ (.int .i64 0) (.int .i64 3) (.int .i64 0) (.int .i64 0) (.slice B.a B.n B.c) (.slice B.ta B.tn B.tc) (.slice B.da B.dn B.dc) (.slice B.wa B.wn B.wc) (.slice B.xa B.xn B.xc) (.int .i64 D.ac) (.int .i64 D.cz) (.slice B.la B.ln B.lc) (.int .i64 D.dv) (.slice B.oa B.on B.oc) (.slice B.ga B.gn B.gc) ⟨_, c12⟩
    have r13 := set15_at13 _ _ (.int .i64 0) (.int .i64 3) (.int .i64 0) (.int .i64 0) (.slice B.a B.n B.c) (.slice B.ta B.tn B.tc) (.slice B.da B.dn B.dc) (.slice B.wa B.wn B.wc) (.slice B.xa B.xn B.xc) (.int .i64 D.ac) (.int .i64 D.cz) (.slice B.la B.ln B.lc) (.int .i64 D.dv) (.slice B.oa B.on B.oc) (.slice B.ga B.gn B.gc) ⟨_, c13⟩
    have r14 := set15_at14 _ _ (.int .i64 0) (.int .i64 3) (.int .i64 0) (.int .i64 0) (.slice B.a B.n B.c) (.slice B.ta B.tn B.tc) (.slice B.da B.dn B.dc) (.slice B.wa B.wn B.wc) (.slice B.xa B.xn B.xc) (.int .i64 D.ac) (.int .i64 D.cz) (.slice B.la B.ln B.lc) (.int .i64 D.dv) (.slice B.oa B.on B.oc) (.slice B.ga B.gn B.gc) ⟨_, c14⟩
    refine bodyPost_ret (v := .agg #[.int .i64 0, .int .i64 3, .int .i64 0, .int .i64 0, .slice B.a B.n B.c, .slice B.ta B.tn B.tc, .slice B.da B.dn B.dc, .slice B.wa B.wn B.wc, .slice B.xa B.xn B.xc, .int .i64 D.ac, .int .i64 D.cz, .slice B.la B.ln B.lc, .int .i64 D.dv, .slice B.oa B.on B.oc, .slice B.ga B.gn B.gc]) (by simp [results, Tryz.results35, go_sem, r0, r1, r2, r3, r4, r5, r6, r7, r8, r9, r10, r11, r12, r13, r14]) rfl ⟨B, ?_, ?_, HB.out⟩
    · rw [HT.out.1, HT.out.2.1, HT.out.2.2.1, HT.out.2.2.2, HK.out, HT0.out, ← HKD.out, if_neg (by omega)]
    · rw [HT.out.2.2.2]; exact HO.out.mono (fun q hq => ⟨by have := hq.1; omega, by have := hq.2; simp only [size_set15]; omega⟩)

end Go.Proofs.YtcojgmecocjnkaaGreat
