import Derived.Test.YtlilbbkidaahlaaDrawCh4
import Derived.WalkKit
import Derived.ProofKit
import Derived.OpenShut
import Derived.ShutString
import Derived.ChangeOld
import Derived.Below
import Derived.WalkSpells
import Derived.Deep.QuietTactic
import Derived.BigQuiet
import Derived.Deep.RegionWith
import Derived.Deep.WholeRow
import Derived.Deep.DeepCutAuto
import Derived.Deep.RegionHeld2
import Derived.Deep.AppendLies
import Derived.Deep.RegionLaw
namespace Go.Proofs.Ytlilbbkidaahlaa
open Go.ChangeShapes Go.WideShapes Go.ChangeAt Go.RowKit

theorem at4 {wr : World} {t : TypeId} {x y z u : Int} : ∀ i, i < 4 → (wr.alloc (.cells #[.int .i64 x, .int .i64 y, .int .i64 z, .int .i64 u] t)).cell? ⟨wr.heap.size, i, none⟩ = some (.int .i64 (gt [x, y, z, u] i)) := by
  intro i hi
  rw [World.cell?_alloc_new]
  rcases (by omega : i = 0 ∨ i = 1 ∨ i = 2 ∨ i = 3) with rfl | rfl | rfl | rfl <;> rfl

theorem at2 {wr : World} {t : TypeId} {x y : Int} : ∀ i, i < 2 → (wr.alloc (.cells #[.int .i64 x, .int .i64 y] t)).cell? ⟨wr.heap.size, i, none⟩ = some (.int .i64 (gt [x, y] i)) := by
  intro i hi
  rw [World.cell?_alloc_new]
  rcases (by omega : i = 0 ∨ i = 1) with rfl | rfl <;> rfl

theorem cell_ne {X : World} {b o b' o' : Nat} {v : Value} (h : b ≠ b') : (X.setCell ⟨b', o', none⟩ v).cell? ⟨b, o, none⟩ = X.cell? ⟨b, o, none⟩ := World.cell?_setCell_other _ _ _ _ (fun e => h (by injection e with e1 _; exact e1.symm))

theorem setK2 {X : World} {C D R : Nat} {v0 v1 v2 v3 v4 : Value} (hC : C ≠ R) (hD : D ≠ R) (h : X.cell? ⟨C, 0, none⟩ = some v0 ∧ X.cell? ⟨C, 1, none⟩ = some v1 ∧ X.cell? ⟨D, 0, none⟩ = some v2 ∧ X.cell? ⟨D, 1, none⟩ = some v3 ∧ X.cell? ⟨D, 2, none⟩ = some v4) (x y : Value) :
    ((X.setCell ⟨R, 0, none⟩ x).setCell ⟨R, 1, none⟩ y).cell? ⟨C, 0, none⟩ = some v0 ∧ ((X.setCell ⟨R, 0, none⟩ x).setCell ⟨R, 1, none⟩ y).cell? ⟨C, 1, none⟩ = some v1 ∧ ((X.setCell ⟨R, 0, none⟩ x).setCell ⟨R, 1, none⟩ y).cell? ⟨D, 0, none⟩ = some v2 ∧ ((X.setCell ⟨R, 0, none⟩ x).setCell ⟨R, 1, none⟩ y).cell? ⟨D, 1, none⟩ = some v3 ∧ ((X.setCell ⟨R, 0, none⟩ x).setCell ⟨R, 1, none⟩ y).cell? ⟨D, 2, none⟩ = some v4 := by
  simp only [cell_ne hC, cell_ne hD]
  exact h

theorem setK3 {X : World} {C D R : Nat} {v0 v1 v2 v3 v4 : Value} (hC : C ≠ R) (hD : D ≠ R) (h : X.cell? ⟨C, 0, none⟩ = some v0 ∧ X.cell? ⟨C, 1, none⟩ = some v1 ∧ X.cell? ⟨D, 0, none⟩ = some v2 ∧ X.cell? ⟨D, 1, none⟩ = some v3 ∧ X.cell? ⟨D, 2, none⟩ = some v4) (x y z : Value) :
    (((X.setCell ⟨R, 0, none⟩ x).setCell ⟨R, 1, none⟩ y).setCell ⟨R, 2, none⟩ z).cell? ⟨C, 0, none⟩ = some v0 ∧ (((X.setCell ⟨R, 0, none⟩ x).setCell ⟨R, 1, none⟩ y).setCell ⟨R, 2, none⟩ z).cell? ⟨C, 1, none⟩ = some v1 ∧ (((X.setCell ⟨R, 0, none⟩ x).setCell ⟨R, 1, none⟩ y).setCell ⟨R, 2, none⟩ z).cell? ⟨D, 0, none⟩ = some v2 ∧ (((X.setCell ⟨R, 0, none⟩ x).setCell ⟨R, 1, none⟩ y).setCell ⟨R, 2, none⟩ z).cell? ⟨D, 1, none⟩ = some v3 ∧ (((X.setCell ⟨R, 0, none⟩ x).setCell ⟨R, 1, none⟩ y).setCell ⟨R, 2, none⟩ z).cell? ⟨D, 2, none⟩ = some v4 := by
  simp only [cell_ne hC, cell_ne hD]
  exact h

/-- what DrawFillCache gives. -/
def DrewF (w : World) (e : Ending) (w' : World) : Prop :=
  ∃ (s : Int) (ra : Option Addr) (n rc : Nat) (ls : List (Int × Int × Int)) (d g q r : Int), e = .returned (.tuple #[.agg #[.int .i64 s, .slice ra n rc], .agg #[.int .i64 d, .int .i64 g, .int .i64 q], .int .i64 r]) ∧ OL (InR w.heap.size w'.heap.size) ra n ls w' ∧ n ≤ 7 ∧ n ≤ rc ∧ Below w.heap.size w w'

theorem DrewF.of5 {w x : World} {cs : List (Nat × Nat × Value)} {B T : Nat} {s d g q r : Int} {ra : Option Addr} {n rc : Nat} {ls : List (Int × Int × Int)} (M : Mm w x cs [(B, T, OL (InR B T) ra n ls)]) (hn : n ≤ 7) (hrc : n ≤ rc) (hB : w.heap.size + 1 < B) (hT : T ≤ x.heap.size) (v0 v1 v2 v3 v4 : Value) :
    DrewF w (.returned (.tuple #[.agg #[.int .i64 s, .slice ra n rc], .agg #[.int .i64 d, .int .i64 g, .int .i64 q], .int .i64 r])) (((((x.setCell ⟨w.heap.size, 0, none⟩ v0).setCell ⟨w.heap.size, 1, none⟩ v1).setCell ⟨w.heap.size + 1, 0, none⟩ v2).setCell ⟨w.heap.size + 1, 1, none⟩ v3).setCell ⟨w.heap.size + 1, 2, none⟩ v4) := by
  have k : ∀ (X : World) (c o : Nat) (v : Value), c < B → OL (InR B T) ra n ls X → OL (InR B T) ra n ls (X.setCell ⟨c, o, none⟩ v) := fun X c o v hc h => OL.loc.setC h (q := ⟨c, o, none⟩) (fun e => by have := e.1; simp only at this; omega) v
  refine ⟨s, ra, n, rc, ls, d, g, q, r, rfl, (k _ _ _ _ (by omega) (k _ _ _ _ (by omega) (k _ _ _ _ (by omega) (k _ _ _ _ (by omega) (k _ _ _ _ (by omega) (M.get 0 rfl)))))).mono (fun j hj => ⟨by have := hj.1; omega, by have := hj.2; simp; omega⟩), hn, hrc, ?_⟩
  exact ((((M.bel.setCell (by simp) _).setCell (by simp) _).setCell (by simp) _).setCell (by simp) _).setCell (by simp) _

theorem DrewF.of5' {w x : World} {cs : List (Nat × Nat × Value)} {B T : Nat} {s d g q r : Int} {ra : Option Addr} {n rc : Nat} {ls : List (Int × Int × Int)} (M : Mm w x cs [(B, T, OL (InR B T) ra n ls)]) (hn : n ≤ 7) (hrc : n ≤ rc) (hB : w.heap.size + 1 < B) (hT : T ≤ x.heap.size) (v0 v1 v2 v3 v4 : Value) :
    DrewF w (.returned (.tuple #[.agg #[.int .i64 s, .slice ra n rc], .agg #[.int .i64 d, .int .i64 g, .int .i64 q], .int .i64 r])) (((((x.setCell ⟨w.heap.size + 1, 0, none⟩ v0).setCell ⟨w.heap.size + 1, 1, none⟩ v1).setCell ⟨w.heap.size + 1, 2, none⟩ v2).setCell ⟨w.heap.size, 0, none⟩ v3).setCell ⟨w.heap.size, 1, none⟩ v4) := by
  have k : ∀ (X : World) (c o : Nat) (v : Value), c < B → OL (InR B T) ra n ls X → OL (InR B T) ra n ls (X.setCell ⟨c, o, none⟩ v) := fun X c o v hc h => OL.loc.setC h (q := ⟨c, o, none⟩) (fun e => by have := e.1; simp only at this; omega) v
  refine ⟨s, ra, n, rc, ls, d, g, q, r, rfl, (k _ _ _ _ (by omega) (k _ _ _ _ (by omega) (k _ _ _ _ (by omega) (k _ _ _ _ (by omega) (k _ _ _ _ (by omega) (M.get 0 rfl)))))).mono (fun j hj => ⟨by have := hj.1; omega, by have := hj.2; simp; omega⟩), hn, hrc, ?_⟩
  exact ((((M.bel.setCell (by simp) _).setCell (by simp) _).setCell (by simp) _).setCell (by simp) _).setCell (by simp) _

set_option maxRecDepth 100000 in
set_option maxHeartbeats 1000000 in
theorem drawFillCache_calls (hB : L4BentOK) (a : Option Addr) (len cap : Nat) (w : World) (hc : Cd w a len) :
    Calls Try.prog 5 #[.slice a len cap] w (DrewF w) := by
  have M0 := ((Mm.start w).alloc2 (.int .i64 0) (.slice none 0 0) 26).alloc3 (.int .i64 0) (.int .i64 0) (.int .i64 0) 28
  simp only [World.size_alloc] at M0
  have S0 := (hc.below M0.bel).src (cap := cap) 62
  have M1 := M0.below ((Below.refl _ _).alloc (Nat.le_refl _) (.cells #[.slice a len cap, .int .i64 0] 62))
  simp only [World.size_alloc] at S0
  clear M0
  go_enter Try.func5, Try.ntmps5
  go_wp2_with (go_at_call 13; refine (l1Source_calls a len cap _).mono ?_; rintro e w0 ⟨rfl, rfl⟩)
  refine (hB (w.heap.size + 1 + 1) a len cap 0 _ (by omega) S0).mono ?_
  rintro e w1 ⟨s, ra, n, rc, ls, t1, rfl, o1, hn, hrc, s1, ht1, u1⟩
  have z1 := u1.size
  simp only [World.size_alloc] at z1 o1
  have M2 := ((M1.out (OutS.of_outside u1) (by omega) (by simp <;> omega) (by simp)).fact OL.loc o1).alloc2 (.int .i64 s) (.slice ra n rc) 26
  have s1' := s1.below ((Below.refl _ _).alloc (Nat.le_refl _) (.cells #[.int .i64 s, .slice ra n rc] 26))
  clear M1 S0 u1 o1 s1
  go_wp2_with fail
  refine (l4DrawLine_calls (w.heap.size + 1 + 1) a len cap t1 _ (by omega) s1').mono ?_
  rintro e w2 ⟨d, g, q, rfl, s2, u2⟩
  have z2 := u2.size
  simp only [World.size_alloc] at z2
  have M3 := (M2.out (OutS.of_outside u2) (by omega) (by simp <;> omega) (by simp <;> omega)).alloc3 (.int .i64 d) (.int .i64 g) (.int .i64 q) 28
  have s2' := s2.below ((Below.refl _ _).alloc (Nat.le_refl _) (.cells #[.int .i64 d, .int .i64 g, .int .i64 q] 28))
  clear M2 u2 s1' s2
  go_wp2_with fail
  refine (l1Chance_calls (w.heap.size + 1 + 1) a len cap (t1 + 1 + 1 + 1) 8 _ (by omega) (by omega) (by omega) s2').mono ?_
  rintro e w3 ⟨ch, rfl, s3, u3⟩
  have z3 := u3.size
  simp only [World.size_alloc] at z3
  have M4 := M3.out (OutS.of_outside u3) (by omega) (by simp <;> omega) (by simp <;> omega)
  clear M3 u3 s2'
  cases ch with
  | false =>
    have SX := hide (s3.below (Below.refl _ _).drew)
    have MX := hide M4.drew
    have HS0 : Hid (w3.drew.cell? ⟨w1.heap.size, 0, none⟩ = some (.int .i64 s) ∧ w3.drew.cell? ⟨w1.heap.size, 1, none⟩ = some (.slice ra n rc) ∧ w3.drew.cell? ⟨w2.heap.size, 0, none⟩ = some (.int .i64 d) ∧ w3.drew.cell? ⟨w2.heap.size, 1, none⟩ = some (.int .i64 g) ∧ w3.drew.cell? ⟨w2.heap.size, 2, none⟩ = some (.int .i64 q)) := ⟨M4.cell 3 rfl, M4.cell 4 rfl, M4.cell 0 rfl, M4.cell 1 rfl, M4.cell 2 rfl⟩
    have hzX := M4.bel.size
    clear M4 s3
    go_wp2_with fail
    go_region_held2 (fun w' => w'.cell? ⟨w1.heap.size, 0, none⟩ = some (.int .i64 s) ∧ w'.cell? ⟨w1.heap.size, 1, none⟩ = some (.slice ra n rc) ∧ w'.cell? ⟨w2.heap.size, 0, none⟩ = some (.int .i64 d) ∧ w'.cell? ⟨w2.heap.size, 1, none⟩ = some (.int .i64 g) ∧ w'.cell? ⟨w2.heap.size, 2, none⟩ = some (.int .i64 q))
      (first | with_reducible exact HS0.out | with_reducible assumption)
      (first
        | (go_at_call 17; refine (l1PickM_calls (w.heap.size + 1 + 1) a len cap (t1 + 1 + 1 + 1 + 1 + 1 + 1) x2.heap.size 4 4 [r1, r2, -1, 1000] _ (by omega) (by omega) (by omega) Y2.out ?_ ?_ rfl at4).mono ?_; (show (_ : Nat) < _; omega); (rw [World.size_alloc]; exact Nat.lt_succ_self _); rintro e x3 ⟨j, _, rfl, y3, v3⟩; have N3 := N2a.out.out (OutS.of_outside v3) (by omega) (by simp <;> omega) (by simp <;> omega); have hz3 := v3.size; simp only [World.size_alloc] at hz3; have hS3 : x3.cell? ⟨w1.heap.size, 0, none⟩ = some (.int .i64 s) ∧ x3.cell? ⟨w1.heap.size, 1, none⟩ = some (.slice ra n rc) ∧ x3.cell? ⟨w2.heap.size, 0, none⟩ = some (.int .i64 d) ∧ x3.cell? ⟨w2.heap.size, 1, none⟩ = some (.int .i64 g) ∧ x3.cell? ⟨w2.heap.size, 2, none⟩ = some (.int .i64 q) := ⟨N3.cell 3 rfl, N3.cell 4 rfl, N3.cell 0 rfl, N3.cell 1 rfl, N3.cell 2 rfl⟩; have hS3a : ((x3.setCell ⟨w.heap.size, 0, none⟩ (.int .i64 s)).setCell ⟨w.heap.size, 1, none⟩ (.slice ra n rc)).cell? ⟨w1.heap.size, 0, none⟩ = some (.int .i64 s) ∧ ((x3.setCell ⟨w.heap.size, 0, none⟩ (.int .i64 s)).setCell ⟨w.heap.size, 1, none⟩ (.slice ra n rc)).cell? ⟨w1.heap.size, 1, none⟩ = some (.slice ra n rc) ∧ ((x3.setCell ⟨w.heap.size, 0, none⟩ (.int .i64 s)).setCell ⟨w.heap.size, 1, none⟩ (.slice ra n rc)).cell? ⟨w2.heap.size, 0, none⟩ = some (.int .i64 d) ∧ ((x3.setCell ⟨w.heap.size, 0, none⟩ (.int .i64 s)).setCell ⟨w.heap.size, 1, none⟩ (.slice ra n rc)).cell? ⟨w2.heap.size, 1, none⟩ = some (.int .i64 g) ∧ ((x3.setCell ⟨w.heap.size, 0, none⟩ (.int .i64 s)).setCell ⟨w.heap.size, 1, none⟩ (.slice ra n rc)).cell? ⟨w2.heap.size, 2, none⟩ = some (.int .i64 q) := setK2 (by omega) (by omega) hS3 _ _; have hS3b : (((x3.setCell ⟨w.heap.size + 1, 0, none⟩ (.int .i64 d)).setCell ⟨w.heap.size + 1, 1, none⟩ (.int .i64 g)).setCell ⟨w.heap.size + 1, 2, none⟩ (.int .i64 q)).cell? ⟨w1.heap.size, 0, none⟩ = some (.int .i64 s) ∧ (((x3.setCell ⟨w.heap.size + 1, 0, none⟩ (.int .i64 d)).setCell ⟨w.heap.size + 1, 1, none⟩ (.int .i64 g)).setCell ⟨w.heap.size + 1, 2, none⟩ (.int .i64 q)).cell? ⟨w1.heap.size, 1, none⟩ = some (.slice ra n rc) ∧ (((x3.setCell ⟨w.heap.size + 1, 0, none⟩ (.int .i64 d)).setCell ⟨w.heap.size + 1, 1, none⟩ (.int .i64 g)).setCell ⟨w.heap.size + 1, 2, none⟩ (.int .i64 q)).cell? ⟨w2.heap.size, 0, none⟩ = some (.int .i64 d) ∧ (((x3.setCell ⟨w.heap.size + 1, 0, none⟩ (.int .i64 d)).setCell ⟨w.heap.size + 1, 1, none⟩ (.int .i64 g)).setCell ⟨w.heap.size + 1, 2, none⟩ (.int .i64 q)).cell? ⟨w2.heap.size, 1, none⟩ = some (.int .i64 g) ∧ (((x3.setCell ⟨w.heap.size + 1, 0, none⟩ (.int .i64 d)).setCell ⟨w.heap.size + 1, 1, none⟩ (.int .i64 g)).setCell ⟨w.heap.size + 1, 2, none⟩ (.int .i64 q)).cell? ⟨w2.heap.size, 2, none⟩ = some (.int .i64 q) := setK3 (by omega) (by omega) hS3 _ _ _; have hS3c : (((((x3.setCell ⟨w.heap.size, 0, none⟩ (.int .i64 s)).setCell ⟨w.heap.size, 1, none⟩ (.slice ra n rc)).setCell ⟨w.heap.size + 1, 0, none⟩ (.int .i64 d)).setCell ⟨w.heap.size + 1, 1, none⟩ (.int .i64 g)).setCell ⟨w.heap.size + 1, 2, none⟩ (.int .i64 q)).cell? ⟨w1.heap.size, 0, none⟩ = some (.int .i64 s) ∧ (((((x3.setCell ⟨w.heap.size, 0, none⟩ (.int .i64 s)).setCell ⟨w.heap.size, 1, none⟩ (.slice ra n rc)).setCell ⟨w.heap.size + 1, 0, none⟩ (.int .i64 d)).setCell ⟨w.heap.size + 1, 1, none⟩ (.int .i64 g)).setCell ⟨w.heap.size + 1, 2, none⟩ (.int .i64 q)).cell? ⟨w1.heap.size, 1, none⟩ = some (.slice ra n rc) ∧ (((((x3.setCell ⟨w.heap.size, 0, none⟩ (.int .i64 s)).setCell ⟨w.heap.size, 1, none⟩ (.slice ra n rc)).setCell ⟨w.heap.size + 1, 0, none⟩ (.int .i64 d)).setCell ⟨w.heap.size + 1, 1, none⟩ (.int .i64 g)).setCell ⟨w.heap.size + 1, 2, none⟩ (.int .i64 q)).cell? ⟨w2.heap.size, 0, none⟩ = some (.int .i64 d) ∧ (((((x3.setCell ⟨w.heap.size, 0, none⟩ (.int .i64 s)).setCell ⟨w.heap.size, 1, none⟩ (.slice ra n rc)).setCell ⟨w.heap.size + 1, 0, none⟩ (.int .i64 d)).setCell ⟨w.heap.size + 1, 1, none⟩ (.int .i64 g)).setCell ⟨w.heap.size + 1, 2, none⟩ (.int .i64 q)).cell? ⟨w2.heap.size, 1, none⟩ = some (.int .i64 g) ∧ (((((x3.setCell ⟨w.heap.size, 0, none⟩ (.int .i64 s)).setCell ⟨w.heap.size, 1, none⟩ (.slice ra n rc)).setCell ⟨w.heap.size + 1, 0, none⟩ (.int .i64 d)).setCell ⟨w.heap.size + 1, 1, none⟩ (.int .i64 g)).setCell ⟨w.heap.size + 1, 2, none⟩ (.int .i64 q)).cell? ⟨w2.heap.size, 2, none⟩ = some (.int .i64 q) := setK3 (by omega) (by omega) hS3a _ _ _; have hS3d : (((((x3.setCell ⟨w.heap.size + 1, 0, none⟩ (.int .i64 d)).setCell ⟨w.heap.size + 1, 1, none⟩ (.int .i64 g)).setCell ⟨w.heap.size + 1, 2, none⟩ (.int .i64 q)).setCell ⟨w.heap.size, 0, none⟩ (.int .i64 s)).setCell ⟨w.heap.size, 1, none⟩ (.slice ra n rc)).cell? ⟨w1.heap.size, 0, none⟩ = some (.int .i64 s) ∧ (((((x3.setCell ⟨w.heap.size + 1, 0, none⟩ (.int .i64 d)).setCell ⟨w.heap.size + 1, 1, none⟩ (.int .i64 g)).setCell ⟨w.heap.size + 1, 2, none⟩ (.int .i64 q)).setCell ⟨w.heap.size, 0, none⟩ (.int .i64 s)).setCell ⟨w.heap.size, 1, none⟩ (.slice ra n rc)).cell? ⟨w1.heap.size, 1, none⟩ = some (.slice ra n rc) ∧ (((((x3.setCell ⟨w.heap.size + 1, 0, none⟩ (.int .i64 d)).setCell ⟨w.heap.size + 1, 1, none⟩ (.int .i64 g)).setCell ⟨w.heap.size + 1, 2, none⟩ (.int .i64 q)).setCell ⟨w.heap.size, 0, none⟩ (.int .i64 s)).setCell ⟨w.heap.size, 1, none⟩ (.slice ra n rc)).cell? ⟨w2.heap.size, 0, none⟩ = some (.int .i64 d) ∧ (((((x3.setCell ⟨w.heap.size + 1, 0, none⟩ (.int .i64 d)).setCell ⟨w.heap.size + 1, 1, none⟩ (.int .i64 g)).setCell ⟨w.heap.size + 1, 2, none⟩ (.int .i64 q)).setCell ⟨w.heap.size, 0, none⟩ (.int .i64 s)).setCell ⟨w.heap.size, 1, none⟩ (.slice ra n rc)).cell? ⟨w2.heap.size, 1, none⟩ = some (.int .i64 g) ∧ (((((x3.setCell ⟨w.heap.size + 1, 0, none⟩ (.int .i64 d)).setCell ⟨w.heap.size + 1, 1, none⟩ (.int .i64 g)).setCell ⟨w.heap.size + 1, 2, none⟩ (.int .i64 q)).setCell ⟨w.heap.size, 0, none⟩ (.int .i64 s)).setCell ⟨w.heap.size, 1, none⟩ (.slice ra n rc)).cell? ⟨w2.heap.size, 2, none⟩ = some (.int .i64 q) := setK2 (by omega) (by omega) hS3b _ _; have HN3 := hide N3; have l0 := N3.cell 5 rfl; have l1 := N3.cell 6 rfl; have l2 := N3.cell 7 rfl; have e0 := N3.fz 5 rfl; have e1 := N3.fz 6 rfl; have e2 := N3.fz 7 rfl; have k0 := N3.cell 8 rfl; have k1 := N3.cell 9 rfl; have f0 := N3.fz 8 rfl; have f1 := N3.fz 9 rfl; clear y3 v3 N3)
        | (go_at_call 18; refine (l1Next_calls (w.heap.size + 1 + 1) a len cap (t1 + 1 + 1 + 1 + 1 + 1) 9 _ (by omega) (by omega) (by omega) Y1.out).mono ?_; rintro e x2 ⟨r2, rfl, _, _, y2, v2⟩; have N2 := N1.out.out (OutS.of_outside v2) (by omega) (by simp <;> omega) (by simp <;> omega); have hz2 := v2.size; have hS2 : x2.cell? ⟨w1.heap.size, 0, none⟩ = some (.int .i64 s) ∧ x2.cell? ⟨w1.heap.size, 1, none⟩ = some (.slice ra n rc) ∧ x2.cell? ⟨w2.heap.size, 0, none⟩ = some (.int .i64 d) ∧ x2.cell? ⟨w2.heap.size, 1, none⟩ = some (.int .i64 g) ∧ x2.cell? ⟨w2.heap.size, 2, none⟩ = some (.int .i64 q) := ⟨N2.cell 3 rfl, N2.cell 4 rfl, N2.cell 0 rfl, N2.cell 1 rfl, N2.cell 2 rfl⟩; have N2q := N2.below ((Below.refl x2.heap.size x2).alloc (Nat.le_refl _) (.cells #[.int .i64 r1, .int .i64 r2, .int .i64 (-1), .int .i64 1000] 2)); have hS2a : (x2.alloc (.cells #[.int .i64 r1, .int .i64 r2, .int .i64 (-1), .int .i64 1000] 2)).cell? ⟨w1.heap.size, 0, none⟩ = some (.int .i64 s) ∧ (x2.alloc (.cells #[.int .i64 r1, .int .i64 r2, .int .i64 (-1), .int .i64 1000] 2)).cell? ⟨w1.heap.size, 1, none⟩ = some (.slice ra n rc) ∧ (x2.alloc (.cells #[.int .i64 r1, .int .i64 r2, .int .i64 (-1), .int .i64 1000] 2)).cell? ⟨w2.heap.size, 0, none⟩ = some (.int .i64 d) ∧ (x2.alloc (.cells #[.int .i64 r1, .int .i64 r2, .int .i64 (-1), .int .i64 1000] 2)).cell? ⟨w2.heap.size, 1, none⟩ = some (.int .i64 g) ∧ (x2.alloc (.cells #[.int .i64 r1, .int .i64 r2, .int .i64 (-1), .int .i64 1000] 2)).cell? ⟨w2.heap.size, 2, none⟩ = some (.int .i64 q) := ⟨N2q.cell 3 rfl, N2q.cell 4 rfl, N2q.cell 0 rfl, N2q.cell 1 rfl, N2q.cell 2 rfl⟩; have N2a := hide N2q; have Y2 := hide (y2.below ((Below.refl x2.heap.size x2).alloc (Nat.le_refl _) (.cells #[.int .i64 r1, .int .i64 r2, .int .i64 (-1), .int .i64 1000] 2))); clear y2 v2 N2 N2q)
        | (go_at_call 18; refine (l1Next_calls (w.heap.size + 1 + 1) a len cap (t1 + 1 + 1 + 1 + 1) 9 _ (by omega) (by omega) (by omega) SX.out).mono ?_; rintro e x1 ⟨r1, rfl, _, _, y1, v1⟩; have N1q := MX.out.out (OutS.of_outside v1) (by omega) (by simp <;> omega) (by simp <;> omega); have hz1 : w3.heap.size ≤ x1.heap.size := v1.size; have hS1 : x1.cell? ⟨w1.heap.size, 0, none⟩ = some (.int .i64 s) ∧ x1.cell? ⟨w1.heap.size, 1, none⟩ = some (.slice ra n rc) ∧ x1.cell? ⟨w2.heap.size, 0, none⟩ = some (.int .i64 d) ∧ x1.cell? ⟨w2.heap.size, 1, none⟩ = some (.int .i64 g) ∧ x1.cell? ⟨w2.heap.size, 2, none⟩ = some (.int .i64 q) := ⟨N1q.cell 3 rfl, N1q.cell 4 rfl, N1q.cell 0 rfl, N1q.cell 1 rfl, N1q.cell 2 rfl⟩; have N1 := hide N1q; have Y1 := hide y1; clear y1 v1 N1q))
    all_goals go_wp2
    all_goals (
      refine bodyPost_ret (v := .tuple #[.agg #[.int .i64 s, .slice ra n rc], .agg #[.int .i64 d, .int .i64 g, .int .i64 q], .int .i64 (gt [r1, r2, -1, 1000] j)]) (by simp [results, Try.results5, go_sem, l0, l1, l2, k0, k1]) rfl ?_
      first
        | with_reducible exact DrewF.of5 HN3.out hn hrc (by omega) (by omega) _ _ _ _ _
        | with_reducible exact DrewF.of5' HN3.out hn hrc (by omega) (by omega) _ _ _ _ _)
  | true =>
    have s3' := s3.below ((Below.refl _ _).alloc (Nat.le_refl _) (.cells #[.int .i64 8, .int .i64 (-1)] 2))
    have M4' := M4.below ((Below.refl _ _).alloc (Nat.le_refl _) (.cells #[.int .i64 8, .int .i64 (-1)] 2))
    clear s3 M4
    go_wp2_with fail
    refine (l1PickM_calls (w.heap.size + 1 + 1) a len cap (t1 + 1 + 1 + 1 + 1) w3.heap.size 2 2 [8, -1] _ (by omega) (by omega) (by omega) s3' (by omega) (by simp) rfl at2).mono ?_
    rintro e w4 ⟨j0, _, rfl, s4, u4⟩
    have z4 := u4.size
    simp only [World.size_alloc] at z4
    have M5 := M4'.out (OutS.of_outside u4) (by omega) (by simp <;> omega) (by simp <;> omega)
    clear u4 s3' M4'
    generalize gt [8, -1] j0 = qq
    have M6 := M5.set 2 rfl (.int .i64 qq) (by omega) (by simp <;> omega) (by simp <;> omega)
    have c2 := M5.cell 2 rfl
    have f2 := M5.fz 2 rfl
    have s5 := s4.setCell (q := ⟨w2.heap.size, 2, none⟩) (by show w.heap.size + 1 + 1 < w2.heap.size; omega) (.int .i64 qq)
    obtain ⟨X, hX⟩ : ∃ X : World, X = w4.setCell ⟨w2.heap.size, 2, none⟩ (.int .i64 qq) := ⟨_, rfl⟩
    rw [← hX] at M6 s5
    have zX : X.heap.size = w4.heap.size := by rw [hX]; simp
    have HX := hide hX
    clear hX M5 s4
    go_upto_region 6 with fail
    rw [← HX.out]
    clear c2 f2
    have SX := hide (s5.below (Below.refl _ _).drew)
    have MX := hide M6.drew
    have HS0 : Hid (X.drew.cell? ⟨w1.heap.size, 0, none⟩ = some (.int .i64 s) ∧ X.drew.cell? ⟨w1.heap.size, 1, none⟩ = some (.slice ra n rc) ∧ X.drew.cell? ⟨w2.heap.size, 0, none⟩ = some (.int .i64 d) ∧ X.drew.cell? ⟨w2.heap.size, 1, none⟩ = some (.int .i64 g) ∧ X.drew.cell? ⟨w2.heap.size, 2, none⟩ = some (.int .i64 qq)) := ⟨M6.cell 3 rfl, M6.cell 4 rfl, M6.cell 0 rfl, M6.cell 1 rfl, M6.cell 2 rfl⟩
    have hzX := M6.bel.size
    clear M6 s5
    go_wp2_with fail
    go_region_held2 (fun w' => w'.cell? ⟨w1.heap.size, 0, none⟩ = some (.int .i64 s) ∧ w'.cell? ⟨w1.heap.size, 1, none⟩ = some (.slice ra n rc) ∧ w'.cell? ⟨w2.heap.size, 0, none⟩ = some (.int .i64 d) ∧ w'.cell? ⟨w2.heap.size, 1, none⟩ = some (.int .i64 g) ∧ w'.cell? ⟨w2.heap.size, 2, none⟩ = some (.int .i64 qq))
      (first | with_reducible exact HS0.out | with_reducible assumption)
      (first
        | (go_at_call 17; refine (l1PickM_calls (w.heap.size + 1 + 1) a len cap (t1 + 1 + 1 + 1 + 1 + 1 + 1 + 1) x2.heap.size 4 4 [r1, r2, -1, 1000] _ (by omega) (by omega) (by omega) Y2.out ?_ ?_ rfl at4).mono ?_; (show (_ : Nat) < _; omega); (rw [World.size_alloc]; exact Nat.lt_succ_self _); rintro e x3 ⟨j, _, rfl, y3, v3⟩; have N3 := N2a.out.out (OutS.of_outside v3) (by omega) (by simp <;> omega) (by simp <;> omega); have hz3 := v3.size; simp only [World.size_alloc] at hz3; have hS3 : x3.cell? ⟨w1.heap.size, 0, none⟩ = some (.int .i64 s) ∧ x3.cell? ⟨w1.heap.size, 1, none⟩ = some (.slice ra n rc) ∧ x3.cell? ⟨w2.heap.size, 0, none⟩ = some (.int .i64 d) ∧ x3.cell? ⟨w2.heap.size, 1, none⟩ = some (.int .i64 g) ∧ x3.cell? ⟨w2.heap.size, 2, none⟩ = some (.int .i64 qq) := ⟨N3.cell 3 rfl, N3.cell 4 rfl, N3.cell 0 rfl, N3.cell 1 rfl, N3.cell 2 rfl⟩; have hS3a : ((x3.setCell ⟨w.heap.size, 0, none⟩ (.int .i64 s)).setCell ⟨w.heap.size, 1, none⟩ (.slice ra n rc)).cell? ⟨w1.heap.size, 0, none⟩ = some (.int .i64 s) ∧ ((x3.setCell ⟨w.heap.size, 0, none⟩ (.int .i64 s)).setCell ⟨w.heap.size, 1, none⟩ (.slice ra n rc)).cell? ⟨w1.heap.size, 1, none⟩ = some (.slice ra n rc) ∧ ((x3.setCell ⟨w.heap.size, 0, none⟩ (.int .i64 s)).setCell ⟨w.heap.size, 1, none⟩ (.slice ra n rc)).cell? ⟨w2.heap.size, 0, none⟩ = some (.int .i64 d) ∧ ((x3.setCell ⟨w.heap.size, 0, none⟩ (.int .i64 s)).setCell ⟨w.heap.size, 1, none⟩ (.slice ra n rc)).cell? ⟨w2.heap.size, 1, none⟩ = some (.int .i64 g) ∧ ((x3.setCell ⟨w.heap.size, 0, none⟩ (.int .i64 s)).setCell ⟨w.heap.size, 1, none⟩ (.slice ra n rc)).cell? ⟨w2.heap.size, 2, none⟩ = some (.int .i64 qq) := setK2 (by omega) (by omega) hS3 _ _; have hS3b : (((x3.setCell ⟨w.heap.size + 1, 0, none⟩ (.int .i64 d)).setCell ⟨w.heap.size + 1, 1, none⟩ (.int .i64 g)).setCell ⟨w.heap.size + 1, 2, none⟩ (.int .i64 qq)).cell? ⟨w1.heap.size, 0, none⟩ = some (.int .i64 s) ∧ (((x3.setCell ⟨w.heap.size + 1, 0, none⟩ (.int .i64 d)).setCell ⟨w.heap.size + 1, 1, none⟩ (.int .i64 g)).setCell ⟨w.heap.size + 1, 2, none⟩ (.int .i64 qq)).cell? ⟨w1.heap.size, 1, none⟩ = some (.slice ra n rc) ∧ (((x3.setCell ⟨w.heap.size + 1, 0, none⟩ (.int .i64 d)).setCell ⟨w.heap.size + 1, 1, none⟩ (.int .i64 g)).setCell ⟨w.heap.size + 1, 2, none⟩ (.int .i64 qq)).cell? ⟨w2.heap.size, 0, none⟩ = some (.int .i64 d) ∧ (((x3.setCell ⟨w.heap.size + 1, 0, none⟩ (.int .i64 d)).setCell ⟨w.heap.size + 1, 1, none⟩ (.int .i64 g)).setCell ⟨w.heap.size + 1, 2, none⟩ (.int .i64 qq)).cell? ⟨w2.heap.size, 1, none⟩ = some (.int .i64 g) ∧ (((x3.setCell ⟨w.heap.size + 1, 0, none⟩ (.int .i64 d)).setCell ⟨w.heap.size + 1, 1, none⟩ (.int .i64 g)).setCell ⟨w.heap.size + 1, 2, none⟩ (.int .i64 qq)).cell? ⟨w2.heap.size, 2, none⟩ = some (.int .i64 qq) := setK3 (by omega) (by omega) hS3 _ _ _; have hS3c : (((((x3.setCell ⟨w.heap.size, 0, none⟩ (.int .i64 s)).setCell ⟨w.heap.size, 1, none⟩ (.slice ra n rc)).setCell ⟨w.heap.size + 1, 0, none⟩ (.int .i64 d)).setCell ⟨w.heap.size + 1, 1, none⟩ (.int .i64 g)).setCell ⟨w.heap.size + 1, 2, none⟩ (.int .i64 qq)).cell? ⟨w1.heap.size, 0, none⟩ = some (.int .i64 s) ∧ (((((x3.setCell ⟨w.heap.size, 0, none⟩ (.int .i64 s)).setCell ⟨w.heap.size, 1, none⟩ (.slice ra n rc)).setCell ⟨w.heap.size + 1, 0, none⟩ (.int .i64 d)).setCell ⟨w.heap.size + 1, 1, none⟩ (.int .i64 g)).setCell ⟨w.heap.size + 1, 2, none⟩ (.int .i64 qq)).cell? ⟨w1.heap.size, 1, none⟩ = some (.slice ra n rc) ∧ (((((x3.setCell ⟨w.heap.size, 0, none⟩ (.int .i64 s)).setCell ⟨w.heap.size, 1, none⟩ (.slice ra n rc)).setCell ⟨w.heap.size + 1, 0, none⟩ (.int .i64 d)).setCell ⟨w.heap.size + 1, 1, none⟩ (.int .i64 g)).setCell ⟨w.heap.size + 1, 2, none⟩ (.int .i64 qq)).cell? ⟨w2.heap.size, 0, none⟩ = some (.int .i64 d) ∧ (((((x3.setCell ⟨w.heap.size, 0, none⟩ (.int .i64 s)).setCell ⟨w.heap.size, 1, none⟩ (.slice ra n rc)).setCell ⟨w.heap.size + 1, 0, none⟩ (.int .i64 d)).setCell ⟨w.heap.size + 1, 1, none⟩ (.int .i64 g)).setCell ⟨w.heap.size + 1, 2, none⟩ (.int .i64 qq)).cell? ⟨w2.heap.size, 1, none⟩ = some (.int .i64 g) ∧ (((((x3.setCell ⟨w.heap.size, 0, none⟩ (.int .i64 s)).setCell ⟨w.heap.size, 1, none⟩ (.slice ra n rc)).setCell ⟨w.heap.size + 1, 0, none⟩ (.int .i64 d)).setCell ⟨w.heap.size + 1, 1, none⟩ (.int .i64 g)).setCell ⟨w.heap.size + 1, 2, none⟩ (.int .i64 qq)).cell? ⟨w2.heap.size, 2, none⟩ = some (.int .i64 qq) := setK3 (by omega) (by omega) hS3a _ _ _; have hS3d : (((((x3.setCell ⟨w.heap.size + 1, 0, none⟩ (.int .i64 d)).setCell ⟨w.heap.size + 1, 1, none⟩ (.int .i64 g)).setCell ⟨w.heap.size + 1, 2, none⟩ (.int .i64 qq)).setCell ⟨w.heap.size, 0, none⟩ (.int .i64 s)).setCell ⟨w.heap.size, 1, none⟩ (.slice ra n rc)).cell? ⟨w1.heap.size, 0, none⟩ = some (.int .i64 s) ∧ (((((x3.setCell ⟨w.heap.size + 1, 0, none⟩ (.int .i64 d)).setCell ⟨w.heap.size + 1, 1, none⟩ (.int .i64 g)).setCell ⟨w.heap.size + 1, 2, none⟩ (.int .i64 qq)).setCell ⟨w.heap.size, 0, none⟩ (.int .i64 s)).setCell ⟨w.heap.size, 1, none⟩ (.slice ra n rc)).cell? ⟨w1.heap.size, 1, none⟩ = some (.slice ra n rc) ∧ (((((x3.setCell ⟨w.heap.size + 1, 0, none⟩ (.int .i64 d)).setCell ⟨w.heap.size + 1, 1, none⟩ (.int .i64 g)).setCell ⟨w.heap.size + 1, 2, none⟩ (.int .i64 qq)).setCell ⟨w.heap.size, 0, none⟩ (.int .i64 s)).setCell ⟨w.heap.size, 1, none⟩ (.slice ra n rc)).cell? ⟨w2.heap.size, 0, none⟩ = some (.int .i64 d) ∧ (((((x3.setCell ⟨w.heap.size + 1, 0, none⟩ (.int .i64 d)).setCell ⟨w.heap.size + 1, 1, none⟩ (.int .i64 g)).setCell ⟨w.heap.size + 1, 2, none⟩ (.int .i64 qq)).setCell ⟨w.heap.size, 0, none⟩ (.int .i64 s)).setCell ⟨w.heap.size, 1, none⟩ (.slice ra n rc)).cell? ⟨w2.heap.size, 1, none⟩ = some (.int .i64 g) ∧ (((((x3.setCell ⟨w.heap.size + 1, 0, none⟩ (.int .i64 d)).setCell ⟨w.heap.size + 1, 1, none⟩ (.int .i64 g)).setCell ⟨w.heap.size + 1, 2, none⟩ (.int .i64 qq)).setCell ⟨w.heap.size, 0, none⟩ (.int .i64 s)).setCell ⟨w.heap.size, 1, none⟩ (.slice ra n rc)).cell? ⟨w2.heap.size, 2, none⟩ = some (.int .i64 qq) := setK2 (by omega) (by omega) hS3b _ _; have HN3 := hide N3; have l0 := N3.cell 5 rfl; have l1 := N3.cell 6 rfl; have l2 := N3.cell 7 rfl; have e0 := N3.fz 5 rfl; have e1 := N3.fz 6 rfl; have e2 := N3.fz 7 rfl; have k0 := N3.cell 8 rfl; have k1 := N3.cell 9 rfl; have f0 := N3.fz 8 rfl; have f1 := N3.fz 9 rfl; clear y3 v3 N3)
        | (go_at_call 18; refine (l1Next_calls (w.heap.size + 1 + 1) a len cap (t1 + 1 + 1 + 1 + 1 + 1 + 1) 9 _ (by omega) (by omega) (by omega) Y1.out).mono ?_; rintro e x2 ⟨r2, rfl, _, _, y2, v2⟩; have N2 := N1.out.out (OutS.of_outside v2) (by omega) (by simp <;> omega) (by simp <;> omega); have hz2 := v2.size; have hS2 : x2.cell? ⟨w1.heap.size, 0, none⟩ = some (.int .i64 s) ∧ x2.cell? ⟨w1.heap.size, 1, none⟩ = some (.slice ra n rc) ∧ x2.cell? ⟨w2.heap.size, 0, none⟩ = some (.int .i64 d) ∧ x2.cell? ⟨w2.heap.size, 1, none⟩ = some (.int .i64 g) ∧ x2.cell? ⟨w2.heap.size, 2, none⟩ = some (.int .i64 qq) := ⟨N2.cell 3 rfl, N2.cell 4 rfl, N2.cell 0 rfl, N2.cell 1 rfl, N2.cell 2 rfl⟩; have N2q := N2.below ((Below.refl x2.heap.size x2).alloc (Nat.le_refl _) (.cells #[.int .i64 r1, .int .i64 r2, .int .i64 (-1), .int .i64 1000] 2)); have hS2a : (x2.alloc (.cells #[.int .i64 r1, .int .i64 r2, .int .i64 (-1), .int .i64 1000] 2)).cell? ⟨w1.heap.size, 0, none⟩ = some (.int .i64 s) ∧ (x2.alloc (.cells #[.int .i64 r1, .int .i64 r2, .int .i64 (-1), .int .i64 1000] 2)).cell? ⟨w1.heap.size, 1, none⟩ = some (.slice ra n rc) ∧ (x2.alloc (.cells #[.int .i64 r1, .int .i64 r2, .int .i64 (-1), .int .i64 1000] 2)).cell? ⟨w2.heap.size, 0, none⟩ = some (.int .i64 d) ∧ (x2.alloc (.cells #[.int .i64 r1, .int .i64 r2, .int .i64 (-1), .int .i64 1000] 2)).cell? ⟨w2.heap.size, 1, none⟩ = some (.int .i64 g) ∧ (x2.alloc (.cells #[.int .i64 r1, .int .i64 r2, .int .i64 (-1), .int .i64 1000] 2)).cell? ⟨w2.heap.size, 2, none⟩ = some (.int .i64 qq) := ⟨N2q.cell 3 rfl, N2q.cell 4 rfl, N2q.cell 0 rfl, N2q.cell 1 rfl, N2q.cell 2 rfl⟩; have N2a := hide N2q; have Y2 := hide (y2.below ((Below.refl x2.heap.size x2).alloc (Nat.le_refl _) (.cells #[.int .i64 r1, .int .i64 r2, .int .i64 (-1), .int .i64 1000] 2))); clear y2 v2 N2 N2q)
        | (go_at_call 18; refine (l1Next_calls (w.heap.size + 1 + 1) a len cap (t1 + 1 + 1 + 1 + 1 + 1) 9 _ (by omega) (by omega) (by omega) SX.out).mono ?_; rintro e x1 ⟨r1, rfl, _, _, y1, v1⟩; have N1q := MX.out.out (OutS.of_outside v1) (by omega) (by simp <;> omega) (by simp <;> omega); have hz1 : X.heap.size ≤ x1.heap.size := v1.size; have hS1 : x1.cell? ⟨w1.heap.size, 0, none⟩ = some (.int .i64 s) ∧ x1.cell? ⟨w1.heap.size, 1, none⟩ = some (.slice ra n rc) ∧ x1.cell? ⟨w2.heap.size, 0, none⟩ = some (.int .i64 d) ∧ x1.cell? ⟨w2.heap.size, 1, none⟩ = some (.int .i64 g) ∧ x1.cell? ⟨w2.heap.size, 2, none⟩ = some (.int .i64 qq) := ⟨N1q.cell 3 rfl, N1q.cell 4 rfl, N1q.cell 0 rfl, N1q.cell 1 rfl, N1q.cell 2 rfl⟩; have N1 := hide N1q; have Y1 := hide y1; clear y1 v1 N1q))
    all_goals go_wp2
    all_goals (
      refine bodyPost_ret (v := .tuple #[.agg #[.int .i64 s, .slice ra n rc], .agg #[.int .i64 d, .int .i64 g, .int .i64 qq], .int .i64 (gt [r1, r2, -1, 1000] j)]) (by simp [results, Try.results5, go_sem, l0, l1, l2, k0, k1]) rfl ?_
      first
        | with_reducible exact DrewF.of5 HN3.out hn hrc (by omega) (by omega) _ _ _ _ _
        | with_reducible exact DrewF.of5' HN3.out hn hrc (by omega) (by omega) _ _ _ _ _)

end Go.Proofs.Ytlilbbkidaahlaa
