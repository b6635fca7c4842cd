import Derived.Test.YtjkdckcmgbmmgaaToReg
import Derived.Test.YtjkdckcmgbmmgaaEqReg
import Derived.Test.YtjkdckcmgbmmgaaRegO
import Derived.WalkKit
import Derived.ProofKit
import Derived.OpenShut
import Derived.ShutString
import Derived.ChangeOld
import Derived.Below
import Derived.WalkSpells
import Derived.Deep.QuietTactic
import Derived.BigQuiet
import Derived.Deep.RegionWith
import Derived.Deep.WholeRow
import Derived.Deep.DeepCutAuto
import Derived.Deep.RegionHeld2
import Derived.Deep.AppendLies
import Derived.Deep.RegionLaw
namespace Go.Proofs.Ytjkdckcmgbmmgaa
open Go.ChangeShapes Go.WideShapes Go.ChangeAt Go.RowKit

/-- a row of n slots under copy, labels in blocks of their own, no two in one. -/
structure HalfD (w : World) (N n k : Nat) (ss : List (Int × List Int)) (lb : Nat → Nat) : Prop where
  lt : N < w.heap.size
  c0 : ∀ j, j < k → w.cell? ⟨N, j * 2, none⟩ = some (.int .i64 (gc ss j))
  c1 : ∀ j, j < k → w.cell? ⟨N, j * 2 + 1, none⟩ = some (.slice (some ⟨lb j, 0, none⟩) (gl ss j).length (gl ss j).length)
  gt : ∀ j, j < k → N < lb j
  blk : ∀ j, j < k → Blk w (lb j) (gl ss j)
  ap : ∀ i j, i < k → j < k → i ≠ j → lb i ≠ lb j
  all : ∀ j, j < n * 2 → ∃ v, w.cell? ⟨N, j, none⟩ = some v
  fz : ∀ j, w.frozen? ⟨N, j, none⟩ = false

theorem HalfD.below {w w' : World} {N n k : Nat} {ss : List (Int × List Int)} {lb : Nat → Nat} (h : HalfD w N n k ss lb) (hb : Below w.heap.size w w') : HalfD w' N n k ss lb :=
  ⟨by have := hb.size; have := h.lt; omega, fun j hj => (hb.cell (p := ⟨N, j * 2, none⟩) h.lt).trans (h.c0 j hj), fun j hj => (hb.cell (p := ⟨N, j * 2 + 1, none⟩) h.lt).trans (h.c1 j hj), h.gt, fun j hj => (h.blk j hj).below hb, h.ap,
    fun j hj => by obtain ⟨v, hv⟩ := h.all j hj; exact ⟨v, (hb.cell (p := ⟨N, j, none⟩) h.lt).trans hv⟩, fun j => (hb.frozen (p := ⟨N, j, none⟩) h.lt).trans (h.fz j)⟩

theorem HalfD.store {w0 w : World} {N n k b : Nat} {ss : List (Int × List Int)} {lb : Nat → Nat} (h0 : HalfD w0 N n k ss lb) (hw : Below w0.heap.size w0 w) (hk : k < n) (hb : w0.heap.size ≤ b) (hB : Blk w b (gl ss k)) :
    HalfD ((w.setCell ⟨N, k * 2, none⟩ (.int .i64 (gc ss k))).setCell ⟨N, k * 2 + 1, none⟩ (.slice (some ⟨b, 0, none⟩) (gl ss k).length (gl ss k).length)) N n (k + 1) ss (fun j => if j = k then b else lb j) := by
  have h := h0.below hw
  have hNb : N < b := by have := h0.lt; omega
  obtain ⟨v0, hv0⟩ := h.all (k * 2) (by omega)
  obtain ⟨v1, hv1⟩ := h.all (k * 2 + 1) (by omega)
  have ne1 : ∀ i, i ≠ k * 2 → i ≠ k * 2 + 1 → ((w.setCell ⟨N, k * 2, none⟩ (.int .i64 (gc ss k))).setCell ⟨N, k * 2 + 1, none⟩ (.slice (some ⟨b, 0, none⟩) (gl ss k).length (gl ss k).length)).cell? ⟨N, i, none⟩ = w.cell? ⟨N, i, none⟩ := fun i a b => by
    rw [World.cell?_setCell_other _ _ _ _ (fun e => b (by injection e with _ e2; exact e2.symm)), World.cell?_setCell_other _ _ _ _ (fun e => a (by injection e with _ e2; exact e2.symm))]
  have c0 : ((w.setCell ⟨N, k * 2, none⟩ (.int .i64 (gc ss k))).setCell ⟨N, k * 2 + 1, none⟩ (.slice (some ⟨b, 0, none⟩) (gl ss k).length (gl ss k).length)).cell? ⟨N, k * 2, none⟩ = some (.int .i64 (gc ss k)) := by
    rw [World.cell?_setCell_other _ _ _ _ (fun e => by injection e with _ e2; omega)]
    exact World.cell?_setCell_same _ _ _ hv0
  have c1 : ((w.setCell ⟨N, k * 2, none⟩ (.int .i64 (gc ss k))).setCell ⟨N, k * 2 + 1, none⟩ (.slice (some ⟨b, 0, none⟩) (gl ss k).length (gl ss k).length)).cell? ⟨N, k * 2 + 1, none⟩ = some (.slice (some ⟨b, 0, none⟩) (gl ss k).length (gl ss k).length) :=
    World.cell?_setCell_same _ _ _ ((World.cell?_setCell_other _ _ _ _ (fun e => by injection e with _ e2; omega)).trans hv1)
  have hold : ∀ j, j < k → lb j < w0.heap.size := fun j hj => (h0.blk j hj).1
  refine ⟨by simpa [World.setCell] using h.lt, fun j hj => ?_, fun j hj => ?_, fun j hj => ?_, fun j hj => ?_, fun i j hi hj hij => ?_, fun j hj => cell?_setCell_some (cell?_setCell_some (h.all j hj).choose_spec).choose_spec, fun j => by simpa using h.fz j⟩
  · by_cases e : j = k
    · subst e; exact c0
    · exact (ne1 _ (by omega) (by omega)).trans (h.c0 j (by omega))
  · by_cases e : j = k
    · subst e; rw [if_pos rfl]; exact c1
    · rw [if_neg e]; exact (ne1 _ (by omega) (by omega)).trans (h.c1 j (by omega))
  · by_cases e : j = k
    · rw [if_pos e]; exact hNb
    · rw [if_neg e]; exact h.gt j (by omega)
  · by_cases e : j = k
    · subst e; rw [if_pos rfl]; exact (hB.setCell (by show N ≠ b; omega) _).setCell (by show N ≠ b; omega) _
    · rw [if_neg e]
      have := h.gt j (by omega)
      exact ((h.blk j (by omega)).setCell (by show N ≠ lb j; omega) _).setCell (by show N ≠ lb j; omega) _
  · by_cases e : i = k
    · rw [if_pos e, if_neg (by omega)]
      have := hold j (by omega)
      omega
    · rw [if_neg e]
      by_cases e2 : j = k
      · rw [if_pos e2]
        have := hold i (by omega)
        omega
      · rw [if_neg e2]
        exact h.ap i j (by omega) (by omega) hij

theorem HalfD.start (w : World) (n : Nat) (ss : List (Int × List Int)) (t : TypeId) (lb : Nat → Nat) : HalfD (w.alloc (.cells (madeCells #[.int .i64 0, .slice none 0 0] (n * 2)) t)) w.heap.size n 0 ss lb := by
  refine ⟨by simp, fun j hj => by omega, fun j hj => by omega, fun j hj => by omega, fun j hj => by omega, fun i j hi => by omega, fun j hj => ?_, fun j => by simp⟩
  have hs : j < (madeCells #[.int .i64 0, .slice none 0 0] (n * 2)).size := by rw [size_madeCells]; exact hj
  exact ⟨(madeCells #[.int .i64 0, .slice none 0 0] (n * 2))[j], by rw [World.cell?_alloc_new]; simp [hs]⟩

theorem HalfD.or {w : World} {N n B : Nat} {ss : List (Int × List Int)} {lb : Nat → Nat} (h : HalfD w N n n ss lb) (hB : B ≤ N) (hn : ss.length = n) (hm : n + lenSum ss ≤ 1048576) : OR (InR B w.heap.size) (some ⟨N, 0, none⟩) n ss w :=
  ⟨hn, hm, .inr ⟨N, fun j => some ⟨lb j, 0, none⟩, fun j => (gl ss j).length, lb, rfl, ⟨hB, h.lt⟩, h.lt, h.fz, fun i hi => ⟨h.c0 i hi, h.c1 i hi, ⟨rfl, by have := gl_le ss i (by omega); omega, by (by_cases e : (gl ss i).length = 0); exact .inl e; exact .inr ⟨lb i, rfl, ⟨rfl, by omega⟩, h.blk i hi⟩⟩, fun _ => ⟨⟨by have := h.gt i hi; omega, (h.blk i hi).1⟩, by have := h.gt i hi; omega⟩⟩, fun i j hi hj e _ _ => h.ap i j hi hj e⟩⟩



end Go.Proofs.Ytjkdckcmgbmmgaa
