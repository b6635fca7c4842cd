import Derived.Test.YtainblfjfmjclajRegP
import Derived.WalkKit
import Derived.ProofKit
import Derived.OpenShut
import Derived.ShutString
import Derived.ChangeOld
import Derived.Below
import Derived.WalkSpells
import Derived.Deep.QuietTactic
import Derived.BigQuiet
import Derived.Deep.RegionWith
import Derived.Deep.WholeRow
import Derived.Deep.DeepCutAuto
import Derived.Deep.RegionHeld2
import Derived.Deep.AppendLies
import Derived.Deep.RegionLaw
namespace Go.Proofs.Ytainblfjfmjclaj
open Go.ChangeShapes Go.WideShapes Go.ChangeAt Go.RowKit

/-- a row of n slots under copy: the first k hold ss, their labels in blocks of their own behind N. -/
def HalfS (w : World) (N n k : Nat) (ss : List (Int × List Int)) : Prop :=
  N < w.heap.size ∧ (∀ j, j < k → w.cell? ⟨N, j * 2, none⟩ = some (.int .i64 (gc ss j)) ∧ ∃ lb, w.cell? ⟨N, j * 2 + 1, none⟩ = some (.slice (some ⟨lb, 0, none⟩) (gl ss j).length (gl ss j).length) ∧ N < lb ∧ Blk w lb (gl ss j)) ∧
    (∀ j, j < n * 2 → ∃ v, w.cell? ⟨N, j, none⟩ = some v) ∧ ∀ j, w.frozen? ⟨N, j, none⟩ = false

theorem HalfS.below {w w' : World} {N n k : Nat} {ss : List (Int × List Int)} (h : HalfS w N n k ss) (hb : Below w.heap.size w w') : HalfS w' N n k ss := by
  obtain ⟨h1, h2, h3, h4⟩ := h
  refine ⟨by have := hb.size; omega, fun j hj => ?_, fun j hj => ?_, fun j => (hb.frozen (p := ⟨N, j, none⟩) h1).trans (h4 j)⟩
  · obtain ⟨a, lb, b, c, d⟩ := h2 j hj
    exact ⟨(hb.cell (p := ⟨N, j * 2, none⟩) h1).trans a, lb, (hb.cell (p := ⟨N, j * 2 + 1, none⟩) h1).trans b, c, d.below hb⟩
  · obtain ⟨v, hv⟩ := h3 j hj
    exact ⟨v, (hb.cell (p := ⟨N, j, none⟩) h1).trans hv⟩

theorem HalfS.store {w : World} {N n k lb : Nat} {ss : List (Int × List Int)} (h : HalfS w N n k ss) (hk : k < n) (hlb : N < lb) (hB : Blk w lb (gl ss k)) :
    HalfS ((w.setCell ⟨N, k * 2, none⟩ (.int .i64 (gc ss k))).setCell ⟨N, k * 2 + 1, none⟩ (.slice (some ⟨lb, 0, none⟩) (gl ss k).length (gl ss k).length)) N n (k + 1) ss := by
  obtain ⟨h1, h2, h3, h4⟩ := h
  obtain ⟨v0, hv0⟩ := h3 (k * 2) (by omega)
  obtain ⟨v1, hv1⟩ := h3 (k * 2 + 1) (by omega)
  have ne1 : ∀ i, i ≠ k * 2 → i ≠ k * 2 + 1 → ((w.setCell ⟨N, k * 2, none⟩ (.int .i64 (gc ss k))).setCell ⟨N, k * 2 + 1, none⟩ (.slice (some ⟨lb, 0, none⟩) (gl ss k).length (gl ss k).length)).cell? ⟨N, i, none⟩ = w.cell? ⟨N, i, none⟩ := fun i a b => by
    rw [World.cell?_setCell_other _ _ _ _ (fun e => b (by injection e with _ e2; exact e2.symm)), World.cell?_setCell_other _ _ _ _ (fun e => a (by injection e with _ e2; exact e2.symm))]
  have c0 : ((w.setCell ⟨N, k * 2, none⟩ (.int .i64 (gc ss k))).setCell ⟨N, k * 2 + 1, none⟩ (.slice (some ⟨lb, 0, none⟩) (gl ss k).length (gl ss k).length)).cell? ⟨N, k * 2, none⟩ = some (.int .i64 (gc ss k)) := by
    rw [World.cell?_setCell_other _ _ _ _ (fun e => by injection e with _ e2; omega)]
    exact World.cell?_setCell_same _ _ _ hv0
  have c1 : ((w.setCell ⟨N, k * 2, none⟩ (.int .i64 (gc ss k))).setCell ⟨N, k * 2 + 1, none⟩ (.slice (some ⟨lb, 0, none⟩) (gl ss k).length (gl ss k).length)).cell? ⟨N, k * 2 + 1, none⟩ = some (.slice (some ⟨lb, 0, none⟩) (gl ss k).length (gl ss k).length) :=
    World.cell?_setCell_same _ _ _ ((World.cell?_setCell_other _ _ _ _ (fun e => by injection e with _ e2; omega)).trans hv1)
  refine ⟨by simpa [World.setCell] using h1, fun j hj => ?_, fun j hj => cell?_setCell_some (cell?_setCell_some (h3 j hj).choose_spec).choose_spec, fun j => by simpa using h4 j⟩
  by_cases e : j = k
  · subst e
    exact ⟨c0, lb, c1, hlb, (hB.setCell (by show N ≠ lb; omega) _).setCell (by show N ≠ lb; omega) _⟩
  · obtain ⟨a, lb', b, c, d⟩ := h2 j (by omega)
    exact ⟨(ne1 _ (by omega) (by omega)).trans a, lb', (ne1 _ (by omega) (by omega)).trans b, c, (d.setCell (by show N ≠ lb'; omega) _).setCell (by show N ≠ lb'; omega) _⟩

theorem HalfS.start (w : World) (n : Nat) (ss : List (Int × List Int)) (t : TypeId) : HalfS (w.alloc (.cells (madeCells #[.int .i64 0, .slice none 0 0] (n * 2)) t)) w.heap.size n 0 ss := by
  refine ⟨by simp, fun j hj => by omega, fun j hj => ?_, fun j => by simp⟩
  have hs : j < (madeCells #[.int .i64 0, .slice none 0 0] (n * 2)).size := by rw [size_madeCells]; exact hj
  exact ⟨(madeCells #[.int .i64 0, .slice none 0 0] (n * 2))[j], by rw [World.cell?_alloc_new]; simp [hs]⟩

theorem HalfS.done {w : World} {N n : Nat} {ss : List (Int × List Int)} (h : HalfS w N n n ss) (hn : ss.length = n) (hm : lenSum ss ≤ 1048576) : Sls w (some ⟨N, 0, none⟩) n ss := by
  refine ⟨hn, fun _ => ⟨N, 0, rfl, h.1, fun i hi => ?_⟩⟩
  obtain ⟨a, lb, b, _, d⟩ := h.2.1 i hi
  have hl := gl_le ss i (by omega)
  exact ⟨by simpa using a, some ⟨lb, 0, none⟩, _, _, by simpa using b, by unfold maxLen; omega, d.sl⟩

theorem HalfS.setCell {w : World} {N n k : Nat} {ss : List (Int × List Int)} (h : HalfS w N n k ss) {p : Addr} (hp : p.block < N) (v : Value) : HalfS (w.setCell p v) N n k ss := by
  obtain ⟨h1, h2, h3, h4⟩ := h
  have ne : ∀ i, (w.setCell p v).cell? ⟨N, i, none⟩ = w.cell? ⟨N, i, none⟩ := fun i => World.cell?_setCell_other _ _ _ _ (fun e => by rw [e] at hp; exact Nat.lt_irrefl _ hp)
  refine ⟨by simpa [World.setCell] using h1, fun j hj => ?_, fun j hj => by rw [ne]; exact h3 j hj, fun j => by simpa using h4 j⟩
  obtain ⟨a, lb, b, c, d⟩ := h2 j hj
  exact ⟨(ne _).trans a, lb, (ne _).trans b, c, d.setCell (by omega) _⟩

end Go.Proofs.Ytainblfjfmjclaj
