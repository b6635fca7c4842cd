import Derived.Test.YtgkjmeogdomgmaaLeave
import Derived.Test.YtgkjmeogdomgmaaRegO
import Derived.WalkKit
import Derived.ProofKit
import Derived.OpenShut
import Derived.ShutString
import Derived.ChangeOld
import Derived.Below
import Derived.WalkSpells
import Derived.Deep.QuietTactic
import Derived.BigQuiet
import Derived.Deep.RegionWith
import Derived.Deep.WholeRow
import Derived.Deep.DeepCutAuto
import Derived.Deep.RegionHeld2
import Derived.Deep.AppendLies
import Derived.Deep.RegionLaw
namespace Go.Proofs.Ytgkjmeogdomgmaa
open Go.ChangeShapes Go.WideShapes Go.ChangeAt Go.RowKit

/-- a row of n slots that is filled in an order that nobody knows: those of V are there, the others are empty. -/
structure HalfU (w : World) (N n : Nat) (ss : List (Int × List Int)) (V : Nat → Bool) (lb : Nat → Nat) : Prop where
  lt : N < w.heap.size
  fz : ∀ j, w.frozen? ⟨N, j, none⟩ = false
  c0 : ∀ j, j < n → w.cell? ⟨N, j * 2, none⟩ = some (.int .i64 (if V j = true then gc ss j else 0))
  c1 : ∀ j, j < n → w.cell? ⟨N, j * 2 + 1, none⟩ = some (if V j = true then .slice (some ⟨lb j, 0, none⟩) 4 4 else .slice none 0 0)
  gt : ∀ j, j < n → V j = true → N < lb j
  blk : ∀ j, j < n → V j = true → Blk w (lb j) (gl ss j)
  ap : ∀ i j, i < n → j < n → V i = true → V j = true → i ≠ j → lb i ≠ lb j

theorem HalfU.below {w w' : World} {N n : Nat} {ss : List (Int × List Int)} {V : Nat → Bool} {lb : Nat → Nat} (h : HalfU w N n ss V lb) (hb : Below w.heap.size w w') : HalfU w' N n ss V lb :=
  ⟨by have := hb.size; have := h.lt; omega, fun j => (hb.frozen (p := ⟨N, j, none⟩) h.lt).trans (h.fz j), fun j hj => (hb.cell (p := ⟨N, j * 2, none⟩) h.lt).trans (h.c0 j hj), fun j hj => (hb.cell (p := ⟨N, j * 2 + 1, none⟩) h.lt).trans (h.c1 j hj), h.gt, fun j hj hv => (h.blk j hj hv).below hb, h.ap⟩

theorem HalfU.keep {w w' : World} {N n r : Nat} {ss : List (Int × List Int)} {V : Nat → Bool} {lb : Nat → Nat} (h : HalfU w N n ss V lb) (hg : w.grownBy w' (some r)) (hr : r ≠ N) (hl : ∀ j, j < n → V j = true → lb j ≠ r) : HalfU w' N n ss V lb := by
  have e := hg.block N h.lt (fun e => hr (by injection e with e; exact e.symm))
  refine ⟨by have := hg.size; have := h.lt; omega, fun j => (World.frozen?_of_block (a := ⟨N, j, none⟩) e).trans (h.fz j), fun j hj => (World.cell?_of_block (a := ⟨N, j * 2, none⟩) e).trans (h.c0 j hj), fun j hj => (World.cell?_of_block (a := ⟨N, j * 2 + 1, none⟩) e).trans (h.c1 j hj), h.gt, fun j hj hv => ?_, h.ap⟩
  have hb := h.blk j hj hv
  exact Blk.loc (S := fun k => k = lb j) rfl w w' (fun k hk hl' => hg.block k hl' (fun e => hl j hj hv (by injection e with e; exact hk.symm.trans e))) hb

theorem made2 (n j : Nat) (h : j < n) : (madeCells #[.int .i64 0, .slice none 0 0] (n * 2))[j * 2]? = some (.int .i64 0) ∧ (madeCells #[.int .i64 0, .slice none 0 0] (n * 2))[j * 2 + 1]? = some (.slice none 0 0) := by
  constructor
  · have h1 : j * 2 < n * 2 := by omega
    simp [madeCells, h1]
  · have h1 : j * 2 + 1 < n * 2 := by omega
    have h2 : (j * 2 + 1) % 2 = 1 := by omega
    simp [madeCells, h1, h2]

theorem HalfU.start (w : World) (n : Nat) (ss : List (Int × List Int)) (t : TypeId) (lb : Nat → Nat) : HalfU (w.alloc (.cells (madeCells #[.int .i64 0, .slice none 0 0] (n * 2)) t)) w.heap.size n ss (fun _ => false) lb := by
  refine ⟨by simp, fun j => by simp, fun j hj => ?_, fun j hj => ?_, fun j _ h => (by cases h), fun j _ h => (by cases h), fun i j _ _ h => (by cases h)⟩
  · rw [World.cell?_alloc_new, (made2 n j hj).1]; rfl
  · rw [World.cell?_alloc_new, (made2 n j hj).2]; rfl

theorem HalfU.store {w0 w : World} {N n q b : Nat} {ss : List (Int × List Int)} {V : Nat → Bool} {lb : Nat → Nat} (h0 : HalfU w0 N n ss V lb) (hw : Below w0.heap.size w0 w) (hq : q < n) (hb : w0.heap.size ≤ b) (hB : Blk w b (gl ss q)) :
    HalfU ((w.setCell ⟨N, q * 2, none⟩ (.int .i64 (gc ss q))).setCell ⟨N, q * 2 + 1, none⟩ (.slice (some ⟨b, 0, none⟩) 4 4)) N n ss (fun j => if j = q then true else V j) (fun j => if j = q then b else lb j) := by
  have h := h0.below hw
  have hNb : N < b := by have := h0.lt; omega
  have ne1 : ∀ i, i ≠ q * 2 → i ≠ q * 2 + 1 → ((w.setCell ⟨N, q * 2, none⟩ (.int .i64 (gc ss q))).setCell ⟨N, q * 2 + 1, none⟩ (.slice (some ⟨b, 0, none⟩) 4 4)).cell? ⟨N, i, none⟩ = w.cell? ⟨N, i, none⟩ := fun i a b => by
    rw [World.cell?_setCell_other _ _ _ _ (fun e => b (by injection e with _ e2; exact e2.symm)), World.cell?_setCell_other _ _ _ _ (fun e => a (by injection e with _ e2; exact e2.symm))]
  have hold : ∀ j, j < n → V j = true → lb j < w0.heap.size := fun j hj hv => (h0.blk j hj hv).1
  refine ⟨by simpa [World.setCell] using h.lt, fun j => by simpa using h.fz j, fun j hj => ?_, fun j hj => ?_, fun j hj hv => ?_, fun j hj hv => ?_, fun i j hi hj hvi hvj hij => ?_⟩
  · by_cases e : j = q
    · subst e
      rw [if_pos rfl, if_pos rfl, World.cell?_setCell_other _ _ _ _ (fun e => by injection e with _ e2; omega)]
      exact World.cell?_setCell_same _ _ _ (h.c0 j hj)
    · rw [if_neg e]
      exact (ne1 _ (by omega) (by omega)).trans (h.c0 j hj)
  · by_cases e : j = q
    · subst e
      rw [if_pos rfl, if_pos rfl, if_pos rfl]
      exact World.cell?_setCell_same _ _ _ ((World.cell?_setCell_other _ _ _ _ (fun e => by injection e with _ e2; omega)).trans (h.c1 j hj))
    · rw [if_neg e, if_neg e]
      exact (ne1 _ (by omega) (by omega)).trans (h.c1 j hj)
  · by_cases e : j = q
    · rw [if_pos e]; exact hNb
    · rw [if_neg e] at hv ⊢; exact h.gt j hj hv
  · by_cases e : j = q
    · subst e; rw [if_pos rfl]; exact (hB.setCell (by show N ≠ b; omega) _).setCell (by show N ≠ b; omega) _
    · rw [if_neg e] at hv ⊢
      have := h.gt j hj hv
      exact ((h.blk j hj hv).setCell (by show N ≠ lb j; omega) _).setCell (by show N ≠ lb j; omega) _
  · by_cases e : i = q
    · have e2 : j ≠ q := by omega
      rw [if_pos e, if_neg e2]
      rw [if_neg e2] at hvj
      have := hold j hj hvj
      omega
    · rw [if_neg e] at hvi ⊢
      by_cases e2 : j = q
      · rw [if_pos e2]
        have := hold i hi hvi
        omega
      · rw [if_neg e2] at hvj ⊢
        exact h.ap i j hi hj hvi hvj hij

theorem lenSum_few : ∀ (ss : List (Int × List Int)), (∀ j, j < ss.length → (gl ss j).length ≤ 4) → lenSum ss ≤ ss.length * 4
  | [], _ => by simp [lenSum]
  | s :: r, h => by
    have h0 := h 0 (by simp)
    have ih := lenSum_few r (fun j hj => by have := h (j + 1) (by simpa using hj); simpa [gl] using this)
    simp [lenSum, gl] at h0 ⊢
    omega

theorem good_len {ss : List (Int × List Int)} (good : Good ss) (j : Nat) (hj : j < ss.length) : (gl ss j).length ≤ 4 := by
  by_cases h : 0 < gc ss j
  · exact Nat.le_of_eq (fault_len (good.right j hj h))
  · rw [good.empty j hj (by have := good.low j hj; omega)]
    simp

theorem good_sum {ss : List (Int × List Int)} (good : Good ss) : ss.length + lenSum ss ≤ 1048576 := by
  have h1 := lenSum_few ss (good_len good)
  have := good.few
  omega

/-- all that are meant are there: the row is owned. -/
theorem HalfU.or {w : World} {N B : Nat} {ss : List (Int × List Int)} {V : Nat → Bool} {lb : Nat → Nat} (h : HalfU w N ss.length ss V lb) (good : Good ss) (hV : ∀ j, j < ss.length → V j = decide (0 < gc ss j)) (hB : B ≤ N) : OR (InR B w.heap.size) (some ⟨N, 0, none⟩) ss.length ss w := by
  have live : ∀ i, i < ss.length → 0 < (gl ss i).length → V i = true := fun i hi hl => by
    rw [hV i hi]
    by_cases hp : 0 < gc ss i
    · simpa using hp
    · rw [good.empty i hi (by have := good.low i hi; omega)] at hl
      simp at hl
  refine ⟨rfl, good_sum good, .inr ⟨N, fun j => if 0 < gc ss j then some ⟨lb j, 0, none⟩ else none, fun j => if 0 < gc ss j then 4 else 0, lb, rfl, ⟨hB, h.lt⟩, h.lt, h.fz, fun i hi => ?_, fun i j hi hj hij li lj => h.ap i j hi hj (live i hi li) (live j hj lj) hij⟩⟩
  have c0 := h.c0 i hi
  have c1 := h.c1 i hi
  rw [hV i hi] at c0 c1
  by_cases hp : 0 < gc ss i
  · have hl := fault_len (good.right i hi hp)
    have hv : V i = true := by rw [hV i hi]; simpa using hp
    simp only [hp, decide_true, if_true] at c0 c1 ⊢
    exact ⟨c0, by rw [hl]; exact c1, ⟨rfl, by omega, .inr ⟨lb i, rfl, ⟨rfl, by omega⟩, h.blk i hi hv⟩⟩, fun _ => ⟨⟨by have := h.gt i hi hv; omega, (h.blk i hi hv).1⟩, by have := h.gt i hi hv; omega⟩⟩
  · have h0 : gc ss i = 0 := by have := good.low i hi; omega
    have hl := good.empty i hi h0
    have hd : decide (0 < gc ss i) = false := by simp [h0]
    rw [hd] at c0 c1
    simp only [hp, if_false]
    exact ⟨by rw [h0]; exact c0, by rw [hl]; exact c1, ⟨rfl, by rw [hl]; simp, .inl (by rw [hl]; rfl)⟩, fun hl2 => by rw [hl] at hl2; simp at hl2⟩

end Go.Proofs.Ytgkjmeogdomgmaa
