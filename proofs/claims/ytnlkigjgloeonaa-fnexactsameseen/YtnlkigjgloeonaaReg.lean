import Derived.Test.YtnlkigjgloeonaaPlain
import Derived.WalkKit
import Derived.ProofKit
import Derived.OpenShut
import Derived.ShutString
import Derived.ChangeOld
import Derived.Below
import Derived.WalkSpells
import Derived.Deep.QuietTactic
import Derived.BigQuiet
import Derived.Deep.RegionWith
import Derived.Deep.WholeRow
import Derived.Deep.DeepCutAuto
import Derived.Deep.RegionHeld2
import Derived.Deep.AppendLies
import Derived.Deep.RegionLaw
namespace Go.Proofs.Ytnlkigjgloeonaa
open Go.ChangeShapes Go.WideShapes Go.ChangeAt Go.RowKit

/-- a slot: how often it is meant, and its label's levels. -/
def gc (ss : List (Int × List Int)) (i : Nat) : Int := (ss.getD i (0, [])).1

def gl (ss : List (Int × List Int)) (i : Nat) : List Int := (ss.getD i (0, [])).2

/-- a slice of slots (two cells each) that reads as ss. -/
def Sls (w : World) (a : Option Addr) (n : Nat) (ss : List (Int × List Int)) : Prop :=
  ss.length = n ∧ (0 < n → ∃ b off, a = some ⟨b, off, none⟩ ∧ b < w.heap.size ∧ ∀ i, i < n → w.cell? ⟨b, off + i * 2, none⟩ = some (.int .i64 (gc ss i)) ∧
    ∃ la ll lc, w.cell? ⟨b, off + i * 2 + 1, none⟩ = some (.slice la ll lc) ∧ ll ≤ maxLen ∧ Sl w la ll (gl ss i))

theorem Sls.below {w w' : World} {a : Option Addr} {n : Nat} {ss : List (Int × List Int)} (h : Sls w a n ss) {B : Nat} (hb : Below B w w') (hB : w.heap.size ≤ B) : Sls w' a n ss := by
  obtain ⟨h1, h2⟩ := h
  refine ⟨h1, fun hp => ?_⟩
  obtain ⟨b, off, h3, h4, h5⟩ := h2 hp
  refine ⟨b, off, h3, by have := hb.size; omega, fun i hi => ?_⟩
  obtain ⟨h6, la, ll, lc, h7, h8, h9⟩ := h5 i hi
  exact ⟨(hb.cell (p := ⟨b, off + i * 2, none⟩) (by show b < B; omega)).trans h6, la, ll, lc, (hb.cell (p := ⟨b, off + i * 2 + 1, none⟩) (by show b < B; omega)).trans h7, h8, h9.below hb hB⟩

def lenSum : List (Int × List Int) → Nat
  | [] => 0
  | s :: r => s.2.length + lenSum r

theorem lenSum_take (ss : List (Int × List Int)) (k : Nat) (h : k < ss.length) : lenSum (ss.take (k + 1)) = lenSum (ss.take k) + (gl ss k).length := by
  induction ss generalizing k with
  | nil => simp at h
  | cons s r ih =>
    cases k with
    | zero => simp [lenSum, gl]
    | succ k =>
      have := ih k (by simpa using h)
      simp only [List.take_succ_cons, lenSum] at this ⊢
      rw [this]
      simp [gl]
      omega

theorem lenSum_le (ss : List (Int × List Int)) (k : Nat) : lenSum (ss.take k) ≤ lenSum ss := by
  induction ss generalizing k with
  | nil => simp
  | cons s r ih =>
    cases k with
    | zero => simp [lenSum]
    | succ k => simp only [List.take_succ_cons, lenSum]; have := ih k; omega

theorem gl_le (ss : List (Int × List Int)) (k : Nat) (h : k < ss.length) : (gl ss k).length ≤ lenSum ss := by
  have h1 := lenSum_take ss k h
  have h2 := lenSum_le ss (k + 1)
  omega

/-- a row of n slots under copy: the first k hold ss, their labels in blocks of their own behind N. -/
def HalfS (w : World) (N n k : Nat) (ss : List (Int × List Int)) : Prop :=
  N < w.heap.size ∧ (∀ j, j < k → w.cell? ⟨N, j * 2, none⟩ = some (.int .i64 (gc ss j)) ∧ ∃ lb, w.cell? ⟨N, j * 2 + 1, none⟩ = some (.slice (some ⟨lb, 0, none⟩) (gl ss j).length (gl ss j).length) ∧ N < lb ∧ Blk w lb (gl ss j)) ∧
    (∀ j, j < n * 2 → ∃ v, w.cell? ⟨N, j, none⟩ = some v) ∧ ∀ j, w.frozen? ⟨N, j, none⟩ = false

theorem HalfS.below {w w' : World} {N n k : Nat} {ss : List (Int × List Int)} (h : HalfS w N n k ss) (hb : Below w.heap.size w w') : HalfS w' N n k ss := by
  obtain ⟨h1, h2, h3, h4⟩ := h
  refine ⟨by have := hb.size; omega, fun j hj => ?_, fun j hj => ?_, fun j => (hb.frozen (p := ⟨N, j, none⟩) h1).trans (h4 j)⟩
  · obtain ⟨a, lb, b, c, d⟩ := h2 j hj
    exact ⟨(hb.cell (p := ⟨N, j * 2, none⟩) h1).trans a, lb, (hb.cell (p := ⟨N, j * 2 + 1, none⟩) h1).trans b, c, d.below hb⟩
  · obtain ⟨v, hv⟩ := h3 j hj
    exact ⟨v, (hb.cell (p := ⟨N, j, none⟩) h1).trans hv⟩

theorem HalfS.store {w : World} {N n k lb : Nat} {ss : List (Int × List Int)} (h : HalfS w N n k ss) (hk : k < n) (hlb : N < lb) (hB : Blk w lb (gl ss k)) :
    HalfS ((w.setCell ⟨N, k * 2, none⟩ (.int .i64 (gc ss k))).setCell ⟨N, k * 2 + 1, none⟩ (.slice (some ⟨lb, 0, none⟩) (gl ss k).length (gl ss k).length)) N n (k + 1) ss := by
  obtain ⟨h1, h2, h3, h4⟩ := h
  obtain ⟨v0, hv0⟩ := h3 (k * 2) (by omega)
  obtain ⟨v1, hv1⟩ := h3 (k * 2 + 1) (by omega)
  have ne1 : ∀ i, i ≠ k * 2 → i ≠ k * 2 + 1 → ((w.setCell ⟨N, k * 2, none⟩ (.int .i64 (gc ss k))).setCell ⟨N, k * 2 + 1, none⟩ (.slice (some ⟨lb, 0, none⟩) (gl ss k).length (gl ss k).length)).cell? ⟨N, i, none⟩ = w.cell? ⟨N, i, none⟩ := fun i a b => by
    rw [World.cell?_setCell_other _ _ _ _ (fun e => b (by injection e with _ e2; exact e2.symm)), World.cell?_setCell_other _ _ _ _ (fun e => a (by injection e with _ e2; exact e2.symm))]
  have c0 : ((w.setCell ⟨N, k * 2, none⟩ (.int .i64 (gc ss k))).setCell ⟨N, k * 2 + 1, none⟩ (.slice (some ⟨lb, 0, none⟩) (gl ss k).length (gl ss k).length)).cell? ⟨N, k * 2, none⟩ = some (.int .i64 (gc ss k)) := by
    rw [World.cell?_setCell_other _ _ _ _ (fun e => by injection e with _ e2; omega)]
    exact World.cell?_setCell_same _ _ _ hv0
  have c1 : ((w.setCell ⟨N, k * 2, none⟩ (.int .i64 (gc ss k))).setCell ⟨N, k * 2 + 1, none⟩ (.slice (some ⟨lb, 0, none⟩) (gl ss k).length (gl ss k).length)).cell? ⟨N, k * 2 + 1, none⟩ = some (.slice (some ⟨lb, 0, none⟩) (gl ss k).length (gl ss k).length) :=
    World.cell?_setCell_same _ _ _ ((World.cell?_setCell_other _ _ _ _ (fun e => by injection e with _ e2; omega)).trans hv1)
  refine ⟨by simpa [World.setCell] using h1, fun j hj => ?_, fun j hj => cell?_setCell_some (cell?_setCell_some (h3 j hj).choose_spec).choose_spec, fun j => by simpa using h4 j⟩
  by_cases e : j = k
  · subst e
    exact ⟨c0, lb, c1, hlb, (hB.setCell (by show N ≠ lb; omega) _).setCell (by show N ≠ lb; omega) _⟩
  · obtain ⟨a, lb', b, c, d⟩ := h2 j (by omega)
    exact ⟨(ne1 _ (by omega) (by omega)).trans a, lb', (ne1 _ (by omega) (by omega)).trans b, c, (d.setCell (by show N ≠ lb'; omega) _).setCell (by show N ≠ lb'; omega) _⟩

theorem HalfS.start (w : World) (n : Nat) (ss : List (Int × List Int)) (t : TypeId) : HalfS (w.alloc (.cells (madeCells #[.int .i64 0, .slice none 0 0] (n * 2)) t)) w.heap.size n 0 ss := by
  refine ⟨by simp, fun j hj => by omega, fun j hj => ?_, fun j => by simp⟩
  have hs : j < (madeCells #[.int .i64 0, .slice none 0 0] (n * 2)).size := by rw [size_madeCells]; exact hj
  exact ⟨(madeCells #[.int .i64 0, .slice none 0 0] (n * 2))[j], by rw [World.cell?_alloc_new]; simp [hs]⟩

theorem HalfS.done {w : World} {N n : Nat} {ss : List (Int × List Int)} (h : HalfS w N n n ss) (hn : ss.length = n) (hm : lenSum ss ≤ 1048576) : Sls w (some ⟨N, 0, none⟩) n ss := by
  refine ⟨hn, fun _ => ⟨N, 0, rfl, h.1, fun i hi => ?_⟩⟩
  obtain ⟨a, lb, b, _, d⟩ := h.2.1 i hi
  have hl := gl_le ss i (by omega)
  exact ⟨by simpa using a, some ⟨lb, 0, none⟩, _, _, by simpa using b, by unfold maxLen; omega, d.sl⟩

theorem HalfS.setCell {w : World} {N n k : Nat} {ss : List (Int × List Int)} (h : HalfS w N n k ss) {p : Addr} (hp : p.block < N) (v : Value) : HalfS (w.setCell p v) N n k ss := by
  obtain ⟨h1, h2, h3, h4⟩ := h
  have ne : ∀ i, (w.setCell p v).cell? ⟨N, i, none⟩ = w.cell? ⟨N, i, none⟩ := fun i => World.cell?_setCell_other _ _ _ _ (fun e => by rw [e] at hp; exact Nat.lt_irrefl _ hp)
  refine ⟨by simpa [World.setCell] using h1, fun j hj => ?_, fun j hj => by rw [ne]; exact h3 j hj, fun j => by simpa using h4 j⟩
  obtain ⟨a, lb, b, c, d⟩ := h2 j hj
  exact ⟨(ne _).trans a, lb, (ne _).trans b, c, d.setCell (by omega) _⟩

/-- the first slot that is meant and has the label; -1: none. -/
def hit (ss : List (Int × List Int)) (zs : List Int) (i : Nat) : Bool := decide (0 < gc ss i) && decide (gl ss i = zs)

def at2 (ss : List (Int × List Int)) (zs : List Int) : Int :=
  match (List.range ss.length).find? (hit ss zs) with
  | some i => (i : Int)
  | none => -1

theorem find_first {p : Nat → Bool} {n k : Nat} (hk : k < n) (hno : ∀ j, j < k → p j = false) (hp : p k = true) : (List.range n).find? p = some k := by
  rw [List.find?_range_eq_some]
  exact ⟨hp, by simpa using hk, fun j hj => by simp [hno j hj]⟩

theorem at2_hit {ss : List (Int × List Int)} {zs : List Int} {k : Nat} (hk : k < ss.length) (hno : ∀ j, j < k → hit ss zs j = false) (hp : hit ss zs k = true) : at2 ss zs = (k : Int) := by
  unfold at2
  rw [find_first hk hno hp]

theorem at2_none {ss : List (Int × List Int)} {zs : List Int} (hno : ∀ j, j < ss.length → hit ss zs j = false) : at2 ss zs = -1 := by
  unfold at2
  have : (List.range ss.length).find? (hit ss zs) = none := by
    rw [List.find?_eq_none]
    intro j hj
    simp [hno j (List.mem_range.1 hj)]
  rw [this]

/-- what is wrong with slot i. -/
def slotF (ss : List (Int × List Int)) (i : Nat) : Int :=
  if (decide (0 ≤ gc ss i) && decide (gc ss i ≤ 99)) = false then 3
  else if gc ss i = 0 then (if 0 < (gl ss i).length then 1 else 0)
  else if fault (gl ss i) = 0 then (if at2 ss (gl ss i) = (i : Int) then 0 else 8)
  else fault (gl ss i)

def faultR (ss : List (Int × List Int)) : Int :=
  if 10 < ss.length then 2
  else match (List.range ss.length).find? (fun i => !(slotF ss i == 0)) with
    | some i => slotF ss i
    | none => 0

theorem faultR_many {ss : List (Int × List Int)} (h : 10 < ss.length) : faultR ss = 2 := if_pos h

theorem faultR_hit {ss : List (Int × List Int)} {k : Nat} (h : ss.length ≤ 10) (hk : k < ss.length) (hno : ∀ j, j < k → slotF ss j = 0) (hp : slotF ss k ≠ 0) : faultR ss = slotF ss k := by
  unfold faultR
  rw [if_neg (by omega), find_first hk (fun j hj => by simp [hno j hj]) (by simpa using hp)]

theorem faultR_ok {ss : List (Int × List Int)} (h : ss.length ≤ 10) (hno : ∀ j, j < ss.length → slotF ss j = 0) : faultR ss = 0 := by
  unfold faultR
  rw [if_neg (by omega)]
  have : (List.range ss.length).find? (fun i => !(slotF ss i == 0)) = none := by
    rw [List.find?_eq_none]
    intro j hj
    simp [hno j (List.mem_range.1 hj)]
  rw [this]

theorem slotF_range {ss : List (Int × List Int)} {i : Nat} (h : (decide (0 ≤ gc ss i) && decide (gc ss i ≤ 99)) = false) : slotF ss i = 3 := if_pos h

theorem slotF_form {ss : List (Int × List Int)} {i : Nat} (h0 : gc ss i = 0) (h : 0 < (gl ss i).length) : slotF ss i = 1 := by
  unfold slotF
  rw [if_neg (by rw [h0]; simp), if_pos h0, if_pos h]

theorem slotF_empty {ss : List (Int × List Int)} {i : Nat} (h0 : gc ss i = 0) (h : (gl ss i).length = 0) : slotF ss i = 0 := by
  unfold slotF
  rw [if_neg (by rw [h0]; simp), if_pos h0, if_neg (by omega)]

theorem slotF_label {ss : List (Int × List Int)} {i : Nat} (h : (decide (0 ≤ gc ss i) && decide (gc ss i ≤ 99)) = true) (h0 : gc ss i ≠ 0) (hf : fault (gl ss i) ≠ 0) : slotF ss i = fault (gl ss i) := by
  unfold slotF
  rw [if_neg (by rw [h]; simp), if_neg h0, if_neg hf]

theorem slotF_state {ss : List (Int × List Int)} {i : Nat} (h : (decide (0 ≤ gc ss i) && decide (gc ss i ≤ 99)) = true) (h0 : gc ss i ≠ 0) (hf : fault (gl ss i) = 0) (ha : at2 ss (gl ss i) ≠ (i : Int)) : slotF ss i = 8 := by
  unfold slotF
  rw [if_neg (by rw [h]; simp), if_neg h0, if_pos hf, if_neg ha]

theorem slotF_ok {ss : List (Int × List Int)} {i : Nat} (h : (decide (0 ≤ gc ss i) && decide (gc ss i ≤ 99)) = true) (h0 : gc ss i ≠ 0) (hf : fault (gl ss i) = 0) (ha : at2 ss (gl ss i) = (i : Int)) : slotF ss i = 0 := by
  unfold slotF
  rw [if_neg (by rw [h]; simp), if_neg h0, if_pos hf, if_pos ha]

end Go.Proofs.Ytnlkigjgloeonaa
