import Derived.Test.YtnlkigjgloeonaaGreatRegO
import Derived.WalkKit
import Derived.ProofKit
import Derived.OpenShut
import Derived.ShutString
import Derived.ChangeOld
import Derived.Below
import Derived.WalkSpells
import Derived.Deep.QuietTactic
import Derived.BigQuiet
import Derived.Deep.RegionWith
import Derived.Deep.WholeRow
import Derived.Deep.DeepCutAuto
import Derived.Deep.RegionHeld2
import Derived.Deep.AppendLies
import Derived.Deep.RegionLaw
namespace Go.Proofs.YtnlkigjgloeonaaGreat
open Go.ChangeShapes Go.WideShapes Go.ChangeAt Go.RowKit

/-- the numbers of lines (domain, tag, perm), one behind the other. -/
def fl3 : List (Int × Int × Int) → List Int
  | [] => []
  | l :: r => l.1 :: l.2.1 :: l.2.2 :: fl3 r

def g3 (ls : List (Int × Int × Int)) (i : Nat) : Int × Int × Int := ls.getD i (0, 0, 0)

theorem length_fl3 : ∀ ls : List (Int × Int × Int), (fl3 ls).length = ls.length * 3
  | [] => rfl
  | l :: r => by simp only [fl3, List.length_cons, length_fl3 r]; omega

theorem gt_fl3 : ∀ (ls : List (Int × Int × Int)) (i : Nat), gt (fl3 ls) (i * 3) = (g3 ls i).1 ∧ gt (fl3 ls) (i * 3 + 1) = (g3 ls i).2.1 ∧ gt (fl3 ls) (i * 3 + 2) = (g3 ls i).2.2
  | [], i => by simp [fl3, gt, g3]
  | l :: r, 0 => by simp [fl3, gt, g3]
  | l :: r, i + 1 => by
    have h := gt_fl3 r i
    have e0 : (i + 1) * 3 = i * 3 + 1 + 1 + 1 := by omega
    rw [e0]
    simpa [fl3, gt, g3] using h

theorem fl3_append : ∀ xs ys : List (Int × Int × Int), fl3 (xs ++ ys) = fl3 xs ++ fl3 ys
  | [], _ => rfl
  | l :: r, ys => by simp [fl3, fl3_append r ys]

theorem fl3_take : ∀ (ls : List (Int × Int × Int)) (k : Nat), (fl3 ls).take (k * 3) = fl3 (ls.take k)
  | [], k => by simp [fl3]
  | l :: r, 0 => by simp [fl3]
  | l :: r, k + 1 => by
    have e0 : (k + 1) * 3 = k * 3 + 1 + 1 + 1 := by omega
    rw [e0]
    simp [fl3, fl3_take r k]

theorem fl3_drop : ∀ (ls : List (Int × Int × Int)) (k : Nat), (fl3 ls).drop (k * 3) = fl3 (ls.drop k)
  | [], k => by simp [fl3]
  | l :: r, 0 => by simp [fl3]
  | l :: r, k + 1 => by
    have e0 : (k + 1) * 3 = k * 3 + 1 + 1 + 1 := by omega
    rw [e0]
    simp [fl3, fl3_drop r k]

theorem g3_ext {xs ys : List (Int × Int × Int)} (h : xs.length = ys.length) (h2 : ∀ i, i < xs.length → g3 xs i = g3 ys i) : xs = ys := by
  apply List.ext_getElem h
  intro i h3 h4
  have := h2 i h3
  simpa [g3, h3, h4] using this

theorem g3_take (ls : List (Int × Int × Int)) {k i : Nat} (h : i < k) : g3 (ls.take k) i = g3 ls i := by
  simp [g3, List.getD, h]

/-- a slice of lines (three cells each) that reads as ls. -/
def Sln (w : World) (a : Option Addr) (n : Nat) (ls : List (Int × Int × Int)) : Prop :=
  ls.length = n ∧ (0 < n → ∃ b off, a = some ⟨b, off, none⟩ ∧ b < w.heap.size ∧ ∀ i, i < n * 3 → w.cell? ⟨b, off + i, none⟩ = some (.int .i64 (gt (fl3 ls) i)))

theorem Sln.below {w w' : World} {a : Option Addr} {n : Nat} {ls : List (Int × Int × Int)} (h : Sln w a n ls) {B : Nat} (hb : Below B w w') (hB : w.heap.size ≤ B) : Sln w' a n ls := by
  obtain ⟨h1, h2⟩ := h
  refine ⟨h1, fun hp => ?_⟩
  obtain ⟨b, off, h3, h4, h5⟩ := h2 hp
  exact ⟨b, off, h3, by have := hb.size; omega, fun i hi => (hb.cell (p := ⟨b, off + i, none⟩) (by show b < B; omega)).trans (h5 i hi)⟩

/-- the three cells of line k. -/
theorem cells3 {w : World} {b off n k : Nat} {ls : List (Int × Int × Int)} (h : ∀ i, i < n * 3 → w.cell? ⟨b, off + i, none⟩ = some (.int .i64 (gt (fl3 ls) i))) (hk : k < n) :
    w.cell? ⟨b, off + k * 3, none⟩ = some (.int .i64 (g3 ls k).1) ∧ w.cell? ⟨b, off + k * 3 + 1, none⟩ = some (.int .i64 (g3 ls k).2.1) ∧ w.cell? ⟨b, off + k * 3 + 2, none⟩ = some (.int .i64 (g3 ls k).2.2) := by
  obtain ⟨e0, e1, e2⟩ := gt_fl3 ls k
  rw [← e0, ← e1, ← e2]
  exact ⟨h _ (by omega), h (k * 3 + 1) (by omega), h (k * 3 + 2) (by omega)⟩

theorem Sln.take {w : World} {a : Option Addr} {n k : Nat} {ls : List (Int × Int × Int)} (h : Sln w a n ls) (hk : k ≤ n) : Sln w a k (ls.take k) := by
  obtain ⟨h1, h2⟩ := h
  refine ⟨by simp; omega, fun hp => ?_⟩
  obtain ⟨b, off, h3, h4, h5⟩ := h2 (by omega)
  refine ⟨b, off, h3, h4, fun i hi => ?_⟩
  rw [h5 i (by omega), ← fl3_take]
  simp [gt, hi]

/-- an owned slice of lines: nil, or at the head of a block of S. -/
def OL (S : Nat → Prop) (a : Option Addr) (n : Nat) (ls : List (Int × Int × Int)) (w : World) : Prop :=
  ls.length = n ∧ n ≤ 1048576 ∧ ((n = 0) ∨ ∃ b, a = some ⟨b, 0, none⟩ ∧ S b ∧ Blk w b (fl3 ls))

theorem OL.loc {S : Nat → Prop} {a : Option Addr} {n : Nat} {ls : List (Int × Int × Int)} : Loc S (OL S a n ls) := fun w w' hk h => by
  obtain ⟨h1, h2, h3⟩ := h
  refine ⟨h1, h2, ?_⟩
  rcases h3 with h3 | ⟨b, e, hb, h3⟩
  · exact .inl h3
  · exact .inr ⟨b, e, hb, Blk.loc hb w w' hk h3⟩

theorem OL.sln {S : Nat → Prop} {a : Option Addr} {n : Nat} {ls : List (Int × Int × Int)} {w : World} (h : OL S a n ls w) : Sln w a n ls := by
  obtain ⟨h1, _, h2⟩ := h
  refine ⟨h1, fun hp => ?_⟩
  rcases h2 with h2 | ⟨b, rfl, _, hb⟩
  · omega
  · exact ⟨b, 0, rfl, hb.1, fun i hi => by rw [Nat.zero_add]; exact hb.2.1 i (by rw [length_fl3]; omega)⟩

theorem OL.mono {S S' : Nat → Prop} {a : Option Addr} {n : Nat} {ls : List (Int × Int × Int)} {w : World} (h : OL S a n ls w) (hs : ∀ k, S k → S' k) : OL S' a n ls w := by
  obtain ⟨h1, h0, h2⟩ := h
  refine ⟨h1, h0, ?_⟩
  rcases h2 with h2 | ⟨b, e, h3, h4⟩
  · exact .inl h2
  · exact .inr ⟨b, e, hs b h3, h4⟩

theorem OL.nil (S : Nat → Prop) (a : Option Addr) (w : World) : OL S a 0 [] w := ⟨rfl, by omega, .inl rfl⟩

theorem OL.ofBlk {S : Nat → Prop} {b n : Nat} {ls : List (Int × Int × Int)} {w : World} (h : Blk w b (fl3 ls)) (hb : S b) (hn : ls.length = n) (hl : n ≤ 1048576) : OL S (some ⟨b, 0, none⟩) n ls w := ⟨hn, hl, .inr ⟨b, rfl, hb, h⟩⟩

theorem OL.allocR0 {B T : Nat} {a : Option Addr} {n : Nat} {ls : List (Int × Int × Int)} {w : World} {o : Obj} (h : OL (InR B T) a n ls w) {B' T' : Nat} (hB : B' ≤ B) (hT : T ≤ T') : OL (InR B' T') a n ls (w.alloc o) :=
  (OL.loc.alloc h o).mono (fun k hk => ⟨by have := hk.1; omega, by have := hk.2; omega⟩)

/-- a row of lines under copy: the first k lines of block N hold ls; all cells are there; none is frozen. -/
def Half3 (w : World) (N n k : Nat) (ls : List (Int × Int × Int)) : Prop :=
  N < w.heap.size ∧ (∀ j, j < k * 3 → w.cell? ⟨N, j, none⟩ = some (.int .i64 (gt (fl3 ls) j))) ∧ (∀ j, j < n * 3 → ∃ v, w.cell? ⟨N, j, none⟩ = some v) ∧ ∀ j, w.frozen? ⟨N, j, none⟩ = false

theorem Half3.below {w w' : World} {N n k : Nat} {ls : List (Int × Int × Int)} (h : Half3 w N n k ls) (hb : Below w.heap.size w w') : Half3 w' N n k ls :=
  ⟨by have := hb.size; have := h.1; omega, fun j hj => (hb.cell (p := ⟨N, j, none⟩) h.1).trans (h.2.1 j hj), fun j hj => by obtain ⟨v, hv⟩ := h.2.2.1 j hj; exact ⟨v, (hb.cell (p := ⟨N, j, none⟩) h.1).trans hv⟩, fun j => (hb.frozen (p := ⟨N, j, none⟩) h.1).trans (h.2.2.2 j)⟩

/-- three stores, one behind the other. -/
def set3 (w : World) (N o : Nat) (x : Int × Int × Int) : World := ((w.setCell ⟨N, o, none⟩ (.int .i64 x.1)).setCell ⟨N, o + 1, none⟩ (.int .i64 x.2.1)).setCell ⟨N, o + 2, none⟩ (.int .i64 x.2.2)

theorem set3_other (w : World) (N o : Nat) (x : Int × Int × Int) (j : Nat) (h : j < o ∨ o + 2 < j) : (set3 w N o x).cell? ⟨N, j, none⟩ = w.cell? ⟨N, j, none⟩ := by
  unfold set3
  rw [World.cell?_setCell_other _ _ _ _ (fun e => by injection e with _ e2; omega), World.cell?_setCell_other _ _ _ _ (fun e => by injection e with _ e2; omega), World.cell?_setCell_other _ _ _ _ (fun e => by injection e with _ e2; omega)]

theorem set3_at (w : World) (N o : Nat) (x : Int × Int × Int) (h0 : ∃ v, w.cell? ⟨N, o, none⟩ = some v) (h1 : ∃ v, w.cell? ⟨N, o + 1, none⟩ = some v) (h2 : ∃ v, w.cell? ⟨N, o + 2, none⟩ = some v) :
    (set3 w N o x).cell? ⟨N, o, none⟩ = some (.int .i64 x.1) ∧ (set3 w N o x).cell? ⟨N, o + 1, none⟩ = some (.int .i64 x.2.1) ∧ (set3 w N o x).cell? ⟨N, o + 2, none⟩ = some (.int .i64 x.2.2) := by
  obtain ⟨v0, h0⟩ := h0
  obtain ⟨v1, h1⟩ := h1
  obtain ⟨v2, h2⟩ := h2
  unfold set3
  refine ⟨?_, ?_, ?_⟩
  · rw [World.cell?_setCell_other _ _ _ _ (fun e => by injection e with _ e2; omega), World.cell?_setCell_other _ _ _ _ (fun e => by injection e with _ e2; omega)]
    exact World.cell?_setCell_same _ _ _ h0
  · rw [World.cell?_setCell_other _ _ _ _ (fun e => by injection e with _ e2; omega)]
    exact World.cell?_setCell_same _ _ _ ((World.cell?_setCell_other _ _ _ _ (fun e => by injection e with _ e2; omega)).trans h1)
  · exact World.cell?_setCell_same _ _ _ ((World.cell?_setCell_other _ _ _ _ (fun e => by injection e with _ e2; omega)).trans ((World.cell?_setCell_other _ _ _ _ (fun e => by injection e with _ e2; omega)).trans h2))

theorem set3_some (w : World) (N o : Nat) (x : Int × Int × Int) (j : Nat) (h : ∃ v, w.cell? ⟨N, j, none⟩ = some v) : ∃ v, (set3 w N o x).cell? ⟨N, j, none⟩ = some v := by
  obtain ⟨v, hv⟩ := h
  exact cell?_setCell_some (cell?_setCell_some (cell?_setCell_some hv).choose_spec).choose_spec

theorem Half3.store {w : World} {N n k : Nat} {ls : List (Int × Int × Int)} (h : Half3 w N n k ls) (hk : k < n) : Half3 (set3 w N (k * 3) (g3 ls k)) N n (k + 1) ls := by
  obtain ⟨h1, h2, h3, h4⟩ := h
  obtain ⟨a0, a1, a2⟩ := set3_at w N (k * 3) (g3 ls k) (h3 _ (by omega)) (h3 _ (by omega)) (h3 _ (by omega))
  obtain ⟨e0, e1, e2⟩ := gt_fl3 ls k
  refine ⟨by simpa [set3] using h1, fun j hj => ?_, fun j hj => set3_some _ _ _ _ _ (h3 j hj), fun j => by simpa [set3] using h4 j⟩
  by_cases e : j < k * 3
  · rw [set3_other _ _ _ _ _ (.inl e)]; exact h2 j e
  · rcases (show j = k * 3 ∨ j = k * 3 + 1 ∨ j = k * 3 + 2 by omega) with rfl | rfl | rfl
    · rw [a0, e0]
    · rw [a1, e1]
    · rw [a2, e2]

theorem Half3.start (w : World) (n : Nat) (ls : List (Int × Int × Int)) (t : TypeId) : Half3 (w.alloc (.cells (madeCells #[.int .i64 0, .int .i64 0, .int .i64 0] (n * 3)) t)) w.heap.size n 0 ls := by
  refine ⟨by simp, fun j hj => by omega, fun j hj => ?_, fun j => by simp⟩
  have hs : j < (madeCells #[.int .i64 0, .int .i64 0, .int .i64 0] (n * 3)).size := by rw [size_madeCells]; exact hj
  exact ⟨(madeCells #[.int .i64 0, .int .i64 0, .int .i64 0] (n * 3))[j], by rw [World.cell?_alloc_new]; simp [hs]⟩

theorem Half3.done {w : World} {N n : Nat} {ls : List (Int × Int × Int)} (h : Half3 w N n n ls) (hn : ls.length = n) : Blk w N (fl3 ls) :=
  ⟨h.1, fun j hj => h.2.1 j (by rw [length_fl3] at hj; omega), h.2.2.2⟩

/-- marks of lines. -/
def mk3 (m : Int) (n : Nat) : List (Int × Int × Int) := (List.range n).map (fun j : Nat => (m + 3 * (j : Int), m + 3 * (j : Int) + 1, m + 3 * (j : Int) + 2))

theorem length_mk3 (m : Int) (n : Nat) : (mk3 m n).length = n := by simp [mk3]

theorem g3_mk3 (m : Int) (n j : Nat) (h : j < n) : g3 (mk3 m n) j = (m + 3 * (j : Int), m + 3 * (j : Int) + 1, m + 3 * (j : Int) + 2) := by simp [mk3, g3, h]

theorem gt_marks3 (m : Int) (n j : Nat) (h : j < n * 3) : gt (fl3 (mk3 m n)) j = m + j := by
  obtain ⟨e0, e1, e2⟩ := gt_fl3 (mk3 m n) (j / 3)
  rw [g3_mk3 m n (j / 3) (by omega)] at e0 e1 e2
  rcases (show j = j / 3 * 3 ∨ j = j / 3 * 3 + 1 ∨ j = j / 3 * 3 + 2 by omega) with e | e | e
  · rw [← e] at e0; rw [e0]; simp only; omega
  · rw [← e] at e1; rw [e1]; simp only; omega
  · rw [← e] at e2; rw [e2]; simp only; omega

theorem MRow.done3 {w : World} {b n : Nat} {m : Int} (h : MRow w b (n * 3) (n * 3) m) : Blk w b (fl3 (mk3 m n)) :=
  ⟨h.1, fun j hj => by rw [length_fl3, length_mk3] at hj; rw [gt_marks3 m n j hj]; exact h.2.1 j hj, h.2.2.2⟩

end Go.Proofs.YtnlkigjgloeonaaGreat
