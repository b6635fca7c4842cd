import Derived.Test.YtnibngigbcakkaaGreatF1
import Derived.Laws.IdiomCopy
import Derived.Laws.OwnMore
import Derived.WalkKit
import Derived.ProofKit
import Derived.OpenShut
import Derived.ShutString
import Derived.ChangeOld
import Derived.Below
import Derived.WalkSpells
import Derived.Deep.QuietTactic
import Derived.BigQuiet
import Derived.Deep.RegionWith
import Derived.Deep.WholeRow
import Derived.Deep.DeepCutAuto
import Derived.Deep.RegionHeld2
import Derived.Deep.AppendLies
import Derived.Deep.RegionLaw
namespace Go.Proofs.YtnibngigbcakkaaGreat
open Go.ChangeShapes Go.WideShapes Go.ChangeAt Go.RowKit

/-- marks k, k+1, .. -/
def marksFrom (k : Int) (n : Nat) : List Int := (List.range n).map (fun j : Nat => k + (j : Int))

theorem length_marksFrom (k : Int) (n : Nat) : (marksFrom k n).length = n := by simp [marksFrom]

theorem gt_marksFrom (k : Int) (n j : Nat) (h : j < n) : gt (marksFrom k n) j = k + j := by simp [marksFrom, gt, h]

/-- a row that is being marked: the first k hold marks, all n are there. -/
def MRow (w : World) (b n k : Nat) (m : Int) : Prop :=
  b < w.heap.size ∧ (∀ j, j < k → w.cell? ⟨b, j, none⟩ = some (.int .i64 (m + j))) ∧ (∀ j, j < n → ∃ v, w.cell? ⟨b, j, none⟩ = some v) ∧ ∀ j, w.frozen? ⟨b, j, none⟩ = false

theorem MRow.start {w : World} {b : Nat} {rs : List Int} {m : Int} (h : Blk w b rs) : MRow w b rs.length 0 m := ⟨h.1, fun j hj => by omega, fun j hj => ⟨_, h.2.1 j hj⟩, h.2.2⟩

theorem MRow.store {w : World} {b n k : Nat} {m : Int} (h : MRow w b n k m) (hk : k < n) : MRow (w.setCell ⟨b, k, none⟩ (.int .i64 (m + k))) b n (k + 1) m := by
  obtain ⟨h1, h2, h3, h4⟩ := h
  obtain ⟨v, hv⟩ := h3 k hk
  refine ⟨by simpa using h1, fun j hj => ?_, fun j hj => ?_, fun j => by simpa using h4 j⟩
  · by_cases e : j = k
    · subst e; exact World.cell?_setCell_same _ _ _ hv
    · rw [World.cell?_setCell_other _ _ _ _ (fun h => e (by injection h with _ h2; exact h2.symm))]; exact h2 j (by omega)
  · exact cell?_setCell_some (h3 j hj).choose_spec

theorem MRow.done {w : World} {b n : Nat} {m : Int} (h : MRow w b n n m) : Blk w b (marksFrom m n) :=
  ⟨h.1, fun j hj => by rw [length_marksFrom] at hj; rw [gt_marksFrom m n j hj]; exact h.2.1 j hj, h.2.2.2⟩

/-- the body of an owned slice of slots: block N, label i in block lb i. -/
structure ORb (S : Nat → Prop) (N n : Nat) (la : Nat → Option Addr) (lc lb : Nat → Nat) (fc : Nat → Int) (fl : Nat → List Int) (w : World) : Prop where
  hS : S N
  lt : N < w.heap.size
  fz : ∀ j, w.frozen? ⟨N, j, none⟩ = false
  c0 : ∀ i, i < n → w.cell? ⟨N, i * 2, none⟩ = some (.int .i64 (fc i))
  c1 : ∀ i, i < n → w.cell? ⟨N, i * 2 + 1, none⟩ = some (.slice (la i) (fl i).length (lc i))
  os : ∀ i, i < n → OS (fun k => k = lb i ∧ 0 < (fl i).length) (la i) (fl i).length (fl i) w
  lS : ∀ i, i < n → 0 < (fl i).length → S (lb i)
  ne : ∀ i, i < n → 0 < (fl i).length → lb i ≠ N
  ap : ∀ i j, i < n → j < n → i ≠ j → 0 < (fl i).length → 0 < (fl j).length → lb i ≠ lb j

theorem OR.body {S : Nat → Prop} {a : Option Addr} {n : Nat} {ss : List (Int × List Int)} {w : World} (h : OR S a n ss w) (hn : 0 < n) : ∃ N la lc lb, a = some ⟨N, 0, none⟩ ∧ ORb S N n la lc lb (gc ss) (gl ss) w := by
  obtain ⟨_, _, h3⟩ := h
  rcases h3 with h3 | ⟨N, la, lc, lb, e, hS, hN, hf, hc, hd⟩
  · omega
  · exact ⟨N, la, lc, lb, e, hS, hN, hf, fun i hi => (hc i hi).1, fun i hi => (hc i hi).2.1, fun i hi => (hc i hi).2.2.1, fun i hi h => ((hc i hi).2.2.2 h).1, fun i hi h => ((hc i hi).2.2.2 h).2, hd⟩

theorem ORb.or {S : Nat → Prop} {N n : Nat} {la : Nat → Option Addr} {lc lb : Nat → Nat} {ss : List (Int × List Int)} {w : World} (h : ORb S N n la lc lb (gc ss) (gl ss) w) (hn : ss.length = n) (hl : n + lenSum ss ≤ 1048576) : OR S (some ⟨N, 0, none⟩) n ss w :=
  ⟨hn, hl, .inr ⟨N, la, lc, lb, rfl, h.hS, h.lt, h.fz, fun i hi => ⟨h.c0 i hi, h.c1 i hi, h.os i hi, fun hl => ⟨h.lS i hi hl, h.ne i hi hl⟩⟩, h.ap⟩⟩

theorem ORb.congr {S : Nat → Prop} {N n : Nat} {la : Nat → Option Addr} {lc lb : Nat → Nat} {fc fc' : Nat → Int} {fl fl' : Nat → List Int} {w : World} (h : ORb S N n la lc lb fc fl w) (h1 : ∀ i, i < n → fc i = fc' i) (h2 : ∀ i, i < n → fl i = fl' i) : ORb S N n la lc lb fc' fl' w :=
  ⟨h.hS, h.lt, h.fz, fun i hi => h1 i hi ▸ h.c0 i hi, fun i hi => h2 i hi ▸ h.c1 i hi, fun i hi => h2 i hi ▸ h.os i hi, fun i hi hl => h.lS i hi (by rw [h2 i hi]; exact hl), fun i hi hl => h.ne i hi (by rw [h2 i hi]; exact hl), fun i j hi hj e a b => h.ap i j hi hj e (by rw [h2 i hi]; exact a) (by rw [h2 j hj]; exact b)⟩

theorem ORb.below {S : Nat → Prop} {N n : Nat} {la : Nat → Option Addr} {lc lb : Nat → Nat} {fc : Nat → Int} {fl : Nat → List Int} {w w' : World} (h : ORb S N n la lc lb fc fl w) (hb : Below w.heap.size w w') : ORb S N n la lc lb fc fl w' :=
  ⟨h.hS, by have := hb.size; have := h.lt; omega, fun j => (hb.frozen (p := ⟨N, j, none⟩) h.lt).trans (h.fz j), fun i hi => (hb.cell (p := ⟨N, i * 2, none⟩) h.lt).trans (h.c0 i hi), fun i hi => (hb.cell (p := ⟨N, i * 2 + 1, none⟩) h.lt).trans (h.c1 i hi), fun i hi => OS.loc.below hb (h.os i hi), h.lS, h.ne, h.ap⟩

def upd {α : Type} (f : Nat → α) (i : Nat) (x : α) (j : Nat) : α := if j = i then x else f j

theorem ORb.setCount {S : Nat → Prop} {N n : Nat} {la : Nat → Option Addr} {lc lb : Nat → Nat} {fc : Nat → Int} {fl : Nat → List Int} {w : World} (h : ORb S N n la lc lb fc fl w) {i : Nat} (hi : i < n) (c : Int) : ORb S N n la lc lb (upd fc i c) fl (w.setCell ⟨N, i * 2, none⟩ (.int .i64 c)) := by
  refine ⟨h.hS, by simpa using h.lt, fun j => by simpa using h.fz j, fun j hj => ?_, fun j hj => ?_, fun j hj => ?_, h.lS, h.ne, h.ap⟩
  · unfold upd
    by_cases e : j = i
    · subst e; rw [if_pos rfl]; exact World.cell?_setCell_same _ _ _ (h.c0 j hj)
    · rw [if_neg e, World.cell?_setCell_other _ _ _ _ (fun h => by injection h with _ h2; omega)]; exact h.c0 j hj
  · rw [World.cell?_setCell_other _ _ _ _ (fun h => by injection h with _ h2; omega)]; exact h.c1 j hj
  · refine OS.loc w _ (fun k hk _ => Below.heap_setCell _ _ _ _ (fun e => h.ne j hj hk.2 (hk.1.symm.trans e))) (h.os j hj)

theorem lenSum_congr : ∀ (ss rr : List (Int × List Int)), ss.length = rr.length → (∀ j, j < ss.length → (gl ss j).length = (gl rr j).length) → lenSum ss = lenSum rr
  | [], [], _, _ => rfl
  | [], _ :: _, h, _ => by simp at h
  | _ :: _, [], h, _ => by simp at h
  | s :: r, t :: q, h, hl => by
    have h0 := hl 0 (by simp)
    have ih := lenSum_congr r q (by simpa using h) (fun j hj => by have := hl (j + 1) (by simpa using hj); simpa [gl] using this)
    simp [lenSum, gl] at h0 ⊢
    omega

/-- the numbers of lines (domain, tag, perm), one behind the other. -/
def fl3 : List (Int × Int × Int) → List Int
  | [] => []
  | l :: r => l.1 :: l.2.1 :: l.2.2 :: fl3 r

def g3 (ls : List (Int × Int × Int)) (i : Nat) : Int × Int × Int := ls.getD i (0, 0, 0)

theorem length_fl3 : ∀ ls : List (Int × Int × Int), (fl3 ls).length = ls.length * 3
  | [] => rfl
  | l :: r => by simp only [fl3, List.length_cons, length_fl3 r]; omega

theorem gt_fl3 : ∀ (ls : List (Int × Int × Int)) (i : Nat), gt (fl3 ls) (i * 3) = (g3 ls i).1 ∧ gt (fl3 ls) (i * 3 + 1) = (g3 ls i).2.1 ∧ gt (fl3 ls) (i * 3 + 2) = (g3 ls i).2.2
  | [], i => by simp [fl3, gt, g3]
  | l :: r, 0 => by simp [fl3, gt, g3]
  | l :: r, i + 1 => by
    have h := gt_fl3 r i
    have e0 : (i + 1) * 3 = i * 3 + 1 + 1 + 1 := by omega
    rw [e0]
    simpa [fl3, gt, g3] using h

theorem fl3_append : ∀ xs ys : List (Int × Int × Int), fl3 (xs ++ ys) = fl3 xs ++ fl3 ys
  | [], _ => rfl
  | l :: r, ys => by simp [fl3, fl3_append r ys]

theorem fl3_take : ∀ (ls : List (Int × Int × Int)) (k : Nat), (fl3 ls).take (k * 3) = fl3 (ls.take k)
  | [], k => by simp [fl3]
  | l :: r, 0 => by simp [fl3]
  | l :: r, k + 1 => by
    have e0 : (k + 1) * 3 = k * 3 + 1 + 1 + 1 := by omega
    rw [e0]
    simp [fl3, fl3_take r k]

theorem fl3_drop : ∀ (ls : List (Int × Int × Int)) (k : Nat), (fl3 ls).drop (k * 3) = fl3 (ls.drop k)
  | [], k => by simp [fl3]
  | l :: r, 0 => by simp [fl3]
  | l :: r, k + 1 => by
    have e0 : (k + 1) * 3 = k * 3 + 1 + 1 + 1 := by omega
    rw [e0]
    simp [fl3, fl3_drop r k]

theorem g3_take (ls : List (Int × Int × Int)) {k i : Nat} (h : i < k) : g3 (ls.take k) i = g3 ls i := by
  simp [g3, List.getD, h]

/-- a slice of lines (three cells each) that reads as ls. -/
def Sln (w : World) (a : Option Addr) (n : Nat) (ls : List (Int × Int × Int)) : Prop :=
  ls.length = n ∧ (0 < n → ∃ b off, a = some ⟨b, off, none⟩ ∧ b < w.heap.size ∧ ∀ i, i < n * 3 → w.cell? ⟨b, off + i, none⟩ = some (.int .i64 (gt (fl3 ls) i)))

theorem Sln.below {w w' : World} {a : Option Addr} {n : Nat} {ls : List (Int × Int × Int)} (h : Sln w a n ls) {B : Nat} (hb : Below B w w') (hB : w.heap.size ≤ B) : Sln w' a n ls := by
  obtain ⟨h1, h2⟩ := h
  refine ⟨h1, fun hp => ?_⟩
  obtain ⟨b, off, h3, h4, h5⟩ := h2 hp
  exact ⟨b, off, h3, by have := hb.size; omega, fun i hi => (hb.cell (p := ⟨b, off + i, none⟩) (by show b < B; omega)).trans (h5 i hi)⟩

/-- the three cells of line k. -/
theorem cells3 {w : World} {b off n k : Nat} {ls : List (Int × Int × Int)} (h : ∀ i, i < n * 3 → w.cell? ⟨b, off + i, none⟩ = some (.int .i64 (gt (fl3 ls) i))) (hk : k < n) :
    w.cell? ⟨b, off + k * 3, none⟩ = some (.int .i64 (g3 ls k).1) ∧ w.cell? ⟨b, off + k * 3 + 1, none⟩ = some (.int .i64 (g3 ls k).2.1) ∧ w.cell? ⟨b, off + k * 3 + 2, none⟩ = some (.int .i64 (g3 ls k).2.2) := by
  obtain ⟨e0, e1, e2⟩ := gt_fl3 ls k
  rw [← e0, ← e1, ← e2]
  exact ⟨h _ (by omega), h (k * 3 + 1) (by omega), h (k * 3 + 2) (by omega)⟩

theorem Sln.take {w : World} {a : Option Addr} {n k : Nat} {ls : List (Int × Int × Int)} (h : Sln w a n ls) (hk : k ≤ n) : Sln w a k (ls.take k) := by
  obtain ⟨h1, h2⟩ := h
  refine ⟨by simp; omega, fun hp => ?_⟩
  obtain ⟨b, off, h3, h4, h5⟩ := h2 (by omega)
  refine ⟨b, off, h3, h4, fun i hi => ?_⟩
  rw [h5 i (by omega), ← fl3_take]
  simp [gt, hi]

/-- an owned slice of lines: nil, or at the head of a block of S. -/
def OL (S : Nat → Prop) (a : Option Addr) (n : Nat) (ls : List (Int × Int × Int)) (w : World) : Prop :=
  ls.length = n ∧ n ≤ 1048576 ∧ ((n = 0) ∨ ∃ b, a = some ⟨b, 0, none⟩ ∧ S b ∧ Blk w b (fl3 ls))

theorem OL.loc {S : Nat → Prop} {a : Option Addr} {n : Nat} {ls : List (Int × Int × Int)} : Loc S (OL S a n ls) := fun w w' hk h => by
  obtain ⟨h1, h2, h3⟩ := h
  refine ⟨h1, h2, ?_⟩
  rcases h3 with h3 | ⟨b, e, hb, h3⟩
  · exact .inl h3
  · exact .inr ⟨b, e, hb, Blk.loc hb w w' hk h3⟩

theorem OL.sln {S : Nat → Prop} {a : Option Addr} {n : Nat} {ls : List (Int × Int × Int)} {w : World} (h : OL S a n ls w) : Sln w a n ls := by
  obtain ⟨h1, _, h2⟩ := h
  refine ⟨h1, fun hp => ?_⟩
  rcases h2 with h2 | ⟨b, rfl, _, hb⟩
  · omega
  · exact ⟨b, 0, rfl, hb.1, fun i hi => by rw [Nat.zero_add]; exact hb.2.1 i (by rw [length_fl3]; omega)⟩

theorem OL.mono {S S' : Nat → Prop} {a : Option Addr} {n : Nat} {ls : List (Int × Int × Int)} {w : World} (h : OL S a n ls w) (hs : ∀ k, S k → S' k) : OL S' a n ls w := by
  obtain ⟨h1, h0, h2⟩ := h
  refine ⟨h1, h0, ?_⟩
  rcases h2 with h2 | ⟨b, e, h3, h4⟩
  · exact .inl h2
  · exact .inr ⟨b, e, hs b h3, h4⟩

theorem OL.nil (S : Nat → Prop) (a : Option Addr) (w : World) : OL S a 0 [] w := ⟨rfl, by omega, .inl rfl⟩

theorem OL.ofBlk {S : Nat → Prop} {b n : Nat} {ls : List (Int × Int × Int)} {w : World} (h : Blk w b (fl3 ls)) (hb : S b) (hn : ls.length = n) (hl : n ≤ 1048576) : OL S (some ⟨b, 0, none⟩) n ls w := ⟨hn, hl, .inr ⟨b, rfl, hb, h⟩⟩

/-- a row of lines under copy: the first k lines of block N hold ls; all cells are there; none is frozen. -/
def Half3 (w : World) (N n k : Nat) (ls : List (Int × Int × Int)) : Prop :=
  N < w.heap.size ∧ (∀ j, j < k * 3 → w.cell? ⟨N, j, none⟩ = some (.int .i64 (gt (fl3 ls) j))) ∧ (∀ j, j < n * 3 → ∃ v, w.cell? ⟨N, j, none⟩ = some v) ∧ ∀ j, w.frozen? ⟨N, j, none⟩ = false

theorem Half3.below {w w' : World} {N n k : Nat} {ls : List (Int × Int × Int)} (h : Half3 w N n k ls) (hb : Below w.heap.size w w') : Half3 w' N n k ls :=
  ⟨by have := hb.size; have := h.1; omega, fun j hj => (hb.cell (p := ⟨N, j, none⟩) h.1).trans (h.2.1 j hj), fun j hj => by obtain ⟨v, hv⟩ := h.2.2.1 j hj; exact ⟨v, (hb.cell (p := ⟨N, j, none⟩) h.1).trans hv⟩, fun j => (hb.frozen (p := ⟨N, j, none⟩) h.1).trans (h.2.2.2 j)⟩

/-- three stores, one behind the other. -/
def set3 (w : World) (N o : Nat) (x : Int × Int × Int) : World := ((w.setCell ⟨N, o, none⟩ (.int .i64 x.1)).setCell ⟨N, o + 1, none⟩ (.int .i64 x.2.1)).setCell ⟨N, o + 2, none⟩ (.int .i64 x.2.2)

theorem set3_other (w : World) (N o : Nat) (x : Int × Int × Int) (j : Nat) (h : j < o ∨ o + 2 < j) : (set3 w N o x).cell? ⟨N, j, none⟩ = w.cell? ⟨N, j, none⟩ := by
  unfold set3
  rw [World.cell?_setCell_other _ _ _ _ (fun e => by injection e with _ e2; omega), World.cell?_setCell_other _ _ _ _ (fun e => by injection e with _ e2; omega), World.cell?_setCell_other _ _ _ _ (fun e => by injection e with _ e2; omega)]

theorem set3_at (w : World) (N o : Nat) (x : Int × Int × Int) (h0 : ∃ v, w.cell? ⟨N, o, none⟩ = some v) (h1 : ∃ v, w.cell? ⟨N, o + 1, none⟩ = some v) (h2 : ∃ v, w.cell? ⟨N, o + 2, none⟩ = some v) :
    (set3 w N o x).cell? ⟨N, o, none⟩ = some (.int .i64 x.1) ∧ (set3 w N o x).cell? ⟨N, o + 1, none⟩ = some (.int .i64 x.2.1) ∧ (set3 w N o x).cell? ⟨N, o + 2, none⟩ = some (.int .i64 x.2.2) := by
  obtain ⟨v0, h0⟩ := h0
  obtain ⟨v1, h1⟩ := h1
  obtain ⟨v2, h2⟩ := h2
  unfold set3
  refine ⟨?_, ?_, ?_⟩
  · rw [World.cell?_setCell_other _ _ _ _ (fun e => by injection e with _ e2; omega), World.cell?_setCell_other _ _ _ _ (fun e => by injection e with _ e2; omega)]
    exact World.cell?_setCell_same _ _ _ h0
  · rw [World.cell?_setCell_other _ _ _ _ (fun e => by injection e with _ e2; omega)]
    exact World.cell?_setCell_same _ _ _ ((World.cell?_setCell_other _ _ _ _ (fun e => by injection e with _ e2; omega)).trans h1)
  · exact World.cell?_setCell_same _ _ _ ((World.cell?_setCell_other _ _ _ _ (fun e => by injection e with _ e2; omega)).trans ((World.cell?_setCell_other _ _ _ _ (fun e => by injection e with _ e2; omega)).trans h2))

theorem set3_some (w : World) (N o : Nat) (x : Int × Int × Int) (j : Nat) (h : ∃ v, w.cell? ⟨N, j, none⟩ = some v) : ∃ v, (set3 w N o x).cell? ⟨N, j, none⟩ = some v := by
  obtain ⟨v, hv⟩ := h
  exact cell?_setCell_some (cell?_setCell_some (cell?_setCell_some hv).choose_spec).choose_spec

theorem Half3.store {w : World} {N n k : Nat} {ls : List (Int × Int × Int)} (h : Half3 w N n k ls) (hk : k < n) : Half3 (set3 w N (k * 3) (g3 ls k)) N n (k + 1) ls := by
  obtain ⟨h1, h2, h3, h4⟩ := h
  obtain ⟨a0, a1, a2⟩ := set3_at w N (k * 3) (g3 ls k) (h3 _ (by omega)) (h3 _ (by omega)) (h3 _ (by omega))
  obtain ⟨e0, e1, e2⟩ := gt_fl3 ls k
  refine ⟨by simpa [set3] using h1, fun j hj => ?_, fun j hj => set3_some _ _ _ _ _ (h3 j hj), fun j => by simpa [set3] using h4 j⟩
  by_cases e : j < k * 3
  · rw [set3_other _ _ _ _ _ (.inl e)]; exact h2 j e
  · rcases (show j = k * 3 ∨ j = k * 3 + 1 ∨ j = k * 3 + 2 by omega) with rfl | rfl | rfl
    · rw [a0, e0]
    · rw [a1, e1]
    · rw [a2, e2]

theorem Half3.start (w : World) (n : Nat) (ls : List (Int × Int × Int)) (t : TypeId) : Half3 (w.alloc (.cells (madeCells #[.int .i64 0, .int .i64 0, .int .i64 0] (n * 3)) t)) w.heap.size n 0 ls := by
  refine ⟨by simp, fun j hj => by omega, fun j hj => ?_, fun j => by simp⟩
  have hs : j < (madeCells #[.int .i64 0, .int .i64 0, .int .i64 0] (n * 3)).size := by rw [size_madeCells]; exact hj
  exact ⟨(madeCells #[.int .i64 0, .int .i64 0, .int .i64 0] (n * 3))[j], by rw [World.cell?_alloc_new]; simp [hs]⟩

theorem Half3.done {w : World} {N n : Nat} {ls : List (Int × Int × Int)} (h : Half3 w N n n ls) (hn : ls.length = n) : Blk w N (fl3 ls) :=
  ⟨h.1, fun j hj => h.2.1 j (by rw [length_fl3] at hj; omega), h.2.2.2⟩

/-- numbers as values. -/
abbrev vs3 (ls : List (Int × Int × Int)) : List Value := (fl3 ls).map (Value.int .i64)

theorem length_vs3 (ls : List (Int × Int × Int)) : (vs3 ls).length = ls.length * 3 := by rw [List.length_map, length_fl3]

theorem own_ol {w : World} {B0 : Nat} {e : TypeId} {v : Value} {n : Nat} {ls : List (Int × Int × Int)} (hn : n ≤ 1048576) (hl : ls.length = n) (h : w.ownsRow B0 e 3 v n (vs3 ls)) : ∃ a c, v = .slice a n c ∧ OL (InR B0 w.heap.size) a n ls w := by
  rcases h.2 with ⟨rfl, h0⟩ | ⟨g, cap, cur, rfl, hb, hg, hc, _, hs, ht⟩
  · exact ⟨none, 0, by rw [h0], hl, hn, .inl h0⟩
  · have hlt : g < w.heap.size := (Array.getElem?_eq_some_iff.1 hg).1
    refine ⟨_, cap, rfl, hl, hn, .inr ⟨g, rfl, ⟨hb, hlt⟩, hlt, fun i hi => ?_, fun i => by simp [World.frozen?, hg]⟩⟩
    have hcell := h.cells (g := g) rfl i (.int .i64 (gt (fl3 ls) i)) (by simp [gt, hi])
    have hadd : (Addr.mk g 0 none).add i = ⟨g, i, none⟩ := by cases i <;> simp [Addr.add]
    rwa [hadd] at hcell

/-- a row cut to its first k elements is owned as well. -/
theorem own_take {w : World} {B g n k cap : Nat} {e : TypeId} {xs : List Value} (h : w.ownsRow B e 3 (.slice (some ⟨g, 0, none⟩) n cap) n xs) (hk : k ≤ n) : w.ownsRow B e 3 (.slice (some ⟨g, 0, none⟩) k cap) k (xs.take (k * 3)) := by
  refine ⟨by rw [List.length_take, h.1]; omega, ?_⟩
  rcases h.2 with ⟨h', _⟩ | ⟨g', cap', cur, h', hb, hg, hnc, hcm, hcs, ht⟩
  · simp at h'
  · simp only [Value.slice.injEq, Option.some.injEq, Addr.mk.injEq, and_true, true_and] at h'
    obtain ⟨rfl, rfl⟩ := h'
    refine .inr ⟨g, cap, cur, rfl, hb, hg, by omega, hcm, hcs, ?_⟩
    rw [← ht, List.take_take, Nat.min_eq_left (by omega)]

theorem own_room {w : World} {B g n cap : Nat} {e : TypeId} {xs : List Value} (h : w.ownsRow B e 3 (.slice (some ⟨g, 0, none⟩) n cap) n xs) : n ≤ cap ∧ cap ≤ maxLen ∧ B ≤ g ∧ g < w.heap.size := by
  rcases h.2 with ⟨h', _⟩ | ⟨g', cap', cur, h', hb, hg, hnc, hcm, hcs, ht⟩
  · simp at h'
  · simp only [Value.slice.injEq, Option.some.injEq, Addr.mk.injEq, and_true, true_and] at h'
    obtain ⟨rfl, rfl⟩ := h'
    exact ⟨hnc, hcm, hb, (Array.getElem?_eq_some_iff.1 hg).1⟩

theorem own_cell {w : World} {B g n cap : Nat} {e : TypeId} {ys : List Int} (h : w.ownsRow B e 3 (.slice (some ⟨g, 0, none⟩) n cap) n (ys.map (Value.int .i64))) {j : Nat} (hj : j < n * 3) : w.cell? ⟨g, j, none⟩ = some (.int .i64 (gt ys j)) := by
  have hl : ys.length = n * 3 := by have := h.1; rwa [List.length_map] at this
  have hcell := h.cells (g := g) rfl j (.int .i64 (gt ys j)) (by simp [gt, show j < ys.length by omega])
  have hadd : (Addr.mk g 0 none).add j = ⟨g, j, none⟩ := by cases j <;> simp [Addr.add]
  rwa [hadd] at hcell

theorem own_below {w w' : World} {B n : Nat} {e : TypeId} {v : Value} {xs : List Value} (h : w.ownsRow B e 3 v n xs) (hb : Below w.heap.size w w') : w'.ownsRow B e 3 v n xs := by
  refine ⟨h.1, ?_⟩
  rcases h.2 with h' | ⟨g, cap, cur, h', hB, hg, r⟩
  · exact .inl h'
  · exact .inr ⟨g, cap, cur, h', hB, (hb.block g (Array.getElem?_eq_some_iff.1 hg).1).trans hg, r⟩

theorem own_mono {w : World} {B B' n : Nat} {e : TypeId} {v : Value} {xs : List Value} (h : w.ownsRow B e 3 v n xs) (hb : B' ≤ B) : w.ownsRow B' e 3 v n xs := by
  refine ⟨h.1, ?_⟩
  rcases h.2 with h' | ⟨g, cap, cur, h', hB, r⟩
  · exact .inl h'
  · exact .inr ⟨g, cap, cur, h', by omega, r⟩

/-- numbers put in place of three. -/
def put3 (ys : List Int) (k : Nat) (x : Int × Int × Int) : List Int := ((ys.set (k * 3) x.1).set (k * 3 + 1) x.2.1).set (k * 3 + 2) x.2.2

theorem put3_take {ys : List Int} {k : Nat} (x : Int × Int × Int) (h : (k + 1) * 3 ≤ ys.length) : (put3 ys k x).take ((k + 1) * 3) = ys.take (k * 3) ++ [x.1, x.2.1, x.2.2] := by
  apply List.ext_getElem
  · simp [put3]; omega
  · intro i h1 h2
    simp [put3] at h1
    simp only [put3, List.getElem_take, List.getElem_append, List.length_take, List.getElem_set]
    rcases (show i < k * 3 ∨ i = k * 3 ∨ i = k * 3 + 1 ∨ i = k * 3 + 2 by omega) with e | e | e | e
    · rw [dif_pos (by omega), if_neg (by omega), if_neg (by omega), if_neg (by omega)]
    · subst e
      rw [dif_neg (by omega), if_neg (by omega), if_neg (by omega), if_pos rfl]
      simp [show min (k * 3) ys.length = k * 3 by omega]
    · subst e
      rw [dif_neg (by omega), if_neg (by omega), if_pos rfl]
      simp [show min (k * 3) ys.length = k * 3 by omega]
    · subst e
      rw [dif_neg (by omega), if_pos rfl]
      simp [show min (k * 3) ys.length = k * 3 by omega]

theorem own_set3 {w : World} {B g n cap : Nat} {e : TypeId} {ys : List Int} (h : w.ownsRow B e 3 (.slice (some ⟨g, 0, none⟩) n cap) n (ys.map (Value.int .i64))) (k : Nat) (x : Int × Int × Int) : (set3 w g (k * 3) x).ownsRow B e 3 (.slice (some ⟨g, 0, none⟩) n cap) n ((put3 ys k x).map (Value.int .i64)) := by
  have h1 := (h.stored (k * 3) (.int .i64 x.1)).1
  have h2 := (h1.stored (k * 3 + 1) (.int .i64 x.2.1)).1
  have h3 := (h2.stored (k * 3 + 2) (.int .i64 x.2.2)).1
  simpa [put3, set3, List.map_set] using h3

theorem own_zero : ∀ (m o : Nat) {w : World} {B g n cap : Nat} {e : TypeId} {ys : List Int}, w.ownsRow B e 3 (.slice (some ⟨g, 0, none⟩) n cap) n (ys.map (Value.int .i64)) →
    ∃ zs : List Int, zs.take o = ys.take o ∧ (w.setCells g o (List.replicate m (.int .i64 0))).ownsRow B e 3 (.slice (some ⟨g, 0, none⟩) n cap) n (zs.map (Value.int .i64))
  | 0, _, _, _, _, _, _, _, ys, h => ⟨ys, rfl, h⟩
  | m + 1, o, w, B, g, n, cap, e, ys, h => by
    have h1 := (h.stored o (.int .i64 0)).1
    have h2 : (w.setCell ⟨g, o, none⟩ (.int .i64 0)).ownsRow B e 3 (.slice (some ⟨g, 0, none⟩) n cap) n ((ys.set o 0).map (Value.int .i64)) := by simpa [List.map_set] using h1
    obtain ⟨zs, e1, e2⟩ := own_zero m (o + 1) h2
    refine ⟨zs, ?_, e2⟩
    have := congrArg (List.take o) e1
    rw [List.take_take, List.take_take, Nat.min_eq_left (by omega)] at this
    rw [this]
    apply List.ext_getElem?
    intro i
    by_cases hi : i < o
    · rw [List.getElem?_take_of_lt hi, List.getElem?_take_of_lt hi, List.getElem?_set_ne (by omega)]
    · rw [List.getElem?_take_eq_none (by omega), List.getElem?_take_eq_none (by omega)]

theorem below_setCells {w : World} {B g : Nat} : ∀ (vs : List Value) (o : Nat) {u : World}, Below B w u → B ≤ g → Below B w (u.setCells g o vs)
  | [], _, _, h, _ => h
  | v :: r, o, u, h, hg => below_setCells (u := u.setCell ⟨g, o, none⟩ v) r (o + 1) (h.setCell (by exact hg) v) hg

theorem run_clear_lines {P : Program} (w : World) (t e ty : TypeId) (ht : P.underlying t = some (.slice e)) (hv : ∀ w, (zeroValue e).run P w = .ok (.agg #[.int .i64 0, .int .i64 0, .int .i64 0]) w) (b o n c : Nat) (hn : 0 < n)
    (hc : ∀ j, j < n * 3 → ∃ v, w.cell? ⟨b, o + j, none⟩ = some v) (hf : ∀ j, w.frozen? ⟨b, o + j, none⟩ = false) :
    (Builtin.clear_ #[t] ty #[.slice (some ⟨b, o, none⟩) n c]).run P w = .ok (.tuple #[]) (w.setCells b o (List.replicate (n * 3) (.int .i64 0))) := by
  have hzc : (Builtin.zeroCells (Value.agg #[.int .i64 0, .int .i64 0, .int .i64 0]).cells n).toList = List.replicate (n * 3) (.int .i64 0) := by
    simp [Builtin.zeroCells, Value.cells]
    apply List.ext_getElem
    · simp
    · intro i h1 h2
      simp
      rcases (show i % 3 = 0 ∨ i % 3 = 1 ∨ i % 3 = 2 by omega) with h | h | h <;> simp [h]
  have hst := run_storeCells_cells (P := P) b o (List.replicate (n * 3) (.int .i64 0)) 0 w (by intro j hj; obtain ⟨v, hv⟩ := hc j (by simpa using hj); simp [hv]) (by intro j _; simpa using hf j) (by intro v hv'; rw [List.eq_of_mem_replicate hv']; rfl)
  simp only [Nat.add_zero] at hst
  obtain ⟨m, rfl⟩ : ∃ m, n = m + 1 := ⟨n - 1, by omega⟩
  simp [Builtin.clear_, run_underlying ht, hv, hzc, hst]

theorem news_sln {w : World} {b off n : Nat} {ls : List (Int × Int × Int)} (hl : ls.length = n) (hc : ∀ i, i < n * 3 → w.cell? ⟨b, off + i, none⟩ = some (.int .i64 (gt (fl3 ls) i))) :
    ∀ j u, (vs3 ls)[j]? = some u → w.cell? ((Addr.mk b off none).add j) = some u :=
  ints_at_sl (zs := fl3 ls) (fun i hi => hc i (by rw [length_fl3] at hi; omega))

/-- a line is of d and t, where -1 is of any. -/
def gone (d t : Int) (x : Int × Int × Int) : Bool := (decide (d = -1) || decide (x.1 = d)) && (decide (t = -1) || decide (x.2.1 = t))

def flL (ls : List (Int × Int × Int)) (d t : Int) : List (Int × Int × Int) := ls.filter (fun x => !gone d t x)

theorem take_snoc3 (ls : List (Int × Int × Int)) (k : Nat) (h : k < ls.length) : ls.take (k + 1) = ls.take k ++ [g3 ls k] := by
  rw [List.take_succ_eq_append_getElem h]
  simp [g3, h]

theorem flL_keep {ls : List (Int × Int × Int)} {d t : Int} {k : Nat} (h : k < ls.length) (hg : gone d t (g3 ls k) = false) : flL (ls.take (k + 1)) d t = flL (ls.take k) d t ++ [g3 ls k] := by
  rw [take_snoc3 ls k h]
  simp [flL, hg]

theorem flL_drop {ls : List (Int × Int × Int)} {d t : Int} {k : Nat} (h : k < ls.length) (hg : gone d t (g3 ls k) = true) : flL (ls.take (k + 1)) d t = flL (ls.take k) d t := by
  rw [take_snoc3 ls k h]
  simp [flL, hg]

theorem length_flL (ls : List (Int × Int × Int)) (d t : Int) (k : Nat) : (flL (ls.take k) d t).length ≤ k := by
  have h1 := List.length_filter_le (fun x => !gone d t x) (ls.take k)
  have h2 := List.length_take_le k ls
  unfold flL
  omega

theorem length_flL' (ls : List (Int × Int × Int)) (d t : Int) : (flL ls d t).length ≤ ls.length := List.length_filter_le _ _

end Go.Proofs.YtnibngigbcakkaaGreat
