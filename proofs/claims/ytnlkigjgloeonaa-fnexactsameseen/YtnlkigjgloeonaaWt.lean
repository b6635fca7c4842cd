import Derived.Test.YtnlkigjgloeonaaRegO
import Derived.WalkKit
import Derived.ProofKit
import Derived.OpenShut
import Derived.ShutString
import Derived.ChangeOld
import Derived.Below
import Derived.WalkSpells
import Derived.Deep.QuietTactic
import Derived.BigQuiet
import Derived.Deep.RegionWith
import Derived.Deep.WholeRow
import Derived.Deep.DeepCutAuto
import Derived.Deep.RegionHeld2
import Derived.Deep.AppendLies
import Derived.Deep.RegionLaw
namespace Go.Proofs.Ytnlkigjgloeonaa
open Go.ChangeShapes Go.WideShapes Go.ChangeAt Go.RowKit

/-- the numbers of words (value, tag), one behind the other. -/
def flw : List (Int × Int) → List Int
  | [] => []
  | l :: r => l.1 :: l.2 :: flw r

def gw (ls : List (Int × Int)) (i : Nat) : Int × Int := ls.getD i (0, 0)

theorem length_flw : ∀ ls : List (Int × Int), (flw ls).length = ls.length * 2
  | [] => rfl
  | l :: r => by simp only [flw, List.length_cons, length_flw r]; omega

theorem gt_flw : ∀ (ls : List (Int × Int)) (i : Nat), gt (flw ls) (i * 2) = (gw ls i).1 ∧ gt (flw ls) (i * 2 + 1) = (gw ls i).2
  | [], i => by simp [flw, gt, gw]
  | l :: r, 0 => by simp [flw, gt, gw]
  | l :: r, i + 1 => by
    have h := gt_flw r i
    have e0 : (i + 1) * 2 = i * 2 + 1 + 1 := by omega
    rw [e0]
    simpa [flw, gt, gw] using h

theorem flw_append : ∀ xs ys : List (Int × Int), flw (xs ++ ys) = flw xs ++ flw ys
  | [], _ => rfl
  | l :: r, ys => by simp [flw, flw_append r ys]

theorem flw_take : ∀ (ls : List (Int × Int)) (k : Nat), (flw ls).take (k * 2) = flw (ls.take k)
  | [], k => by simp [flw]
  | l :: r, 0 => by simp [flw]
  | l :: r, k + 1 => by
    have e0 : (k + 1) * 2 = k * 2 + 1 + 1 := by omega
    rw [e0]
    simp [flw, flw_take r k]

theorem flw_drop : ∀ (ls : List (Int × Int)) (k : Nat), (flw ls).drop (k * 2) = flw (ls.drop k)
  | [], k => by simp [flw]
  | l :: r, 0 => by simp [flw]
  | l :: r, k + 1 => by
    have e0 : (k + 1) * 2 = k * 2 + 1 + 1 := by omega
    rw [e0]
    simp [flw, flw_drop r k]

theorem gw_ext {xs ys : List (Int × Int)} (h : xs.length = ys.length) (h2 : ∀ i, i < xs.length → gw xs i = gw ys i) : xs = ys := by
  apply List.ext_getElem h
  intro i h3 h4
  have := h2 i h3
  simpa [gw, h3, h4] using this

theorem gw_take (ls : List (Int × Int)) {k i : Nat} (h : i < k) : gw (ls.take k) i = gw ls i := by
  simp [gw, List.getD, h]

/-- a slice of words (two cells each) that reads as ls. -/
def Swd (w : World) (a : Option Addr) (n : Nat) (ls : List (Int × Int)) : Prop :=
  ls.length = n ∧ (0 < n → ∃ b off, a = some ⟨b, off, none⟩ ∧ b < w.heap.size ∧ ∀ i, i < n * 2 → w.cell? ⟨b, off + i, none⟩ = some (.int .i64 (gt (flw ls) i)))

theorem Swd.below {w w' : World} {a : Option Addr} {n : Nat} {ls : List (Int × Int)} (h : Swd w a n ls) {B : Nat} (hb : Below B w w') (hB : w.heap.size ≤ B) : Swd w' a n ls := by
  obtain ⟨h1, h2⟩ := h
  refine ⟨h1, fun hp => ?_⟩
  obtain ⟨b, off, h3, h4, h5⟩ := h2 hp
  exact ⟨b, off, h3, by have := hb.size; omega, fun i hi => (hb.cell (p := ⟨b, off + i, none⟩) (by show b < B; omega)).trans (h5 i hi)⟩

/-- the two cells of word k. -/
theorem cellsw {w : World} {b off n k : Nat} {ls : List (Int × Int)} (h : ∀ i, i < n * 2 → w.cell? ⟨b, off + i, none⟩ = some (.int .i64 (gt (flw ls) i))) (hk : k < n) :
    w.cell? ⟨b, off + k * 2, none⟩ = some (.int .i64 (gw ls k).1) ∧ w.cell? ⟨b, off + k * 2 + 1, none⟩ = some (.int .i64 (gw ls k).2) := by
  obtain ⟨e0, e1⟩ := gt_flw ls k
  rw [← e0, ← e1]
  exact ⟨h _ (by omega), h (k * 2 + 1) (by omega)⟩

theorem Swd.take {w : World} {a : Option Addr} {n k : Nat} {ls : List (Int × Int)} (h : Swd w a n ls) (hk : k ≤ n) : Swd w a k (ls.take k) := by
  obtain ⟨h1, h2⟩ := h
  refine ⟨by simp; omega, fun hp => ?_⟩
  obtain ⟨b, off, h3, h4, h5⟩ := h2 (by omega)
  refine ⟨b, off, h3, h4, fun i hi => ?_⟩
  rw [h5 i (by omega), ← flw_take]
  simp [gt, hi]

/-- an owned slice of words: nil, or at the head of a block of S. -/
def OWd (S : Nat → Prop) (a : Option Addr) (n : Nat) (ls : List (Int × Int)) (w : World) : Prop :=
  ls.length = n ∧ n ≤ 1048576 ∧ ((n = 0) ∨ ∃ b, a = some ⟨b, 0, none⟩ ∧ S b ∧ Blk w b (flw ls))

theorem OWd.loc {S : Nat → Prop} {a : Option Addr} {n : Nat} {ls : List (Int × Int)} : Loc S (OWd S a n ls) := fun w w' hk h => by
  obtain ⟨h1, h2, h3⟩ := h
  refine ⟨h1, h2, ?_⟩
  rcases h3 with h3 | ⟨b, e, hb, h3⟩
  · exact .inl h3
  · exact .inr ⟨b, e, hb, Blk.loc hb w w' hk h3⟩

theorem OWd.swd {S : Nat → Prop} {a : Option Addr} {n : Nat} {ls : List (Int × Int)} {w : World} (h : OWd S a n ls w) : Swd w a n ls := by
  obtain ⟨h1, _, h2⟩ := h
  refine ⟨h1, fun hp => ?_⟩
  rcases h2 with h2 | ⟨b, rfl, _, hb⟩
  · omega
  · exact ⟨b, 0, rfl, hb.1, fun i hi => by rw [Nat.zero_add]; exact hb.2.1 i (by rw [length_flw]; omega)⟩

theorem OWd.mono {S S' : Nat → Prop} {a : Option Addr} {n : Nat} {ls : List (Int × Int)} {w : World} (h : OWd S a n ls w) (hs : ∀ k, S k → S' k) : OWd S' a n ls w := by
  obtain ⟨h1, h0, h2⟩ := h
  refine ⟨h1, h0, ?_⟩
  rcases h2 with h2 | ⟨b, e, h3, h4⟩
  · exact .inl h2
  · exact .inr ⟨b, e, hs b h3, h4⟩

theorem OWd.nil (S : Nat → Prop) (a : Option Addr) (w : World) : OWd S a 0 [] w := ⟨rfl, by omega, .inl rfl⟩

theorem OWd.ofBlk {S : Nat → Prop} {b n : Nat} {ls : List (Int × Int)} {w : World} (h : Blk w b (flw ls)) (hb : S b) (hn : ls.length = n) (hl : n ≤ 1048576) : OWd S (some ⟨b, 0, none⟩) n ls w := ⟨hn, hl, .inr ⟨b, rfl, hb, h⟩⟩

theorem OWd.allocR0 {B T : Nat} {a : Option Addr} {n : Nat} {ls : List (Int × Int)} {w : World} {o : Obj} (h : OWd (InR B T) a n ls w) {B' T' : Nat} (hB : B' ≤ B) (hT : T ≤ T') : OWd (InR B' T') a n ls (w.alloc o) :=
  (OWd.loc.alloc h o).mono (fun k hk => ⟨by have := hk.1; omega, by have := hk.2; omega⟩)

/-- a row of words under copy: the first k words of block N hold ls; all cells are there; none is frozen. -/
def Halfw (w : World) (N n k : Nat) (ls : List (Int × Int)) : Prop :=
  N < w.heap.size ∧ (∀ j, j < k * 2 → w.cell? ⟨N, j, none⟩ = some (.int .i64 (gt (flw ls) j))) ∧ (∀ j, j < n * 2 → ∃ v, w.cell? ⟨N, j, none⟩ = some v) ∧ ∀ j, w.frozen? ⟨N, j, none⟩ = false

theorem Halfw.below {w w' : World} {N n k : Nat} {ls : List (Int × Int)} (h : Halfw w N n k ls) (hb : Below w.heap.size w w') : Halfw w' N n k ls :=
  ⟨by have := hb.size; have := h.1; omega, fun j hj => (hb.cell (p := ⟨N, j, none⟩) h.1).trans (h.2.1 j hj), fun j hj => by obtain ⟨v, hv⟩ := h.2.2.1 j hj; exact ⟨v, (hb.cell (p := ⟨N, j, none⟩) h.1).trans hv⟩, fun j => (hb.frozen (p := ⟨N, j, none⟩) h.1).trans (h.2.2.2 j)⟩

/-- two stores, one behind the other. -/
def setw (w : World) (N o : Nat) (x : Int × Int) : World := (w.setCell ⟨N, o, none⟩ (.int .i64 x.1)).setCell ⟨N, o + 1, none⟩ (.int .i64 x.2)

theorem setw_other (w : World) (N o : Nat) (x : Int × Int) (j : Nat) (h : j < o ∨ o + 1 < j) : (setw w N o x).cell? ⟨N, j, none⟩ = w.cell? ⟨N, j, none⟩ := by
  unfold setw
  rw [World.cell?_setCell_other _ _ _ _ (fun e => by injection e with _ e2; omega), World.cell?_setCell_other _ _ _ _ (fun e => by injection e with _ e2; omega)]

theorem setw_at (w : World) (N o : Nat) (x : Int × Int) (h0 : ∃ v, w.cell? ⟨N, o, none⟩ = some v) (h1 : ∃ v, w.cell? ⟨N, o + 1, none⟩ = some v) :
    (setw w N o x).cell? ⟨N, o, none⟩ = some (.int .i64 x.1) ∧ (setw w N o x).cell? ⟨N, o + 1, none⟩ = some (.int .i64 x.2) := by
  obtain ⟨v0, h0⟩ := h0
  obtain ⟨v1, h1⟩ := h1
  unfold setw
  refine ⟨?_, ?_⟩
  · rw [World.cell?_setCell_other _ _ _ _ (fun e => by injection e with _ e2; omega)]
    exact World.cell?_setCell_same _ _ _ h0
  · exact World.cell?_setCell_same _ _ _ ((World.cell?_setCell_other _ _ _ _ (fun e => by injection e with _ e2; omega)).trans h1)

theorem setw_some (w : World) (N o : Nat) (x : Int × Int) (j : Nat) (h : ∃ v, w.cell? ⟨N, j, none⟩ = some v) : ∃ v, (setw w N o x).cell? ⟨N, j, none⟩ = some v := by
  obtain ⟨v, hv⟩ := h
  exact cell?_setCell_some (cell?_setCell_some hv).choose_spec

theorem Halfw.store {w : World} {N n k : Nat} {ls : List (Int × Int)} (h : Halfw w N n k ls) (hk : k < n) : Halfw (setw w N (k * 2) (gw ls k)) N n (k + 1) ls := by
  obtain ⟨h1, h2, h3, h4⟩ := h
  obtain ⟨a0, a1⟩ := setw_at w N (k * 2) (gw ls k) (h3 _ (by omega)) (h3 _ (by omega))
  obtain ⟨e0, e1⟩ := gt_flw ls k
  refine ⟨by simpa [setw] using h1, fun j hj => ?_, fun j hj => setw_some _ _ _ _ _ (h3 j hj), fun j => by simpa [setw] using h4 j⟩
  by_cases e : j < k * 2
  · rw [setw_other _ _ _ _ _ (.inl e)]; exact h2 j e
  · rcases (show j = k * 2 ∨ j = k * 2 + 1 by omega) with rfl | rfl
    · rw [a0, e0]
    · rw [a1, e1]

theorem Halfw.start (w : World) (n : Nat) (ls : List (Int × Int)) (t : TypeId) : Halfw (w.alloc (.cells (madeCells #[.int .i64 0, .int .i64 0] (n * 2)) t)) w.heap.size n 0 ls := by
  refine ⟨by simp, fun j hj => by omega, fun j hj => ?_, fun j => by simp⟩
  have hs : j < (madeCells #[.int .i64 0, .int .i64 0] (n * 2)).size := by rw [size_madeCells]; exact hj
  exact ⟨(madeCells #[.int .i64 0, .int .i64 0] (n * 2))[j], by rw [World.cell?_alloc_new]; simp [hs]⟩

theorem Halfw.done {w : World} {N n : Nat} {ls : List (Int × Int)} (h : Halfw w N n n ls) (hn : ls.length = n) : Blk w N (flw ls) :=
  ⟨h.1, fun j hj => h.2.1 j (by rw [length_flw] at hj; omega), h.2.2.2⟩

/-- marks of words. -/
def mkw (m : Int) (n : Nat) : List (Int × Int) := (List.range n).map (fun j : Nat => (m + 2 * (j : Int), m + 2 * (j : Int) + 1))

theorem length_mkw (m : Int) (n : Nat) : (mkw m n).length = n := by simp [mkw]

theorem gw_mkw (m : Int) (n j : Nat) (h : j < n) : gw (mkw m n) j = (m + 2 * (j : Int), m + 2 * (j : Int) + 1) := by simp [mkw, gw, h]

theorem gt_marksw (m : Int) (n j : Nat) (h : j < n * 2) : gt (flw (mkw m n)) j = m + j := by
  obtain ⟨e0, e1⟩ := gt_flw (mkw m n) (j / 2)
  rw [gw_mkw m n (j / 2) (by omega)] at e0 e1
  rcases (show j = j / 2 * 2 ∨ j = j / 2 * 2 + 1 by omega) with e | e
  · rw [← e] at e0; rw [e0]; simp only; omega
  · rw [← e] at e1; rw [e1]; simp only; omega

theorem MRow.donew {w : World} {b n : Nat} {m : Int} (h : MRow w b (n * 2) (n * 2) m) : Blk w b (flw (mkw m n)) :=
  ⟨h.1, fun j hj => by rw [length_flw, length_mkw] at hj; rw [gt_marksw m n j hj]; exact h.2.1 j hj, h.2.2.2⟩

end Go.Proofs.Ytnlkigjgloeonaa
