import Derived.Test.YtipfaoecodclaaaStL
import Derived.Test.YtipfaoecodclaaaRegO
import Derived.WalkKit
import Derived.ProofKit
import Derived.OpenShut
import Derived.ShutString
import Derived.ChangeOld
import Derived.Below
import Derived.WalkSpells
import Derived.Deep.QuietTactic
import Derived.BigQuiet
import Derived.Deep.RegionWith
import Derived.Deep.WholeRow
import Derived.Deep.DeepCutAuto
import Derived.Deep.RegionHeld2
import Derived.Deep.AppendLies
import Derived.Deep.RegionLaw
namespace Go.Proofs.Ytipfaoecodclaaa
open Go.ChangeShapes Go.WideShapes Go.ChangeAt Go.RowKit

/-- an object: Up, Name, Kind, the levels of its label, Quota, Next, Data. -/
abbrev OB := Int × Int × Int × List Int × Int × Int × List Int

def gO (xs : List OB) (i : Nat) : OB := xs.getD i (0, 0, 0, [], 0, 0, [])

/-- the two rows of numbers of an object: its label and its data. -/
def sbO (f : Nat → OB) (q : Nat) : List Int := if q % 2 = 0 then (f (q / 2)).2.2.2.1 else (f (q / 2)).2.2.2.2.2.2

theorem sbO_l (f : Nat → OB) (i : Nat) : sbO f (2 * i) = (f i).2.2.2.1 := by unfold sbO; rw [if_pos (by omega), show 2 * i / 2 = i by omega]
theorem sbO_d (f : Nat → OB) (i : Nat) : sbO f (2 * i + 1) = (f i).2.2.2.2.2.2 := by unfold sbO; rw [if_neg (by omega), show (2 * i + 1) / 2 = i by omega]

def lenO : List OB → Nat
  | [] => 0
  | x :: r => x.2.2.2.1.length + x.2.2.2.2.2.2.length + lenO r

theorem lenO_take (xs : List OB) (k : Nat) (h : k < xs.length) : lenO (xs.take (k + 1)) = lenO (xs.take k) + ((gO xs k).2.2.2.1.length + (gO xs k).2.2.2.2.2.2.length) := by
  induction xs generalizing k with
  | nil => simp at h
  | cons x r ih =>
    cases k with
    | zero => simp [lenO, gO]
    | succ k =>
      have := ih k (by simpa using h)
      simp only [List.take_succ_cons, lenO]
      have e : gO (x :: r) (k + 1) = gO r k := by simp [gO]
      rw [e]
      omega

theorem lenO_le (xs : List OB) (k : Nat) : lenO (xs.take k) ≤ lenO xs := by
  induction xs generalizing k with
  | nil => simp [lenO]
  | cons x r ih =>
    cases k with
    | zero => simp [lenO]
    | succ k => simp only [List.take_succ_cons, lenO]; have := ih k; omega

theorem gO_le (xs : List OB) (k : Nat) (h : k < xs.length) : (gO xs k).2.2.2.1.length + (gO xs k).2.2.2.2.2.2.length ≤ lenO xs := by
  have h1 := lenO_take xs k h
  have h2 := lenO_le xs (k + 1)
  omega

theorem gO_ext {xs ys : List OB} (h : xs.length = ys.length) (hc : ∀ j, j < xs.length → gO xs j = gO ys j) : xs = ys := by
  apply List.ext_getElem h
  intro i h1 h2
  have e1 := hc i h1
  simpa [gO, h1, h2] using e1

/-- the seven cells of an object, from o on. -/
def O7 (w : World) (b o : Nat) (x : OB) (la : Option Addr) (lc : Nat) (da : Option Addr) (dc : Nat) : Prop :=
  w.cell? ⟨b, o, none⟩ = some (.int .i64 x.1) ∧ w.cell? ⟨b, o + 1, none⟩ = some (.int .i64 x.2.1) ∧ w.cell? ⟨b, o + 2, none⟩ = some (.int .i64 x.2.2.1) ∧ w.cell? ⟨b, o + 3, none⟩ = some (.slice la x.2.2.2.1.length lc) ∧ w.cell? ⟨b, o + 4, none⟩ = some (.int .i64 x.2.2.2.2.1) ∧ w.cell? ⟨b, o + 5, none⟩ = some (.int .i64 x.2.2.2.2.2.1) ∧ w.cell? ⟨b, o + 6, none⟩ = some (.slice da x.2.2.2.2.2.2.length dc)

theorem O7.of_block {w w' : World} {b o : Nat} {x : OB} {la : Option Addr} {lc : Nat} {da : Option Addr} {dc : Nat} (h : O7 w b o x la lc da dc) (e : w'.heap[b]? = w.heap[b]?) : O7 w' b o x la lc da dc := by
  obtain ⟨h0, h1, h2, h3, h4, h5, h6⟩ := h
  exact ⟨(World.cell?_of_block (a := ⟨b, o, none⟩) e).trans h0, (World.cell?_of_block (a := ⟨b, o + 1, none⟩) e).trans h1, (World.cell?_of_block (a := ⟨b, o + 2, none⟩) e).trans h2, (World.cell?_of_block (a := ⟨b, o + 3, none⟩) e).trans h3, (World.cell?_of_block (a := ⟨b, o + 4, none⟩) e).trans h4, (World.cell?_of_block (a := ⟨b, o + 5, none⟩) e).trans h5, (World.cell?_of_block (a := ⟨b, o + 6, none⟩) e).trans h6⟩

/-- a slice of objects (seven cells each) that reads as xs. -/
def Sob (w : World) (a : Option Addr) (n : Nat) (xs : List OB) : Prop :=
  xs.length = n ∧ (0 < n → ∃ b off, a = some ⟨b, off, none⟩ ∧ b < w.heap.size ∧ ∀ i, i < n → ∃ la lc da dc, O7 w b (off + i * 7) (gO xs i) la lc da dc ∧ (gO xs i).2.2.2.1.length ≤ maxLen ∧ Sl w la (gO xs i).2.2.2.1.length (gO xs i).2.2.2.1 ∧ (gO xs i).2.2.2.2.2.2.length ≤ maxLen ∧ Sl w da (gO xs i).2.2.2.2.2.2.length (gO xs i).2.2.2.2.2.2)

theorem Sob.below {w w' : World} {a : Option Addr} {n : Nat} {xs : List OB} (h : Sob w a n xs) {B : Nat} (hb : Below B w w') (hB : w.heap.size ≤ B) : Sob w' a n xs := by
  obtain ⟨h1, h2⟩ := h
  refine ⟨h1, fun hp => ?_⟩
  obtain ⟨b, off, h3, h4, h5⟩ := h2 hp
  refine ⟨b, off, h3, by have := hb.size; omega, fun i hi => ?_⟩
  obtain ⟨la, lc, da, dc, h6, h7, h8, h9, h10⟩ := h5 i hi
  exact ⟨la, lc, da, dc, h6.of_block (hb.block b (by omega)), h7, h8.below hb hB, h9, h10.below hb hB⟩

/-- the body of an owned slice of objects: block N, the row q (label of q / 2, or data) in block lb q. -/
structure OOb (S : Nat → Prop) (N n : Nat) (la : Nat → Option Addr) (lc lb : Nat → Nat) (f : Nat → OB) (w : World) : Prop where
  hS : S N
  lt : N < w.heap.size
  fz : ∀ j, w.frozen? ⟨N, j, none⟩ = false
  c : ∀ i, i < n → O7 w N (i * 7) (f i) (la (2 * i)) (lc (2 * i)) (la (2 * i + 1)) (lc (2 * i + 1))
  os : ∀ q, q < 2 * n → OS (fun k => k = lb q ∧ 0 < (sbO f q).length) (la q) (sbO f q).length (sbO f q) w
  lS : ∀ q, q < 2 * n → 0 < (sbO f q).length → S (lb q)
  ne : ∀ q, q < 2 * n → 0 < (sbO f q).length → lb q ≠ N
  ap : ∀ q r, q < 2 * n → r < 2 * n → q ≠ r → 0 < (sbO f q).length → 0 < (sbO f r).length → lb q ≠ lb r

theorem OOb.loc {S : Nat → Prop} {N n : Nat} {la : Nat → Option Addr} {lc lb : Nat → Nat} {f : Nat → OB} : Loc S (OOb S N n la lc lb f) := fun w w' hk h => by
  have eN := hk N h.hS h.lt
  have hN' : N < w'.heap.size := by
    rw [Array.getElem?_eq_getElem h.lt] at eN
    exact (Array.getElem?_eq_some_iff.1 eN).1
  exact ⟨h.hS, hN', fun j => (World.frozen?_of_block (a := ⟨N, j, none⟩) eN).trans (h.fz j), fun i hi => (h.c i hi).of_block eN, fun q hq => OS.loc w w' (fun k e hl => hk k (e.1 ▸ h.lS q hq e.2) hl) (h.os q hq), h.lS, h.ne, h.ap⟩

theorem OOb.mono {S S' : Nat → Prop} {N n : Nat} {la : Nat → Option Addr} {lc lb : Nat → Nat} {f : Nat → OB} {w : World} (h : OOb S N n la lc lb f w) (hs : ∀ k, S k → S' k) : OOb S' N n la lc lb f w :=
  ⟨hs _ h.hS, h.lt, h.fz, h.c, h.os, fun q hq hl => hs _ (h.lS q hq hl), h.ne, h.ap⟩

/-- an owned slice of objects. -/
def OO (S : Nat → Prop) (a : Option Addr) (n : Nat) (xs : List OB) (w : World) : Prop :=
  xs.length = n ∧ n + lenO xs ≤ 1048576 ∧ ((n = 0) ∨ ∃ (N : Nat) (la : Nat → Option Addr) (lc lb : Nat → Nat), a = some ⟨N, 0, none⟩ ∧ OOb S N n la lc lb (gO xs) w)

theorem OO.loc {S : Nat → Prop} {a : Option Addr} {n : Nat} {xs : List OB} : Loc S (OO S a n xs) := fun w w' hk h => by
  obtain ⟨h1, h2, h3⟩ := h
  refine ⟨h1, h2, ?_⟩
  rcases h3 with h3 | ⟨N, la, lc, lb, e, hb⟩
  · exact .inl h3
  · exact .inr ⟨N, la, lc, lb, e, OOb.loc w w' hk hb⟩

theorem OO.mono {S S' : Nat → Prop} {a : Option Addr} {n : Nat} {xs : List OB} {w : World} (h : OO S a n xs w) (hs : ∀ k, S k → S' k) : OO S' a n xs w := by
  obtain ⟨h1, h2, h3⟩ := h
  refine ⟨h1, h2, ?_⟩
  rcases h3 with h3 | ⟨N, la, lc, lb, e, hb⟩
  · exact .inl h3
  · exact .inr ⟨N, la, lc, lb, e, hb.mono hs⟩

theorem OO.nil (S : Nat → Prop) (a : Option Addr) (w : World) : OO S a 0 [] w := ⟨rfl, by simp [lenO], .inl rfl⟩

theorem OO.sob {S : Nat → Prop} {a : Option Addr} {n : Nat} {xs : List OB} {w : World} (h : OO S a n xs w) : Sob w a n xs := by
  obtain ⟨h1, h2, h3⟩ := h
  refine ⟨h1, fun hp => ?_⟩
  rcases h3 with h3 | ⟨N, la, lc, lb, rfl, hb⟩
  · omega
  · refine ⟨N, 0, rfl, hb.lt, fun i hi => ?_⟩
    have hl := gO_le xs i (by omega)
    have o1 := (hb.os (2 * i) (by omega)).sl
    have o2 := (hb.os (2 * i + 1) (by omega)).sl
    rw [sbO_l] at o1
    rw [sbO_d] at o2
    exact ⟨_, _, _, _, by rw [Nat.zero_add]; exact hb.c i hi, by unfold maxLen; omega, o1, by unfold maxLen; omega, o2⟩

/-- a row of n objects under copy. -/
structure HalfO (w : World) (N n k : Nat) (f : Nat → OB) (lb : Nat → Nat) : Prop where
  lt : N < w.heap.size
  c : ∀ j, j < k → O7 w N (j * 7) (f j) (some ⟨lb (2 * j), 0, none⟩) (f j).2.2.2.1.length (some ⟨lb (2 * j + 1), 0, none⟩) (f j).2.2.2.2.2.2.length
  gt : ∀ q, q < 2 * k → N < lb q
  blk : ∀ q, q < 2 * k → Blk w (lb q) (sbO f q)
  ap : ∀ q r, q < 2 * k → r < 2 * k → q ≠ r → lb q ≠ lb r
  all : ∀ j, j < n * 7 → ∃ v, w.cell? ⟨N, j, none⟩ = some v
  fz : ∀ j, w.frozen? ⟨N, j, none⟩ = false

theorem HalfO.below {w w' : World} {N n k : Nat} {f : Nat → OB} {lb : Nat → Nat} (h : HalfO w N n k f lb) (hb : Below w.heap.size w w') : HalfO w' N n k f lb :=
  ⟨by have := hb.size; have := h.lt; omega, fun j hj => (h.c j hj).of_block (hb.block N h.lt), h.gt, fun q hq => (h.blk q hq).below hb, h.ap, fun j hj => by obtain ⟨v, hv⟩ := h.all j hj; exact ⟨v, (hb.cell (p := ⟨N, j, none⟩) h.lt).trans hv⟩, fun j => (hb.frozen (p := ⟨N, j, none⟩) h.lt).trans (h.fz j)⟩

/-- seven cells of a block are written. -/
def set7 (w : World) (N o : Nat) (v0 v1 v2 v3 v4 v5 v6 : Value) : World := (((((((w.setCell ⟨N, o, none⟩ v0).setCell ⟨N, o + 1, none⟩ v1).setCell ⟨N, o + 2, none⟩ v2).setCell ⟨N, o + 3, none⟩ v3).setCell ⟨N, o + 4, none⟩ v4).setCell ⟨N, o + 5, none⟩ v5).setCell ⟨N, o + 6, none⟩ v6)

theorem below_set7o {B : Nat} {w u : World} (h : Below B w u) {P : Nat} (hP : B ≤ P) (o : Nat) (v0 v1 v2 v3 v4 v5 v6 : Value) : Below B w (set7 u P o v0 v1 v2 v3 v4 v5 v6) := by
  unfold set7
  exact ((((((h.setCell (by exact hP) _).setCell (by exact hP) _).setCell (by exact hP) _).setCell (by exact hP) _).setCell (by exact hP) _).setCell (by exact hP) _).setCell (by exact hP) _

theorem set7_L (w : World) (N o : Nat) (v0 v1 v2 v3 v4 v5 v6 : Value) : set7 w N o v0 v1 v2 v3 v4 v5 v6 = setL w N o [v0, v1, v2, v3, v4, v5, v6] := rfl

theorem O7_put {w : World} {N o : Nat} {x : OB} {la : Option Addr} {lc : Nat} {da : Option Addr} {dc : Nat} (hc : ∀ i, i < 7 → ∃ v, w.cell? ⟨N, o + i, none⟩ = some v) : O7 (setL w N o [.int .i64 x.1, .int .i64 x.2.1, .int .i64 x.2.2.1, .slice la x.2.2.2.1.length lc, .int .i64 x.2.2.2.2.1, .int .i64 x.2.2.2.2.2.1, .slice da x.2.2.2.2.2.2.length dc]) N o x la lc da dc := by
  have h := setL_at [.int .i64 x.1, .int .i64 x.2.1, .int .i64 x.2.2.1, .slice la x.2.2.2.1.length lc, .int .i64 x.2.2.2.2.1, .int .i64 x.2.2.2.2.2.1, .slice da x.2.2.2.2.2.2.length dc] w N o (fun i hi => hc i (by simpa using hi))
  exact ⟨by simpa using h 0 _ rfl, h 1 _ rfl, h 2 _ rfl, h 3 _ rfl, h 4 _ rfl, h 5 _ rfl, h 6 _ rfl⟩

theorem O7_other {w : World} {N o p : Nat} {x : OB} {la : Option Addr} {lc : Nat} {da : Option Addr} {dc : Nat} (h : O7 w N p x la lc da dc) (vs : List Value) (hv : p + 7 ≤ o ∨ o + vs.length ≤ p) : O7 (setL w N o vs) N p x la lc da dc := by
  obtain ⟨h0, h1, h2, h3, h4, h5, h6⟩ := h
  exact ⟨(setL_other _ _ _ _ _ (by omega)).trans h0, (setL_other _ _ _ _ _ (by omega)).trans h1, (setL_other _ _ _ _ _ (by omega)).trans h2, (setL_other _ _ _ _ _ (by omega)).trans h3, (setL_other _ _ _ _ _ (by omega)).trans h4, (setL_other _ _ _ _ _ (by omega)).trans h5, (setL_other _ _ _ _ _ (by omega)).trans h6⟩

theorem HalfO.store {w0 w : World} {N n k b1 b2 : Nat} {f : Nat → OB} {lb : Nat → Nat} (h0 : HalfO w0 N n k f lb) (hw : Below w0.heap.size w0 w) (hk : k < n) (hb1 : w0.heap.size ≤ b1) (hb2 : w0.heap.size ≤ b2) (hne : b1 ≠ b2) (hB1 : Blk w b1 (f k).2.2.2.1) (hB2 : Blk w b2 (f k).2.2.2.2.2.2) :
    HalfO (setL w N (k * 7) [.int .i64 (f k).1, .int .i64 (f k).2.1, .int .i64 (f k).2.2.1, .slice (some ⟨b1, 0, none⟩) (f k).2.2.2.1.length (f k).2.2.2.1.length, .int .i64 (f k).2.2.2.2.1, .int .i64 (f k).2.2.2.2.2.1, .slice (some ⟨b2, 0, none⟩) (f k).2.2.2.2.2.2.length (f k).2.2.2.2.2.2.length]) N n (k + 1) f (fun q => if q = 2 * k then b1 else if q = 2 * k + 1 then b2 else lb q) := by
  have h := h0.below hw
  have hNb := h0.lt
  have old : ∀ q, q < 2 * k → (if q = 2 * k then b1 else if q = 2 * k + 1 then b2 else lb q) = lb q := fun q hq => by rw [if_neg (by omega), if_neg (by omega)]
  have oldlt : ∀ q, q < 2 * k → lb q < w0.heap.size := fun q hq => (h0.blk q hq).1
  have sb : ∀ q zs, q ≠ N → Blk w q zs → Blk (setL w N (k * 7) [.int .i64 (f k).1, .int .i64 (f k).2.1, .int .i64 (f k).2.2.1, .slice (some ⟨b1, 0, none⟩) (f k).2.2.2.1.length (f k).2.2.2.1.length, .int .i64 (f k).2.2.2.2.1, .int .i64 (f k).2.2.2.2.2.1, .slice (some ⟨b2, 0, none⟩) (f k).2.2.2.2.2.2.length (f k).2.2.2.2.2.2.length]) q zs := fun q zs hq hB => Blk.loc (S := fun x => x = q) rfl w _ (fun x hx _ => setL_blk _ _ _ _ _ (fun e => hq (hx.symm.trans e))) hB
  refine ⟨by rw [setL_size]; exact h.lt, fun j hj => ?_, fun q hq => ?_, fun q hq => ?_, fun q r hq hr e => ?_, fun j hj => setL_some _ _ _ _ _ (h.all j hj), fun j => by rw [setL_fz]; exact h.fz j⟩
  · by_cases e : j = k
    · subst e
      rw [if_pos rfl, if_neg (by omega), if_pos rfl]
      exact O7_put (fun i hi => h.all (j * 7 + i) (by omega))
    · rw [old _ (by omega), old _ (by omega)]
      exact O7_other (h.c j (by omega)) _ (by simp; omega)
  · by_cases e : q < 2 * k
    · rw [old q e]; exact h.gt q e
    · by_cases e2 : q = 2 * k
      · rw [if_pos e2]; omega
      · rw [if_neg e2, if_pos (by omega)]; omega
  · by_cases e : q < 2 * k
    · rw [old q e]; exact sb _ _ (by have := h.gt q e; omega) (h.blk q e)
    · by_cases e2 : q = 2 * k
      · subst e2; rw [if_pos rfl, sbO_l]; exact sb _ _ (by omega) hB1
      · obtain rfl : q = 2 * k + 1 := by omega
        rw [if_neg e2, if_pos rfl, sbO_d]; exact sb _ _ (by omega) hB2
  · have cases3 : ∀ q, q < 2 * (k + 1) → q < 2 * k ∨ q = 2 * k ∨ q = 2 * k + 1 := fun q hq => by omega
    rcases cases3 q hq with a | a | a <;> rcases cases3 r hr with b | b | b
    · rw [old q a, old r b]; exact h.ap q r a b e
    · rw [old q a, if_pos b]; have := oldlt q a; omega
    · rw [old q a, if_neg (by omega), if_pos b]; have := oldlt q a; omega
    · rw [old r b, if_pos a]; have := oldlt r b; omega
    · omega
    · rw [if_pos a, if_neg (by omega), if_pos b]; exact hne
    · rw [old r b, if_neg (by omega), if_pos a]; have := oldlt r b; omega
    · rw [if_neg (by omega), if_pos a, if_pos b]; exact hne.symm
    · omega

theorem HalfO.start (w : World) (n : Nat) (f : Nat → OB) (lb : Nat → Nat) (t : TypeId) : HalfO (w.alloc (.cells (madeCells #[.int .i64 0, .int .i64 0, .int .i64 0, .slice none 0 0, .int .i64 0, .int .i64 0, .slice none 0 0] (n * 7)) t)) w.heap.size n 0 f lb := by
  refine ⟨by simp, fun j hj => by omega, fun q hq => by omega, fun q hq => by omega, fun q r hq => by omega, fun j hj => ?_, fun j => by simp⟩
  have hs : j < (madeCells #[.int .i64 0, .int .i64 0, .int .i64 0, .slice none 0 0, .int .i64 0, .int .i64 0, .slice none 0 0] (n * 7)).size := by rw [size_madeCells]; exact hj
  exact ⟨(madeCells #[.int .i64 0, .int .i64 0, .int .i64 0, .slice none 0 0, .int .i64 0, .int .i64 0, .slice none 0 0] (n * 7))[j], by rw [World.cell?_alloc_new]; simp [hs]⟩

theorem HalfO.oo {w : World} {N n B : Nat} {xs : List OB} {lb : Nat → Nat} (h : HalfO w N n n (gO xs) lb) (hB : B ≤ N) (hn : xs.length = n) (hm : n + lenO xs ≤ 1048576) : OO (InR B w.heap.size) (some ⟨N, 0, none⟩) n xs w := by
  have hs : ∀ q, q < 2 * n → (sbO (gO xs) q).length ≤ lenO xs := fun q hq => by
    have h1 := gO_le xs (q / 2) (by omega)
    unfold sbO
    split <;> omega
  refine ⟨hn, hm, .inr ⟨N, fun q => some ⟨lb q, 0, none⟩, fun q => (sbO (gO xs) q).length, lb, rfl, ⟨⟨hB, h.lt⟩, h.lt, h.fz, fun i hi => ?_, fun q hq => ⟨rfl, by have := hs q hq; omega, ?_⟩, fun q hq _ => ⟨by have := h.gt q hq; omega, (h.blk q hq).1⟩, fun q hq _ => by have := h.gt q hq; omega, fun q r hq hr e _ _ => h.ap q r hq hr e⟩⟩⟩
  · have := h.c i hi
    rw [sbO_l, sbO_d]
    exact this
  · by_cases e : (sbO (gO xs) q).length = 0
    · exact .inl e
    · exact .inr ⟨lb q, rfl, ⟨rfl, by omega⟩, h.blk q hq⟩

end Go.Proofs.Ytipfaoecodclaaa
