import Derived.Test.YtnlkigjgloeonaaSep
import Derived.WalkKit
import Derived.ProofKit
import Derived.OpenShut
import Derived.ShutString
import Derived.ChangeOld
import Derived.Below
import Derived.WalkSpells
import Derived.Deep.QuietTactic
import Derived.BigQuiet
import Derived.Deep.RegionWith
import Derived.Deep.WholeRow
import Derived.Deep.DeepCutAuto
import Derived.Deep.RegionHeld2
import Derived.Deep.AppendLies
import Derived.Deep.RegionLaw
namespace Go.Proofs.Ytnlkigjgloeonaa
open Go.ChangeShapes Go.WideShapes Go.ChangeAt Go.RowKit

/-- the levels of label i of a row. -/
def gL (xs : List (List Int)) (i : Nat) : List Int := xs.getD i []

def lenL : List (List Int) → Nat
  | [] => 0
  | x :: r => x.length + lenL r

theorem lenL_take (xs : List (List Int)) (k : Nat) (h : k < xs.length) : lenL (xs.take (k + 1)) = lenL (xs.take k) + (gL xs k).length := by
  induction xs generalizing k with
  | nil => simp at h
  | cons x r ih =>
    cases k with
    | zero => simp [lenL, gL]
    | succ k =>
      have := ih k (by simpa using h)
      simp only [List.take_succ_cons, lenL]
      have e : gL (x :: r) (k + 1) = gL r k := by simp [gL]
      rw [e]
      omega

theorem lenL_le (xs : List (List Int)) (k : Nat) : lenL (xs.take k) ≤ lenL xs := by
  induction xs generalizing k with
  | nil => simp [lenL]
  | cons x r ih =>
    cases k with
    | zero => simp [lenL]
    | succ k => simp only [List.take_succ_cons, lenL]; have := ih k; omega

theorem gL_le (xs : List (List Int)) (k : Nat) (h : k < xs.length) : (gL xs k).length ≤ lenL xs := by
  have h1 := lenL_take xs k h
  have h2 := lenL_le xs (k + 1)
  omega

theorem gL_ext {xs ys : List (List Int)} (h : xs.length = ys.length) (hc : ∀ j, j < xs.length → gL xs j = gL ys j) : xs = ys := by
  apply List.ext_getElem h
  intro i h1 h2
  have e1 := hc i h1
  simpa [gL, h1, h2] using e1

/-- a slice of labels that reads as xs. -/
def Slb (w : World) (a : Option Addr) (n : Nat) (xs : List (List Int)) : Prop :=
  xs.length = n ∧ (0 < n → ∃ b off, a = some ⟨b, off, none⟩ ∧ b < w.heap.size ∧ ∀ i, i < n → ∃ la lc, w.cell? ⟨b, off + i, none⟩ = some (.slice la (gL xs i).length lc) ∧ (gL xs i).length ≤ maxLen ∧ Sl w la (gL xs i).length (gL xs i))

theorem Slb.below {w w' : World} {a : Option Addr} {n : Nat} {xs : List (List Int)} (h : Slb w a n xs) {B : Nat} (hb : Below B w w') (hB : w.heap.size ≤ B) : Slb w' a n xs := by
  obtain ⟨h1, h2⟩ := h
  refine ⟨h1, fun hp => ?_⟩
  obtain ⟨b, off, h3, h4, h5⟩ := h2 hp
  refine ⟨b, off, h3, by have := hb.size; omega, fun i hi => ?_⟩
  obtain ⟨la, lc, h6, h9, h10⟩ := h5 i hi
  exact ⟨la, lc, (hb.cell (p := ⟨b, off + i, none⟩) (by show b < B; omega)).trans h6, h9, h10.below hb hB⟩

/-- the body of an owned slice of labels: block N, the levels of i in block lb i. -/
structure OLB (S : Nat → Prop) (N n : Nat) (la : Nat → Option Addr) (lc lb : Nat → Nat) (f : Nat → List Int) (w : World) : Prop where
  hS : S N
  lt : N < w.heap.size
  fz : ∀ j, w.frozen? ⟨N, j, none⟩ = false
  c : ∀ i, i < n → w.cell? ⟨N, i, none⟩ = some (.slice (la i) (f i).length (lc i))
  os : ∀ i, i < n → OS (fun k => k = lb i ∧ 0 < (f i).length) (la i) (f i).length (f i) w
  lS : ∀ i, i < n → 0 < (f i).length → S (lb i)
  ne : ∀ i, i < n → 0 < (f i).length → lb i ≠ N
  ap : ∀ i j, i < n → j < n → i ≠ j → 0 < (f i).length → 0 < (f j).length → lb i ≠ lb j

theorem OLB.loc {S : Nat → Prop} {N n : Nat} {la : Nat → Option Addr} {lc lb : Nat → Nat} {f : Nat → List Int} : Loc S (OLB S N n la lc lb f) := fun w w' hk h => by
  have eN := hk N h.hS h.lt
  have hN' : N < w'.heap.size := by
    rw [Array.getElem?_eq_getElem h.lt] at eN
    exact (Array.getElem?_eq_some_iff.1 eN).1
  exact ⟨h.hS, hN', fun j => (World.frozen?_of_block (a := ⟨N, j, none⟩) eN).trans (h.fz j), fun i hi => (World.cell?_of_block (a := ⟨N, i, none⟩) eN).trans (h.c i hi), fun i hi => OS.loc w w' (fun k e hl => hk k (e.1 ▸ h.lS i hi e.2) hl) (h.os i hi), h.lS, h.ne, h.ap⟩

theorem OLB.mono {S S' : Nat → Prop} {N n : Nat} {la : Nat → Option Addr} {lc lb : Nat → Nat} {f : Nat → List Int} {w : World} (h : OLB S N n la lc lb f w) (hs : ∀ k, S k → S' k) : OLB S' N n la lc lb f w :=
  ⟨hs _ h.hS, h.lt, h.fz, h.c, h.os, fun i hi hl => hs _ (h.lS i hi hl), h.ne, h.ap⟩

theorem OLB.congr {S : Nat → Prop} {N n : Nat} {la : Nat → Option Addr} {lc lb : Nat → Nat} {f : Nat → List Int} {w : World} (h : OLB S N n la lc lb f w) {f' : Nat → List Int} (e : ∀ i, i < n → f i = f' i) : OLB S N n la lc lb f' w :=
  ⟨h.hS, h.lt, h.fz, fun i hi => e i hi ▸ h.c i hi, fun i hi => e i hi ▸ h.os i hi, fun i hi hl => h.lS i hi (by rw [e i hi]; exact hl), fun i hi hl => h.ne i hi (by rw [e i hi]; exact hl), fun i j hi hj a b c => h.ap i j hi hj a (by rw [e i hi]; exact b) (by rw [e j hj]; exact c)⟩

/-- the levels of i are written. -/
theorem OLB.setRow {S : Nat → Prop} {N n : Nat} {la : Nat → Option Addr} {lc lb : Nat → Nat} {f : Nat → List Int} {w : World} (h : OLB S N n la lc lb f w) {w' : World} {i : Nat} (hi : i < n) {zs : List Int} (hz : zs.length = (f i).length) (ho : OutS (fun k => k = lb i ∧ 0 < (f i).length) w w') (hs : OS (fun k => k = lb i ∧ 0 < (f i).length) (la i) (f i).length zs w') : OLB S N n la lc lb (fun j => if j = i then zs else f j) w' := by
  have eN := ho.block N h.lt (fun e => h.ne i hi e.2 e.1.symm)
  have hlen : ∀ j, (if j = i then zs else f j).length = (f j).length := fun j => by
    by_cases e : j = i
    · subst e; rw [if_pos rfl, hz]
    · rw [if_neg e]
  refine ⟨h.hS, by have := ho.size; have := h.lt; omega, fun j => (World.frozen?_of_block (a := ⟨N, j, none⟩) eN).trans (h.fz j), fun j hj => (World.cell?_of_block (a := ⟨N, j, none⟩) eN).trans ?_, fun j hj => ?_, fun j hj hl => h.lS j hj (by rw [← hlen]; exact hl), fun j hj hl => h.ne j hj (by rw [← hlen]; exact hl), fun j q hj hq e a b => h.ap j q hj hq e (by rw [← hlen]; exact a) (by rw [← hlen]; exact b)⟩
  · rw [hlen]; exact h.c j hj
  · rw [hlen]
    by_cases e : j = i
    · subst e; rw [if_pos rfl]; exact hs
    · rw [if_neg e]; exact OS.loc.out ho (fun k hk e2 => h.ap j i hj hi e hk.2 e2.2 (hk.1.symm.trans e2.1)) (h.os j hj)

/-- an owned slice of labels. -/
def OLr (S : Nat → Prop) (a : Option Addr) (n : Nat) (xs : List (List Int)) (w : World) : Prop :=
  xs.length = n ∧ n + lenL xs ≤ 1048576 ∧ ((n = 0) ∨ ∃ (N : Nat) (la : Nat → Option Addr) (lc lb : Nat → Nat), a = some ⟨N, 0, none⟩ ∧ OLB S N n la lc lb (gL xs) w)

theorem OLr.loc {S : Nat → Prop} {a : Option Addr} {n : Nat} {xs : List (List Int)} : Loc S (OLr S a n xs) := fun w w' hk h => by
  obtain ⟨h1, h2, h3⟩ := h
  refine ⟨h1, h2, ?_⟩
  rcases h3 with h3 | ⟨N, la, lc, lb, e, hb⟩
  · exact .inl h3
  · exact .inr ⟨N, la, lc, lb, e, OLB.loc w w' hk hb⟩

theorem OLr.mono {S S' : Nat → Prop} {a : Option Addr} {n : Nat} {xs : List (List Int)} {w : World} (h : OLr S a n xs w) (hs : ∀ k, S k → S' k) : OLr S' a n xs w := by
  obtain ⟨h1, h2, h3⟩ := h
  refine ⟨h1, h2, ?_⟩
  rcases h3 with h3 | ⟨N, la, lc, lb, e, hb⟩
  · exact .inl h3
  · exact .inr ⟨N, la, lc, lb, e, hb.mono hs⟩

theorem OLr.nil (S : Nat → Prop) (a : Option Addr) (w : World) : OLr S a 0 [] w := ⟨rfl, by simp [lenL], .inl rfl⟩

theorem OLr.slb {S : Nat → Prop} {a : Option Addr} {n : Nat} {xs : List (List Int)} {w : World} (h : OLr S a n xs w) : Slb w a n xs := by
  obtain ⟨h1, h2, h3⟩ := h
  refine ⟨h1, fun hp => ?_⟩
  rcases h3 with h3 | ⟨N, la, lc, lb, rfl, hb⟩
  · omega
  · refine ⟨N, 0, rfl, hb.lt, fun i hi => ?_⟩
    have hl := gL_le xs i (by omega)
    exact ⟨la i, _, by simpa using hb.c i hi, by unfold maxLen; omega, (hb.os i hi).sl⟩

/-- a row of n labels under copy. -/
structure HalfL (w : World) (N n k : Nat) (xs : List (List Int)) (lb : Nat → Nat) : Prop where
  lt : N < w.heap.size
  c : ∀ j, j < k → w.cell? ⟨N, j, none⟩ = some (.slice (some ⟨lb j, 0, none⟩) (gL xs j).length (gL xs j).length)
  gt : ∀ j, j < k → N < lb j
  blk : ∀ j, j < k → Blk w (lb j) (gL xs j)
  ap : ∀ i j, i < k → j < k → i ≠ j → lb i ≠ lb j
  all : ∀ j, j < n → ∃ v, w.cell? ⟨N, j, none⟩ = some v
  fz : ∀ j, w.frozen? ⟨N, j, none⟩ = false

theorem HalfL.below {w w' : World} {N n k : Nat} {xs : List (List Int)} {lb : Nat → Nat} (h : HalfL w N n k xs lb) (hb : Below w.heap.size w w') : HalfL w' N n k xs lb :=
  ⟨by have := hb.size; have := h.lt; omega, fun j hj => (hb.cell (p := ⟨N, j, none⟩) h.lt).trans (h.c j hj), h.gt, fun j hj => (h.blk j hj).below hb, h.ap,
    fun j hj => by obtain ⟨v, hv⟩ := h.all j hj; exact ⟨v, (hb.cell (p := ⟨N, j, none⟩) h.lt).trans hv⟩, fun j => (hb.frozen (p := ⟨N, j, none⟩) h.lt).trans (h.fz j)⟩

theorem HalfL.store {w0 w : World} {N n k b : Nat} {xs : List (List Int)} {lb : Nat → Nat} (h0 : HalfL w0 N n k xs lb) (hw : Below w0.heap.size w0 w) (hk : k < n) (hb : w0.heap.size ≤ b) (hB : Blk w b (gL xs k)) :
    HalfL (w.setCell ⟨N, k, none⟩ (.slice (some ⟨b, 0, none⟩) (gL xs k).length (gL xs k).length)) N n (k + 1) xs (fun j => if j = k then b else lb j) := by
  have h := h0.below hw
  have hNb : N < b := by have := h0.lt; omega
  obtain ⟨v0, hv0⟩ := h.all k hk
  refine ⟨by simpa using h.lt, fun j hj => ?_, fun j hj => ?_, fun j hj => ?_, fun i j hi hj e => ?_, fun j hj => cell?_setCell_some (h.all j hj).choose_spec, fun j => by simpa using h.fz j⟩
  · by_cases e : j = k
    · subst e; rw [if_pos rfl]; exact World.cell?_setCell_same _ _ _ hv0
    · rw [if_neg e, World.cell?_setCell_other _ _ _ _ (fun e2 => by injection e2 with _ e3; exact e e3.symm)]; exact h.c j (by omega)
  · by_cases e : j = k
    · rw [if_pos e]; exact hNb
    · rw [if_neg e]; exact h.gt j (by omega)
  · by_cases e : j = k
    · subst e; rw [if_pos rfl]; exact hB.setCell (fun e => by have e2 : N = b := e; omega) _
    · rw [if_neg e]; exact (h.blk j (by omega)).setCell (fun e => by have e2 : N = lb j := e; have := h.gt j (by omega); omega) _
  · by_cases e1 : i = k
    · rw [if_pos e1, if_neg (by omega)]
      have := (h0.blk j (by omega)).1
      omega
    · rw [if_neg e1]
      by_cases e2 : j = k
      · rw [if_pos e2]
        have := (h0.blk i (by omega)).1
        omega
      · rw [if_neg e2]; exact h.ap i j (by omega) (by omega) e

theorem HalfL.start (w : World) (n : Nat) (xs : List (List Int)) (lb : Nat → Nat) (t : TypeId) : HalfL (w.alloc (.cells (madeCells #[.slice none 0 0] n) t)) w.heap.size n 0 xs lb := by
  refine ⟨by simp, fun j hj => by omega, fun j hj => by omega, fun j hj => by omega, fun i j hi => by omega, fun j hj => ?_, fun j => by simp⟩
  exact ⟨.slice none 0 0, by rw [World.cell?_alloc_new, ← Array.getElem?_toList, toList_madeCells_one, List.getElem?_replicate, if_pos hj]⟩

theorem HalfL.ol {w : World} {N n B : Nat} {xs : List (List Int)} {lb : Nat → Nat} (h : HalfL w N n n xs lb) (hB : B ≤ N) (hn : xs.length = n) (hm : n + lenL xs ≤ 1048576) : OLr (InR B w.heap.size) (some ⟨N, 0, none⟩) n xs w :=
  ⟨hn, hm, .inr ⟨N, fun j => some ⟨lb j, 0, none⟩, fun j => (gL xs j).length, lb, rfl, ⟨hB, h.lt⟩, h.lt, h.fz, h.c, fun i hi => ⟨rfl, by have := gL_le xs i (by omega); omega, by (by_cases e : (gL xs i).length = 0); exact .inl e; exact .inr ⟨lb i, rfl, ⟨rfl, by omega⟩, h.blk i hi⟩⟩, fun i hi _ => ⟨by have := h.gt i hi; omega, (h.blk i hi).1⟩, fun i hi _ => by have := h.gt i hi; omega, fun i j hi hj e _ _ => h.ap i j hi hj e⟩⟩

end Go.Proofs.Ytnlkigjgloeonaa
