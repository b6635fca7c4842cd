import Derived.Test.YtnlkigjgloeonaaSep
import Derived.WalkKit
import Derived.ProofKit
import Derived.OpenShut
import Derived.ShutString
import Derived.ChangeOld
import Derived.Below
import Derived.WalkSpells
import Derived.Deep.QuietTactic
import Derived.BigQuiet
import Derived.Deep.RegionWith
import Derived.Deep.WholeRow
import Derived.Deep.DeepCutAuto
import Derived.Deep.RegionHeld2
import Derived.Deep.AppendLies
import Derived.Deep.RegionLaw
namespace Go.Proofs.Ytnlkigjgloeonaa
open Go.ChangeShapes Go.WideShapes Go.ChangeAt Go.RowKit

/-- a context: its registers, its Pc, whether it is halted. -/
def gx (cs : List (List Int × Int × Bool)) (i : Nat) : List Int × Int × Bool := cs.getD i ([], 0, false)

def lenX : List (List Int × Int × Bool) → Nat
  | [] => 0
  | s :: r => s.1.length + lenX r

theorem lenX_take (cs : List (List Int × Int × Bool)) (k : Nat) (h : k < cs.length) : lenX (cs.take (k + 1)) = lenX (cs.take k) + (gx cs k).1.length := by
  induction cs generalizing k with
  | nil => simp at h
  | cons s r ih =>
    cases k with
    | zero => simp [lenX, gx]
    | succ k =>
      have := ih k (by simpa using h)
      simp only [List.take_succ_cons, lenX] at this ⊢
      rw [this]
      simp [gx]
      omega

theorem lenX_le (cs : List (List Int × Int × Bool)) (k : Nat) : lenX (cs.take k) ≤ lenX cs := by
  induction cs generalizing k with
  | nil => simp
  | cons s r ih =>
    cases k with
    | zero => simp [lenX]
    | succ k => simp only [List.take_succ_cons, lenX]; have := ih k; omega

theorem gx_le (cs : List (List Int × Int × Bool)) (k : Nat) (h : k < cs.length) : (gx cs k).1.length ≤ lenX cs := by
  have h1 := lenX_take cs k h
  have h2 := lenX_le cs (k + 1)
  omega

theorem lenX_congr : ∀ (ss rr : List (List Int × Int × Bool)), ss.length = rr.length → (∀ j, j < ss.length → (gx ss j).1.length = (gx rr j).1.length) → lenX ss = lenX rr
  | [], [], _, _ => rfl
  | [], _ :: _, h, _ => by simp at h
  | _ :: _, [], h, _ => by simp at h
  | s :: r, t :: q, h, hl => by
    have h0 := hl 0 (by simp)
    have ih := lenX_congr r q (by simpa using h) (fun j hj => by have := hl (j + 1) (by simpa using hj); simpa [gx] using this)
    simp [lenX, gx] at h0 ⊢
    omega

theorem gx_ext {cs ds : List (List Int × Int × Bool)} (h : cs.length = ds.length) (hc : ∀ j, j < cs.length → gx cs j = gx ds j) : cs = ds := by
  apply List.ext_getElem h
  intro i h1 h2
  have e1 := hc i h1
  simpa [gx, h1, h2] using e1

/-- a slice of contexts (three cells each) that reads as cs. -/
def Scx (w : World) (a : Option Addr) (n : Nat) (cs : List (List Int × Int × Bool)) : Prop :=
  cs.length = n ∧ (0 < n → ∃ b off, a = some ⟨b, off, none⟩ ∧ b < w.heap.size ∧ ∀ i, i < n → ∃ la ll lc, w.cell? ⟨b, off + i * 3, none⟩ = some (.slice la ll lc) ∧ w.cell? ⟨b, off + i * 3 + 1, none⟩ = some (.int .i64 (gx cs i).2.1) ∧ w.cell? ⟨b, off + i * 3 + 2, none⟩ = some (.bool (gx cs i).2.2) ∧ ll ≤ maxLen ∧ Sl w la ll (gx cs i).1)

theorem Scx.below {w w' : World} {a : Option Addr} {n : Nat} {cs : List (List Int × Int × Bool)} (h : Scx w a n cs) {B : Nat} (hb : Below B w w') (hB : w.heap.size ≤ B) : Scx w' a n cs := by
  obtain ⟨h1, h2⟩ := h
  refine ⟨h1, fun hp => ?_⟩
  obtain ⟨b, off, h3, h4, h5⟩ := h2 hp
  refine ⟨b, off, h3, by have := hb.size; omega, fun i hi => ?_⟩
  obtain ⟨la, ll, lc, h6, h7, h8, h9, h10⟩ := h5 i hi
  exact ⟨la, ll, lc, (hb.cell (p := ⟨b, off + i * 3, none⟩) (by show b < B; omega)).trans h6, (hb.cell (p := ⟨b, off + i * 3 + 1, none⟩) (by show b < B; omega)).trans h7, (hb.cell (p := ⟨b, off + i * 3 + 2, none⟩) (by show b < B; omega)).trans h8, h9, h10.below hb hB⟩

/-- the body of an owned slice of contexts: block N, the registers of i in block lb i. -/
structure OXb (S : Nat → Prop) (N n : Nat) (la : Nat → Option Addr) (lc lb : Nat → Nat) (fl : Nat → List Int) (fp : Nat → Int) (fh : Nat → Bool) (w : World) : Prop where
  hS : S N
  lt : N < w.heap.size
  fz : ∀ j, w.frozen? ⟨N, j, none⟩ = false
  c0 : ∀ i, i < n → w.cell? ⟨N, i * 3, none⟩ = some (.slice (la i) (fl i).length (lc i))
  c1 : ∀ i, i < n → w.cell? ⟨N, i * 3 + 1, none⟩ = some (.int .i64 (fp i))
  c2 : ∀ i, i < n → w.cell? ⟨N, i * 3 + 2, none⟩ = some (.bool (fh i))
  os : ∀ i, i < n → OS (fun k => k = lb i ∧ 0 < (fl i).length) (la i) (fl i).length (fl i) w
  lS : ∀ i, i < n → 0 < (fl i).length → S (lb i)
  ne : ∀ i, i < n → 0 < (fl i).length → lb i ≠ N
  ap : ∀ i j, i < n → j < n → i ≠ j → 0 < (fl i).length → 0 < (fl j).length → lb i ≠ lb j

theorem OXb.congr {S : Nat → Prop} {N n : Nat} {la : Nat → Option Addr} {lc lb : Nat → Nat} {fl fl' : Nat → List Int} {fp fp' : Nat → Int} {fh fh' : Nat → Bool} {w : World} (h : OXb S N n la lc lb fl fp fh w) (h1 : ∀ i, i < n → fl i = fl' i) (h2 : ∀ i, i < n → fp i = fp' i) (h3 : ∀ i, i < n → fh i = fh' i) : OXb S N n la lc lb fl' fp' fh' w :=
  ⟨h.hS, h.lt, h.fz, fun i hi => h1 i hi ▸ h.c0 i hi, fun i hi => h2 i hi ▸ h.c1 i hi, fun i hi => h3 i hi ▸ h.c2 i hi, fun i hi => h1 i hi ▸ h.os i hi, fun i hi hl => h.lS i hi (by rw [h1 i hi]; exact hl), fun i hi hl => h.ne i hi (by rw [h1 i hi]; exact hl), fun i j hi hj e a b => h.ap i j hi hj e (by rw [h1 i hi]; exact a) (by rw [h1 j hj]; exact b)⟩

/-- what hangs on the block N and on those of the registers alone. -/
theorem OXb.loc {S : Nat → Prop} {N n : Nat} {la : Nat → Option Addr} {lc lb : Nat → Nat} {fl : Nat → List Int} {fp : Nat → Int} {fh : Nat → Bool} : Loc S (OXb S N n la lc lb fl fp fh) := fun w w' hk h => by
  have eN := hk N h.hS h.lt
  have hN' : N < w'.heap.size := by
    rw [Array.getElem?_eq_getElem h.lt] at eN
    exact (Array.getElem?_eq_some_iff.1 eN).1
  exact ⟨h.hS, hN', fun j => (World.frozen?_of_block (a := ⟨N, j, none⟩) eN).trans (h.fz j), fun i hi => (World.cell?_of_block (a := ⟨N, i * 3, none⟩) eN).trans (h.c0 i hi), fun i hi => (World.cell?_of_block (a := ⟨N, i * 3 + 1, none⟩) eN).trans (h.c1 i hi), fun i hi => (World.cell?_of_block (a := ⟨N, i * 3 + 2, none⟩) eN).trans (h.c2 i hi),
    fun i hi => OS.loc w w' (fun k e hl => hk k (e.1 ▸ h.lS i hi e.2) hl) (h.os i hi), h.lS, h.ne, h.ap⟩

theorem OXb.mono {S S' : Nat → Prop} {N n : Nat} {la : Nat → Option Addr} {lc lb : Nat → Nat} {fl : Nat → List Int} {fp : Nat → Int} {fh : Nat → Bool} {w : World} (h : OXb S N n la lc lb fl fp fh w) (hs : ∀ k, S k → S' k) : OXb S' N n la lc lb fl fp fh w :=
  ⟨hs _ h.hS, h.lt, h.fz, h.c0, h.c1, h.c2, h.os, fun i hi hl => hs _ (h.lS i hi hl), h.ne, h.ap⟩

/-- the Pc of i is written. -/
theorem OXb.setPc {S : Nat → Prop} {N n : Nat} {la : Nat → Option Addr} {lc lb : Nat → Nat} {fl : Nat → List Int} {fp : Nat → Int} {fh : Nat → Bool} {w : World} (h : OXb S N n la lc lb fl fp fh w) {i : Nat} (hi : i < n) (c : Int) : OXb S N n la lc lb fl (fun j => if j = i then c else fp j) fh (w.setCell ⟨N, i * 3 + 1, none⟩ (.int .i64 c)) := by
  refine ⟨h.hS, by simpa using h.lt, fun j => by simpa using h.fz j, fun j hj => ?_, fun j hj => ?_, fun j hj => ?_, fun j hj => ?_, h.lS, h.ne, h.ap⟩
  · rw [World.cell?_setCell_other _ _ _ _ (fun h => by injection h with _ h2; omega)]; exact h.c0 j hj
  · by_cases e : j = i
    · subst e; rw [if_pos rfl]; exact World.cell?_setCell_same _ _ _ (h.c1 j hj)
    · rw [if_neg e, World.cell?_setCell_other _ _ _ _ (fun h => by injection h with _ h2; omega)]; exact h.c1 j hj
  · rw [World.cell?_setCell_other _ _ _ _ (fun h => by injection h with _ h2; omega)]; exact h.c2 j hj
  · exact OS.loc w _ (fun k hk _ => Below.heap_setCell _ _ _ _ (fun e => h.ne j hj hk.2 (hk.1.symm.trans e))) (h.os j hj)

/-- whether i is halted is written. -/
theorem OXb.setHalt {S : Nat → Prop} {N n : Nat} {la : Nat → Option Addr} {lc lb : Nat → Nat} {fl : Nat → List Int} {fp : Nat → Int} {fh : Nat → Bool} {w : World} (h : OXb S N n la lc lb fl fp fh w) {i : Nat} (hi : i < n) (c : Bool) : OXb S N n la lc lb fl fp (fun j => if j = i then c else fh j) (w.setCell ⟨N, i * 3 + 2, none⟩ (.bool c)) := by
  refine ⟨h.hS, by simpa using h.lt, fun j => by simpa using h.fz j, fun j hj => ?_, fun j hj => ?_, fun j hj => ?_, fun j hj => ?_, h.lS, h.ne, h.ap⟩
  · rw [World.cell?_setCell_other _ _ _ _ (fun h => by injection h with _ h2; omega)]; exact h.c0 j hj
  · rw [World.cell?_setCell_other _ _ _ _ (fun h => by injection h with _ h2; omega)]; exact h.c1 j hj
  · by_cases e : j = i
    · subst e; rw [if_pos rfl]; exact World.cell?_setCell_same _ _ _ (h.c2 j hj)
    · rw [if_neg e, World.cell?_setCell_other _ _ _ _ (fun h => by injection h with _ h2; omega)]; exact h.c2 j hj
  · exact OS.loc w _ (fun k hk _ => Below.heap_setCell _ _ _ _ (fun e => h.ne j hj hk.2 (hk.1.symm.trans e))) (h.os j hj)

/-- the registers of i are written. -/
theorem OXb.setRegs {S : Nat → Prop} {N n : Nat} {la : Nat → Option Addr} {lc lb : Nat → Nat} {fl : Nat → List Int} {fp : Nat → Int} {fh : Nat → Bool} {w w' : World} (h : OXb S N n la lc lb fl fp fh w) {i : Nat} (hi : i < n) {zs : List Int} (hz : zs.length = (fl i).length) (ho : OutS (fun k => k = lb i ∧ 0 < (fl i).length) w w') (hs : OS (fun k => k = lb i ∧ 0 < (fl i).length) (la i) (fl i).length zs w') : OXb S N n la lc lb (fun j => if j = i then zs else fl j) fp fh w' := by
  have eN := ho.block N h.lt (fun e => h.ne i hi e.2 e.1.symm)
  have hlen : ∀ j, (if j = i then zs else fl j).length = (fl j).length := fun j => by
    by_cases e : j = i
    · subst e; rw [if_pos rfl, hz]
    · rw [if_neg e]
  refine ⟨h.hS, by have := ho.size; have := h.lt; omega, fun j => (World.frozen?_of_block (a := ⟨N, j, none⟩) eN).trans (h.fz j), fun j hj => (World.cell?_of_block (a := ⟨N, j * 3, none⟩) eN).trans ?_, fun j hj => (World.cell?_of_block (a := ⟨N, j * 3 + 1, none⟩) eN).trans (h.c1 j hj), fun j hj => (World.cell?_of_block (a := ⟨N, j * 3 + 2, none⟩) eN).trans (h.c2 j hj), fun j hj => ?_, fun j hj hl => h.lS j hj (by rw [hlen] at hl; exact hl), fun j hj hl => h.ne j hj (by rw [hlen] at hl; exact hl), fun a b ha hb e la lb => h.ap a b ha hb e (by rw [hlen] at la; exact la) (by rw [hlen] at lb; exact lb)⟩
  · rw [hlen]; exact h.c0 j hj
  · rw [hlen]
    by_cases e : j = i
    · subst e; rw [if_pos rfl]; exact hs
    · rw [if_neg e]; exact OS.loc.out ho (fun k hk e2 => h.ap j i hj hi e hk.2 e2.2 (hk.1.symm.trans e2.1)) (h.os j hj)

/-- an owned slice of contexts. -/
def OX (S : Nat → Prop) (a : Option Addr) (n : Nat) (cs : List (List Int × Int × Bool)) (w : World) : Prop :=
  cs.length = n ∧ n + lenX cs ≤ 1048576 ∧ ((n = 0) ∨ ∃ (N : Nat) (la : Nat → Option Addr) (lc lb : Nat → Nat), a = some ⟨N, 0, none⟩ ∧ OXb S N n la lc lb (fun i => (gx cs i).1) (fun i => (gx cs i).2.1) (fun i => (gx cs i).2.2) w)

theorem OX.loc {S : Nat → Prop} {a : Option Addr} {n : Nat} {cs : List (List Int × Int × Bool)} : Loc S (OX S a n cs) := fun w w' hk h => by
  obtain ⟨h1, h2, h3⟩ := h
  refine ⟨h1, h2, ?_⟩
  rcases h3 with h3 | ⟨N, la, lc, lb, e, hb⟩
  · exact .inl h3
  · exact .inr ⟨N, la, lc, lb, e, OXb.loc w w' hk hb⟩

theorem OX.mono {S S' : Nat → Prop} {a : Option Addr} {n : Nat} {cs : List (List Int × Int × Bool)} {w : World} (h : OX S a n cs w) (hs : ∀ k, S k → S' k) : OX S' a n cs w := by
  obtain ⟨h1, h2, h3⟩ := h
  refine ⟨h1, h2, ?_⟩
  rcases h3 with h3 | ⟨N, la, lc, lb, e, hb⟩
  · exact .inl h3
  · exact .inr ⟨N, la, lc, lb, e, hb.mono hs⟩

theorem OX.scx {S : Nat → Prop} {a : Option Addr} {n : Nat} {cs : List (List Int × Int × Bool)} {w : World} (h : OX S a n cs w) : Scx w a n cs := by
  obtain ⟨h1, h2, h3⟩ := h
  refine ⟨h1, fun hp => ?_⟩
  rcases h3 with h3 | ⟨N, la, lc, lb, rfl, hb⟩
  · omega
  · refine ⟨N, 0, rfl, hb.lt, fun i hi => ?_⟩
    have hl := gx_le cs i (by omega)
    exact ⟨la i, _, _, by simpa using hb.c0 i hi, by simpa using hb.c1 i hi, by simpa using hb.c2 i hi, by unfold maxLen; omega, (hb.os i hi).sl⟩

/-- a row of n contexts under copy. -/
structure HalfX (w : World) (N n k : Nat) (cs : List (List Int × Int × Bool)) (lb : Nat → Nat) : Prop where
  lt : N < w.heap.size
  c0 : ∀ j, j < k → w.cell? ⟨N, j * 3, none⟩ = some (.slice (some ⟨lb j, 0, none⟩) (gx cs j).1.length (gx cs j).1.length)
  c1 : ∀ j, j < k → w.cell? ⟨N, j * 3 + 1, none⟩ = some (.int .i64 (gx cs j).2.1)
  c2 : ∀ j, j < k → w.cell? ⟨N, j * 3 + 2, none⟩ = some (.bool (gx cs j).2.2)
  gt : ∀ j, j < k → N < lb j
  blk : ∀ j, j < k → Blk w (lb j) (gx cs j).1
  ap : ∀ i j, i < k → j < k → i ≠ j → lb i ≠ lb j
  all : ∀ j, j < n * 3 → ∃ v, w.cell? ⟨N, j, none⟩ = some v
  fz : ∀ j, w.frozen? ⟨N, j, none⟩ = false

theorem HalfX.below {w w' : World} {N n k : Nat} {cs : List (List Int × Int × Bool)} {lb : Nat → Nat} (h : HalfX w N n k cs lb) (hb : Below w.heap.size w w') : HalfX w' N n k cs lb :=
  ⟨by have := hb.size; have := h.lt; omega, fun j hj => (hb.cell (p := ⟨N, j * 3, none⟩) h.lt).trans (h.c0 j hj), fun j hj => (hb.cell (p := ⟨N, j * 3 + 1, none⟩) h.lt).trans (h.c1 j hj), fun j hj => (hb.cell (p := ⟨N, j * 3 + 2, none⟩) h.lt).trans (h.c2 j hj), h.gt, fun j hj => (h.blk j hj).below hb, h.ap,
    fun j hj => by obtain ⟨v, hv⟩ := h.all j hj; exact ⟨v, (hb.cell (p := ⟨N, j, none⟩) h.lt).trans hv⟩, fun j => (hb.frozen (p := ⟨N, j, none⟩) h.lt).trans (h.fz j)⟩

/-- three cells of a block are written. -/
def set3c (w : World) (N o : Nat) (v0 v1 v2 : Value) : World := ((w.setCell ⟨N, o, none⟩ v0).setCell ⟨N, o + 1, none⟩ v1).setCell ⟨N, o + 2, none⟩ v2

theorem HalfX.store {w0 w : World} {N n k b : Nat} {cs : List (List Int × Int × Bool)} {lb : Nat → Nat} (h0 : HalfX w0 N n k cs lb) (hw : Below w0.heap.size w0 w) (hk : k < n) (hb : w0.heap.size ≤ b) (hB : Blk w b (gx cs k).1) :
    HalfX (set3c w N (k * 3) (.slice (some ⟨b, 0, none⟩) (gx cs k).1.length (gx cs k).1.length) (.int .i64 (gx cs k).2.1) (.bool (gx cs k).2.2)) N n (k + 1) cs (fun j => if j = k then b else lb j) := by
  have h := h0.below hw
  have hNb : N < b := by have := h0.lt; omega
  obtain ⟨v0, hv0⟩ := h.all (k * 3) (by omega)
  obtain ⟨v1, hv1⟩ := h.all (k * 3 + 1) (by omega)
  obtain ⟨v2, hv2⟩ := h.all (k * 3 + 2) (by omega)
  have ne1 : ∀ u0 u1 u2 i, i ≠ k * 3 → i ≠ k * 3 + 1 → i ≠ k * 3 + 2 → (set3c w N (k * 3) u0 u1 u2).cell? ⟨N, i, none⟩ = w.cell? ⟨N, i, none⟩ := fun u0 u1 u2 i a b c => by
    unfold set3c
    rw [World.cell?_setCell_other _ _ _ _ (fun e => c (by injection e with _ e2; exact e2.symm)), World.cell?_setCell_other _ _ _ _ (fun e => b (by injection e with _ e2; exact e2.symm)), World.cell?_setCell_other _ _ _ _ (fun e => a (by injection e with _ e2; exact e2.symm))]
  have s0 : ∀ u0 u1 u2, (set3c w N (k * 3) u0 u1 u2).cell? ⟨N, k * 3, none⟩ = some u0 := fun u0 u1 u2 => by
    unfold set3c
    rw [World.cell?_setCell_other _ _ _ _ (fun e => by injection e with _ e2; omega), World.cell?_setCell_other _ _ _ _ (fun e => by injection e with _ e2; omega)]
    exact World.cell?_setCell_same _ _ _ hv0
  have s1 : ∀ u0 u1 u2, (set3c w N (k * 3) u0 u1 u2).cell? ⟨N, k * 3 + 1, none⟩ = some u1 := fun u0 u1 u2 => by
    unfold set3c
    rw [World.cell?_setCell_other _ _ _ _ (fun e => by injection e with _ e2; omega)]
    exact World.cell?_setCell_same _ _ _ ((World.cell?_setCell_other _ _ _ _ (fun e => by injection e with _ e2; omega)).trans hv1)
  have s2 : ∀ u0 u1 u2, (set3c w N (k * 3) u0 u1 u2).cell? ⟨N, k * 3 + 2, none⟩ = some u2 := fun u0 u1 u2 => by
    unfold set3c
    exact World.cell?_setCell_same _ _ _ ((World.cell?_setCell_other _ _ _ _ (fun e => by injection e with _ e2; omega)).trans ((World.cell?_setCell_other _ _ _ _ (fun e => by injection e with _ e2; omega)).trans hv2))
  have sb : ∀ u0 u1 u2 q zs, q ≠ N → Blk w q zs → Blk (set3c w N (k * 3) u0 u1 u2) q zs := fun u0 u1 u2 q zs hq hB => by
    unfold set3c
    exact ((hB.setCell (fun e => hq e.symm) _).setCell (fun e => hq e.symm) _).setCell (fun e => hq e.symm) _
  refine ⟨by simpa [set3c] using h.lt, fun j hj => ?_, fun j hj => ?_, fun j hj => ?_, fun j hj => ?_, fun j hj => ?_, fun i j hi hj e => ?_, fun j hj => ?_, fun j => by simpa [set3c] using h.fz j⟩
  · by_cases e : j = k
    · subst e; rw [if_pos rfl]; exact s0 _ _ _
    · rw [if_neg e]; exact (ne1 _ _ _ _ (by omega) (by omega) (by omega)).trans (h.c0 j (by omega))
  · by_cases e : j = k
    · subst e; exact s1 _ _ _
    · exact (ne1 _ _ _ _ (by omega) (by omega) (by omega)).trans (h.c1 j (by omega))
  · by_cases e : j = k
    · subst e; exact s2 _ _ _
    · exact (ne1 _ _ _ _ (by omega) (by omega) (by omega)).trans (h.c2 j (by omega))
  · by_cases e : j = k
    · rw [if_pos e]; exact hNb
    · rw [if_neg e]; exact h.gt j (by omega)
  · by_cases e : j = k
    · subst e; rw [if_pos rfl]; exact sb _ _ _ _ _ (by omega) hB
    · rw [if_neg e]; exact sb _ _ _ _ _ (by have := h.gt j (by omega); omega) (h.blk j (by omega))
  · by_cases e1 : i = k
    · rw [if_pos e1, if_neg (by omega)]
      have := (h0.blk j (by omega)).1
      omega
    · rw [if_neg e1]
      by_cases e2 : j = k
      · rw [if_pos e2]
        have := (h0.blk i (by omega)).1
        omega
      · rw [if_neg e2]; exact h.ap i j (by omega) (by omega) e
  · unfold set3c
    exact cell?_setCell_some (cell?_setCell_some (cell?_setCell_some (h.all j hj).choose_spec).choose_spec).choose_spec

theorem HalfX.start (w : World) (n : Nat) (cs : List (List Int × Int × Bool)) (lb : Nat → Nat) (t : TypeId) : HalfX (w.alloc (.cells (madeCells #[.slice none 0 0, .int .i64 0, .bool false] (n * 3)) t)) w.heap.size n 0 cs lb := by
  refine ⟨by simp, fun j hj => by omega, fun j hj => by omega, fun j hj => by omega, fun j hj => by omega, fun j hj => by omega, fun i j hi => by omega, fun j hj => ?_, fun j => by simp⟩
  have hs : j < (madeCells #[.slice none 0 0, .int .i64 0, .bool false] (n * 3)).size := by rw [size_madeCells]; exact hj
  exact ⟨(madeCells #[.slice none 0 0, .int .i64 0, .bool false] (n * 3))[j], by rw [World.cell?_alloc_new]; simp [hs]⟩

theorem HalfX.ox {w : World} {N n B : Nat} {cs : List (List Int × Int × Bool)} {lb : Nat → Nat} (h : HalfX w N n n cs lb) (hB : B ≤ N) (hn : cs.length = n) (hm : n + lenX cs ≤ 1048576) : OX (InR B w.heap.size) (some ⟨N, 0, none⟩) n cs w :=
  ⟨hn, hm, .inr ⟨N, fun j => some ⟨lb j, 0, none⟩, fun j => (gx cs j).1.length, lb, rfl, ⟨hB, h.lt⟩, h.lt, h.fz, h.c0, h.c1, h.c2, fun i hi => ⟨rfl, by have := gx_le cs i (by omega); omega, by (by_cases e : (gx cs i).1.length = 0); exact .inl e; exact .inr ⟨lb i, rfl, ⟨rfl, by omega⟩, h.blk i hi⟩⟩, fun i hi _ => ⟨by have := h.gt i hi; omega, (h.blk i hi).1⟩, fun i hi _ => by have := h.gt i hi; omega, fun i j hi hj e _ _ => h.ap i j hi hj e⟩⟩

end Go.Proofs.Ytnlkigjgloeonaa
