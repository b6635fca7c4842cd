import Derived.Test.YtgkjmeogdomgmaaGreatG1
import Derived.Test.YtgkjmeogdomgmaaGreatG2
import Derived.Test.YtgkjmeogdomgmaaGreatG3
import Derived.WalkKit
import Derived.ProofKit
import Derived.OpenShut
import Derived.ShutString
import Derived.ChangeOld
import Derived.Below
import Derived.WalkSpells
import Derived.Deep.QuietTactic
import Derived.BigQuiet
import Derived.Deep.RegionWith
import Derived.Deep.WholeRow
import Derived.Deep.DeepCutAuto
import Derived.Deep.RegionHeld2
import Derived.Deep.AppendLies
import Derived.Deep.RegionLaw
namespace Go.Proofs.YtgkjmeogdomgmaaGreat
open Go.ChangeShapes Go.WideShapes Go.ChangeAt Go.RowKit

/-- a context: its registers, its Pc, whether it is halted. -/
def gx (cs : List (List Int × Int × Bool)) (i : Nat) : List Int × Int × Bool := cs.getD i ([], 0, false)

def lenX : List (List Int × Int × Bool) → Nat
  | [] => 0
  | s :: r => s.1.length + lenX r

theorem lenX_take (cs : List (List Int × Int × Bool)) (k : Nat) (h : k < cs.length) : lenX (cs.take (k + 1)) = lenX (cs.take k) + (gx cs k).1.length := by
  induction cs generalizing k with
  | nil => simp at h
  | cons s r ih =>
    cases k with
    | zero => simp [lenX, gx]
    | succ k =>
      have := ih k (by simpa using h)
      simp only [List.take_succ_cons, lenX] at this ⊢
      rw [this]
      simp [gx]
      omega

theorem lenX_le (cs : List (List Int × Int × Bool)) (k : Nat) : lenX (cs.take k) ≤ lenX cs := by
  induction cs generalizing k with
  | nil => simp
  | cons s r ih =>
    cases k with
    | zero => simp [lenX]
    | succ k => simp only [List.take_succ_cons, lenX]; have := ih k; omega

theorem gx_le (cs : List (List Int × Int × Bool)) (k : Nat) (h : k < cs.length) : (gx cs k).1.length ≤ lenX cs := by
  have h1 := lenX_take cs k h
  have h2 := lenX_le cs (k + 1)
  omega

theorem lenX_congr : ∀ (ss rr : List (List Int × Int × Bool)), ss.length = rr.length → (∀ j, j < ss.length → (gx ss j).1.length = (gx rr j).1.length) → lenX ss = lenX rr
  | [], [], _, _ => rfl
  | [], _ :: _, h, _ => by simp at h
  | _ :: _, [], h, _ => by simp at h
  | s :: r, t :: q, h, hl => by
    have h0 := hl 0 (by simp)
    have ih := lenX_congr r q (by simpa using h) (fun j hj => by have := hl (j + 1) (by simpa using hj); simpa [gx] using this)
    simp [lenX, gx] at h0 ⊢
    omega

/-- a slice of contexts (three cells each) that reads as cs. -/
def Scx (w : World) (a : Option Addr) (n : Nat) (cs : List (List Int × Int × Bool)) : Prop :=
  cs.length = n ∧ (0 < n → ∃ b off, a = some ⟨b, off, none⟩ ∧ b < w.heap.size ∧ ∀ i, i < n → ∃ la ll lc, w.cell? ⟨b, off + i * 3, none⟩ = some (.slice la ll lc) ∧ w.cell? ⟨b, off + i * 3 + 1, none⟩ = some (.int .i64 (gx cs i).2.1) ∧ w.cell? ⟨b, off + i * 3 + 2, none⟩ = some (.bool (gx cs i).2.2) ∧ ll ≤ maxLen ∧ Sl w la ll (gx cs i).1)

theorem Scx.below {w w' : World} {a : Option Addr} {n : Nat} {cs : List (List Int × Int × Bool)} (h : Scx w a n cs) {B : Nat} (hb : Below B w w') (hB : w.heap.size ≤ B) : Scx w' a n cs := by
  obtain ⟨h1, h2⟩ := h
  refine ⟨h1, fun hp => ?_⟩
  obtain ⟨b, off, h3, h4, h5⟩ := h2 hp
  refine ⟨b, off, h3, by have := hb.size; omega, fun i hi => ?_⟩
  obtain ⟨la, ll, lc, h6, h7, h8, h9, h10⟩ := h5 i hi
  exact ⟨la, ll, lc, (hb.cell (p := ⟨b, off + i * 3, none⟩) (by show b < B; omega)).trans h6, (hb.cell (p := ⟨b, off + i * 3 + 1, none⟩) (by show b < B; omega)).trans h7, (hb.cell (p := ⟨b, off + i * 3 + 2, none⟩) (by show b < B; omega)).trans h8, h9, h10.below hb hB⟩

/-- the body of an owned slice of contexts: block N, the registers of i in block lb i. -/
structure OXb (S : Nat → Prop) (N n : Nat) (la : Nat → Option Addr) (lc lb : Nat → Nat) (fl : Nat → List Int) (fp : Nat → Int) (fh : Nat → Bool) (w : World) : Prop where
  hS : S N
  lt : N < w.heap.size
  fz : ∀ j, w.frozen? ⟨N, j, none⟩ = false
  c0 : ∀ i, i < n → w.cell? ⟨N, i * 3, none⟩ = some (.slice (la i) (fl i).length (lc i))
  c1 : ∀ i, i < n → w.cell? ⟨N, i * 3 + 1, none⟩ = some (.int .i64 (fp i))
  c2 : ∀ i, i < n → w.cell? ⟨N, i * 3 + 2, none⟩ = some (.bool (fh i))
  os : ∀ i, i < n → OS (fun k => k = lb i ∧ 0 < (fl i).length) (la i) (fl i).length (fl i) w
  lS : ∀ i, i < n → 0 < (fl i).length → S (lb i)
  ne : ∀ i, i < n → 0 < (fl i).length → lb i ≠ N
  ap : ∀ i j, i < n → j < n → i ≠ j → 0 < (fl i).length → 0 < (fl j).length → lb i ≠ lb j

theorem OXb.congr {S : Nat → Prop} {N n : Nat} {la : Nat → Option Addr} {lc lb : Nat → Nat} {fl fl' : Nat → List Int} {fp fp' : Nat → Int} {fh fh' : Nat → Bool} {w : World} (h : OXb S N n la lc lb fl fp fh w) (h1 : ∀ i, i < n → fl i = fl' i) (h2 : ∀ i, i < n → fp i = fp' i) (h3 : ∀ i, i < n → fh i = fh' i) : OXb S N n la lc lb fl' fp' fh' w :=
  ⟨h.hS, h.lt, h.fz, fun i hi => h1 i hi ▸ h.c0 i hi, fun i hi => h2 i hi ▸ h.c1 i hi, fun i hi => h3 i hi ▸ h.c2 i hi, fun i hi => h1 i hi ▸ h.os i hi, fun i hi hl => h.lS i hi (by rw [h1 i hi]; exact hl), fun i hi hl => h.ne i hi (by rw [h1 i hi]; exact hl), fun i j hi hj e a b => h.ap i j hi hj e (by rw [h1 i hi]; exact a) (by rw [h1 j hj]; exact b)⟩

/-- what hangs on the block N and on those of the registers alone. -/
theorem OXb.loc {S : Nat → Prop} {N n : Nat} {la : Nat → Option Addr} {lc lb : Nat → Nat} {fl : Nat → List Int} {fp : Nat → Int} {fh : Nat → Bool} : Loc S (OXb S N n la lc lb fl fp fh) := fun w w' hk h => by
  have eN := hk N h.hS h.lt
  have hN' : N < w'.heap.size := by
    rw [Array.getElem?_eq_getElem h.lt] at eN
    exact (Array.getElem?_eq_some_iff.1 eN).1
  exact ⟨h.hS, hN', fun j => (World.frozen?_of_block (a := ⟨N, j, none⟩) eN).trans (h.fz j), fun i hi => (World.cell?_of_block (a := ⟨N, i * 3, none⟩) eN).trans (h.c0 i hi), fun i hi => (World.cell?_of_block (a := ⟨N, i * 3 + 1, none⟩) eN).trans (h.c1 i hi), fun i hi => (World.cell?_of_block (a := ⟨N, i * 3 + 2, none⟩) eN).trans (h.c2 i hi),
    fun i hi => OS.loc w w' (fun k e hl => hk k (e.1 ▸ h.lS i hi e.2) hl) (h.os i hi), h.lS, h.ne, h.ap⟩

theorem OXb.mono {S S' : Nat → Prop} {N n : Nat} {la : Nat → Option Addr} {lc lb : Nat → Nat} {fl : Nat → List Int} {fp : Nat → Int} {fh : Nat → Bool} {w : World} (h : OXb S N n la lc lb fl fp fh w) (hs : ∀ k, S k → S' k) : OXb S' N n la lc lb fl fp fh w :=
  ⟨hs _ h.hS, h.lt, h.fz, h.c0, h.c1, h.c2, h.os, fun i hi hl => hs _ (h.lS i hi hl), h.ne, h.ap⟩

/-- the Pc of i is written. -/
theorem OXb.setPc {S : Nat → Prop} {N n : Nat} {la : Nat → Option Addr} {lc lb : Nat → Nat} {fl : Nat → List Int} {fp : Nat → Int} {fh : Nat → Bool} {w : World} (h : OXb S N n la lc lb fl fp fh w) {i : Nat} (hi : i < n) (c : Int) : OXb S N n la lc lb fl (fun j => if j = i then c else fp j) fh (w.setCell ⟨N, i * 3 + 1, none⟩ (.int .i64 c)) := by
  refine ⟨h.hS, by simpa using h.lt, fun j => by simpa using h.fz j, fun j hj => ?_, fun j hj => ?_, fun j hj => ?_, fun j hj => ?_, h.lS, h.ne, h.ap⟩
  · rw [World.cell?_setCell_other _ _ _ _ (fun h => by injection h with _ h2; omega)]; exact h.c0 j hj
  · by_cases e : j = i
    · subst e; rw [if_pos rfl]; exact World.cell?_setCell_same _ _ _ (h.c1 j hj)
    · rw [if_neg e, World.cell?_setCell_other _ _ _ _ (fun h => by injection h with _ h2; omega)]; exact h.c1 j hj
  · rw [World.cell?_setCell_other _ _ _ _ (fun h => by injection h with _ h2; omega)]; exact h.c2 j hj
  · exact OS.loc w _ (fun k hk _ => Below.heap_setCell _ _ _ _ (fun e => h.ne j hj hk.2 (hk.1.symm.trans e))) (h.os j hj)

/-- whether i is halted is written. -/
theorem OXb.setHalt {S : Nat → Prop} {N n : Nat} {la : Nat → Option Addr} {lc lb : Nat → Nat} {fl : Nat → List Int} {fp : Nat → Int} {fh : Nat → Bool} {w : World} (h : OXb S N n la lc lb fl fp fh w) {i : Nat} (hi : i < n) (c : Bool) : OXb S N n la lc lb fl fp (fun j => if j = i then c else fh j) (w.setCell ⟨N, i * 3 + 2, none⟩ (.bool c)) := by
  refine ⟨h.hS, by simpa using h.lt, fun j => by simpa using h.fz j, fun j hj => ?_, fun j hj => ?_, fun j hj => ?_, fun j hj => ?_, h.lS, h.ne, h.ap⟩
  · rw [World.cell?_setCell_other _ _ _ _ (fun h => by injection h with _ h2; omega)]; exact h.c0 j hj
  · rw [World.cell?_setCell_other _ _ _ _ (fun h => by injection h with _ h2; omega)]; exact h.c1 j hj
  · by_cases e : j = i
    · subst e; rw [if_pos rfl]; exact World.cell?_setCell_same _ _ _ (h.c2 j hj)
    · rw [if_neg e, World.cell?_setCell_other _ _ _ _ (fun h => by injection h with _ h2; omega)]; exact h.c2 j hj
  · exact OS.loc w _ (fun k hk _ => Below.heap_setCell _ _ _ _ (fun e => h.ne j hj hk.2 (hk.1.symm.trans e))) (h.os j hj)

/-- the registers of i are written. -/
theorem OXb.setRegs {S : Nat → Prop} {N n : Nat} {la : Nat → Option Addr} {lc lb : Nat → Nat} {fl : Nat → List Int} {fp : Nat → Int} {fh : Nat → Bool} {w w' : World} (h : OXb S N n la lc lb fl fp fh w) {i : Nat} (hi : i < n) {zs : List Int} (hz : zs.length = (fl i).length) (ho : OutS (fun k => k = lb i ∧ 0 < (fl i).length) w w') (hs : OS (fun k => k = lb i ∧ 0 < (fl i).length) (la i) (fl i).length zs w') : OXb S N n la lc lb (fun j => if j = i then zs else fl j) fp fh w' := by
  have eN := ho.block N h.lt (fun e => h.ne i hi e.2 e.1.symm)
  have hlen : ∀ j, (if j = i then zs else fl j).length = (fl j).length := fun j => by
    by_cases e : j = i
    · subst e; rw [if_pos rfl, hz]
    · rw [if_neg e]
  refine ⟨h.hS, by have := ho.size; have := h.lt; omega, fun j => (World.frozen?_of_block (a := ⟨N, j, none⟩) eN).trans (h.fz j), fun j hj => (World.cell?_of_block (a := ⟨N, j * 3, none⟩) eN).trans ?_, fun j hj => (World.cell?_of_block (a := ⟨N, j * 3 + 1, none⟩) eN).trans (h.c1 j hj), fun j hj => (World.cell?_of_block (a := ⟨N, j * 3 + 2, none⟩) eN).trans (h.c2 j hj), fun j hj => ?_, fun j hj hl => h.lS j hj (by rw [hlen] at hl; exact hl), fun j hj hl => h.ne j hj (by rw [hlen] at hl; exact hl), fun a b ha hb e la lb => h.ap a b ha hb e (by rw [hlen] at la; exact la) (by rw [hlen] at lb; exact lb)⟩
  · rw [hlen]; exact h.c0 j hj
  · rw [hlen]
    by_cases e : j = i
    · subst e; rw [if_pos rfl]; exact hs
    · rw [if_neg e]; exact OS.loc.out ho (fun k hk e2 => h.ap j i hj hi e hk.2 e2.2 (hk.1.symm.trans e2.1)) (h.os j hj)

/-- an owned slice of contexts. -/
def OX (S : Nat → Prop) (a : Option Addr) (n : Nat) (cs : List (List Int × Int × Bool)) (w : World) : Prop :=
  cs.length = n ∧ n + lenX cs ≤ 1048576 ∧ ((n = 0) ∨ ∃ (N : Nat) (la : Nat → Option Addr) (lc lb : Nat → Nat), a = some ⟨N, 0, none⟩ ∧ OXb S N n la lc lb (fun i => (gx cs i).1) (fun i => (gx cs i).2.1) (fun i => (gx cs i).2.2) w)

theorem OX.loc {S : Nat → Prop} {a : Option Addr} {n : Nat} {cs : List (List Int × Int × Bool)} : Loc S (OX S a n cs) := fun w w' hk h => by
  obtain ⟨h1, h2, h3⟩ := h
  refine ⟨h1, h2, ?_⟩
  rcases h3 with h3 | ⟨N, la, lc, lb, e, hb⟩
  · exact .inl h3
  · exact .inr ⟨N, la, lc, lb, e, OXb.loc w w' hk hb⟩

theorem OX.mono {S S' : Nat → Prop} {a : Option Addr} {n : Nat} {cs : List (List Int × Int × Bool)} {w : World} (h : OX S a n cs w) (hs : ∀ k, S k → S' k) : OX S' a n cs w := by
  obtain ⟨h1, h2, h3⟩ := h
  refine ⟨h1, h2, ?_⟩
  rcases h3 with h3 | ⟨N, la, lc, lb, e, hb⟩
  · exact .inl h3
  · exact .inr ⟨N, la, lc, lb, e, hb.mono hs⟩

theorem OX.scx {S : Nat → Prop} {a : Option Addr} {n : Nat} {cs : List (List Int × Int × Bool)} {w : World} (h : OX S a n cs w) : Scx w a n cs := by
  obtain ⟨h1, h2, h3⟩ := h
  refine ⟨h1, fun hp => ?_⟩
  rcases h3 with h3 | ⟨N, la, lc, lb, rfl, hb⟩
  · omega
  · refine ⟨N, 0, rfl, hb.lt, fun i hi => ?_⟩
    have hl := gx_le cs i (by omega)
    exact ⟨la i, _, _, by simpa using hb.c0 i hi, by simpa using hb.c1 i hi, by simpa using hb.c2 i hi, by unfold maxLen; omega, (hb.os i hi).sl⟩

/-- a row of n contexts under copy. -/
structure HalfX (w : World) (N n k : Nat) (cs : List (List Int × Int × Bool)) (lb : Nat → Nat) : Prop where
  lt : N < w.heap.size
  c0 : ∀ j, j < k → w.cell? ⟨N, j * 3, none⟩ = some (.slice (some ⟨lb j, 0, none⟩) (gx cs j).1.length (gx cs j).1.length)
  c1 : ∀ j, j < k → w.cell? ⟨N, j * 3 + 1, none⟩ = some (.int .i64 (gx cs j).2.1)
  c2 : ∀ j, j < k → w.cell? ⟨N, j * 3 + 2, none⟩ = some (.bool (gx cs j).2.2)
  gt : ∀ j, j < k → N < lb j
  blk : ∀ j, j < k → Blk w (lb j) (gx cs j).1
  ap : ∀ i j, i < k → j < k → i ≠ j → lb i ≠ lb j
  all : ∀ j, j < n * 3 → ∃ v, w.cell? ⟨N, j, none⟩ = some v
  fz : ∀ j, w.frozen? ⟨N, j, none⟩ = false

theorem HalfX.below {w w' : World} {N n k : Nat} {cs : List (List Int × Int × Bool)} {lb : Nat → Nat} (h : HalfX w N n k cs lb) (hb : Below w.heap.size w w') : HalfX w' N n k cs lb :=
  ⟨by have := hb.size; have := h.lt; omega, fun j hj => (hb.cell (p := ⟨N, j * 3, none⟩) h.lt).trans (h.c0 j hj), fun j hj => (hb.cell (p := ⟨N, j * 3 + 1, none⟩) h.lt).trans (h.c1 j hj), fun j hj => (hb.cell (p := ⟨N, j * 3 + 2, none⟩) h.lt).trans (h.c2 j hj), h.gt, fun j hj => (h.blk j hj).below hb, h.ap,
    fun j hj => by obtain ⟨v, hv⟩ := h.all j hj; exact ⟨v, (hb.cell (p := ⟨N, j, none⟩) h.lt).trans hv⟩, fun j => (hb.frozen (p := ⟨N, j, none⟩) h.lt).trans (h.fz j)⟩

/-- three cells of a block are written. -/
def set3c (w : World) (N o : Nat) (v0 v1 v2 : Value) : World := ((w.setCell ⟨N, o, none⟩ v0).setCell ⟨N, o + 1, none⟩ v1).setCell ⟨N, o + 2, none⟩ v2

theorem HalfX.store {w0 w : World} {N n k b : Nat} {cs : List (List Int × Int × Bool)} {lb : Nat → Nat} (h0 : HalfX w0 N n k cs lb) (hw : Below w0.heap.size w0 w) (hk : k < n) (hb : w0.heap.size ≤ b) (hB : Blk w b (gx cs k).1) :
    HalfX (set3c w N (k * 3) (.slice (some ⟨b, 0, none⟩) (gx cs k).1.length (gx cs k).1.length) (.int .i64 (gx cs k).2.1) (.bool (gx cs k).2.2)) N n (k + 1) cs (fun j => if j = k then b else lb j) := by
  have h := h0.below hw
  have hNb : N < b := by have := h0.lt; omega
  obtain ⟨v0, hv0⟩ := h.all (k * 3) (by omega)
  obtain ⟨v1, hv1⟩ := h.all (k * 3 + 1) (by omega)
  obtain ⟨v2, hv2⟩ := h.all (k * 3 + 2) (by omega)
  have ne1 : ∀ u0 u1 u2 i, i ≠ k * 3 → i ≠ k * 3 + 1 → i ≠ k * 3 + 2 → (set3c w N (k * 3) u0 u1 u2).cell? ⟨N, i, none⟩ = w.cell? ⟨N, i, none⟩ := fun u0 u1 u2 i a b c => by
    unfold set3c
    rw [World.cell?_setCell_other _ _ _ _ (fun e => c (by injection e with _ e2; exact e2.symm)), World.cell?_setCell_other _ _ _ _ (fun e => b (by injection e with _ e2; exact e2.symm)), World.cell?_setCell_other _ _ _ _ (fun e => a (by injection e with _ e2; exact e2.symm))]
  have s0 : ∀ u0 u1 u2, (set3c w N (k * 3) u0 u1 u2).cell? ⟨N, k * 3, none⟩ = some u0 := fun u0 u1 u2 => by
    unfold set3c
    rw [World.cell?_setCell_other _ _ _ _ (fun e => by injection e with _ e2; omega), World.cell?_setCell_other _ _ _ _ (fun e => by injection e with _ e2; omega)]
    exact World.cell?_setCell_same _ _ _ hv0
  have s1 : ∀ u0 u1 u2, (set3c w N (k * 3) u0 u1 u2).cell? ⟨N, k * 3 + 1, none⟩ = some u1 := fun u0 u1 u2 => by
    unfold set3c
    rw [World.cell?_setCell_other _ _ _ _ (fun e => by injection e with _ e2; omega)]
    exact World.cell?_setCell_same _ _ _ ((World.cell?_setCell_other _ _ _ _ (fun e => by injection e with _ e2; omega)).trans hv1)
  have s2 : ∀ u0 u1 u2, (set3c w N (k * 3) u0 u1 u2).cell? ⟨N, k * 3 + 2, none⟩ = some u2 := fun u0 u1 u2 => by
    unfold set3c
    exact World.cell?_setCell_same _ _ _ ((World.cell?_setCell_other _ _ _ _ (fun e => by injection e with _ e2; omega)).trans ((World.cell?_setCell_other _ _ _ _ (fun e => by injection e with _ e2; omega)).trans hv2))
  have sb : ∀ u0 u1 u2 q zs, q ≠ N → Blk w q zs → Blk (set3c w N (k * 3) u0 u1 u2) q zs := fun u0 u1 u2 q zs hq hB => by
    unfold set3c
    exact ((hB.setCell (fun e => hq e.symm) _).setCell (fun e => hq e.symm) _).setCell (fun e => hq e.symm) _
  refine ⟨by simpa [set3c] using h.lt, fun j hj => ?_, fun j hj => ?_, fun j hj => ?_, fun j hj => ?_, fun j hj => ?_, fun i j hi hj e => ?_, fun j hj => ?_, fun j => by simpa [set3c] using h.fz j⟩
  · by_cases e : j = k
    · subst e; rw [if_pos rfl]; exact s0 _ _ _
    · rw [if_neg e]; exact (ne1 _ _ _ _ (by omega) (by omega) (by omega)).trans (h.c0 j (by omega))
  · by_cases e : j = k
    · subst e; exact s1 _ _ _
    · exact (ne1 _ _ _ _ (by omega) (by omega) (by omega)).trans (h.c1 j (by omega))
  · by_cases e : j = k
    · subst e; exact s2 _ _ _
    · exact (ne1 _ _ _ _ (by omega) (by omega) (by omega)).trans (h.c2 j (by omega))
  · by_cases e : j = k
    · rw [if_pos e]; exact hNb
    · rw [if_neg e]; exact h.gt j (by omega)
  · by_cases e : j = k
    · subst e; rw [if_pos rfl]; exact sb _ _ _ _ _ (by omega) hB
    · rw [if_neg e]; exact sb _ _ _ _ _ (by have := h.gt j (by omega); omega) (h.blk j (by omega))
  · by_cases e1 : i = k
    · rw [if_pos e1, if_neg (by omega)]
      have := (h0.blk j (by omega)).1
      omega
    · rw [if_neg e1]
      by_cases e2 : j = k
      · rw [if_pos e2]
        have := (h0.blk i (by omega)).1
        omega
      · rw [if_neg e2]; exact h.ap i j (by omega) (by omega) e
  · unfold set3c
    exact cell?_setCell_some (cell?_setCell_some (cell?_setCell_some (h.all j hj).choose_spec).choose_spec).choose_spec

theorem HalfX.start (w : World) (n : Nat) (cs : List (List Int × Int × Bool)) (lb : Nat → Nat) (t : TypeId) : HalfX (w.alloc (.cells (madeCells #[.slice none 0 0, .int .i64 0, .bool false] (n * 3)) t)) w.heap.size n 0 cs lb := by
  refine ⟨by simp, fun j hj => by omega, fun j hj => by omega, fun j hj => by omega, fun j hj => by omega, fun j hj => by omega, fun i j hi => by omega, fun j hj => ?_, fun j => by simp⟩
  have hs : j < (madeCells #[.slice none 0 0, .int .i64 0, .bool false] (n * 3)).size := by rw [size_madeCells]; exact hj
  exact ⟨(madeCells #[.slice none 0 0, .int .i64 0, .bool false] (n * 3))[j], by rw [World.cell?_alloc_new]; simp [hs]⟩

theorem HalfX.ox {w : World} {N n B : Nat} {cs : List (List Int × Int × Bool)} {lb : Nat → Nat} (h : HalfX w N n n cs lb) (hB : B ≤ N) (hn : cs.length = n) (hm : n + lenX cs ≤ 1048576) : OX (InR B w.heap.size) (some ⟨N, 0, none⟩) n cs w :=
  ⟨hn, hm, .inr ⟨N, fun j => some ⟨lb j, 0, none⟩, fun j => (gx cs j).1.length, lb, rfl, ⟨hB, h.lt⟩, h.lt, h.fz, h.c0, h.c1, h.c2, fun i hi => ⟨rfl, by have := gx_le cs i (by omega); omega, by (by_cases e : (gx cs i).1.length = 0); exact .inl e; exact .inr ⟨lb i, rfl, ⟨rfl, by omega⟩, h.blk i hi⟩⟩, fun i hi _ => ⟨by have := h.gt i hi; omega, (h.blk i hi).1⟩, fun i hi _ => by have := h.gt i hi; omega, fun i j hi hj e _ _ => h.ap i j hi hj e⟩⟩

theorem q6_bel {W X : World} {A0 A1 A2 A3 A4 A5 : Addr} {v0 v1 v2 v3 v4 v5 : Value} (h : X.cell? A0 = some v0 ∧ X.cell? A1 = some v1 ∧ X.cell? A2 = some v2 ∧ X.cell? A3 = some v3 ∧ X.cell? A4 = some v4 ∧ X.cell? A5 = some v5 ∧ Below W.heap.size W X) : Below W.heap.size W X := h.2.2.2.2.2.2

theorem q6_below {W X Y : World} {A0 A1 A2 A3 A4 A5 : Addr} {v0 v1 v2 v3 v4 v5 : Value} (h0 : A0.block < W.heap.size) (h1 : A1.block < W.heap.size) (h2 : A2.block < W.heap.size) (h3 : A3.block < W.heap.size) (h4 : A4.block < W.heap.size) (h5 : A5.block < W.heap.size) (h : X.cell? A0 = some v0 ∧ X.cell? A1 = some v1 ∧ X.cell? A2 = some v2 ∧ X.cell? A3 = some v3 ∧ X.cell? A4 = some v4 ∧ X.cell? A5 = some v5 ∧ Below W.heap.size W X) (g : Below X.heap.size X Y) : Y.cell? A0 = some v0 ∧ Y.cell? A1 = some v1 ∧ Y.cell? A2 = some v2 ∧ Y.cell? A3 = some v3 ∧ Y.cell? A4 = some v4 ∧ Y.cell? A5 = some v5 ∧ Below W.heap.size W Y := by
  have hz := (h.2.2.2.2.2.2).size
  exact ⟨(g.cell (by omega)).trans h.1, (g.cell (by omega)).trans h.2.1, (g.cell (by omega)).trans h.2.2.1, (g.cell (by omega)).trans h.2.2.2.1, (g.cell (by omega)).trans h.2.2.2.2.1, (g.cell (by omega)).trans h.2.2.2.2.2.1, (h.2.2.2.2.2.2).trans (g.mono hz)⟩

set_option maxRecDepth 100000 in
theorem szContext_calls (a : Option Addr) (len cap : Nat) (p : Int) (h : Bool) (left : Int) (w : World) (h0 : 0 ≤ left) (h1 : left ≤ 1048576) (hl : len ≤ maxLen) :
    Calls Tryz.prog 46 #[.agg #[.slice a len cap, .int .i64 p, .bool h], .int .i64 left] w fun e w' => e = .returned (.int .i64 (szI len left)) ∧ Below w.heap.size w w' := by
  by_cases h : left - len < 0
  · go_enter Tryz.func46, Tryz.ntmps46
    go_wp2_with fail
    refine (sz_calls a len cap left _ h0 h1 hl).mono ?_
    rintro e w1 ⟨rfl, hb⟩
    rw [szI_neg h]
    go_wp2
    go_ret
    exact ⟨ret_int (szI_neg h).symm, ((Below.refl _ _).alloc (Nat.le_refl _) _).trans (hb.mono (by simp))⟩
  · have hp : 0 ≤ left - len := by omega
    go_enter Tryz.func46, Tryz.ntmps46
    go_wp2_with fail
    refine (sz_calls a len cap left _ h0 h1 hl).mono ?_
    rintro e w1 ⟨rfl, hb⟩
    rw [szI_pos hp]
    go_wp2
    go_ret
    exact ⟨ret_int (szI_pos hp).symm, ((Below.refl _ _).alloc (Nat.le_refl _) _).trans (hb.mono (by simp))⟩

set_option maxRecDepth 100000 in
theorem szContextS_calls (a : Option Addr) (n cap : Nat) (cs : List (List Int × Int × Bool)) (left : Int) (w : World) (h0 : 0 ≤ left) (h1 : left ≤ 1048576) (hl : n ≤ maxLen) (hs : Scx w a n cs) :
    Calls Tryz.prog 15 #[.slice a n cap, .int .i64 left] w fun e w' => e = .returned (.int .i64 (szI (n + lenX cs) left)) ∧ Below w.heap.size w w' := by
  unfold maxLen at hl
  obtain ⟨hlen, hs⟩ := hs
  by_cases h : left - n < 0
  · go_enter Tryz.func15, Tryz.ntmps15
    go_wp2
    go_ret
    exact ⟨ret_int (szI_neg (by omega)).symm, Below.refl _ _⟩
  · go_enter Tryz.func15, Tryz.ntmps15
    go_wp2
    go_loopw [5, 1] (fun i l wr => ∃ k : Nat, k ≤ n ∧ i = .int .i64 k ∧ l = .int .i64 (left - n - lenX (cs.take k)) ∧ 0 ≤ left - n - lenX (cs.take k) ∧ Below w.heap.size w wr) (fun i _ _ => n - (intOf i).toNat)
    case atStart => exact ⟨0, Nat.zero_le _, rfl, by simp [lenX], by simp [lenX]; omega, Below.refl _ _⟩
    case round =>
      obtain ⟨k, hk, rfl, rfl, hpos, hbel⟩ := hrel
      by_cases hlt : k < n
      · obtain ⟨b, off, rfl, hb, hc⟩ := hs (by omega)
        obtain ⟨la, ll, lc, hc0, hc1, hc2, hll, hsl⟩ := hc k hlt
        have hck0 := (hbel.cell (p := ⟨b, off + k * 3, none⟩) hb).trans hc0
        have hck1 := (hbel.cell (p := ⟨b, off + k * 3 + 1, none⟩) hb).trans hc1
        have hck2 := (hbel.cell (p := ⟨b, off + k * 3 + 2, none⟩) hb).trans hc2
        have hzl : (gx cs k).1.length = ll := hsl.1
        have hstep := lenX_take cs k (by omega)
        have htot := lenX_le cs (k + 1)
        have hb1 : left - n - lenX (cs.take k) ≤ 1048576 := by omega
        by_cases hneg : left - n - lenX (cs.take k) - ll < 0
        · have Hr := hide (szI_neg (len := n + lenX cs) (left := left) (by omega))
          clear hstep htot
          go_wp2_with fail
          refine (szContext_calls la ll lc (gx cs k).2.1 (gx cs k).2.2 _ _ hpos hb1 hll).mono ?_
          rintro e w1 ⟨rfl, g1⟩
          rw [szI_neg hneg]
          go_wp2
          go_ret
          exact ⟨ret_int Hr.out.symm, hbel.trans (g1.mono hbel.size)⟩
        · have hp2 : 0 ≤ left - n - lenX (cs.take k) - ll := by omega
          have Hr : Hid (left - n - lenX (cs.take k) - ll = left - n - lenX (cs.take (k + 1)) ∧ 0 ≤ left - n - lenX (cs.take (k + 1))) := ⟨by omega, by omega⟩
          clear hstep htot
          go_wp2_with fail
          refine (szContext_calls la ll lc (gx cs k).2.1 (gx cs k).2.2 _ _ hpos hb1 hll).mono ?_
          rintro e w1 ⟨rfl, g1⟩
          rw [szI_pos hp2]
          go_wp2
          go_roundw
          case rel => exact ⟨k + 1, by omega, by go_num, by rw [Hr.out.1], Hr.out.2, hbel.trans (g1.mono hbel.size)⟩
          case measure => simp [intOf]; omega
      · have hkn : k = n := by omega
        have ht : cs.take k = cs := by rw [hkn, ← hlen, List.take_length]
        have Hr : Hid (szI (n + lenX cs) left = left - n - lenX (cs.take k)) := by
          rw [ht] at hpos ⊢
          show szI _ _ = _
          rw [szI_pos (by omega)]; omega
        clear ht
        go_wp2
        go_ret
        exact ⟨ret_int Hr.out.symm, hbel⟩

theorem infoContext : (Tryz.prog.info? 108).map (fun i => (i.zero, i.size, i.bytes)) = some (some (.agg #[.slice none 0 0, .int .i64 0, .bool false]), 3, 40) := by kernel_rfl

set_option maxRecDepth 100000 in
theorem toContext_calls (a : Option Addr) (n cap : Nat) (p : Int) (h : Bool) (zs : List Int) (w : World) (hl : n ≤ 1048576) (hs : Sl w a n zs) :
    Calls Tryz.prog 67 #[.agg #[.slice a n cap, .int .i64 p, .bool h]] w fun e w' => ∃ b, e = .returned (.agg #[.slice (some ⟨b, 0, none⟩) n n, .int .i64 p, .bool h]) ∧ w.heap.size ≤ b ∧ Blk w' b zs ∧ Below w.heap.size w w' := by
  have M0 := (((Mm.start w).alloc3 (.slice a n cap) (.int .i64 p) (.bool h) 96).alloc3 (.slice none 0 0) (.int .i64 0) (.bool false) 108).alloc3 (.slice none 0 0) (.int .i64 0) (.bool false) 108
  try simp only [World.size_alloc] at M0
  have hb3 := M0.bel
  go_enter Tryz.func67, Tryz.ntmps67
  go_wp2_with fail
  refine (toInts_calls a n cap zs _ hl (hs.below hb3 (Nat.le_refl _))).mono ?_
  rintro e w1 ⟨b, rfl, hbN, hblk, hb⟩
  have M1 := M0.below hb
  have hz := hb.size
  simp only [World.size_alloc] at hbN hz
  have c0 := M1.cell 0 rfl
  have c1 := M1.cell 1 rfl
  have c2 := M1.cell 2 rfl
  have c3 := M1.cell 3 rfl
  have c4 := M1.cell 4 rfl
  have c5 := M1.cell 5 rfl
  have c6 := M1.cell 6 rfl
  have c7 := M1.cell 7 rfl
  have c8 := M1.cell 8 rfl
  have f0 := M1.fz 0 rfl
  have f1 := M1.fz 1 rfl
  have f2 := M1.fz 2 rfl
  have f3 := M1.fz 3 rfl
  have f4 := M1.fz 4 rfl
  have f5 := M1.fz 5 rfl
  have HB := hide M1.bel
  have HK := hide hblk
  clear M0 M1 hb hb3 hblk hs
  go_wp2
  refine bodyPost_ret (v := .agg #[.slice (some ⟨b, 0, none⟩) n n, .int .i64 p, .bool h]) (by simp [results, Tryz.results67, go_sem, c3, c4, c5]) rfl ⟨b, rfl, by omega, ?_, ?_⟩
  · exact (((((HK.out.setCell (by simp; omega) _).setCell (by simp; omega) _).setCell (by simp; omega) _).setCell (by simp; omega) _).setCell (by simp; omega) _).setCell (by simp; omega) _
  · exact (((((HB.out.setCell (by simp; omega) _).setCell (by simp; omega) _).setCell (by simp; omega) _).setCell (by simp) _).setCell (by simp) _).setCell (by simp) _

set_option maxRecDepth 100000 in
theorem toContextS_O (a : Option Addr) (n cap : Nat) (cs : List (List Int × Int × Bool)) (w : World) (hm : n + lenX cs ≤ 1048576) (hs : Scx w a n cs) :
    Calls Tryz.prog 25 #[.slice a n cap] w fun e w' => ∃ b, e = .returned (.slice (some ⟨b, 0, none⟩) n n) ∧ OX (InR w.heap.size w'.heap.size) (some ⟨b, 0, none⟩) n cs w' ∧ Below w.heap.size w w' := by
  obtain ⟨hlen, hs⟩ := hs
  obtain ⟨i0, hi, hz0, hz1, hz2⟩ := info_parts infoContext
  have hmk : ∀ u : World, (Instr.makeSlice 47 (.int .i64 (n : Int)) (.int .i64 (n : Int))).run Tryz.prog u =
      .ok (.slice (some ⟨u.heap.size, 0, none⟩) n n) (u.alloc (.cells (madeCells #[.slice none 0 0, .int .i64 0, .bool false] (n * 3)) 108)) := fun u => by
    have h := run_make (P := Tryz.prog) u 47 108 i0 (.agg #[.slice none 0 0, .int .i64 0, .bool false]) Tryz.underlying47 hi hz0 .i64 .i64 (n : Int) (n : Int) (by omega) (Int.le_refl _) (by rw [hz2]; omega) (by omega)
    simpa [hz1, Value.cells] using h
  go_enter Tryz.func25, Tryz.ntmps25
  go_wp2
  go_loopw [4] (fun i wr => ∃ k : Nat, k ≤ n ∧ i = .int .i64 k ∧ Below w.heap.size w wr ∧ ∃ lb, HalfX wr w.heap.size n k cs lb) (fun i _ => n - (intOf i).toNat)
  case atStart => exact ⟨0, Nat.zero_le _, rfl, (Below.refl _ _).alloc (Nat.le_refl _) _, fun _ => 0, HalfX.start _ _ _ _ _⟩
  case round =>
    obtain ⟨k, hk, rfl, hbel, lb, hh⟩ := hrel
    by_cases hlt : k < n
    · obtain ⟨b, off, rfl, hb, hc⟩ := hs (by omega)
      obtain ⟨la, ll, lc, hc0, hc1, hc2, hll, hsl⟩ := hc k hlt
      have hck0 := (hbel.cell (p := ⟨b, off + k * 3, none⟩) hb).trans hc0
      have hck1 := (hbel.cell (p := ⟨b, off + k * 3 + 1, none⟩) hb).trans hc1
      have hck2 := (hbel.cell (p := ⟨b, off + k * 3 + 2, none⟩) hb).trans hc2
      have hzl : (gx cs k).1.length = ll := hsl.1
      have hl2 := gx_le cs k (by omega)
      have hsl2 := hsl.below hbel (Nat.le_refl _)
      subst hzl
      go_wp2_with fail
      refine (toContext_calls la _ lc (gx cs k).2.1 (gx cs k).2.2 (gx cs k).1 _ (by omega) hsl2).mono ?_
      rintro e w1 ⟨nb, rfl, hlb, hblk, hb1⟩
      have hh1 := hh.below hb1
      obtain ⟨v0, hv0⟩ := hh1.all (k * 3) (by omega)
      obtain ⟨v1, hv1⟩ := hh1.all (k * 3 + 1) (by omega)
      obtain ⟨v2, hv2⟩ := hh1.all (k * 3 + 2) (by omega)
      have hf0 := hh1.fz (k * 3)
      have hf1 := hh1.fz (k * 3 + 1)
      have hf2 := hh1.fz (k * 3 + 2)
      have hbw := hbel.trans (hb1.mono hbel.size)
      have hN := hh.lt
      have HH := hide (hh.store hb1 hlt hlb hblk)
      unfold set3c at HH
      clear hh hh1 hb1 hblk hsl2 hsl hck0 hck1 hck2
      go_wp2
      go_roundw
      case rel => exact ⟨k + 1, by omega, by go_num, ((hbw.setCell (Nat.le_refl _) _).setCell (Nat.le_refl _) _).setCell (Nat.le_refl _) _, _, HH.out⟩
      case measure => simp [intOf]; omega
    · have hkn : k = n := by omega
      subst hkn
      go_wp2
      go_ret
      exact ⟨w.heap.size, rfl, hh.ox (Nat.le_refl _) hlen hm, hbel⟩

set_option maxRecDepth 100000 in
theorem eqContext_calls (a b : Option Addr) (n m ca cb : Nat) (p : Int) (h : Bool) (zs : List Int) (w : World) (hn : n ≤ maxLen) (hm : m ≤ maxLen) (hx : Sl w a n zs) (hy : Sl w b m zs) :
    Calls Tryz.prog 82 #[.agg #[.slice a n ca, .int .i64 p, .bool h], .agg #[.slice b m cb, .int .i64 p, .bool h]] w fun e w' => e = .returned (.bool true) ∧ Below w.heap.size w w' := by
  have M0 := ((Mm.start w).alloc3 (.slice a n ca) (.int .i64 p) (.bool h) 108).alloc3 (.slice b m cb) (.int .i64 p) (.bool h) 108
  try simp only [World.size_alloc] at M0
  have hb2 := M0.bel
  have h1 : (p != p) = false := by simp
  have h2 : (h != h) = false := by simp
  go_enter Tryz.func82, Tryz.ntmps82
  go_wp2_with fail
  refine (eqInts_calls a b n ca m cb zs zs _ hn hm (hx.below hb2 (Nat.le_refl _)) (hy.below hb2 (Nat.le_refl _))).mono ?_
  rintro e w1 ⟨rfl, hb⟩
  rw [decide_eq_true rfl]
  have M1 := M0.below hb
  have c1 := M1.cell 1 rfl
  have c2 := M1.cell 2 rfl
  have c4 := M1.cell 4 rfl
  have c5 := M1.cell 5 rfl
  have HB := hide M1.bel
  clear M0 M1 hb hb2
  go_wp2
  go_ret
  exact ⟨rfl, HB.out⟩

set_option maxRecDepth 100000 in
theorem eqContextS_calls (a b : Option Addr) (n ca cb : Nat) (cs : List (List Int × Int × Bool)) (w : World) (hn : n ≤ maxLen) (hx : Scx w a n cs) (hy : Scx w b n cs) :
    Calls Tryz.prog 33 #[.slice a n ca, .slice b n cb] w fun e w' => e = .returned (.bool true) ∧ Below w.heap.size w w' := by
  unfold maxLen at hn
  obtain ⟨hlen, hx⟩ := hx
  obtain ⟨_, hy⟩ := hy
  have hnn : ((n : Int) == (n : Int)) = true := by simp
  go_enter Tryz.func33, Tryz.ntmps33
  go_wp2
  go_loopw [5] (fun i wr => ∃ k : Nat, k ≤ n ∧ i = .int .i64 k ∧ Below w.heap.size w wr) (fun i _ => n - (intOf i).toNat)
  case atStart => exact ⟨0, Nat.zero_le _, rfl, Below.refl _ _⟩
  case round =>
    obtain ⟨k, hk, rfl, hbel⟩ := hrel
    by_cases hlt : k < n
    · obtain ⟨b1, o1, rfl, hb1, hc1⟩ := hx (by omega)
      obtain ⟨b2, o2, rfl, hb2, hc2⟩ := hy (by omega)
      obtain ⟨la, ll, lc, p0, p1, p2, pl, psl⟩ := hc1 k hlt
      obtain ⟨ma, ml, mc, q0, q1, q2, ql, qsl⟩ := hc2 k hlt
      have hp0 := (hbel.cell (p := ⟨b1, o1 + k * 3, none⟩) hb1).trans p0
      have hp1 := (hbel.cell (p := ⟨b1, o1 + k * 3 + 1, none⟩) hb1).trans p1
      have hp2 := (hbel.cell (p := ⟨b1, o1 + k * 3 + 2, none⟩) hb1).trans p2
      have hq0 := (hbel.cell (p := ⟨b2, o2 + k * 3, none⟩) hb2).trans q0
      have hq1 := (hbel.cell (p := ⟨b2, o2 + k * 3 + 1, none⟩) hb2).trans q1
      have hq2 := (hbel.cell (p := ⟨b2, o2 + k * 3 + 2, none⟩) hb2).trans q2
      have HP := hide (psl.below hbel (Nat.le_refl _))
      have HQ := hide (qsl.below hbel (Nat.le_refl _))
      clear p0 p1 p2 q0 q1 q2 psl qsl
      have i0 : (0 : Int) ≤ (k : Int) := by omega
      have i1 : (k : Int) < (n : Int) := by omega
      have k1 : b1 < wr.heap.size := by have := hbel.size; omega
      have k2 : b2 < wr.heap.size := by have := hbel.size; omega
      have HS0 : Hid (wr.drew.cell? ⟨b1, o1 + k * 3, none⟩ = some (.slice la ll lc) ∧ wr.drew.cell? ⟨b1, o1 + k * 3 + 1, none⟩ = some (.int .i64 (gx cs k).2.1) ∧ wr.drew.cell? ⟨b1, o1 + k * 3 + 2, none⟩ = some (.bool (gx cs k).2.2) ∧ wr.drew.cell? ⟨b2, o2 + k * 3, none⟩ = some (.slice ma ml mc) ∧ wr.drew.cell? ⟨b2, o2 + k * 3 + 1, none⟩ = some (.int .i64 (gx cs k).2.1) ∧ wr.drew.cell? ⟨b2, o2 + k * 3 + 2, none⟩ = some (.bool (gx cs k).2.2) ∧ Below wr.heap.size wr wr.drew) := ⟨hp0, hp1, hp2, hq0, hq1, hq2, (Below.refl _ _).drew⟩
      go_wp2_with fail
      clear hp0 hp1 hp2 hq0 hq1 hq2
      go_region_held2 (fun w' => w'.cell? ⟨b1, o1 + k * 3, none⟩ = some (.slice la ll lc) ∧ w'.cell? ⟨b1, o1 + k * 3 + 1, none⟩ = some (.int .i64 (gx cs k).2.1) ∧ w'.cell? ⟨b1, o1 + k * 3 + 2, none⟩ = some (.bool (gx cs k).2.2) ∧ w'.cell? ⟨b2, o2 + k * 3, none⟩ = some (.slice ma ml mc) ∧ w'.cell? ⟨b2, o2 + k * 3 + 1, none⟩ = some (.int .i64 (gx cs k).2.1) ∧ w'.cell? ⟨b2, o2 + k * 3 + 2, none⟩ = some (.bool (gx cs k).2.2) ∧ Below wr.heap.size wr w')
        (first | with_reducible exact HS0.out | with_reducible assumption)
        (first
          | (go_at_call 82; refine (eqContext_calls la ma ll ml lc mc (gx cs k).2.1 (gx cs k).2.2 (gx cs k).1 _ pl ql ?_ ?_).mono ?_; exact HP.out.below (q6_bel (by with_reducible assumption)) (Nat.le_refl _); exact HQ.out.below (q6_bel (by with_reducible assumption)) (Nat.le_refl _); rintro e v1 ⟨rfl, g1⟩; have hs1 := q6_below (W := wr) k1 k1 k1 k2 k2 k2 (by with_reducible assumption) g1; clear g1))
      have HE := hide (hbel.trans ((q6_bel hs1).mono hbel.size))
      clear hs1 HS0 HP HQ
      go_wp2
      go_roundw
      case rel => exact ⟨k + 1, by omega, by go_num, HE.out⟩
      case measure => simp [intOf]; omega
    · go_wp2
      go_ret
      exact ⟨rfl, hbel⟩

/-- the numbers of words (value, tag), one behind the other. -/
def flw : List (Int × Int) → List Int
  | [] => []
  | l :: r => l.1 :: l.2 :: flw r

def gw (ls : List (Int × Int)) (i : Nat) : Int × Int := ls.getD i (0, 0)

theorem length_flw : ∀ ls : List (Int × Int), (flw ls).length = ls.length * 2
  | [] => rfl
  | l :: r => by simp only [flw, List.length_cons, length_flw r]; omega

theorem gt_flw : ∀ (ls : List (Int × Int)) (i : Nat), gt (flw ls) (i * 2) = (gw ls i).1 ∧ gt (flw ls) (i * 2 + 1) = (gw ls i).2
  | [], i => by simp [flw, gt, gw]
  | l :: r, 0 => by simp [flw, gt, gw]
  | l :: r, i + 1 => by
    have h := gt_flw r i
    have e0 : (i + 1) * 2 = i * 2 + 1 + 1 := by omega
    rw [e0]
    simpa [flw, gt, gw] using h

theorem flw_take : ∀ (ls : List (Int × Int)) (k : Nat), (flw ls).take (k * 2) = flw (ls.take k)
  | [], k => by simp [flw]
  | l :: r, 0 => by simp [flw]
  | l :: r, k + 1 => by
    have e0 : (k + 1) * 2 = k * 2 + 1 + 1 := by omega
    rw [e0]
    simp [flw, flw_take r k]

/-- a slice of words (two cells each) that reads as ls. -/
def Swd (w : World) (a : Option Addr) (n : Nat) (ls : List (Int × Int)) : Prop :=
  ls.length = n ∧ (0 < n → ∃ b off, a = some ⟨b, off, none⟩ ∧ b < w.heap.size ∧ ∀ i, i < n * 2 → w.cell? ⟨b, off + i, none⟩ = some (.int .i64 (gt (flw ls) i)))

theorem Swd.below {w w' : World} {a : Option Addr} {n : Nat} {ls : List (Int × Int)} (h : Swd w a n ls) {B : Nat} (hb : Below B w w') (hB : w.heap.size ≤ B) : Swd w' a n ls := by
  obtain ⟨h1, h2⟩ := h
  refine ⟨h1, fun hp => ?_⟩
  obtain ⟨b, off, h3, h4, h5⟩ := h2 hp
  exact ⟨b, off, h3, by have := hb.size; omega, fun i hi => (hb.cell (p := ⟨b, off + i, none⟩) (by show b < B; omega)).trans (h5 i hi)⟩

/-- the two cells of word k. -/
theorem cellsw {w : World} {b off n k : Nat} {ls : List (Int × Int)} (h : ∀ i, i < n * 2 → w.cell? ⟨b, off + i, none⟩ = some (.int .i64 (gt (flw ls) i))) (hk : k < n) :
    w.cell? ⟨b, off + k * 2, none⟩ = some (.int .i64 (gw ls k).1) ∧ w.cell? ⟨b, off + k * 2 + 1, none⟩ = some (.int .i64 (gw ls k).2) := by
  obtain ⟨e0, e1⟩ := gt_flw ls k
  rw [← e0, ← e1]
  exact ⟨h _ (by omega), h (k * 2 + 1) (by omega)⟩

theorem Swd.take {w : World} {a : Option Addr} {n k : Nat} {ls : List (Int × Int)} (h : Swd w a n ls) (hk : k ≤ n) : Swd w a k (ls.take k) := by
  obtain ⟨h1, h2⟩ := h
  refine ⟨by simp; omega, fun hp => ?_⟩
  obtain ⟨b, off, h3, h4, h5⟩ := h2 (by omega)
  refine ⟨b, off, h3, h4, fun i hi => ?_⟩
  rw [h5 i (by omega), ← flw_take]
  simp [gt, hi]

/-- an owned slice of words: nil, or at the head of a block of S. -/
def OWd (S : Nat → Prop) (a : Option Addr) (n : Nat) (ls : List (Int × Int)) (w : World) : Prop :=
  ls.length = n ∧ n ≤ 1048576 ∧ ((n = 0) ∨ ∃ b, a = some ⟨b, 0, none⟩ ∧ S b ∧ Blk w b (flw ls))

theorem OWd.loc {S : Nat → Prop} {a : Option Addr} {n : Nat} {ls : List (Int × Int)} : Loc S (OWd S a n ls) := fun w w' hk h => by
  obtain ⟨h1, h2, h3⟩ := h
  refine ⟨h1, h2, ?_⟩
  rcases h3 with h3 | ⟨b, e, hb, h3⟩
  · exact .inl h3
  · exact .inr ⟨b, e, hb, Blk.loc hb w w' hk h3⟩

theorem OWd.swd {S : Nat → Prop} {a : Option Addr} {n : Nat} {ls : List (Int × Int)} {w : World} (h : OWd S a n ls w) : Swd w a n ls := by
  obtain ⟨h1, _, h2⟩ := h
  refine ⟨h1, fun hp => ?_⟩
  rcases h2 with h2 | ⟨b, rfl, _, hb⟩
  · omega
  · exact ⟨b, 0, rfl, hb.1, fun i hi => by rw [Nat.zero_add]; exact hb.2.1 i (by rw [length_flw]; omega)⟩

theorem OWd.mono {S S' : Nat → Prop} {a : Option Addr} {n : Nat} {ls : List (Int × Int)} {w : World} (h : OWd S a n ls w) (hs : ∀ k, S k → S' k) : OWd S' a n ls w := by
  obtain ⟨h1, h0, h2⟩ := h
  refine ⟨h1, h0, ?_⟩
  rcases h2 with h2 | ⟨b, e, h3, h4⟩
  · exact .inl h2
  · exact .inr ⟨b, e, hs b h3, h4⟩

theorem OWd.nil (S : Nat → Prop) (a : Option Addr) (w : World) : OWd S a 0 [] w := ⟨rfl, by omega, .inl rfl⟩

theorem OWd.ofBlk {S : Nat → Prop} {b n : Nat} {ls : List (Int × Int)} {w : World} (h : Blk w b (flw ls)) (hb : S b) (hn : ls.length = n) (hl : n ≤ 1048576) : OWd S (some ⟨b, 0, none⟩) n ls w := ⟨hn, hl, .inr ⟨b, rfl, hb, h⟩⟩

/-- a row of words under copy: the first k words of block N hold ls; all cells are there; none is frozen. -/
def Halfw (w : World) (N n k : Nat) (ls : List (Int × Int)) : Prop :=
  N < w.heap.size ∧ (∀ j, j < k * 2 → w.cell? ⟨N, j, none⟩ = some (.int .i64 (gt (flw ls) j))) ∧ (∀ j, j < n * 2 → ∃ v, w.cell? ⟨N, j, none⟩ = some v) ∧ ∀ j, w.frozen? ⟨N, j, none⟩ = false

theorem Halfw.below {w w' : World} {N n k : Nat} {ls : List (Int × Int)} (h : Halfw w N n k ls) (hb : Below w.heap.size w w') : Halfw w' N n k ls :=
  ⟨by have := hb.size; have := h.1; omega, fun j hj => (hb.cell (p := ⟨N, j, none⟩) h.1).trans (h.2.1 j hj), fun j hj => by obtain ⟨v, hv⟩ := h.2.2.1 j hj; exact ⟨v, (hb.cell (p := ⟨N, j, none⟩) h.1).trans hv⟩, fun j => (hb.frozen (p := ⟨N, j, none⟩) h.1).trans (h.2.2.2 j)⟩

/-- two stores, one behind the other. -/
def setw (w : World) (N o : Nat) (x : Int × Int) : World := (w.setCell ⟨N, o, none⟩ (.int .i64 x.1)).setCell ⟨N, o + 1, none⟩ (.int .i64 x.2)

theorem setw_other (w : World) (N o : Nat) (x : Int × Int) (j : Nat) (h : j < o ∨ o + 1 < j) : (setw w N o x).cell? ⟨N, j, none⟩ = w.cell? ⟨N, j, none⟩ := by
  unfold setw
  rw [World.cell?_setCell_other _ _ _ _ (fun e => by injection e with _ e2; omega), World.cell?_setCell_other _ _ _ _ (fun e => by injection e with _ e2; omega)]

theorem setw_at (w : World) (N o : Nat) (x : Int × Int) (h0 : ∃ v, w.cell? ⟨N, o, none⟩ = some v) (h1 : ∃ v, w.cell? ⟨N, o + 1, none⟩ = some v) :
    (setw w N o x).cell? ⟨N, o, none⟩ = some (.int .i64 x.1) ∧ (setw w N o x).cell? ⟨N, o + 1, none⟩ = some (.int .i64 x.2) := by
  obtain ⟨v0, h0⟩ := h0
  obtain ⟨v1, h1⟩ := h1
  unfold setw
  refine ⟨?_, ?_⟩
  · rw [World.cell?_setCell_other _ _ _ _ (fun e => by injection e with _ e2; omega)]
    exact World.cell?_setCell_same _ _ _ h0
  · exact World.cell?_setCell_same _ _ _ ((World.cell?_setCell_other _ _ _ _ (fun e => by injection e with _ e2; omega)).trans h1)

theorem setw_some (w : World) (N o : Nat) (x : Int × Int) (j : Nat) (h : ∃ v, w.cell? ⟨N, j, none⟩ = some v) : ∃ v, (setw w N o x).cell? ⟨N, j, none⟩ = some v := by
  obtain ⟨v, hv⟩ := h
  exact cell?_setCell_some (cell?_setCell_some hv).choose_spec

theorem Halfw.store {w : World} {N n k : Nat} {ls : List (Int × Int)} (h : Halfw w N n k ls) (hk : k < n) : Halfw (setw w N (k * 2) (gw ls k)) N n (k + 1) ls := by
  obtain ⟨h1, h2, h3, h4⟩ := h
  obtain ⟨a0, a1⟩ := setw_at w N (k * 2) (gw ls k) (h3 _ (by omega)) (h3 _ (by omega))
  obtain ⟨e0, e1⟩ := gt_flw ls k
  refine ⟨by simpa [setw] using h1, fun j hj => ?_, fun j hj => setw_some _ _ _ _ _ (h3 j hj), fun j => by simpa [setw] using h4 j⟩
  by_cases e : j < k * 2
  · rw [setw_other _ _ _ _ _ (.inl e)]; exact h2 j e
  · rcases (show j = k * 2 ∨ j = k * 2 + 1 by omega) with rfl | rfl
    · rw [a0, e0]
    · rw [a1, e1]

theorem Halfw.start (w : World) (n : Nat) (ls : List (Int × Int)) (t : TypeId) : Halfw (w.alloc (.cells (madeCells #[.int .i64 0, .int .i64 0] (n * 2)) t)) w.heap.size n 0 ls := by
  refine ⟨by simp, fun j hj => by omega, fun j hj => ?_, fun j => by simp⟩
  have hs : j < (madeCells #[.int .i64 0, .int .i64 0] (n * 2)).size := by rw [size_madeCells]; exact hj
  exact ⟨(madeCells #[.int .i64 0, .int .i64 0] (n * 2))[j], by rw [World.cell?_alloc_new]; simp [hs]⟩

theorem Halfw.done {w : World} {N n : Nat} {ls : List (Int × Int)} (h : Halfw w N n n ls) (hn : ls.length = n) : Blk w N (flw ls) :=
  ⟨h.1, fun j hj => h.2.1 j (by rw [length_flw] at hj; omega), h.2.2.2⟩

/-- marks of words. -/
def mkw (m : Int) (n : Nat) : List (Int × Int) := (List.range n).map (fun j : Nat => (m + 2 * (j : Int), m + 2 * (j : Int) + 1))

theorem length_mkw (m : Int) (n : Nat) : (mkw m n).length = n := by simp [mkw]

theorem gw_mkw (m : Int) (n j : Nat) (h : j < n) : gw (mkw m n) j = (m + 2 * (j : Int), m + 2 * (j : Int) + 1) := by simp [mkw, gw, h]

theorem gt_marksw (m : Int) (n j : Nat) (h : j < n * 2) : gt (flw (mkw m n)) j = m + j := by
  obtain ⟨e0, e1⟩ := gt_flw (mkw m n) (j / 2)
  rw [gw_mkw m n (j / 2) (by omega)] at e0 e1
  rcases (show j = j / 2 * 2 ∨ j = j / 2 * 2 + 1 by omega) with e | e
  · rw [← e] at e0; rw [e0]; simp only; omega
  · rw [← e] at e1; rw [e1]; simp only; omega

theorem MRow.donew {w : World} {b n : Nat} {m : Int} (h : MRow w b (n * 2) (n * 2) m) : Blk w b (flw (mkw m n)) :=
  ⟨h.1, fun j hj => by rw [length_flw, length_mkw] at hj; rw [gt_marksw m n j hj]; exact h.2.1 j hj, h.2.2.2⟩

theorem infoWord : (Tryz.prog.info? 154).map (fun i => (i.zero, i.size, i.bytes)) = some (some (.agg #[.int .i64 0, .int .i64 0]), 2, 16) := by kernel_rfl

set_option maxRecDepth 100000 in
theorem szWordS_calls (a : Option Addr) (len cap : Nat) (left : Int) (w : World) (h0 : 0 ≤ left) (h1 : left ≤ 1048576) (hl : len ≤ maxLen) :
    Calls Tryz.prog 45 #[.slice a len cap, .int .i64 left] w fun e w' => e = .returned (.int .i64 (szI len left)) ∧ Below w.heap.size w w' := by
  unfold maxLen at hl
  by_cases h : left - len < 0
  · go_enter Tryz.func45, Tryz.ntmps45
    go_wp2
    go_ret
    exact ⟨ret_int (szI_neg h).symm, Below.refl _ _⟩
  · go_enter Tryz.func45, Tryz.ntmps45
    go_wp2
    go_ret
    exact ⟨ret_int (szI_pos h).symm, Below.refl _ _⟩

set_option maxRecDepth 100000 in
theorem szMemory_calls (a : Option Addr) (len cap : Nat) (left : Int) (w : World) (h0 : 0 ≤ left) (h1 : left ≤ 1048576) (hl : len ≤ maxLen) :
    Calls Tryz.prog 14 #[.agg #[.slice a len cap], .int .i64 left] w fun e w' => e = .returned (.int .i64 (szI len left)) ∧ Below w.heap.size w w' := by
  by_cases h : left - len < 0
  · go_enter Tryz.func14, Tryz.ntmps14
    go_wp2_with fail
    refine (szWordS_calls a len cap left _ h0 h1 hl).mono ?_
    rintro e w1 ⟨rfl, hb⟩
    rw [szI_neg h]
    go_wp2
    go_ret
    exact ⟨ret_int (szI_neg h).symm, ((Below.refl _ _).alloc (Nat.le_refl _) _).trans (hb.mono (by simp))⟩
  · have hp : 0 ≤ left - len := by omega
    go_enter Tryz.func14, Tryz.ntmps14
    go_wp2_with fail
    refine (szWordS_calls a len cap left _ h0 h1 hl).mono ?_
    rintro e w1 ⟨rfl, hb⟩
    rw [szI_pos hp]
    go_wp2
    go_ret
    exact ⟨ret_int (szI_pos hp).symm, ((Below.refl _ _).alloc (Nat.le_refl _) _).trans (hb.mono (by simp))⟩

set_option maxRecDepth 100000 in
theorem toWord_calls (d t : Int) (w : World) :
    Calls Tryz.prog 110 #[.agg #[.int .i64 d, .int .i64 t]] w fun e w' => e = .returned (.agg #[.int .i64 d, .int .i64 t]) ∧ Below w.heap.size w w' := by
  have hb3 := fun o1 o2 o3 => (((Below.refl w.heap.size w).alloc (Nat.le_refl _) o1).alloc (by simp) o2).alloc (by simp; omega) o3
  have HB := hide hb3
  clear hb3
  go_enter Tryz.func110, Tryz.ntmps110
  go_wp2
  refine bodyPost_ret (v := .agg #[.int .i64 d, .int .i64 t]) (by simp [results, Tryz.results110, go_sem]) rfl ⟨rfl, ?_⟩
  first
    | exact HB.out _ _ _
    | exact ((((HB.out _ _ _).setCell (by simp; omega) _).setCell (by simp; omega) _).setCell (by simp) _).setCell (by simp) _

set_option maxRecDepth 100000 in
theorem toWordS_O (a : Option Addr) (n cap : Nat) (ls : List (Int × Int)) (w : World) (hm : n ≤ 1048576) (hs : Swd w a n ls) :
    Calls Tryz.prog 66 #[.slice a n cap] w fun e w' => ∃ b, e = .returned (.slice (some ⟨b, 0, none⟩) n n) ∧ OWd (InR w.heap.size w'.heap.size) (some ⟨b, 0, none⟩) n ls w' ∧ Below w.heap.size w w' := by
  obtain ⟨hlen, hs⟩ := hs
  obtain ⟨i0, hi, hz0, hz1, hz2⟩ := info_parts infoWord
  have hmk : ∀ u : World, (Instr.makeSlice 44 (.int .i64 (n : Int)) (.int .i64 (n : Int))).run Tryz.prog u =
      .ok (.slice (some ⟨u.heap.size, 0, none⟩) n n) (u.alloc (.cells (madeCells #[.int .i64 0, .int .i64 0] (n * 2)) 154)) := fun u => by
    have h := run_make (P := Tryz.prog) u 44 154 i0 (.agg #[.int .i64 0, .int .i64 0]) Tryz.underlying44 hi hz0 .i64 .i64 (n : Int) (n : Int) (by omega) (Int.le_refl _) (by rw [hz2]; omega) (by omega)
    simpa [hz1, Value.cells] using h
  go_enter Tryz.func66, Tryz.ntmps66
  go_wp2
  go_loopw [4] (fun i wr => ∃ k : Nat, k ≤ n ∧ i = .int .i64 k ∧ Below w.heap.size w wr ∧ Halfw wr w.heap.size n k ls) (fun i _ => n - (intOf i).toNat)
  case atStart => exact ⟨0, Nat.zero_le _, rfl, (Below.refl _ _).alloc (Nat.le_refl _) _, Halfw.start _ _ _ _⟩
  case round =>
    obtain ⟨k, hk, rfl, hbel, hh⟩ := hrel
    by_cases hlt : k < n
    · obtain ⟨b, off, rfl, hb, hc⟩ := hs (by omega)
      obtain ⟨hc0, hc1⟩ := cellsw hc hlt
      have hck0 := (hbel.cell (p := ⟨b, off + k * 2, none⟩) hb).trans hc0
      have hck1 := (hbel.cell (p := ⟨b, off + k * 2 + 1, none⟩) hb).trans hc1
      clear hc0 hc1 hc
      go_wp2_with fail
      refine (toWord_calls (gw ls k).1 (gw ls k).2 _).mono ?_
      rintro e w1 ⟨rfl, hb1⟩
      have hh1 := hh.below hb1
      obtain ⟨v0, hv0⟩ := hh1.2.2.1 (k * 2) (by omega)
      obtain ⟨v1, hv1⟩ := hh1.2.2.1 (k * 2 + 1) (by omega)
      have hf0 := hh1.2.2.2 (k * 2)
      have hf1 := hh1.2.2.2 (k * 2 + 1)
      have hbw := hbel.trans (hb1.mono hbel.size)
      have hN := hh.1
      have HH := hide (hh1.store hlt)
      unfold setw at HH
      clear hh hh1 hb1 hck0 hck1
      go_wp2
      go_roundw
      case rel => exact ⟨k + 1, by omega, by go_num, (hbw.setCell (Nat.le_refl _) _).setCell (Nat.le_refl _) _, HH.out⟩
      case measure => simp [intOf]; omega
    · have hkn : k = n := by omega
      subst hkn
      go_wp2
      go_ret
      exact ⟨w.heap.size, rfl, OWd.ofBlk (hh.done hlen) ⟨Nat.le_refl _, hh.1⟩ hlen hm, hbel⟩

set_option maxRecDepth 100000 in
theorem toMemory_O (a : Option Addr) (n cap : Nat) (ls : List (Int × Int)) (w : World) (hm : n ≤ 1048576) (hs : Swd w a n ls) :
    Calls Tryz.prog 24 #[.agg #[.slice a n cap]] w fun e w' => ∃ b, e = .returned (.agg #[.slice (some ⟨b, 0, none⟩) n n]) ∧ OWd (InR w.heap.size w'.heap.size) (some ⟨b, 0, none⟩) n ls w' ∧ Below w.heap.size w w' := by
  have hb3 := fun o1 o2 o3 => (((Below.refl w.heap.size w).alloc (Nat.le_refl _) o1).alloc (by simp) o2).alloc (by simp; omega) o3
  go_enter Tryz.func24, Tryz.ntmps24
  go_wp2_with fail
  refine (toWordS_O a n cap ls _ hm (hs.below (hb3 _ _ _) (Nat.le_refl _))).mono ?_
  rintro e w1 ⟨b, rfl, hh, hb⟩
  have hbw : Below w.heap.size w w1 := (hb3 _ _ _).trans (hb.mono (by simp; omega))
  simp only [World.size_alloc] at hh
  have c1 : w1.cell? ⟨w.heap.size + 1, 0, none⟩ = some (.slice none 0 0) := (hb.cell (p := ⟨w.heap.size + 1, 0, none⟩) (by simp)).trans (by go_simp)
  have f1 : w1.frozen? ⟨w.heap.size + 1, 0, none⟩ = false := (hb.frozen (p := ⟨w.heap.size + 1, 0, none⟩) (by simp)).trans (by go_simp)
  have c2 : w1.cell? ⟨w.heap.size + 1 + 1, 0, none⟩ = some (.slice none 0 0) := (hb.cell (p := ⟨w.heap.size + 1 + 1, 0, none⟩) (by simp)).trans (by go_simp)
  have f2 : w1.frozen? ⟨w.heap.size + 1 + 1, 0, none⟩ = false := (hb.frozen (p := ⟨w.heap.size + 1 + 1, 0, none⟩) (by simp)).trans (by go_simp)
  clear hb hb3
  go_wp2
  refine bodyPost_ret (v := .agg #[.slice (some ⟨b, 0, none⟩) n n]) (by simp [results, Tryz.results24, go_sem, c1]) rfl ⟨b, rfl, ?_, (hbw.setCell (by simp; omega) _).setCell (by simp) _⟩
  have hk : ∀ i v (u : World), w.heap.size + 1 ≤ i → i < w.heap.size + 1 + 1 + 1 → OWd (InR (w.heap.size + 1 + 1 + 1) w1.heap.size) (some ⟨b, 0, none⟩) n ls u → OWd (InR (w.heap.size + 1 + 1 + 1) w1.heap.size) (some ⟨b, 0, none⟩) n ls (u.setCell ⟨i, 0, none⟩ v) := fun i v u h1 h2 h =>
    OWd.loc u _ (fun k hk _ => Below.heap_setCell _ _ _ _ (fun e => by have := hk.1; simp at e; omega)) h
  exact (hk _ _ _ (by omega) (by omega) (hk _ _ _ (by omega) (by omega) hh)).mono (fun k hk => ⟨by have := hk.1; omega, by simpa using hk.2⟩)

set_option maxRecDepth 100000 in
theorem eqWord_calls (d t : Int) (w : World) :
    Calls Tryz.prog 125 #[.agg #[.int .i64 d, .int .i64 t], .agg #[.int .i64 d, .int .i64 t]] w fun e w' => e = .returned (.bool true) ∧ Below w.heap.size w w' := by
  have h1 : (d != d) = false := by simp
  have h2 : (t != t) = false := by simp
  go_enter Tryz.func125, Tryz.ntmps125
  go_wp2
  go_ret
  exact ⟨rfl, ((Below.refl _ _).alloc (Nat.le_refl _) _).alloc (by simp) _⟩

set_option maxRecDepth 100000 in
theorem eqWordS_calls (a b : Option Addr) (n ca cb : Nat) (ls : List (Int × Int)) (w : World) (hn : n ≤ maxLen) (hx : Swd w a n ls) (hy : Swd w b n ls) :
    Calls Tryz.prog 81 #[.slice a n ca, .slice b n cb] w fun e w' => e = .returned (.bool true) ∧ Below w.heap.size w w' := by
  unfold maxLen at hn
  obtain ⟨hlen, hx⟩ := hx
  obtain ⟨_, hy⟩ := hy
  have hnn : ((n : Int) == (n : Int)) = true := by simp
  go_enter Tryz.func81, Tryz.ntmps81
  go_wp2
  go_loopw [5] (fun i wr => ∃ k : Nat, k ≤ n ∧ i = .int .i64 k ∧ Below w.heap.size w wr) (fun i _ => n - (intOf i).toNat)
  case atStart => exact ⟨0, Nat.zero_le _, rfl, Below.refl _ _⟩
  case round =>
    obtain ⟨k, hk, rfl, hbel⟩ := hrel
    by_cases hlt : k < n
    · obtain ⟨b1, o1, rfl, hb1, hc1⟩ := hx (by omega)
      obtain ⟨b2, o2, rfl, hb2, hc2⟩ := hy (by omega)
      obtain ⟨p0, p1⟩ := cellsw hc1 hlt
      obtain ⟨r0, r1⟩ := cellsw hc2 hlt
      have hp0 := (hbel.cell (p := ⟨b1, o1 + k * 2, none⟩) hb1).trans p0
      have hp1 := (hbel.cell (p := ⟨b1, o1 + k * 2 + 1, none⟩) hb1).trans p1
      have hq0 := (hbel.cell (p := ⟨b2, o2 + k * 2, none⟩) hb2).trans r0
      have hq1 := (hbel.cell (p := ⟨b2, o2 + k * 2 + 1, none⟩) hb2).trans r1
      clear p0 p1 r0 r1 hc1 hc2
      have i0 : (0 : Int) ≤ (k : Int) := by omega
      have i1 : (k : Int) < (n : Int) := by omega
      have k1 : b1 < wr.heap.size := by have := hbel.size; omega
      have k2 : b2 < wr.heap.size := by have := hbel.size; omega
      have HS0 : Hid (wr.drew.cell? ⟨b1, o1 + k * 2, none⟩ = some (.int .i64 (gw ls k).1) ∧ wr.drew.cell? ⟨b1, o1 + k * 2 + 1, none⟩ = some (.int .i64 (gw ls k).2) ∧ wr.drew.cell? ⟨b2, o2 + k * 2, none⟩ = some (.int .i64 (gw ls k).1) ∧ wr.drew.cell? ⟨b2, o2 + k * 2 + 1, none⟩ = some (.int .i64 (gw ls k).2) ∧ Below wr.heap.size wr wr.drew) := ⟨hp0, hp1, hq0, hq1, (Below.refl _ _).drew⟩
      go_wp2_with fail
      clear hp0 hp1 hq0 hq1
      go_region_held2 (fun w' => w'.cell? ⟨b1, o1 + k * 2, none⟩ = some (.int .i64 (gw ls k).1) ∧ w'.cell? ⟨b1, o1 + k * 2 + 1, none⟩ = some (.int .i64 (gw ls k).2) ∧ w'.cell? ⟨b2, o2 + k * 2, none⟩ = some (.int .i64 (gw ls k).1) ∧ w'.cell? ⟨b2, o2 + k * 2 + 1, none⟩ = some (.int .i64 (gw ls k).2) ∧ Below wr.heap.size wr w')
        (first | with_reducible exact HS0.out | with_reducible assumption)
        (first
          | (go_at_call 125; refine (eqWord_calls (gw ls k).1 (gw ls k).2 _).mono ?_; rintro e v1 ⟨rfl, g1⟩; have hs1 := held4 (W := wr) k1 k1 k2 k2 (by with_reducible assumption) g1; clear g1))
      have HE := hide (hbel.trans (hs1.2.2.2.2.mono hbel.size))
      clear hs1 HS0
      go_wp2
      go_roundw
      case rel => exact ⟨k + 1, by omega, by go_num, HE.out⟩
      case measure => simp [intOf]; omega
    · go_wp2
      go_ret
      exact ⟨rfl, hbel⟩

set_option maxRecDepth 100000 in
theorem eqMemory_calls (a b : Option Addr) (n ca cb : Nat) (ls : List (Int × Int)) (w : World) (hn : n ≤ maxLen) (hx : Swd w a n ls) (hy : Swd w b n ls) :
    Calls Tryz.prog 32 #[.agg #[.slice a n ca], .agg #[.slice b n cb]] w fun e w' => e = .returned (.bool true) ∧ Below w.heap.size w w' := by
  have hb2 := fun o1 o2 => ((Below.refl w.heap.size w).alloc (Nat.le_refl _) o1).alloc (by simp) o2
  go_enter Tryz.func32, Tryz.ntmps32
  go_wp2_with fail
  refine (eqWordS_calls a b n ca cb ls _ hn (hx.below (hb2 _ _) (Nat.le_refl _)) (hy.below (hb2 _ _) (Nat.le_refl _))).mono ?_
  rintro e w1 ⟨rfl, hb⟩
  have hbw : Below w.heap.size w w1 := (hb2 _ _).trans (hb.mono (by simp; omega))
  clear hb hb2
  go_wp2
  go_ret
  exact ⟨rfl, hbw⟩

theorem infoGate : (Tryz.prog.info? 123).map (fun i => (i.zero, i.size, i.bytes)) = some (some (.agg #[.int .i64 0, .int .i64 0]), 2, 16) := by kernel_rfl

set_option maxRecDepth 100000 in
theorem szGateS_calls (a : Option Addr) (len cap : Nat) (left : Int) (w : World) (h0 : 0 ≤ left) (h1 : left ≤ 1048576) (hl : len ≤ maxLen) :
    Calls Tryz.prog 18 #[.slice a len cap, .int .i64 left] w fun e w' => e = .returned (.int .i64 (szI len left)) ∧ Below w.heap.size w w' := by
  unfold maxLen at hl
  by_cases h : left - len < 0
  · go_enter Tryz.func18, Tryz.ntmps18
    go_wp2
    go_ret
    exact ⟨ret_int (szI_neg h).symm, Below.refl _ _⟩
  · go_enter Tryz.func18, Tryz.ntmps18
    go_wp2
    go_ret
    exact ⟨ret_int (szI_pos h).symm, Below.refl _ _⟩

set_option maxRecDepth 100000 in
theorem toGate_calls (d t : Int) (w : World) :
    Calls Tryz.prog 69 #[.agg #[.int .i64 d, .int .i64 t]] w fun e w' => e = .returned (.agg #[.int .i64 d, .int .i64 t]) ∧ Below w.heap.size w w' := by
  have hb3 := fun o1 o2 o3 => (((Below.refl w.heap.size w).alloc (Nat.le_refl _) o1).alloc (by simp) o2).alloc (by simp; omega) o3
  have HB := hide hb3
  clear hb3
  go_enter Tryz.func69, Tryz.ntmps69
  go_wp2
  refine bodyPost_ret (v := .agg #[.int .i64 d, .int .i64 t]) (by simp [results, Tryz.results69, go_sem]) rfl ⟨rfl, ?_⟩
  first
    | exact HB.out _ _ _
    | exact ((((HB.out _ _ _).setCell (by simp; omega) _).setCell (by simp; omega) _).setCell (by simp) _).setCell (by simp) _

set_option maxRecDepth 100000 in
theorem toGateS_O (a : Option Addr) (n cap : Nat) (ls : List (Int × Int)) (w : World) (hm : n ≤ 1048576) (hs : Swd w a n ls) :
    Calls Tryz.prog 28 #[.slice a n cap] w fun e w' => ∃ b, e = .returned (.slice (some ⟨b, 0, none⟩) n n) ∧ OWd (InR w.heap.size w'.heap.size) (some ⟨b, 0, none⟩) n ls w' ∧ Below w.heap.size w w' := by
  obtain ⟨hlen, hs⟩ := hs
  obtain ⟨i0, hi, hz0, hz1, hz2⟩ := info_parts infoGate
  have hmk : ∀ u : World, (Instr.makeSlice 51 (.int .i64 (n : Int)) (.int .i64 (n : Int))).run Tryz.prog u =
      .ok (.slice (some ⟨u.heap.size, 0, none⟩) n n) (u.alloc (.cells (madeCells #[.int .i64 0, .int .i64 0] (n * 2)) 123)) := fun u => by
    have h := run_make (P := Tryz.prog) u 51 123 i0 (.agg #[.int .i64 0, .int .i64 0]) Tryz.underlying51 hi hz0 .i64 .i64 (n : Int) (n : Int) (by omega) (Int.le_refl _) (by rw [hz2]; omega) (by omega)
    simpa [hz1, Value.cells] using h
  go_enter Tryz.func28, Tryz.ntmps28
  go_wp2
  go_loopw [4] (fun i wr => ∃ k : Nat, k ≤ n ∧ i = .int .i64 k ∧ Below w.heap.size w wr ∧ Halfw wr w.heap.size n k ls) (fun i _ => n - (intOf i).toNat)
  case atStart => exact ⟨0, Nat.zero_le _, rfl, (Below.refl _ _).alloc (Nat.le_refl _) _, Halfw.start _ _ _ _⟩
  case round =>
    obtain ⟨k, hk, rfl, hbel, hh⟩ := hrel
    by_cases hlt : k < n
    · obtain ⟨b, off, rfl, hb, hc⟩ := hs (by omega)
      obtain ⟨hc0, hc1⟩ := cellsw hc hlt
      have hck0 := (hbel.cell (p := ⟨b, off + k * 2, none⟩) hb).trans hc0
      have hck1 := (hbel.cell (p := ⟨b, off + k * 2 + 1, none⟩) hb).trans hc1
      clear hc0 hc1 hc
      go_wp2_with fail
      refine (toGate_calls (gw ls k).1 (gw ls k).2 _).mono ?_
      rintro e w1 ⟨rfl, hb1⟩
      have hh1 := hh.below hb1
      obtain ⟨v0, hv0⟩ := hh1.2.2.1 (k * 2) (by omega)
      obtain ⟨v1, hv1⟩ := hh1.2.2.1 (k * 2 + 1) (by omega)
      have hf0 := hh1.2.2.2 (k * 2)
      have hf1 := hh1.2.2.2 (k * 2 + 1)
      have hbw := hbel.trans (hb1.mono hbel.size)
      have hN := hh.1
      have HH := hide (hh1.store hlt)
      unfold setw at HH
      clear hh hh1 hb1 hck0 hck1
      go_wp2
      go_roundw
      case rel => exact ⟨k + 1, by omega, by go_num, (hbw.setCell (Nat.le_refl _) _).setCell (Nat.le_refl _) _, HH.out⟩
      case measure => simp [intOf]; omega
    · have hkn : k = n := by omega
      subst hkn
      go_wp2
      go_ret
      exact ⟨w.heap.size, rfl, OWd.ofBlk (hh.done hlen) ⟨Nat.le_refl _, hh.1⟩ hlen hm, hbel⟩

set_option maxRecDepth 100000 in
theorem eqGate_calls (d t : Int) (w : World) :
    Calls Tryz.prog 84 #[.agg #[.int .i64 d, .int .i64 t], .agg #[.int .i64 d, .int .i64 t]] w fun e w' => e = .returned (.bool true) ∧ Below w.heap.size w w' := by
  have h1 : (d != d) = false := by simp
  have h2 : (t != t) = false := by simp
  go_enter Tryz.func84, Tryz.ntmps84
  go_wp2
  go_ret
  exact ⟨rfl, ((Below.refl _ _).alloc (Nat.le_refl _) _).alloc (by simp) _⟩

set_option maxRecDepth 100000 in
theorem eqGateS_calls (a b : Option Addr) (n ca cb : Nat) (ls : List (Int × Int)) (w : World) (hn : n ≤ maxLen) (hx : Swd w a n ls) (hy : Swd w b n ls) :
    Calls Tryz.prog 36 #[.slice a n ca, .slice b n cb] w fun e w' => e = .returned (.bool true) ∧ Below w.heap.size w w' := by
  unfold maxLen at hn
  obtain ⟨hlen, hx⟩ := hx
  obtain ⟨_, hy⟩ := hy
  have hnn : ((n : Int) == (n : Int)) = true := by simp
  go_enter Tryz.func36, Tryz.ntmps36
  go_wp2
  go_loopw [5] (fun i wr => ∃ k : Nat, k ≤ n ∧ i = .int .i64 k ∧ Below w.heap.size w wr) (fun i _ => n - (intOf i).toNat)
  case atStart => exact ⟨0, Nat.zero_le _, rfl, Below.refl _ _⟩
  case round =>
    obtain ⟨k, hk, rfl, hbel⟩ := hrel
    by_cases hlt : k < n
    · obtain ⟨b1, o1, rfl, hb1, hc1⟩ := hx (by omega)
      obtain ⟨b2, o2, rfl, hb2, hc2⟩ := hy (by omega)
      obtain ⟨p0, p1⟩ := cellsw hc1 hlt
      obtain ⟨r0, r1⟩ := cellsw hc2 hlt
      have hp0 := (hbel.cell (p := ⟨b1, o1 + k * 2, none⟩) hb1).trans p0
      have hp1 := (hbel.cell (p := ⟨b1, o1 + k * 2 + 1, none⟩) hb1).trans p1
      have hq0 := (hbel.cell (p := ⟨b2, o2 + k * 2, none⟩) hb2).trans r0
      have hq1 := (hbel.cell (p := ⟨b2, o2 + k * 2 + 1, none⟩) hb2).trans r1
      clear p0 p1 r0 r1 hc1 hc2
      have i0 : (0 : Int) ≤ (k : Int) := by omega
      have i1 : (k : Int) < (n : Int) := by omega
      have k1 : b1 < wr.heap.size := by have := hbel.size; omega
      have k2 : b2 < wr.heap.size := by have := hbel.size; omega
      have HS0 : Hid (wr.drew.cell? ⟨b1, o1 + k * 2, none⟩ = some (.int .i64 (gw ls k).1) ∧ wr.drew.cell? ⟨b1, o1 + k * 2 + 1, none⟩ = some (.int .i64 (gw ls k).2) ∧ wr.drew.cell? ⟨b2, o2 + k * 2, none⟩ = some (.int .i64 (gw ls k).1) ∧ wr.drew.cell? ⟨b2, o2 + k * 2 + 1, none⟩ = some (.int .i64 (gw ls k).2) ∧ Below wr.heap.size wr wr.drew) := ⟨hp0, hp1, hq0, hq1, (Below.refl _ _).drew⟩
      go_wp2_with fail
      clear hp0 hp1 hq0 hq1
      go_region_held2 (fun w' => w'.cell? ⟨b1, o1 + k * 2, none⟩ = some (.int .i64 (gw ls k).1) ∧ w'.cell? ⟨b1, o1 + k * 2 + 1, none⟩ = some (.int .i64 (gw ls k).2) ∧ w'.cell? ⟨b2, o2 + k * 2, none⟩ = some (.int .i64 (gw ls k).1) ∧ w'.cell? ⟨b2, o2 + k * 2 + 1, none⟩ = some (.int .i64 (gw ls k).2) ∧ Below wr.heap.size wr w')
        (first | with_reducible exact HS0.out | with_reducible assumption)
        (first
          | (go_at_call 84; refine (eqGate_calls (gw ls k).1 (gw ls k).2 _).mono ?_; rintro e v1 ⟨rfl, g1⟩; have hs1 := held4 (W := wr) k1 k1 k2 k2 (by with_reducible assumption) g1; clear g1))
      have HE := hide (hbel.trans (hs1.2.2.2.2.mono hbel.size))
      clear hs1 HS0
      go_wp2
      go_roundw
      case rel => exact ⟨k + 1, by omega, by go_num, HE.out⟩
      case measure => simp [intOf]; omega
    · go_wp2
      go_ret
      exact ⟨rfl, hbel⟩

/-- a number from 0 to m. -/
def up (v m : Int) : Bool := decide (0 ≤ v) && decide (v ≤ m)

theorem up_iff {v m : Int} : up v m = true ↔ 0 ≤ v ∧ v ≤ m := by simp [up]

def okW (t : Int) (x : Int × Int) : Bool := up x.1 65535 && up x.2 t

/-- MemoryFault, of the list of words. -/
def mfC (t : Int) (ls : List (Int × Int)) : Int := if up t 6 = false then 3 else if 32 < (ls.length : Int) then 2 else if ls.all (okW t) then 0 else 3

theorem mfC_range {t : Int} {ls : List (Int × Int)} (h : up t 6 = false) : mfC t ls = 3 := if_pos h

theorem mfC_many {t : Int} {ls : List (Int × Int)} (h : up t 6 = true) (h2 : 32 < (ls.length : Int)) : mfC t ls = 2 := by
  unfold mfC
  rw [if_neg (by rw [h]; simp), if_pos h2]

theorem gw_mem {ls : List (Int × Int)} {k : Nat} (h : k < ls.length) : gw ls k ∈ ls := by
  simp [gw, h]

theorem mfC_bad {t : Int} {ls : List (Int × Int)} {k : Nat} (h : up t 6 = true) (h2 : ¬ 32 < (ls.length : Int)) (hk : k < ls.length) (hb : okW t (gw ls k) = false) : mfC t ls = 3 := by
  unfold mfC
  rw [if_neg (by rw [h]; simp), if_neg h2, if_neg]
  intro ha
  rw [List.all_eq_true] at ha
  rw [ha _ (gw_mem hk)] at hb
  exact absurd hb (by simp)

theorem mem_gw {ls : List (Int × Int)} {x : Int × Int} (h : x ∈ ls) : ∃ k, k < ls.length ∧ gw ls k = x := by
  obtain ⟨k, hk, e⟩ := List.getElem_of_mem h
  exact ⟨k, hk, by simp [gw, hk, e]⟩

theorem mfC_ok {t : Int} {ls : List (Int × Int)} (h : up t 6 = true) (h2 : ¬ 32 < (ls.length : Int)) (ha : ∀ j, j < ls.length → okW t (gw ls j) = true) : mfC t ls = 0 := by
  unfold mfC
  rw [if_neg (by rw [h]; simp), if_neg h2, if_pos]
  rw [List.all_eq_true]
  intro x hx
  obtain ⟨k, hk, rfl⟩ := mem_gw hx
  exact ha k hk

theorem mfC_len {t : Int} {ls : List (Int × Int)} (h : mfC t ls = 0) : ls.length ≤ 32 := by
  unfold mfC at h
  by_cases h1 : up t 6 = false
  · rw [if_pos h1] at h; omega
  · rw [if_neg h1] at h
    by_cases h2 : 32 < (ls.length : Int)
    · rw [if_pos h2] at h; omega
    · omega

set_option maxRecDepth 100000 in
theorem isUpTo_calls (v m : Int) (w : World) :
    Calls Tryz.prog 73 #[.int .i64 v, .int .i64 m] w fun e w' => e = .returned (.bool (up v m)) ∧ w' = w := by
  by_cases h1 : 0 ≤ v
  · by_cases h2 : v ≤ m
    all_goals
      go_enter Tryz.func73, Tryz.ntmps73
      go_wp2
      go_ret
      exact ⟨ret_bool (by simp [up, h1, h2]), rfl⟩
  · go_enter Tryz.func73, Tryz.ntmps73
    go_wp2
    go_ret
    exact ⟨ret_bool (by simp [up]; omega), rfl⟩

set_option maxRecDepth 100000 in
theorem inUp_calls (v m : Int) (w : World) :
    Calls Tryz.prog 99 #[.int .i64 v, .int .i64 0, .int .i64 m] w fun e w' => e = .returned (.bool (up v m)) ∧ w' = w := by
  by_cases h1 : 0 ≤ v
  · by_cases h2 : v ≤ m
    all_goals
      go_enter Tryz.func99, Tryz.ntmps99
      go_wp2
      go_ret
      exact ⟨ret_bool (by simp [up, h1, h2]), rfl⟩
  · go_enter Tryz.func99, Tryz.ntmps99
    go_wp2
    go_ret
    exact ⟨ret_bool (by simp [up]; omega), rfl⟩

set_option maxRecDepth 100000 in
theorem implMemoryFault_calls (a : Option Addr) (n c : Nat) (ls : List (Int × Int)) (t : Int) (w : World) (hn : n ≤ maxLen) (hs : Swd w a n ls) :
    Calls Tryz.prog 71 #[.agg #[.slice a n c], .int .i64 t] w fun e w' => e = .returned (.int .i64 (mfC t ls)) ∧ Below w.heap.size w w' := by
  unfold maxLen at hn
  have hlen := hs.1
  have HB := hide ((Below.refl w.heap.size w).alloc (Nat.le_refl _) (.cells #[.slice a n c] 46))
  cases h0 : up t 6 with
  | false =>
    have HR := hide (mfC_range (ls := ls) h0)
    go_enter Tryz.func71, Tryz.ntmps71
    go_wp2_with (go_at_call 73; refine (isUpTo_calls _ _ _).mono ?_; rintro e w' ⟨rfl, rfl⟩)
    go_ret
    exact ⟨ret_int HR.out.symm, HB.out⟩
  | true =>
    by_cases h1 : 32 < (n : Int)
    · have HR := hide (mfC_many (ls := ls) h0 (by omega))
      go_enter Tryz.func71, Tryz.ntmps71
      go_wp2_with (go_at_call 73; refine (isUpTo_calls _ _ _).mono ?_; rintro e w' ⟨rfl, rfl⟩)
      go_ret
      exact ⟨ret_int HR.out.symm, HB.out⟩
    · have HB0 : Hid (Below w.heap.size w w) := Below.refl _ _
      go_enter Tryz.func71, Tryz.ntmps71
      go_wp2_with (go_at_call 73; refine (isUpTo_calls _ _ _).mono ?_; rintro e w' ⟨rfl, rfl⟩)
      go_loopw [17] (fun i wr => ∃ k : Nat, k ≤ n ∧ i = .int .i64 k ∧ Below w.heap.size w wr ∧ ∀ j, j < k → okW t (gw ls j) = true) (fun i _ => n - (intOf i).toNat)
      case atStart => exact ⟨0, Nat.zero_le _, rfl, HB.out, fun j hj => by omega⟩
      case round =>
        obtain ⟨k, hk, rfl, hbel, hno⟩ := hrel
        by_cases hlt : k < n
        · obtain ⟨b, off, rfl, hb, hc⟩ := (hs.below hbel (Nat.le_refl _)).2 (by omega)
          obtain ⟨r0, r1⟩ := cellsw hc hlt
          clear hc
          have HE := hide (hbel.alloc hbel.size (.cells #[.int .i64 (gw ls k).1, .int .i64 (gw ls k).2] 154))
          cases h2 : up (gw ls k).1 65535 with
          | false =>
            have HR := hide (mfC_bad (k := k) h0 (by omega) (by omega) (show okW t (gw ls k) = false by simp [okW, h2]))
            clear hno hbel
            go_wp2_with (go_at_call 73; refine (isUpTo_calls _ _ _).mono ?_; rintro e w' ⟨rfl, rfl⟩)
            go_ret
            exact ⟨ret_int HR.out.symm, HE.out⟩
          | true =>
            cases h3 : up (gw ls k).2 t with
            | false =>
              have HR := hide (mfC_bad (k := k) h0 (by omega) (by omega) (show okW t (gw ls k) = false by simp [okW, h3]))
              clear hno hbel
              go_wp2_with (go_at_call 73; refine (isUpTo_calls _ _ _).mono ?_; rintro e w' ⟨rfl, rfl⟩)
              go_ret
              exact ⟨ret_int HR.out.symm, HE.out⟩
            | true =>
              have HN : Hid (∀ j, j < k + 1 → okW t (gw ls j) = true) := fun j hj => by
                by_cases e : j = k
                · subst e; simp [okW, h2, h3]
                · exact hno j (by omega)
              clear hno hbel
              go_wp2_with (go_at_call 73; refine (isUpTo_calls _ _ _).mono ?_; rintro e w' ⟨rfl, rfl⟩)
              go_roundw
              case rel => exact ⟨k + 1, by omega, by go_num, HE.out, HN.out⟩
              case measure => simp [intOf]; omega
        · have HR := hide (mfC_ok (ls := ls) h0 (by omega) (fun j hj => hno j (by omega)))
          clear hno
          go_wp2
          go_ret
          exact ⟨ret_int HR.out.symm, hbel⟩

set_option maxRecDepth 100000 in
theorem l6Fault3_calls (P : Nat) (a : Option Addr) (n c : Nat) (ls : List (Int × Int)) (t : Int) (w : World) (hn : n ≤ maxLen) (hp : w.cell? ⟨P, 3, none⟩ = some (.slice a n c)) (hs : Swd w a n ls) :
    Calls Tryz.prog 49 #[.pointer (some ⟨P, 3, none⟩), .int .i64 t] w fun e w' => e = .returned (.int .i64 (mfC t ls)) ∧ w' = w := by
  unfold maxLen at hn
  have hlen := hs.1
  cases h0 : up t 6 with
  | false =>
    have HR := hide (mfC_range (ls := ls) h0)
    go_enter Tryz.func49, Tryz.ntmps49
    go_wp2_with (go_at_call 99; refine (inUp_calls _ _ _).mono ?_; rintro e w' ⟨rfl, rfl⟩)
    go_ret
    exact ⟨ret_int HR.out.symm, rfl⟩
  | true =>
    by_cases h1 : 32 < (n : Int)
    · have HR := hide (mfC_many (ls := ls) h0 (by omega))
      go_enter Tryz.func49, Tryz.ntmps49
      go_wp2_with (go_at_call 99; refine (inUp_calls _ _ _).mono ?_; rintro e w' ⟨rfl, rfl⟩)
      go_ret
      exact ⟨ret_int HR.out.symm, rfl⟩
    · go_enter Tryz.func49, Tryz.ntmps49
      go_wp2_with (go_at_call 99; refine (inUp_calls _ _ _).mono ?_; rintro e w' ⟨rfl, rfl⟩)
      go_loop [5] (fun i => ∃ k : Nat, k ≤ n ∧ i = .int .i64 k ∧ ∀ j, j < k → okW t (gw ls j) = true) (fun i => n - (intOf i).toNat)
      case atStart => exact ⟨0, Nat.zero_le _, rfl, fun j hj => by omega⟩
      case round =>
        obtain ⟨k, hk, rfl, hno⟩ := hrel
        by_cases hlt : k < n
        · obtain ⟨b, off, rfl, hb, hc⟩ := hs.2 (by omega)
          obtain ⟨r0, r1⟩ := cellsw hc hlt
          clear hc
          cases h2 : up (gw ls k).1 65535 with
          | false =>
            have HR := hide (mfC_bad (k := k) h0 (by omega) (by omega) (show okW t (gw ls k) = false by simp [okW, h2]))
            clear hno
            go_wp2_with (go_at_call 99; refine (inUp_calls _ _ _).mono ?_; rintro e w' ⟨rfl, rfl⟩)
            go_ret
            exact ⟨ret_int HR.out.symm, rfl⟩
          | true =>
            cases h3 : up (gw ls k).2 t with
            | false =>
              have HR := hide (mfC_bad (k := k) h0 (by omega) (by omega) (show okW t (gw ls k) = false by simp [okW, h3]))
              clear hno
              go_wp2_with (go_at_call 99; refine (inUp_calls _ _ _).mono ?_; rintro e w' ⟨rfl, rfl⟩)
              go_ret
              exact ⟨ret_int HR.out.symm, rfl⟩
            | true =>
              have HN : Hid (∀ j, j < k + 1 → okW t (gw ls j) = true) := fun j hj => by
                by_cases e : j = k
                · subst e; simp [okW, h2, h3]
                · exact hno j (by omega)
              clear hno
              go_wp2_with (go_at_call 99; refine (inUp_calls _ _ _).mono ?_; rintro e w' ⟨rfl, rfl⟩)
              go_round
              case rel => exact ⟨k + 1, by omega, by go_num, HN.out⟩
              case measure => simp [intOf]; omega
        · have HR := hide (mfC_ok (ls := ls) h0 (by omega) (fun j hj => hno j (by omega)))
          clear hno
          go_wp2
          go_ret
          exact ⟨ret_int HR.out.symm, rfl⟩

end Go.Proofs.YtgkjmeogdomgmaaGreat
