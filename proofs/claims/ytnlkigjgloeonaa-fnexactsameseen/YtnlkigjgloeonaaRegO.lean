import Derived.Test.YtnlkigjgloeonaaSep
import Derived.Test.YtnlkigjgloeonaaBase
import Derived.WalkKit
import Derived.ProofKit
import Derived.OpenShut
import Derived.ShutString
import Derived.ChangeOld
import Derived.Below
import Derived.WalkSpells
import Derived.Deep.QuietTactic
import Derived.BigQuiet
import Derived.Deep.RegionWith
import Derived.Deep.WholeRow
import Derived.Deep.DeepCutAuto
import Derived.Deep.RegionHeld2
import Derived.Deep.AppendLies
import Derived.Deep.RegionLaw
namespace Go.Proofs.Ytnlkigjgloeonaa
open Go.ChangeShapes Go.WideShapes Go.ChangeAt Go.RowKit

/-- marks k, k+1, .. -/
def marksFrom (k : Int) (n : Nat) : List Int := (List.range n).map (fun j : Nat => k + (j : Int))

theorem length_marksFrom (k : Int) (n : Nat) : (marksFrom k n).length = n := by simp [marksFrom]

theorem gt_marksFrom (k : Int) (n j : Nat) (h : j < n) : gt (marksFrom k n) j = k + j := by simp [marksFrom, gt, h]

/-- a row that is being marked: the first k hold marks, all n are there. -/
def MRow (w : World) (b n k : Nat) (m : Int) : Prop :=
  b < w.heap.size ∧ (∀ j, j < k → w.cell? ⟨b, j, none⟩ = some (.int .i64 (m + j))) ∧ (∀ j, j < n → ∃ v, w.cell? ⟨b, j, none⟩ = some v) ∧ ∀ j, w.frozen? ⟨b, j, none⟩ = false

theorem MRow.start {w : World} {b : Nat} {rs : List Int} {m : Int} (h : Blk w b rs) : MRow w b rs.length 0 m := ⟨h.1, fun j hj => by omega, fun j hj => ⟨_, h.2.1 j hj⟩, h.2.2⟩

theorem MRow.store {w : World} {b n k : Nat} {m : Int} (h : MRow w b n k m) (hk : k < n) : MRow (w.setCell ⟨b, k, none⟩ (.int .i64 (m + k))) b n (k + 1) m := by
  obtain ⟨h1, h2, h3, h4⟩ := h
  obtain ⟨v, hv⟩ := h3 k hk
  refine ⟨by simpa using h1, fun j hj => ?_, fun j hj => ?_, fun j => by simpa using h4 j⟩
  · by_cases e : j = k
    · subst e; exact World.cell?_setCell_same _ _ _ hv
    · rw [World.cell?_setCell_other _ _ _ _ (fun h => e (by injection h with _ h2; exact h2.symm))]; exact h2 j (by omega)
  · exact cell?_setCell_some (h3 j hj).choose_spec

theorem MRow.done {w : World} {b n : Nat} {m : Int} (h : MRow w b n n m) : Blk w b (marksFrom m n) :=
  ⟨h.1, fun j hj => by rw [length_marksFrom] at hj; rw [gt_marksFrom m n j hj]; exact h.2.1 j hj, h.2.2.2⟩

/-- the body of an owned slice of slots: block N, label i in block lb i. -/
structure ORb (S : Nat → Prop) (N n : Nat) (la : Nat → Option Addr) (lc lb : Nat → Nat) (fc : Nat → Int) (fl : Nat → List Int) (w : World) : Prop where
  hS : S N
  lt : N < w.heap.size
  fz : ∀ j, w.frozen? ⟨N, j, none⟩ = false
  c0 : ∀ i, i < n → w.cell? ⟨N, i * 2, none⟩ = some (.int .i64 (fc i))
  c1 : ∀ i, i < n → w.cell? ⟨N, i * 2 + 1, none⟩ = some (.slice (la i) (fl i).length (lc i))
  os : ∀ i, i < n → OS (fun k => k = lb i ∧ 0 < (fl i).length) (la i) (fl i).length (fl i) w
  lS : ∀ i, i < n → 0 < (fl i).length → S (lb i)
  ne : ∀ i, i < n → 0 < (fl i).length → lb i ≠ N
  ap : ∀ i j, i < n → j < n → i ≠ j → 0 < (fl i).length → 0 < (fl j).length → lb i ≠ lb j

theorem OR.body {S : Nat → Prop} {a : Option Addr} {n : Nat} {ss : List (Int × List Int)} {w : World} (h : OR S a n ss w) (hn : 0 < n) : ∃ N la lc lb, a = some ⟨N, 0, none⟩ ∧ ORb S N n la lc lb (gc ss) (gl ss) w := by
  obtain ⟨_, _, h3⟩ := h
  rcases h3 with h3 | ⟨N, la, lc, lb, e, hS, hN, hf, hc, hd⟩
  · omega
  · exact ⟨N, la, lc, lb, e, hS, hN, hf, fun i hi => (hc i hi).1, fun i hi => (hc i hi).2.1, fun i hi => (hc i hi).2.2.1, fun i hi h => ((hc i hi).2.2.2 h).1, fun i hi h => ((hc i hi).2.2.2 h).2, hd⟩

theorem ORb.or {S : Nat → Prop} {N n : Nat} {la : Nat → Option Addr} {lc lb : Nat → Nat} {ss : List (Int × List Int)} {w : World} (h : ORb S N n la lc lb (gc ss) (gl ss) w) (hn : ss.length = n) (hl : n + lenSum ss ≤ 1048576) : OR S (some ⟨N, 0, none⟩) n ss w :=
  ⟨hn, hl, .inr ⟨N, la, lc, lb, rfl, h.hS, h.lt, h.fz, fun i hi => ⟨h.c0 i hi, h.c1 i hi, h.os i hi, fun hl => ⟨h.lS i hi hl, h.ne i hi hl⟩⟩, h.ap⟩⟩

theorem ORb.congr {S : Nat → Prop} {N n : Nat} {la : Nat → Option Addr} {lc lb : Nat → Nat} {fc fc' : Nat → Int} {fl fl' : Nat → List Int} {w : World} (h : ORb S N n la lc lb fc fl w) (h1 : ∀ i, i < n → fc i = fc' i) (h2 : ∀ i, i < n → fl i = fl' i) : ORb S N n la lc lb fc' fl' w :=
  ⟨h.hS, h.lt, h.fz, fun i hi => h1 i hi ▸ h.c0 i hi, fun i hi => h2 i hi ▸ h.c1 i hi, fun i hi => h2 i hi ▸ h.os i hi, fun i hi hl => h.lS i hi (by rw [h2 i hi]; exact hl), fun i hi hl => h.ne i hi (by rw [h2 i hi]; exact hl), fun i j hi hj e a b => h.ap i j hi hj e (by rw [h2 i hi]; exact a) (by rw [h2 j hj]; exact b)⟩

theorem ORb.below {S : Nat → Prop} {N n : Nat} {la : Nat → Option Addr} {lc lb : Nat → Nat} {fc : Nat → Int} {fl : Nat → List Int} {w w' : World} (h : ORb S N n la lc lb fc fl w) (hb : Below w.heap.size w w') : ORb S N n la lc lb fc fl w' :=
  ⟨h.hS, by have := hb.size; have := h.lt; omega, fun j => (hb.frozen (p := ⟨N, j, none⟩) h.lt).trans (h.fz j), fun i hi => (hb.cell (p := ⟨N, i * 2, none⟩) h.lt).trans (h.c0 i hi), fun i hi => (hb.cell (p := ⟨N, i * 2 + 1, none⟩) h.lt).trans (h.c1 i hi), fun i hi => OS.loc.below hb (h.os i hi), h.lS, h.ne, h.ap⟩

def upd {α : Type} (f : Nat → α) (i : Nat) (x : α) (j : Nat) : α := if j = i then x else f j

theorem ORb.setCount {S : Nat → Prop} {N n : Nat} {la : Nat → Option Addr} {lc lb : Nat → Nat} {fc : Nat → Int} {fl : Nat → List Int} {w : World} (h : ORb S N n la lc lb fc fl w) {i : Nat} (hi : i < n) (c : Int) : ORb S N n la lc lb (upd fc i c) fl (w.setCell ⟨N, i * 2, none⟩ (.int .i64 c)) := by
  refine ⟨h.hS, by simpa using h.lt, fun j => by simpa using h.fz j, fun j hj => ?_, fun j hj => ?_, fun j hj => ?_, h.lS, h.ne, h.ap⟩
  · unfold upd
    by_cases e : j = i
    · subst e; rw [if_pos rfl]; exact World.cell?_setCell_same _ _ _ (h.c0 j hj)
    · rw [if_neg e, World.cell?_setCell_other _ _ _ _ (fun h => by injection h with _ h2; omega)]; exact h.c0 j hj
  · rw [World.cell?_setCell_other _ _ _ _ (fun h => by injection h with _ h2; omega)]; exact h.c1 j hj
  · refine OS.loc w _ (fun k hk _ => Below.heap_setCell _ _ _ _ (fun e => h.ne j hj hk.2 (hk.1.symm.trans e))) (h.os j hj)

theorem ORb.setLabel {S : Nat → Prop} {N n : Nat} {la : Nat → Option Addr} {lc lb : Nat → Nat} {fc : Nat → Int} {fl : Nat → List Int} {w w' : World} (h : ORb S N n la lc lb fc fl w) {i : Nat} (hi : i < n) {zs : List Int} (hz : zs.length = (fl i).length) (ho : OutS (fun k => k = lb i ∧ 0 < (fl i).length) w w') (hs : OS (fun k => k = lb i ∧ 0 < (fl i).length) (la i) (fl i).length zs w') : ORb S N n la lc lb fc (upd fl i zs) w' := by
  have eN := ho.block N h.lt (fun e => h.ne i hi e.2 e.1.symm)
  have hlen : ∀ j, (upd fl i zs j).length = (fl j).length := fun j => by
    unfold upd
    by_cases e : j = i
    · subst e; rw [if_pos rfl, hz]
    · rw [if_neg e]
  refine ⟨h.hS, by have := ho.size; have := h.lt; omega, fun j => (World.frozen?_of_block (a := ⟨N, j, none⟩) eN).trans (h.fz j), fun j hj => (World.cell?_of_block (a := ⟨N, j * 2, none⟩) eN).trans (h.c0 j hj), fun j hj => (World.cell?_of_block (a := ⟨N, j * 2 + 1, none⟩) eN).trans ?_, fun j hj => ?_, fun j hj hl => h.lS j hj (by rw [hlen] at hl; exact hl), fun j hj hl => h.ne j hj (by rw [hlen] at hl; exact hl), fun a b ha hb e la lb => h.ap a b ha hb e (by rw [hlen] at la; exact la) (by rw [hlen] at lb; exact lb)⟩
  · rw [hlen]; exact h.c1 j hj
  · rw [hlen]
    unfold upd
    by_cases e : j = i
    · subst e; rw [if_pos rfl]; exact hs
    · rw [if_neg e]; exact OS.loc.out ho (fun k hk e2 => h.ap j i hj hi e hk.2 e2.2 (hk.1.symm.trans e2.1)) (h.os j hj)

theorem lenSum_congr : ∀ (ss rr : List (Int × List Int)), ss.length = rr.length → (∀ j, j < ss.length → (gl ss j).length = (gl rr j).length) → lenSum ss = lenSum rr
  | [], [], _, _ => rfl
  | [], _ :: _, h, _ => by simp at h
  | _ :: _, [], h, _ => by simp at h
  | s :: r, t :: q, h, hl => by
    have h0 := hl 0 (by simp)
    have ih := lenSum_congr r q (by simpa using h) (fun j hj => by have := hl (j + 1) (by simpa using hj); simpa [gl] using this)
    simp [lenSum, gl] at h0 ⊢
    omega

/-- marks of the first k slots from m on, the others as they were. -/
def mkC (m : Int) (ss : List (Int × List Int)) (j : Nat) : Int := m + (j : Int) + (lenSum (ss.take j) : Int)

def mkL (m : Int) (ss : List (Int × List Int)) (j : Nat) : List Int := marksFrom (mkC m ss j + 1) (gl ss j).length

def mkS (m : Int) (ss : List (Int × List Int)) : List (Int × List Int) := (List.range ss.length).map (fun j => (mkC m ss j, mkL m ss j))

theorem length_mkS (m : Int) (ss : List (Int × List Int)) : (mkS m ss).length = ss.length := by simp [mkS]

theorem gc_mkS (m : Int) (ss : List (Int × List Int)) (j : Nat) (h : j < ss.length) : gc (mkS m ss) j = mkC m ss j := by simp [mkS, gc, h]

theorem gl_mkS (m : Int) (ss : List (Int × List Int)) (j : Nat) (h : j < ss.length) : gl (mkS m ss) j = mkL m ss j := by simp [mkS, gl, h]

theorem length_mkL (m : Int) (ss : List (Int × List Int)) (j : Nat) : (mkL m ss j).length = (gl ss j).length := length_marksFrom _ _

theorem lenSum_mkS (m : Int) (ss : List (Int × List Int)) : lenSum (mkS m ss) = lenSum ss :=
  lenSum_congr _ _ (length_mkS m ss) (fun j hj => by rw [length_mkS] at hj; rw [gl_mkS m ss j hj, length_mkL])

theorem mkC_succ (m : Int) (ss : List (Int × List Int)) (j : Nat) (h : j < ss.length) : mkC m ss (j + 1) = mkC m ss j + 1 + ((gl ss j).length : Int) := by
  unfold mkC
  rw [lenSum_take ss j h]
  omega

theorem mkC_le (m : Int) (ss : List (Int × List Int)) (j : Nat) : mkC m ss j ≤ m + (j : Int) + (lenSum ss : Int) := by
  unfold mkC
  have := lenSum_le ss j
  omega

theorem mkC_ge (m : Int) (ss : List (Int × List Int)) (j : Nat) : m ≤ mkC m ss j := by
  unfold mkC
  omega

theorem mkC_all (m : Int) (ss : List (Int × List Int)) : mkC m ss ss.length = m + (ss.length : Int) + (lenSum ss : Int) := by
  unfold mkC
  rw [List.take_length]

end Go.Proofs.Ytnlkigjgloeonaa
