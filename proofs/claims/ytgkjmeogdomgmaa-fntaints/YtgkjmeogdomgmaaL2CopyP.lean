import Derived.Test.YtgkjmeogdomgmaaL1Copy
import Derived.Test.YtgkjmeogdomgmaaRegO
import Derived.Test.YtgkjmeogdomgmaaRep
import Derived.WalkKit
import Derived.ProofKit
import Derived.OpenShut
import Derived.ShutString
import Derived.ChangeOld
import Derived.Below
import Derived.WalkSpells
import Derived.Deep.QuietTactic
import Derived.BigQuiet
import Derived.Deep.RegionWith
import Derived.Deep.WholeRow
import Derived.Deep.DeepCutAuto
import Derived.Deep.RegionHeld2
import Derived.Deep.AppendLies
import Derived.Deep.RegionLaw
namespace Go.Proofs.Ytgkjmeogdomgmaa
open Go.ChangeShapes Go.WideShapes Go.ChangeAt Go.RowKit

/-- a copy of the first k slots, under growth: the row from block B on, each label in a block of its own. -/
structure CPx (wr : World) (B : Nat) (ss : List (Int × List Int)) (k : Nat) (v : Value) (la : Nat → Option Addr) (lc lb : Nat → Nat) (xs : List Value) : Prop where
  own : wr.ownsRow B 111 2 v k xs
  x0 : ∀ j, j < k → xs[j * 2]? = some (.int .i64 (gc ss j))
  x1 : ∀ j, j < k → xs[j * 2 + 1]? = some (.slice (la j) (gl ss j).length (lc j))
  os : ∀ j, j < k → OS (fun b => b = lb j ∧ 0 < (gl ss j).length) (la j) (gl ss j).length (gl ss j) wr
  ge : ∀ j, j < k → 0 < (gl ss j).length → B ≤ lb j ∧ lb j < wr.heap.size
  ne : ∀ j, j < k → 0 < (gl ss j).length → v.ownBlock ≠ some (lb j)
  ap : ∀ i j, i < k → j < k → i ≠ j → 0 < (gl ss i).length → 0 < (gl ss j).length → lb i ≠ lb j

theorem CPx.start (wr : World) (B : Nat) (ss : List (Int × List Int)) : CPx wr B ss 0 (.slice none 0 0) (fun _ => none) (fun _ => 0) (fun _ => 0) [] :=
  ⟨World.ownsRow_nil _ _ _ _, fun j hj => by omega, fun j hj => by omega, fun j hj => by omega, fun j hj => by omega, fun j hj => by omega, fun i j hi => by omega⟩

theorem OS.one {B T : Nat} {a : Option Addr} {n : Nat} {zs : List Int} {w : World} (h : OS (InR B T) a n zs w) : ∃ b, OS (fun k => k = b ∧ 0 < n) a n zs w ∧ (0 < n → B ≤ b ∧ b < T) := by
  obtain ⟨h1, h2, h3⟩ := h
  by_cases e : n = 0
  · exact ⟨0, ⟨h1, h2, .inl e⟩, fun hp => by omega⟩
  · rcases h3 with h3 | ⟨b, rfl, hb, blk⟩
    · exact absurd h3 e
    · exact ⟨b, ⟨h1, h2, .inr ⟨b, rfl, ⟨rfl, by omega⟩, blk⟩⟩, fun _ => hb⟩

theorem owns_out {w w' : World} {B : Nat} {e : TypeId} {s : Nat} {v : Value} {k : Nat} {xs : List Value} (h : w.ownsRow B e s v k xs) (hb : Below w.heap.size w w') : w'.ownsRow B e s v k xs :=
  h.kept (row := none) ⟨hb.os, hb.tape, hb.output, hb.size, fun k hk _ => hb.block k hk⟩ (by
    by_cases e : v.ownBlock = none
    · exact .inl e
    · exact .inr e)

theorem two_new {W : World} {B : Nat} {u v : Value} (h0 : W.cell? ⟨B, 0, none⟩ = some u) (h1 : W.cell? ⟨B, 1, none⟩ = some v) : ∀ j y, [u, v][j]? = some y → W.cell? ((Addr.mk B 0 none).add j) = some y := by
  intro j y hj
  match j, hj with
  | 0, hj => simp at hj; subst hj; simpa [Addr.add] using h0
  | 1, hj => simp at hj; subst hj; simpa [Addr.add] using h1

theorem CPx.step {wr X w1 : World} {B : Nat} {ss : List (Int × List Int)} {k : Nat} {v : Value} {la : Nat → Option Addr} {lc lb : Nat → Nat} {xs : List Value} (h : CPx wr B ss k v la lc lb xs) (hB : B ≤ wr.heap.size)
    (hc : Below wr.heap.size wr X) {ra : Option Addr} {ll rc g cp : Nat} (hll : (gl ss k).length = ll) (ho : OS (InR wr.heap.size X.heap.size) ra ll (gl ss k) X) (hg : X.grownBy w1 v.ownBlock) (hat : v.ownBlock = some g ∨ g = X.heap.size)
    (hown : w1.ownsRow B 111 2 (.slice (some ⟨g, 0, none⟩) (k + 1) cp) (k + 1) (xs ++ [.int .i64 (gc ss k), .slice ra ll rc])) {P : Nat} (hP : P < B) (y : Value) :
    ∃ la' lc' lb', CPx (w1.setCell ⟨P, 0, none⟩ y) B ss (k + 1) (.slice (some ⟨g, 0, none⟩) (k + 1) cp) la' lc' lb' (xs ++ [.int .i64 (gc ss k), .slice ra ll rc]) := by
  subst hll
  obtain ⟨b, ob, hb⟩ := ho.one
  have hx : xs.length = k * 2 := h.own.1
  have hsz := hc.size
  have hgs := hg.size
  have hvb : ∀ q, v.ownBlock = some q → q < wr.heap.size := fun q e => (h.own.lt q e).2
  have hgne : ∀ q, q < X.heap.size → v.ownBlock ≠ some q → g ≠ q := fun q hq hv e => by
    rcases hat with hat | hat
    · exact hv (by rw [hat, e])
    · omega
  have keep : ∀ {S : Nat → Prop} {a : Option Addr} {n : Nat} {zs : List Int}, (∀ q, S q → q < X.heap.size ∧ v.ownBlock ≠ some q ∧ q ≠ P) → OS S a n zs X → OS S a n zs (w1.setCell ⟨P, 0, none⟩ y) := fun hS h0 =>
    OS.loc.setC (OS.loc X w1 (fun q hq hlt => hg.block q hlt (fun e => (hS q hq).2.1 e.symm)) h0) (fun e => (hS _ e).2.2 rfl) y
  refine ⟨fun j => if j = k then ra else la j, fun j => if j = k then rc else lc j, fun j => if j = k then b else lb j, ownsRow_setCell_below hown hP _, fun j hj => ?_, fun j hj => ?_, fun j hj => ?_, fun j hj hl => ?_, fun j hj hl => ?_, fun i j hi hj hij li lj => ?_⟩
  · by_cases e : j = k
    · subst e; rw [List.getElem?_append_right (by omega)]; simp [hx]
    · rw [List.getElem?_append_left (by omega)]; exact h.x0 j (by omega)
  · by_cases e : j = k
    · subst e; rw [if_pos rfl, if_pos rfl, List.getElem?_append_right (by omega)]; simp [hx]
    · rw [if_neg e, if_neg e, List.getElem?_append_left (by omega)]; exact h.x1 j (by omega)
  · by_cases e : j = k
    · subst e
      simp only [if_true]
      exact keep (fun q hq => ⟨by have := hb hq.2; have := hq.1; omega, fun e => by have := hvb q e; have := hb hq.2; have := hq.1; omega, by have := hb hq.2; have := hq.1; omega⟩) ob
    · simp only [if_neg e]
      have hj' : j < k := by omega
      exact keep (fun q hq => ⟨by have := (h.ge j hj' hq.2).2; have := hq.1; omega, fun e => h.ne j hj' hq.2 (by rw [e, hq.1]), by have := (h.ge j hj' hq.2).1; have := hq.1; omega⟩) (OS.loc.below hc (h.os j hj'))
  · by_cases e : j = k
    · subst e; rw [if_pos rfl]; have := hb hl; simp; omega
    · rw [if_neg e]; have := h.ge j (by omega) hl; simp; omega
  · by_cases e : j = k
    · subst e
      rw [if_pos rfl]
      have := hb hl
      intro e2
      injection e2 with e2
      exact hgne b (by omega) (fun e3 => by have := hvb b e3; omega) e2
    · rw [if_neg e]
      have hj' : j < k := by omega
      have := (h.ge j hj' hl).2
      intro e2
      injection e2 with e2
      exact hgne (lb j) (by omega) (h.ne j hj' hl) e2
  · by_cases e : i = k
    · rw [if_pos e, if_neg (by omega)]
      have := h.ge j (by omega) lj
      subst e
      have := hb li
      omega
    · rw [if_neg e]
      by_cases e2 : j = k
      · rw [if_pos e2]
        have := h.ge i (by omega) li
        subst e2
        have := hb lj
        omega
      · rw [if_neg e2]
        exact h.ap i j (by omega) (by omega) hij li lj

theorem CPx.or {wr : World} {B n : Nat} {ss : List (Int × List Int)} {v : Value} {la : Nat → Option Addr} {lc lb : Nat → Nat} {xs : List Value} (h : CPx wr B ss n v la lc lb xs) (hn : ss.length = n) (hm : n + lenSum ss ≤ 1048576) : ∃ ra rc, v = .slice ra n rc ∧ OR (InR B wr.heap.size) ra n ss wr := by
  by_cases h0 : n = 0
  · rcases h.own.2 with ⟨e, _⟩ | ⟨g, cap, cur, e, _⟩
    · exact ⟨none, 0, by rw [e, h0], hn, hm, .inl h0⟩
    · exact ⟨_, _, e, hn, hm, .inl h0⟩
  · obtain ⟨g, cap, rfl, hg, hgl⟩ := h.own.form (by omega)
    refine ⟨_, _, rfl, hn, hm, .inr ⟨g, la, lc, lb, rfl, ⟨hg, hgl⟩, hgl, h.own.frozenAt, fun i hi => ⟨(h.own.cellAt (i * 2) (by omega)).trans (h.x0 i hi), (h.own.cellAt (i * 2 + 1) (by omega)).trans (h.x1 i hi), h.os i hi, fun hl => ⟨h.ge i hi hl, fun e => h.ne i hi hl (by rw [e]; rfl)⟩⟩, h.ap⟩⟩

theorem CPx.below {wr w' : World} {B : Nat} {ss : List (Int × List Int)} {k : Nat} {v : Value} {la : Nat → Option Addr} {lc lb : Nat → Nat} {xs : List Value} (h : CPx wr B ss k v la lc lb xs) (hc : Below wr.heap.size wr w') : CPx w' B ss k v la lc lb xs :=
  ⟨owns_out h.own hc, h.x0, h.x1, fun j hj => OS.loc.below hc (h.os j hj), fun j hj hl => ⟨(h.ge j hj hl).1, by have := (h.ge j hj hl).2; have := hc.size; omega⟩, h.ne, h.ap⟩

theorem CPx.setC {wr : World} {B : Nat} {ss : List (Int × List Int)} {k : Nat} {v : Value} {la : Nat → Option Addr} {lc lb : Nat → Nat} {xs : List Value} (h : CPx wr B ss k v la lc lb xs) {P : Nat} (hP : P < B) (y : Value) : CPx (wr.setCell ⟨P, 0, none⟩ y) B ss k v la lc lb xs :=
  ⟨ownsRow_setCell_below h.own hP _, h.x0, h.x1, fun j hj => OS.loc.setC (h.os j hj) (fun e => by have := (h.ge j hj e.2).1; have := e.1; simp at this; omega) y, fun j hj hl => by simpa using h.ge j hj hl, h.ne, h.ap⟩

/-- what a round of the copy leaves. -/
def CPr (w : World) (a : Option Addr) (n ca : Nat) (ss : List (Int × List Int)) (k : Nat) (wr : World) : Prop :=
  ∃ v la lc lb xs, CPx wr (w.heap.size + 1 + 1 + 1) ss k v la lc lb xs ∧ wr.cell? ⟨w.heap.size + 1 + 1, 0, none⟩ = some v ∧ wr.frozen? ⟨w.heap.size + 1 + 1, 0, none⟩ = false ∧
    wr.cell? ⟨w.heap.size, 0, none⟩ = some (.slice a n ca) ∧ wr.cell? ⟨w.heap.size + 1, 0, none⟩ = some (.slice none 0 0) ∧ wr.frozen? ⟨w.heap.size + 1, 0, none⟩ = false ∧ Below w.heap.size w wr ∧ w.heap.size + 1 + 1 + 1 ≤ wr.heap.size

theorem CPr.step {w wr X w1 : World} {a : Option Addr} {n ca : Nat} {ss : List (Int × List Int)} {k : Nat} {v : Value} {la : Nat → Option Addr} {lc lb : Nat → Nat} {xs : List Value} (h : CPx wr (w.heap.size + 1 + 1 + 1) ss k v la lc lb xs)
    (hr : wr.cell? ⟨w.heap.size + 1 + 1, 0, none⟩ = some v ∧ wr.frozen? ⟨w.heap.size + 1 + 1, 0, none⟩ = false ∧ wr.cell? ⟨w.heap.size, 0, none⟩ = some (.slice a n ca) ∧ wr.cell? ⟨w.heap.size + 1, 0, none⟩ = some (.slice none 0 0) ∧ wr.frozen? ⟨w.heap.size + 1, 0, none⟩ = false ∧ Below w.heap.size w wr ∧ w.heap.size + 1 + 1 + 1 ≤ wr.heap.size)
    (hc : Below wr.heap.size wr X) {ra : Option Addr} {ll rc g cp : Nat} (hll : (gl ss k).length = ll) (ho : OS (InR wr.heap.size X.heap.size) ra ll (gl ss k) X) (hg : X.grownBy w1 v.ownBlock) (hat : v.ownBlock = some g ∨ g = X.heap.size)
    (hown : w1.ownsRow (w.heap.size + 1 + 1 + 1) 111 2 (.slice (some ⟨g, 0, none⟩) (k + 1) cp) (k + 1) (xs ++ [.int .i64 (gc ss k), .slice ra ll rc])) :
    CPr w a n ca ss (k + 1) (w1.setCell ⟨w.heap.size + 1 + 1, 0, none⟩ (.slice (some ⟨g, 0, none⟩) (k + 1) cp)) := by
  obtain ⟨h1, h2, h3, h4, h5, h6, h7⟩ := hr
  obtain ⟨la', lc', lb', hx⟩ := h.step h7 hc hll ho hg hat hown (P := w.heap.size + 1 + 1) (by omega) (.slice (some ⟨g, 0, none⟩) (k + 1) cp)
  have hsz := hc.size
  have hgs := hg.size
  have far : ∀ q, q < w.heap.size + 1 + 1 + 1 → w1.heap[q]? = wr.heap[q]? := fun q hq => (hg.block q (by omega) (fun e => by have := (h.own.lt q e.symm).1; omega)).trans (hc.block q (by omega))
  refine ⟨_, _, _, _, _, hx, World.cell?_setCell_same _ _ _ ((World.cell?_of_block (a := ⟨w.heap.size + 1 + 1, 0, none⟩) (far _ (by simp))).trans h1), by rw [World.frozen?_setCell]; exact (World.frozen?_of_block (a := ⟨w.heap.size + 1 + 1, 0, none⟩) (far _ (by simp))).trans h2, ?_, ?_, by rw [World.frozen?_setCell]; exact (World.frozen?_of_block (a := ⟨w.heap.size + 1, 0, none⟩) (far _ (by show w.heap.size + 1 < _; omega))).trans h5, ?_, by simp; omega⟩
  · rw [World.cell?_setCell_other _ _ _ _ (fun e => by injection e with e1 _; omega)]
    exact (World.cell?_of_block (a := ⟨w.heap.size, 0, none⟩) (far _ (by show w.heap.size < _; omega))).trans h3
  · rw [World.cell?_setCell_other _ _ _ _ (fun e => by injection e with e1 _; omega)]
    exact (World.cell?_of_block (a := ⟨w.heap.size + 1, 0, none⟩) (far _ (by show w.heap.size + 1 < _; omega))).trans h4
  · refine Below.setCell ?_ (by show w.heap.size ≤ w.heap.size + 1 + 1; omega) _
    exact (h6.trans (hc.mono h6.size)).grown hg (by have := h6.size; omega) (fun g hg' => by have := (h.own.lt g hg').1; omega)

end Go.Proofs.Ytgkjmeogdomgmaa
