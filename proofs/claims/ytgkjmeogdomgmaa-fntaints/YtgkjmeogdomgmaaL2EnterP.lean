import Derived.Test.YtgkjmeogdomgmaaL2CopyP
import Derived.Test.YtgkjmeogdomgmaaEnterP
import Derived.WalkKit
import Derived.ProofKit
import Derived.OpenShut
import Derived.ShutString
import Derived.ChangeOld
import Derived.Below
import Derived.WalkSpells
import Derived.Deep.QuietTactic
import Derived.BigQuiet
import Derived.Deep.RegionWith
import Derived.Deep.WholeRow
import Derived.Deep.DeepCutAuto
import Derived.Deep.RegionHeld2
import Derived.Deep.AppendLies
import Derived.Deep.RegionLaw
namespace Go.Proofs.Ytgkjmeogdomgmaa
open Go.ChangeShapes Go.WideShapes Go.ChangeAt Go.RowKit

theorem CPx.of {w : World} {B n rc : Nat} {ss : List (Int × List Int)} {a : Option Addr} {xs : List Value} (ho : OR (InR B w.heap.size) a n ss w) (hx : w.ownsRow B 111 2 (.slice a n rc) n xs) : ∃ la lc lb, CPx w B ss n (.slice a n rc) la lc lb xs := by
  by_cases h0 : n = 0
  · exact ⟨fun _ => none, fun _ => 0, fun _ => 0, hx, fun j hj => by omega, fun j hj => by omega, fun j hj => by omega, fun j hj => by omega, fun j hj => by omega, fun i j hi => by omega⟩
  · obtain ⟨N, la, lc, lb, rfl, hb⟩ := ho.body (by omega)
    refine ⟨la, lc, lb, hx, fun j hj => ?_, fun j hj => ?_, hb.os, fun j hj hl => hb.lS j hj hl, fun j hj hl e => hb.ne j hj hl (by injection e with e; exact e.symm), hb.ap⟩
    · rw [← hx.cellAt (j * 2) (by omega)]; exact hb.c0 j hj
    · rw [← hx.cellAt (j * 2 + 1) (by omega)]; exact hb.c1 j hj

theorem CPx.congr {wr : World} {B : Nat} {ss rr : List (Int × List Int)} {k : Nat} {v : Value} {la : Nat → Option Addr} {lc lb : Nat → Nat} {xs : List Value} (h : CPx wr B ss k v la lc lb xs) (h1 : ∀ j, j < k → gc ss j = gc rr j) (h2 : ∀ j, j < k → gl ss j = gl rr j) : CPx wr B rr k v la lc lb xs :=
  ⟨h.own, fun j hj => h1 j hj ▸ h.x0 j hj, fun j hj => h2 j hj ▸ h.x1 j hj, fun j hj => h2 j hj ▸ h.os j hj, fun j hj hl => h.ge j hj (by rw [h2 j hj]; exact hl), fun j hj hl => h.ne j hj (by rw [h2 j hj]; exact hl), fun i j hi hj e a b => h.ap i j hi hj e (by rw [h2 i hi]; exact a) (by rw [h2 j hj]; exact b)⟩

/-- a whole slot is laid into the row. -/
theorem ORb.lay {S : Nat → Prop} {N n : Nat} {la : Nat → Option Addr} {lc lb : Nat → Nat} {fc : Nat → Int} {fl : Nat → List Int} {w : World} (h : ORb S N n la lc lb fc fl w) {i : Nat} (hi : i < n) {c : Int} {zs : List Int} {ra : Option Addr} {rc b : Nat} (ho : OS (fun k => k = b ∧ 0 < zs.length) ra zs.length zs w) (hbS : 0 < zs.length → S b) (hbN : 0 < zs.length → b ≠ N) (hap : ∀ j, j < n → 0 < (fl j).length → lb j ≠ b) :
    ORb S N n (upd la i ra) (upd lc i rc) (upd lb i b) (upd fc i c) (upd fl i zs) ((w.setCell ⟨N, i * 2, none⟩ (.int .i64 c)).setCell ⟨N, i * 2 + 1, none⟩ (.slice ra zs.length rc)) := by
  refine ⟨h.hS, by simpa using h.lt, fun j => by simpa using h.fz j, fun j hj => ?_, fun j hj => ?_, fun j hj => ?_, fun j hj l => ?_, fun j hj l => ?_, fun x y hx hy e lx ly => ?_⟩
  · unfold upd
    rw [World.cell?_setCell_other _ _ _ _ (fun h => by injection h with _ h2; omega)]
    by_cases e : j = i
    · subst e; rw [if_pos rfl]; exact World.cell?_setCell_same _ _ _ (h.c0 j hj)
    · rw [if_neg e, World.cell?_setCell_other _ _ _ _ (fun h => by injection h with _ h2; omega)]; exact h.c0 j hj
  · unfold upd
    by_cases e : j = i
    · subst e
      simp only [if_true]
      exact World.cell?_setCell_same _ _ _ ((World.cell?_setCell_other _ _ _ _ (fun h => by injection h with _ h2; omega)).trans (h.c1 j hj))
    · simp only [if_neg e]
      rw [World.cell?_setCell_other _ _ _ _ (fun h => by injection h with _ h2; omega), World.cell?_setCell_other _ _ _ _ (fun h => by injection h with _ h2; omega)]
      exact h.c1 j hj
  · unfold upd
    by_cases e : j = i
    · subst e
      simp only [if_true]
      exact OS.loc.setC (OS.loc.setC ho (fun e => hbN e.2 (e.1.symm)) _) (fun e => hbN e.2 (e.1.symm)) _
    · simp only [if_neg e]
      exact OS.loc.setC (OS.loc.setC (h.os j hj) (fun e => h.ne j hj e.2 (e.1.symm)) _) (fun e => h.ne j hj e.2 (e.1.symm)) _
  · unfold upd at l ⊢
    by_cases e : j = i
    · rw [if_pos e] at l ⊢; exact hbS l
    · rw [if_neg e] at l ⊢; exact h.lS j hj l
  · unfold upd at l ⊢
    by_cases e : j = i
    · rw [if_pos e] at l ⊢; exact hbN l
    · rw [if_neg e] at l ⊢; exact h.ne j hj l
  · unfold upd at lx ly ⊢
    by_cases ex : x = i
    · have ey : y ≠ i := by omega
      rw [if_neg ey] at ly ⊢
      rw [if_pos ex]
      exact fun h2 => hap y hy ly h2.symm
    · rw [if_neg ex] at lx ⊢
      by_cases ey : y = i
      · rw [if_pos ey]; exact hap x hx lx
      · rw [if_neg ey] at ly ⊢; exact h.ap x y hx hy e lx ly

theorem CPx.step2 {wr X w1 : World} {B : Nat} {ss : List (Int × List Int)} {k : Nat} {v : Value} {la : Nat → Option Addr} {lc lb : Nat → Nat} {xs : List Value} (h : CPx wr B ss k v la lc lb xs) (hB : B ≤ wr.heap.size)
    (hc : Below wr.heap.size wr X) {ra : Option Addr} {ll rc g cp : Nat} (hll : (gl ss k).length = ll) (ho : OS (InR wr.heap.size X.heap.size) ra ll (gl ss k) X) (hg : X.grownBy w1 v.ownBlock) (hat : v.ownBlock = some g ∨ g = X.heap.size)
    (hown : w1.ownsRow B 111 2 (.slice (some ⟨g, 0, none⟩) (k + 1) cp) (k + 1) (xs ++ [.int .i64 (gc ss k), .slice ra ll rc])) :
    ∃ la' lc' lb', (∀ j, j < k + 1 → 0 < (gl ss j).length → lb' j < wr.heap.size → j < k ∧ lb' j = lb j) ∧ CPx w1 B ss (k + 1) (.slice (some ⟨g, 0, none⟩) (k + 1) cp) la' lc' lb' (xs ++ [.int .i64 (gc ss k), .slice ra ll rc]) := by
  subst hll
  obtain ⟨b, ob, hb⟩ := ho.one
  have hx : xs.length = k * 2 := h.own.1
  have hsz := hc.size
  have hgs := hg.size
  have hvb : ∀ q, v.ownBlock = some q → q < wr.heap.size := fun q e => (h.own.lt q e).2
  have hgne : ∀ q, q < X.heap.size → v.ownBlock ≠ some q → g ≠ q := fun q hq hv e => by
    rcases hat with hat | hat
    · exact hv (by rw [hat, e])
    · omega
  have keep : ∀ {S : Nat → Prop} {a : Option Addr} {n : Nat} {zs : List Int}, (∀ q, S q → q < X.heap.size ∧ v.ownBlock ≠ some q) → OS S a n zs X → OS S a n zs w1 := fun hS h0 =>
    OS.loc X w1 (fun q hq hlt => hg.block q hlt (fun e => (hS q hq).2 e.symm)) h0
  refine ⟨fun j => if j = k then ra else la j, fun j => if j = k then rc else lc j, fun j => if j = k then b else lb j, fun j hj hl hlt => ?_, hown, fun j hj => ?_, fun j hj => ?_, fun j hj => ?_, fun j hj hl => ?_, fun j hj hl => ?_, fun i j hi hj hij li lj => ?_⟩
  · by_cases e : j = k
    · simp only [if_pos e] at hlt
      subst e
      have := hb hl
      omega
    · simp only [if_neg e]
      exact ⟨by omega, trivial⟩
  · by_cases e : j = k
    · subst e; rw [List.getElem?_append_right (by omega)]; simp [hx]
    · rw [List.getElem?_append_left (by omega)]; exact h.x0 j (by omega)
  · by_cases e : j = k
    · subst e; rw [if_pos rfl, if_pos rfl, List.getElem?_append_right (by omega)]; simp [hx]
    · rw [if_neg e, if_neg e, List.getElem?_append_left (by omega)]; exact h.x1 j (by omega)
  · by_cases e : j = k
    · subst e
      simp only [if_true]
      exact keep (fun q hq => ⟨by have := hb hq.2; have := hq.1; omega, fun e => by have := hvb q e; have := hb hq.2; have := hq.1; omega⟩) ob
    · simp only [if_neg e]
      have hj' : j < k := by omega
      exact keep (fun q hq => ⟨by have := (h.ge j hj' hq.2).2; have := hq.1; omega, fun e => h.ne j hj' hq.2 (by rw [e, hq.1])⟩) (OS.loc.below hc (h.os j hj'))
  · by_cases e : j = k
    · subst e; rw [if_pos rfl]; have := hb hl; omega
    · rw [if_neg e]; have := h.ge j (by omega) hl; omega
  · by_cases e : j = k
    · subst e
      rw [if_pos rfl]
      have := hb hl
      intro e2
      injection e2 with e2
      exact hgne b (by omega) (fun e3 => by have := hvb b e3; omega) e2
    · rw [if_neg e]
      have hj' : j < k := by omega
      have := (h.ge j hj' hl).2
      intro e2
      injection e2 with e2
      exact hgne (lb j) (by omega) (h.ne j hj' hl) e2
  · by_cases e : i = k
    · rw [if_pos e, if_neg (by omega)]
      have := h.ge j (by omega) lj
      subst e
      have := hb li
      omega
    · rw [if_neg e]
      by_cases e2 : j = k
      · rw [if_pos e2]
        have := h.ge i (by omega) li
        subst e2
        have := hb lj
        omega
      · rw [if_neg e2]
        exact h.ap i j (by omega) (by omega) hij li lj

theorem CPx.setFar {wr : World} {B : Nat} {ss : List (Int × List Int)} {k : Nat} {v : Value} {la : Nat → Option Addr} {lc lb : Nat → Nat} {xs : List Value} (h : CPx wr B ss k v la lc lb xs) {P : Nat} (hv : v.ownBlock ≠ some P) (hl : ∀ j, j < k → 0 < (gl ss j).length → lb j ≠ P) (y : Value) : CPx (wr.setCell ⟨P, 0, none⟩ y) B ss k v la lc lb xs :=
  ⟨h.own.kept (setC1_grown wr P 0 y) (.inr hv), h.x0, h.x1, fun j hj => OS.loc.setC (h.os j hj) (fun e => hl j hj e.2 e.1.symm) y, fun j hj l => by simpa using h.ge j hj l, h.ne, h.ap⟩

end Go.Proofs.Ytgkjmeogdomgmaa
