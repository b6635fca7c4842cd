import Derived.Test.YtgkjmeogdomgmaaL2Leave
import Derived.Test.YtgkjmeogdomgmaaL2CopyP
import Derived.Test.YtgkjmeogdomgmaaEnterP
import Derived.Test.YtgkjmeogdomgmaaSpecReg
import Derived.Test.YtgkjmeogdomgmaaToReg
import Derived.Test.YtgkjmeogdomgmaaL1Copy
import Derived.Test.YtgkjmeogdomgmaaTDm1
import Derived.Test.YtgkjmeogdomgmaaL3CopyR
import Derived.Laws.OwnMore
import Derived.Deep.Onto
import Derived.StillTailTactics
import Derived.WalkKit
import Derived.ProofKit
import Derived.OpenShut
import Derived.ShutString
import Derived.ChangeOld
import Derived.Below
import Derived.WalkSpells
import Derived.Deep.QuietTactic
import Derived.BigQuiet
import Derived.Deep.RegionWith
import Derived.Deep.WholeRow
import Derived.Deep.DeepCutAuto
import Derived.Deep.RegionHeld2
import Derived.Deep.AppendLies
import Derived.Deep.RegionLaw
namespace Go.Proofs.Ytgkjmeogdomgmaa
open Go.ChangeShapes Go.WideShapes Go.ChangeAt Go.RowKit

set_option maxRecDepth 100000 in
theorem l2Leave_R (q B : Nat) (S : Nat → Prop) (a : Option Addr) (n ca : Nat) (ss : List (Int × List Int)) (p : Nat) (w : World) (hqc : w.cell? ⟨q, 0, none⟩ = some (.slice a n ca)) (ho : OR S a n ss w) (hrow : ∃ xs, w.ownsRow B 111 2 (.slice a n ca) n xs) (hS : ¬ S q) (hp : p < n) (h1 : 1 ≤ gc ss p) (h9 : gc ss p ≤ 99) (hm : n + lenSum (leaveS ss p) ≤ 1048576) :
    Calls Try.prog 72 #[.pointer (some ⟨q, 0, none⟩), .int .i64 p] w fun e w' => e = .returned (.tuple #[]) ∧ OR S a n (leaveS ss p) w' ∧ (∃ xs, w'.ownsRow B 111 2 (.slice a n ca) n xs) ∧ OutS S w w' := by
  have hlen := ho.1
  obtain ⟨N, la, lc, lb, rfl, hb⟩ := ho.body (by omega)
  have hN := hb.hS
  obtain ⟨xs, hxs⟩ := hrow
  have k0 := hb.c0 p hp
  have k1 := hb.c1 p hp
  have f0 := hb.fz (p * 2)
  have f1 := hb.fz (p * 2 + 1)
  have hqN : q ≠ N := fun e => hS (e ▸ hN)
  have hbd := ho.2.1
  have hps : p < ss.length := by omega
  have HO := hide ((OutS.refl S w).setCell (p := ⟨N, p * 2, none⟩) hN (.int .i64 (gc ss p - 1)))
  by_cases hg : gc ss p = 1
  · have e0 : (gc ss p - 1 == 0) = true := by simp [hg]
    have HR := hide (((hb.setCount hp 0).drop hp).congr (fc' := gc (leaveS ss p)) (fl' := gl (leaveS ss p)) (fun i hi => by rw [gc_leave hps, hg]; rfl) (fun i hi => by rw [gl_leave hps, if_pos hg]; rfl)).or
    have HO2 := hide (((OutS.refl S w).setCell (p := ⟨N, p * 2, none⟩) hN (.int .i64 0)).setCell (p := ⟨N, p * 2 + 1, none⟩) hN (.slice none 0 0))
    have HW := hide (((hxs.stored (p * 2) (.int .i64 0)).1).stored (p * 2 + 1) (.slice none 0 0)).1
    clear hb ho HO hxs
    go_enter Try.func72, Try.ntmps72
    go_wp2
    refine bodyPost_end (v := .tuple #[]) (by simp [results, Try.results72, go_sem]) rfl ⟨rfl, HR.out (by rw [length_leaveS]; exact hlen) hm, ⟨_, HW.out⟩, HO2.out⟩
  · have e0 : (gc ss p - 1 == 0) = false := by simp; omega
    have HR := hide ((hb.setCount hp (gc ss p - 1)).congr (fc' := gc (leaveS ss p)) (fl' := gl (leaveS ss p)) (fun i hi => by rw [gc_leave hps]; rfl) (fun i hi => by rw [gl_leave hps, if_neg hg]; split <;> simp_all)).or
    have HW := hide (hxs.stored (p * 2) (.int .i64 (gc ss p - 1))).1
    clear hb ho hxs
    go_enter Try.func72, Try.ntmps72
    go_wp2
    refine bodyPost_end (v := .tuple #[]) (by simp [results, Try.results72, go_sem]) rfl ⟨rfl, HR.out (by rw [length_leaveS]; exact hlen) hm, ⟨_, HW.out⟩, HO.out⟩

theorem CPx.of {w : World} {B n rc : Nat} {ss : List (Int × List Int)} {a : Option Addr} {xs : List Value} (ho : OR (InR B w.heap.size) a n ss w) (hx : w.ownsRow B 111 2 (.slice a n rc) n xs) : ∃ la lc lb, CPx w B ss n (.slice a n rc) la lc lb xs := by
  by_cases h0 : n = 0
  · exact ⟨fun _ => none, fun _ => 0, fun _ => 0, hx, fun j hj => by omega, fun j hj => by omega, fun j hj => by omega, fun j hj => by omega, fun j hj => by omega, fun i j hi => by omega⟩
  · obtain ⟨N, la, lc, lb, rfl, hb⟩ := ho.body (by omega)
    refine ⟨la, lc, lb, hx, fun j hj => ?_, fun j hj => ?_, hb.os, fun j hj hl => hb.lS j hj hl, fun j hj hl e => hb.ne j hj hl (by injection e with e; exact e.symm), hb.ap⟩
    · rw [← hx.cellAt (j * 2) (by omega)]; exact hb.c0 j hj
    · rw [← hx.cellAt (j * 2 + 1) (by omega)]; exact hb.c1 j hj

theorem CPx.congr {wr : World} {B : Nat} {ss rr : List (Int × List Int)} {k : Nat} {v : Value} {la : Nat → Option Addr} {lc lb : Nat → Nat} {xs : List Value} (h : CPx wr B ss k v la lc lb xs) (h1 : ∀ j, j < k → gc ss j = gc rr j) (h2 : ∀ j, j < k → gl ss j = gl rr j) : CPx wr B rr k v la lc lb xs :=
  ⟨h.own, fun j hj => h1 j hj ▸ h.x0 j hj, fun j hj => h2 j hj ▸ h.x1 j hj, fun j hj => h2 j hj ▸ h.os j hj, fun j hj hl => h.ge j hj (by rw [h2 j hj]; exact hl), fun j hj hl => h.ne j hj (by rw [h2 j hj]; exact hl), fun i j hi hj e a b => h.ap i j hi hj e (by rw [h2 i hi]; exact a) (by rw [h2 j hj]; exact b)⟩

/-- a whole slot is laid into the row. -/
theorem ORb.lay {S : Nat → Prop} {N n : Nat} {la : Nat → Option Addr} {lc lb : Nat → Nat} {fc : Nat → Int} {fl : Nat → List Int} {w : World} (h : ORb S N n la lc lb fc fl w) {i : Nat} (hi : i < n) {c : Int} {zs : List Int} {ra : Option Addr} {rc b : Nat} (ho : OS (fun k => k = b ∧ 0 < zs.length) ra zs.length zs w) (hbS : 0 < zs.length → S b) (hbN : 0 < zs.length → b ≠ N) (hap : ∀ j, j < n → 0 < (fl j).length → lb j ≠ b) :
    ORb S N n (upd la i ra) (upd lc i rc) (upd lb i b) (upd fc i c) (upd fl i zs) ((w.setCell ⟨N, i * 2, none⟩ (.int .i64 c)).setCell ⟨N, i * 2 + 1, none⟩ (.slice ra zs.length rc)) := by
  refine ⟨h.hS, by simpa using h.lt, fun j => by simpa using h.fz j, fun j hj => ?_, fun j hj => ?_, fun j hj => ?_, fun j hj l => ?_, fun j hj l => ?_, fun x y hx hy e lx ly => ?_⟩
  · unfold upd
    rw [World.cell?_setCell_other _ _ _ _ (fun h => by injection h with _ h2; omega)]
    by_cases e : j = i
    · subst e; rw [if_pos rfl]; exact World.cell?_setCell_same _ _ _ (h.c0 j hj)
    · rw [if_neg e, World.cell?_setCell_other _ _ _ _ (fun h => by injection h with _ h2; omega)]; exact h.c0 j hj
  · unfold upd
    by_cases e : j = i
    · subst e
      simp only [if_true]
      exact World.cell?_setCell_same _ _ _ ((World.cell?_setCell_other _ _ _ _ (fun h => by injection h with _ h2; omega)).trans (h.c1 j hj))
    · simp only [if_neg e]
      rw [World.cell?_setCell_other _ _ _ _ (fun h => by injection h with _ h2; omega), World.cell?_setCell_other _ _ _ _ (fun h => by injection h with _ h2; omega)]
      exact h.c1 j hj
  · unfold upd
    by_cases e : j = i
    · subst e
      simp only [if_true]
      exact OS.loc.setC (OS.loc.setC ho (fun e => hbN e.2 (e.1.symm)) _) (fun e => hbN e.2 (e.1.symm)) _
    · simp only [if_neg e]
      exact OS.loc.setC (OS.loc.setC (h.os j hj) (fun e => h.ne j hj e.2 (e.1.symm)) _) (fun e => h.ne j hj e.2 (e.1.symm)) _
  · unfold upd at l ⊢
    by_cases e : j = i
    · rw [if_pos e] at l ⊢; exact hbS l
    · rw [if_neg e] at l ⊢; exact h.lS j hj l
  · unfold upd at l ⊢
    by_cases e : j = i
    · rw [if_pos e] at l ⊢; exact hbN l
    · rw [if_neg e] at l ⊢; exact h.ne j hj l
  · unfold upd at lx ly ⊢
    by_cases ex : x = i
    · have ey : y ≠ i := by omega
      rw [if_neg ey] at ly ⊢
      rw [if_pos ex]
      exact fun h2 => hap y hy ly h2.symm
    · rw [if_neg ex] at lx ⊢
      by_cases ey : y = i
      · rw [if_pos ey]; exact hap x hx lx
      · rw [if_neg ey] at ly ⊢; exact h.ap x y hx hy e lx ly

theorem CPx.step2 {wr X w1 : World} {B : Nat} {ss : List (Int × List Int)} {k : Nat} {v : Value} {la : Nat → Option Addr} {lc lb : Nat → Nat} {xs : List Value} (h : CPx wr B ss k v la lc lb xs) (hB : B ≤ wr.heap.size)
    (hc : Below wr.heap.size wr X) {ra : Option Addr} {ll rc g cp : Nat} (hll : (gl ss k).length = ll) (ho : OS (InR wr.heap.size X.heap.size) ra ll (gl ss k) X) (hg : X.grownBy w1 v.ownBlock) (hat : v.ownBlock = some g ∨ g = X.heap.size)
    (hown : w1.ownsRow B 111 2 (.slice (some ⟨g, 0, none⟩) (k + 1) cp) (k + 1) (xs ++ [.int .i64 (gc ss k), .slice ra ll rc])) :
    ∃ la' lc' lb', (∀ j, j < k + 1 → 0 < (gl ss j).length → lb' j < wr.heap.size → j < k ∧ lb' j = lb j) ∧ CPx w1 B ss (k + 1) (.slice (some ⟨g, 0, none⟩) (k + 1) cp) la' lc' lb' (xs ++ [.int .i64 (gc ss k), .slice ra ll rc]) := by
  subst hll
  obtain ⟨b, ob, hb⟩ := ho.one
  have hx : xs.length = k * 2 := h.own.1
  have hsz := hc.size
  have hgs := hg.size
  have hvb : ∀ q, v.ownBlock = some q → q < wr.heap.size := fun q e => (h.own.lt q e).2
  have hgne : ∀ q, q < X.heap.size → v.ownBlock ≠ some q → g ≠ q := fun q hq hv e => by
    rcases hat with hat | hat
    · exact hv (by rw [hat, e])
    · omega
  have keep : ∀ {S : Nat → Prop} {a : Option Addr} {n : Nat} {zs : List Int}, (∀ q, S q → q < X.heap.size ∧ v.ownBlock ≠ some q) → OS S a n zs X → OS S a n zs w1 := fun hS h0 =>
    OS.loc X w1 (fun q hq hlt => hg.block q hlt (fun e => (hS q hq).2 e.symm)) h0
  refine ⟨fun j => if j = k then ra else la j, fun j => if j = k then rc else lc j, fun j => if j = k then b else lb j, fun j hj hl hlt => ?_, hown, fun j hj => ?_, fun j hj => ?_, fun j hj => ?_, fun j hj hl => ?_, fun j hj hl => ?_, fun i j hi hj hij li lj => ?_⟩
  · by_cases e : j = k
    · simp only [if_pos e] at hlt
      subst e
      have := hb hl
      omega
    · simp only [if_neg e]
      exact ⟨by omega, trivial⟩
  · by_cases e : j = k
    · subst e; rw [List.getElem?_append_right (by omega)]; simp [hx]
    · rw [List.getElem?_append_left (by omega)]; exact h.x0 j (by omega)
  · by_cases e : j = k
    · subst e; rw [if_pos rfl, if_pos rfl, List.getElem?_append_right (by omega)]; simp [hx]
    · rw [if_neg e, if_neg e, List.getElem?_append_left (by omega)]; exact h.x1 j (by omega)
  · by_cases e : j = k
    · subst e
      simp only [if_true]
      exact keep (fun q hq => ⟨by have := hb hq.2; have := hq.1; omega, fun e => by have := hvb q e; have := hb hq.2; have := hq.1; omega⟩) ob
    · simp only [if_neg e]
      have hj' : j < k := by omega
      exact keep (fun q hq => ⟨by have := (h.ge j hj' hq.2).2; have := hq.1; omega, fun e => h.ne j hj' hq.2 (by rw [e, hq.1])⟩) (OS.loc.below hc (h.os j hj'))
  · by_cases e : j = k
    · subst e; rw [if_pos rfl]; have := hb hl; omega
    · rw [if_neg e]; have := h.ge j (by omega) hl; omega
  · by_cases e : j = k
    · subst e
      rw [if_pos rfl]
      have := hb hl
      intro e2
      injection e2 with e2
      exact hgne b (by omega) (fun e3 => by have := hvb b e3; omega) e2
    · rw [if_neg e]
      have hj' : j < k := by omega
      have := (h.ge j hj' hl).2
      intro e2
      injection e2 with e2
      exact hgne (lb j) (by omega) (h.ne j hj' hl) e2
  · by_cases e : i = k
    · rw [if_pos e, if_neg (by omega)]
      have := h.ge j (by omega) lj
      subst e
      have := hb li
      omega
    · rw [if_neg e]
      by_cases e2 : j = k
      · rw [if_pos e2]
        have := h.ge i (by omega) li
        subst e2
        have := hb lj
        omega
      · rw [if_neg e2]
        exact h.ap i j (by omega) (by omega) hij li lj

theorem CPx.setFar {wr : World} {B : Nat} {ss : List (Int × List Int)} {k : Nat} {v : Value} {la : Nat → Option Addr} {lc lb : Nat → Nat} {xs : List Value} (h : CPx wr B ss k v la lc lb xs) {P : Nat} (hv : v.ownBlock ≠ some P) (hl : ∀ j, j < k → 0 < (gl ss j).length → lb j ≠ P) (y : Value) : CPx (wr.setCell ⟨P, 0, none⟩ y) B ss k v la lc lb xs :=
  ⟨h.own.kept (setC1_grown wr P 0 y) (.inr hv), h.x0, h.x1, fun j hj => OS.loc.setC (h.os j hj) (fun e => hl j hj e.2 e.1.symm) y, fun j hj l => by simpa using h.ge j hj l, h.ne, h.ap⟩

theorem keepQR {X : World} {q r N i1 i2 : Nat} {u v y1 y2 : Value} (hq : q ≠ N) (hr : r ≠ N) (h : X.cell? ⟨q, 0, none⟩ = some u ∧ X.cell? ⟨r, 0, none⟩ = some v) : ((X.setCell ⟨N, i1, none⟩ y1).setCell ⟨N, i2, none⟩ y2).cell? ⟨q, 0, none⟩ = some u ∧ ((X.setCell ⟨N, i1, none⟩ y1).setCell ⟨N, i2, none⟩ y2).cell? ⟨r, 0, none⟩ = some v := by
  have k : ∀ c o, c ≠ N → ((X.setCell ⟨N, i1, none⟩ y1).setCell ⟨N, i2, none⟩ y2).cell? ⟨c, o, none⟩ = X.cell? ⟨c, o, none⟩ := fun c o hc => by
    rw [World.cell?_setCell_other _ _ _ _ (fun e => by injection e with e1 _; exact hc e1.symm), World.cell?_setCell_other _ _ _ _ (fun e => by injection e with e1 _; exact hc e1.symm)]
  exact ⟨(k _ _ hq).trans h.1, (k _ _ hr).trans h.2⟩

/-- q's cells from the second on are as they were. -/
def KQ (q : Nat) (w w' : World) : Prop := ∀ j, (1 ≤ j → w'.cell? ⟨q, j, none⟩ = w.cell? ⟨q, j, none⟩) ∧ w'.frozen? ⟨q, j, none⟩ = w.frozen? ⟨q, j, none⟩

theorem KQ.of_block {q : Nat} {w w' : World} (h : w'.heap[q]? = w.heap[q]?) : KQ q w w' := fun j => ⟨fun _ => World.cell?_of_block (a := ⟨q, j, none⟩) h, World.frozen?_of_block (a := ⟨q, j, none⟩) h⟩

theorem KQ.trans {q : Nat} {w u v : World} (h : KQ q w u) (k : KQ q u v) : KQ q w v := fun j => ⟨fun hj => ((k j).1 hj).trans ((h j).1 hj), (k j).2.trans (h j).2⟩

theorem KQ.set0 {q : Nat} {w u : World} (h : KQ q w u) (v : Value) : KQ q w (u.setCell ⟨q, 0, none⟩ v) := fun j => ⟨fun hj => (World.cell?_setCell_other _ _ _ _ (fun e => by injection e with _ e2; omega)).trans ((h j).1 hj), by rw [World.frozen?_setCell]; exact (h j).2⟩

theorem KQ.setN {q N i : Nat} {w u : World} (h : KQ q w u) (hn : q ≠ N) (v : Value) : KQ q w (u.setCell ⟨N, i, none⟩ v) := h.trans (KQ.of_block (Below.heap_setCell _ _ _ _ (fun e => hn e)))

/-- the registry's variable behind an entering: in its old blocks or in new ones. -/
def ER (q B T : Nat) (ss : List (Int × List Int)) (zs : List Int) (w : World) (e : Ending) (w' : World) : Prop :=
  e = .returned (.int .i64 (if etC ss zs = 0 then (enQ ss zs : Int) else -1)) ∧
    (etC ss zs = 0 → ∃ a' ca', w'.cell? ⟨q, 0, none⟩ = some (.slice a' (enS ss zs).length ca') ∧ OR (fun k => InR B T k ∨ InR w.heap.size w'.heap.size k) a' (enS ss zs).length (enS ss zs) w') ∧
    OutS (fun k => InR B T k ∨ k = q) w w' ∧ KQ q w w'

theorem enter_lay {q B T N n k : Nat} {la : Nat → Option Addr} {lc lb : Nat → Nat} {ss : List (Int × List Int)} {zs : List Int} {w w1 w2 : World} {ra : Option Addr} {rc nb : Nat} (hb : ORb (InR B T) N n la lc lb (gc ss) (gl ss) w2) (hk : k < n) (h4 : zs.length = 4) (ob : OS (fun j => j = nb ∧ 0 < 4) ra 4 zs w2) (hnb : 0 < 4 → w1.drew.heap.size ≤ nb ∧ nb < w2.heap.size)
    (hz1 : w.heap.size ≤ w1.heap.size) (hq : q < w.heap.size) (hTq : T ≤ q) (_hBT : B ≤ T) (hF : enQ ss zs = k) (hN : enN ss zs = 0) (hlen : ss.length = n) (hL : (enS ss zs).length = n) (hm : n + lenSum (enS ss zs) ≤ 1048576) :
    OR (fun j => InR B T j ∨ InR w.heap.size ((w2.setCell ⟨N, k * 2, none⟩ (.int .i64 1)).setCell ⟨N, k * 2 + 1, none⟩ (.slice ra 4 rc)).heap.size j) (some ⟨N, 0, none⟩) n (enS ss zs) ((w2.setCell ⟨N, k * 2, none⟩ (.int .i64 1)).setCell ⟨N, k * 2 + 1, none⟩ (.slice ra 4 rc)) := by
  have hnb' := hnb (by omega)
  simp only [World.size_drew] at hnb'
  have hN2 := hb.hS
  have hmono : ORb (fun j => InR B T j ∨ InR w.heap.size w2.heap.size j) N n la lc lb (gc ss) (gl ss) w2 := ⟨.inl hN2, hb.lt, hb.fz, hb.c0, hb.c1, hb.os, fun i hi hl => .inl (hb.lS i hi hl), hb.ne, hb.ap⟩
  have h := hmono.lay hk (c := 1) (zs := zs) (ra := ra) (rc := rc) (b := nb) (by rw [h4]; exact ob) (fun _ => .inr ⟨by omega, hnb'.2⟩) (fun _ => by have := hN2.2; omega) (fun j hj hl e => by have := (hb.lS j hj hl).2; omega)
  rw [h4] at h
  have h2 := h.congr (fc' := gc (enS ss zs)) (fl' := gl (enS ss zs)) (fun i hi => by unfold enS; rw [gc_put _ (by omega), hF, hN]; rfl) (fun i hi => by unfold enS; rw [gl_put _ (by omega), hF]; rfl)
  exact (ORb.or h2 hL hm).mono (fun j hj => hj.imp id (fun h => ⟨h.1, by simpa using h.2⟩))

theorem far_q {w1 X w5 : World} {o : Obj} {T q : Nat} {v y : Value} (hv : ∀ g, v.ownBlock = some g → g < T) (hc : Below w1.heap.size w1 X) (hg : (X.alloc o).grownBy w5 v.ownBlock) (h1 : w1.cell? ⟨q, 0, none⟩ = some y) (h2 : w1.frozen? ⟨q, 0, none⟩ = false) (hT : T ≤ q) (hq : q < w1.heap.size) : w5.cell? ⟨q, 0, none⟩ = some y ∧ w5.frozen? ⟨q, 0, none⟩ = false := by
  have hb := hc.alloc hc.size o
  have hsz := hb.size
  have far : w5.heap[q]? = w1.heap[q]? := (hg.block q (by omega) (fun e => by have := hv q e.symm; omega)).trans (hb.block q hq)
  exact ⟨(World.cell?_of_block (a := ⟨q, 0, none⟩) far).trans h1, (World.frozen?_of_block (a := ⟨q, 0, none⟩) far).trans h2⟩

theorem CPx.of2 {w : World} {B T n rc : Nat} {ss : List (Int × List Int)} {a : Option Addr} {xs : List Value} (ho : OR (InR B T) a n ss w) (hT : T ≤ w.heap.size) (hx : w.ownsRow B 111 2 (.slice a n rc) n xs) : ∃ la lc lb, (∀ j, j < n → 0 < (gl ss j).length → lb j < T) ∧ CPx w B ss n (.slice a n rc) la lc lb xs := by
  by_cases h0 : n = 0
  · exact ⟨fun _ => none, fun _ => 0, fun _ => 0, fun j hj => by omega, hx, fun j hj => by omega, fun j hj => by omega, fun j hj => by omega, fun j hj => by omega, fun j hj => by omega, fun i j hi => by omega⟩
  · obtain ⟨N, la, lc, lb, rfl, hb⟩ := ho.body (by omega)
    refine ⟨la, lc, lb, fun j hj hl => (hb.lS j hj hl).2, hx, fun j hj => ?_, fun j hj => ?_, hb.os, fun j hj hl => ⟨(hb.lS j hj hl).1, by have := (hb.lS j hj hl).2; omega⟩, fun j hj hl e => hb.ne j hj hl (by injection e with e; exact e.symm), hb.ap⟩
    · rw [← hx.cellAt (j * 2) (by omega)]; exact hb.c0 j hj
    · rw [← hx.cellAt (j * 2 + 1) (by omega)]; exact hb.c1 j hj

theorem CPx.orS {wr : World} {B n g cap : Nat} {ss : List (Int × List Int)} {la : Nat → Option Addr} {lc lb : Nat → Nat} {xs : List Value} (h : CPx wr B ss n (.slice (some ⟨g, 0, none⟩) n cap) la lc lb xs) (hn : ss.length = n) (hm : n + lenSum ss ≤ 1048576) {S : Nat → Prop} (hg : S g) (hl : ∀ j, j < n → 0 < (gl ss j).length → S (lb j)) : OR S (some ⟨g, 0, none⟩) n ss wr :=
  ⟨hn, hm, .inr ⟨g, la, lc, lb, rfl, hg, (h.own.lt g rfl).2, h.own.frozenAt, fun i hi => ⟨(h.own.cellAt (i * 2) (by omega)).trans (h.x0 i hi), (h.own.cellAt (i * 2 + 1) (by omega)).trans (h.x1 i hi), h.os i hi, fun l => ⟨hl i hi l, fun e => h.ne i hi l (by rw [e]; rfl)⟩⟩, h.ap⟩⟩

theorem enter_app {q B T k g cp rc : Nat} {a ra : Option Addr} {ca : Nat} {la : Nat → Option Addr} {lc lb : Nat → Nat} {rr : List (Int × List Int)} {zs : List Int} {xs : List Value} {w w1 X w5 : World} (h : CPx w1 B rr k (.slice a k ca) la lc lb xs) (hlb : ∀ j, j < k → 0 < (gl rr j).length → lb j < T) (hvT : ∀ g, (Value.slice a k ca).ownBlock = some g → g < T)
    (hG : Below w.heap.size w w1) (hq : q < w.heap.size) (hTq : T ≤ q) (hBT : B ≤ T) (hc : Below w1.heap.size w1 X) (hll : gl rr k = zs) (h4 : zs.length = 4) (hgc : gc rr k = 1) (ho : OS (InR w1.heap.size X.heap.size) ra 4 zs X) (hg : X.grownBy w5 (Value.slice a k ca).ownBlock) (hat : (Value.slice a k ca).ownBlock = some g ∨ g = X.heap.size)
    (hown : w5.ownsRow B 111 2 (.slice (some ⟨g, 0, none⟩) (k + 1) cp) (k + 1) (xs ++ [.int .i64 1, .slice ra 4 rc])) (hL : rr.length = k + 1) (hm : k + 1 + lenSum rr ≤ 1048576) (hqc : w1.cell? ⟨q, 0, none⟩ = some (.slice a k ca)) (y : Value) (hy : y = .slice (some ⟨g, 0, none⟩) (k + 1) cp) :
    (w5.setCell ⟨q, 0, none⟩ y).cell? ⟨q, 0, none⟩ = some (.slice (some ⟨g, 0, none⟩) (k + 1) cp) ∧ OR (fun j => InR B T j ∨ InR w.heap.size (w5.setCell ⟨q, 0, none⟩ y).heap.size j) (some ⟨g, 0, none⟩) (k + 1) rr (w5.setCell ⟨q, 0, none⟩ y) ∧ OutS (fun k => InR B T k ∨ k = q) w (w5.setCell ⟨q, 0, none⟩ y) ∧ KQ q w (w5.setCell ⟨q, 0, none⟩ y) := by
  subst hy
  have z1 := hG.size
  have z2 := hc.size
  have z3 := hg.size
  have hgq : g ≠ q := fun e => by
    rcases hat with hat | hat
    · have := hvT g hat; omega
    · omega
  have hqb : w5.heap[q]? = w1.heap[q]? := (hg.block q (by omega) (fun e => by have := hvT q e.symm; omega)).trans (hc.block q (by omega))
  obtain ⟨la', lc', lb', hlb', hx⟩ := h.step2 (by omega) hc (by rw [hll, h4]) (by rw [hll]; exact ho) hg hat (by rw [hgc]; exact hown)
  have hne : ∀ j, j < k + 1 → 0 < (gl rr j).length → lb' j ≠ q := fun j hj hl e => by
    obtain ⟨h1, h2⟩ := hlb' j hj hl (by omega)
    have := hlb j h1 hl
    omega
  have hx2 := hx.setFar (P := q) (by intro e; injection e with e; exact hgq e) hne (.slice (some ⟨g, 0, none⟩) (k + 1) cp)
  refine ⟨World.cell?_setCell_same _ _ _ ((World.cell?_of_block (a := ⟨q, 0, none⟩) hqb).trans hqc), ?_, ?_, ((KQ.of_block (hG.block q hq)).trans (KQ.of_block hqb)).set0 _⟩
  · rw [hgc] at hx2
    refine hx2.orS hL hm ?_ (fun j hj hl => ?_)
    · have hgl := hx2.own.lt g rfl
      rcases hat with hat | hat
      · exact .inl ⟨hgl.1, hvT g hat⟩
      · exact .inr ⟨by omega, hgl.2⟩
    · have hge := hx2.ge j hj hl
      by_cases hlt : lb' j < w1.heap.size
      · obtain ⟨h1, h2⟩ := hlb' j hj hl hlt
        exact .inl ⟨hge.1, by have := hlb j h1 hl; omega⟩
      · exact .inr ⟨by omega, hge.2⟩
  · refine OutS.setCell ((OutS.of_below (hG.mono (Nat.le_refl _))).trans ((OutS.of_below hc).trans ⟨hg.os, hg.tape, hg.output, hg.size, fun j hj hn => hg.block j hj (fun e => hn (.inl ⟨(h.own.lt j e.symm).1, hvT j e.symm⟩))⟩)) (.inr rfl) _

set_option maxRecDepth 100000 in
set_option maxHeartbeats 2000000 in
theorem l2Enter_O (q r B T : Nat) (a b : Option Addr) (n ca cb : Nat) (ss : List (Int × List Int)) (zs : List Int) (xs : List Value) (w : World) (hq : q < w.heap.size) (hTq : T ≤ q) (hr : r < w.heap.size) (hrB : r < B ∨ T ≤ r) (hBT : B ≤ T) (hqc : w.cell? ⟨q, 0, none⟩ = some (.slice a n ca)) (hqf : w.frozen? ⟨q, 0, none⟩ = false) (hrc : w.cell? ⟨r, 0, none⟩ = some (.slice b 4 cb))
    (ho : OR (InR B T) a n ss w) (hown : w.ownsRow B 111 2 (.slice a n ca) n xs) (hvT : ∀ g, (Value.slice a n ca).ownBlock = some g → g < T) (good : Good ss) (hy : Sl w b 4 zs) (hz : fault zs = 0) :
    Calls Try.prog 73 #[.pointer (some ⟨q, 0, none⟩), .pointer (some ⟨r, 0, none⟩)] w (ER q B T ss zs w) := by
  have few := good.few
  have hlen := ho.1
  go_enter Try.func73, Try.ntmps73
  go_wp2_with fail
  refine (l2At_calls q r 0 a b n ca 4 cb ss zs _ (by unfold maxLen; omega) (by unfold maxLen; omega) hq hr hqc hrc ho.sls hy).mono ?_
  rintro e w1 ⟨rfl, g1⟩
  have hz1 := g1.size
  have qc := (g1.cell (p := ⟨q, 0, none⟩) hq).trans hqc
  have qf := (g1.frozen (p := ⟨q, 0, none⟩) hq).trans hqf
  have rc := (g1.cell (p := ⟨r, 0, none⟩) hr).trans hrc
  have o1 := OR.loc.below g1 ho
  have HY := hide (hy.below g1 (Nat.le_refl _))
  have HW := hide (owns_out hown g1)
  have HO1 := hide o1
  have HG := hide g1
  clear g1 hqc hqf hrc ho hown hy
  rcases at2_cases ss zs with ⟨ha, hno⟩ | ⟨j, hj, ha, hh⟩
  · have HQ : Hid (enQ ss zs = fe ss) := if_pos (by omega)
    have HN : Hid (enN ss zs = 0) := if_pos (by omega)
    rw [ha]
    clear hno
    go_wp2
    go_loop [6] (fun i => ∃ k : Nat, k ≤ n ∧ i = .int .i64 k ∧ ∀ j, j < k → gc ss j ≠ 0) (fun i => n - (intOf i).toNat)
    case atStart => exact ⟨0, Nat.zero_le _, rfl, fun j hj => by omega⟩
    case round =>
      obtain ⟨k, hk, rfl, hno⟩ := hrel
      have HNO := hide hno
      clear hno
      by_cases hlt : k < n
      · obtain ⟨N, la, lc, lb, rfl, hb⟩ := o1.body (by omega)
        have k0 := hb.c0 k hlt
        by_cases h0 : gc ss k = 0
        · have e0 : (gc ss k == 0) = true := by simp [h0]
          have HF : Hid (enQ ss zs = k) := HQ.out.trans (fe_eq (by omega) h0 HNO.out)
          have HC : Hid (etC ss zs = 0) := if_neg (fun e => by have := HF.out; have := HN.out; rcases e with e | e <;> omega)
          have HL : Hid ((enS ss zs).length = n) := by
            show (enS ss zs).length = n
            unfold enS
            rw [HF.out, length_layS _ (by omega)]
            omega
          have hm := good_sum (good_enter good hz HC.out)
          rw [HL.out] at hm
          have Hm := hide hm
          have Hlen := hide (fault_len hz)
          have hN := hb.hS
          have hNq : q ≠ N := by have := hN.2; omega
          have hNr : r ≠ N := by have := hN.1; have := hN.2; omega
          have HBd := hide hb
          have hqw : q < w1.heap.size := by omega
          have hrw : r < w1.heap.size := by omega
          have HS0 : Hid (w1.drew.cell? ⟨q, 0, none⟩ = some (.slice (some ⟨N, 0, none⟩) n ca) ∧ w1.drew.cell? ⟨r, 0, none⟩ = some (.slice b 4 cb)) := ⟨qc, rc⟩
          clear hb o1 hm
          go_upto_region 11 with fail
          go_cut [] (fun wd => OutS (fun k => InR B T k ∨ k = q) w wd ∧ wd.cell? ⟨q, 0, none⟩ = some (.slice (some ⟨N, 0, none⟩) n ca) ∧ OR (fun k => InR B T k ∨ InR w.heap.size wd.heap.size k) (some ⟨N, 0, none⟩) n (enS ss zs) wd ∧ KQ q w wd)
          case first =>
            go_region_held2 (fun w' => w'.cell? ⟨q, 0, none⟩ = some (.slice (some ⟨N, 0, none⟩) n ca) ∧ w'.cell? ⟨r, 0, none⟩ = some (.slice b 4 cb))
              (first | with_reducible exact HS0.out | with_reducible assumption | (with_reducible refine keepQR hNq hNr ?_; with_reducible assumption))
              (first
              | (go_at_call 54; refine (l1Copy_O b 4 cb zs _ (by omega) (HY.out.below (Below.refl w1.heap.size w1).drew (Nat.le_refl _))).mono ?_; rintro e w2 ⟨ra, rc2, rfl, os2, g2⟩; have h12 : Below w1.heap.size w1 w2 := ((Below.refl w1.heap.size w1).drew).trans g2; obtain ⟨nb, ob, hnb⟩ := os2.one; have hs2 : w2.cell? ⟨q, 0, none⟩ = some (.slice (some ⟨N, 0, none⟩) n ca) ∧ w2.cell? ⟨r, 0, none⟩ = some (.slice b 4 cb) := ⟨(h12.cell (p := ⟨q, 0, none⟩) hqw).trans qc, (h12.cell (p := ⟨r, 0, none⟩) hrw).trans rc⟩; have hb2 := HBd.out.below h12; have s0 := hb2.c0 k hlt; have s1 := hb2.c1 k hlt; have t0 := hb2.fz (k * 2); have t1 := hb2.fz (k * 2 + 1); have HST := hide (enter_lay (q := q) (B := B) (T := T) hb2 hlt Hlen.out ob hnb hz1 hq hTq hBT HF.out HN.out hlen HL.out Hm.out (rc := rc2)); have HOut := hide (((OutS.of_below (S := fun k => InR B T k ∨ k = q) HG.out).trans (OutS.of_below h12)).setCell (p := ⟨N, k * 2, none⟩) (.inl hN) (.int .i64 1)); have HOut2 := hide (HOut.out.setCell (p := ⟨N, k * 2 + 1, none⟩) (.inl hN) (.slice ra 4 rc2)); have HKQ := hide ((((KQ.of_block (HG.out.block q hq)).trans (KQ.of_block (h12.block q hqw))).setN (i := k * 2) hNq (.int .i64 1)).setN (i := k * 2 + 1) hNq (.slice ra 4 rc2)); clear g2 os2 h12 hb2 ob hnb HOut))
            all_goals go_wp2_with fail
            all_goals go_meet
            all_goals exact ⟨HOut2.out, And.left (by with_reducible assumption), HST.out, HKQ.out⟩
          case rest =>
            obtain ⟨u5, u6, u7, u8⟩ := hcut
            have HU5 := hide u5
            have HU6 := hide u6
            have HU7 := hide u7
            have HU8 := hide u8
            clear u5 u6 u7 u8
            go_wp2
            go_ret
            exact ⟨by rw [HC.out, HF.out]; rfl, fun _ => ⟨_, _, by rw [HL.out]; exact HU6.out, by rw [HL.out]; exact HU7.out⟩, HU5.out, HU8.out⟩
        · have e0 : (gc ss k == 0) = false := by simp [h0]
          clear hb
          go_wp2
          go_round
          case rel => exact ⟨k + 1, by omega, by go_num, fun j hj => by (by_cases e : j = k); (rw [e]; exact h0); exact HNO.out j (by omega)⟩
          case measure => simp [intOf]; omega
      · have e : k = n := by omega
        subst e
        have HF : Hid (enQ ss zs = k) := HQ.out.trans ((fe_all (fun j hj => HNO.out j (by omega))).trans hlen)
        by_cases h10 : 10 ≤ k
        · have HC : Hid (etC ss zs = 7) := if_pos (.inl (by have := HF.out; omega))
          have ed : decide ((10 : Int) ≤ (k : Int)) = true := by simp; omega
          clear o1
          go_wp2
          go_ret
          exact ⟨by rw [HC.out]; rfl, fun h => absurd (HC.out.symm.trans h) (by decide), OutS.of_below HG.out, KQ.of_block (HG.out.block q hq)⟩
        · have ed : decide ((10 : Int) ≤ (k : Int)) = false := by simp; omega
          have HC : Hid (etC ss zs = 0) := if_neg (fun e => by have := HF.out; have := HN.out; rcases e with e | e <;> omega)
          have HL : Hid ((enS ss zs).length = k + 1) := by
            show (enS ss zs).length = k + 1
            unfold enS
            rw [HF.out, length_layS _ (by omega)]
            omega
          have hm := good_sum (good_enter good hz HC.out)
          rw [HL.out] at hm
          obtain ⟨i0, hi, hz0, hzz1, hzz2⟩ := info_parts infoSlot
          obtain ⟨la, lc, lb, hlb, hx⟩ := CPx.of2 o1 (by omega) HW.out
          have hgl : ∀ j, j < k → gl ss j = gl (enS ss zs) j := fun j hj => by unfold enS; rw [gl_put _ (by have := HF.out; omega), if_neg (by have := HF.out; omega)]
          have HX := hide (hx.congr (rr := enS ss zs) (fun j hj => by unfold enS; rw [gc_put _ (by have := HF.out; omega), if_neg (by have := HF.out; omega)]) hgl)
          have HLb : Hid (∀ j, j < k → 0 < (gl (enS ss zs) j).length → lb j < T) := fun j hj hl => hlb j hj (by rw [hgl j hj]; exact hl)
          have HG4 : Hid (gl (enS ss zs) k = zs) := by show gl _ _ = _; unfold enS; rw [gl_put _ (by have := HF.out; omega), if_pos HF.out.symm]
          have HG1 : Hid (gc (enS ss zs) k = 1) := by show gc _ _ = _; unfold enS; rw [gc_put _ (by have := HF.out; omega), if_pos HF.out.symm, HN.out]; rfl
          have Hm := hide hm
          have Hlen := hide (fault_len hz)
          have HvT := hide hvT
          have hqw : q < w1.heap.size := by omega
          have hrw : r < w1.heap.size := by omega
          have hBw : B ≤ w1.heap.size := by omega
          have HQc := hide qc
          clear hx hlb hgl hm o1 hvT
          go_upto_region 15 with fail
          go_cut [] (fun wd => ∃ g cp, wd.cell? ⟨q, 0, none⟩ = some (.slice (some ⟨g, 0, none⟩) (k + 1) cp) ∧ OR (fun j => InR B T j ∨ InR w.heap.size wd.heap.size j) (some ⟨g, 0, none⟩) (k + 1) (enS ss zs) wd ∧ OutS (fun k => InR B T k ∨ k = q) w wd ∧ KQ q w wd)
          case first =>
            go_region_law (first
              | (refine step_append_lies _ rfl _ _ 32 rfl B 111 i0 (.agg #[.int .i64 0, .slice none 0 0]) 2 32 Try.underlying32 hi hz0 hzz1 hzz2 rfl (by decide) (.slice a k ca) k xs rfl (HWc.out.alloc _) ⟨wc.heap.size, 0, none⟩ 1 1 [.int .i64 1, .slice ra 4 rc2] rfl rfl (two_new (by go_simp) (by go_simp)) (by simp [Value.oneCell']) (by omega) (by unfold maxLen; omega) (by omega) (by simp; omega) (wc.heap.size + 1) (by simp) ?_; intro g cp w5 hown5 hgrow hat hlt5; have gq : w5.cell? ⟨q, 0, none⟩ = some (.slice a k ca) ∧ w5.frozen? ⟨q, 0, none⟩ = false := (far_q HvT.out HCc.out hgrow HQc.out qf hTq hqw); obtain ⟨gv1, gv2⟩ := gq; have HST := hide (enter_app HX.out HLb.out HvT.out HG.out hq hTq hBT (HCc.out.trans (((Below.refl _ _).alloc (Nat.le_refl _) _).mono HCc.out.size)) HG4.out Hlen.out HG1.out ((OS.loc.alloc HOc.out _).mono (fun q hq => ⟨hq.1, Nat.lt_of_lt_of_le hq.2 (by simp)⟩)) hgrow (by rw [World.size_alloc]; exact hat) hown5 HL.out Hm.out HQc.out _ rfl); clear hown5 hgrow hat)
              | (go_simp; go_at_call 54; refine (l1Copy_O b 4 cb zs _ (by omega) (HY.out.below (Below.refl w1.heap.size w1).drew (Nat.le_refl _))).mono ?_; rintro e wc ⟨ra, rc2, rfl, os, gw⟩; have k1 := (gw.cell (p := ⟨q, 0, none⟩) (by simpa using hqw)).trans qc; have k2 := (gw.frozen (p := ⟨q, 0, none⟩) (by simpa using hqw)).trans qf; have k3 := (gw.cell (p := ⟨r, 0, none⟩) (by simpa using hrw)).trans rc; have HCc : Hid (Below w1.heap.size w1 wc) := (by have := (Below.refl w1.heap.size w1).drew; exact this.trans gw); have HOc : Hid (OS (InR w1.heap.size wc.heap.size) ra 4 zs wc) := os; have HWc := hide (owns_out HW.out HCc.out); have hqw' : q < wc.heap.size := (by have := gw.size; simp at this; omega); clear os gw))
            all_goals go_wp2_with fail
            all_goals go_meet
            all_goals exact ⟨_, _, HST.out⟩
          case rest =>
            obtain ⟨g, cp, c5, o5, u5, v5⟩ := hcut
            have HO5 := hide o5
            have HU5 := hide u5
            have HC5 := hide c5
            have HV5 := hide v5
            clear o5 u5 v5
            go_wp2
            go_ret
            exact ⟨by rw [HC.out, HF.out]; simp [go_sem], fun _ => ⟨_, _, by rw [HL.out]; exact HC5.out, by rw [HL.out]; exact HO5.out⟩, HU5.out, HV5.out⟩
  · have hg : 0 < gc ss j ∧ gl ss j = zs := by simpa [hit] using hh
    have e1 : enQ ss zs = j := by unfold enQ; rw [if_neg (by omega), ha]; omega
    have e2 : enN ss zs = gc ss j := by unfold enN; rw [if_neg (by omega), ha]; rfl
    have t9 := good.top j hj
    rw [ha]
    obtain ⟨N, la, lc, lb, rfl, hb⟩ := o1.body (by omega)
    have k0 := hb.c0 j (by omega)
    have f0 := hb.fz (j * 2)
    have hN := hb.hS
    clear hh
    by_cases h99 : gc ss j = 99
    · have eg : decide (99 ≤ gc ss j) = true := by simp; omega
      have HC : Hid (etC ss zs = 7) := if_pos (.inr (e2.trans h99))
      clear hb o1
      go_wp2
      go_ret
      exact ⟨by rw [HC.out]; rfl, fun h => absurd (HC.out.symm.trans h) (by decide), OutS.of_below HG.out, KQ.of_block (HG.out.block q hq)⟩
    · have HC : Hid (etC ss zs = 0) := if_neg (fun e => by rcases e with e | e; omega; omega)
      have HL : Hid ((enS ss zs).length = n) := by
        show (enS ss zs).length = n
        unfold enS
        rw [e1, length_layS _ (by omega)]
        omega
      have hm := good_sum (good_enter good hz HC.out)
      have HR := hide (ORb.or ((hb.setCount (by omega : j < n) (gc ss j + 1)).congr (fc' := gc (enS ss zs)) (fl' := gl (enS ss zs)) (fun i hi => by unfold enS; rw [gc_put _ (by omega), e1, e2]; rfl) (fun i hi => by unfold enS; rw [gl_put _ (by omega), e1]; split; (rename_i e; rw [e]; exact hg.2); rfl)) HL.out (by rw [HL.out] at hm; exact hm))
      have HQ : Hid (enQ ss zs = j) := e1
      have HOut := hide (OutS.setCell (OutS.of_below (S := fun k => InR B T k ∨ k = q) HG.out) (p := ⟨N, j * 2, none⟩) (.inl hN) (.int .i64 (gc ss j + 1)))
      have hNq : N ≠ q := by have := hN.2; omega
      have HKQ := hide ((KQ.of_block (HG.out.block q hq)).setN (i := j * 2) hNq.symm (.int .i64 (gc ss j + 1)))
      clear hb o1 hm
      go_wp2
      go_ret
      exact ⟨by rw [HC.out, HQ.out]; rfl, fun _ => ⟨some ⟨N, 0, none⟩, ca, by rw [HL.out]; exact (World.cell?_setCell_other _ _ _ _ (fun e => by injection e with e1 _; exact hNq e1)).trans qc, by rw [HL.out]; exact HR.out.mono (fun k hk => .inl hk)⟩, HOut.out, HKQ.out⟩

/-- what 'l3Taint' answers. -/
def TT (q B1 B2 B3 B4 : Nat) (ss : List (Int × List Int)) (p : Nat) (zs : List Int) (ya : Option Addr) (dn j : Nat) (ds : List Int) (w : World) (e : Ending) (w' : World) : Prop :=
  e = .returned (.bool (etC (leaveS ss p) zs == 0)) ∧ OutS (fun k => (InR B1 B2 k ∨ k = q) ∨ InR B3 B4 k) w w' ∧ KQ q w w' ∧
    (etC (leaveS ss p) zs = 0 → (∃ a' ca', w'.cell? ⟨q, 0, none⟩ = some (.slice a' (enS (leaveS ss p) zs).length ca') ∧ OR (fun k => InR B1 B2 k ∨ InR w.heap.size w'.heap.size k) a' (enS (leaveS ss p) zs).length (enS (leaveS ss p) zs) w') ∧ OS (InR B3 B4) ya dn (ds.set j (enQ (leaveS ss p) zs : Int)) w')

set_option maxRecDepth 100000 in
set_option maxHeartbeats 4000000 in
theorem l3Taint_calls (q r B1 B2 B3 B4 j p : Nat) (a : Option Addr) (n rc : Nat) (ss : List (Int × List Int)) (ya : Option Addr) (dn yc : Nat) (ds : List Int) (b : Option Addr) (cb : Nat) (zs : List Int) (w : World) (hq : q < w.heap.size) (c0 : w.cell? ⟨q, 0, none⟩ = some (.slice a n rc)) (c2 : w.cell? ⟨q, 2, none⟩ = some (.slice ya dn yc)) (f0 : w.frozen? ⟨q, 0, none⟩ = false) (hg : RG B1 B2 a n rc ss w) (ho : OS (InR B3 B4) ya dn ds w) (b12 : B1 ≤ B2) (b23 : B2 ≤ B3) (b34 : B3 ≤ B4) (b4q : B4 ≤ q) (hr : r < B1) (hrc : w.cell? ⟨r, 0, none⟩ = some (.slice b 4 cb)) (hy : Sl w b 4 zs) (good : Good ss) (hz : fault zs = 0) (hj : j < dn) (hdn : dn ≤ 10) (hp : gt ds j = (p : Int)) (hpl : p < ss.length) (hpp : 0 < gc ss p) (hpL : atL ss (p : Int) = gl ss p) (hA2 : allS ss ds = true) :
    Calls Try.prog 36 #[.pointer (some ⟨q, 0, none⟩), .int .i64 (j : Int), .pointer (some ⟨r, 0, none⟩)] w (TT q B1 B2 B3 B4 ss p (mix td (gl ss p) zs) ya dn j ds w) := by
  have fo := good.right p hpl hpp
  have hmz : fault (mix td (gl ss p) zs) = 0 := fault_mix td_or fo hz
  have gl2 := good_leave good hpl hpp
  have hsum2 := good_sum gl2
  rw [length_leaveS] at hsum2
  have hlen := hg.1.1
  have h9 := good.top p hpl
  go_enter Try.func36, Try.ntmps36
  go_wp2_with fail
  refine (l3Domain_calls q a n rc ss ya dn yc ds j _ good hdn c0 c2 hg.1.sls ho.sl hA2 hj).mono ?_
  rintro e w1 ⟨lb, lo, la, ll, lcap, rfl, hlb, lcell, _, lsl, g1⟩
  rw [hp, hpL] at lsl
  obtain rfl : ll = 4 := by have := lsl.1; have := fault_len fo; omega
  have z1 := g1.size
  have lc1 := (g1.cell (p := ⟨lb, lo, none⟩) hlb).trans lcell
  have rc1 := (g1.cell (p := ⟨r, 0, none⟩) (by show r < _; omega)).trans hrc
  have ls1 := lsl.below g1 (Nat.le_refl _)
  have hy1 := hy.below g1 (Nat.le_refl _)
  go_wp2_with fail
  refine (l3Tainted_calls lb lo r la b lcap cb (gl ss p) zs _ (by omega) (by omega) lc1 rc1 ls1 hy1).mono ?_
  rintro e w2 ⟨na, nc, rfl, on, g2⟩
  have z2 := g2.size
  have al := (Below.refl w2.heap.size w2).alloc (Nat.le_refl _) (.cells #[.slice na 4 nc] 41)
  have g3 : Below w.heap.size w (w2.alloc (.cells #[.slice na 4 nc] 41)) := (g1.trans (g2.mono z1)).trans (al.mono (by omega))
  have hg3 := RG.loc.below g3 hg
  have ho3 := OS.loc.below g3 ho
  have on3 := OS.loc.below al on
  have c03 := (g3.cell (p := ⟨q, 0, none⟩) hq).trans c0
  have c23 := (g3.cell (p := ⟨q, 2, none⟩) hq).trans c2
  have f03 := (g3.frozen (p := ⟨q, 0, none⟩) hq).trans f0
  have r2c : (w2.alloc (.cells #[.slice na 4 nc] 41)).cell? ⟨w2.heap.size, 0, none⟩ = some (.slice na 4 nc) := by simp
  obtain ⟨hdl, hd1, h0 | ⟨g, rfl, hSg, blk⟩⟩ := ho3
  · omega
  have cj := blk.2.1 j (by omega)
  rw [hp] at cj
  have i0 : (0 : Int) ≤ (j : Int) := by omega
  have i1 : (j : Int) < (dn : Int) := by omega
  have HG3 := hide g3
  have HR3 := hide hg3
  have HB3 := hide blk
  have HN3 := hide on3
  have hnz : (w2.alloc (.cells #[.slice na 4 nc] 41)).heap.size = w2.heap.size + 1 := by simp
  have HNZ := hide hnz
  have gq : g ≠ q := by have := hSg.2; omega
  have gB : ¬ InR B1 B2 g := fun e => by have := e.2; have := hSg.1; omega
  have qB : ¬ InR B1 B2 q := fun e => by have := e.2; omega
  clear g1 g2 al g3 hg ho hg3 on on3 blk lsl ls1 hy1 hy lc1 rc1 lcell hnz
  go_wp2_with fail
  generalize hWe : (w2.alloc (.cells #[.slice na 4 nc] 41)) = W at c03 c23 f03 r2c cj HG3 HR3 HB3 HN3 HNZ ⊢
  clear hWe
  go_region_with (first
    | (go_at_call 72; refine (l2Leave_R q B1 (InR B1 B2) (a) n rc ss p _ (by exact c03) (by exact HR3.out.1) (by exact HR3.out.2.1) qB (by omega) (by omega) h9 (by omega)).mono ?_; rintro e w3 ⟨rfl, o4, row4, u4⟩))
  all_goals (
    have v4 : OutS (InR B1 B2) W w3 := (OutS.of_below (Below.refl _ _).drew).trans u4
    have z4 := v4.size
    have kz := HNZ.out
    have hqb := v4.block q (by omega) qB
    have c04 := (World.cell?_of_block (a := ⟨q, 0, none⟩) hqb).trans c03
    have c24 := (World.cell?_of_block (a := ⟨q, 2, none⟩) hqb).trans c23
    have f04 := (World.frozen?_of_block (a := ⟨q, 0, none⟩) hqb).trans f03
    have r24 := (World.cell?_of_block (a := ⟨w2.heap.size, 0, none⟩) (v4.block w2.heap.size (by omega) (fun e => by have := e.2; omega))).trans r2c
    have on4 := OS.loc.out v4 (fun k h h' => by have := h.1; have := h'.2; omega) HN3.out
    have blk4 : Blk w3 g ds := (Blk.loc (S := fun k => k = g) rfl) _ _ (fun k hk hl => v4.block k hl (fun e => gB (hk ▸ e))) HB3.out
    obtain ⟨xs, hxs⟩ := row4
    have HBk4 := hide blk4
    have HK4 : Hid (KQ q w w3) := (KQ.of_block (HG3.out.block q hq)).trans (KQ.of_block hqb)
    have HO4 : Hid (OutS (fun k => (InR B1 B2 k ∨ k = q) ∨ InR B3 B4 k) w w3) := (OutS.of_below HG3.out).trans (v4.mono (fun k h => .inl (.inl h)))
    have hvT := HR3.out.2.2
    have HN4 := hide on4.sl
    clear u4 v4 hqb HB3 HN3 HR3 HG3 blk4 on4 c03 c23 f03 r2c cj
    go_wp2_with fail
    refine (l2Enter_O q w2.heap.size B1 B2 a na n rc nc (leaveS ss p) (mix td (gl ss p) zs) xs _ (by omega) (by omega) (by omega) (.inr (by omega)) b12 c04 f04 r24 o4 hxs (fun g hg => (hvT g hg).2) gl2 HN4.out hmz).mono ?_
    rintro e w4 ⟨rfl, hfin, u5, k5⟩
    have z5 := u5.size
    have blk5 : Blk w4 g ds := (Blk.loc (S := fun k => k = g) rfl) _ _ (fun k hk hl => u5.block k hl (fun e => by rcases e with e | e; exact gB (hk ▸ e); exact gq (hk.symm.trans e))) HBk4.out
    have c25 := ((k5 2).1 (by omega)).trans c24
    have HK5 := hide (HK4.out.trans k5)
    have HO5 : Hid (OutS (fun k => (InR B1 B2 k ∨ k = q) ∨ InR B3 B4 k) w w4) := HO4.out.trans (u5.mono (fun k h => .inl h))
    have cj5 := blk5.2.1 j (by omega)
    have fj5 := blk5.2.2 j
    have HBk5 := hide blk5
    clear u5 k5 blk5 o4 hxs HK4 HO4 HBk4 c04 c24 f04 r24 HN4
    by_cases het : etC (leaveS ss p) (mix td (gl ss p) zs) = 0
    · obtain ⟨a', ca', q0, o5⟩ := hfin het
      rw [if_pos het]
      have en : decide ((enQ (leaveS ss p) (mix td (gl ss p) zs) : Int) < 0) = false := by simp
      have HQ0 : Hid ((w4.setCell ⟨g, j, none⟩ (.int .i64 (enQ (leaveS ss p) (mix td (gl ss p) zs) : Int))).cell? ⟨q, 0, none⟩ = some (.slice a' (enS (leaveS ss p) (mix td (gl ss p) zs)).length ca')) := (World.cell?_setCell_other _ _ _ _ (fun e => by injection e with e1 _; exact gq e1)).trans q0
      have HOR := hide ((OR.loc.setC o5 (q := ⟨g, j, none⟩) (fun e => by simp only at e; rcases e with e | e; exact gB e; have := e.1; have := hSg.2; omega) (.int .i64 (enQ (leaveS ss p) (mix td (gl ss p) zs) : Int))).mono (S' := fun k => InR B1 B2 k ∨ InR w.heap.size w4.heap.size k) (fun k h => h.imp id (fun h => ⟨by have := h.1; omega, h.2⟩)))
      have HOS : Hid (OS (InR B3 B4) (some ⟨g, 0, none⟩) dn (ds.set j (enQ (leaveS ss p) (mix td (gl ss p) zs) : Int)) (w4.setCell ⟨g, j, none⟩ (.int .i64 (enQ (leaveS ss p) (mix td (gl ss p) zs) : Int)))) := OS.ofBlk (blk_store HBk5.out (by omega)) hSg (by simpa using hdl) hd1
      have HO6 := hide (HO5.out.setCell (p := ⟨g, j, none⟩) (.inr hSg) (.int .i64 (enQ (leaveS ss p) (mix td (gl ss p) zs) : Int)))
      have HK6 := hide (HK5.out.setN (i := j) gq.symm (.int .i64 (enQ (leaveS ss p) (mix td (gl ss p) zs) : Int)))
      have HE : Hid ((etC (leaveS ss p) (mix td (gl ss p) zs) == 0) = true) := by show _ = _; simp [het]
      clear hfin het q0 o5
      go_wp2
      go_ret
      exact ⟨by rw [HE.out]; rfl, HO6.out, HK6.out, fun _ => ⟨⟨a', ca', HQ0.out, by simpa using HOR.out⟩, HOS.out⟩⟩
    · rw [if_neg het]
      have HE : Hid ((etC (leaveS ss p) (mix td (gl ss p) zs) == 0) = false) := by show _ = _; simp [het]
      have Ht := hide het
      clear hfin het
      go_wp2
      go_ret
      exact ⟨by rw [HE.out]; rfl, HO5.out, HK5.out, fun h => absurd h Ht.out⟩)

theorem OT.cast {B T T' : Nat} {a : Option Addr} {n : Nat} {ss : List (Int × List Int)} {ta : Option Addr} {tn : Nat} {ts : List Int} {da : Option Addr} {dn : Nat} {ds : List Int} {w : World} (h : OT (InR B T) a n ss ta tn ts da dn ds w) (e : T = T') : OT (InR B T') a n ss ta tn ts da dn ds w := e ▸ h

set_option maxRecDepth 100000 in
set_option maxHeartbeats 4000000 in
theorem specTaintDomain_calls (a : Option Addr) (n c : Nat) (ss : List (Int × List Int)) (ta : Option Addr) (tn tc : Nat) (ts : List Int) (da : Option Addr) (dn dc : Nat) (ds : List Int) (x : Int) (b : Option Addr) (lb cb : Nat) (zs : List Int) (w : World) (hrt : RT w a n ss ta tn ts da dn ds) (hlb : lb ≤ maxLen) (hy : Sl w b lb zs) :
    Calls Try.prog 7 #[.agg #[.slice a n c, .slice ta tn tc, .slice da dn dc], .int .i64 x, .agg #[.slice b lb cb]] w fun e w' => ∃ ra rn rc xa xn xc ya yn yc, e = .returned (.agg #[.int .i64 (txC ss ts ds x zs), .int .i64 (txV ss ts ds x zs), .slice ra rn rc, .slice xa xn xc, .slice ya yn yc]) ∧
      OT (InR w.heap.size w'.heap.size) ra rn (txS ss ts ds x zs) xa xn (txT ss ts ds x zs) ya yn (txD ss ts ds x zs) w' ∧ Below w.heap.size w w' := by
  have M0 := (((Mm.start w).alloc3 (.slice a n c) (.slice ta tn tc) (.slice da dn dc) 36).alloc1 (.slice b lb cb) 41).alloc5 (.int .i64 0) (.int .i64 0) (.slice none 0 0) (.slice none 0 0) (.slice none 0 0) 38
  simp only [World.size_alloc] at M0
  have hrt0 := hrt.below M0.bel (Nat.le_refl _)
  have hy0 := hy.below M0.bel (Nat.le_refl _)
  have HTL := hide hrt.2.2.2.1.1
  have HDL := hide hrt.2.2.2.2.2.1
  have hsl1 : ss.length ≤ n := Nat.le_of_eq hrt.2.1.1
  have hsl2 : n ≤ ss.length := Nat.le_of_eq hrt.2.1.1.symm
  have htl1 : ts.length ≤ tn := Nat.le_of_eq HTL.out
  have htl2 : tn ≤ ts.length := Nat.le_of_eq HTL.out.symm
  have hdl1 : ds.length ≤ dn := Nat.le_of_eq HDL.out
  have hdl2 : dn ≤ ds.length := Nat.le_of_eq HDL.out.symm
  go_enter Try.func7, Try.ntmps7
  go_wp2_with fail
  refine (l3Fault_calls _ a n c ss ta tn tc ts da dn dc ds _ (M0.lt 6 rfl) (M0.cell 6 rfl) (M0.cell 7 rfl) (M0.cell 8 rfl) hrt0).mono ?_
  rintro e w1 ⟨rfl, g1⟩
  have M1 := M0.below g1
  have hrt1 := hrt0.below g1 (Nat.le_refl _)
  have hy1 := hy0.below g1 (Nat.le_refl _)
  have z1 := g1.size
  simp only [World.size_alloc] at z1
  clear M0 g1 hrt0 hy0
  by_cases hf : tabF ss ts ds = 0
  rotate_left
  · have HC : Hid (txC ss ts ds x zs = tabF ss ts ds) := if_neg hf
    have e2 : (tabF ss ts ds != 0) = true := by simpa using hf
    have hf' : txC ss ts ds x zs ≠ 0 := by rw [HC.out]; exact hf
    have HV : Hid (txV ss ts ds x zs = 0) := if_neg hf'
    have HS : Hid (txS ss ts ds x zs = []) := if_neg hf'
    have HT : Hid (txT ss ts ds x zs = []) := if_neg hf'
    have HD : Hid (txD ss ts ds x zs = []) := if_neg hf'
    clear hf hf' hrt1 hy1
    go_wp2_with fail
    refine (l3Bad_calls _ _).mono ?_
    rintro e wz ⟨rfl, gz⟩
    have Mz := M1.below gz
    have c0 := Mz.cell 0 rfl
    have c1 := Mz.cell 1 rfl
    have c2 := Mz.cell 2 rfl
    have c3 := Mz.cell 3 rfl
    have c4 := Mz.cell 4 rfl
    have f0 := Mz.fz 0 rfl
    have f1 := Mz.fz 1 rfl
    have f2 := Mz.fz 2 rfl
    have f3 := Mz.fz 3 rfl
    have f4 := Mz.fz 4 rfl
    have HB := hide Mz.bel
    clear M1 Mz gz
    go_wp2
    refine bodyPost_ret (v := .agg #[.int .i64 (tabF ss ts ds), .int .i64 0, .slice none 0 0, .slice none 0 0, .slice none 0 0]) (by simp [results, Try.results7, go_sem, c0, c1, c2, c3, c4]) rfl ⟨_, _, _, _, _, _, _, _, _, by rw [HC.out, HV.out], ?_, below_set5 HB.out (by omega) _ _ _ _ _⟩
    rw [HS.out, HT.out, HD.out]
    exact OT.nil _ _ _ _ _
  have HC1 : Hid (txC ss ts ds x zs = if inC ds x = 0 then (if fault zs = 0 then (if thing0 zs = true then etC (leaveS ss (txQ ds x)) (txZ ss ds x zs) else 1) else fault zs) else inC ds x) := if_pos hf
  obtain ⟨hr, hmy, hA1, hA2, _⟩ := tabF_zero hf
  have hml := many_len hmy
  have good := good_of hr
  have hsum := good_sum good
  rw [hf]
  have dc1 := M1.cell 8 rfl
  clear hf
  go_wp2_with fail
  refine (l3HasDomain_calls w.heap.size da dn dc x _ (by omega) dc1).mono ?_
  rintro e w2 ⟨rfl, g2⟩
  have M2 := M1.below g2
  have hrt2 := hrt1.below g2 (Nat.le_refl _)
  have hy2 := hy1.below g2 (Nat.le_refl _)
  have z2 := g2.size
  clear M1 g2 hrt1 hy1 dc1
  by_cases hin : 0 ≤ x ∧ x < (dn : Int)
  rotate_left
  · have h4 := inC_no (l := ds) (i := x) (by omega)
    have HC : Hid (txC ss ts ds x zs = 4) := by show _ = _; rw [HC1.out, if_neg (by rw [h4]; decide), h4]
    have hd : decide (0 ≤ x ∧ x < (dn : Int)) = false := by simp only [decide_eq_false_iff_not]; exact hin
    rw [hd]
    have hf' : txC ss ts ds x zs ≠ 0 := by rw [HC.out]; decide
    have HV : Hid (txV ss ts ds x zs = 0) := if_neg hf'
    have HS : Hid (txS ss ts ds x zs = []) := if_neg hf'
    have HT : Hid (txT ss ts ds x zs = []) := if_neg hf'
    have HD : Hid (txD ss ts ds x zs = []) := if_neg hf'
    clear hin hd hf' h4 hrt2 hy2 HC1
    go_wp2_with fail
    refine (l3Bad_calls _ _).mono ?_
    rintro e wz ⟨rfl, gz⟩
    have Mz := M2.below gz
    have c0 := Mz.cell 0 rfl
    have c1 := Mz.cell 1 rfl
    have c2 := Mz.cell 2 rfl
    have c3 := Mz.cell 3 rfl
    have c4 := Mz.cell 4 rfl
    have f0 := Mz.fz 0 rfl
    have f1 := Mz.fz 1 rfl
    have f2 := Mz.fz 2 rfl
    have f3 := Mz.fz 3 rfl
    have f4 := Mz.fz 4 rfl
    have HB := hide Mz.bel
    clear M2 Mz gz
    go_wp2
    refine bodyPost_ret (v := .agg #[.int .i64 4, .int .i64 0, .slice none 0 0, .slice none 0 0, .slice none 0 0]) (by simp [results, Try.results7, go_sem, c0, c1, c2, c3, c4]) rfl ⟨_, _, _, _, _, _, _, _, _, by rw [HC.out, HV.out], ?_, below_set5 HB.out (by omega) _ _ _ _ _⟩
    rw [HS.out, HT.out, HD.out]
    exact OT.nil _ _ _ _ _
  have hd : decide (0 ≤ x ∧ x < (dn : Int)) = true := by simp only [decide_eq_true_eq]; exact hin
  rw [hd]
  obtain ⟨j, rfl⟩ : ∃ j : Nat, x = (j : Int) := ⟨x.toNat, by omega⟩
  have hjl : j < ds.length := by omega
  have hi := inC_yes hjl
  have hat := atC_all hA2 hjl
  obtain ⟨q, hq, hql, hqp, hqL, _⟩ := atC_zero good hat
  have hQ : txQ ds (j : Int) = q := by unfold txQ; rw [Int.toNat_natCast, hq, Int.toNat_natCast]
  have HQ := hide hQ
  have HZ : Hid (txZ ss ds (j : Int) zs = mix td (gl ss q) zs) := by show _ = _; unfold txZ; rw [hQ]
  have Hq := hide hq
  rw [hq] at hqL
  have HqL := hide hqL
  have HC2 : Hid (txC ss ts ds (j : Int) zs = if fault zs = 0 then (if thing0 zs = true then etC (leaveS ss q) (mix td (gl ss q) zs) else 1) else fault zs) := by show _ = _; rw [HC1.out, if_pos hi, HZ.out, hQ]
  have lc2 := M2.cell 5 rfl
  have hL2 : w.heap.size + 1 < w2.heap.size := by omega
  clear hd hin hi hat hq hqL hQ HC1
  go_wp2_with fail
  refine (l1FaultO_calls (w.heap.size + 1) 0 b lb cb zs _ hlb hL2 lc2 hy2).mono ?_
  rintro e w3 ⟨rfl, g3⟩
  have M3 := M2.below g3
  have hrt3 := hrt2.below g3 (Nat.le_refl _)
  have hy3 := hy2.below g3 (Nat.le_refl _)
  have z3 := g3.size
  clear M2 g3 hrt2 hy2 lc2
  by_cases hz : fault zs = 0
  rotate_left
  · have HC : Hid (txC ss ts ds (j : Int) zs = fault zs) := by show _ = _; rw [HC2.out, if_neg hz]
    have e2 : (fault zs != 0) = true := by simpa using hz
    have hf' : txC ss ts ds (j : Int) zs ≠ 0 := by rw [HC.out]; exact hz
    have HV : Hid (txV ss ts ds (j : Int) zs = 0) := if_neg hf'
    have HS : Hid (txS ss ts ds (j : Int) zs = []) := if_neg hf'
    have HT : Hid (txT ss ts ds (j : Int) zs = []) := if_neg hf'
    have HD : Hid (txD ss ts ds (j : Int) zs = []) := if_neg hf'
    clear hz hf' hrt3 hy3 HC2
    go_wp2_with fail
    refine (l3Bad_calls _ _).mono ?_
    rintro e wz ⟨rfl, gz⟩
    have Mz := M3.below gz
    have c0 := Mz.cell 0 rfl
    have c1 := Mz.cell 1 rfl
    have c2 := Mz.cell 2 rfl
    have c3 := Mz.cell 3 rfl
    have c4 := Mz.cell 4 rfl
    have f0 := Mz.fz 0 rfl
    have f1 := Mz.fz 1 rfl
    have f2 := Mz.fz 2 rfl
    have f3 := Mz.fz 3 rfl
    have f4 := Mz.fz 4 rfl
    have HB := hide Mz.bel
    clear M3 Mz gz
    go_wp2
    refine bodyPost_ret (v := .agg #[.int .i64 (fault zs), .int .i64 0, .slice none 0 0, .slice none 0 0, .slice none 0 0]) (by simp [results, Try.results7, go_sem, c0, c1, c2, c3, c4]) rfl ⟨_, _, _, _, _, _, _, _, _, by rw [HC.out, HV.out], ?_, below_set5 HB.out (by omega) _ _ _ _ _⟩
    rw [HS.out, HT.out, HD.out]
    exact OT.nil _ _ _ _ _
  obtain rfl : lb = 4 := by have := fault_len hz; have := hy.1; omega
  rw [hz]
  have lc3 := M3.cell 5 rfl
  go_wp2_with fail
  refine (l1ThingO_calls (w.heap.size + 1) 0 b 4 cb zs _ hlb lc3 hy3).mono ?_
  rintro e w3' ⟨rfl, rfl⟩
  by_cases ht : thing0 zs = true
  rotate_left
  · have htf : thing0 zs = false := by simpa using ht
    have HC : Hid (txC ss ts ds (j : Int) zs = 1) := by show _ = _; rw [HC2.out, if_pos hz, if_neg ht]
    rw [htf]
    have hf' : txC ss ts ds (j : Int) zs ≠ 0 := by rw [HC.out]; decide
    have HV : Hid (txV ss ts ds (j : Int) zs = 0) := if_neg hf'
    have HS : Hid (txS ss ts ds (j : Int) zs = []) := if_neg hf'
    have HT : Hid (txT ss ts ds (j : Int) zs = []) := if_neg hf'
    have HD : Hid (txD ss ts ds (j : Int) zs = []) := if_neg hf'
    clear ht htf hf' hrt3 hy3 HC2 lc3
    go_wp2_with fail
    refine (l3Bad_calls _ _).mono ?_
    rintro e wz ⟨rfl, gz⟩
    have Mz := M3.below gz
    have c0 := Mz.cell 0 rfl
    have c1 := Mz.cell 1 rfl
    have c2 := Mz.cell 2 rfl
    have c3 := Mz.cell 3 rfl
    have c4 := Mz.cell 4 rfl
    have f0 := Mz.fz 0 rfl
    have f1 := Mz.fz 1 rfl
    have f2 := Mz.fz 2 rfl
    have f3 := Mz.fz 3 rfl
    have f4 := Mz.fz 4 rfl
    have HB := hide Mz.bel
    clear M3 Mz gz
    go_wp2
    refine bodyPost_ret (v := .agg #[.int .i64 1, .int .i64 0, .slice none 0 0, .slice none 0 0, .slice none 0 0]) (by simp [results, Try.results7, go_sem, c0, c1, c2, c3, c4]) rfl ⟨_, _, _, _, _, _, _, _, _, by rw [HC.out, HV.out], ?_, below_set5 HB.out (by omega) _ _ _ _ _⟩
    rw [HS.out, HT.out, HD.out]
    exact OT.nil _ _ _ _ _
  have HC : Hid (txC ss ts ds (j : Int) zs = etC (leaveS ss q) (mix td (gl ss q) zs)) := by show _ = _; rw [HC2.out, if_pos hz, if_pos ht]
  rw [ht]
  have k0 := M3.cell 6 rfl
  have k1 := M3.cell 7 rfl
  have k2 := M3.cell 8 rfl
  clear ht lc3 HC2
  go_wp2_with fail
  refine (l3Copy_R a n c ss ta tn tc ts da dn dc ds _ (by omega) (by omega) (by omega) hrt3).mono ?_
  rintro e w4 ⟨ra, rc, xa, xc, ya, yc, rfl, L2, g4⟩
  have M4 := (M3.below g4).alloc3 (.slice ra n rc) (.slice xa tn xc) (.slice ya dn yc) 36
  have z4 := g4.size
  have al := (Below.refl w4.heap.size w4).alloc (Nat.le_refl _) (.cells #[.slice ra n rc, .slice xa tn xc, .slice ya dn yc] 36)
  obtain ⟨B1, B2, B3, B4, b1, b2, b3, b4, b5, o1, o2, o3⟩ := L2
  have o1a := RG.loc.below al o1
  have o2a := OS.loc.below al o2.1
  have o3a := OS.loc.below al o3.1
  have hy4 := (hy3.below g4 (Nat.le_refl _)).below al (Nat.le_refl _)
  have s0 := M4.cell 0 rfl
  have s1 := M4.cell 1 rfl
  have s2 := M4.cell 2 rfl
  have t0 := M4.fz 0 rfl
  have lc4 := M4.cell 8 rfl
  have zP : w4.heap.size < (w4.alloc (.cells #[.slice ra n rc, .slice xa tn xc, .slice ya dn yc] 36)).heap.size := by simp
  clear g4 al o1 o2 o3 M3 k0 k1 k2 hrt3 hy3
  go_wp2_with fail
  refine (l3Taint_calls w4.heap.size (w.heap.size + 1) B1 B2 B3 B4 j q ra n rc ss ya dn yc ds b cb zs _ zP s0 s2 t0 o1a o3a b2 b3 b4 b5 (by omega) lc4 hy4 good hz (by omega) (by omega) Hq.out hql hqp HqL.out hA2).mono ?_
  rintro e w5 ⟨rfl, u5, kk, hfin⟩
  have z5 := u5.size
  simp only [World.size_alloc] at z5
  have q1 := ((kk 1).1 (by omega)).trans s1
  have q2 := ((kk 2).1 (by omega)).trans s2
  have M5 : Mm w w5 [(w.heap.size + 1 + 1, 0, .int .i64 0), (w.heap.size + 1 + 1, 1, .int .i64 0), (w.heap.size + 1 + 1, 2, .slice none 0 0), (w.heap.size + 1 + 1, 3, .slice none 0 0), (w.heap.size + 1 + 1, 4, .slice none 0 0)] [] :=
    (M4.sub (fun _ h => by simp only [List.mem_cons, List.not_mem_nil, or_false] at h ⊢; rcases h with h | h | h | h | h <;> simp [h]) (fun _ h => by cases h)).out (B := B1) (T := w4.heap.size + 1) (u5.mono (fun k hk => by rcases hk with (hk | hk) | hk; exact ⟨hk.1, by have := hk.2; omega⟩; exact ⟨by omega, by omega⟩; exact ⟨by have := hk.1; omega, by have := hk.2; omega⟩)) (by omega) (by simp <;> omega) (by simp)
  have o2b := OS.loc.out u5 (fun k h h' => by have := h.1; have := h.2; rcases h' with (h' | h') | h'; have := h'.2; omega; omega; have := h'.1; omega) o2a
  clear M4 u5 kk hy4 o1a o2a o3a s0 s1 s2 t0 lc4
  by_cases het : etC (leaveS ss q) (mix td (gl ss q) zs) = 0
  rotate_left
  · have h7 : etC (leaveS ss q) (mix td (gl ss q) zs) = 7 := by unfold etC at het ⊢; split at het <;> simp_all
    have HC : Hid (txC ss ts ds (j : Int) zs = 7) := HC.out.trans h7
    have e7 : (etC (leaveS ss q) (mix td (gl ss q) zs) == 0) = false := by simp [het]
    rw [e7]
    have hf' : txC ss ts ds (j : Int) zs ≠ 0 := by rw [HC.out]; decide
    have HV : Hid (txV ss ts ds (j : Int) zs = 0) := if_neg hf'
    have HS : Hid (txS ss ts ds (j : Int) zs = []) := if_neg hf'
    have HT : Hid (txT ss ts ds (j : Int) zs = []) := if_neg hf'
    have HD : Hid (txD ss ts ds (j : Int) zs = []) := if_neg hf'
    clear het h7 e7 hf' hfin o2b q1 q2
    go_wp2_with fail
    refine (l3Bad_calls _ _).mono ?_
    rintro e wz ⟨rfl, gz⟩
    have Mz := M5.below gz
    have c0 := Mz.cell 0 rfl
    have c1 := Mz.cell 1 rfl
    have c2 := Mz.cell 2 rfl
    have c3 := Mz.cell 3 rfl
    have c4 := Mz.cell 4 rfl
    have f0 := Mz.fz 0 rfl
    have f1 := Mz.fz 1 rfl
    have f2 := Mz.fz 2 rfl
    have f3 := Mz.fz 3 rfl
    have f4 := Mz.fz 4 rfl
    have HB := hide Mz.bel
    clear M5 Mz gz
    go_wp2
    refine bodyPost_ret (v := .agg #[.int .i64 7, .int .i64 0, .slice none 0 0, .slice none 0 0, .slice none 0 0]) (by simp [results, Try.results7, go_sem, c0, c1, c2, c3, c4]) rfl ⟨_, _, _, _, _, _, _, _, _, by rw [HC.out, HV.out], ?_, below_set5 HB.out (by omega) _ _ _ _ _⟩
    rw [HS.out, HT.out, HD.out]
    exact OT.nil _ _ _ _ _
  have HC0 : Hid (txC ss ts ds (j : Int) zs = 0) := HC.out.trans het
  have HV : Hid (txV ss ts ds (j : Int) zs = (enQ (leaveS ss q) (mix td (gl ss q) zs) : Int)) := (if_pos HC0.out).trans (by rw [HZ.out, HQ.out])
  have HS : Hid (txS ss ts ds (j : Int) zs = enS (leaveS ss q) (mix td (gl ss q) zs)) := (if_pos HC0.out).trans (by rw [HZ.out, HQ.out])
  have HT : Hid (txT ss ts ds (j : Int) zs = ts) := if_pos HC0.out
  have HD : Hid (txD ss ts ds (j : Int) zs = ds.set j (enQ (leaveS ss q) (mix td (gl ss q) zs) : Int)) := (if_pos HC0.out).trans (by rw [HZ.out, HQ.out, Int.toNat_natCast])
  obtain ⟨⟨a5, ca5, q0, o5⟩, d5⟩ := hfin het
  have et : (etC (leaveS ss q) (mix td (gl ss q) zs) == 0) = true := by simp [het]
  rw [et]
  generalize hEq : enQ (leaveS ss q) (mix td (gl ss q) zs) = eq at HV HD d5
  generalize hEs : enS (leaveS ss q) (mix td (gl ss q) zs) = es at HS q0 o5
  clear et het hfin HC hEq hEs
  simp only [World.size_alloc] at o5
  have dsl := d5.sl
  obtain ⟨gb, go, rfl, _, hcd⟩ := dsl.2 (by omega)
  have cj := hcd j (by omega)
  have hgj : gt (ds.set j (eq : Int)) j = (eq : Int) := by simp [gt, hjl]
  rw [hgj] at cj
  have i0 : (0 : Int) ≤ (j : Int) := by omega
  have i1 : (j : Int) < (dn : Int) := by omega
  obtain ⟨Y, hY⟩ : ∃ Y : World, Y = w5.drew := ⟨_, rfl⟩
  have GY : Below w5.heap.size w5 Y := by rw [hY]; exact (Below.refl _ _).drew
  have zY : Y.heap.size = w5.heap.size := by rw [hY]; rfl
  have MY := M5.below GY
  have o5Y := OR.loc.below GY o5
  have o2Y := OS.loc.below GY o2b
  have d5Y := OS.loc.below GY d5
  have HYe := hide hY
  have c0 := MY.cell 0 rfl
  have c1 := MY.cell 1 rfl
  have c2 := MY.cell 2 rfl
  have c3 := MY.cell 3 rfl
  have c4 := MY.cell 4 rfl
  have f0 := MY.fz 0 rfl
  have f1 := MY.fz 1 rfl
  have f2 := MY.fz 2 rfl
  have f3 := MY.fz 3 rfl
  have f4 := MY.fz 4 rfl
  have HB := hide MY.bel
  have HO : Hid (∀ v0 v1 v2 v3 v4, OT (InR w.heap.size w5.heap.size) a5 es.length es xa tn ts (some ⟨gb, go, none⟩) dn (ds.set j (eq : Int)) (((((Y.setCell ⟨w.heap.size + 1 + 1, 0, none⟩ v0).setCell ⟨w.heap.size + 1 + 1, 1, none⟩ v1).setCell ⟨w.heap.size + 1 + 1, 2, none⟩ v2).setCell ⟨w.heap.size + 1 + 1, 3, none⟩ v3).setCell ⟨w.heap.size + 1 + 1, 4, none⟩ v4)) := fun v0 v1 v2 v3 v4 =>
    OT.ofS (loc_set5 OR.loc o5Y (fun e => by rcases e with e | e; have := e.1; omega; have := e.1; omega) v0 v1 v2 v3 v4) (loc_set5 OS.loc o2Y (fun e => by have := e.1; omega) v0 v1 v2 v3 v4) (loc_set5 OS.loc d5Y (fun e => by have := e.1; omega) v0 v1 v2 v3 v4)
      (fun k h => by rcases h with h | h; exact ⟨by have := h.1; omega, by have := h.2; omega⟩; exact ⟨by have := h.1; omega, by have := h.2; omega⟩) (fun k h => ⟨by have := h.1; omega, by have := h.2; omega⟩) (fun k h => ⟨by have := h.1; omega, by have := h.2; omega⟩)
      (fun k h h' => by have := h'.1; have := h'.2; rcases h with h | h; have := h.2; omega; have := h.1; omega) (fun k h h' => by have := h'.1; have := h'.2; rcases h with h | h; have := h.2; omega; have := h.1; omega) (fun k h h' => by have := h.2; have := h'.1; omega)
  have HZY := hide zY
  clear M5 MY o5 o2b d5 o5Y o2Y d5Y dsl hcd GY hY zY
  go_wp2_with fail
  go_still_tail 7, (by kernel_rfl)
  clear q0 q1 q2 cj
  have hyw : { heap := w5.heap, tape := w5.tape, drawn := w5.drawn + 1, os := w5.os, output := w5.output } = Y := HYe.out.symm
  rw [hyw]
  clear hyw
  go_wp2
  refine bodyPost_ret (v := .agg #[.int .i64 0, .int .i64 (eq : Int), .slice a5 es.length ca5, .slice xa tn xc, .slice (some ⟨gb, go, none⟩) dn yc]) (by simp [results, Try.results7, go_sem, c0, c1, c2, c3, c4]) rfl ⟨_, _, _, _, _, _, _, _, _, by rw [HC0.out, HV.out], ?_, below_set5 HB.out (by omega) _ _ _ _ _⟩
  rw [HS.out, HT.out, HD.out]
  exact OT.cast (HO.out _ _ _ _ _) (by simp; exact HZY.out.symm)

end Go.Proofs.Ytgkjmeogdomgmaa
