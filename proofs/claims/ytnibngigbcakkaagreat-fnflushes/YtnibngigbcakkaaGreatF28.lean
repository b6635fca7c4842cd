import Derived.Test.YtnibngigbcakkaaGreatF27
import Derived.Test.YtnibngigbcakkaaGreatF20
import Derived.Test.YtnibngigbcakkaaGreatF2
import Derived.Test.YtnibngigbcakkaaGreatF11
import Derived.WalkKit
import Derived.ProofKit
import Derived.OpenShut
import Derived.ShutString
import Derived.ChangeOld
import Derived.Below
import Derived.WalkSpells
import Derived.Deep.QuietTactic
import Derived.BigQuiet
import Derived.Deep.RegionWith
import Derived.Deep.WholeRow
import Derived.Deep.DeepCutAuto
import Derived.Deep.RegionHeld2
import Derived.Deep.AppendLies
import Derived.Deep.RegionLaw
namespace Go.Proofs.YtnibngigbcakkaaGreat
open Go.ChangeShapes Go.WideShapes Go.ChangeAt Go.RowKit

set_option maxRecDepth 100000 in
set_option maxHeartbeats 40000000 in
theorem l4Bent_calls (p : Nat) (a : Option Addr) (len cap t : Nat) (w : World) (ht : t ≤ 980000) (hs : Src w p a len cap t) :
    Calls Tryz.prog 17 #[.pointer (some ⟨p, 0, none⟩)] w (BentC p a len cap t w) := by
  have hp : p < w.heap.size := hs.1
  have M0 := (Mo.start p w).alloc2 hp (.int .i64 0) (.slice none 0 0) 26
  have s0 := hs.below ((Below.refl _ _).alloc (Nat.le_refl _) (.cells #[.int .i64 0, .slice none 0 0] 26))
  go_enter Tryz.func17, Tryz.ntmps17
  go_wp2_with fail
  refine (l4Draw_calls p a len cap t _ (by omega) s0).mono ?_
  rintro e w1 ⟨s, ra, n, rc, ls, t1, rfl, own, hl, hn, hns, s1, ht1, o1⟩
  have M1 := M0.next o1
  have z1 := o1.size
  simp only [World.size_alloc] at z1 own
  clear M0 s0 o1
  have al := (Below.refl w1.heap.size w1).alloc (Nat.le_refl _) (.cells #[.int .i64 s, .slice ra n rc] 26)
  have V1 : CV (w1.alloc (.cells #[.int .i64 s, .slice ra n rc] 26)) (w.heap.size + 1) w1.heap.size s (.slice ra n rc) n ls :=
    ⟨by omega, by simp, by simp, by simp, by simp, by simp, own_below (own_mono own (by omega)) al, hl, fun e => by have := (own_ge own e).2; omega⟩
  have s1' := s1.below al
  have M1' := M1.below al
  have hpB : p < w.heap.size + 1 := by omega
  clear own s1 M1 al
  go_wp2_with fail
  refine (l1Next_calls p a len cap t1 12 _ (by omega) (by omega) (by omega) s1').mono ?_
  rintro e w2 ⟨q, rfl, q0, q1, s2, o2⟩
  have V2 := V1.outside o2 hpB
  have M2 := M1'.next o2
  have z2 := V2.lt
  have hne : w1.heap.size ≠ w.heap.size := by omega
  clear V1 M1' s1' o2
  by_cases hq0 : q = 0
  · have hb0 : (q == 0) = true := by simp [hq0]
    have s2' := s2.below ((Below.refl _ _).alloc (Nat.le_refl _) (.cells #[.int .i64 (-1), .int .i64 0, .int .i64 7] 2))
    have M2' := M2.below ((Below.refl _ _).alloc (Nat.le_refl _) (.cells #[.int .i64 (-1), .int .i64 0, .int .i64 7] 2))
    have V2' := V2.below ((Below.refl _ _).alloc (Nat.le_refl _) (.cells #[.int .i64 (-1), .int .i64 0, .int .i64 7] 2))
    have hp2 := s2.1
    clear hq0 q0 q1 s2 M2 V2
    go_wp2_with fail
    refine (l1PickM_calls p a len cap (t1 + 1) w2.heap.size 3 3 [-1, 0, 7] _ (by omega) (by omega) (by omega) s2' hp2 (by simp) rfl at3).mono ?_
    rintro e w3 ⟨j, _, rfl, s3, o3⟩
    have V3 := V2'.outside o3 hpB
    have M3 := M2'.next o3
    clear s2' M2' V2' o3
    generalize gt [-1, 0, 7] j = x
    have c0 := V3.c0
    have c1 := V3.c1
    have g0 := V3.f0
    have d0 := M3.cell 0 rfl
    have d1 := M3.cell 1 rfl
    have e0 := M3.fz 0 rfl
    have e1 := M3.fz 1 rfl
    have HO := hide M3.out
    have HV := hide V3
    have HS := hide s3
    clear M3 V3 s3
    go_wp2
    exact bodyPost_ret (v := .agg #[.int .i64 x, .slice ra n rc]) (by simp [results, Tryz.results17, go_sem, d0, d1]) rfl (BentC.mk
      (own_set (own_set (own_set HV.out.own HV.out.ne _) (fun e => by have := (own_ge HV.out.own e).1; simp only at this; omega) _) (fun e => by have := (own_ge HV.out.own e).1; simp only at this; omega) _) hl (by omega) (((HS.out.setCell (by show p < w1.heap.size; omega) _).setCell (by exact hp) _).setCell (by exact hp) _) (by omega) (((HO.out.setNew (by show w.heap.size ≤ w1.heap.size; omega) _).setNew (Nat.le_refl _) _).setNew (Nat.le_refl _) _))
  · have hb0 : (q == 0) = false := by simp [hq0]
    by_cases hq1 : q = 1
    · have hb1 : (q == 1) = true := by simp [hq1]
      have HK0 : Hid (KB p a len cap w (w.heap.size + 1) w1.heap.size s (.slice ra n rc) n ls (t1 + 1) w2) := ⟨s2, V2, M2⟩
      have c1 := V2.c1
      have hp2 : p < w2.heap.size := s2.1
      have hP2 : p < w1.heap.size := by omega
      have htt : t1 + 1 ≤ 999000 := by omega
      clear hq0 hq1
      have hq1 : p < w2.heap.size + 1 := by omega
      have hP3a : w1.heap.size < w2.heap.size + 1 := by omega
      have hP3b : w1.heap.size < w2.heap.size + 1 + 1 := by omega
      have hq2 : p < w2.heap.size + 1 + 1 := by omega
      clear q0 q1 M2 V2 s2
      go_wp2_with fail
      refine bent_region (T0 := t1 + 1) (B := w.heap.size + 1) (P := w1.heap.size) (by omega) hpB (by omega) (fun _ x y _ e h => by cases x; cases y; cases e; exact h) ?_ w2 HK0.out _ _ _ _ _ _ _ _ _ _ _
      intro Y w5 y1 y2 y3 g cp x19 x22 x25 hk3 k0 k1 k2 k3 k4 k5
      have HK3 := hide hk3
      have HA := hide k3
      have HN := hide k4
      have HX := hide k5
      clear hk3 k3 k4 k5
      have M5 := HK3.out.mo.belowB HX.out (by omega) (by simp) (by simp)
      have s5 := HK3.out.src.belowB HX.out hpB
      have d0 := M5.cell 0 rfl
      have d1 := M5.cell 1 rfl
      have e0 := M5.fz 0 rfl
      have e1 := M5.fz 1 rfl
      have HO := hide M5.out
      have HS := hide s5
      have hgP : g ≠ w1.heap.size := HN.out
      have hge : w.heap.size + 1 ≤ g := (own_ge (g := g) HA.out rfl).1
      have hgR : g ≠ w.heap.size := by omega
      clear M5 s5
      go_wp2
      exact bodyPost_ret (v := .agg #[.int .i64 s, .slice (some ⟨g, 0, none⟩) (n + 1) cp]) (by simp [results, Tryz.results17, go_sem, d0, d1]) rfl (BentC.mk
        (own_set (own_set (own_set HA.out (fun e => by simp [Value.ownBlock] at e; omega) _) (fun e => by simp [Value.ownBlock] at e; omega) _) (fun e => by simp [Value.ownBlock] at e; omega) _) (by simp; omega) (by omega) (((HS.out.setCell (by show p < w1.heap.size; omega) _).setCell (by exact hp) _).setCell (by exact hp) _) (by omega) (((HO.out.setNew (by show w.heap.size ≤ w1.heap.size; omega) _).setNew (Nat.le_refl _) _).setNew (Nat.le_refl _) _))
    · have hb1 : (q == 1) = false := by simp [hq1]
      have c0 := V2.c0
      have c1 := V2.c1
      have d0 := M2.cell 0 rfl
      have d1 := M2.cell 1 rfl
      have e0 := M2.fz 0 rfl
      have e1 := M2.fz 1 rfl
      have HO := hide M2.out
      have HV := hide V2
      have HS := hide s2
      clear M2 V2 s2 hq0 hq1 q0 q1
      go_wp2
      exact bodyPost_ret (v := .agg #[.int .i64 s, .slice ra n rc]) (by simp [results, Tryz.results17, go_sem, d0, d1]) rfl (BentC.mk
        (own_set (own_set HV.out.own (fun e => by have := (own_ge HV.out.own e).1; simp only at this; omega) _) (fun e => by have := (own_ge HV.out.own e).1; simp only at this; omega) _) hl (by omega) ((HS.out.setCell (by exact hp) _).setCell (by exact hp) _) (by omega) ((HO.out.setNew (Nat.le_refl _) _).setNew (Nat.le_refl _) _))

/-- a copy of the first k slots, under growth: the row from block B on, each label in a block of its own. -/
structure CPx (wr : World) (B : Nat) (ss : List (Int × List Int)) (k : Nat) (v : Value) (la : Nat → Option Addr) (lc lb : Nat → Nat) (xs : List Value) : Prop where
  own : wr.ownsRow B 114 2 v k xs
  x0 : ∀ j, j < k → xs[j * 2]? = some (.int .i64 (gc ss j))
  x1 : ∀ j, j < k → xs[j * 2 + 1]? = some (.slice (la j) (gl ss j).length (lc j))
  os : ∀ j, j < k → OS (fun b => b = lb j ∧ 0 < (gl ss j).length) (la j) (gl ss j).length (gl ss j) wr
  ge : ∀ j, j < k → 0 < (gl ss j).length → B ≤ lb j ∧ lb j < wr.heap.size
  ne : ∀ j, j < k → 0 < (gl ss j).length → v.ownBlock ≠ some (lb j)
  ap : ∀ i j, i < k → j < k → i ≠ j → 0 < (gl ss i).length → 0 < (gl ss j).length → lb i ≠ lb j

theorem CPx.start (wr : World) (B : Nat) (ss : List (Int × List Int)) : CPx wr B ss 0 (.slice none 0 0) (fun _ => none) (fun _ => 0) (fun _ => 0) [] :=
  ⟨World.ownsRow_nil _ _ _ _, fun j hj => by omega, fun j hj => by omega, fun j hj => by omega, fun j hj => by omega, fun j hj => by omega, fun i j hi => by omega⟩

theorem OS.one {B T : Nat} {a : Option Addr} {n : Nat} {zs : List Int} {w : World} (h : OS (InR B T) a n zs w) : ∃ b, OS (fun k => k = b ∧ 0 < n) a n zs w ∧ (0 < n → B ≤ b ∧ b < T) := by
  obtain ⟨h1, h2, h3⟩ := h
  by_cases e : n = 0
  · exact ⟨0, ⟨h1, h2, .inl e⟩, fun hp => by omega⟩
  · rcases h3 with h3 | ⟨b, rfl, hb, blk⟩
    · exact absurd h3 e
    · exact ⟨b, ⟨h1, h2, .inr ⟨b, rfl, ⟨rfl, by omega⟩, blk⟩⟩, fun _ => hb⟩

theorem owns_out {w w' : World} {B : Nat} {e : TypeId} {s : Nat} {v : Value} {k : Nat} {xs : List Value} (h : w.ownsRow B e s v k xs) (hb : Below w.heap.size w w') : w'.ownsRow B e s v k xs :=
  h.kept (row := none) ⟨hb.os, hb.tape, hb.output, hb.size, fun k hk _ => hb.block k hk⟩ (by
    by_cases e : v.ownBlock = none
    · exact .inl e
    · exact .inr e)

theorem two_new {W : World} {B : Nat} {u v : Value} (h0 : W.cell? ⟨B, 0, none⟩ = some u) (h1 : W.cell? ⟨B, 1, none⟩ = some v) : ∀ j y, [u, v][j]? = some y → W.cell? ((Addr.mk B 0 none).add j) = some y := by
  intro j y hj
  match j, hj with
  | 0, hj => simp at hj; subst hj; simpa [Addr.add] using h0
  | 1, hj => simp at hj; subst hj; simpa [Addr.add] using h1

theorem CPx.step {wr X w1 : World} {B : Nat} {ss : List (Int × List Int)} {k : Nat} {v : Value} {la : Nat → Option Addr} {lc lb : Nat → Nat} {xs : List Value} (h : CPx wr B ss k v la lc lb xs) (hB : B ≤ wr.heap.size)
    (hc : Below wr.heap.size wr X) {ra : Option Addr} {ll rc g cp : Nat} (hll : (gl ss k).length = ll) (ho : OS (InR wr.heap.size X.heap.size) ra ll (gl ss k) X) (hg : X.grownBy w1 v.ownBlock) (hat : v.ownBlock = some g ∨ g = X.heap.size)
    (hown : w1.ownsRow B 114 2 (.slice (some ⟨g, 0, none⟩) (k + 1) cp) (k + 1) (xs ++ [.int .i64 (gc ss k), .slice ra ll rc])) {P : Nat} (hP : P < B) (y : Value) :
    ∃ la' lc' lb', CPx (w1.setCell ⟨P, 0, none⟩ y) B ss (k + 1) (.slice (some ⟨g, 0, none⟩) (k + 1) cp) la' lc' lb' (xs ++ [.int .i64 (gc ss k), .slice ra ll rc]) := by
  subst hll
  obtain ⟨b, ob, hb⟩ := ho.one
  have hx : xs.length = k * 2 := h.own.1
  have hsz := hc.size
  have hgs := hg.size
  have hvb : ∀ q, v.ownBlock = some q → q < wr.heap.size := fun q e => (h.own.lt q e).2
  have hgne : ∀ q, q < X.heap.size → v.ownBlock ≠ some q → g ≠ q := fun q hq hv e => by
    rcases hat with hat | hat
    · exact hv (by rw [hat, e])
    · omega
  have keep : ∀ {S : Nat → Prop} {a : Option Addr} {n : Nat} {zs : List Int}, (∀ q, S q → q < X.heap.size ∧ v.ownBlock ≠ some q ∧ q ≠ P) → OS S a n zs X → OS S a n zs (w1.setCell ⟨P, 0, none⟩ y) := fun hS h0 =>
    OS.loc.setC (OS.loc X w1 (fun q hq hlt => hg.block q hlt (fun e => (hS q hq).2.1 e.symm)) h0) (fun e => (hS _ e).2.2 rfl) y
  refine ⟨fun j => if j = k then ra else la j, fun j => if j = k then rc else lc j, fun j => if j = k then b else lb j, ownsRow_setCell_below hown hP _, fun j hj => ?_, fun j hj => ?_, fun j hj => ?_, fun j hj hl => ?_, fun j hj hl => ?_, fun i j hi hj hij li lj => ?_⟩
  · by_cases e : j = k
    · subst e; rw [List.getElem?_append_right (by omega)]; simp [hx]
    · rw [List.getElem?_append_left (by omega)]; exact h.x0 j (by omega)
  · by_cases e : j = k
    · subst e; rw [if_pos rfl, if_pos rfl, List.getElem?_append_right (by omega)]; simp [hx]
    · rw [if_neg e, if_neg e, List.getElem?_append_left (by omega)]; exact h.x1 j (by omega)
  · by_cases e : j = k
    · subst e
      simp only [if_true]
      exact keep (fun q hq => ⟨by have := hb hq.2; have := hq.1; omega, fun e => by have := hvb q e; have := hb hq.2; have := hq.1; omega, by have := hb hq.2; have := hq.1; omega⟩) ob
    · simp only [if_neg e]
      have hj' : j < k := by omega
      exact keep (fun q hq => ⟨by have := (h.ge j hj' hq.2).2; have := hq.1; omega, fun e => h.ne j hj' hq.2 (by rw [e, hq.1]), by have := (h.ge j hj' hq.2).1; have := hq.1; omega⟩) (OS.loc.below hc (h.os j hj'))
  · by_cases e : j = k
    · subst e; rw [if_pos rfl]; have := hb hl; simp; omega
    · rw [if_neg e]; have := h.ge j (by omega) hl; simp; omega
  · by_cases e : j = k
    · subst e
      rw [if_pos rfl]
      have := hb hl
      intro e2
      injection e2 with e2
      exact hgne b (by omega) (fun e3 => by have := hvb b e3; omega) e2
    · rw [if_neg e]
      have hj' : j < k := by omega
      have := (h.ge j hj' hl).2
      intro e2
      injection e2 with e2
      exact hgne (lb j) (by omega) (h.ne j hj' hl) e2
  · by_cases e : i = k
    · rw [if_pos e, if_neg (by omega)]
      have := h.ge j (by omega) lj
      subst e
      have := hb li
      omega
    · rw [if_neg e]
      by_cases e2 : j = k
      · rw [if_pos e2]
        have := h.ge i (by omega) li
        subst e2
        have := hb lj
        omega
      · rw [if_neg e2]
        exact h.ap i j (by omega) (by omega) hij li lj

theorem CPx.or {wr : World} {B n : Nat} {ss : List (Int × List Int)} {v : Value} {la : Nat → Option Addr} {lc lb : Nat → Nat} {xs : List Value} (h : CPx wr B ss n v la lc lb xs) (hn : ss.length = n) (hm : n + lenSum ss ≤ 1048576) : ∃ ra rc, v = .slice ra n rc ∧ OR (InR B wr.heap.size) ra n ss wr := by
  by_cases h0 : n = 0
  · rcases h.own.2 with ⟨e, _⟩ | ⟨g, cap, cur, e, _⟩
    · exact ⟨none, 0, by rw [e, h0], hn, hm, .inl h0⟩
    · exact ⟨_, _, e, hn, hm, .inl h0⟩
  · obtain ⟨g, cap, rfl, hg, hgl⟩ := h.own.form (by omega)
    refine ⟨_, _, rfl, hn, hm, .inr ⟨g, la, lc, lb, rfl, ⟨hg, hgl⟩, hgl, h.own.frozenAt, fun i hi => ⟨(h.own.cellAt (i * 2) (by omega)).trans (h.x0 i hi), (h.own.cellAt (i * 2 + 1) (by omega)).trans (h.x1 i hi), h.os i hi, fun hl => ⟨h.ge i hi hl, fun e => h.ne i hi hl (by rw [e]; rfl)⟩⟩, h.ap⟩⟩

theorem CPx.below {wr w' : World} {B : Nat} {ss : List (Int × List Int)} {k : Nat} {v : Value} {la : Nat → Option Addr} {lc lb : Nat → Nat} {xs : List Value} (h : CPx wr B ss k v la lc lb xs) (hc : Below wr.heap.size wr w') : CPx w' B ss k v la lc lb xs :=
  ⟨owns_out h.own hc, h.x0, h.x1, fun j hj => OS.loc.below hc (h.os j hj), fun j hj hl => ⟨(h.ge j hj hl).1, by have := (h.ge j hj hl).2; have := hc.size; omega⟩, h.ne, h.ap⟩

theorem CPx.setC {wr : World} {B : Nat} {ss : List (Int × List Int)} {k : Nat} {v : Value} {la : Nat → Option Addr} {lc lb : Nat → Nat} {xs : List Value} (h : CPx wr B ss k v la lc lb xs) {P : Nat} (hP : P < B) (y : Value) : CPx (wr.setCell ⟨P, 0, none⟩ y) B ss k v la lc lb xs :=
  ⟨ownsRow_setCell_below h.own hP _, h.x0, h.x1, fun j hj => OS.loc.setC (h.os j hj) (fun e => by have := (h.ge j hj e.2).1; have := e.1; simp at this; omega) y, fun j hj hl => by simpa using h.ge j hj hl, h.ne, h.ap⟩

/-- what a round of the copy leaves. -/
def CPr (w : World) (a : Option Addr) (n ca : Nat) (ss : List (Int × List Int)) (k : Nat) (wr : World) : Prop :=
  ∃ v la lc lb xs, CPx wr (w.heap.size + 1 + 1 + 1) ss k v la lc lb xs ∧ wr.cell? ⟨w.heap.size + 1 + 1, 0, none⟩ = some v ∧ wr.frozen? ⟨w.heap.size + 1 + 1, 0, none⟩ = false ∧
    wr.cell? ⟨w.heap.size, 0, none⟩ = some (.slice a n ca) ∧ wr.cell? ⟨w.heap.size + 1, 0, none⟩ = some (.slice none 0 0) ∧ wr.frozen? ⟨w.heap.size + 1, 0, none⟩ = false ∧ Below w.heap.size w wr ∧ w.heap.size + 1 + 1 + 1 ≤ wr.heap.size

theorem CPr.step {w wr X w1 : World} {a : Option Addr} {n ca : Nat} {ss : List (Int × List Int)} {k : Nat} {v : Value} {la : Nat → Option Addr} {lc lb : Nat → Nat} {xs : List Value} (h : CPx wr (w.heap.size + 1 + 1 + 1) ss k v la lc lb xs)
    (hr : wr.cell? ⟨w.heap.size + 1 + 1, 0, none⟩ = some v ∧ wr.frozen? ⟨w.heap.size + 1 + 1, 0, none⟩ = false ∧ wr.cell? ⟨w.heap.size, 0, none⟩ = some (.slice a n ca) ∧ wr.cell? ⟨w.heap.size + 1, 0, none⟩ = some (.slice none 0 0) ∧ wr.frozen? ⟨w.heap.size + 1, 0, none⟩ = false ∧ Below w.heap.size w wr ∧ w.heap.size + 1 + 1 + 1 ≤ wr.heap.size)
    (hc : Below wr.heap.size wr X) {ra : Option Addr} {ll rc g cp : Nat} (hll : (gl ss k).length = ll) (ho : OS (InR wr.heap.size X.heap.size) ra ll (gl ss k) X) (hg : X.grownBy w1 v.ownBlock) (hat : v.ownBlock = some g ∨ g = X.heap.size)
    (hown : w1.ownsRow (w.heap.size + 1 + 1 + 1) 114 2 (.slice (some ⟨g, 0, none⟩) (k + 1) cp) (k + 1) (xs ++ [.int .i64 (gc ss k), .slice ra ll rc])) :
    CPr w a n ca ss (k + 1) (w1.setCell ⟨w.heap.size + 1 + 1, 0, none⟩ (.slice (some ⟨g, 0, none⟩) (k + 1) cp)) := by
  obtain ⟨h1, h2, h3, h4, h5, h6, h7⟩ := hr
  obtain ⟨la', lc', lb', hx⟩ := h.step h7 hc hll ho hg hat hown (P := w.heap.size + 1 + 1) (by omega) (.slice (some ⟨g, 0, none⟩) (k + 1) cp)
  have hsz := hc.size
  have hgs := hg.size
  have far : ∀ q, q < w.heap.size + 1 + 1 + 1 → w1.heap[q]? = wr.heap[q]? := fun q hq => (hg.block q (by omega) (fun e => by have := (h.own.lt q e.symm).1; omega)).trans (hc.block q (by omega))
  refine ⟨_, _, _, _, _, hx, World.cell?_setCell_same _ _ _ ((World.cell?_of_block (a := ⟨w.heap.size + 1 + 1, 0, none⟩) (far _ (by simp))).trans h1), by rw [World.frozen?_setCell]; exact (World.frozen?_of_block (a := ⟨w.heap.size + 1 + 1, 0, none⟩) (far _ (by simp))).trans h2, ?_, ?_, by rw [World.frozen?_setCell]; exact (World.frozen?_of_block (a := ⟨w.heap.size + 1, 0, none⟩) (far _ (by show w.heap.size + 1 < _; omega))).trans h5, ?_, by simp; omega⟩
  · rw [World.cell?_setCell_other _ _ _ _ (fun e => by injection e with e1 _; omega)]
    exact (World.cell?_of_block (a := ⟨w.heap.size, 0, none⟩) (far _ (by show w.heap.size < _; omega))).trans h3
  · rw [World.cell?_setCell_other _ _ _ _ (fun e => by injection e with e1 _; omega)]
    exact (World.cell?_of_block (a := ⟨w.heap.size + 1, 0, none⟩) (far _ (by show w.heap.size + 1 < _; omega))).trans h4
  · refine Below.setCell ?_ (by show w.heap.size ≤ w.heap.size + 1 + 1; omega) _
    exact (h6.trans (hc.mono h6.size)).grown hg (by have := h6.size; omega) (fun g hg' => by have := (h.own.lt g hg').1; omega)

theorem gc_set (ss : List (Int × List Int)) (q j : Nat) (x : Int × List Int) (h : q < ss.length) : gc (ss.set q x) j = if j = q then x.1 else gc ss j := by
  unfold gc
  by_cases e : j = q
  · subst e; simp [h]
  · rw [if_neg e]; simp [Ne.symm e]

theorem gl_set (ss : List (Int × List Int)) (q j : Nat) (x : Int × List Int) (h : q < ss.length) : gl (ss.set q x) j = if j = q then x.2 else gl ss j := by
  unfold gl
  by_cases e : j = q
  · subst e; simp [h]
  · rw [if_neg e]; simp [Ne.symm e]

/-- a slot meant once less. -/
def leaveX (ss : List (Int × List Int)) (q : Nat) : Int × List Int := if gc ss q = 1 then (0, []) else (gc ss q - 1, gl ss q)

def leaveS (ss : List (Int × List Int)) (q : Nat) : List (Int × List Int) := ss.set q (leaveX ss q)

theorem length_leaveS (ss : List (Int × List Int)) (q : Nat) : (leaveS ss q).length = ss.length := by simp [leaveS]

theorem leaveX_1 (ss : List (Int × List Int)) (q : Nat) : (leaveX ss q).1 = gc ss q - 1 := by
  unfold leaveX
  split
  · rename_i h; rw [h]; rfl
  · rfl

theorem leaveX_2 (ss : List (Int × List Int)) (q : Nat) : (leaveX ss q).2 = if gc ss q = 1 then [] else gl ss q := by
  unfold leaveX
  split <;> rfl

theorem gc_leave {ss : List (Int × List Int)} {q : Nat} (hq : q < ss.length) (j : Nat) : gc (leaveS ss q) j = if j = q then gc ss q - 1 else gc ss j := by
  unfold leaveS
  rw [gc_set ss q j _ hq, leaveX_1]

theorem gl_leave {ss : List (Int × List Int)} {q : Nat} (hq : q < ss.length) (j : Nat) : gl (leaveS ss q) j = if j = q then (if gc ss q = 1 then [] else gl ss q) else gl ss j := by
  unfold leaveS
  rw [gl_set ss q j _ hq, leaveX_2]

theorem good_leave {ss : List (Int × List Int)} (g : Good ss) {q : Nat} (hq : q < ss.length) (hp : 0 < gc ss q) : Good (leaveS ss q) := by
  have live : ∀ j, j < ss.length → 0 < gc (leaveS ss q) j → 0 < gc ss j ∧ gl (leaveS ss q) j = gl ss j := fun j hj h => by
    rw [gc_leave hq] at h
    rw [gl_leave hq]
    by_cases e : j = q
    · subst e
      rw [if_pos rfl] at h ⊢
      exact ⟨hp, if_neg (by omega)⟩
    · rw [if_neg e] at h ⊢
      exact ⟨h, rfl⟩
  refine ⟨by rw [length_leaveS]; exact g.few, fun j hj => ?_, fun j hj => ?_, fun j hj h0 => ?_, fun j hj h => ?_, fun i j hi hj pi pj e => ?_⟩
  · rw [length_leaveS] at hj
    rw [gc_leave hq]
    split
    · omega
    · exact g.low j hj
  · rw [length_leaveS] at hj
    rw [gc_leave hq]
    split
    · have := g.top q hq; omega
    · exact g.top j hj
  · rw [length_leaveS] at hj
    rw [gc_leave hq] at h0
    rw [gl_leave hq]
    by_cases e : j = q
    · rw [if_pos e] at h0 ⊢
      rw [if_pos (by omega)]
    · rw [if_neg e] at h0 ⊢
      exact g.empty j hj h0
  · rw [length_leaveS] at hj
    obtain ⟨h1, h2⟩ := live j hj h
    rw [h2]
    exact g.right j hj h1
  · rw [length_leaveS] at hi hj
    obtain ⟨h1, h2⟩ := live i hi pi
    obtain ⟨h3, h4⟩ := live j hj pj
    rw [h2, h4] at e
    exact g.uniq i j hi hj h1 h3 e

def lvV (ss : List (Int × List Int)) (p : Int) : Int := if atC ss p = 0 then gc ss p.toNat - 1 else 0

theorem atC_zero {ss : List (Int × List Int)} {p : Int} (good : Good ss) (h : atC ss p = 0) : ∃ q : Nat, p = (q : Int) ∧ q < ss.length ∧ 0 < gc ss q ∧ atL ss p = gl ss q ∧ lvV ss p = gc ss q - 1 := by
  have h2 := h
  unfold atC at h2
  split at h2
  · cases h2
  · split at h2
    · cases h2
    · rename_i h3 h4
      exact ⟨p.toNat, by omega, by omega, by have := good.low p.toNat (by omega); omega, if_pos h, if_pos h⟩

end Go.Proofs.YtnibngigbcakkaaGreat
