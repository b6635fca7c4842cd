import Derived.Test.YtnibngigbcakkaaGreatF31
import Derived.Test.YtnibngigbcakkaaGreatF38
import Derived.Test.YtnibngigbcakkaaGreatF18
import Derived.Test.YtnibngigbcakkaaGreatF35
import Derived.Test.YtnibngigbcakkaaGreatF30
import Derived.Test.YtnibngigbcakkaaGreatF28
import Derived.Test.YtnibngigbcakkaaGreatF20
import Derived.WalkKit
import Derived.ProofKit
import Derived.OpenShut
import Derived.ShutString
import Derived.ChangeOld
import Derived.Below
import Derived.WalkSpells
import Derived.Deep.QuietTactic
import Derived.BigQuiet
import Derived.Deep.RegionWith
import Derived.Deep.WholeRow
import Derived.Deep.DeepCutAuto
import Derived.Deep.RegionHeld2
import Derived.Deep.AppendLies
import Derived.Deep.RegionLaw
namespace Go.Proofs.YtnibngigbcakkaaGreat
open Go.ChangeShapes Go.WideShapes Go.ChangeAt Go.RowKit

theorem pick3R {x y z : Int} {j : Nat} (hj : j < 3) (hx : 0 ≤ x ∧ x ≤ 5) (hy : 0 ≤ y ∧ y ≤ 5) (hz : 0 ≤ z ∧ z ≤ 5) : 0 ≤ gt [x, y, z] j ∧ gt [x, y, z] j ≤ 5 := by
  rcases (by omega : j = 0 ∨ j = 1 ∨ j = 2) with rfl | rfl | rfl
  · exact hx
  · exact hy
  · exact hz

theorem lit3s {wr : World} {t : TypeId} {x y z : Int} : ∀ i, i < 3 → (wr.alloc (.cells #[.int .i64 x, .int .i64 y, .int .i64 z] t)).cell? ⟨wr.heap.size, i, none⟩ = some (.int .i64 (gt [x, y, z] i)) := by
  intro i hi
  rw [World.cell?_alloc_new]
  rcases (by omega : i = 0 ∨ i = 1 ∨ i = 2) with rfl | rfl | rfl <;> rfl

theorem blk_lit4 (U : World) (x y z u : Int) (t : TypeId) : Blk (U.alloc (.cells #[.int .i64 x, .int .i64 y, .int .i64 z, .int .i64 u] t)) U.heap.size [x, y, z, u] := by
  refine ⟨by simp, fun i hi => ?_, fun i => by simp⟩
  simp at hi
  rw [World.cell?_alloc_new]
  rcases (by omega : i = 0 ∨ i = 1 ∨ i = 2 ∨ i = 3) with rfl | rfl | rfl | rfl <;> rfl

theorem fault4 {x y z u : Int} (hx : 0 ≤ x ∧ x ≤ 5) (hy : 0 ≤ y ∧ y ≤ 5) (hz : 0 ≤ z ∧ z ≤ 5) (hu : 0 ≤ u ∧ u ≤ 5) : fault [x, y, z, u] = 0 := by
  simp [fault, okI]
  omega

/-- what l3Some gives: a right label. -/
def DrewSo (p : Nat) (a : Option Addr) (len cap t : Nat) (w : World) (e : Ending) (w' : World) : Prop :=
  ∃ (ra : Option Addr) (rc : Nat) (zs : List Int) (t' : Nat), e = .returned (.agg #[.slice ra 4 rc]) ∧ OSl w' w.heap.size w'.heap.size ra 4 zs ∧ fault zs = 0 ∧ Src w' p a len cap t' ∧ t' ≤ t + 3 ∧ Outside p (p + 1) w w'

set_option maxRecDepth 100000 in
set_option maxHeartbeats 4000000 in
theorem l3Some_calls (p : Nat) (a : Option Addr) (len cap t : Nat) (st : Bool) (w : World) (ht : t ≤ 990000) (hs : Src w p a len cap t) :
    Calls Tryz.prog 44 #[.pointer (some ⟨p, 0, none⟩), .bool st] w (DrewSo p a len cap t w) := by
  have hp : p < w.heap.size := hs.1
  have M0 := (Mo.start p w).alloc1 hp (.slice none 0 0) 84
  have al0 := (((Below.refl w.heap.size w).alloc (Nat.le_refl _) (.cells #[.slice none 0 0] 84)).alloc (by simp) (.cells #[.int .i64 2, .int .i64 2, .int .i64 4] 2))
  have s0 := hs.below al0
  have M0' := M0.below ((Below.refl _ _).alloc (Nat.le_refl _) (.cells #[.int .i64 2, .int .i64 2, .int .i64 4] 2))
  have l0 := @lit3s (w.alloc (.cells #[.slice none 0 0] 84)) 2 2 2 4
  simp only [World.size_alloc] at l0
  clear M0 al0
  go_enter Tryz.func44, Tryz.ntmps44
  go_wp2_with fail
  refine (l1PickM_calls p a len cap t (w.heap.size + 1) 3 3 [2, 2, 4] _ (by omega) (by omega) (by omega) s0 (by omega) (by simp) rfl l0).mono ?_
  rintro e w1 ⟨j, hj, rfl, s1, o1⟩
  have hx := pick3R (x := 2) (y := 2) (z := 4) hj (by omega) (by omega) (by omega)
  generalize gt [2, 2, 4] j = x at hx
  have M1 := M0'.next o1
  have hp1 := s1.1
  have al1 := (Below.refl w1.heap.size w1).alloc (Nat.le_refl _) (.cells #[.int .i64 2, .int .i64 2, .int .i64 3] 2)
  have s1' := s1.below al1
  have M1' := M1.below al1
  clear M0' s0 l0 o1 s1 M1 al1
  go_wp2_with fail
  refine (l1PickM_calls p a len cap (t + 1) w1.heap.size 3 3 [2, 2, 3] _ (by omega) (by omega) (by omega) s1' hp1 (by simp) rfl lit3s).mono ?_
  rintro e w2 ⟨j2, hj2, rfl, s2, o2⟩
  have hy := pick3R (x := 2) (y := 2) (z := 3) hj2 (by omega) (by omega) (by omega)
  generalize gt [2, 2, 3] j2 = y at hy
  have M2 := M1'.next o2
  have z2 := o2.size
  simp only [World.size_alloc] at z2
  have hR := M2.lt 0 rfl
  have blk := blk_lit4 w2 x y 2 2 2
  have al2 := (((Below.refl w2.heap.size w2).alloc (Nat.le_refl _) (.cells #[.int .i64 x, .int .i64 y, .int .i64 2, .int .i64 2] 2)).alloc (by simp) (.cells #[.slice (some ⟨w2.heap.size, 0, none⟩) 4 4] 84))
  have blk' := blk.below ((Below.refl _ _).alloc (Nat.le_refl _) (.cells #[.slice (some ⟨w2.heap.size, 0, none⟩) 4 4] 84))
  have s2' := s2.below al2
  have M2' := M2.below al2
  obtain ⟨X, hX⟩ : ∃ X : World, X = ((w2.alloc (.cells #[.int .i64 x, .int .i64 y, .int .i64 2, .int .i64 2] 2)).alloc (.cells #[.slice (some ⟨w2.heap.size, 0, none⟩) 4 4] 84)) := ⟨_, rfl⟩
  have v0 : X.cell? ⟨w2.heap.size + 1, 0, none⟩ = some (.slice (some ⟨w2.heap.size, 0, none⟩) 4 4) := by rw [hX]; go_simp
  have hXz : X.heap.size = w2.heap.size + 1 + 1 := by rw [hX]; simp
  rw [← hX] at blk' s2' M2'
  have HX := hide hX
  clear M1' s1' o2 M2 s2 al2 blk hX
  cases st with
  | false =>
    have d0 := M2'.cell 0 rfl
    have e0 := M2'.fz 0 rfl
    have HO := hide M2'.out
    have HK := hide blk'
    have HS := hide s2'
    clear M2' s2' blk'
    go_upto_region 2 with fail
    rw [← HX.out]
    go_wp2
    exact bodyPost_ret (v := .agg #[.slice (some ⟨w2.heap.size, 0, none⟩) 4 4]) (by simp [results, Tryz.results44, go_sem, d0]) rfl ⟨_, _, [x, y, 2, 2], t + 1 + 1, rfl, OSl.ofBlk (HK.out.setCell (by simp; omega) _) (by omega) rfl (by omega), fault4 hx hy (by omega) (by omega), HS.out.setCell (by exact hp) _, by omega, HO.out.setNew (Nat.le_refl _) _⟩
  | true =>
    go_upto_region 2 with fail
    rw [← HX.out]
    go_wp2_with fail
    refine (l1Chance_calls p a len cap (t + 1 + 1) 4 _ (by omega) (by omega) (by omega) s2').mono ?_
    rintro e w3 ⟨ch, rfl, s3, o3⟩
    have M3 := M2'.next o3
    have blk3 := blk'.outside o3 (by omega)
    have v3 := o3.cell (q := ⟨w2.heap.size + 1, 0, none⟩) (by show w2.heap.size + 1 < _; omega) (by show p + 1 ≤ w2.heap.size + 1; omega) v0
    have d0 := M3.cell 0 rfl
    have e0 := M3.fz 0 rfl
    have b0 : w3.cell? ⟨w2.heap.size, 0, none⟩ = some (.int .i64 x) := blk3.2.1 0 (by simp)
    have bf := blk3.2.2 0
    have HO := hide M3.out
    have HK := hide blk3
    have HS := hide s3
    have z3 := o3.size
    have hV : w2.heap.size ≠ w2.heap.size + 1 := by omega
    have hR2 : w2.heap.size ≠ w.heap.size := by omega
    clear M2' s2' blk' v0 M3 o3 blk3 s3 HX
    cases ch with
    | false =>
      go_wp2
      exact bodyPost_ret (v := .agg #[.slice (some ⟨w2.heap.size, 0, none⟩) 4 4]) (by simp [results, Tryz.results44, go_sem, d0]) rfl ⟨_, _, [x, y, 2, 2], _, rfl, OSl.ofBlk (HK.out.setCell (by simp; omega) _) (by omega) rfl (by omega), fault4 hx hy (by omega) (by omega), HS.out.setCell (by exact hp) _, by omega, HO.out.setNew (Nat.le_refl _) _⟩
    | true =>
      have xu : (w3.setCell ⟨w2.heap.size, 0, none⟩ (.int .i64 0)).cell? ⟨w2.heap.size + 1, 0, none⟩ = some (.slice (some ⟨w2.heap.size, 0, none⟩) 4 4) := by
        rw [World.cell?_setCell_other _ _ _ _ (fun e => hV (by injection e with e1))]; exact v3
      have ru : (w3.setCell ⟨w2.heap.size, 0, none⟩ (.int .i64 0)).cell? ⟨w.heap.size, 0, none⟩ = some (.slice none 0 0) := by
        rw [World.cell?_setCell_other _ _ _ _ (fun e => hR2 (by injection e with e1))]; exact d0
      have HK2 := hide (Blk.store (x := 0) HK.out (show 0 < [x, y, 2, 2].length by simp))
      have HS2 := hide (HS.out.setCell (q := ⟨w2.heap.size, 0, none⟩) (by show p < w2.heap.size; omega) (.int .i64 0))
      have HO2 := hide (HO.out.setNew (q := ⟨w2.heap.size, 0, none⟩) (by show w.heap.size ≤ w2.heap.size; omega) (.int .i64 0))
      go_wp2
      exact bodyPost_ret (v := .agg #[.slice (some ⟨w2.heap.size, 0, none⟩) 4 4]) (by simp [results, Tryz.results44, go_sem, ru]) rfl ⟨_, _, [0, y, 2, 2], _, rfl, OSl.ofBlk (HK2.out.setCell (by simp; omega) _) (by omega) rfl (by omega), fault4 (by omega) hy (by omega) (by omega), HS2.out.setCell (by exact hp) _, by omega, HO2.out.setNew (Nat.le_refl _) _⟩

theorem set5_at0 (X : World) (P : Nat) (v0 v1 v2 v3 v4 : Value) (h : ∃ u, X.cell? ⟨P, 0, none⟩ = some u) : (((((X.setCell ⟨P, 0, none⟩ v0).setCell ⟨P, 1, none⟩ v1).setCell ⟨P, 2, none⟩ v2).setCell ⟨P, 3, none⟩ v3).setCell ⟨P, 4, none⟩ v4).cell? ⟨P, 0, none⟩ = some v0 := by
  obtain ⟨u, h⟩ := h
  rw [World.cell?_setCell_other _ _ _ _ (fun e => by injection e with _ e2; omega)]
  rw [World.cell?_setCell_other _ _ _ _ (fun e => by injection e with _ e2; omega)]
  rw [World.cell?_setCell_other _ _ _ _ (fun e => by injection e with _ e2; omega)]
  rw [World.cell?_setCell_other _ _ _ _ (fun e => by injection e with _ e2; omega)]
  exact World.cell?_setCell_same _ _ _ h

theorem set5_at2 (X : World) (P : Nat) (v0 v1 v2 v3 v4 : Value) (h : ∃ u, X.cell? ⟨P, 2, none⟩ = some u) : (((((X.setCell ⟨P, 0, none⟩ v0).setCell ⟨P, 1, none⟩ v1).setCell ⟨P, 2, none⟩ v2).setCell ⟨P, 3, none⟩ v3).setCell ⟨P, 4, none⟩ v4).cell? ⟨P, 2, none⟩ = some v2 := by
  obtain ⟨u, h⟩ := h
  rw [World.cell?_setCell_other _ _ _ _ (fun e => by injection e with _ e2; omega)]
  rw [World.cell?_setCell_other _ _ _ _ (fun e => by injection e with _ e2; omega)]
  exact World.cell?_setCell_same _ _ _ ((World.cell?_setCell_other _ _ _ _ (fun e => by injection e with _ e2; omega)).trans ((World.cell?_setCell_other _ _ _ _ (fun e => by injection e with _ e2; omega)).trans h))

theorem set5_at3 (X : World) (P : Nat) (v0 v1 v2 v3 v4 : Value) (h : ∃ u, X.cell? ⟨P, 3, none⟩ = some u) : (((((X.setCell ⟨P, 0, none⟩ v0).setCell ⟨P, 1, none⟩ v1).setCell ⟨P, 2, none⟩ v2).setCell ⟨P, 3, none⟩ v3).setCell ⟨P, 4, none⟩ v4).cell? ⟨P, 3, none⟩ = some v3 := by
  obtain ⟨u, h⟩ := h
  rw [World.cell?_setCell_other _ _ _ _ (fun e => by injection e with _ e2; omega)]
  exact World.cell?_setCell_same _ _ _ ((World.cell?_setCell_other _ _ _ _ (fun e => by injection e with _ e2; omega)).trans ((World.cell?_setCell_other _ _ _ _ (fun e => by injection e with _ e2; omega)).trans ((World.cell?_setCell_other _ _ _ _ (fun e => by injection e with _ e2; omega)).trans h)))

theorem set5_at4 (X : World) (P : Nat) (v0 v1 v2 v3 v4 : Value) (h : ∃ u, X.cell? ⟨P, 4, none⟩ = some u) : (((((X.setCell ⟨P, 0, none⟩ v0).setCell ⟨P, 1, none⟩ v1).setCell ⟨P, 2, none⟩ v2).setCell ⟨P, 3, none⟩ v3).setCell ⟨P, 4, none⟩ v4).cell? ⟨P, 4, none⟩ = some v4 := by
  obtain ⟨u, h⟩ := h
  exact World.cell?_setCell_same _ _ _ ((World.cell?_setCell_other _ _ _ _ (fun e => by injection e with _ e2; omega)).trans ((World.cell?_setCell_other _ _ _ _ (fun e => by injection e with _ e2; omega)).trans ((World.cell?_setCell_other _ _ _ _ (fun e => by injection e with _ e2; omega)).trans ((World.cell?_setCell_other _ _ _ _ (fun e => by injection e with _ e2; omega)).trans h))))

/-- the cells of a block, from the first on. -/
def Cs (P : Nat) (vs : List Value) (w : World) : Prop := P < w.heap.size ∧ ∀ i, i < vs.length → w.cell? ⟨P, i, none⟩ = some (vs.getD i undef) ∧ w.frozen? ⟨P, i, none⟩ = false

theorem Cs.loc {P : Nat} {vs : List Value} : Loc (InR P (P + 1)) (Cs P vs) := fun w w' hk h => by
  have e := hk P ⟨Nat.le_refl _, by omega⟩ h.1
  have hN' : P < w'.heap.size := by
    have h1 := h.1
    rw [Array.getElem?_eq_getElem h1] at e
    exact (Array.getElem?_eq_some_iff.1 e).1
  exact ⟨hN', fun i hi => ⟨(World.cell?_of_block (a := ⟨P, i, none⟩) e).trans (h.2 i hi).1, (World.frozen?_of_block (a := ⟨P, i, none⟩) e).trans (h.2 i hi).2⟩⟩

theorem Cs.cell {P : Nat} {vs : List Value} {w : World} (h : Cs P vs w) (i : Nat) {v : Value} (hv : vs[i]? = some v) : w.cell? ⟨P, i, none⟩ = some v := by
  obtain ⟨hi, e⟩ := List.getElem?_eq_some_iff.1 hv
  rw [(h.2 i hi).1]
  simp [hi, e]

theorem Cs.fz {P : Nat} {vs : List Value} {w : World} (h : Cs P vs w) (i : Nat) (hi : i < vs.length) : w.frozen? ⟨P, i, none⟩ = false := (h.2 i hi).2

theorem Cs.set {P : Nat} {vs : List Value} {w : World} (h : Cs P vs w) (i : Nat) (hi : i < vs.length) (v : Value) : Cs P (vs.set i v) (w.setCell ⟨P, i, none⟩ v) := by
  refine ⟨by simpa using h.1, fun j hj => ?_⟩
  rw [List.length_set] at hj
  refine ⟨?_, by simpa using (h.2 j hj).2⟩
  by_cases e : j = i
  · subst e
    rw [World.cell?_setCell_same _ _ _ (h.2 j hj).1]
    simp [hj]
  · rw [World.cell?_setCell_other _ _ _ _ (fun h => by injection h with _ h2; exact e h2.symm), (h.2 j hj).1]
    simp [Ne.symm e]

theorem Cs.alloc (w : World) (vs : List Value) (t : TypeId) : Cs w.heap.size vs (w.alloc (.cells vs.toArray t)) :=
  ⟨by simp, fun i hi => ⟨by rw [World.cell?_alloc_new]; simp [hi], by simp⟩⟩

theorem OTW.rt {S : Nat → Prop} {a : Option Addr} {n : Nat} {ss : List (Int × List Int)} {ta : Option Addr} {tn tc : Nat} {ts : List Int} {da : Option Addr} {dn : Nat} {ds : List Int} {w : World} (h : OTW S a n ss ta tn tc ts da dn ds w) : RT w a n ss ta tn ts da dn ds := by
  obtain ⟨S1, S2, S3, _, _, _, _, _, _, o1, o2, o3⟩ := h
  have h1 := o1.2.1
  have h2 := o2.1.2.1
  have h3 := o3.2.1
  exact ⟨by unfold maxLen; omega, o1.sls, by unfold maxLen; omega, o2.1.sl, by unfold maxLen; omega, o3.sl⟩

theorem OTW.keep {S : Nat → Prop} {a : Option Addr} {n : Nat} {ss : List (Int × List Int)} {ta : Option Addr} {tn tc : Nat} {ts : List Int} {da : Option Addr} {dn : Nat} {ds : List Int} {w w' : World} (h : OTW S a n ss ta tn tc ts da dn ds w) (hk : ∀ k, S k → k < w.heap.size → w'.heap[k]? = w.heap[k]?) : OTW S a n ss ta tn tc ts da dn ds w' := by
  obtain ⟨S1, S2, S3, h1, h2, h3, d12, d13, d23, o1, o2, o3⟩ := h
  exact ⟨S1, S2, S3, h1, h2, h3, d12, d13, d23, OR.loc w w' (fun k hk1 hl => hk k (h1 k hk1) hl) o1, RW.loc w w' (fun k hk1 hl => hk k (h2 k hk1) hl) o2, OS.loc w w' (fun k hk1 hl => hk k (h3 k hk1) hl) o3⟩

theorem OTW.mono {S S' : Nat → Prop} {a : Option Addr} {n : Nat} {ss : List (Int × List Int)} {ta : Option Addr} {tn tc : Nat} {ts : List Int} {da : Option Addr} {dn : Nat} {ds : List Int} {w : World} (h : OTW S a n ss ta tn tc ts da dn ds w) (hs : ∀ k, S k → S' k) : OTW S' a n ss ta tn tc ts da dn ds w := by
  obtain ⟨S1, S2, S3, h1, h2, h3, r⟩ := h
  exact ⟨S1, S2, S3, fun k h => hs k (h1 k h), fun k h => hs k (h2 k h), fun k h => hs k (h3 k h), r⟩

/-- a variable of tables at block q; what it holds lies behind q. -/
structure TV (q : Nat) (a : Option Addr) (n c : Nat) (ss : List (Int × List Int)) (ta : Option Addr) (tn tc : Nat) (ts : List Int) (da : Option Addr) (dn dc : Nat) (ds : List Int) (X : World) : Prop where
  c0 : X.cell? ⟨q, 0, none⟩ = some (.slice a n c)
  c1 : X.cell? ⟨q, 1, none⟩ = some (.slice ta tn tc)
  c2 : X.cell? ⟨q, 2, none⟩ = some (.slice da dn dc)
  f : ∀ j, X.frozen? ⟨q, j, none⟩ = false
  o : OTW (InR (q + 1) X.heap.size) a n ss ta tn tc ts da dn ds X
  lt : q < X.heap.size

theorem TV.keep {q : Nat} {a : Option Addr} {n c : Nat} {ss : List (Int × List Int)} {ta : Option Addr} {tn tc : Nat} {ts : List Int} {da : Option Addr} {dn dc : Nat} {ds : List Int} {X Y : World} (h : TV q a n c ss ta tn tc ts da dn dc ds X) (hz : X.heap.size ≤ Y.heap.size) (hk : ∀ k, q ≤ k → k < X.heap.size → Y.heap[k]? = X.heap[k]?) : TV q a n c ss ta tn tc ts da dn dc ds Y := by
  have hq := hk q (Nat.le_refl _) h.lt
  exact ⟨(World.cell?_of_block (a := ⟨q, 0, none⟩) hq).trans h.c0, (World.cell?_of_block (a := ⟨q, 1, none⟩) hq).trans h.c1, (World.cell?_of_block (a := ⟨q, 2, none⟩) hq).trans h.c2, fun j => (World.frozen?_of_block (a := ⟨q, j, none⟩) hq).trans (h.f j), (h.o.keep (fun k hS hl => hk k (by have := hS.1; omega) hl)).mono (fun k hS => ⟨hS.1, by have := hS.2; omega⟩), by have := h.lt; omega⟩

theorem TV.below {q : Nat} {a : Option Addr} {n c : Nat} {ss : List (Int × List Int)} {ta : Option Addr} {tn tc : Nat} {ts : List Int} {da : Option Addr} {dn dc : Nat} {ds : List Int} {X Y : World} (h : TV q a n c ss ta tn tc ts da dn dc ds X) (hb : Below X.heap.size X Y) : TV q a n c ss ta tn tc ts da dn dc ds Y := h.keep hb.size (fun k _ hk => hb.block k hk)

theorem TV.outside {q p : Nat} {a : Option Addr} {n c : Nat} {ss : List (Int × List Int)} {ta : Option Addr} {tn tc : Nat} {ts : List Int} {da : Option Addr} {dn dc : Nat} {ds : List Int} {X Y : World} (h : TV q a n c ss ta tn tc ts da dn dc ds X) (ho : Outside p (p + 1) X Y) (hp : p < q) : TV q a n c ss ta tn tc ts da dn dc ds Y := h.keep ho.size (fun k hq hk => ho.block k hk (.inr (by omega)))

theorem TV.new (X : World) (t : TypeId) : TV X.heap.size none 0 0 [] none 0 0 [] none 0 0 [] (X.alloc (.cells #[.slice none 0 0, .slice none 0 0, .slice none 0 0] t)) :=
  ⟨by simp, by simp, by simp, fun j => by simp, OTW.nil _ _, by simp⟩

/-- as TV, but what it holds lies before T. -/
structure TW (q T : Nat) (a : Option Addr) (n c : Nat) (ss : List (Int × List Int)) (ta : Option Addr) (tn tc : Nat) (ts : List Int) (da : Option Addr) (dn dc : Nat) (ds : List Int) (X : World) : Prop where
  c0 : X.cell? ⟨q, 0, none⟩ = some (.slice a n c)
  c1 : X.cell? ⟨q, 1, none⟩ = some (.slice ta tn tc)
  c2 : X.cell? ⟨q, 2, none⟩ = some (.slice da dn dc)
  f : ∀ j, X.frozen? ⟨q, j, none⟩ = false
  o : OTW (InR (q + 1) T) a n ss ta tn tc ts da dn ds X
  lt : q < T
  le : T ≤ X.heap.size

theorem TV.tw {q : Nat} {a : Option Addr} {n c : Nat} {ss : List (Int × List Int)} {ta : Option Addr} {tn tc : Nat} {ts : List Int} {da : Option Addr} {dn dc : Nat} {ds : List Int} {X : World} (h : TV q a n c ss ta tn tc ts da dn dc ds X) : TW q X.heap.size a n c ss ta tn tc ts da dn dc ds X := ⟨h.c0, h.c1, h.c2, h.f, h.o, h.lt, Nat.le_refl _⟩

theorem TW.tv {q T : Nat} {a : Option Addr} {n c : Nat} {ss : List (Int × List Int)} {ta : Option Addr} {tn tc : Nat} {ts : List Int} {da : Option Addr} {dn dc : Nat} {ds : List Int} {X : World} (h : TW q T a n c ss ta tn tc ts da dn dc ds X) : TV q a n c ss ta tn tc ts da dn dc ds X := ⟨h.c0, h.c1, h.c2, h.f, h.o.mono (fun _ hk => ⟨hk.1, Nat.lt_of_lt_of_le hk.2 h.le⟩), Nat.lt_of_lt_of_le h.lt h.le⟩

theorem TW.keep {q T : Nat} {a : Option Addr} {n c : Nat} {ss : List (Int × List Int)} {ta : Option Addr} {tn tc : Nat} {ts : List Int} {da : Option Addr} {dn dc : Nat} {ds : List Int} {X Y : World} (h : TW q T a n c ss ta tn tc ts da dn dc ds X) (hz : X.heap.size ≤ Y.heap.size) (hk : ∀ k, q ≤ k → k < T → Y.heap[k]? = X.heap[k]?) : TW q T a n c ss ta tn tc ts da dn dc ds Y := by
  have hq := hk q (Nat.le_refl _) h.lt
  exact ⟨(World.cell?_of_block (a := ⟨q, 0, none⟩) hq).trans h.c0, (World.cell?_of_block (a := ⟨q, 1, none⟩) hq).trans h.c1, (World.cell?_of_block (a := ⟨q, 2, none⟩) hq).trans h.c2, fun j => (World.frozen?_of_block (a := ⟨q, j, none⟩) hq).trans (h.f j), h.o.keep (fun k hS _ => hk k (by have := hS.1; omega) hS.2), h.lt, Nat.le_trans h.le hz⟩

theorem TW.below {q T : Nat} {a : Option Addr} {n c : Nat} {ss : List (Int × List Int)} {ta : Option Addr} {tn tc : Nat} {ts : List Int} {da : Option Addr} {dn dc : Nat} {ds : List Int} {X Y : World} (h : TW q T a n c ss ta tn tc ts da dn dc ds X) (hb : Below X.heap.size X Y) : TW q T a n c ss ta tn tc ts da dn dc ds Y := h.keep hb.size (fun k _ hk => hb.block k (Nat.lt_of_lt_of_le hk h.le))

theorem TW.outside {q T p : Nat} {a : Option Addr} {n c : Nat} {ss : List (Int × List Int)} {ta : Option Addr} {tn tc : Nat} {ts : List Int} {da : Option Addr} {dn dc : Nat} {ds : List Int} {X Y : World} (h : TW q T a n c ss ta tn tc ts da dn dc ds X) (ho : Outside p (p + 1) X Y) (hp : p < q) : TW q T a n c ss ta tn tc ts da dn dc ds Y := h.keep ho.size (fun k hq hk => ho.block k (Nat.lt_of_lt_of_le hk h.le) (.inr (by omega)))

theorem heap_set5 (X : World) (B : Nat) (v0 v1 v2 v3 v4 : Value) (k : Nat) (hk : k ≠ B) : (((((X.setCell ⟨B, 0, none⟩ v0).setCell ⟨B, 1, none⟩ v1).setCell ⟨B, 2, none⟩ v2).setCell ⟨B, 3, none⟩ v3).setCell ⟨B, 4, none⟩ v4).heap[k]? = X.heap[k]? := by
  rw [Below.heap_setCell _ _ _ _ (by simpa using hk), Below.heap_setCell _ _ _ _ (by simpa using hk), Below.heap_setCell _ _ _ _ (by simpa using hk), Below.heap_setCell _ _ _ _ (by simpa using hk), Below.heap_setCell _ _ _ _ (by simpa using hk)]

theorem TW.set5 {q T B : Nat} {a : Option Addr} {n c : Nat} {ss : List (Int × List Int)} {ta : Option Addr} {tn tc : Nat} {ts : List Int} {da : Option Addr} {dn dc : Nat} {ds : List Int} {X : World} (h : TW q T a n c ss ta tn tc ts da dn dc ds X) (hB : T ≤ B) (v0 v1 v2 v3 v4 : Value) : TW q T a n c ss ta tn tc ts da dn dc ds (((((X.setCell ⟨B, 0, none⟩ v0).setCell ⟨B, 1, none⟩ v1).setCell ⟨B, 2, none⟩ v2).setCell ⟨B, 3, none⟩ v3).setCell ⟨B, 4, none⟩ v4) :=
  h.keep (by simp) (fun k _ hk => heap_set5 X B v0 v1 v2 v3 v4 k (by omega))

theorem OTW.set5 {S S' : Nat → Prop} {B : Nat} {a : Option Addr} {n : Nat} {ss : List (Int × List Int)} {ta : Option Addr} {tn tc : Nat} {ts : List Int} {da : Option Addr} {dn : Nat} {ds : List Int} {X : World} (h : OTW S a n ss ta tn tc ts da dn ds X) (hB : ∀ k, S k → k ≠ B) (hs : ∀ k, S k → S' k) (v0 v1 v2 v3 v4 : Value) : OTW S' a n ss ta tn tc ts da dn ds (((((X.setCell ⟨B, 0, none⟩ v0).setCell ⟨B, 1, none⟩ v1).setCell ⟨B, 2, none⟩ v2).setCell ⟨B, 3, none⟩ v3).setCell ⟨B, 4, none⟩ v4) :=
  (h.keep (fun k hS _ => heap_set5 X B v0 v1 v2 v3 v4 k (hB k hS))).mono hs

theorem OTW.allocW {B B' T : Nat} {a : Option Addr} {n : Nat} {ss : List (Int × List Int)} {ta : Option Addr} {tn tc : Nat} {ts : List Int} {da : Option Addr} {dn : Nat} {ds : List Int} {X : World} (h : OTW (InR B' T) a n ss ta tn tc ts da dn ds X) (hB : B ≤ B') (hT : T ≤ X.heap.size) (o : Obj) : OTW (InR B (X.alloc o).heap.size) a n ss ta tn tc ts da dn ds (X.alloc o) :=
  (h.keep (fun k _ hl => ((Below.refl _ _).alloc (Nat.le_refl _) o).block k hl)).mono (fun k hk => ⟨by have := hk.1; omega, by have := hk.2; simp; omega⟩)

theorem OTW.set5W {B B' T P : Nat} {a : Option Addr} {n : Nat} {ss : List (Int × List Int)} {ta : Option Addr} {tn tc : Nat} {ts : List Int} {da : Option Addr} {dn : Nat} {ds : List Int} {X : World} (h : OTW (InR B' T) a n ss ta tn tc ts da dn ds X) (hB : B ≤ B') (hT : T ≤ X.heap.size) (hP : P < B') (v0 v1 v2 v3 v4 : Value) :
    OTW (InR B (((((X.setCell ⟨P, 0, none⟩ v0).setCell ⟨P, 1, none⟩ v1).setCell ⟨P, 2, none⟩ v2).setCell ⟨P, 3, none⟩ v3).setCell ⟨P, 4, none⟩ v4).heap.size) a n ss ta tn tc ts da dn ds (((((X.setCell ⟨P, 0, none⟩ v0).setCell ⟨P, 1, none⟩ v1).setCell ⟨P, 2, none⟩ v2).setCell ⟨P, 3, none⟩ v3).setCell ⟨P, 4, none⟩ v4) :=
  OTW.set5 h (fun k hk => by have := hk.1; omega) (fun k hk => ⟨by have := hk.1; omega, by have := hk.2; simp; omega⟩) v0 v1 v2 v3 v4

/-- a cell that is none of the bundle's, nor older, is written. -/
theorem Mo.off {p : Nat} {w u : World} {cs : List (Nat × Nat × Value)} {fs : List (Nat × Nat × (World → Prop))} (h : Mo p w u cs fs) {P o : Nat} (hb : w.heap.size ≤ P) (hc : ∀ c ∈ cs, c.1 ≠ P) (hf : ∀ f ∈ fs, P < f.1 ∨ f.2.1 ≤ P) (v : Value) : Mo p w (u.setCell ⟨P, o, none⟩ v) cs fs := by
  refine ⟨h.out.setNew hb v, fun c k => ?_, fun f k => ?_⟩
  · obtain ⟨h1, h2, h3, h4⟩ := h.cells c k
    refine ⟨h1, by simpa using h2, ?_, by simpa using h4⟩
    rw [World.cell?_setCell_other _ _ _ _ (fun e => by injection e with e1 e2; exact hc c k e1.symm)]
    exact h3
  · obtain ⟨h1, h2, h3⟩ := h.facts f k
    refine ⟨h1, h2, h2.setC h3 (fun e => ?_) v⟩
    have a1 := e.1
    have a2 := e.2
    have := hf f k
    simp only at a1 a2
    omega

/-- right tables, as one fact. -/
structure Tb (ss : List (Int × List Int)) (ts ds : List Int) : Prop where
  good : Good ss
  nt : ts.length ≤ 6
  nd : ds.length ≤ 4
  tg : ∀ s ∈ ts, ∃ q : Nat, s = (q : Int) ∧ q < ss.length ∧ 0 < gc ss q ∧ thing0 (gl ss q) = true
  dm : ∀ s ∈ ds, ∃ q : Nat, s = (q : Int) ∧ q < ss.length ∧ 0 < gc ss q ∧ lowB (gl ss q) = true
  cn : ∀ i, i < ss.length → gc ss i = cnt ts i + cnt ds i

theorem atL_at {ss : List (Int × List Int)} {q : Nat} (hq : q < ss.length) (hp : 0 < gc ss q) : atC ss (q : Int) = 0 ∧ atL ss (q : Int) = gl ss q := by
  have h1 : atC ss (q : Int) = 0 := by rw [atC_in hq, if_neg (by omega)]
  exact ⟨h1, by unfold atL; rw [if_pos h1]; rfl⟩

theorem thing_of {zs : List Int} (h : fault zs = 0) : thingB zs = thing0 zs := by simp [thingB, thing0, h]

theorem slot_of {ss : List (Int × List Int)} (g : Good ss) {s : Int} (h : okS ss s = true) : ∃ q : Nat, s = (q : Int) ∧ q < ss.length ∧ 0 < gc ss q := by
  have h1 : atC ss s = 0 := of_decide_eq_true h
  obtain ⟨q, e, hq, hp, _⟩ := atC_zero g h1
  exact ⟨q, e, hq, hp⟩

theorem tb_of {ss : List (Int × List Int)} {ts ds : List Int} (h : tabF ss ts ds = 0) : Tb ss ts ds := by
  obtain ⟨hr, hm, a1, a2, t1, l1, hc⟩ := tabF_zero h
  have g := good_of hr
  obtain ⟨n1, n2⟩ := many_len hm
  refine ⟨g, n1, n2, fun s hs => ?_, fun s hs => ?_, fun i hi => ?_⟩
  · obtain ⟨q, e, hq, hp⟩ := slot_of g (List.all_eq_true.1 a1 s hs)
    have h1 := List.all_eq_true.1 t1 (atL ss s) (List.mem_map_of_mem hs)
    rw [e, (atL_at hq hp).2, thing_of (g.right q hq hp)] at h1
    exact ⟨q, e, hq, hp, h1⟩
  · obtain ⟨q, e, hq, hp⟩ := slot_of g (List.all_eq_true.1 a2 s hs)
    have h1 := List.all_eq_true.1 l1 (atL ss s) (List.mem_map_of_mem hs)
    rw [e, (atL_at hq hp).2] at h1
    exact ⟨q, e, hq, hp, h1⟩
  · unfold cntB at hc
    exact of_decide_eq_true (List.all_eq_true.1 hc i (List.mem_range.2 hi))

theorem Tb.tab {ss : List (Int × List Int)} {ts ds : List Int} (h : Tb ss ts ds) : tabF ss ts ds = 0 := by
  have hr := fault_of_good h.good
  have hm : manyB ts ds = false := by have := h.nt; have := h.nd; simp [manyB]; omega
  have a1 : allS ss ts = true := List.all_eq_true.2 fun s hs => by
    obtain ⟨q, e, hq, hp, _⟩ := h.tg s hs
    rw [e]; exact decide_eq_true (atL_at hq hp).1
  have a2 : allS ss ds = true := List.all_eq_true.2 fun s hs => by
    obtain ⟨q, e, hq, hp, _⟩ := h.dm s hs
    rw [e]; exact decide_eq_true (atL_at hq hp).1
  have t1 : thingsB (labs ss ts) = true := List.all_eq_true.2 fun z hz => by
    obtain ⟨s, hs, rfl⟩ := List.mem_map.1 hz
    obtain ⟨q, e, hq, hp, ht⟩ := h.tg s hs
    rw [e, (atL_at hq hp).2, thing_of (h.good.right q hq hp)]; exact ht
  have l1 : lowsB (labs ss ds) = true := List.all_eq_true.2 fun z hz => by
    obtain ⟨s, hs, rfl⟩ := List.mem_map.1 hz
    obtain ⟨q, e, hq, hp, ht⟩ := h.dm s hs
    rw [e, (atL_at hq hp).2]; exact ht
  have hc : cntB ss ts ds = true := List.all_eq_true.2 fun i hi => decide_eq_true (h.cn i (List.mem_range.1 hi))
  unfold tabF
  rw [if_pos hr, if_neg (by simp [hm])]
  simp [ledF, a1, a2, t1, l1, hc]

theorem cnt_snoc (l : List Int) (x : Int) (i : Nat) : cnt (l ++ [x]) i = cnt l i + (if x = (i : Int) then 1 else 0) := by
  unfold cnt
  rw [List.filter_append, List.length_append]
  by_cases h : x = (i : Int)
  · simp [h]
  · simp [h]

theorem cnt_out {l : List Int} {n i : Nat} (h : ∀ s ∈ l, ∃ q : Nat, s = (q : Int) ∧ q < n) (hi : n ≤ i) : cnt l i = 0 := by
  unfold cnt
  have : l.filter (fun s => s == (i : Int)) = [] := by
    rw [List.filter_eq_nil_iff]
    intro s hs e
    obtain ⟨q, e1, hq⟩ := h s hs
    have e2 : s = (i : Int) := by simpa using e
    omega
  rw [this]
  rfl

theorem gc_out {ss : List (Int × List Int)} {i : Nat} (h : ss.length ≤ i) : gc ss i = 0 := by
  unfold gc
  simp [List.getElem?_eq_none h]

theorem gc_enQ {ss : List (Int × List Int)} (zs : List Int) : gc ss (enQ ss zs) = enN ss zs := by
  rcases at2_cases ss zs with ⟨h1, _⟩ | ⟨j, _, h1, _⟩
  · have e1 : enQ ss zs = fe ss := if_pos (by omega)
    have e2 : enN ss zs = 0 := if_pos (by omega)
    rw [e1, e2]
    rcases Nat.lt_or_ge (fe ss) ss.length with h | h
    · exact fe_gc h
    · exact gc_out h
  · have e1 : enQ ss zs = (at2 ss zs).toNat := if_neg (by omega)
    have e2 : enN ss zs = gc ss (at2 ss zs).toNat := if_neg (by omega)
    rw [e1, e2]

theorem gc_en {ss : List (Int × List Int)} (g : Good ss) (zs : List Int) (i : Nat) : gc (enS ss zs) i = gc ss i + (if i = enQ ss zs then 1 else 0) := by
  have hq := (en_facts g (zs := zs)).1
  unfold enS
  rw [gc_put _ hq]
  by_cases h : i = enQ ss zs
  · rw [if_pos h, if_pos h, h, gc_enQ]
  · rw [if_neg h, if_neg h]; omega

theorem gl_en {ss : List (Int × List Int)} (g : Good ss) (zs : List Int) {i : Nat} (hi : i < ss.length) (hp : 0 < gc ss i) : gl (enS ss zs) i = gl ss i := by
  obtain ⟨hq, _, _, _, h5⟩ := en_facts g (zs := zs)
  unfold enS
  rw [gl_put _ hq]
  by_cases h : i = enQ ss zs
  · rw [if_pos h]
    subst h
    exact (h5 hi hp).symm
  · rw [if_neg h]

theorem gl_enQ {ss : List (Int × List Int)} (g : Good ss) (zs : List Int) : gl (enS ss zs) (enQ ss zs) = zs := by
  have hq := (en_facts g (zs := zs)).1
  unfold enS
  rw [gl_put _ hq, if_pos rfl]

theorem len_en {ss : List (Int × List Int)} (g : Good ss) (zs : List Int) : (enS ss zs).length = max ss.length (enQ ss zs + 1) := length_layS _ (en_facts g).1

/-- what was meant is meant behind an entering, with its label; what was entered is there. -/
theorem en_at {ss : List (Int × List Int)} (g : Good ss) {zs : List Int} {q : Nat} (hq : q < ss.length) (hp : 0 < gc ss q) : q < (enS ss zs).length ∧ 0 < gc (enS ss zs) q ∧ gl (enS ss zs) q = gl ss q := by
  refine ⟨by rw [len_en g]; omega, ?_, gl_en g zs hq hp⟩
  rw [gc_en g]
  split <;> omega

theorem en_new {ss : List (Int × List Int)} (g : Good ss) {zs : List Int} : enQ ss zs < (enS ss zs).length ∧ 0 < gc (enS ss zs) (enQ ss zs) ∧ gl (enS ss zs) (enQ ss zs) = zs := by
  refine ⟨by rw [len_en g]; omega, ?_, gl_enQ g zs⟩
  rw [gc_en g, if_pos rfl]
  have h0 : 0 ≤ gc ss (enQ ss zs) := by rw [gc_enQ]; exact (en_facts g (zs := zs)).2.1
  omega

theorem Tb.cn' {ss : List (Int × List Int)} {ts ds : List Int} (h : Tb ss ts ds) (i : Nat) : gc ss i = cnt ts i + cnt ds i := by
  rcases Nat.lt_or_ge i ss.length with hi | hi
  · exact h.cn i hi
  · rw [gc_out hi, cnt_out (fun s hs => by obtain ⟨q, e, hq, _⟩ := h.tg s hs; exact ⟨q, e, hq⟩) hi, cnt_out (fun s hs => by obtain ⟨q, e, hq, _⟩ := h.dm s hs; exact ⟨q, e, hq⟩) hi]
    rfl

theorem Tb.addTag {ss : List (Int × List Int)} {ts ds zs : List Int} (h : Tb ss ts ds) (hz : fault zs = 0) (ht : thing0 zs = true) (hn : ts.length ≤ 5) (he : etC ss zs = 0) : Tb (enS ss zs) (ts ++ [(enQ ss zs : Int)]) ds := by
  refine ⟨good_enter h.good hz he, by simp; omega, h.nd, fun s hs => ?_, fun s hs => ?_, fun i _ => ?_⟩
  · rcases List.mem_append.1 hs with hs | hs
    · obtain ⟨q, e, hq, hp, hl⟩ := h.tg s hs
      obtain ⟨a, b, c⟩ := en_at h.good (zs := zs) hq hp
      exact ⟨q, e, a, b, by rw [c]; exact hl⟩
    · obtain ⟨a, b, c⟩ := en_new h.good (zs := zs)
      exact ⟨_, by simpa using hs, a, b, by rw [c]; exact ht⟩
  · obtain ⟨q, e, hq, hp, hl⟩ := h.dm s hs
    obtain ⟨a, b, c⟩ := en_at h.good (zs := zs) hq hp
    exact ⟨q, e, a, b, by rw [c]; exact hl⟩
  · rw [gc_en h.good, cnt_snoc, h.cn' i]
    by_cases e : i = enQ ss zs
    · rw [if_pos e, if_pos (by omega)]; omega
    · rw [if_neg e, if_neg (by omega)]; omega

theorem Tb.addDom {ss : List (Int × List Int)} {ts ds zs : List Int} (h : Tb ss ts ds) (hz : fault zs = 0) (ht : lowB zs = true) (hn : ds.length ≤ 3) (he : etC ss zs = 0) : Tb (enS ss zs) ts (ds ++ [(enQ ss zs : Int)]) := by
  refine ⟨good_enter h.good hz he, h.nt, by simp; omega, fun s hs => ?_, fun s hs => ?_, fun i _ => ?_⟩
  · obtain ⟨q, e, hq, hp, hl⟩ := h.tg s hs
    obtain ⟨a, b, c⟩ := en_at h.good (zs := zs) hq hp
    exact ⟨q, e, a, b, by rw [c]; exact hl⟩
  · rcases List.mem_append.1 hs with hs | hs
    · obtain ⟨q, e, hq, hp, hl⟩ := h.dm s hs
      obtain ⟨a, b, c⟩ := en_at h.good (zs := zs) hq hp
      exact ⟨q, e, a, b, by rw [c]; exact hl⟩
    · obtain ⟨a, b, c⟩ := en_new h.good (zs := zs)
      exact ⟨_, by simpa using hs, a, b, by rw [c]; exact ht⟩
  · rw [gc_en h.good, cnt_snoc, h.cn' i]
    by_cases e : i = enQ ss zs
    · rw [if_pos e, if_pos (by omega)]; omega
    · rw [if_neg e, if_neg (by omega)]; omega

theorem inL_at {ss : List (Int × List Int)} {l : List Int} {j q : Nat} (hj : j < l.length) (e : gt l j = (q : Int)) (hq : q < ss.length) (hp : 0 < gc ss q) : inL ss l (j : Int) = gl ss q := by
  unfold inL
  rw [if_pos (inC_yes hj)]
  simp only [Int.toNat_natCast]
  rw [e, (atL_at hq hp).2]

theorem gt_snoc_at (l : List Int) (x : Int) : gt (l ++ [x]) l.length = x := by simp [gt]

theorem gt_snoc_lt {l : List Int} {j : Nat} (x : Int) (h : j < l.length) : gt (l ++ [x]) j = gt l j := by simp [gt, List.getElem?_append_left, h]

/-- a domain that was added. -/
theorem ad_right {ss : List (Int × List Int)} {ts ds zs : List Int} (h : adC ss ts ds zs = 0) : tabF (adS ss ts ds zs) (adT ss ts ds zs) (adD ss ts ds zs) = 0 ∧ tgL (adS ss ts ds zs) (adT ss ts ds zs) (adD ss ts ds zs) (adD ss ts ds zs) (adV ss ts ds zs) = zs := by
  have hS : adS ss ts ds zs = enS ss zs := if_pos h
  have hT : adT ss ts ds zs = ts := if_pos h
  have hD : adD ss ts ds zs = ds ++ [(enQ ss zs : Int)] := if_pos h
  have hV : adV ss ts ds zs = (ds.length : Int) := if_pos h
  rw [hS, hT, hD, hV]
  unfold adC at h
  by_cases h0 : otF ss ts ds zs = 0
  · rw [if_pos h0] at h
    obtain ⟨hf, hz⟩ := otF_zero h0
    have tb := tb_of hf
    by_cases h1 : lowB zs = true
    · rw [if_pos h1] at h
      by_cases h2 : ds.length = 4
      · rw [if_pos h2] at h; cases h
      · rw [if_neg h2] at h
        have tb2 := tb.addDom hz h1 (by have := tb.nd; omega) h
        refine ⟨tb2.tab, ?_⟩
        rw [tgL_ok tb2.tab]
        obtain ⟨a, b, c⟩ := en_new tb.good (zs := zs)
        rw [inL_at (by simp) (gt_snoc_at ds _) a b, c]
    · rw [if_neg h1] at h; cases h
  · rw [if_neg h0] at h; exact absurd h h0

/-- a tag that was added. -/
theorem ag_right {ss : List (Int × List Int)} {ts ds zs : List Int} (h : agC ss ts ds zs = 0) :
    tabF (agS ss ts ds zs) (agT ss ts ds zs) (agD ss ts ds zs) = 0 ∧ agV ss ts ds zs = (ts.length : Int) + 1 ∧ tgL (agS ss ts ds zs) (agT ss ts ds zs) (agD ss ts ds zs) (agT ss ts ds zs) (agV ss ts ds zs - 1) = zs ∧
      (∀ j, j < ts.length → tgL (agS ss ts ds zs) (agT ss ts ds zs) (agD ss ts ds zs) (agT ss ts ds zs) (j : Int) = tgL ss ts ds ts (j : Int)) ∧
      dtC (agS ss ts ds zs) (agT ss ts ds zs) (agD ss ts ds zs) = 0 ∧ dtT (agS ss ts ds zs) (agT ss ts ds zs) (agD ss ts ds zs) = ts ∧ tgC ss ts ds ts (agV ss ts ds zs - 1) = 4 := by
  have hS : agS ss ts ds zs = enS ss zs := if_pos h
  have hT : agT ss ts ds zs = ts ++ [(enQ ss zs : Int)] := if_pos h
  have hD : agD ss ts ds zs = ds := if_pos h
  have hV : agV ss ts ds zs = (ts.length : Int) + 1 := if_pos h
  rw [hS, hT, hD, hV]
  unfold agC at h
  by_cases h0 : otF ss ts ds zs = 0
  · rw [if_pos h0] at h
    obtain ⟨hf, hz⟩ := otF_zero h0
    have tb := tb_of hf
    by_cases h1 : thing0 zs = true
    · rw [if_pos h1] at h
      by_cases h2 : ts.length = 6
      · rw [if_pos h2] at h; cases h
      · rw [if_neg h2] at h
        have tb2 := tb.addTag hz h1 (by have := tb.nt; omega) h
        have e1 : (ts.length : Int) + 1 - 1 = (ts.length : Int) := by omega
        have hdc : dtC (enS ss zs) (ts ++ [(enQ ss zs : Int)]) ds = 0 := dt_ok tb2.tab (by simp)
        refine ⟨tb2.tab, rfl, ?_, fun j hj => ?_, hdc, ?_, ?_⟩
        · rw [tgL_ok tb2.tab, e1]
          obtain ⟨a, b, c⟩ := en_new tb.good (zs := zs)
          rw [inL_at (by simp) (gt_snoc_at ts _) a b, c]
        · rw [tgL_ok tb2.tab, tgL_ok hf]
          obtain ⟨q, e, hq, hp, _⟩ := tb.tg (gt ts j) (by simp [gt, hj])
          obtain ⟨a, b, c⟩ := en_at tb.good (zs := zs) hq hp
          rw [inL_at hj e hq hp, inL_at (by simp; omega) ((gt_snoc_lt _ hj).trans e) a b, c]
        · unfold dtT
          rw [if_pos hdc]
          simp
        · rw [tgC_ok hf, e1]
          exact inC_no (by omega)
    · rw [if_neg h1] at h; cases h
  · rw [if_neg h0] at h; exact absurd h h0

end Go.Proofs.YtnibngigbcakkaaGreat
