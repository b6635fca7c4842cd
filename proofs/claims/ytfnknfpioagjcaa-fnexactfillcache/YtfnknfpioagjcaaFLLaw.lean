import Derived.Test.YtfnknfpioagjcaaFillS
import Derived.Test.YtfnknfpioagjcaaFillI
import Derived.Test.YtfnknfpioagjcaaResCR
import Derived.WalkKit
import Derived.ProofKit
import Derived.OpenShut
import Derived.ShutString
import Derived.ChangeOld
import Derived.Below
import Derived.WalkSpells
import Derived.Deep.QuietTactic
import Derived.BigQuiet
import Derived.Deep.RegionWith
import Derived.Deep.WholeRow
import Derived.Deep.DeepCutAuto
import Derived.Deep.RegionHeld2
import Derived.Deep.AppendLies
import Derived.Deep.RegionLaw
namespace Go.Proofs.Ytfnknfpioagjcaa
open Go.ChangeShapes Go.WideShapes Go.ChangeAt Go.RowKit

theorem q5_bel {W X : World} {A0 A1 A2 A3 A4 : Addr} {v0 v1 v2 v3 v4 : Value} (h : X.cell? A0 = some v0 ∧ X.cell? A1 = some v1 ∧ X.cell? A2 = some v2 ∧ X.cell? A3 = some v3 ∧ X.cell? A4 = some v4 ∧ Below W.heap.size W X) : Below W.heap.size W X := h.2.2.2.2.2

theorem q5_below {W X Y : World} {A0 A1 A2 A3 A4 : Addr} {v0 v1 v2 v3 v4 : Value} (h0 : A0.block < W.heap.size) (h1 : A1.block < W.heap.size) (h2 : A2.block < W.heap.size) (h3 : A3.block < W.heap.size) (h4 : A4.block < W.heap.size) (h : X.cell? A0 = some v0 ∧ X.cell? A1 = some v1 ∧ X.cell? A2 = some v2 ∧ X.cell? A3 = some v3 ∧ X.cell? A4 = some v4 ∧ Below W.heap.size W X) (g : Below X.heap.size X Y) : Y.cell? A0 = some v0 ∧ Y.cell? A1 = some v1 ∧ Y.cell? A2 = some v2 ∧ Y.cell? A3 = some v3 ∧ Y.cell? A4 = some v4 ∧ Below W.heap.size W Y := by
  have hz := (h.2.2.2.2.2).size
  exact ⟨(g.cell (by omega)).trans h.1, (g.cell (by omega)).trans h.2.1, (g.cell (by omega)).trans h.2.2.1, (g.cell (by omega)).trans h.2.2.2.1, (g.cell (by omega)).trans h.2.2.2.2.1, (h.2.2.2.2.2).trans (g.mono hz)⟩

theorem q5_alloc {W X : World} {A0 A1 A2 A3 A4 : Addr} {v0 v1 v2 v3 v4 : Value} (h0 : A0.block < W.heap.size) (h1 : A1.block < W.heap.size) (h2 : A2.block < W.heap.size) (h3 : A3.block < W.heap.size) (h4 : A4.block < W.heap.size) (h : X.cell? A0 = some v0 ∧ X.cell? A1 = some v1 ∧ X.cell? A2 = some v2 ∧ X.cell? A3 = some v3 ∧ X.cell? A4 = some v4 ∧ Below W.heap.size W X) (o : Obj) : (X.alloc o).cell? A0 = some v0 ∧ (X.alloc o).cell? A1 = some v1 ∧ (X.alloc o).cell? A2 = some v2 ∧ (X.alloc o).cell? A3 = some v3 ∧ (X.alloc o).cell? A4 = some v4 ∧ Below W.heap.size W (X.alloc o) := q5_below h0 h1 h2 h3 h4 h ((Below.refl _ _).alloc (Nat.le_refl _) o)

theorem q5_allocd {W X : World} {A0 A1 A2 A3 A4 : Addr} {v0 v1 v2 v3 v4 : Value} (h0 : A0.block < W.heap.size) (h1 : A1.block < W.heap.size) (h2 : A2.block < W.heap.size) (h3 : A3.block < W.heap.size) (h4 : A4.block < W.heap.size) (h : X.drew.cell? A0 = some v0 ∧ X.drew.cell? A1 = some v1 ∧ X.drew.cell? A2 = some v2 ∧ X.drew.cell? A3 = some v3 ∧ X.drew.cell? A4 = some v4 ∧ Below W.heap.size W X.drew) (o : Obj) : (X.alloc o).drew.cell? A0 = some v0 ∧ (X.alloc o).drew.cell? A1 = some v1 ∧ (X.alloc o).drew.cell? A2 = some v2 ∧ (X.alloc o).drew.cell? A3 = some v3 ∧ (X.alloc o).drew.cell? A4 = some v4 ∧ Below W.heap.size W (X.alloc o).drew := q5_alloc h0 h1 h2 h3 h4 h o

theorem q5_set {W X : World} {A0 A1 A2 A3 A4 : Addr} {v0 v1 v2 v3 v4 : Value} (h0 : A0.block < W.heap.size) (h1 : A1.block < W.heap.size) (h2 : A2.block < W.heap.size) (h3 : A3.block < W.heap.size) (h4 : A4.block < W.heap.size) (h : X.cell? A0 = some v0 ∧ X.cell? A1 = some v1 ∧ X.cell? A2 = some v2 ∧ X.cell? A3 = some v3 ∧ X.cell? A4 = some v4 ∧ Below W.heap.size W X) {p : Addr} (hp : W.heap.size ≤ p.block) (y : Value) : (X.setCell p y).cell? A0 = some v0 ∧ (X.setCell p y).cell? A1 = some v1 ∧ (X.setCell p y).cell? A2 = some v2 ∧ (X.setCell p y).cell? A3 = some v3 ∧ (X.setCell p y).cell? A4 = some v4 ∧ Below W.heap.size W (X.setCell p y) :=
  ⟨(World.cell?_setCell_other _ _ _ _ (fun e => by rw [e] at hp; omega)).trans h.1, (World.cell?_setCell_other _ _ _ _ (fun e => by rw [e] at hp; omega)).trans h.2.1, (World.cell?_setCell_other _ _ _ _ (fun e => by rw [e] at hp; omega)).trans h.2.2.1, (World.cell?_setCell_other _ _ _ _ (fun e => by rw [e] at hp; omega)).trans h.2.2.2.1, (World.cell?_setCell_other _ _ _ _ (fun e => by rw [e] at hp; omega)).trans h.2.2.2.2.1, (h.2.2.2.2.2).setCell hp y⟩

theorem set4_at0 (X : World) (P : Nat) (v0 v1 v2 v3 : Value) (h : ∃ u, X.cell? ⟨P, 0, none⟩ = some u) : ((((X.setCell ⟨P, 0, none⟩ v0).setCell ⟨P, 1, none⟩ v1).setCell ⟨P, 2, none⟩ v2).setCell ⟨P, 3, none⟩ v3).cell? ⟨P, 0, none⟩ = some v0 := by
  obtain ⟨u, h⟩ := h
  rw [World.cell?_setCell_other _ _ _ _ (fun e => by injection e with _ e2; omega)]
  rw [World.cell?_setCell_other _ _ _ _ (fun e => by injection e with _ e2; omega)]
  rw [World.cell?_setCell_other _ _ _ _ (fun e => by injection e with _ e2; omega)]
  exact World.cell?_setCell_same _ _ _ h

theorem set4_at1 (X : World) (P : Nat) (v0 v1 v2 v3 : Value) (h : ∃ u, X.cell? ⟨P, 1, none⟩ = some u) : ((((X.setCell ⟨P, 0, none⟩ v0).setCell ⟨P, 1, none⟩ v1).setCell ⟨P, 2, none⟩ v2).setCell ⟨P, 3, none⟩ v3).cell? ⟨P, 1, none⟩ = some v1 := by
  obtain ⟨u, h⟩ := h
  rw [World.cell?_setCell_other _ _ _ _ (fun e => by injection e with _ e2; omega)]
  rw [World.cell?_setCell_other _ _ _ _ (fun e => by injection e with _ e2; omega)]
  exact World.cell?_setCell_same _ _ _ ((World.cell?_setCell_other _ _ _ _ (fun e => by injection e with _ e2; omega)).trans h)

theorem set4_at2 (X : World) (P : Nat) (v0 v1 v2 v3 : Value) (h : ∃ u, X.cell? ⟨P, 2, none⟩ = some u) : ((((X.setCell ⟨P, 0, none⟩ v0).setCell ⟨P, 1, none⟩ v1).setCell ⟨P, 2, none⟩ v2).setCell ⟨P, 3, none⟩ v3).cell? ⟨P, 2, none⟩ = some v2 := by
  obtain ⟨u, h⟩ := h
  rw [World.cell?_setCell_other _ _ _ _ (fun e => by injection e with _ e2; omega)]
  exact World.cell?_setCell_same _ _ _ ((World.cell?_setCell_other _ _ _ _ (fun e => by injection e with _ e2; omega)).trans ((World.cell?_setCell_other _ _ _ _ (fun e => by injection e with _ e2; omega)).trans h))

theorem set4_at3 (X : World) (P : Nat) (v0 v1 v2 v3 : Value) (h : ∃ u, X.cell? ⟨P, 3, none⟩ = some u) : ((((X.setCell ⟨P, 0, none⟩ v0).setCell ⟨P, 1, none⟩ v1).setCell ⟨P, 2, none⟩ v2).setCell ⟨P, 3, none⟩ v3).cell? ⟨P, 3, none⟩ = some v3 := by
  obtain ⟨u, h⟩ := h
  exact World.cell?_setCell_same _ _ _ ((World.cell?_setCell_other _ _ _ _ (fun e => by injection e with _ e2; omega)).trans ((World.cell?_setCell_other _ _ _ _ (fun e => by injection e with _ e2; omega)).trans ((World.cell?_setCell_other _ _ _ _ (fun e => by injection e with _ e2; omega)).trans h)))

theorem OL.allocR {B B' : Nat} {a : Option Addr} {n : Nat} {ls : List (Int × Int × Int)} {ws : World} {o : Obj} (h : OL (InR B' ws.heap.size) a n ls ws) (hB : B ≤ B') : OL (InR B (ws.alloc o).heap.size) a n ls (ws.alloc o) :=
  (OL.loc.alloc h o).mono (fun k hk => ⟨by have := hk.1; omega, by have := hk.2; simp; omega⟩)

theorem OL.set4R {B B' P : Nat} {a : Option Addr} {n : Nat} {ls : List (Int × Int × Int)} {ws : World} (h : OL (InR B' ws.heap.size) a n ls ws) (hB : B ≤ B') (hP : P < B') (x y z u : Value) : OL (InR B ((((ws.setCell ⟨P, 0, none⟩ x).setCell ⟨P, 1, none⟩ y).setCell ⟨P, 2, none⟩ z).setCell ⟨P, 3, none⟩ u).heap.size) a n ls ((((ws.setCell ⟨P, 0, none⟩ x).setCell ⟨P, 1, none⟩ y).setCell ⟨P, 2, none⟩ z).setCell ⟨P, 3, none⟩ u) :=
  (OL.set4 h (fun e => by have := e.1; omega) x y z u).mono (fun k hk => ⟨by have := hk.1; omega, by have := hk.2; simpa using this⟩)

theorem OL.one {B' T' : Nat} {a : Option Addr} {n : Nat} {ls : List (Int × Int × Int)} {ws : World} (h : OL (InR B' T') a n ls ws) (W P : Nat) (hB : W ≤ B') (hP : P < B' ∨ T' ≤ P) : ∃ bb, W ≤ bb ∧ bb ≠ P ∧ OL (InR bb (bb + 1)) a n ls ws := by
  obtain ⟨h1, h2, h3⟩ := h
  rcases h3 with h3 | ⟨g, e, hg, blk⟩
  · exact ⟨W + P + 1, by omega, by omega, h1, h2, .inl h3⟩
  · exact ⟨g, by have := hg.1; omega, by have := hg.1; have := hg.2; omega, h1, h2, .inr ⟨g, e, ⟨Nat.le_refl _, by omega⟩, blk⟩⟩

theorem OL.oneA {W B' : Nat} {a : Option Addr} {n : Nat} {ls : List (Int × Int × Int)} {ws : World} {o : Obj} (h : OL (InR B' ws.heap.size) a n ls ws) (hB : W ≤ B') : ∃ bb, W ≤ bb ∧ bb ≠ ws.heap.size ∧ OL (InR bb (bb + 1)) a n ls (ws.alloc o) := by
  obtain ⟨bb, h1, h2, h3⟩ := h.one W ws.heap.size hB (.inr (Nat.le_refl _))
  exact ⟨bb, h1, h2, OL.loc.alloc h3 o⟩

theorem OL.oneS {W B' P : Nat} {a : Option Addr} {n : Nat} {ls : List (Int × Int × Int)} {ws : World} (h : OL (InR B' ws.heap.size) a n ls ws) (hB : W ≤ B') (hP : P < B') (x y z u : Value) : ∃ bb, W ≤ bb ∧ bb ≠ P ∧ OL (InR bb (bb + 1)) a n ls ((((ws.setCell ⟨P, 0, none⟩ x).setCell ⟨P, 1, none⟩ y).setCell ⟨P, 2, none⟩ z).setCell ⟨P, 3, none⟩ u) := by
  obtain ⟨bb, h1, h2, h3⟩ := h.one W P hB (.inl hP)
  exact ⟨bb, h1, h2, OL.set4 h3 (fun e => h2 (by have := e.1; have := e.2; omega)) x y z u⟩

set_option maxRecDepth 100000 in
theorem law_big0_FillCache (s0 : Int) (a0 : Option Addr) (l0 c0 : Nat) (z0 : List (Int × Int × Int)) (d1 t1 p1 : Int) (x2 : Int) (w : World) (hm0 : l0 ≤ maxLen) (hs0 : Sln w a0 l0 z0) (hbig : 1048576 < l0) :
    Calls Try.prog 5 #[.agg #[.int .i64 s0, .slice a0 l0 c0], .agg #[.int .i64 d1, .int .i64 t1, .int .i64 p1], .int .i64 x2] w fun e w' => e = .returned (.bool true) ∧ Below w.heap.size w w' := by
  have _ := hs0
  have M0 := (((Mm.start w).alloc2 (.int .i64 s0) (.slice a0 l0 c0) 24).alloc3 (.int .i64 d1) (.int .i64 t1) (.int .i64 p1) 39)
  try simp only [World.size_alloc] at M0
  go_enter Try.func5, Try.ntmps5
  go_wp2_with fail
  refine (szCache_calls s0 a0 l0 c0 1048576 _ (by omega) (by omega) hm0).mono ?_
  rintro e w1 ⟨rfl, g1⟩
  have M1 := M0.below g1
  clear g1 M0
  rw [szI_neg (by omega)]
  have HB := hide M1.bel
  clear M1
  go_wp2
  go_ret
  exact ⟨rfl, HB.out⟩

set_option maxRecDepth 100000 in
set_option maxHeartbeats 4000000 in
theorem law_small_FillCache (s0 : Int) (a0 : Option Addr) (l0 c0 : Nat) (z0 : List (Int × Int × Int)) (d1 t1 p1 : Int) (x2 : Int) (w : World) (hm0 : l0 ≤ maxLen) (hs0 : Sln w a0 l0 z0) (hz : l0 ≤ 1048576) :
    Calls Try.prog 5 #[.agg #[.int .i64 s0, .slice a0 l0 c0], .agg #[.int .i64 d1, .int .i64 t1, .int .i64 p1], .int .i64 x2] w fun e w' => e = .returned (.bool true) ∧ Below w.heap.size w w' := by
  have hz0 : l0 ≤ 1048576 := by omega
  have M0 := (((Mm.start w).alloc2 (.int .i64 s0) (.slice a0 l0 c0) 24).alloc3 (.int .i64 d1) (.int .i64 t1) (.int .i64 p1) 39)
  try simp only [World.size_alloc] at M0
  go_enter Try.func5, Try.ntmps5
  go_wp2_with fail
  refine (szCache_calls s0 a0 l0 c0 1048576 _ (by omega) (by omega) hm0).mono ?_
  rintro e w1 ⟨rfl, g1⟩
  have zz1 := g1.size
  try simp only [World.size_alloc] at zz1
  have M1 := M0.below g1
  clear g1 M0
  rw [szI_pos (by omega)]
  have hge0 : ¬ (1048576 - ((l0 : Nat) : Int) < 0) := by omega
  have q0 := M1.cell 3 rfl
  have q1 := M1.cell 4 rfl
  have q2 := M1.cell 0 rfl
  have q3 := M1.cell 1 rfl
  have q4 := M1.cell 2 rfl
  have lt0 := M1.lt 3 rfl
  have lt1 := M1.lt 4 rfl
  have lt2 := M1.lt 0 rfl
  have lt3 := M1.lt 1 rfl
  have lt4 := M1.lt 2 rfl
  have sr0 := hs0.below M1.bel (Nat.le_refl _)
  go_upto_region 5 with fail
  go_cut [8] (fun v wd => ∃ P va vn vc , v = .pointer (some ⟨P, 0, none⟩) ∧ wd.cell? ⟨P, 0, none⟩ = some (.int .i64 (fiC s0 z0 (d1, t1, p1) x2)) ∧ wd.frozen? ⟨P, 0, none⟩ = false ∧ wd.cell? ⟨P, 1, none⟩ = some (.int .i64 (cV (fiC s0 z0 (d1, t1, p1) x2) ((fiL s0 z0 (d1, t1, p1) x2).length : Int))) ∧ wd.frozen? ⟨P, 1, none⟩ = false ∧ wd.cell? ⟨P, 2, none⟩ = some (.int .i64 (cV (fiC s0 z0 (d1, t1, p1) x2) s0)) ∧ wd.frozen? ⟨P, 2, none⟩ = false ∧ wd.cell? ⟨P, 3, none⟩ = some (.slice va vn vc) ∧ wd.frozen? ⟨P, 3, none⟩ = false ∧ OL (InR w1.heap.size wd.heap.size) va vn (cL (fiC s0 z0 (d1, t1, p1) x2) (fiL s0 z0 (d1, t1, p1) x2)) wd ∧ Below w1.heap.size w1 wd)
  case first =>
    have HS0 : Hid (w1.drew.cell? ⟨w.heap.size, 0, none⟩ = some (.int .i64 s0) ∧ w1.drew.cell? ⟨w.heap.size, 1, none⟩ = some (.slice a0 l0 c0) ∧ w1.drew.cell? ⟨w.heap.size + 1, 0, none⟩ = some (.int .i64 d1) ∧ w1.drew.cell? ⟨w.heap.size + 1, 1, none⟩ = some (.int .i64 t1) ∧ w1.drew.cell? ⟨w.heap.size + 1, 2, none⟩ = some (.int .i64 p1) ∧ Below w1.heap.size w1 w1.drew) := ⟨q0, q1, q2, q3, q4, (Below.refl _ _).drew⟩
    go_region_held2 (fun w' => w'.cell? ⟨w.heap.size, 0, none⟩ = some (.int .i64 s0) ∧ w'.cell? ⟨w.heap.size, 1, none⟩ = some (.slice a0 l0 c0) ∧ w'.cell? ⟨w.heap.size + 1, 0, none⟩ = some (.int .i64 d1) ∧ w'.cell? ⟨w.heap.size + 1, 1, none⟩ = some (.int .i64 t1) ∧ w'.cell? ⟨w.heap.size + 1, 2, none⟩ = some (.int .i64 p1) ∧ Below w1.heap.size w1 w')
      (first | with_reducible exact HS0.out | (repeat (first | with_reducible assumption | with_reducible refine q5_allocd lt0 lt1 lt2 lt3 lt4 ?_ _ | with_reducible refine q5_alloc lt0 lt1 lt2 lt3 lt4 ?_ _ | with_reducible refine q5_set lt0 lt1 lt2 lt3 lt4 ?_ ?_ _ | (show (_ : Nat) ≤ _; exact Nat.le_refl _) | (show (_ : Nat) ≤ _; dsimp only; omega))))
      (first
        | (go_at_call_of 10 (Value.int .i64 s0); refine (toCache_O s0 a0 l0 c0 z0 _ (by omega) ?_).mono ?_; exact sr0.below (q5_bel (by with_reducible assumption)) (Nat.le_refl _); rintro e wa ⟨b_v0, rfl, o0, ga⟩; have hswa := q5_below lt0 lt1 lt2 lt3 lt4 (by with_reducible assumption) ga; have hzwa := ga.size; have hwwa := (q5_bel hswa).size; (try simp only [World.size_alloc, World.size_drew] at hzwa); (try have hqwa := Nat.lt_of_succ_le hzwa); obtain ⟨bc0, bf0⟩ := bcellQ ga; (try simp only [World.size_alloc, World.size_drew] at bc0 bf0); clear ga)
        | (go_at_call 17; refine (toLine_calls d1 t1 p1 _).mono ?_; rintro e wb ⟨rfl, ga⟩; have hswb := q5_below lt0 lt1 lt2 lt3 lt4 (by with_reducible assumption) ga; have hzwb := ga.size; have hwwb := (q5_bel hswb).size; have o0 := Loc.belowA OL.loc o0 ga (by first | exact Below.refl _ _ | exact (Below.refl _ _).alloc (Nat.le_refl _) _); (try simp only [World.size_alloc] at hzwb); (try have hqwb := Nat.lt_of_succ_le hzwb); (try have hrwb := Nat.lt_of_lt_of_le hqwa hzwb); obtain ⟨bc1, bf1⟩ := bcellQ ga; (try simp only [World.size_alloc] at bc1 bf1); clear ga)
        | (go_at_call 16; refine (specFillCache_calls s0 _ _ _ z0 d1 t1 p1 x2 _ hm0 (Nat.le_refl _) (Loc.belowB OL.loc o0 (by first | exact Below.refl _ _ | exact (Below.refl _ _).alloc (Nat.le_refl _) _)).sln).mono ?_; rintro e ws ⟨va, vn, vc, rfl, os, gs⟩; have hss := q5_below lt0 lt1 lt2 lt3 lt4 (by with_reducible assumption) gs; have hzs := gs.size; have hws := (q5_bel hss).size; obtain ⟨bcs, bfs⟩ := bcellQ gs; (try simp only [World.size_alloc] at hzs bcs bfs); (try have hts := Nat.lt_of_succ_le hzs); (try have hus := Nat.lt_of_lt_of_le hqwb hzs); (try have hvs := Nat.lt_of_lt_of_le hrwb hzs); (try simp only [World.size_alloc] at os); clear gs))
    all_goals go_wp2_with fail
    all_goals go_meet
    all_goals (
      refine ⟨_, va, vn, vc, rfl, ?c0, ?f0, ?c1, ?f1, ?c2, ?f2, ?c3, ?f3, ?o, ?b⟩
      case b => exact q5_bel (by with_reducible assumption)
      case o => first | (with_reducible exact OL.allocR os (by omega)) | (with_reducible exact OL.set4R os (by omega) (by omega) _ _ _ _ )
      case c0 => first | (go_simp; done) | (with_reducible refine set4_at0 _ _ _ _ _ _ ?_; go_simp; done)
      case f0 => (go_simp; done)
      case c1 => first | (go_simp; done) | (with_reducible refine set4_at1 _ _ _ _ _ _ ?_; go_simp; done)
      case f1 => (go_simp; done)
      case c2 => first | (go_simp; done) | (with_reducible refine set4_at2 _ _ _ _ _ _ ?_; go_simp; done)
      case f2 => (go_simp; done)
      case c3 => first | (go_simp; done) | (with_reducible refine set4_at3 _ _ _ _ _ _ ?_; go_simp; done)
      case f3 => (go_simp; done))
  case rest =>
    obtain ⟨Pv, va, vn, vc, rfl, cc0, cf0, cc1, cf1, cc2, cf2, cc3, cf3, ov, g2⟩ := hcut
    obtain ⟨w2, rfl⟩ : ∃ x, x = wc := ⟨wc, rfl⟩
    have zz2 := g2.size
    have lPv := World.block_lt_of_cell? _ _ cc0
    have M2 := ((((((M1.below g2).fact OL.loc ov).cons cc3 cf3).cons cc2 cf2).cons cc1 cf1).cons cc0 cf0)
    clear g2 M1 ov cc0 cc1 cc2 cc3 cf0 cf1 cf2 cf3 lt0 lt1 lt2 lt3 lt4 sr0 q0 q1 q2 q3 q4
    have q0 := M2.cell 7 rfl
    have q1 := M2.cell 8 rfl
    go_wp2_with fail
    refine (toCache_O s0 a0 l0 c0 z0 _ (by omega) (hs0.below M2.bel (Nat.le_refl _))).mono ?_
    rintro e w3 ⟨b_x0, rfl, ox0, g3⟩
    have zz3 := g3.size
    try simp only [World.size_alloc] at ox0 zz3
    have M3 := ((M2.below g3).fact OL.loc ox0).alloc2 (.int .i64 s0) (.slice (some ⟨b_x0, 0, none⟩) l0 l0) 29
    clear g3 M2 ox0 q0 q1
    obtain ⟨w4, hX0⟩ : ∃ x, x = w3.alloc (.cells #[.int .i64 s0, .slice (some ⟨b_x0, 0, none⟩) l0 l0] 29) := ⟨_, rfl⟩
    rw [← hX0] at M3
    have zz4 : w3.heap.size + 1 ≤ w4.heap.size := by rw [hX0]; simp
    have HX0 := hide hX0
    clear hX0
    have q0 := M3.cell 0 rfl
    have q1 := M3.cell 1 rfl
    have q2 := M3.cell 6 rfl
    have q3 := M3.cell 7 rfl
    have q4 := M3.cell 8 rfl
    have lt0 := M3.lt 0 rfl
    have lt1 := M3.lt 1 rfl
    have lt2 := M3.lt 6 rfl
    have lt3 := M3.lt 7 rfl
    have lt4 := M3.lt 8 rfl
    have sr0 := M3.get 0 rfl
    have r0 := q0
    have r1 := q1
    have r2 := q2
    have r3 := q3
    have r4 := q4
    rw [HX0.out] at r0
    rw [HX0.out] at r1
    rw [HX0.out] at r2
    rw [HX0.out] at r3
    rw [HX0.out] at r4
    go_upto_region 7 with fail
    rw [← HX0.out]
    clear HX0 r0 r1 r2 r3 r4
    go_cut [10] (fun v wd => ∃ P ra rn rc , v = .pointer (some ⟨P, 0, none⟩) ∧ w4.heap.size ≤ P ∧ wd.cell? ⟨P, 0, none⟩ = some (.int .i64 (fiC s0 z0 (d1, t1, p1) x2)) ∧ wd.frozen? ⟨P, 0, none⟩ = false ∧ wd.cell? ⟨P, 1, none⟩ = some (.int .i64 (cV (fiC s0 z0 (d1, t1, p1) x2) ((fiL s0 z0 (d1, t1, p1) x2).length : Int))) ∧ wd.frozen? ⟨P, 1, none⟩ = false ∧ wd.cell? ⟨P, 2, none⟩ = some (.int .i64 (cV (fiC s0 z0 (d1, t1, p1) x2) s0)) ∧ wd.frozen? ⟨P, 2, none⟩ = false ∧ wd.cell? ⟨P, 3, none⟩ = some (.slice ra rn rc) ∧ wd.frozen? ⟨P, 3, none⟩ = false ∧ (∃ bb, w4.heap.size ≤ bb ∧ bb ≠ P ∧ OL (InR bb (bb + 1)) ra rn (cL (fiC s0 z0 (d1, t1, p1) x2) (fiL s0 z0 (d1, t1, p1) x2)) wd) ∧ Below w4.heap.size w4 wd)
    case first =>
      have HS0 : Hid (w4.drew.cell? ⟨w3.heap.size, 0, none⟩ = some (.int .i64 s0) ∧ w4.drew.cell? ⟨w3.heap.size, 1, none⟩ = some (.slice (some ⟨b_x0, 0, none⟩) l0 l0) ∧ w4.drew.cell? ⟨w.heap.size + 1, 0, none⟩ = some (.int .i64 d1) ∧ w4.drew.cell? ⟨w.heap.size + 1, 1, none⟩ = some (.int .i64 t1) ∧ w4.drew.cell? ⟨w.heap.size + 1, 2, none⟩ = some (.int .i64 p1) ∧ Below w4.heap.size w4 w4.drew) := ⟨q0, q1, q2, q3, q4, (Below.refl _ _).drew⟩
      go_region_held2 (fun w' => w'.cell? ⟨w3.heap.size, 0, none⟩ = some (.int .i64 s0) ∧ w'.cell? ⟨w3.heap.size, 1, none⟩ = some (.slice (some ⟨b_x0, 0, none⟩) l0 l0) ∧ w'.cell? ⟨w.heap.size + 1, 0, none⟩ = some (.int .i64 d1) ∧ w'.cell? ⟨w.heap.size + 1, 1, none⟩ = some (.int .i64 t1) ∧ w'.cell? ⟨w.heap.size + 1, 2, none⟩ = some (.int .i64 p1) ∧ Below w4.heap.size w4 w')
        (first | with_reducible exact HS0.out | (repeat (first | with_reducible assumption | with_reducible refine q5_allocd lt0 lt1 lt2 lt3 lt4 ?_ _ | with_reducible refine q5_alloc lt0 lt1 lt2 lt3 lt4 ?_ _ | with_reducible refine q5_set lt0 lt1 lt2 lt3 lt4 ?_ ?_ _ | (show (_ : Nat) ≤ _; exact Nat.le_refl _) | (show (_ : Nat) ≤ _; dsimp only; omega))))
        (first
          | (go_at_call 17; refine (toLine_calls d1 t1 p1 _).mono ?_; rintro e wa ⟨rfl, ga⟩; have hswa := q5_below lt0 lt1 lt2 lt3 lt4 (by with_reducible assumption) ga; have hzwa := ga.size; have hwwa := (q5_bel hswa).size; (try simp only [World.size_alloc, World.size_drew] at hzwa); (try have hqwa := Nat.lt_of_succ_le hzwa); obtain ⟨bc0, bf0⟩ := bcellQ ga; (try simp only [World.size_alloc, World.size_drew] at bc0 bf0); clear ga)
          | (go_at_call 18; refine (implFillCache_calls s0 _ _ _ z0 d1 t1 p1 x2 _ hm0 (Nat.le_refl _) (OL.loc.below (q5_bel (by with_reducible assumption)) sr0).sln).mono ?_; rintro e ws ⟨ra, rn, rc, rfl, os, gs⟩; have hss := q5_below lt0 lt1 lt2 lt3 lt4 (by with_reducible assumption) gs; have hzs := gs.size; have hws := (q5_bel hss).size; obtain ⟨bcs, bfs⟩ := bcellQ gs; (try simp only [World.size_alloc] at hzs bcs bfs); (try have hts := Nat.lt_of_succ_le hzs); (try have hus := Nat.lt_of_lt_of_le hqwb hzs); (try have hvs := Nat.lt_of_lt_of_le hrwb hzs); (try simp only [World.size_alloc] at os); clear gs))
      all_goals go_wp2_with fail
      all_goals go_meet
      all_goals (
        refine ⟨_, ra, rn, rc, rfl, ?lowP, ?c0, ?f0, ?c1, ?f1, ?c2, ?f2, ?c3, ?f3, ?o, ?b⟩
        case lowP => first | exact Nat.le_refl _ | omega
        case b => exact q5_bel (by with_reducible assumption)
        case o => first | (with_reducible exact OL.oneA os (by omega)) | (with_reducible exact OL.oneS os (by omega) (by omega) _ _ _ _ )
        case c0 => first | (go_simp; done) | (with_reducible refine set4_at0 _ _ _ _ _ _ ?_; go_simp; done)
        case f0 => (go_simp; done)
        case c1 => first | (go_simp; done) | (with_reducible refine set4_at1 _ _ _ _ _ _ ?_; go_simp; done)
        case f1 => (go_simp; done)
        case c2 => first | (go_simp; done) | (with_reducible refine set4_at2 _ _ _ _ _ _ ?_; go_simp; done)
        case f2 => (go_simp; done)
        case c3 => first | (go_simp; done) | (with_reducible refine set4_at3 _ _ _ _ _ _ ?_; go_simp; done)
        case f3 => (go_simp; done))
    case rest =>
      obtain ⟨Pr, ra, rn, rc, rfl, gPr, cc0, cf0, cc1, cf1, cc2, cf2, cc3, cf3, or, g5⟩ := hcut
      obtain ⟨w5, rfl⟩ : ∃ x, x = wc := ⟨wc, rfl⟩
      have zz5 := g5.size
      obtain ⟨bbr, hb1r, hb2r, or⟩ := or
      have lPr := World.block_lt_of_cell? _ _ cc0
      have M5 := ((((((M3.below g5).fact OL.loc or).cons cc3 cf3).cons cc2 cf2).cons cc1 cf1).cons cc0 cf0)
      clear g5 M3 or cc0 cc1 cc2 cc3 cf0 cf1 cf2 cf3 lt0 lt1 lt2 lt3 lt4 sr0 q0 q1 q2 q3 q4
      have q0 := M5.cell 0 rfl
      have q1 := M5.cell 1 rfl
      have q2 := M5.cell 2 rfl
      have q3 := M5.cell 3 rfl
      have q4 := M5.cell 6 rfl
      have q5 := M5.cell 7 rfl
      have q6 := M5.cell 8 rfl
      have q7 := M5.cell 9 rfl
      go_wp2_with fail
      refine (eqCR_O (fiC s0 z0 (d1, t1, p1) x2) (cV (fiC s0 z0 (d1, t1, p1) x2) ((fiL s0 z0 (d1, t1, p1) x2).length : Int)) (cV (fiC s0 z0 (d1, t1, p1) x2) s0) _ _ _ _ _ _ _ _ (cL (fiC s0 z0 (d1, t1, p1) x2) (fiL s0 z0 (d1, t1, p1) x2)) _ (M5.get 0 rfl) (M5.get 2 rfl)).mono ?_
      rintro e w6 ⟨rfl, g6⟩
      have zz6 := g6.size
      try simp only [World.size_alloc] at zz6
      have M6 := M5.below g6
      clear g6 M5 q0 q1 q2 q3 q4 q5 q6 q7
      have q0 := M6.cell 4 rfl
      have q1 := M6.cell 5 rfl
      have q2 := M6.cell 13 rfl
      have q3 := M6.cell 14 rfl
      go_upto_region 10 with fail
      go_cut [41] (fun v wd => v = .bool false ∧ Below w6.heap.size w6 wd)
      case first =>
        go_region_with (first
          | (go_at_call 10; refine (toCache_O s0 a0 l0 c0 z0 _ (by omega) ?_).mono ?_; exact hs0.below M6.drew.bel (Nat.le_refl _); rintro e wa ⟨b_y, rfl, oy, ga⟩; have ha : Below w6.heap.size w6 wa := ((Below.refl w6.heap.size w6).drew).trans ga; have Ma := M6.below ha; have y0 := Ma.cell 4 rfl; have y1 := Ma.cell 5 rfl; clear ga)
          | (go_at_call 12; refine (eqCache_O _ _ s0 _ _ _ _ _ z0 _ (Ma.get 1 rfl) oy).mono ?_; rintro e wb ⟨rfl, gb⟩; have hb : Below w6.heap.size w6 wb := ha.trans (gb.mono ha.size); clear gb))
        all_goals go_wp2_with fail
        all_goals go_meet
        all_goals exact ⟨rfl, hb⟩
      case rest =>
        obtain ⟨rfl, g7⟩ := hcut
        obtain ⟨w7, rfl⟩ : ∃ x, x = wc := ⟨wc, rfl⟩
        have zz7 := g7.size
        have M7 := M6.below g7
        clear g7 M6 q0 q1 q2 q3
        have q0 := M7.cell 4 rfl
        have q1 := M7.cell 5 rfl
        go_wp2_with fail
        refine (markCache_O _ s0 _ l0 _ z0 1 _ (by omega) (by omega) (M7.get 1 rfl)).mono ?_
        rintro e w8 ⟨rfl, _, ho⟩
        have zz8 := ho.size
        have M8 : Mm w w8 [(Pr, 0, .int .i64 (fiC s0 z0 (d1, t1, p1) x2)), (Pr, 1, .int .i64 (cV (fiC s0 z0 (d1, t1, p1) x2) ((fiL s0 z0 (d1, t1, p1) x2).length : Int))), (Pr, 2, .int .i64 (cV (fiC s0 z0 (d1, t1, p1) x2) s0)), (Pr, 3, .slice ra rn rc), (Pv, 0, .int .i64 (fiC s0 z0 (d1, t1, p1) x2)), (Pv, 1, .int .i64 (cV (fiC s0 z0 (d1, t1, p1) x2) ((fiL s0 z0 (d1, t1, p1) x2).length : Int))), (Pv, 2, .int .i64 (cV (fiC s0 z0 (d1, t1, p1) x2) s0)), (Pv, 3, .slice va vn vc), (w.heap.size + 1, 0, .int .i64 d1), (w.heap.size + 1, 1, .int .i64 t1), (w.heap.size + 1, 2, .int .i64 p1), (w.heap.size, 0, .int .i64 s0), (w.heap.size, 1, .slice a0 l0 c0)] [(bbr, bbr + 1, OL (InR (bbr) (bbr + 1)) ra rn (cL (fiC s0 z0 (d1, t1, p1) x2) (fiL s0 z0 (d1, t1, p1) x2))), (w1.heap.size, w2.heap.size, OL (InR (w1.heap.size) (w2.heap.size)) va vn (cL (fiC s0 z0 (d1, t1, p1) x2) (fiL s0 z0 (d1, t1, p1) x2)))] := (M7.sub (by simp) (by simp)).out ho (by omega) (by simp <;> omega) (by simp <;> omega)
        clear ho M7 q0 q1
        have hlt1 : decide ((1 : Int) + 3 * (l0 : Int) < 0) = false := by simp; omega
        have q0 := M8.cell 0 rfl
        have q1 := M8.cell 1 rfl
        have q2 := M8.cell 2 rfl
        have q3 := M8.cell 3 rfl
        have q4 := M8.cell 4 rfl
        have q5 := M8.cell 5 rfl
        have q6 := M8.cell 6 rfl
        have q7 := M8.cell 7 rfl
        go_wp2_with fail
        refine (eqCR_O (fiC s0 z0 (d1, t1, p1) x2) (cV (fiC s0 z0 (d1, t1, p1) x2) ((fiL s0 z0 (d1, t1, p1) x2).length : Int)) (cV (fiC s0 z0 (d1, t1, p1) x2) s0) _ _ _ _ _ _ _ _ (cL (fiC s0 z0 (d1, t1, p1) x2) (fiL s0 z0 (d1, t1, p1) x2)) _ (M8.get 0 rfl) (M8.get 1 rfl)).mono ?_
        rintro e w9 ⟨rfl, g9⟩
        have zz9 := g9.size
        have M9 := M8.below g9
        clear g9 M8 q0 q1 q2 q3 q4 q5 q6 q7
        have q0 := M9.cell 0 rfl
        have q1 := M9.cell 1 rfl
        have q2 := M9.cell 2 rfl
        have q3 := M9.cell 3 rfl
        go_wp2_with fail
        refine (markCR_O _ _ _ _ _ _ _ _ 1 _ (by omega) (by omega) (M9.get 0 rfl)).mono ?_
        rintro e w10 ⟨rfl, om, ho⟩
        have zz10 := ho.size
        have M10a : Mm w w10 [(Pr, 0, .int .i64 (fiC s0 z0 (d1, t1, p1) x2)), (Pr, 1, .int .i64 (cV (fiC s0 z0 (d1, t1, p1) x2) ((fiL s0 z0 (d1, t1, p1) x2).length : Int))), (Pr, 2, .int .i64 (cV (fiC s0 z0 (d1, t1, p1) x2) s0)), (Pr, 3, .slice ra rn rc), (Pv, 0, .int .i64 (fiC s0 z0 (d1, t1, p1) x2)), (Pv, 1, .int .i64 (cV (fiC s0 z0 (d1, t1, p1) x2) ((fiL s0 z0 (d1, t1, p1) x2).length : Int))), (Pv, 2, .int .i64 (cV (fiC s0 z0 (d1, t1, p1) x2) s0)), (Pv, 3, .slice va vn vc), (w.heap.size + 1, 0, .int .i64 d1), (w.heap.size + 1, 1, .int .i64 t1), (w.heap.size + 1, 2, .int .i64 p1), (w.heap.size, 0, .int .i64 s0), (w.heap.size, 1, .slice a0 l0 c0)] [(w1.heap.size, w2.heap.size, OL (InR (w1.heap.size) (w2.heap.size)) va vn (cL (fiC s0 z0 (d1, t1, p1) x2) (fiL s0 z0 (d1, t1, p1) x2)))] := (M9.sub (by simp) (by simp)).out ho (by omega) (by simp <;> omega) (by simp <;> omega)
        have M10 := M10a.fact OL.loc om
        clear ho om M9 M10a q0 q1 q2 q3
        have q0 := M10.cell 0 rfl
        have q1 := M10.cell 1 rfl
        have q2 := M10.cell 2 rfl
        have q3 := M10.cell 3 rfl
        go_wp2_with fail
        refine (heldCR_O _ _ _ _ _ _ _ _ (M10.get 0 rfl)).mono ?_
        rintro e w11 ⟨rfl, g11⟩
        have zz11 := g11.size
        have M11 := M10.below g11
        clear g11 M10 q0 q1 q2 q3
        have hlt2 : decide ((1 : Int) + 3 * (rn : Int) < 0) = false := by simp; omega
        have q0 := M11.cell 11 rfl
        have q1 := M11.cell 12 rfl
        have q2 := M11.cell 8 rfl
        have q3 := M11.cell 9 rfl
        have q4 := M11.cell 10 rfl
        have lt0 := M11.lt 11 rfl
        have lt1 := M11.lt 12 rfl
        have lt2 := M11.lt 8 rfl
        have lt3 := M11.lt 9 rfl
        have lt4 := M11.lt 10 rfl
        have sr0 := hs0.below M11.bel (Nat.le_refl _)
        go_upto_region 24 with fail
        go_cut [14] (fun v wd => ∃ P ka kn kc , v = .pointer (some ⟨P, 0, none⟩) ∧ wd.cell? ⟨P, 0, none⟩ = some (.int .i64 (fiC s0 z0 (d1, t1, p1) x2)) ∧ wd.frozen? ⟨P, 0, none⟩ = false ∧ wd.cell? ⟨P, 1, none⟩ = some (.int .i64 (cV (fiC s0 z0 (d1, t1, p1) x2) ((fiL s0 z0 (d1, t1, p1) x2).length : Int))) ∧ wd.frozen? ⟨P, 1, none⟩ = false ∧ wd.cell? ⟨P, 2, none⟩ = some (.int .i64 (cV (fiC s0 z0 (d1, t1, p1) x2) s0)) ∧ wd.frozen? ⟨P, 2, none⟩ = false ∧ wd.cell? ⟨P, 3, none⟩ = some (.slice ka kn kc) ∧ wd.frozen? ⟨P, 3, none⟩ = false ∧ OL (InR w11.heap.size wd.heap.size) ka kn (cL (fiC s0 z0 (d1, t1, p1) x2) (fiL s0 z0 (d1, t1, p1) x2)) wd ∧ Below w11.heap.size w11 wd)
        case first =>
          have HS0 : Hid (w11.drew.cell? ⟨w.heap.size, 0, none⟩ = some (.int .i64 s0) ∧ w11.drew.cell? ⟨w.heap.size, 1, none⟩ = some (.slice a0 l0 c0) ∧ w11.drew.cell? ⟨w.heap.size + 1, 0, none⟩ = some (.int .i64 d1) ∧ w11.drew.cell? ⟨w.heap.size + 1, 1, none⟩ = some (.int .i64 t1) ∧ w11.drew.cell? ⟨w.heap.size + 1, 2, none⟩ = some (.int .i64 p1) ∧ Below w11.heap.size w11 w11.drew) := ⟨q0, q1, q2, q3, q4, (Below.refl _ _).drew⟩
          go_region_held2 (fun w' => w'.cell? ⟨w.heap.size, 0, none⟩ = some (.int .i64 s0) ∧ w'.cell? ⟨w.heap.size, 1, none⟩ = some (.slice a0 l0 c0) ∧ w'.cell? ⟨w.heap.size + 1, 0, none⟩ = some (.int .i64 d1) ∧ w'.cell? ⟨w.heap.size + 1, 1, none⟩ = some (.int .i64 t1) ∧ w'.cell? ⟨w.heap.size + 1, 2, none⟩ = some (.int .i64 p1) ∧ Below w11.heap.size w11 w')
            (first | with_reducible exact HS0.out | (repeat (first | with_reducible assumption | with_reducible refine q5_allocd lt0 lt1 lt2 lt3 lt4 ?_ _ | with_reducible refine q5_alloc lt0 lt1 lt2 lt3 lt4 ?_ _ | with_reducible refine q5_set lt0 lt1 lt2 lt3 lt4 ?_ ?_ _ | (show (_ : Nat) ≤ _; exact Nat.le_refl _) | (show (_ : Nat) ≤ _; dsimp only; omega))))
            (first
              | (go_at_call_of 10 (Value.int .i64 s0); refine (toCache_O s0 a0 l0 c0 z0 _ (by omega) ?_).mono ?_; exact sr0.below (q5_bel (by with_reducible assumption)) (Nat.le_refl _); rintro e wa ⟨b_k0, rfl, o0, ga⟩; have hswa := q5_below lt0 lt1 lt2 lt3 lt4 (by with_reducible assumption) ga; have hzwa := ga.size; have hwwa := (q5_bel hswa).size; (try simp only [World.size_alloc, World.size_drew] at hzwa); (try have hqwa := Nat.lt_of_succ_le hzwa); obtain ⟨bc0, bf0⟩ := bcellQ ga; (try simp only [World.size_alloc, World.size_drew] at bc0 bf0); clear ga)
              | (go_at_call 17; refine (toLine_calls d1 t1 p1 _).mono ?_; rintro e wb ⟨rfl, ga⟩; have hswb := q5_below lt0 lt1 lt2 lt3 lt4 (by with_reducible assumption) ga; have hzwb := ga.size; have hwwb := (q5_bel hswb).size; have o0 := Loc.belowA OL.loc o0 ga (by first | exact Below.refl _ _ | exact (Below.refl _ _).alloc (Nat.le_refl _) _); (try simp only [World.size_alloc] at hzwb); (try have hqwb := Nat.lt_of_succ_le hzwb); (try have hrwb := Nat.lt_of_lt_of_le hqwa hzwb); obtain ⟨bc1, bf1⟩ := bcellQ ga; (try simp only [World.size_alloc] at bc1 bf1); clear ga)
              | (go_at_call 18; refine (implFillCache_calls s0 _ _ _ z0 d1 t1 p1 x2 _ hm0 (Nat.le_refl _) (Loc.belowB OL.loc o0 (by first | exact Below.refl _ _ | exact (Below.refl _ _).alloc (Nat.le_refl _) _)).sln).mono ?_; rintro e ws ⟨ka, kn, kc, rfl, os, gs⟩; have hss := q5_below lt0 lt1 lt2 lt3 lt4 (by with_reducible assumption) gs; have hzs := gs.size; have hws := (q5_bel hss).size; obtain ⟨bcs, bfs⟩ := bcellQ gs; (try simp only [World.size_alloc] at hzs bcs bfs); (try have hts := Nat.lt_of_succ_le hzs); (try have hus := Nat.lt_of_lt_of_le hqwb hzs); (try have hvs := Nat.lt_of_lt_of_le hrwb hzs); (try simp only [World.size_alloc] at os); clear gs))
          all_goals go_wp2_with fail
          all_goals go_meet
          all_goals (
            refine ⟨_, ka, kn, kc, rfl, ?c0, ?f0, ?c1, ?f1, ?c2, ?f2, ?c3, ?f3, ?o, ?b⟩
            case b => exact q5_bel (by with_reducible assumption)
            case o => first | (with_reducible exact OL.allocR os (by omega)) | (with_reducible exact OL.set4R os (by omega) (by omega) _ _ _ _ )
            case c0 => first | (go_simp; done) | (with_reducible refine set4_at0 _ _ _ _ _ _ ?_; go_simp; done)
            case f0 => (go_simp; done)
            case c1 => first | (go_simp; done) | (with_reducible refine set4_at1 _ _ _ _ _ _ ?_; go_simp; done)
            case f1 => (go_simp; done)
            case c2 => first | (go_simp; done) | (with_reducible refine set4_at2 _ _ _ _ _ _ ?_; go_simp; done)
            case f2 => (go_simp; done)
            case c3 => first | (go_simp; done) | (with_reducible refine set4_at3 _ _ _ _ _ _ ?_; go_simp; done)
            case f3 => (go_simp; done))
        case rest =>
          obtain ⟨Pk, ka, kn, kc, rfl, cc0, cf0, cc1, cf1, cc2, cf2, cc3, cf3, ok, g12⟩ := hcut
          obtain ⟨w12, rfl⟩ : ∃ x, x = wc := ⟨wc, rfl⟩
          have zz12 := g12.size
          have lPk := World.block_lt_of_cell? _ _ cc0
          have M12 := ((((((M11.below g12).fact OL.loc ok).cons cc3 cf3).cons cc2 cf2).cons cc1 cf1).cons cc0 cf0)
          clear g12 M11 ok cc0 cc1 cc2 cc3 cf0 cf1 cf2 cf3 lt0 lt1 lt2 lt3 lt4 sr0 q0 q1 q2 q3 q4
          have q0 := M12.cell 0 rfl
          have q1 := M12.cell 1 rfl
          have q2 := M12.cell 2 rfl
          have q3 := M12.cell 3 rfl
          have q4 := M12.cell 8 rfl
          have q5 := M12.cell 9 rfl
          have q6 := M12.cell 10 rfl
          have q7 := M12.cell 11 rfl
          go_wp2_with fail
          refine (eqCR_O (fiC s0 z0 (d1, t1, p1) x2) (cV (fiC s0 z0 (d1, t1, p1) x2) ((fiL s0 z0 (d1, t1, p1) x2).length : Int)) (cV (fiC s0 z0 (d1, t1, p1) x2) s0) _ _ _ _ _ _ _ _ (cL (fiC s0 z0 (d1, t1, p1) x2) (fiL s0 z0 (d1, t1, p1) x2)) _ (M12.get 0 rfl) (M12.get 2 rfl)).mono ?_
          rintro e w13 ⟨rfl, g13⟩
          have M13 := M12.below g13
          clear g13 M12 q0 q1 q2 q3 q4 q5 q6 q7
          have q0 := M13.cell 4 rfl
          have q1 := M13.cell 5 rfl
          have q2 := M13.cell 6 rfl
          have q3 := M13.cell 7 rfl
          go_wp2_with fail
          refine (heldCR_O _ _ _ _ _ _ _ _ (M13.get 1 rfl)).mono ?_
          rintro e w14 ⟨rfl, g14⟩
          have zz14 := g14.size
          have M14 := M13.below g14
          clear g14 M13 q0 q1 q2 q3
          have HB := hide M14.bel
          clear M14
          go_wp2
          go_ret
          exact ⟨rfl, HB.out⟩

theorem walk_FillCache (s0 : Int) (a0 : Option Addr) (l0 c0 : Nat) (z0 : List (Int × Int × Int)) (d1 t1 p1 : Int) (x2 : Int) (w : World) (hm0 : l0 ≤ maxLen) (hs0 : Sln w a0 l0 z0) :
    Calls Try.prog 5 #[.agg #[.int .i64 s0, .slice a0 l0 c0], .agg #[.int .i64 d1, .int .i64 t1, .int .i64 p1], .int .i64 x2] w fun e w' => e = .returned (.bool true) ∧ Below w.heap.size w w' := by
  by_cases hz0 : l0 ≤ 1048576
  rotate_left
  · exact law_big0_FillCache s0 a0 l0 c0 z0 d1 t1 p1 x2 w hm0 hs0 (by omega)
  exact law_small_FillCache s0 a0 l0 c0 z0 d1 t1 p1 x2 w hm0 hs0 hz0

end Go.Proofs.Ytfnknfpioagjcaa
