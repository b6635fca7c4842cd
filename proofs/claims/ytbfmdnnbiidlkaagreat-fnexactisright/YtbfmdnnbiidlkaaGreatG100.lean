import Derived.Test.YtbfmdnnbiidlkaaGreatG99
import Derived.Test.YtbfmdnnbiidlkaaGreatG15
import Derived.WalkKit
import Derived.ProofKit
import Derived.OpenShut
import Derived.ShutString
import Derived.ChangeOld
import Derived.Below
import Derived.WalkSpells
import Derived.Deep.QuietTactic
import Derived.BigQuiet
import Derived.Deep.RegionWith
import Derived.Deep.WholeRow
import Derived.Deep.DeepCutAuto
import Derived.Deep.RegionHeld2
import Derived.Deep.AppendLies
import Derived.Deep.RegionLaw
namespace Go.Proofs.YtbfmdnnbiidlkaaGreat
open Go.ChangeShapes Go.WideShapes Go.ChangeAt Go.RowKit

theorem Mm.alloc5 {w u : World} {cs : List (Nat × Nat × Value)} {fs : List (Nat × Nat × (World → Prop))} (h : Mm w u cs fs) (v0 v1 v2 v3 v4 : Value) (t : TypeId) : Mm w (u.alloc (.cells #[v0, v1, v2, v3, v4] t)) ((u.heap.size, 0, v0) :: (u.heap.size, 1, v1) :: (u.heap.size, 2, v2) :: (u.heap.size, 3, v3) :: (u.heap.size, 4, v4) :: cs) fs :=
  (((((h.below ((Below.refl _ _).alloc (Nat.le_refl _) (.cells #[v0, v1, v2, v3, v4] t))).cons (by simp) (by simp)).cons (by simp) (by simp)).cons (by simp) (by simp)).cons (by simp) (by simp)).cons (by simp) (by simp)

theorem q16_bel {W X : World} {A0 A1 A2 A3 A4 A5 A6 A7 A8 A9 A10 A11 A12 A13 A14 A15 : Addr} {v0 v1 v2 v3 v4 v5 v6 v7 v8 v9 v10 v11 v12 v13 v14 v15 : Value} (h : X.cell? A0 = some v0 ∧ X.cell? A1 = some v1 ∧ X.cell? A2 = some v2 ∧ X.cell? A3 = some v3 ∧ X.cell? A4 = some v4 ∧ X.cell? A5 = some v5 ∧ X.cell? A6 = some v6 ∧ X.cell? A7 = some v7 ∧ X.cell? A8 = some v8 ∧ X.cell? A9 = some v9 ∧ X.cell? A10 = some v10 ∧ X.cell? A11 = some v11 ∧ X.cell? A12 = some v12 ∧ X.cell? A13 = some v13 ∧ X.cell? A14 = some v14 ∧ X.cell? A15 = some v15 ∧ Below W.heap.size W X) : Below W.heap.size W X := h.2.2.2.2.2.2.2.2.2.2.2.2.2.2.2.2

theorem q16_below {W X Y : World} {A0 A1 A2 A3 A4 A5 A6 A7 A8 A9 A10 A11 A12 A13 A14 A15 : Addr} {v0 v1 v2 v3 v4 v5 v6 v7 v8 v9 v10 v11 v12 v13 v14 v15 : Value} (h0 : A0.block < W.heap.size) (h1 : A1.block < W.heap.size) (h2 : A2.block < W.heap.size) (h3 : A3.block < W.heap.size) (h4 : A4.block < W.heap.size) (h5 : A5.block < W.heap.size) (h6 : A6.block < W.heap.size) (h7 : A7.block < W.heap.size) (h8 : A8.block < W.heap.size) (h9 : A9.block < W.heap.size) (h10 : A10.block < W.heap.size) (h11 : A11.block < W.heap.size) (h12 : A12.block < W.heap.size) (h13 : A13.block < W.heap.size) (h14 : A14.block < W.heap.size) (h15 : A15.block < W.heap.size) (h : X.cell? A0 = some v0 ∧ X.cell? A1 = some v1 ∧ X.cell? A2 = some v2 ∧ X.cell? A3 = some v3 ∧ X.cell? A4 = some v4 ∧ X.cell? A5 = some v5 ∧ X.cell? A6 = some v6 ∧ X.cell? A7 = some v7 ∧ X.cell? A8 = some v8 ∧ X.cell? A9 = some v9 ∧ X.cell? A10 = some v10 ∧ X.cell? A11 = some v11 ∧ X.cell? A12 = some v12 ∧ X.cell? A13 = some v13 ∧ X.cell? A14 = some v14 ∧ X.cell? A15 = some v15 ∧ Below W.heap.size W X) (g : Below X.heap.size X Y) : Y.cell? A0 = some v0 ∧ Y.cell? A1 = some v1 ∧ Y.cell? A2 = some v2 ∧ Y.cell? A3 = some v3 ∧ Y.cell? A4 = some v4 ∧ Y.cell? A5 = some v5 ∧ Y.cell? A6 = some v6 ∧ Y.cell? A7 = some v7 ∧ Y.cell? A8 = some v8 ∧ Y.cell? A9 = some v9 ∧ Y.cell? A10 = some v10 ∧ Y.cell? A11 = some v11 ∧ Y.cell? A12 = some v12 ∧ Y.cell? A13 = some v13 ∧ Y.cell? A14 = some v14 ∧ Y.cell? A15 = some v15 ∧ Below W.heap.size W Y := by
  have hz := (h.2.2.2.2.2.2.2.2.2.2.2.2.2.2.2.2).size
  exact ⟨(g.cell (by omega)).trans h.1, (g.cell (by omega)).trans h.2.1, (g.cell (by omega)).trans h.2.2.1, (g.cell (by omega)).trans h.2.2.2.1, (g.cell (by omega)).trans h.2.2.2.2.1, (g.cell (by omega)).trans h.2.2.2.2.2.1, (g.cell (by omega)).trans h.2.2.2.2.2.2.1, (g.cell (by omega)).trans h.2.2.2.2.2.2.2.1, (g.cell (by omega)).trans h.2.2.2.2.2.2.2.2.1, (g.cell (by omega)).trans h.2.2.2.2.2.2.2.2.2.1, (g.cell (by omega)).trans h.2.2.2.2.2.2.2.2.2.2.1, (g.cell (by omega)).trans h.2.2.2.2.2.2.2.2.2.2.2.1, (g.cell (by omega)).trans h.2.2.2.2.2.2.2.2.2.2.2.2.1, (g.cell (by omega)).trans h.2.2.2.2.2.2.2.2.2.2.2.2.2.1, (g.cell (by omega)).trans h.2.2.2.2.2.2.2.2.2.2.2.2.2.2.1, (g.cell (by omega)).trans h.2.2.2.2.2.2.2.2.2.2.2.2.2.2.2.1, (h.2.2.2.2.2.2.2.2.2.2.2.2.2.2.2.2).trans (g.mono hz)⟩

theorem q16_alloc {W X : World} {A0 A1 A2 A3 A4 A5 A6 A7 A8 A9 A10 A11 A12 A13 A14 A15 : Addr} {v0 v1 v2 v3 v4 v5 v6 v7 v8 v9 v10 v11 v12 v13 v14 v15 : Value} (h0 : A0.block < W.heap.size) (h1 : A1.block < W.heap.size) (h2 : A2.block < W.heap.size) (h3 : A3.block < W.heap.size) (h4 : A4.block < W.heap.size) (h5 : A5.block < W.heap.size) (h6 : A6.block < W.heap.size) (h7 : A7.block < W.heap.size) (h8 : A8.block < W.heap.size) (h9 : A9.block < W.heap.size) (h10 : A10.block < W.heap.size) (h11 : A11.block < W.heap.size) (h12 : A12.block < W.heap.size) (h13 : A13.block < W.heap.size) (h14 : A14.block < W.heap.size) (h15 : A15.block < W.heap.size) (h : X.cell? A0 = some v0 ∧ X.cell? A1 = some v1 ∧ X.cell? A2 = some v2 ∧ X.cell? A3 = some v3 ∧ X.cell? A4 = some v4 ∧ X.cell? A5 = some v5 ∧ X.cell? A6 = some v6 ∧ X.cell? A7 = some v7 ∧ X.cell? A8 = some v8 ∧ X.cell? A9 = some v9 ∧ X.cell? A10 = some v10 ∧ X.cell? A11 = some v11 ∧ X.cell? A12 = some v12 ∧ X.cell? A13 = some v13 ∧ X.cell? A14 = some v14 ∧ X.cell? A15 = some v15 ∧ Below W.heap.size W X) (o : Obj) : (X.alloc o).cell? A0 = some v0 ∧ (X.alloc o).cell? A1 = some v1 ∧ (X.alloc o).cell? A2 = some v2 ∧ (X.alloc o).cell? A3 = some v3 ∧ (X.alloc o).cell? A4 = some v4 ∧ (X.alloc o).cell? A5 = some v5 ∧ (X.alloc o).cell? A6 = some v6 ∧ (X.alloc o).cell? A7 = some v7 ∧ (X.alloc o).cell? A8 = some v8 ∧ (X.alloc o).cell? A9 = some v9 ∧ (X.alloc o).cell? A10 = some v10 ∧ (X.alloc o).cell? A11 = some v11 ∧ (X.alloc o).cell? A12 = some v12 ∧ (X.alloc o).cell? A13 = some v13 ∧ (X.alloc o).cell? A14 = some v14 ∧ (X.alloc o).cell? A15 = some v15 ∧ Below W.heap.size W (X.alloc o) := q16_below h0 h1 h2 h3 h4 h5 h6 h7 h8 h9 h10 h11 h12 h13 h14 h15 h ((Below.refl _ _).alloc (Nat.le_refl _) o)

theorem q16_allocd {W X : World} {A0 A1 A2 A3 A4 A5 A6 A7 A8 A9 A10 A11 A12 A13 A14 A15 : Addr} {v0 v1 v2 v3 v4 v5 v6 v7 v8 v9 v10 v11 v12 v13 v14 v15 : Value} (h0 : A0.block < W.heap.size) (h1 : A1.block < W.heap.size) (h2 : A2.block < W.heap.size) (h3 : A3.block < W.heap.size) (h4 : A4.block < W.heap.size) (h5 : A5.block < W.heap.size) (h6 : A6.block < W.heap.size) (h7 : A7.block < W.heap.size) (h8 : A8.block < W.heap.size) (h9 : A9.block < W.heap.size) (h10 : A10.block < W.heap.size) (h11 : A11.block < W.heap.size) (h12 : A12.block < W.heap.size) (h13 : A13.block < W.heap.size) (h14 : A14.block < W.heap.size) (h15 : A15.block < W.heap.size) (h : X.drew.cell? A0 = some v0 ∧ X.drew.cell? A1 = some v1 ∧ X.drew.cell? A2 = some v2 ∧ X.drew.cell? A3 = some v3 ∧ X.drew.cell? A4 = some v4 ∧ X.drew.cell? A5 = some v5 ∧ X.drew.cell? A6 = some v6 ∧ X.drew.cell? A7 = some v7 ∧ X.drew.cell? A8 = some v8 ∧ X.drew.cell? A9 = some v9 ∧ X.drew.cell? A10 = some v10 ∧ X.drew.cell? A11 = some v11 ∧ X.drew.cell? A12 = some v12 ∧ X.drew.cell? A13 = some v13 ∧ X.drew.cell? A14 = some v14 ∧ X.drew.cell? A15 = some v15 ∧ Below W.heap.size W X.drew) (o : Obj) : (X.alloc o).drew.cell? A0 = some v0 ∧ (X.alloc o).drew.cell? A1 = some v1 ∧ (X.alloc o).drew.cell? A2 = some v2 ∧ (X.alloc o).drew.cell? A3 = some v3 ∧ (X.alloc o).drew.cell? A4 = some v4 ∧ (X.alloc o).drew.cell? A5 = some v5 ∧ (X.alloc o).drew.cell? A6 = some v6 ∧ (X.alloc o).drew.cell? A7 = some v7 ∧ (X.alloc o).drew.cell? A8 = some v8 ∧ (X.alloc o).drew.cell? A9 = some v9 ∧ (X.alloc o).drew.cell? A10 = some v10 ∧ (X.alloc o).drew.cell? A11 = some v11 ∧ (X.alloc o).drew.cell? A12 = some v12 ∧ (X.alloc o).drew.cell? A13 = some v13 ∧ (X.alloc o).drew.cell? A14 = some v14 ∧ (X.alloc o).drew.cell? A15 = some v15 ∧ Below W.heap.size W (X.alloc o).drew := q16_alloc h0 h1 h2 h3 h4 h5 h6 h7 h8 h9 h10 h11 h12 h13 h14 h15 h o

theorem q16_set {W X : World} {A0 A1 A2 A3 A4 A5 A6 A7 A8 A9 A10 A11 A12 A13 A14 A15 : Addr} {v0 v1 v2 v3 v4 v5 v6 v7 v8 v9 v10 v11 v12 v13 v14 v15 : Value} (h0 : A0.block < W.heap.size) (h1 : A1.block < W.heap.size) (h2 : A2.block < W.heap.size) (h3 : A3.block < W.heap.size) (h4 : A4.block < W.heap.size) (h5 : A5.block < W.heap.size) (h6 : A6.block < W.heap.size) (h7 : A7.block < W.heap.size) (h8 : A8.block < W.heap.size) (h9 : A9.block < W.heap.size) (h10 : A10.block < W.heap.size) (h11 : A11.block < W.heap.size) (h12 : A12.block < W.heap.size) (h13 : A13.block < W.heap.size) (h14 : A14.block < W.heap.size) (h15 : A15.block < W.heap.size) (h : X.cell? A0 = some v0 ∧ X.cell? A1 = some v1 ∧ X.cell? A2 = some v2 ∧ X.cell? A3 = some v3 ∧ X.cell? A4 = some v4 ∧ X.cell? A5 = some v5 ∧ X.cell? A6 = some v6 ∧ X.cell? A7 = some v7 ∧ X.cell? A8 = some v8 ∧ X.cell? A9 = some v9 ∧ X.cell? A10 = some v10 ∧ X.cell? A11 = some v11 ∧ X.cell? A12 = some v12 ∧ X.cell? A13 = some v13 ∧ X.cell? A14 = some v14 ∧ X.cell? A15 = some v15 ∧ Below W.heap.size W X) {p : Addr} (hp : W.heap.size ≤ p.block) (y : Value) : (X.setCell p y).cell? A0 = some v0 ∧ (X.setCell p y).cell? A1 = some v1 ∧ (X.setCell p y).cell? A2 = some v2 ∧ (X.setCell p y).cell? A3 = some v3 ∧ (X.setCell p y).cell? A4 = some v4 ∧ (X.setCell p y).cell? A5 = some v5 ∧ (X.setCell p y).cell? A6 = some v6 ∧ (X.setCell p y).cell? A7 = some v7 ∧ (X.setCell p y).cell? A8 = some v8 ∧ (X.setCell p y).cell? A9 = some v9 ∧ (X.setCell p y).cell? A10 = some v10 ∧ (X.setCell p y).cell? A11 = some v11 ∧ (X.setCell p y).cell? A12 = some v12 ∧ (X.setCell p y).cell? A13 = some v13 ∧ (X.setCell p y).cell? A14 = some v14 ∧ (X.setCell p y).cell? A15 = some v15 ∧ Below W.heap.size W (X.setCell p y) :=
  ⟨(World.cell?_setCell_other _ _ _ _ (fun e => by rw [e] at hp; omega)).trans h.1, (World.cell?_setCell_other _ _ _ _ (fun e => by rw [e] at hp; omega)).trans h.2.1, (World.cell?_setCell_other _ _ _ _ (fun e => by rw [e] at hp; omega)).trans h.2.2.1, (World.cell?_setCell_other _ _ _ _ (fun e => by rw [e] at hp; omega)).trans h.2.2.2.1, (World.cell?_setCell_other _ _ _ _ (fun e => by rw [e] at hp; omega)).trans h.2.2.2.2.1, (World.cell?_setCell_other _ _ _ _ (fun e => by rw [e] at hp; omega)).trans h.2.2.2.2.2.1, (World.cell?_setCell_other _ _ _ _ (fun e => by rw [e] at hp; omega)).trans h.2.2.2.2.2.2.1, (World.cell?_setCell_other _ _ _ _ (fun e => by rw [e] at hp; omega)).trans h.2.2.2.2.2.2.2.1, (World.cell?_setCell_other _ _ _ _ (fun e => by rw [e] at hp; omega)).trans h.2.2.2.2.2.2.2.2.1, (World.cell?_setCell_other _ _ _ _ (fun e => by rw [e] at hp; omega)).trans h.2.2.2.2.2.2.2.2.2.1, (World.cell?_setCell_other _ _ _ _ (fun e => by rw [e] at hp; omega)).trans h.2.2.2.2.2.2.2.2.2.2.1, (World.cell?_setCell_other _ _ _ _ (fun e => by rw [e] at hp; omega)).trans h.2.2.2.2.2.2.2.2.2.2.2.1, (World.cell?_setCell_other _ _ _ _ (fun e => by rw [e] at hp; omega)).trans h.2.2.2.2.2.2.2.2.2.2.2.2.1, (World.cell?_setCell_other _ _ _ _ (fun e => by rw [e] at hp; omega)).trans h.2.2.2.2.2.2.2.2.2.2.2.2.2.1, (World.cell?_setCell_other _ _ _ _ (fun e => by rw [e] at hp; omega)).trans h.2.2.2.2.2.2.2.2.2.2.2.2.2.2.1, (World.cell?_setCell_other _ _ _ _ (fun e => by rw [e] at hp; omega)).trans h.2.2.2.2.2.2.2.2.2.2.2.2.2.2.2.1, (h.2.2.2.2.2.2.2.2.2.2.2.2.2.2.2.2).setCell hp y⟩

set_option maxRecDepth 100000 in
theorem law_big0_IsRight (A0 : SA) (D0 : SD) (d1 b1 i1 t1 : Int) (dn1 : Bool) (w : World) (hs0 : RS w A0 D0) (hbig : 1048576 < szY A0 D0) :
    Calls Tryz.prog 6 #[.agg #[.slice A0.a A0.n A0.c, .slice A0.ta A0.tn A0.tc, .slice A0.da A0.dn A0.dc, .slice A0.wa A0.wn A0.wc, .slice A0.xa A0.xn A0.xc, .int .i64 D0.ac, .int .i64 D0.cz, .slice A0.la A0.ln A0.lc, .int .i64 D0.dv, .slice A0.oa A0.on A0.oc, .slice A0.ga A0.gn A0.gc], .agg #[.int .i64 d1, .int .i64 b1, .int .i64 i1, .int .i64 t1, .bool dn1]] w fun e w' => e = .returned (.bool true) ∧ Below w.heap.size w w' := by
  have M0 := (((Mm.start w).alloc11 (.slice A0.a A0.n A0.c) (.slice A0.ta A0.tn A0.tc) (.slice A0.da A0.dn A0.dc) (.slice A0.wa A0.wn A0.wc) (.slice A0.xa A0.xn A0.xc) (.int .i64 D0.ac) (.int .i64 D0.cz) (.slice A0.la A0.ln A0.lc) (.int .i64 D0.dv) (.slice A0.oa A0.on A0.oc) (.slice A0.ga A0.gn A0.gc) 70).alloc5 (.int .i64 d1) (.int .i64 b1) (.int .i64 i1) (.int .i64 t1) (.bool dn1) 89)
  try simp only [World.size_alloc] at M0
  go_enter Tryz.func6, Tryz.ntmps6
  go_wp2_with fail
  refine (szSystem_calls A0 D0 1048576 _ (by omega) (by omega) (hs0.below M0.bel (Nat.le_refl _))).mono ?_
  rintro e w1 ⟨rfl, g1⟩
  have M1 := M0.below g1
  clear g1 M0
  rw [szI_neg (by omega)]
  have HB := hide M1.bel
  clear M1
  go_wp2
  go_ret
  exact ⟨rfl, HB.out⟩

set_option maxRecDepth 100000 in
set_option maxHeartbeats 16000000 in
theorem law_small_IsRight (A0 : SA) (D0 : SD) (d1 b1 i1 t1 : Int) (dn1 : Bool) (w : World) (hs0 : RS w A0 D0) (hz : szY A0 D0 ≤ 1048576) :
    Calls Tryz.prog 6 #[.agg #[.slice A0.a A0.n A0.c, .slice A0.ta A0.tn A0.tc, .slice A0.da A0.dn A0.dc, .slice A0.wa A0.wn A0.wc, .slice A0.xa A0.xn A0.xc, .int .i64 D0.ac, .int .i64 D0.cz, .slice A0.la A0.ln A0.lc, .int .i64 D0.dv, .slice A0.oa A0.on A0.oc, .slice A0.ga A0.gn A0.gc], .agg #[.int .i64 d1, .int .i64 b1, .int .i64 i1, .int .i64 t1, .bool dn1]] w fun e w' => e = .returned (.bool true) ∧ Below w.heap.size w w' := by
  have hz0 : szY A0 D0 ≤ 1048576 := by omega
  have M0 := (((Mm.start w).alloc11 (.slice A0.a A0.n A0.c) (.slice A0.ta A0.tn A0.tc) (.slice A0.da A0.dn A0.dc) (.slice A0.wa A0.wn A0.wc) (.slice A0.xa A0.xn A0.xc) (.int .i64 D0.ac) (.int .i64 D0.cz) (.slice A0.la A0.ln A0.lc) (.int .i64 D0.dv) (.slice A0.oa A0.on A0.oc) (.slice A0.ga A0.gn A0.gc) 70).alloc5 (.int .i64 d1) (.int .i64 b1) (.int .i64 i1) (.int .i64 t1) (.bool dn1) 89)
  try simp only [World.size_alloc] at M0
  go_enter Tryz.func6, Tryz.ntmps6
  go_wp2_with fail
  refine (szSystem_calls A0 D0 1048576 _ (by omega) (by omega) (hs0.below M0.bel (Nat.le_refl _))).mono ?_
  rintro e w1 ⟨rfl, g1⟩
  have zz1 := g1.size
  try simp only [World.size_alloc] at zz1
  have M1 := M0.below g1
  clear g1 M0
  rw [szI_pos (by omega)]
  have hge0 : ¬ (1048576 - ((szY A0 D0 : Nat) : Int) < 0) := by omega
  have q0 := M1.cell 5 rfl
  have q1 := M1.cell 6 rfl
  have q2 := M1.cell 7 rfl
  have q3 := M1.cell 8 rfl
  have q4 := M1.cell 9 rfl
  have q5 := M1.cell 10 rfl
  have q6 := M1.cell 11 rfl
  have q7 := M1.cell 12 rfl
  have q8 := M1.cell 13 rfl
  have q9 := M1.cell 14 rfl
  have q10 := M1.cell 15 rfl
  have q11 := M1.cell 0 rfl
  have q12 := M1.cell 1 rfl
  have q13 := M1.cell 2 rfl
  have q14 := M1.cell 3 rfl
  have q15 := M1.cell 4 rfl
  have lt0 := M1.lt 5 rfl
  have lt1 := M1.lt 6 rfl
  have lt2 := M1.lt 7 rfl
  have lt3 := M1.lt 8 rfl
  have lt4 := M1.lt 9 rfl
  have lt5 := M1.lt 10 rfl
  have lt6 := M1.lt 11 rfl
  have lt7 := M1.lt 12 rfl
  have lt8 := M1.lt 13 rfl
  have lt9 := M1.lt 14 rfl
  have lt10 := M1.lt 15 rfl
  have lt11 := M1.lt 0 rfl
  have lt12 := M1.lt 1 rfl
  have lt13 := M1.lt 2 rfl
  have lt14 := M1.lt 3 rfl
  have lt15 := M1.lt 4 rfl
  have sr0 := hs0.below M1.bel (Nat.le_refl _)
  go_upto_region 5 with fail
  go_cut [6] (fun v wd => v = .bool (irB D0 d1 b1 t1 dn1) ∧ Below w1.heap.size w1 wd)
  case first =>
    have HS0 : Hid (w1.drew.cell? ⟨w.heap.size, 0, none⟩ = some (.slice A0.a A0.n A0.c) ∧ w1.drew.cell? ⟨w.heap.size, 1, none⟩ = some (.slice A0.ta A0.tn A0.tc) ∧ w1.drew.cell? ⟨w.heap.size, 2, none⟩ = some (.slice A0.da A0.dn A0.dc) ∧ w1.drew.cell? ⟨w.heap.size, 3, none⟩ = some (.slice A0.wa A0.wn A0.wc) ∧ w1.drew.cell? ⟨w.heap.size, 4, none⟩ = some (.slice A0.xa A0.xn A0.xc) ∧ w1.drew.cell? ⟨w.heap.size, 5, none⟩ = some (.int .i64 D0.ac) ∧ w1.drew.cell? ⟨w.heap.size, 6, none⟩ = some (.int .i64 D0.cz) ∧ w1.drew.cell? ⟨w.heap.size, 7, none⟩ = some (.slice A0.la A0.ln A0.lc) ∧ w1.drew.cell? ⟨w.heap.size, 8, none⟩ = some (.int .i64 D0.dv) ∧ w1.drew.cell? ⟨w.heap.size, 9, none⟩ = some (.slice A0.oa A0.on A0.oc) ∧ w1.drew.cell? ⟨w.heap.size, 10, none⟩ = some (.slice A0.ga A0.gn A0.gc) ∧ w1.drew.cell? ⟨w.heap.size + 1, 0, none⟩ = some (.int .i64 d1) ∧ w1.drew.cell? ⟨w.heap.size + 1, 1, none⟩ = some (.int .i64 b1) ∧ w1.drew.cell? ⟨w.heap.size + 1, 2, none⟩ = some (.int .i64 i1) ∧ w1.drew.cell? ⟨w.heap.size + 1, 3, none⟩ = some (.int .i64 t1) ∧ w1.drew.cell? ⟨w.heap.size + 1, 4, none⟩ = some (.bool dn1) ∧ Below w1.heap.size w1 w1.drew) := ⟨q0, q1, q2, q3, q4, q5, q6, q7, q8, q9, q10, q11, q12, q13, q14, q15, (Below.refl _ _).drew⟩
    go_region_held2 (fun w' => w'.cell? ⟨w.heap.size, 0, none⟩ = some (.slice A0.a A0.n A0.c) ∧ w'.cell? ⟨w.heap.size, 1, none⟩ = some (.slice A0.ta A0.tn A0.tc) ∧ w'.cell? ⟨w.heap.size, 2, none⟩ = some (.slice A0.da A0.dn A0.dc) ∧ w'.cell? ⟨w.heap.size, 3, none⟩ = some (.slice A0.wa A0.wn A0.wc) ∧ w'.cell? ⟨w.heap.size, 4, none⟩ = some (.slice A0.xa A0.xn A0.xc) ∧ w'.cell? ⟨w.heap.size, 5, none⟩ = some (.int .i64 D0.ac) ∧ w'.cell? ⟨w.heap.size, 6, none⟩ = some (.int .i64 D0.cz) ∧ w'.cell? ⟨w.heap.size, 7, none⟩ = some (.slice A0.la A0.ln A0.lc) ∧ w'.cell? ⟨w.heap.size, 8, none⟩ = some (.int .i64 D0.dv) ∧ w'.cell? ⟨w.heap.size, 9, none⟩ = some (.slice A0.oa A0.on A0.oc) ∧ w'.cell? ⟨w.heap.size, 10, none⟩ = some (.slice A0.ga A0.gn A0.gc) ∧ w'.cell? ⟨w.heap.size + 1, 0, none⟩ = some (.int .i64 d1) ∧ w'.cell? ⟨w.heap.size + 1, 1, none⟩ = some (.int .i64 b1) ∧ w'.cell? ⟨w.heap.size + 1, 2, none⟩ = some (.int .i64 i1) ∧ w'.cell? ⟨w.heap.size + 1, 3, none⟩ = some (.int .i64 t1) ∧ w'.cell? ⟨w.heap.size + 1, 4, none⟩ = some (.bool dn1) ∧ Below w1.heap.size w1 w')
      (first | with_reducible exact HS0.out | (repeat (first | with_reducible assumption | with_reducible refine q16_allocd lt0 lt1 lt2 lt3 lt4 lt5 lt6 lt7 lt8 lt9 lt10 lt11 lt12 lt13 lt14 lt15 ?_ _ | with_reducible refine q16_alloc lt0 lt1 lt2 lt3 lt4 lt5 lt6 lt7 lt8 lt9 lt10 lt11 lt12 lt13 lt14 lt15 ?_ _ | with_reducible refine q16_set lt0 lt1 lt2 lt3 lt4 lt5 lt6 lt7 lt8 lt9 lt10 lt11 lt12 lt13 lt14 lt15 ?_ ?_ _ | (show (_ : Nat) ≤ _; exact Nat.le_refl _) | (show (_ : Nat) ≤ _; dsimp only; omega))))
      (first
        | (go_at_call_of 26 (Value.slice A0.a A0.n A0.c); refine (toSystem_O A0 D0 _ (by omega) ?_).mono ?_; exact sr0.below (q16_bel (by with_reducible assumption)) (Nat.le_refl _); rintro e wa ⟨b_v0, rfl, o0, ga⟩; have hswa := q16_below lt0 lt1 lt2 lt3 lt4 lt5 lt6 lt7 lt8 lt9 lt10 lt11 lt12 lt13 lt14 lt15 (by with_reducible assumption) ga; have hzwa := ga.size; have hwwa := (q16_bel hswa).size; (try simp only [World.size_drew] at hzwa); (try have hqwa := Nat.lt_of_succ_le hzwa); obtain ⟨bc0, bf0⟩ := bcellQ ga; (try simp only [World.size_drew] at bc0 bf0); clear ga)
        | (go_at_call 39; refine (toAccess_calls d1 b1 i1 t1 dn1 _).mono ?_; rintro e wb ⟨rfl, ga⟩; have hswb := q16_below lt0 lt1 lt2 lt3 lt4 lt5 lt6 lt7 lt8 lt9 lt10 lt11 lt12 lt13 lt14 lt15 (by with_reducible assumption) ga; have hzwb := ga.size; have hwwb := (q16_bel hswb).size; have o0 := Loc.belowA OY.loc o0 ga (by first | exact Below.refl _ _ | exact (Below.refl _ _).alloc (Nat.le_refl _) _); (try simp only [World.size_drew] at hzwb); (try have hqwb := Nat.lt_of_succ_le hzwb); (try have hrwb := Nat.lt_of_lt_of_le hqwa hzwb); obtain ⟨bc1, bf1⟩ := bcellQ ga; (try simp only [World.size_drew] at bc1 bf1); clear ga)
        | (go_at_call 38; refine (specIsRight_calls _ D0 d1 b1 i1 t1 dn1 _ (Loc.belowB OY.loc o0 (by first | exact Below.refl _ _ | exact (Below.refl _ _).alloc (Nat.le_refl _) _)).rs (Loc.belowB OY.loc o0 (by first | exact Below.refl _ _ | exact (Below.refl _ _).alloc (Nat.le_refl _) _)).lk).mono ?_; rintro e ws ⟨rfl, gs⟩; have hss := q16_below lt0 lt1 lt2 lt3 lt4 lt5 lt6 lt7 lt8 lt9 lt10 lt11 lt12 lt13 lt14 lt15 (by with_reducible assumption) gs; have hzs := gs.size; have hws := (q16_bel hss).size; obtain ⟨bcs, bfs⟩ := bcellQ gs; (try simp only [World.size_drew] at hzs bcs bfs); (try have hts := Nat.lt_of_succ_le hzs); (try have hus := Nat.lt_of_lt_of_le hqwb hzs); (try have hvs := Nat.lt_of_lt_of_le hrwb hzs); clear gs))
    all_goals go_wp2_with fail
    all_goals go_meet
    all_goals exact ⟨rfl, q16_bel (by with_reducible assumption)⟩
  case rest =>
    obtain ⟨rfl, g2⟩ := hcut
    obtain ⟨w2, rfl⟩ : ∃ x, x = wc := ⟨wc, rfl⟩
    have zz2 := g2.size
    have M2 := (M1.below g2)
    clear g2 M1 lt0 lt1 lt2 lt3 lt4 lt5 lt6 lt7 lt8 lt9 lt10 lt11 lt12 lt13 lt14 lt15 sr0 q0 q1 q2 q3 q4 q5 q6 q7 q8 q9 q10 q11 q12 q13 q14 q15
    have q0 := M2.cell 5 rfl
    have q1 := M2.cell 6 rfl
    have q2 := M2.cell 7 rfl
    have q3 := M2.cell 8 rfl
    have q4 := M2.cell 9 rfl
    have q5 := M2.cell 10 rfl
    have q6 := M2.cell 11 rfl
    have q7 := M2.cell 12 rfl
    have q8 := M2.cell 13 rfl
    have q9 := M2.cell 14 rfl
    have q10 := M2.cell 15 rfl
    go_wp2_with fail
    refine (toSystem_O A0 D0 _ (by omega) (hs0.below M2.bel (Nat.le_refl _))).mono ?_
    rintro e w3 ⟨b_x0, rfl, ox0, g3⟩
    have zz3 := g3.size
    try simp only [World.size_alloc] at ox0 zz3
    have M3 := ((M2.below g3).fact OY.loc ox0).alloc11 (.slice b_x0.a b_x0.n b_x0.c) (.slice b_x0.ta b_x0.tn b_x0.tc) (.slice b_x0.da b_x0.dn b_x0.dc) (.slice b_x0.wa b_x0.wn b_x0.wc) (.slice b_x0.xa b_x0.xn b_x0.xc) (.int .i64 D0.ac) (.int .i64 D0.cz) (.slice b_x0.la b_x0.ln b_x0.lc) (.int .i64 D0.dv) (.slice b_x0.oa b_x0.on b_x0.oc) (.slice b_x0.ga b_x0.gn b_x0.gc) 47
    clear g3 M2 ox0 q0 q1 q2 q3 q4 q5 q6 q7 q8 q9 q10
    obtain ⟨w4, hX0⟩ : ∃ x, x = w3.alloc (.cells #[.slice b_x0.a b_x0.n b_x0.c, .slice b_x0.ta b_x0.tn b_x0.tc, .slice b_x0.da b_x0.dn b_x0.dc, .slice b_x0.wa b_x0.wn b_x0.wc, .slice b_x0.xa b_x0.xn b_x0.xc, .int .i64 D0.ac, .int .i64 D0.cz, .slice b_x0.la b_x0.ln b_x0.lc, .int .i64 D0.dv, .slice b_x0.oa b_x0.on b_x0.oc, .slice b_x0.ga b_x0.gn b_x0.gc] 47) := ⟨_, rfl⟩
    rw [← hX0] at M3
    have zz4 : w3.heap.size + 1 ≤ w4.heap.size := by rw [hX0]; simp
    have HX0 := hide hX0
    clear hX0
    have q0 := M3.cell 0 rfl
    have q1 := M3.cell 1 rfl
    have q2 := M3.cell 2 rfl
    have q3 := M3.cell 3 rfl
    have q4 := M3.cell 4 rfl
    have q5 := M3.cell 5 rfl
    have q6 := M3.cell 6 rfl
    have q7 := M3.cell 7 rfl
    have q8 := M3.cell 8 rfl
    have q9 := M3.cell 9 rfl
    have q10 := M3.cell 10 rfl
    have q11 := M3.cell 11 rfl
    have q12 := M3.cell 12 rfl
    have q13 := M3.cell 13 rfl
    have q14 := M3.cell 14 rfl
    have q15 := M3.cell 15 rfl
    have lt0 := M3.lt 0 rfl
    have lt1 := M3.lt 1 rfl
    have lt2 := M3.lt 2 rfl
    have lt3 := M3.lt 3 rfl
    have lt4 := M3.lt 4 rfl
    have lt5 := M3.lt 5 rfl
    have lt6 := M3.lt 6 rfl
    have lt7 := M3.lt 7 rfl
    have lt8 := M3.lt 8 rfl
    have lt9 := M3.lt 9 rfl
    have lt10 := M3.lt 10 rfl
    have lt11 := M3.lt 11 rfl
    have lt12 := M3.lt 12 rfl
    have lt13 := M3.lt 13 rfl
    have lt14 := M3.lt 14 rfl
    have lt15 := M3.lt 15 rfl
    have sr0 := M3.get 0 rfl
    have r0 := q0
    have r1 := q1
    have r2 := q2
    have r3 := q3
    have r4 := q4
    have r5 := q5
    have r6 := q6
    have r7 := q7
    have r8 := q8
    have r9 := q9
    have r10 := q10
    have r11 := q11
    have r12 := q12
    have r13 := q13
    have r14 := q14
    have r15 := q15
    rw [HX0.out] at r0
    rw [HX0.out] at r1
    rw [HX0.out] at r2
    rw [HX0.out] at r3
    rw [HX0.out] at r4
    rw [HX0.out] at r5
    rw [HX0.out] at r6
    rw [HX0.out] at r7
    rw [HX0.out] at r8
    rw [HX0.out] at r9
    rw [HX0.out] at r10
    rw [HX0.out] at r11
    rw [HX0.out] at r12
    rw [HX0.out] at r13
    rw [HX0.out] at r14
    rw [HX0.out] at r15
    go_upto_region 7 with fail
    rw [← HX0.out]
    clear HX0 r0 r1 r2 r3 r4 r5 r6 r7 r8 r9 r10 r11 r12 r13 r14 r15
    go_cut [8] (fun v wd => v = .bool (irB D0 d1 b1 t1 dn1) ∧ Below w4.heap.size w4 wd)
    case first =>
      have HS0 : Hid (w4.drew.cell? ⟨w3.heap.size, 0, none⟩ = some (.slice b_x0.a b_x0.n b_x0.c) ∧ w4.drew.cell? ⟨w3.heap.size, 1, none⟩ = some (.slice b_x0.ta b_x0.tn b_x0.tc) ∧ w4.drew.cell? ⟨w3.heap.size, 2, none⟩ = some (.slice b_x0.da b_x0.dn b_x0.dc) ∧ w4.drew.cell? ⟨w3.heap.size, 3, none⟩ = some (.slice b_x0.wa b_x0.wn b_x0.wc) ∧ w4.drew.cell? ⟨w3.heap.size, 4, none⟩ = some (.slice b_x0.xa b_x0.xn b_x0.xc) ∧ w4.drew.cell? ⟨w3.heap.size, 5, none⟩ = some (.int .i64 D0.ac) ∧ w4.drew.cell? ⟨w3.heap.size, 6, none⟩ = some (.int .i64 D0.cz) ∧ w4.drew.cell? ⟨w3.heap.size, 7, none⟩ = some (.slice b_x0.la b_x0.ln b_x0.lc) ∧ w4.drew.cell? ⟨w3.heap.size, 8, none⟩ = some (.int .i64 D0.dv) ∧ w4.drew.cell? ⟨w3.heap.size, 9, none⟩ = some (.slice b_x0.oa b_x0.on b_x0.oc) ∧ w4.drew.cell? ⟨w3.heap.size, 10, none⟩ = some (.slice b_x0.ga b_x0.gn b_x0.gc) ∧ w4.drew.cell? ⟨w.heap.size + 1, 0, none⟩ = some (.int .i64 d1) ∧ w4.drew.cell? ⟨w.heap.size + 1, 1, none⟩ = some (.int .i64 b1) ∧ w4.drew.cell? ⟨w.heap.size + 1, 2, none⟩ = some (.int .i64 i1) ∧ w4.drew.cell? ⟨w.heap.size + 1, 3, none⟩ = some (.int .i64 t1) ∧ w4.drew.cell? ⟨w.heap.size + 1, 4, none⟩ = some (.bool dn1) ∧ Below w4.heap.size w4 w4.drew) := ⟨q0, q1, q2, q3, q4, q5, q6, q7, q8, q9, q10, q11, q12, q13, q14, q15, (Below.refl _ _).drew⟩
      go_region_held2 (fun w' => w'.cell? ⟨w3.heap.size, 0, none⟩ = some (.slice b_x0.a b_x0.n b_x0.c) ∧ w'.cell? ⟨w3.heap.size, 1, none⟩ = some (.slice b_x0.ta b_x0.tn b_x0.tc) ∧ w'.cell? ⟨w3.heap.size, 2, none⟩ = some (.slice b_x0.da b_x0.dn b_x0.dc) ∧ w'.cell? ⟨w3.heap.size, 3, none⟩ = some (.slice b_x0.wa b_x0.wn b_x0.wc) ∧ w'.cell? ⟨w3.heap.size, 4, none⟩ = some (.slice b_x0.xa b_x0.xn b_x0.xc) ∧ w'.cell? ⟨w3.heap.size, 5, none⟩ = some (.int .i64 D0.ac) ∧ w'.cell? ⟨w3.heap.size, 6, none⟩ = some (.int .i64 D0.cz) ∧ w'.cell? ⟨w3.heap.size, 7, none⟩ = some (.slice b_x0.la b_x0.ln b_x0.lc) ∧ w'.cell? ⟨w3.heap.size, 8, none⟩ = some (.int .i64 D0.dv) ∧ w'.cell? ⟨w3.heap.size, 9, none⟩ = some (.slice b_x0.oa b_x0.on b_x0.oc) ∧ w'.cell? ⟨w3.heap.size, 10, none⟩ = some (.slice b_x0.ga b_x0.gn b_x0.gc) ∧ w'.cell? ⟨w.heap.size + 1, 0, none⟩ = some (.int .i64 d1) ∧ w'.cell? ⟨w.heap.size + 1, 1, none⟩ = some (.int .i64 b1) ∧ w'.cell? ⟨w.heap.size + 1, 2, none⟩ = some (.int .i64 i1) ∧ w'.cell? ⟨w.heap.size + 1, 3, none⟩ = some (.int .i64 t1) ∧ w'.cell? ⟨w.heap.size + 1, 4, none⟩ = some (.bool dn1) ∧ Below w4.heap.size w4 w')
        (first | with_reducible exact HS0.out | (repeat (first | with_reducible assumption | with_reducible refine q16_allocd lt0 lt1 lt2 lt3 lt4 lt5 lt6 lt7 lt8 lt9 lt10 lt11 lt12 lt13 lt14 lt15 ?_ _ | with_reducible refine q16_alloc lt0 lt1 lt2 lt3 lt4 lt5 lt6 lt7 lt8 lt9 lt10 lt11 lt12 lt13 lt14 lt15 ?_ _ | with_reducible refine q16_set lt0 lt1 lt2 lt3 lt4 lt5 lt6 lt7 lt8 lt9 lt10 lt11 lt12 lt13 lt14 lt15 ?_ ?_ _ | (show (_ : Nat) ≤ _; exact Nat.le_refl _) | (show (_ : Nat) ≤ _; dsimp only; omega))))
        (first
          | (go_at_call 39; refine (toAccess_calls d1 b1 i1 t1 dn1 _).mono ?_; rintro e wa ⟨rfl, ga⟩; have hswa := q16_below lt0 lt1 lt2 lt3 lt4 lt5 lt6 lt7 lt8 lt9 lt10 lt11 lt12 lt13 lt14 lt15 (by with_reducible assumption) ga; have hzwa := ga.size; have hwwa := (q16_bel hswa).size; (try simp only [World.size_drew] at hzwa); (try have hqwa := Nat.lt_of_succ_le hzwa); obtain ⟨bc0, bf0⟩ := bcellQ ga; (try simp only [World.size_drew] at bc0 bf0); clear ga)
          | (go_at_call 40; refine (implIsRight_calls _ D0 d1 b1 i1 t1 dn1 _ (OY.loc.below (q16_bel (by with_reducible assumption)) sr0).rs (OY.loc.below (q16_bel (by with_reducible assumption)) sr0).lk).mono ?_; rintro e ws ⟨rfl, gs⟩; have hss := q16_below lt0 lt1 lt2 lt3 lt4 lt5 lt6 lt7 lt8 lt9 lt10 lt11 lt12 lt13 lt14 lt15 (by with_reducible assumption) gs; have hzs := gs.size; have hws := (q16_bel hss).size; obtain ⟨bcs, bfs⟩ := bcellQ gs; (try simp only [World.size_drew] at hzs bcs bfs); (try have hts := Nat.lt_of_succ_le hzs); (try have hus := Nat.lt_of_lt_of_le hqwb hzs); (try have hvs := Nat.lt_of_lt_of_le hrwb hzs); clear gs))
      all_goals go_wp2_with fail
      all_goals go_meet
      all_goals exact ⟨rfl, q16_bel (by with_reducible assumption)⟩
    case rest =>
      obtain ⟨rfl, g5⟩ := hcut
      obtain ⟨w5, rfl⟩ : ∃ x, x = wc := ⟨wc, rfl⟩
      have zz5 := g5.size
      have M5 := (M3.below g5)
      clear g5 M3 lt0 lt1 lt2 lt3 lt4 lt5 lt6 lt7 lt8 lt9 lt10 lt11 lt12 lt13 lt14 lt15 sr0 q0 q1 q2 q3 q4 q5 q6 q7 q8 q9 q10 q11 q12 q13 q14 q15
      have hne : ((irB D0 d1 b1 t1 dn1) != (irB D0 d1 b1 t1 dn1)) = false := by simp
      have q0 := M5.cell 0 rfl
      have q1 := M5.cell 1 rfl
      have q2 := M5.cell 2 rfl
      have q3 := M5.cell 3 rfl
      have q4 := M5.cell 4 rfl
      have q5 := M5.cell 5 rfl
      have q6 := M5.cell 6 rfl
      have q7 := M5.cell 7 rfl
      have q8 := M5.cell 8 rfl
      have q9 := M5.cell 9 rfl
      have q10 := M5.cell 10 rfl
      have q11 := M5.cell 16 rfl
      have q12 := M5.cell 17 rfl
      have q13 := M5.cell 18 rfl
      have q14 := M5.cell 19 rfl
      have q15 := M5.cell 20 rfl
      have q16 := M5.cell 21 rfl
      have q17 := M5.cell 22 rfl
      have q18 := M5.cell 23 rfl
      have q19 := M5.cell 24 rfl
      have q20 := M5.cell 25 rfl
      have q21 := M5.cell 26 rfl
      go_upto_region 10 with fail
      go_cut [32] (fun v wd => v = .bool false ∧ Below w5.heap.size w5 wd)
      case first =>
        go_region_with (first
          | (go_at_call 26; refine (toSystem_O A0 D0 _ (by omega) ?_).mono ?_; exact hs0.below M5.drew.bel (Nat.le_refl _); rintro e wa ⟨b_y, rfl, oy, ga⟩; have ha : Below w5.heap.size w5 wa := ((Below.refl w5.heap.size w5).drew).trans ga; have Ma := M5.below ha; have y0 := Ma.cell 0 rfl; have y1 := Ma.cell 1 rfl; have y2 := Ma.cell 2 rfl; have y3 := Ma.cell 3 rfl; have y4 := Ma.cell 4 rfl; have y5 := Ma.cell 5 rfl; have y6 := Ma.cell 6 rfl; have y7 := Ma.cell 7 rfl; have y8 := Ma.cell 8 rfl; have y9 := Ma.cell 9 rfl; have y10 := Ma.cell 10 rfl; clear ga)
          | (go_at_call 29; refine (eqSystem_O _ _ _ _ D0 _ (Ma.get 0 rfl) oy).mono ?_; rintro e wb ⟨rfl, gb⟩; have hb : Below w5.heap.size w5 wb := ha.trans (gb.mono ha.size); clear gb))
        all_goals go_wp2_with fail
        all_goals go_meet
        all_goals exact ⟨rfl, hb⟩
      case rest =>
        obtain ⟨rfl, g6⟩ := hcut
        obtain ⟨w6, rfl⟩ : ∃ x, x = wc := ⟨wc, rfl⟩
        have zz6 := g6.size
        have M6 := M5.below g6
        clear g6 M5 q0 q1 q2 q3 q4 q5 q6 q7 q8 q9 q10 q11 q12 q13 q14 q15 q16 q17 q18 q19 q20 q21
        have HB := hide M6.bel
        clear M6
        go_wp2
        go_ret
        exact ⟨rfl, HB.out⟩

theorem walk_IsRight (A0 : SA) (D0 : SD) (d1 b1 i1 t1 : Int) (dn1 : Bool) (w : World) (hs0 : RS w A0 D0) :
    Calls Tryz.prog 6 #[.agg #[.slice A0.a A0.n A0.c, .slice A0.ta A0.tn A0.tc, .slice A0.da A0.dn A0.dc, .slice A0.wa A0.wn A0.wc, .slice A0.xa A0.xn A0.xc, .int .i64 D0.ac, .int .i64 D0.cz, .slice A0.la A0.ln A0.lc, .int .i64 D0.dv, .slice A0.oa A0.on A0.oc, .slice A0.ga A0.gn A0.gc], .agg #[.int .i64 d1, .int .i64 b1, .int .i64 i1, .int .i64 t1, .bool dn1]] w fun e w' => e = .returned (.bool true) ∧ Below w.heap.size w w' := by
  by_cases hz0 : szY A0 D0 ≤ 1048576
  rotate_left
  · exact law_big0_IsRight A0 D0 d1 b1 i1 t1 dn1 w hs0 (by omega)
  exact law_small_IsRight A0 D0 d1 b1 i1 t1 dn1 w hs0 hz0

end Go.Proofs.YtbfmdnnbiidlkaaGreat
