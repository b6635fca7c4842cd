import Derived.Test.YtnlkigjgloeonaaGreatK4
import Derived.Test.YtnlkigjgloeonaaGreatK2
import Derived.WalkKit
import Derived.ProofKit
import Derived.OpenShut
import Derived.ShutString
import Derived.ChangeOld
import Derived.Below
import Derived.WalkSpells
import Derived.Deep.QuietTactic
import Derived.BigQuiet
import Derived.Deep.RegionWith
import Derived.Deep.WholeRow
import Derived.Deep.DeepCutAuto
import Derived.Deep.RegionHeld2
import Derived.Deep.AppendLies
import Derived.Deep.RegionLaw
namespace Go.Proofs.YtnlkigjgloeonaaGreat
open Go.ChangeShapes Go.WideShapes Go.ChangeAt Go.RowKit

theorem q12_bel {W X : World} {A0 A1 A2 A3 A4 A5 A6 A7 A8 A9 A10 A11 : Addr} {v0 v1 v2 v3 v4 v5 v6 v7 v8 v9 v10 v11 : Value} (h : X.cell? A0 = some v0 ∧ X.cell? A1 = some v1 ∧ X.cell? A2 = some v2 ∧ X.cell? A3 = some v3 ∧ X.cell? A4 = some v4 ∧ X.cell? A5 = some v5 ∧ X.cell? A6 = some v6 ∧ X.cell? A7 = some v7 ∧ X.cell? A8 = some v8 ∧ X.cell? A9 = some v9 ∧ X.cell? A10 = some v10 ∧ X.cell? A11 = some v11 ∧ Below W.heap.size W X) : Below W.heap.size W X := h.2.2.2.2.2.2.2.2.2.2.2.2

theorem q12_below {W X Y : World} {A0 A1 A2 A3 A4 A5 A6 A7 A8 A9 A10 A11 : Addr} {v0 v1 v2 v3 v4 v5 v6 v7 v8 v9 v10 v11 : Value} (h0 : A0.block < W.heap.size) (h1 : A1.block < W.heap.size) (h2 : A2.block < W.heap.size) (h3 : A3.block < W.heap.size) (h4 : A4.block < W.heap.size) (h5 : A5.block < W.heap.size) (h6 : A6.block < W.heap.size) (h7 : A7.block < W.heap.size) (h8 : A8.block < W.heap.size) (h9 : A9.block < W.heap.size) (h10 : A10.block < W.heap.size) (h11 : A11.block < W.heap.size) (h : X.cell? A0 = some v0 ∧ X.cell? A1 = some v1 ∧ X.cell? A2 = some v2 ∧ X.cell? A3 = some v3 ∧ X.cell? A4 = some v4 ∧ X.cell? A5 = some v5 ∧ X.cell? A6 = some v6 ∧ X.cell? A7 = some v7 ∧ X.cell? A8 = some v8 ∧ X.cell? A9 = some v9 ∧ X.cell? A10 = some v10 ∧ X.cell? A11 = some v11 ∧ Below W.heap.size W X) (g : Below X.heap.size X Y) : Y.cell? A0 = some v0 ∧ Y.cell? A1 = some v1 ∧ Y.cell? A2 = some v2 ∧ Y.cell? A3 = some v3 ∧ Y.cell? A4 = some v4 ∧ Y.cell? A5 = some v5 ∧ Y.cell? A6 = some v6 ∧ Y.cell? A7 = some v7 ∧ Y.cell? A8 = some v8 ∧ Y.cell? A9 = some v9 ∧ Y.cell? A10 = some v10 ∧ Y.cell? A11 = some v11 ∧ Below W.heap.size W Y := by
  have hz := (h.2.2.2.2.2.2.2.2.2.2.2.2).size
  exact ⟨(g.cell (by omega)).trans h.1, (g.cell (by omega)).trans h.2.1, (g.cell (by omega)).trans h.2.2.1, (g.cell (by omega)).trans h.2.2.2.1, (g.cell (by omega)).trans h.2.2.2.2.1, (g.cell (by omega)).trans h.2.2.2.2.2.1, (g.cell (by omega)).trans h.2.2.2.2.2.2.1, (g.cell (by omega)).trans h.2.2.2.2.2.2.2.1, (g.cell (by omega)).trans h.2.2.2.2.2.2.2.2.1, (g.cell (by omega)).trans h.2.2.2.2.2.2.2.2.2.1, (g.cell (by omega)).trans h.2.2.2.2.2.2.2.2.2.2.1, (g.cell (by omega)).trans h.2.2.2.2.2.2.2.2.2.2.2.1, (h.2.2.2.2.2.2.2.2.2.2.2.2).trans (g.mono hz)⟩

theorem q12_alloc {W X : World} {A0 A1 A2 A3 A4 A5 A6 A7 A8 A9 A10 A11 : Addr} {v0 v1 v2 v3 v4 v5 v6 v7 v8 v9 v10 v11 : Value} (h0 : A0.block < W.heap.size) (h1 : A1.block < W.heap.size) (h2 : A2.block < W.heap.size) (h3 : A3.block < W.heap.size) (h4 : A4.block < W.heap.size) (h5 : A5.block < W.heap.size) (h6 : A6.block < W.heap.size) (h7 : A7.block < W.heap.size) (h8 : A8.block < W.heap.size) (h9 : A9.block < W.heap.size) (h10 : A10.block < W.heap.size) (h11 : A11.block < W.heap.size) (h : X.cell? A0 = some v0 ∧ X.cell? A1 = some v1 ∧ X.cell? A2 = some v2 ∧ X.cell? A3 = some v3 ∧ X.cell? A4 = some v4 ∧ X.cell? A5 = some v5 ∧ X.cell? A6 = some v6 ∧ X.cell? A7 = some v7 ∧ X.cell? A8 = some v8 ∧ X.cell? A9 = some v9 ∧ X.cell? A10 = some v10 ∧ X.cell? A11 = some v11 ∧ Below W.heap.size W X) (o : Obj) : (X.alloc o).cell? A0 = some v0 ∧ (X.alloc o).cell? A1 = some v1 ∧ (X.alloc o).cell? A2 = some v2 ∧ (X.alloc o).cell? A3 = some v3 ∧ (X.alloc o).cell? A4 = some v4 ∧ (X.alloc o).cell? A5 = some v5 ∧ (X.alloc o).cell? A6 = some v6 ∧ (X.alloc o).cell? A7 = some v7 ∧ (X.alloc o).cell? A8 = some v8 ∧ (X.alloc o).cell? A9 = some v9 ∧ (X.alloc o).cell? A10 = some v10 ∧ (X.alloc o).cell? A11 = some v11 ∧ Below W.heap.size W (X.alloc o) := q12_below h0 h1 h2 h3 h4 h5 h6 h7 h8 h9 h10 h11 h ((Below.refl _ _).alloc (Nat.le_refl _) o)

theorem q12_allocd {W X : World} {A0 A1 A2 A3 A4 A5 A6 A7 A8 A9 A10 A11 : Addr} {v0 v1 v2 v3 v4 v5 v6 v7 v8 v9 v10 v11 : Value} (h0 : A0.block < W.heap.size) (h1 : A1.block < W.heap.size) (h2 : A2.block < W.heap.size) (h3 : A3.block < W.heap.size) (h4 : A4.block < W.heap.size) (h5 : A5.block < W.heap.size) (h6 : A6.block < W.heap.size) (h7 : A7.block < W.heap.size) (h8 : A8.block < W.heap.size) (h9 : A9.block < W.heap.size) (h10 : A10.block < W.heap.size) (h11 : A11.block < W.heap.size) (h : X.drew.cell? A0 = some v0 ∧ X.drew.cell? A1 = some v1 ∧ X.drew.cell? A2 = some v2 ∧ X.drew.cell? A3 = some v3 ∧ X.drew.cell? A4 = some v4 ∧ X.drew.cell? A5 = some v5 ∧ X.drew.cell? A6 = some v6 ∧ X.drew.cell? A7 = some v7 ∧ X.drew.cell? A8 = some v8 ∧ X.drew.cell? A9 = some v9 ∧ X.drew.cell? A10 = some v10 ∧ X.drew.cell? A11 = some v11 ∧ Below W.heap.size W X.drew) (o : Obj) : (X.alloc o).drew.cell? A0 = some v0 ∧ (X.alloc o).drew.cell? A1 = some v1 ∧ (X.alloc o).drew.cell? A2 = some v2 ∧ (X.alloc o).drew.cell? A3 = some v3 ∧ (X.alloc o).drew.cell? A4 = some v4 ∧ (X.alloc o).drew.cell? A5 = some v5 ∧ (X.alloc o).drew.cell? A6 = some v6 ∧ (X.alloc o).drew.cell? A7 = some v7 ∧ (X.alloc o).drew.cell? A8 = some v8 ∧ (X.alloc o).drew.cell? A9 = some v9 ∧ (X.alloc o).drew.cell? A10 = some v10 ∧ (X.alloc o).drew.cell? A11 = some v11 ∧ Below W.heap.size W (X.alloc o).drew := q12_alloc h0 h1 h2 h3 h4 h5 h6 h7 h8 h9 h10 h11 h o

theorem q12_set {W X : World} {A0 A1 A2 A3 A4 A5 A6 A7 A8 A9 A10 A11 : Addr} {v0 v1 v2 v3 v4 v5 v6 v7 v8 v9 v10 v11 : Value} (h0 : A0.block < W.heap.size) (h1 : A1.block < W.heap.size) (h2 : A2.block < W.heap.size) (h3 : A3.block < W.heap.size) (h4 : A4.block < W.heap.size) (h5 : A5.block < W.heap.size) (h6 : A6.block < W.heap.size) (h7 : A7.block < W.heap.size) (h8 : A8.block < W.heap.size) (h9 : A9.block < W.heap.size) (h10 : A10.block < W.heap.size) (h11 : A11.block < W.heap.size) (h : X.cell? A0 = some v0 ∧ X.cell? A1 = some v1 ∧ X.cell? A2 = some v2 ∧ X.cell? A3 = some v3 ∧ X.cell? A4 = some v4 ∧ X.cell? A5 = some v5 ∧ X.cell? A6 = some v6 ∧ X.cell? A7 = some v7 ∧ X.cell? A8 = some v8 ∧ X.cell? A9 = some v9 ∧ X.cell? A10 = some v10 ∧ X.cell? A11 = some v11 ∧ Below W.heap.size W X) {p : Addr} (hp : W.heap.size ≤ p.block) (y : Value) : (X.setCell p y).cell? A0 = some v0 ∧ (X.setCell p y).cell? A1 = some v1 ∧ (X.setCell p y).cell? A2 = some v2 ∧ (X.setCell p y).cell? A3 = some v3 ∧ (X.setCell p y).cell? A4 = some v4 ∧ (X.setCell p y).cell? A5 = some v5 ∧ (X.setCell p y).cell? A6 = some v6 ∧ (X.setCell p y).cell? A7 = some v7 ∧ (X.setCell p y).cell? A8 = some v8 ∧ (X.setCell p y).cell? A9 = some v9 ∧ (X.setCell p y).cell? A10 = some v10 ∧ (X.setCell p y).cell? A11 = some v11 ∧ Below W.heap.size W (X.setCell p y) :=
  ⟨(World.cell?_setCell_other _ _ _ _ (fun e => by rw [e] at hp; omega)).trans h.1, (World.cell?_setCell_other _ _ _ _ (fun e => by rw [e] at hp; omega)).trans h.2.1, (World.cell?_setCell_other _ _ _ _ (fun e => by rw [e] at hp; omega)).trans h.2.2.1, (World.cell?_setCell_other _ _ _ _ (fun e => by rw [e] at hp; omega)).trans h.2.2.2.1, (World.cell?_setCell_other _ _ _ _ (fun e => by rw [e] at hp; omega)).trans h.2.2.2.2.1, (World.cell?_setCell_other _ _ _ _ (fun e => by rw [e] at hp; omega)).trans h.2.2.2.2.2.1, (World.cell?_setCell_other _ _ _ _ (fun e => by rw [e] at hp; omega)).trans h.2.2.2.2.2.2.1, (World.cell?_setCell_other _ _ _ _ (fun e => by rw [e] at hp; omega)).trans h.2.2.2.2.2.2.2.1, (World.cell?_setCell_other _ _ _ _ (fun e => by rw [e] at hp; omega)).trans h.2.2.2.2.2.2.2.2.1, (World.cell?_setCell_other _ _ _ _ (fun e => by rw [e] at hp; omega)).trans h.2.2.2.2.2.2.2.2.2.1, (World.cell?_setCell_other _ _ _ _ (fun e => by rw [e] at hp; omega)).trans h.2.2.2.2.2.2.2.2.2.2.1, (World.cell?_setCell_other _ _ _ _ (fun e => by rw [e] at hp; omega)).trans h.2.2.2.2.2.2.2.2.2.2.2.1, (h.2.2.2.2.2.2.2.2.2.2.2.2).setCell hp y⟩

theorem toLabel_O (a : Option Addr) (n cap : Nat) (zs : List Int) (w : World) (hl : n ≤ 1048576) (hs : Sl w a n zs) :
    Calls Tryz.prog 9 #[.agg #[.slice a n cap]] w fun e w' => ∃ b, e = .returned (.agg #[.slice (some ⟨b, 0, none⟩) n n]) ∧ OS (InR w.heap.size w'.heap.size) (some ⟨b, 0, none⟩) n zs w' ∧ Below w.heap.size w w' :=
  (toLabel_calls a n cap zs w hl hs).mono (fun _ _ h => by obtain ⟨b, e, h1, h2, h3⟩ := h; exact ⟨b, e, OS.ofBlk h2 ⟨h1, h2.1⟩ hs.1 hl, h3⟩)

theorem eqLabel_O (S S' : Nat → Prop) (a b : Option Addr) (n ca cb : Nat) (zs : List Int) (w : World) (hx : OS S a n zs w) (hy : OS S' b n zs w) :
    Calls Tryz.prog 13 #[.agg #[.slice a n ca], .agg #[.slice b n cb]] w fun e w' => e = .returned (.bool true) ∧ Below w.heap.size w w' :=
  (eqLabel_calls a b n ca n cb zs zs w (by have := hx.2.1; unfold maxLen; omega) (by have := hx.2.1; unfold maxLen; omega) hx.sl hy.sl).mono (fun _ _ h => by obtain ⟨h1, h2⟩ := h; exact ⟨by rw [h1, decide_eq_true rfl], h2⟩)

set_option maxRecDepth 100000 in
theorem law_big0_IsQuiet (A0 : SA) (D0 : SD) (a1 : Option Addr) (l1 c1 : Nat) (w : World) (hs0 : RS w A0 D0) (hbig : 1048576 < szY A0 D0) :
    Calls Tryz.prog 4 #[.agg #[.slice A0.a A0.n A0.c, .slice A0.ta A0.tn A0.tc, .slice A0.da A0.dn A0.dc, .slice A0.wa A0.wn A0.wc, .slice A0.xa A0.xn A0.xc, .int .i64 D0.ac, .int .i64 D0.cz, .slice A0.la A0.ln A0.lc, .int .i64 D0.dv, .slice A0.oa A0.on A0.oc, .slice A0.ga A0.gn A0.gc], .agg #[.slice a1 l1 c1]] w fun e w' => e = .returned (.bool true) ∧ Below w.heap.size w w' := by
  have M0 := (((Mm.start w).alloc11 (.slice A0.a A0.n A0.c) (.slice A0.ta A0.tn A0.tc) (.slice A0.da A0.dn A0.dc) (.slice A0.wa A0.wn A0.wc) (.slice A0.xa A0.xn A0.xc) (.int .i64 D0.ac) (.int .i64 D0.cz) (.slice A0.la A0.ln A0.lc) (.int .i64 D0.dv) (.slice A0.oa A0.on A0.oc) (.slice A0.ga A0.gn A0.gc) 37).alloc1 (.slice a1 l1 c1) 39)
  try simp only [World.size_alloc] at M0
  go_enter Tryz.func4, Tryz.ntmps4
  go_wp2_with fail
  refine (szSystem_calls A0 D0 1048576 _ (by omega) (by omega) (hs0.below M0.bel (Nat.le_refl _))).mono ?_
  rintro e w1 ⟨rfl, g1⟩
  have M1 := M0.below g1
  clear g1 M0
  rw [szI_neg (by omega)]
  have HB := hide M1.bel
  clear M1
  go_wp2
  go_ret
  exact ⟨rfl, HB.out⟩

set_option maxRecDepth 100000 in
theorem law_big1_IsQuiet (A0 : SA) (D0 : SD) (a1 : Option Addr) (l1 c1 : Nat) (z1 : List Int) (w : World) (hs0 : RS w A0 D0) (hm1 : l1 ≤ maxLen) (hs1 : Sl w a1 l1 z1) (hz0 : szY A0 D0 ≤ 1048576) (hbig : 1048576 < szY A0 D0 + l1) :
    Calls Tryz.prog 4 #[.agg #[.slice A0.a A0.n A0.c, .slice A0.ta A0.tn A0.tc, .slice A0.da A0.dn A0.dc, .slice A0.wa A0.wn A0.wc, .slice A0.xa A0.xn A0.xc, .int .i64 D0.ac, .int .i64 D0.cz, .slice A0.la A0.ln A0.lc, .int .i64 D0.dv, .slice A0.oa A0.on A0.oc, .slice A0.ga A0.gn A0.gc], .agg #[.slice a1 l1 c1]] w fun e w' => e = .returned (.bool true) ∧ Below w.heap.size w w' := by
  have _ := hs1
  have M0 := (((Mm.start w).alloc11 (.slice A0.a A0.n A0.c) (.slice A0.ta A0.tn A0.tc) (.slice A0.da A0.dn A0.dc) (.slice A0.wa A0.wn A0.wc) (.slice A0.xa A0.xn A0.xc) (.int .i64 D0.ac) (.int .i64 D0.cz) (.slice A0.la A0.ln A0.lc) (.int .i64 D0.dv) (.slice A0.oa A0.on A0.oc) (.slice A0.ga A0.gn A0.gc) 37).alloc1 (.slice a1 l1 c1) 39)
  try simp only [World.size_alloc] at M0
  go_enter Tryz.func4, Tryz.ntmps4
  go_wp2_with fail
  refine (szSystem_calls A0 D0 1048576 _ (by omega) (by omega) (hs0.below M0.bel (Nat.le_refl _))).mono ?_
  rintro e w1 ⟨rfl, g1⟩
  have M1 := M0.below g1
  clear g1 M0
  rw [szI_pos (by omega)]
  have hge0 : ¬ (1048576 - ((szY A0 D0 : Nat) : Int) < 0) := by omega
  have q0_0 := M1.cell 0 rfl
  go_wp2_with fail
  refine (szLabel_calls a1 l1 c1 _ _ (by omega) (by omega) hm1).mono ?_
  rintro e w2 ⟨rfl, g2⟩
  have M2 := M1.below g2
  clear g2 M1
  rw [szI_neg (by omega)]
  have HB := hide M2.bel
  clear M2
  go_wp2
  go_ret
  exact ⟨rfl, HB.out⟩

set_option maxRecDepth 100000 in
set_option maxHeartbeats 16000000 in
theorem law_small_IsQuiet (A0 : SA) (D0 : SD) (a1 : Option Addr) (l1 c1 : Nat) (z1 : List Int) (w : World) (hs0 : RS w A0 D0) (hm1 : l1 ≤ maxLen) (hs1 : Sl w a1 l1 z1) (hz : szY A0 D0 + l1 ≤ 1048576) :
    Calls Tryz.prog 4 #[.agg #[.slice A0.a A0.n A0.c, .slice A0.ta A0.tn A0.tc, .slice A0.da A0.dn A0.dc, .slice A0.wa A0.wn A0.wc, .slice A0.xa A0.xn A0.xc, .int .i64 D0.ac, .int .i64 D0.cz, .slice A0.la A0.ln A0.lc, .int .i64 D0.dv, .slice A0.oa A0.on A0.oc, .slice A0.ga A0.gn A0.gc], .agg #[.slice a1 l1 c1]] w fun e w' => e = .returned (.bool true) ∧ Below w.heap.size w w' := by
  have hz0 : szY A0 D0 ≤ 1048576 := by omega
  have hz1 : l1 ≤ 1048576 := by omega
  have M0 := (((Mm.start w).alloc11 (.slice A0.a A0.n A0.c) (.slice A0.ta A0.tn A0.tc) (.slice A0.da A0.dn A0.dc) (.slice A0.wa A0.wn A0.wc) (.slice A0.xa A0.xn A0.xc) (.int .i64 D0.ac) (.int .i64 D0.cz) (.slice A0.la A0.ln A0.lc) (.int .i64 D0.dv) (.slice A0.oa A0.on A0.oc) (.slice A0.ga A0.gn A0.gc) 37).alloc1 (.slice a1 l1 c1) 39)
  try simp only [World.size_alloc] at M0
  go_enter Tryz.func4, Tryz.ntmps4
  go_wp2_with fail
  refine (szSystem_calls A0 D0 1048576 _ (by omega) (by omega) (hs0.below M0.bel (Nat.le_refl _))).mono ?_
  rintro e w1 ⟨rfl, g1⟩
  have zz1 := g1.size
  try simp only [World.size_alloc] at zz1
  have M1 := M0.below g1
  clear g1 M0
  rw [szI_pos (by omega)]
  have hge0 : ¬ (1048576 - ((szY A0 D0 : Nat) : Int) < 0) := by omega
  have q0 := M1.cell 0 rfl
  go_wp2_with fail
  refine (szLabel_calls a1 l1 c1 _ _ (by omega) (by omega) hm1).mono ?_
  rintro e w2 ⟨rfl, g2⟩
  have zz2 := g2.size
  try simp only [World.size_alloc] at zz2
  have M2 := M1.below g2
  clear g2 M1 q0
  rw [szI_pos (by omega)]
  have hge1 : ¬ (1048576 - ((szY A0 D0 : Nat) : Int) - ((l1 : Nat) : Int) < 0) := by omega
  have q0 := M2.cell 1 rfl
  have q1 := M2.cell 2 rfl
  have q2 := M2.cell 3 rfl
  have q3 := M2.cell 4 rfl
  have q4 := M2.cell 5 rfl
  have q5 := M2.cell 6 rfl
  have q6 := M2.cell 7 rfl
  have q7 := M2.cell 8 rfl
  have q8 := M2.cell 9 rfl
  have q9 := M2.cell 10 rfl
  have q10 := M2.cell 11 rfl
  have q11 := M2.cell 0 rfl
  have lt0 := M2.lt 1 rfl
  have lt1 := M2.lt 2 rfl
  have lt2 := M2.lt 3 rfl
  have lt3 := M2.lt 4 rfl
  have lt4 := M2.lt 5 rfl
  have lt5 := M2.lt 6 rfl
  have lt6 := M2.lt 7 rfl
  have lt7 := M2.lt 8 rfl
  have lt8 := M2.lt 9 rfl
  have lt9 := M2.lt 10 rfl
  have lt10 := M2.lt 11 rfl
  have lt11 := M2.lt 0 rfl
  have sr0 := hs0.below M2.bel (Nat.le_refl _)
  have sr1 := hs1.below M2.bel (Nat.le_refl _)
  go_upto_region 8 with fail
  go_cut [6] (fun v wd => v = .bool (iqB D0 z1) ∧ Below w2.heap.size w2 wd)
  case first =>
    have HS0 : Hid (w2.drew.cell? ⟨w.heap.size, 0, none⟩ = some (.slice A0.a A0.n A0.c) ∧ w2.drew.cell? ⟨w.heap.size, 1, none⟩ = some (.slice A0.ta A0.tn A0.tc) ∧ w2.drew.cell? ⟨w.heap.size, 2, none⟩ = some (.slice A0.da A0.dn A0.dc) ∧ w2.drew.cell? ⟨w.heap.size, 3, none⟩ = some (.slice A0.wa A0.wn A0.wc) ∧ w2.drew.cell? ⟨w.heap.size, 4, none⟩ = some (.slice A0.xa A0.xn A0.xc) ∧ w2.drew.cell? ⟨w.heap.size, 5, none⟩ = some (.int .i64 D0.ac) ∧ w2.drew.cell? ⟨w.heap.size, 6, none⟩ = some (.int .i64 D0.cz) ∧ w2.drew.cell? ⟨w.heap.size, 7, none⟩ = some (.slice A0.la A0.ln A0.lc) ∧ w2.drew.cell? ⟨w.heap.size, 8, none⟩ = some (.int .i64 D0.dv) ∧ w2.drew.cell? ⟨w.heap.size, 9, none⟩ = some (.slice A0.oa A0.on A0.oc) ∧ w2.drew.cell? ⟨w.heap.size, 10, none⟩ = some (.slice A0.ga A0.gn A0.gc) ∧ w2.drew.cell? ⟨w.heap.size + 1, 0, none⟩ = some (.slice a1 l1 c1) ∧ Below w2.heap.size w2 w2.drew) := ⟨q0, q1, q2, q3, q4, q5, q6, q7, q8, q9, q10, q11, (Below.refl _ _).drew⟩
    go_region_held2 (fun w' => w'.cell? ⟨w.heap.size, 0, none⟩ = some (.slice A0.a A0.n A0.c) ∧ w'.cell? ⟨w.heap.size, 1, none⟩ = some (.slice A0.ta A0.tn A0.tc) ∧ w'.cell? ⟨w.heap.size, 2, none⟩ = some (.slice A0.da A0.dn A0.dc) ∧ w'.cell? ⟨w.heap.size, 3, none⟩ = some (.slice A0.wa A0.wn A0.wc) ∧ w'.cell? ⟨w.heap.size, 4, none⟩ = some (.slice A0.xa A0.xn A0.xc) ∧ w'.cell? ⟨w.heap.size, 5, none⟩ = some (.int .i64 D0.ac) ∧ w'.cell? ⟨w.heap.size, 6, none⟩ = some (.int .i64 D0.cz) ∧ w'.cell? ⟨w.heap.size, 7, none⟩ = some (.slice A0.la A0.ln A0.lc) ∧ w'.cell? ⟨w.heap.size, 8, none⟩ = some (.int .i64 D0.dv) ∧ w'.cell? ⟨w.heap.size, 9, none⟩ = some (.slice A0.oa A0.on A0.oc) ∧ w'.cell? ⟨w.heap.size, 10, none⟩ = some (.slice A0.ga A0.gn A0.gc) ∧ w'.cell? ⟨w.heap.size + 1, 0, none⟩ = some (.slice a1 l1 c1) ∧ Below w2.heap.size w2 w')
      (first | with_reducible exact HS0.out | (repeat (first | with_reducible assumption | with_reducible refine q12_allocd lt0 lt1 lt2 lt3 lt4 lt5 lt6 lt7 lt8 lt9 lt10 lt11 ?_ _ | with_reducible refine q12_alloc lt0 lt1 lt2 lt3 lt4 lt5 lt6 lt7 lt8 lt9 lt10 lt11 ?_ _ | with_reducible refine q12_set lt0 lt1 lt2 lt3 lt4 lt5 lt6 lt7 lt8 lt9 lt10 lt11 ?_ ?_ _ | (show (_ : Nat) ≤ _; exact Nat.le_refl _) | (show (_ : Nat) ≤ _; dsimp only; omega))))
      (first
        | (go_at_call_of 8 (Value.slice A0.a A0.n A0.c); refine (toSystem_O A0 D0 _ (by omega) ?_).mono ?_; exact sr0.below (q12_bel (by with_reducible assumption)) (Nat.le_refl _); rintro e wa ⟨b_v0, rfl, o0, ga⟩; have hswa := q12_below lt0 lt1 lt2 lt3 lt4 lt5 lt6 lt7 lt8 lt9 lt10 lt11 (by with_reducible assumption) ga; have hzwa := ga.size; have hwwa := (q12_bel hswa).size; (try simp only [World.size_drew] at hzwa); (try have hqwa := Nat.lt_of_succ_le hzwa); obtain ⟨bc0, bf0⟩ := bcellQ ga; (try simp only [World.size_drew] at bc0 bf0); clear ga)
        | (go_at_call_of 9 (Value.slice a1 l1 c1); refine (toLabel_O a1 l1 c1 z1 _ (by omega) ?_).mono ?_; exact sr1.below (q12_bel (by with_reducible assumption)) (Nat.le_refl _); rintro e wb ⟨b_v1, rfl, o1, ga⟩; have hswb := q12_below lt0 lt1 lt2 lt3 lt4 lt5 lt6 lt7 lt8 lt9 lt10 lt11 (by with_reducible assumption) ga; have hzwb := ga.size; have hwwb := (q12_bel hswb).size; have o0 := Loc.belowA OY.loc o0 ga (by first | exact Below.refl _ _ | exact (Below.refl _ _).alloc (Nat.le_refl _) _); (try simp only [World.size_drew] at hzwb); (try have hqwb := Nat.lt_of_succ_le hzwb); (try have hrwb := Nat.lt_of_lt_of_le hqwa hzwb); obtain ⟨bc1, bf1⟩ := bcellQ ga; (try simp only [World.size_drew] at bc1 bf1); clear ga)
        | (go_at_call 18; refine (specIsQuiet_calls _ D0 _ _ _ z1 _ (Loc.belowB OY.loc o0 (by first | exact Below.refl _ _ | exact (Below.refl _ _).alloc (Nat.le_refl _) _)).rs (Loc.belowB OY.loc o0 (by first | exact Below.refl _ _ | exact (Below.refl _ _).alloc (Nat.le_refl _) _)).lk hm1 (Loc.belowB OS.loc o1 (by first | exact Below.refl _ _ | exact (Below.refl _ _).alloc (Nat.le_refl _) _)).sl).mono ?_; rintro e ws ⟨rfl, gs⟩; have hss := q12_below lt0 lt1 lt2 lt3 lt4 lt5 lt6 lt7 lt8 lt9 lt10 lt11 (by with_reducible assumption) gs; have hzs := gs.size; have hws := (q12_bel hss).size; obtain ⟨bcs, bfs⟩ := bcellQ gs; (try simp only [World.size_drew] at hzs bcs bfs); (try have hts := Nat.lt_of_succ_le hzs); (try have hus := Nat.lt_of_lt_of_le hqwb hzs); (try have hvs := Nat.lt_of_lt_of_le hrwb hzs); clear gs))
    all_goals go_wp2_with fail
    all_goals go_meet
    all_goals exact ⟨rfl, q12_bel (by with_reducible assumption)⟩
  case rest =>
    obtain ⟨rfl, g3⟩ := hcut
    obtain ⟨w3, rfl⟩ : ∃ x, x = wc := ⟨wc, rfl⟩
    have zz3 := g3.size
    have M3 := (M2.below g3)
    clear g3 M2 lt0 lt1 lt2 lt3 lt4 lt5 lt6 lt7 lt8 lt9 lt10 lt11 sr0 sr1 q0 q1 q2 q3 q4 q5 q6 q7 q8 q9 q10 q11
    have q0 := M3.cell 1 rfl
    have q1 := M3.cell 2 rfl
    have q2 := M3.cell 3 rfl
    have q3 := M3.cell 4 rfl
    have q4 := M3.cell 5 rfl
    have q5 := M3.cell 6 rfl
    have q6 := M3.cell 7 rfl
    have q7 := M3.cell 8 rfl
    have q8 := M3.cell 9 rfl
    have q9 := M3.cell 10 rfl
    have q10 := M3.cell 11 rfl
    go_wp2_with fail
    refine (toSystem_O A0 D0 _ (by omega) (hs0.below M3.bel (Nat.le_refl _))).mono ?_
    rintro e w4 ⟨b_x0, rfl, ox0, g4⟩
    have zz4 := g4.size
    try simp only [World.size_alloc] at ox0 zz4
    have M4 := ((M3.below g4).fact OY.loc ox0).alloc11 (.slice b_x0.a b_x0.n b_x0.c) (.slice b_x0.ta b_x0.tn b_x0.tc) (.slice b_x0.da b_x0.dn b_x0.dc) (.slice b_x0.wa b_x0.wn b_x0.wc) (.slice b_x0.xa b_x0.xn b_x0.xc) (.int .i64 D0.ac) (.int .i64 D0.cz) (.slice b_x0.la b_x0.ln b_x0.lc) (.int .i64 D0.dv) (.slice b_x0.oa b_x0.on b_x0.oc) (.slice b_x0.ga b_x0.gn b_x0.gc) 62
    clear g4 M3 ox0 q0 q1 q2 q3 q4 q5 q6 q7 q8 q9 q10
    have q0 := M4.cell 11 rfl
    go_wp2_with fail
    refine (toLabel_O a1 l1 c1 z1 _ (by omega) (hs1.below M4.bel (Nat.le_refl _))).mono ?_
    rintro e w5 ⟨b_x1, rfl, ox1, g5⟩
    have zz5 := g5.size
    try simp only [World.size_alloc] at ox1 zz5
    have M5 := ((M4.below g5).fact OS.loc ox1).alloc1 (.slice (some ⟨b_x1, 0, none⟩) l1 l1) 64
    clear g5 M4 ox1 q0
    have q0 := M5.cell 1 rfl
    have q1 := M5.cell 2 rfl
    have q2 := M5.cell 3 rfl
    have q3 := M5.cell 4 rfl
    have q4 := M5.cell 5 rfl
    have q5 := M5.cell 6 rfl
    have q6 := M5.cell 7 rfl
    have q7 := M5.cell 8 rfl
    have q8 := M5.cell 9 rfl
    have q9 := M5.cell 10 rfl
    have q10 := M5.cell 11 rfl
    have q11 := M5.cell 0 rfl
    go_wp2_with fail
    refine (implIsQuiet_calls _ D0 _ _ _ z1 _ (M5.get 1 rfl).rs (M5.get 1 rfl).lk hm1 (M5.get 0 rfl).sl).mono ?_
    rintro e w6 ⟨rfl, g6⟩
    have zz6 := g6.size
    try simp only [World.size_alloc] at zz6
    have M6 := (M5.below g6)
    clear g6 M5 q0 q1 q2 q3 q4 q5 q6 q7 q8 q9 q10 q11
    have hne : ((iqB D0 z1) != (iqB D0 z1)) = false := by simp
    have q0 := M6.cell 1 rfl
    have q1 := M6.cell 2 rfl
    have q2 := M6.cell 3 rfl
    have q3 := M6.cell 4 rfl
    have q4 := M6.cell 5 rfl
    have q5 := M6.cell 6 rfl
    have q6 := M6.cell 7 rfl
    have q7 := M6.cell 8 rfl
    have q8 := M6.cell 9 rfl
    have q9 := M6.cell 10 rfl
    have q10 := M6.cell 11 rfl
    have q11 := M6.cell 13 rfl
    have q12 := M6.cell 14 rfl
    have q13 := M6.cell 15 rfl
    have q14 := M6.cell 16 rfl
    have q15 := M6.cell 17 rfl
    have q16 := M6.cell 18 rfl
    have q17 := M6.cell 19 rfl
    have q18 := M6.cell 20 rfl
    have q19 := M6.cell 21 rfl
    have q20 := M6.cell 22 rfl
    have q21 := M6.cell 23 rfl
    go_upto_region 14 with fail
    go_cut [39] (fun v wd => v = .bool false ∧ Below w6.heap.size w6 wd)
    case first =>
      go_region_with (first
        | (go_at_call 8; refine (toSystem_O A0 D0 _ (by omega) ?_).mono ?_; exact hs0.below M6.drew.bel (Nat.le_refl _); rintro e wa ⟨b_y, rfl, oy, ga⟩; have ha : Below w6.heap.size w6 wa := ((Below.refl w6.heap.size w6).drew).trans ga; have Ma := M6.below ha; have y0 := Ma.cell 1 rfl; have y1 := Ma.cell 2 rfl; have y2 := Ma.cell 3 rfl; have y3 := Ma.cell 4 rfl; have y4 := Ma.cell 5 rfl; have y5 := Ma.cell 6 rfl; have y6 := Ma.cell 7 rfl; have y7 := Ma.cell 8 rfl; have y8 := Ma.cell 9 rfl; have y9 := Ma.cell 10 rfl; have y10 := Ma.cell 11 rfl; clear ga)
        | (go_at_call 12; refine (eqSystem_O _ _ _ _ D0 _ (Ma.get 1 rfl) oy).mono ?_; rintro e wb ⟨rfl, gb⟩; have hb : Below w6.heap.size w6 wb := ha.trans (gb.mono ha.size); clear gb))
      all_goals go_wp2_with fail
      all_goals go_meet
      all_goals exact ⟨rfl, hb⟩
    case rest =>
      obtain ⟨rfl, g7⟩ := hcut
      obtain ⟨w7, rfl⟩ : ∃ x, x = wc := ⟨wc, rfl⟩
      have zz7 := g7.size
      have M7 := M6.below g7
      clear g7 M6 q0 q1 q2 q3 q4 q5 q6 q7 q8 q9 q10 q11 q12 q13 q14 q15 q16 q17 q18 q19 q20 q21
      have q0 := M7.cell 0 rfl
      have q1 := M7.cell 12 rfl
      go_upto_region 16 with fail
      go_cut [44] (fun v wd => v = .bool false ∧ Below w7.heap.size w7 wd)
      case first =>
        go_region_with (first
          | (go_at_call 9; refine (toLabel_O a1 l1 c1 z1 _ (by omega) ?_).mono ?_; exact hs1.below M7.drew.bel (Nat.le_refl _); rintro e wa ⟨b_y, rfl, oy, ga⟩; have ha : Below w7.heap.size w7 wa := ((Below.refl w7.heap.size w7).drew).trans ga; have Ma := M7.below ha; have y0 := Ma.cell 0 rfl; clear ga)
          | (go_at_call 13; refine (eqLabel_O _ _ _ _ _ _ _ z1 _ (Ma.get 0 rfl) oy).mono ?_; rintro e wb ⟨rfl, gb⟩; have hb : Below w7.heap.size w7 wb := ha.trans (gb.mono ha.size); clear gb))
        all_goals go_wp2_with fail
        all_goals go_meet
        all_goals exact ⟨rfl, hb⟩
      case rest =>
        obtain ⟨rfl, g8⟩ := hcut
        obtain ⟨w8, rfl⟩ : ∃ x, x = wc := ⟨wc, rfl⟩
        have zz8 := g8.size
        have M8 := M7.below g8
        clear g8 M7 q0 q1
        have HB := hide M8.bel
        clear M8
        go_wp2
        go_ret
        exact ⟨rfl, HB.out⟩

theorem walk_IsQuiet (A0 : SA) (D0 : SD) (a1 : Option Addr) (l1 c1 : Nat) (z1 : List Int) (w : World) (hs0 : RS w A0 D0) (hm1 : l1 ≤ maxLen) (hs1 : Sl w a1 l1 z1) :
    Calls Tryz.prog 4 #[.agg #[.slice A0.a A0.n A0.c, .slice A0.ta A0.tn A0.tc, .slice A0.da A0.dn A0.dc, .slice A0.wa A0.wn A0.wc, .slice A0.xa A0.xn A0.xc, .int .i64 D0.ac, .int .i64 D0.cz, .slice A0.la A0.ln A0.lc, .int .i64 D0.dv, .slice A0.oa A0.on A0.oc, .slice A0.ga A0.gn A0.gc], .agg #[.slice a1 l1 c1]] w fun e w' => e = .returned (.bool true) ∧ Below w.heap.size w w' := by
  by_cases hz0 : szY A0 D0 ≤ 1048576
  rotate_left
  · exact law_big0_IsQuiet A0 D0 a1 l1 c1 w hs0 (by omega)
  by_cases hz1 : szY A0 D0 + l1 ≤ 1048576
  rotate_left
  · exact law_big1_IsQuiet A0 D0 a1 l1 c1 z1 w hs0 hm1 hs1 hz0 (by omega)
  exact law_small_IsQuiet A0 D0 a1 l1 c1 z1 w hs0 hm1 hs1 hz1

end Go.Proofs.YtnlkigjgloeonaaGreat
