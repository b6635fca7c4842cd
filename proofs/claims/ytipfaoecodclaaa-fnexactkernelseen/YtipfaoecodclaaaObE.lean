import Derived.Test.YtipfaoecodclaaaObL
import Derived.WalkKit
import Derived.ProofKit
import Derived.OpenShut
import Derived.ShutString
import Derived.ChangeOld
import Derived.Below
import Derived.WalkSpells
import Derived.Deep.QuietTactic
import Derived.BigQuiet
import Derived.Deep.RegionWith
import Derived.Deep.WholeRow
import Derived.Deep.DeepCutAuto
import Derived.Deep.RegionHeld2
import Derived.Deep.AppendLies
import Derived.Deep.RegionLaw
namespace Go.Proofs.Ytipfaoecodclaaa
open Go.ChangeShapes Go.WideShapes Go.ChangeAt Go.RowKit

theorem q14_bel {W X : World} {A0 A1 A2 A3 A4 A5 A6 A7 A8 A9 A10 A11 A12 A13 : Addr} {v0 v1 v2 v3 v4 v5 v6 v7 v8 v9 v10 v11 v12 v13 : Value} (h : X.cell? A0 = some v0 ∧ X.cell? A1 = some v1 ∧ X.cell? A2 = some v2 ∧ X.cell? A3 = some v3 ∧ X.cell? A4 = some v4 ∧ X.cell? A5 = some v5 ∧ X.cell? A6 = some v6 ∧ X.cell? A7 = some v7 ∧ X.cell? A8 = some v8 ∧ X.cell? A9 = some v9 ∧ X.cell? A10 = some v10 ∧ X.cell? A11 = some v11 ∧ X.cell? A12 = some v12 ∧ X.cell? A13 = some v13 ∧ Below W.heap.size W X) : Below W.heap.size W X := h.2.2.2.2.2.2.2.2.2.2.2.2.2.2

theorem q14_below {W X Y : World} {A0 A1 A2 A3 A4 A5 A6 A7 A8 A9 A10 A11 A12 A13 : Addr} {v0 v1 v2 v3 v4 v5 v6 v7 v8 v9 v10 v11 v12 v13 : Value} (h0 : A0.block < W.heap.size) (h1 : A1.block < W.heap.size) (h2 : A2.block < W.heap.size) (h3 : A3.block < W.heap.size) (h4 : A4.block < W.heap.size) (h5 : A5.block < W.heap.size) (h6 : A6.block < W.heap.size) (h7 : A7.block < W.heap.size) (h8 : A8.block < W.heap.size) (h9 : A9.block < W.heap.size) (h10 : A10.block < W.heap.size) (h11 : A11.block < W.heap.size) (h12 : A12.block < W.heap.size) (h13 : A13.block < W.heap.size) (h : X.cell? A0 = some v0 ∧ X.cell? A1 = some v1 ∧ X.cell? A2 = some v2 ∧ X.cell? A3 = some v3 ∧ X.cell? A4 = some v4 ∧ X.cell? A5 = some v5 ∧ X.cell? A6 = some v6 ∧ X.cell? A7 = some v7 ∧ X.cell? A8 = some v8 ∧ X.cell? A9 = some v9 ∧ X.cell? A10 = some v10 ∧ X.cell? A11 = some v11 ∧ X.cell? A12 = some v12 ∧ X.cell? A13 = some v13 ∧ Below W.heap.size W X) (g : Below X.heap.size X Y) : Y.cell? A0 = some v0 ∧ Y.cell? A1 = some v1 ∧ Y.cell? A2 = some v2 ∧ Y.cell? A3 = some v3 ∧ Y.cell? A4 = some v4 ∧ Y.cell? A5 = some v5 ∧ Y.cell? A6 = some v6 ∧ Y.cell? A7 = some v7 ∧ Y.cell? A8 = some v8 ∧ Y.cell? A9 = some v9 ∧ Y.cell? A10 = some v10 ∧ Y.cell? A11 = some v11 ∧ Y.cell? A12 = some v12 ∧ Y.cell? A13 = some v13 ∧ Below W.heap.size W Y := by
  have hz := (h.2.2.2.2.2.2.2.2.2.2.2.2.2.2).size
  exact ⟨(g.cell (by omega)).trans h.1, (g.cell (by omega)).trans h.2.1, (g.cell (by omega)).trans h.2.2.1, (g.cell (by omega)).trans h.2.2.2.1, (g.cell (by omega)).trans h.2.2.2.2.1, (g.cell (by omega)).trans h.2.2.2.2.2.1, (g.cell (by omega)).trans h.2.2.2.2.2.2.1, (g.cell (by omega)).trans h.2.2.2.2.2.2.2.1, (g.cell (by omega)).trans h.2.2.2.2.2.2.2.2.1, (g.cell (by omega)).trans h.2.2.2.2.2.2.2.2.2.1, (g.cell (by omega)).trans h.2.2.2.2.2.2.2.2.2.2.1, (g.cell (by omega)).trans h.2.2.2.2.2.2.2.2.2.2.2.1, (g.cell (by omega)).trans h.2.2.2.2.2.2.2.2.2.2.2.2.1, (g.cell (by omega)).trans h.2.2.2.2.2.2.2.2.2.2.2.2.2.1, (h.2.2.2.2.2.2.2.2.2.2.2.2.2.2).trans (g.mono hz)⟩

theorem q14_alloc {W X : World} {A0 A1 A2 A3 A4 A5 A6 A7 A8 A9 A10 A11 A12 A13 : Addr} {v0 v1 v2 v3 v4 v5 v6 v7 v8 v9 v10 v11 v12 v13 : Value} (h0 : A0.block < W.heap.size) (h1 : A1.block < W.heap.size) (h2 : A2.block < W.heap.size) (h3 : A3.block < W.heap.size) (h4 : A4.block < W.heap.size) (h5 : A5.block < W.heap.size) (h6 : A6.block < W.heap.size) (h7 : A7.block < W.heap.size) (h8 : A8.block < W.heap.size) (h9 : A9.block < W.heap.size) (h10 : A10.block < W.heap.size) (h11 : A11.block < W.heap.size) (h12 : A12.block < W.heap.size) (h13 : A13.block < W.heap.size) (h : X.cell? A0 = some v0 ∧ X.cell? A1 = some v1 ∧ X.cell? A2 = some v2 ∧ X.cell? A3 = some v3 ∧ X.cell? A4 = some v4 ∧ X.cell? A5 = some v5 ∧ X.cell? A6 = some v6 ∧ X.cell? A7 = some v7 ∧ X.cell? A8 = some v8 ∧ X.cell? A9 = some v9 ∧ X.cell? A10 = some v10 ∧ X.cell? A11 = some v11 ∧ X.cell? A12 = some v12 ∧ X.cell? A13 = some v13 ∧ Below W.heap.size W X) (o : Obj) : (X.alloc o).cell? A0 = some v0 ∧ (X.alloc o).cell? A1 = some v1 ∧ (X.alloc o).cell? A2 = some v2 ∧ (X.alloc o).cell? A3 = some v3 ∧ (X.alloc o).cell? A4 = some v4 ∧ (X.alloc o).cell? A5 = some v5 ∧ (X.alloc o).cell? A6 = some v6 ∧ (X.alloc o).cell? A7 = some v7 ∧ (X.alloc o).cell? A8 = some v8 ∧ (X.alloc o).cell? A9 = some v9 ∧ (X.alloc o).cell? A10 = some v10 ∧ (X.alloc o).cell? A11 = some v11 ∧ (X.alloc o).cell? A12 = some v12 ∧ (X.alloc o).cell? A13 = some v13 ∧ Below W.heap.size W (X.alloc o) := q14_below h0 h1 h2 h3 h4 h5 h6 h7 h8 h9 h10 h11 h12 h13 h ((Below.refl _ _).alloc (Nat.le_refl _) o)

theorem q14_allocd {W X : World} {A0 A1 A2 A3 A4 A5 A6 A7 A8 A9 A10 A11 A12 A13 : Addr} {v0 v1 v2 v3 v4 v5 v6 v7 v8 v9 v10 v11 v12 v13 : Value} (h0 : A0.block < W.heap.size) (h1 : A1.block < W.heap.size) (h2 : A2.block < W.heap.size) (h3 : A3.block < W.heap.size) (h4 : A4.block < W.heap.size) (h5 : A5.block < W.heap.size) (h6 : A6.block < W.heap.size) (h7 : A7.block < W.heap.size) (h8 : A8.block < W.heap.size) (h9 : A9.block < W.heap.size) (h10 : A10.block < W.heap.size) (h11 : A11.block < W.heap.size) (h12 : A12.block < W.heap.size) (h13 : A13.block < W.heap.size) (h : X.drew.cell? A0 = some v0 ∧ X.drew.cell? A1 = some v1 ∧ X.drew.cell? A2 = some v2 ∧ X.drew.cell? A3 = some v3 ∧ X.drew.cell? A4 = some v4 ∧ X.drew.cell? A5 = some v5 ∧ X.drew.cell? A6 = some v6 ∧ X.drew.cell? A7 = some v7 ∧ X.drew.cell? A8 = some v8 ∧ X.drew.cell? A9 = some v9 ∧ X.drew.cell? A10 = some v10 ∧ X.drew.cell? A11 = some v11 ∧ X.drew.cell? A12 = some v12 ∧ X.drew.cell? A13 = some v13 ∧ Below W.heap.size W X.drew) (o : Obj) : (X.alloc o).drew.cell? A0 = some v0 ∧ (X.alloc o).drew.cell? A1 = some v1 ∧ (X.alloc o).drew.cell? A2 = some v2 ∧ (X.alloc o).drew.cell? A3 = some v3 ∧ (X.alloc o).drew.cell? A4 = some v4 ∧ (X.alloc o).drew.cell? A5 = some v5 ∧ (X.alloc o).drew.cell? A6 = some v6 ∧ (X.alloc o).drew.cell? A7 = some v7 ∧ (X.alloc o).drew.cell? A8 = some v8 ∧ (X.alloc o).drew.cell? A9 = some v9 ∧ (X.alloc o).drew.cell? A10 = some v10 ∧ (X.alloc o).drew.cell? A11 = some v11 ∧ (X.alloc o).drew.cell? A12 = some v12 ∧ (X.alloc o).drew.cell? A13 = some v13 ∧ Below W.heap.size W (X.alloc o).drew := q14_alloc h0 h1 h2 h3 h4 h5 h6 h7 h8 h9 h10 h11 h12 h13 h o

theorem q14_set {W X : World} {A0 A1 A2 A3 A4 A5 A6 A7 A8 A9 A10 A11 A12 A13 : Addr} {v0 v1 v2 v3 v4 v5 v6 v7 v8 v9 v10 v11 v12 v13 : Value} (h0 : A0.block < W.heap.size) (h1 : A1.block < W.heap.size) (h2 : A2.block < W.heap.size) (h3 : A3.block < W.heap.size) (h4 : A4.block < W.heap.size) (h5 : A5.block < W.heap.size) (h6 : A6.block < W.heap.size) (h7 : A7.block < W.heap.size) (h8 : A8.block < W.heap.size) (h9 : A9.block < W.heap.size) (h10 : A10.block < W.heap.size) (h11 : A11.block < W.heap.size) (h12 : A12.block < W.heap.size) (h13 : A13.block < W.heap.size) (h : X.cell? A0 = some v0 ∧ X.cell? A1 = some v1 ∧ X.cell? A2 = some v2 ∧ X.cell? A3 = some v3 ∧ X.cell? A4 = some v4 ∧ X.cell? A5 = some v5 ∧ X.cell? A6 = some v6 ∧ X.cell? A7 = some v7 ∧ X.cell? A8 = some v8 ∧ X.cell? A9 = some v9 ∧ X.cell? A10 = some v10 ∧ X.cell? A11 = some v11 ∧ X.cell? A12 = some v12 ∧ X.cell? A13 = some v13 ∧ Below W.heap.size W X) {p : Addr} (hp : W.heap.size ≤ p.block) (y : Value) : (X.setCell p y).cell? A0 = some v0 ∧ (X.setCell p y).cell? A1 = some v1 ∧ (X.setCell p y).cell? A2 = some v2 ∧ (X.setCell p y).cell? A3 = some v3 ∧ (X.setCell p y).cell? A4 = some v4 ∧ (X.setCell p y).cell? A5 = some v5 ∧ (X.setCell p y).cell? A6 = some v6 ∧ (X.setCell p y).cell? A7 = some v7 ∧ (X.setCell p y).cell? A8 = some v8 ∧ (X.setCell p y).cell? A9 = some v9 ∧ (X.setCell p y).cell? A10 = some v10 ∧ (X.setCell p y).cell? A11 = some v11 ∧ (X.setCell p y).cell? A12 = some v12 ∧ (X.setCell p y).cell? A13 = some v13 ∧ Below W.heap.size W (X.setCell p y) :=
  ⟨(World.cell?_setCell_other _ _ _ _ (fun e => by rw [e] at hp; omega)).trans h.1, (World.cell?_setCell_other _ _ _ _ (fun e => by rw [e] at hp; omega)).trans h.2.1, (World.cell?_setCell_other _ _ _ _ (fun e => by rw [e] at hp; omega)).trans h.2.2.1, (World.cell?_setCell_other _ _ _ _ (fun e => by rw [e] at hp; omega)).trans h.2.2.2.1, (World.cell?_setCell_other _ _ _ _ (fun e => by rw [e] at hp; omega)).trans h.2.2.2.2.1, (World.cell?_setCell_other _ _ _ _ (fun e => by rw [e] at hp; omega)).trans h.2.2.2.2.2.1, (World.cell?_setCell_other _ _ _ _ (fun e => by rw [e] at hp; omega)).trans h.2.2.2.2.2.2.1, (World.cell?_setCell_other _ _ _ _ (fun e => by rw [e] at hp; omega)).trans h.2.2.2.2.2.2.2.1, (World.cell?_setCell_other _ _ _ _ (fun e => by rw [e] at hp; omega)).trans h.2.2.2.2.2.2.2.2.1, (World.cell?_setCell_other _ _ _ _ (fun e => by rw [e] at hp; omega)).trans h.2.2.2.2.2.2.2.2.2.1, (World.cell?_setCell_other _ _ _ _ (fun e => by rw [e] at hp; omega)).trans h.2.2.2.2.2.2.2.2.2.2.1, (World.cell?_setCell_other _ _ _ _ (fun e => by rw [e] at hp; omega)).trans h.2.2.2.2.2.2.2.2.2.2.2.1, (World.cell?_setCell_other _ _ _ _ (fun e => by rw [e] at hp; omega)).trans h.2.2.2.2.2.2.2.2.2.2.2.2.1, (World.cell?_setCell_other _ _ _ _ (fun e => by rw [e] at hp; omega)).trans h.2.2.2.2.2.2.2.2.2.2.2.2.2.1, (h.2.2.2.2.2.2.2.2.2.2.2.2.2.2).setCell hp y⟩

set_option maxRecDepth 100000 in
set_option maxHeartbeats 1000000 in
theorem eqObject_calls (x : OB) (la lb : Option Addr) (lc mc : Nat) (da db : Option Addr) (dc nc : Nat) (w : World) (hl : x.2.2.2.1.length ≤ maxLen) (hd : x.2.2.2.2.2.2.length ≤ maxLen) (h1 : Sl w la x.2.2.2.1.length x.2.2.2.1) (h2 : Sl w lb x.2.2.2.1.length x.2.2.2.1) (h3 : Sl w da x.2.2.2.2.2.2.length x.2.2.2.2.2.2) (h4 : Sl w db x.2.2.2.2.2.2.length x.2.2.2.2.2.2) :
    Calls Try.prog 44 #[.agg #[.int .i64 x.1, .int .i64 x.2.1, .int .i64 x.2.2.1, .slice la x.2.2.2.1.length lc, .int .i64 x.2.2.2.2.1, .int .i64 x.2.2.2.2.2.1, .slice da x.2.2.2.2.2.2.length dc], .agg #[.int .i64 x.1, .int .i64 x.2.1, .int .i64 x.2.2.1, .slice lb x.2.2.2.1.length mc, .int .i64 x.2.2.2.2.1, .int .i64 x.2.2.2.2.2.1, .slice db x.2.2.2.2.2.2.length nc]] w fun e w' => e = .returned (.bool true) ∧ Below w.heap.size w w' := by
  have M0 := ((Mm.start w).allocC [.int .i64 x.1, .int .i64 x.2.1, .int .i64 x.2.2.1, .slice la x.2.2.2.1.length lc, .int .i64 x.2.2.2.2.1, .int .i64 x.2.2.2.2.2.1, .slice da x.2.2.2.2.2.2.length dc] 57).allocC [.int .i64 x.1, .int .i64 x.2.1, .int .i64 x.2.2.1, .slice lb x.2.2.2.1.length mc, .int .i64 x.2.2.2.2.1, .int .i64 x.2.2.2.2.2.1, .slice db x.2.2.2.2.2.2.length nc] 57
  simp only [World.size_alloc] at M0
  have n0 : (x.1 != x.1) = false := by simp
  have n1 : (x.2.1 != x.2.1) = false := by simp
  have n2 : (x.2.2.1 != x.2.2.1) = false := by simp
  have n4 : (x.2.2.2.2.1 != x.2.2.2.2.1) = false := by simp
  have n5 : (x.2.2.2.2.2.1 != x.2.2.2.2.2.1) = false := by simp
  go_enter Try.func44, Try.ntmps44
  go_wp2_with fail
  refine (eqLabel_calls la lb _ lc _ mc x.2.2.2.1 x.2.2.2.1 _ hl hl (h1.below M0.bel (Nat.le_refl _)) (h2.below M0.bel (Nat.le_refl _))).mono ?_
  rintro e w1 ⟨rfl, g1⟩
  rw [decide_eq_true rfl]
  have M1 := M0.below g1
  have a4 := (M1.get 1 rfl).cell 4 rfl
  have a5 := (M1.get 1 rfl).cell 5 rfl
  have a6 := (M1.get 1 rfl).cell 6 rfl
  have b4 := (M1.get 0 rfl).cell 4 rfl
  have b5 := (M1.get 0 rfl).cell 5 rfl
  have b6 := (M1.get 0 rfl).cell 6 rfl
  clear M0 g1
  go_wp2_with fail
  refine (eqInts_calls da db _ dc _ nc x.2.2.2.2.2.2 x.2.2.2.2.2.2 _ hd hd (h3.below M1.bel (Nat.le_refl _)) (h4.below M1.bel (Nat.le_refl _))).mono ?_
  rintro e w2 ⟨rfl, g2⟩
  rw [decide_eq_true rfl]
  have HB := hide (M1.below g2).bel
  clear M1 g2 a4 a5 a6 b4 b5 b6
  go_wp2
  go_ret
  exact ⟨rfl, HB.out⟩

set_option maxRecDepth 100000 in
set_option maxHeartbeats 2000000 in
theorem eqObjectS_calls (a b : Option Addr) (n ca cb : Nat) (xs : List OB) (w : World) (hn : n ≤ maxLen) (hx : Sob w a n xs) (hy : Sob w b n xs) :
    Calls Try.prog 22 #[.slice a n ca, .slice b n cb] w fun e w' => e = .returned (.bool true) ∧ Below w.heap.size w w' := by
  unfold maxLen at hn
  obtain ⟨hlen, hx⟩ := hx
  obtain ⟨_, hy⟩ := hy
  have hnn : ((n : Int) != (n : Int)) = false := by simp
  go_enter Try.func22, Try.ntmps22
  go_wp2
  clear hnn
  go_loopw [5] (fun i wr => ∃ k : Nat, k ≤ n ∧ i = .int .i64 k ∧ Below w.heap.size w wr) (fun i _ => n - (intOf i).toNat)
  case atStart => exact ⟨0, Nat.zero_le _, rfl, Below.refl _ _⟩
  case round =>
    obtain ⟨k, hk, rfl, hbel⟩ := hrel
    by_cases hlt : k < n
    · obtain ⟨b1, o1, rfl, hb1, hc1⟩ := hx (by omega)
      obtain ⟨b2, o2, rfl, hb2, hc2⟩ := hy (by omega)
      obtain ⟨la, lc, da, dc, p7, pl, ps, pd, pt⟩ := hc1 k hlt
      obtain ⟨lb, mc, db, nc, q7, _, qs, _, qt⟩ := hc2 k hlt
      obtain ⟨p0, p1, p2, p3, p4, p5, p6⟩ := p7.of_block (hbel.block b1 hb1)
      obtain ⟨q0, q1, q2, q3, q4, q5, q6⟩ := q7.of_block (hbel.block b2 hb2)
      have H1 := hide (ps.below hbel (Nat.le_refl _))
      have H2 := hide (qs.below hbel (Nat.le_refl _))
      have H3 := hide (pt.below hbel (Nat.le_refl _))
      have H4 := hide (qt.below hbel (Nat.le_refl _))
      have i0 : (0 : Int) ≤ (k : Int) := by omega
      have i1 : (k : Int) < (n : Int) := by omega
      have k1 : b1 < wr.heap.size := by have := hbel.size; omega
      have k2 : b2 < wr.heap.size := by have := hbel.size; omega
      have HS0 : Hid (wr.drew.cell? ⟨b1, o1 + k * 7, none⟩ = some (.int .i64 (gO xs k).1) ∧ wr.drew.cell? ⟨b1, o1 + k * 7 + 1, none⟩ = some (.int .i64 (gO xs k).2.1) ∧ wr.drew.cell? ⟨b1, o1 + k * 7 + 2, none⟩ = some (.int .i64 (gO xs k).2.2.1) ∧ wr.drew.cell? ⟨b1, o1 + k * 7 + 3, none⟩ = some (.slice la (gO xs k).2.2.2.1.length lc) ∧ wr.drew.cell? ⟨b1, o1 + k * 7 + 4, none⟩ = some (.int .i64 (gO xs k).2.2.2.2.1) ∧ wr.drew.cell? ⟨b1, o1 + k * 7 + 5, none⟩ = some (.int .i64 (gO xs k).2.2.2.2.2.1) ∧ wr.drew.cell? ⟨b1, o1 + k * 7 + 6, none⟩ = some (.slice da (gO xs k).2.2.2.2.2.2.length dc) ∧ wr.drew.cell? ⟨b2, o2 + k * 7, none⟩ = some (.int .i64 (gO xs k).1) ∧ wr.drew.cell? ⟨b2, o2 + k * 7 + 1, none⟩ = some (.int .i64 (gO xs k).2.1) ∧ wr.drew.cell? ⟨b2, o2 + k * 7 + 2, none⟩ = some (.int .i64 (gO xs k).2.2.1) ∧ wr.drew.cell? ⟨b2, o2 + k * 7 + 3, none⟩ = some (.slice lb (gO xs k).2.2.2.1.length mc) ∧ wr.drew.cell? ⟨b2, o2 + k * 7 + 4, none⟩ = some (.int .i64 (gO xs k).2.2.2.2.1) ∧ wr.drew.cell? ⟨b2, o2 + k * 7 + 5, none⟩ = some (.int .i64 (gO xs k).2.2.2.2.2.1) ∧ wr.drew.cell? ⟨b2, o2 + k * 7 + 6, none⟩ = some (.slice db (gO xs k).2.2.2.2.2.2.length nc) ∧ Below wr.heap.size wr wr.drew) := ⟨p0, p1, p2, p3, p4, p5, p6, q0, q1, q2, q3, q4, q5, q6, (Below.refl _ _).drew⟩
      clear p0 p1 p2 p3 p4 p5 p6 q0 q1 q2 q3 q4 q5 q6 p7 q7 ps qs pt qt hc1 hc2 hx hy
      go_wp2_with fail
      go_region_held2 (fun X => X.cell? ⟨b1, o1 + k * 7, none⟩ = some (.int .i64 (gO xs k).1) ∧ X.cell? ⟨b1, o1 + k * 7 + 1, none⟩ = some (.int .i64 (gO xs k).2.1) ∧ X.cell? ⟨b1, o1 + k * 7 + 2, none⟩ = some (.int .i64 (gO xs k).2.2.1) ∧ X.cell? ⟨b1, o1 + k * 7 + 3, none⟩ = some (.slice la (gO xs k).2.2.2.1.length lc) ∧ X.cell? ⟨b1, o1 + k * 7 + 4, none⟩ = some (.int .i64 (gO xs k).2.2.2.2.1) ∧ X.cell? ⟨b1, o1 + k * 7 + 5, none⟩ = some (.int .i64 (gO xs k).2.2.2.2.2.1) ∧ X.cell? ⟨b1, o1 + k * 7 + 6, none⟩ = some (.slice da (gO xs k).2.2.2.2.2.2.length dc) ∧ X.cell? ⟨b2, o2 + k * 7, none⟩ = some (.int .i64 (gO xs k).1) ∧ X.cell? ⟨b2, o2 + k * 7 + 1, none⟩ = some (.int .i64 (gO xs k).2.1) ∧ X.cell? ⟨b2, o2 + k * 7 + 2, none⟩ = some (.int .i64 (gO xs k).2.2.1) ∧ X.cell? ⟨b2, o2 + k * 7 + 3, none⟩ = some (.slice lb (gO xs k).2.2.2.1.length mc) ∧ X.cell? ⟨b2, o2 + k * 7 + 4, none⟩ = some (.int .i64 (gO xs k).2.2.2.2.1) ∧ X.cell? ⟨b2, o2 + k * 7 + 5, none⟩ = some (.int .i64 (gO xs k).2.2.2.2.2.1) ∧ X.cell? ⟨b2, o2 + k * 7 + 6, none⟩ = some (.slice db (gO xs k).2.2.2.2.2.2.length nc) ∧ Below wr.heap.size wr X)
        (first | with_reducible exact HS0.out | with_reducible assumption)
        (first
          | (go_at_call 44; refine (eqObject_calls (gO xs k) la lb lc mc da db dc nc _ pl pd ?_ ?_ ?_ ?_).mono ?_; exact H1.out.below (q14_bel (by with_reducible assumption)) (Nat.le_refl _); exact H2.out.below (q14_bel (by with_reducible assumption)) (Nat.le_refl _); exact H3.out.below (q14_bel (by with_reducible assumption)) (Nat.le_refl _); exact H4.out.below (q14_bel (by with_reducible assumption)) (Nat.le_refl _); rintro e v1 ⟨rfl, g1⟩; have hs1 := q14_below (W := wr) k1 k1 k1 k1 k1 k1 k1 k2 k2 k2 k2 k2 k2 k2 (by with_reducible assumption) g1; clear g1))
      have HE := hide (hbel.trans ((q14_bel hs1).mono hbel.size))
      clear hs1 HS0 H1 H2 H3 H4
      go_wp2
      go_roundw
      case rel => exact ⟨k + 1, by omega, by go_num, HE.out⟩
      case measure => simp [intOf]; omega
    · clear hx hy
      go_wp2
      go_ret
      exact ⟨rfl, hbel⟩

set_option maxRecDepth 100000 in
theorem eqKernel_O (S S' : Nat → Prop) (a b : Option Addr) (n ca cb : Nat) (xs : List OB) (w : World) (hx : OO S a n xs w) (hy : OO S' b n xs w) :
    Calls Try.prog 12 #[.agg #[.slice a n ca], .agg #[.slice b n cb]] w fun e w' => e = .returned (.bool true) ∧ Below w.heap.size w w' := by
  have HB := hide fun o1 o2 => ((Below.refl w.heap.size w).alloc (Nat.le_refl _) o1).alloc (by simp) o2
  have hn : n ≤ maxLen := by have := hx.2.1; unfold maxLen; omega
  go_enter Try.func12, Try.ntmps12
  go_wp2_with fail
  refine (eqObjectS_calls a b n ca cb xs _ hn (hx.sob.below (HB.out _ _) (Nat.le_refl _)) (hy.sob.below (HB.out _ _) (Nat.le_refl _))).mono ?_
  rintro e w1 ⟨rfl, g1⟩
  have HE := hide ((HB.out _ _).trans (g1.mono (HB.out _ _).size))
  clear g1
  go_wp2
  go_ret
  exact ⟨rfl, HE.out⟩

end Go.Proofs.Ytipfaoecodclaaa
