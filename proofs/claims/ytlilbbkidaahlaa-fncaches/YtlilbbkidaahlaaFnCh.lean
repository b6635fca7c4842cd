import Derived.Test.YtlilbbkidaahlaaDrawCh5
import Derived.Test.YtlilbbkidaahlaaFillI2
import Derived.Test.YtlilbbkidaahlaaFillS
import Derived.Test.YtlilbbkidaahlaaFnChP
import Derived.WalkKit
import Derived.ProofKit
import Derived.OpenShut
import Derived.ShutString
import Derived.ChangeOld
import Derived.Below
import Derived.WalkSpells
import Derived.Deep.QuietTactic
import Derived.BigQuiet
import Derived.Deep.RegionWith
import Derived.Deep.WholeRow
import Derived.Deep.DeepCutAuto
import Derived.Deep.RegionHeld2
import Derived.Deep.AppendLies
import Derived.Deep.RegionLaw
namespace Go.Proofs.Ytlilbbkidaahlaa
open Go.ChangeShapes Go.WideShapes Go.ChangeAt Go.RowKit

set_option maxRecDepth 100000 in
theorem lwBig_calls (a : Option Addr) (len cap : Nat) (w : World) (_hl : len ≤ maxLen) :
    Calls Try.prog 4 #[.slice a len cap] w fun e w' => e = .returned (.bool (decide (1048576 < (len : Int)))) ∧ w' = w := by
  go_enter Try.func4, Try.ntmps4
  go_wp2
  go_ret
  exact ⟨rfl, rfl⟩

theorem q2_bel {W X : World} {A0 A1 : Addr} {v0 v1 : Value} (h : X.cell? A0 = some v0 ∧ X.cell? A1 = some v1 ∧ Below W.heap.size W X) : Below W.heap.size W X := h.2.2

theorem q2_below {W X Y : World} {A0 A1 : Addr} {v0 v1 : Value} (h0 : A0.block < W.heap.size) (h1 : A1.block < W.heap.size) (h : X.cell? A0 = some v0 ∧ X.cell? A1 = some v1 ∧ Below W.heap.size W X) (g : Below X.heap.size X Y) : Y.cell? A0 = some v0 ∧ Y.cell? A1 = some v1 ∧ Below W.heap.size W Y := by
  have hz := (h.2.2).size
  exact ⟨(g.cell (by omega)).trans h.1, (g.cell (by omega)).trans h.2.1, (h.2.2).trans (g.mono hz)⟩

theorem q2_alloc {W X : World} {A0 A1 : Addr} {v0 v1 : Value} (h0 : A0.block < W.heap.size) (h1 : A1.block < W.heap.size) (h : X.cell? A0 = some v0 ∧ X.cell? A1 = some v1 ∧ Below W.heap.size W X) (o : Obj) : (X.alloc o).cell? A0 = some v0 ∧ (X.alloc o).cell? A1 = some v1 ∧ Below W.heap.size W (X.alloc o) := q2_below h0 h1 h ((Below.refl _ _).alloc (Nat.le_refl _) o)

theorem q2_allocd {W X : World} {A0 A1 : Addr} {v0 v1 : Value} (h0 : A0.block < W.heap.size) (h1 : A1.block < W.heap.size) (h : X.drew.cell? A0 = some v0 ∧ X.drew.cell? A1 = some v1 ∧ Below W.heap.size W X.drew) (o : Obj) : (X.alloc o).drew.cell? A0 = some v0 ∧ (X.alloc o).drew.cell? A1 = some v1 ∧ Below W.heap.size W (X.alloc o).drew := q2_alloc h0 h1 h o

theorem q2_set {W X : World} {A0 A1 : Addr} {v0 v1 : Value} (h0 : A0.block < W.heap.size) (h1 : A1.block < W.heap.size) (h : X.cell? A0 = some v0 ∧ X.cell? A1 = some v1 ∧ Below W.heap.size W X) {p : Addr} (hp : W.heap.size ≤ p.block) (y : Value) : (X.setCell p y).cell? A0 = some v0 ∧ (X.setCell p y).cell? A1 = some v1 ∧ Below W.heap.size W (X.setCell p y) :=
  ⟨(World.cell?_setCell_other _ _ _ _ (fun e => by rw [e] at hp; omega)).trans h.1, (World.cell?_setCell_other _ _ _ _ (fun e => by rw [e] at hp; omega)).trans h.2.1, (h.2.2).setCell hp y⟩

theorem q6_bel {W X : World} {A0 A1 A2 A3 A4 A5 : Addr} {v0 v1 v2 v3 v4 v5 : Value} (h : X.cell? A0 = some v0 ∧ X.cell? A1 = some v1 ∧ X.cell? A2 = some v2 ∧ X.cell? A3 = some v3 ∧ X.cell? A4 = some v4 ∧ X.cell? A5 = some v5 ∧ Below W.heap.size W X) : Below W.heap.size W X := h.2.2.2.2.2.2

theorem q6_below {W X Y : World} {A0 A1 A2 A3 A4 A5 : Addr} {v0 v1 v2 v3 v4 v5 : Value} (h0 : A0.block < W.heap.size) (h1 : A1.block < W.heap.size) (h2 : A2.block < W.heap.size) (h3 : A3.block < W.heap.size) (h4 : A4.block < W.heap.size) (h5 : A5.block < W.heap.size) (h : X.cell? A0 = some v0 ∧ X.cell? A1 = some v1 ∧ X.cell? A2 = some v2 ∧ X.cell? A3 = some v3 ∧ X.cell? A4 = some v4 ∧ X.cell? A5 = some v5 ∧ Below W.heap.size W X) (g : Below X.heap.size X Y) : Y.cell? A0 = some v0 ∧ Y.cell? A1 = some v1 ∧ Y.cell? A2 = some v2 ∧ Y.cell? A3 = some v3 ∧ Y.cell? A4 = some v4 ∧ Y.cell? A5 = some v5 ∧ Below W.heap.size W Y := by
  have hz := (h.2.2.2.2.2.2).size
  exact ⟨(g.cell (by omega)).trans h.1, (g.cell (by omega)).trans h.2.1, (g.cell (by omega)).trans h.2.2.1, (g.cell (by omega)).trans h.2.2.2.1, (g.cell (by omega)).trans h.2.2.2.2.1, (g.cell (by omega)).trans h.2.2.2.2.2.1, (h.2.2.2.2.2.2).trans (g.mono hz)⟩

theorem q6_alloc {W X : World} {A0 A1 A2 A3 A4 A5 : Addr} {v0 v1 v2 v3 v4 v5 : Value} (h0 : A0.block < W.heap.size) (h1 : A1.block < W.heap.size) (h2 : A2.block < W.heap.size) (h3 : A3.block < W.heap.size) (h4 : A4.block < W.heap.size) (h5 : A5.block < W.heap.size) (h : X.cell? A0 = some v0 ∧ X.cell? A1 = some v1 ∧ X.cell? A2 = some v2 ∧ X.cell? A3 = some v3 ∧ X.cell? A4 = some v4 ∧ X.cell? A5 = some v5 ∧ Below W.heap.size W X) (o : Obj) : (X.alloc o).cell? A0 = some v0 ∧ (X.alloc o).cell? A1 = some v1 ∧ (X.alloc o).cell? A2 = some v2 ∧ (X.alloc o).cell? A3 = some v3 ∧ (X.alloc o).cell? A4 = some v4 ∧ (X.alloc o).cell? A5 = some v5 ∧ Below W.heap.size W (X.alloc o) := q6_below h0 h1 h2 h3 h4 h5 h ((Below.refl _ _).alloc (Nat.le_refl _) o)

theorem q6_allocd {W X : World} {A0 A1 A2 A3 A4 A5 : Addr} {v0 v1 v2 v3 v4 v5 : Value} (h0 : A0.block < W.heap.size) (h1 : A1.block < W.heap.size) (h2 : A2.block < W.heap.size) (h3 : A3.block < W.heap.size) (h4 : A4.block < W.heap.size) (h5 : A5.block < W.heap.size) (h : X.drew.cell? A0 = some v0 ∧ X.drew.cell? A1 = some v1 ∧ X.drew.cell? A2 = some v2 ∧ X.drew.cell? A3 = some v3 ∧ X.drew.cell? A4 = some v4 ∧ X.drew.cell? A5 = some v5 ∧ Below W.heap.size W X.drew) (o : Obj) : (X.alloc o).drew.cell? A0 = some v0 ∧ (X.alloc o).drew.cell? A1 = some v1 ∧ (X.alloc o).drew.cell? A2 = some v2 ∧ (X.alloc o).drew.cell? A3 = some v3 ∧ (X.alloc o).drew.cell? A4 = some v4 ∧ (X.alloc o).drew.cell? A5 = some v5 ∧ Below W.heap.size W (X.alloc o).drew := q6_alloc h0 h1 h2 h3 h4 h5 h o

theorem q6_set {W X : World} {A0 A1 A2 A3 A4 A5 : Addr} {v0 v1 v2 v3 v4 v5 : Value} (h0 : A0.block < W.heap.size) (h1 : A1.block < W.heap.size) (h2 : A2.block < W.heap.size) (h3 : A3.block < W.heap.size) (h4 : A4.block < W.heap.size) (h5 : A5.block < W.heap.size) (h : X.cell? A0 = some v0 ∧ X.cell? A1 = some v1 ∧ X.cell? A2 = some v2 ∧ X.cell? A3 = some v3 ∧ X.cell? A4 = some v4 ∧ X.cell? A5 = some v5 ∧ Below W.heap.size W X) {p : Addr} (hp : W.heap.size ≤ p.block) (y : Value) : (X.setCell p y).cell? A0 = some v0 ∧ (X.setCell p y).cell? A1 = some v1 ∧ (X.setCell p y).cell? A2 = some v2 ∧ (X.setCell p y).cell? A3 = some v3 ∧ (X.setCell p y).cell? A4 = some v4 ∧ (X.setCell p y).cell? A5 = some v5 ∧ Below W.heap.size W (X.setCell p y) :=
  ⟨(World.cell?_setCell_other _ _ _ _ (fun e => by rw [e] at hp; omega)).trans h.1, (World.cell?_setCell_other _ _ _ _ (fun e => by rw [e] at hp; omega)).trans h.2.1, (World.cell?_setCell_other _ _ _ _ (fun e => by rw [e] at hp; omega)).trans h.2.2.1, (World.cell?_setCell_other _ _ _ _ (fun e => by rw [e] at hp; omega)).trans h.2.2.2.1, (World.cell?_setCell_other _ _ _ _ (fun e => by rw [e] at hp; omega)).trans h.2.2.2.2.1, (World.cell?_setCell_other _ _ _ _ (fun e => by rw [e] at hp; omega)).trans h.2.2.2.2.2.1, (h.2.2.2.2.2.2).setCell hp y⟩

theorem q8_bel {W X : World} {A0 A1 A2 A3 A4 A5 A6 A7 : Addr} {v0 v1 v2 v3 v4 v5 v6 v7 : Value} (h : X.cell? A0 = some v0 ∧ X.cell? A1 = some v1 ∧ X.cell? A2 = some v2 ∧ X.cell? A3 = some v3 ∧ X.cell? A4 = some v4 ∧ X.cell? A5 = some v5 ∧ X.cell? A6 = some v6 ∧ X.cell? A7 = some v7 ∧ Below W.heap.size W X) : Below W.heap.size W X := h.2.2.2.2.2.2.2.2

theorem q8_below {W X Y : World} {A0 A1 A2 A3 A4 A5 A6 A7 : Addr} {v0 v1 v2 v3 v4 v5 v6 v7 : Value} (h0 : A0.block < W.heap.size) (h1 : A1.block < W.heap.size) (h2 : A2.block < W.heap.size) (h3 : A3.block < W.heap.size) (h4 : A4.block < W.heap.size) (h5 : A5.block < W.heap.size) (h6 : A6.block < W.heap.size) (h7 : A7.block < W.heap.size) (h : X.cell? A0 = some v0 ∧ X.cell? A1 = some v1 ∧ X.cell? A2 = some v2 ∧ X.cell? A3 = some v3 ∧ X.cell? A4 = some v4 ∧ X.cell? A5 = some v5 ∧ X.cell? A6 = some v6 ∧ X.cell? A7 = some v7 ∧ Below W.heap.size W X) (g : Below X.heap.size X Y) : Y.cell? A0 = some v0 ∧ Y.cell? A1 = some v1 ∧ Y.cell? A2 = some v2 ∧ Y.cell? A3 = some v3 ∧ Y.cell? A4 = some v4 ∧ Y.cell? A5 = some v5 ∧ Y.cell? A6 = some v6 ∧ Y.cell? A7 = some v7 ∧ Below W.heap.size W Y := by
  have hz := (h.2.2.2.2.2.2.2.2).size
  exact ⟨(g.cell (by omega)).trans h.1, (g.cell (by omega)).trans h.2.1, (g.cell (by omega)).trans h.2.2.1, (g.cell (by omega)).trans h.2.2.2.1, (g.cell (by omega)).trans h.2.2.2.2.1, (g.cell (by omega)).trans h.2.2.2.2.2.1, (g.cell (by omega)).trans h.2.2.2.2.2.2.1, (g.cell (by omega)).trans h.2.2.2.2.2.2.2.1, (h.2.2.2.2.2.2.2.2).trans (g.mono hz)⟩

theorem q8_alloc {W X : World} {A0 A1 A2 A3 A4 A5 A6 A7 : Addr} {v0 v1 v2 v3 v4 v5 v6 v7 : Value} (h0 : A0.block < W.heap.size) (h1 : A1.block < W.heap.size) (h2 : A2.block < W.heap.size) (h3 : A3.block < W.heap.size) (h4 : A4.block < W.heap.size) (h5 : A5.block < W.heap.size) (h6 : A6.block < W.heap.size) (h7 : A7.block < W.heap.size) (h : X.cell? A0 = some v0 ∧ X.cell? A1 = some v1 ∧ X.cell? A2 = some v2 ∧ X.cell? A3 = some v3 ∧ X.cell? A4 = some v4 ∧ X.cell? A5 = some v5 ∧ X.cell? A6 = some v6 ∧ X.cell? A7 = some v7 ∧ Below W.heap.size W X) (o : Obj) : (X.alloc o).cell? A0 = some v0 ∧ (X.alloc o).cell? A1 = some v1 ∧ (X.alloc o).cell? A2 = some v2 ∧ (X.alloc o).cell? A3 = some v3 ∧ (X.alloc o).cell? A4 = some v4 ∧ (X.alloc o).cell? A5 = some v5 ∧ (X.alloc o).cell? A6 = some v6 ∧ (X.alloc o).cell? A7 = some v7 ∧ Below W.heap.size W (X.alloc o) := q8_below h0 h1 h2 h3 h4 h5 h6 h7 h ((Below.refl _ _).alloc (Nat.le_refl _) o)

theorem q8_allocd {W X : World} {A0 A1 A2 A3 A4 A5 A6 A7 : Addr} {v0 v1 v2 v3 v4 v5 v6 v7 : Value} (h0 : A0.block < W.heap.size) (h1 : A1.block < W.heap.size) (h2 : A2.block < W.heap.size) (h3 : A3.block < W.heap.size) (h4 : A4.block < W.heap.size) (h5 : A5.block < W.heap.size) (h6 : A6.block < W.heap.size) (h7 : A7.block < W.heap.size) (h : X.drew.cell? A0 = some v0 ∧ X.drew.cell? A1 = some v1 ∧ X.drew.cell? A2 = some v2 ∧ X.drew.cell? A3 = some v3 ∧ X.drew.cell? A4 = some v4 ∧ X.drew.cell? A5 = some v5 ∧ X.drew.cell? A6 = some v6 ∧ X.drew.cell? A7 = some v7 ∧ Below W.heap.size W X.drew) (o : Obj) : (X.alloc o).drew.cell? A0 = some v0 ∧ (X.alloc o).drew.cell? A1 = some v1 ∧ (X.alloc o).drew.cell? A2 = some v2 ∧ (X.alloc o).drew.cell? A3 = some v3 ∧ (X.alloc o).drew.cell? A4 = some v4 ∧ (X.alloc o).drew.cell? A5 = some v5 ∧ (X.alloc o).drew.cell? A6 = some v6 ∧ (X.alloc o).drew.cell? A7 = some v7 ∧ Below W.heap.size W (X.alloc o).drew := q8_alloc h0 h1 h2 h3 h4 h5 h6 h7 h o

theorem q8_set {W X : World} {A0 A1 A2 A3 A4 A5 A6 A7 : Addr} {v0 v1 v2 v3 v4 v5 v6 v7 : Value} (h0 : A0.block < W.heap.size) (h1 : A1.block < W.heap.size) (h2 : A2.block < W.heap.size) (h3 : A3.block < W.heap.size) (h4 : A4.block < W.heap.size) (h5 : A5.block < W.heap.size) (h6 : A6.block < W.heap.size) (h7 : A7.block < W.heap.size) (h : X.cell? A0 = some v0 ∧ X.cell? A1 = some v1 ∧ X.cell? A2 = some v2 ∧ X.cell? A3 = some v3 ∧ X.cell? A4 = some v4 ∧ X.cell? A5 = some v5 ∧ X.cell? A6 = some v6 ∧ X.cell? A7 = some v7 ∧ Below W.heap.size W X) {p : Addr} (hp : W.heap.size ≤ p.block) (y : Value) : (X.setCell p y).cell? A0 = some v0 ∧ (X.setCell p y).cell? A1 = some v1 ∧ (X.setCell p y).cell? A2 = some v2 ∧ (X.setCell p y).cell? A3 = some v3 ∧ (X.setCell p y).cell? A4 = some v4 ∧ (X.setCell p y).cell? A5 = some v5 ∧ (X.setCell p y).cell? A6 = some v6 ∧ (X.setCell p y).cell? A7 = some v7 ∧ Below W.heap.size W (X.setCell p y) :=
  ⟨(World.cell?_setCell_other _ _ _ _ (fun e => by rw [e] at hp; omega)).trans h.1, (World.cell?_setCell_other _ _ _ _ (fun e => by rw [e] at hp; omega)).trans h.2.1, (World.cell?_setCell_other _ _ _ _ (fun e => by rw [e] at hp; omega)).trans h.2.2.1, (World.cell?_setCell_other _ _ _ _ (fun e => by rw [e] at hp; omega)).trans h.2.2.2.1, (World.cell?_setCell_other _ _ _ _ (fun e => by rw [e] at hp; omega)).trans h.2.2.2.2.1, (World.cell?_setCell_other _ _ _ _ (fun e => by rw [e] at hp; omega)).trans h.2.2.2.2.2.1, (World.cell?_setCell_other _ _ _ _ (fun e => by rw [e] at hp; omega)).trans h.2.2.2.2.2.2.1, (World.cell?_setCell_other _ _ _ _ (fun e => by rw [e] at hp; omega)).trans h.2.2.2.2.2.2.2.1, (h.2.2.2.2.2.2.2.2).setCell hp y⟩

theorem fiC_zero {s : Int} {ls : List (Int × Int × Int)} {x : Int × Int × Int} {p : Int} (h : fiC s ls x p = 0) : faultC s ls = 0 ∧ okL x = true ∧ 0 ≤ p := by
  unfold fiC at h
  by_cases h1 : faultC s ls = 0
  · rw [if_pos h1] at h
    by_cases h2 : okL x = false ∨ p < 0
    · rw [if_pos h2] at h; exact absurd h (by decide)
    · refine ⟨h1, ?_, by omega⟩
      cases e : okL x with
      | true => rfl
      | false => exact absurd (.inl e) h2
  · rw [if_neg h1] at h; exact absurd h h1

theorem irF0 (c v : Int) (w : World) : (Instr.field 37 (.agg #[.int .i64 c, .int .i64 v]) 0).run Try.prog w = .ok (.int .i64 c) w := by kernel_rfl

theorem irF1 (c v : Int) (w : World) : (Instr.field 37 (.agg #[.int .i64 c, .int .i64 v]) 1).run Try.prog w = .ok (.int .i64 v) w := by kernel_rfl

theorem crF0 (c v s : Int) (l : Value) (w : World) : (Instr.field 32 (.agg #[.int .i64 c, .int .i64 v, .int .i64 s, l]) 0).run Try.prog w = .ok (.int .i64 c) w := by kernel_rfl

set_option maxRecDepth 100000 in
theorem caches_big (a : Option Addr) (len cap : Nat) (w : World) (hl : len ≤ maxLen) (hbig : 1048576 < len) :
    Calls Try.prog 3 #[.slice a len cap] w fun e w' => e = .returned (.bool true) ∧ Below w.heap.size w w' := by
  go_enter Try.func3, Try.ntmps3
  go_wp2_with fail
  refine (lwBig_calls a len cap _ hl).mono ?_
  rintro e w1 ⟨rfl, hw⟩
  obtain rfl : w = w1 := hw.symm
  clear hw
  rw [decide_eq_true (by omega)]
  go_wp2
  go_ret
  exact ⟨rfl, Below.refl _ _⟩

set_option maxRecDepth 100000 in
set_option maxHeartbeats 4000000 in
theorem caches_small (hB : L4BentOK) (a : Option Addr) (len cap : Nat) (w : World) (hc : Cd w a len) :
    Calls Try.prog 3 #[.slice a len cap] w fun e w' => e = .returned (.bool true) ∧ Below w.heap.size w w' := by
  have hlm : len ≤ maxLen := by have := hc.1; unfold maxLen; omega
  have M0 := Mm.start w
  have fd0 := irF0
  have fd1 := irF1
  have fd2 := crF0
  go_enter Try.func3, Try.ntmps3
  go_wp2_with fail
  refine (lwBig_calls a len cap _ hlm).mono ?_
  rintro e w0 ⟨rfl, hw⟩
  obtain rfl : w = w0 := hw.symm
  rw [decide_eq_false (by have := hc.1; omega)]
  clear hw
  go_wp2_with fail
  refine (drawFillCache_calls hB a len cap _ hc).mono ?_
  rintro e w1 ⟨s, ra, n, rc, ls, d, g, q, r, rfl, o1, hn, hrc, g1⟩
  have z1 := g1.size
  have M1 := (((M0.below g1).fact OL.loc o1).alloc2 (.int .i64 s) (.slice ra n rc) 26).alloc3 (.int .i64 d) (.int .i64 g) (.int .i64 q) 28
  simp only [World.size_alloc] at M1
  have hnm : n ≤ maxLen := by unfold maxLen; omega
  clear M0 g1 o1
  go_wp2_with fail
  refine (implFillCacheC_calls s ra n rc ls d g q r _ hnm hrc (M1.get 0 rfl).sln).mono ?_
  rintro e w2 ⟨fa, fn, fc, rfl, hfc, o2, g2⟩
  have z2 := g2.size
  simp only [World.size_alloc] at z2 o2
  have M2 := ((M1.below g2).fact OL.loc o2).alloc4 (.int .i64 (fiC s ls (d, g, q) r)) (.int .i64 (cV (fiC s ls (d, g, q) r) ((fiL s ls (d, g, q) r).length : Int))) (.int .i64 (cV (fiC s ls (d, g, q) r) s)) (.slice fa fn fc) 32
  clear M1 g2 o2
  have hc2 := hc.below M2.bel
  go_wp2_with fail
  refine (drawLookCache_calls hB a len cap _ hc2).mono ?_
  rintro e w3 ⟨s', xa, xn, xc, xs, d', g', rfl, o3, hxn, hxc, g3⟩
  have z3 := g3.size
  simp only [World.size_alloc] at z3 o3
  have M3 := ((M2.below g3).fact OL.loc o3).alloc2 (.int .i64 s') (.slice xa xn xc) 26
  have hxm : xn ≤ maxLen := by unfold maxLen; omega
  clear M2 g3 o3 hc2
  have e1 : (lkC s' xs d' g' != lkC s' xs d' g') = false := by simp
  have e2 : (lkV s' xs d' g' != lkV s' xs d' g') = false := by simp
  obtain ⟨W, hW⟩ : ∃ W : World, W = w3.alloc (.cells #[.int .i64 s', .slice xa xn xc] 26) := ⟨_, rfl⟩
  have x0 := M3.cell 0 rfl
  have x1 := M3.cell 1 rfl
  have lt0 : (Addr.mk w3.heap.size 0 none).block < (w3.alloc (.cells #[.int .i64 s', .slice xa xn xc] 26)).heap.size := M3.lt 0 rfl
  have lt1 : (Addr.mk w3.heap.size 1 none).block < (w3.alloc (.cells #[.int .i64 s', .slice xa xn xc] 26)).heap.size := M3.lt 0 rfl
  have HXs := hide (M3.get 0 rfl).sln
  rw [← hW] at M3 lt0 lt1 HXs
  have HW := hide hW
  have HM3 := hide M3
  have HS0 : Hid (W.drew.cell? ⟨w3.heap.size, 0, none⟩ = some (.int .i64 s') ∧ W.drew.cell? ⟨w3.heap.size, 1, none⟩ = some (.slice xa xn xc) ∧ Below W.heap.size W W.drew) := ⟨M3.cell 0 rfl, M3.cell 1 rfl, (Below.refl _ _).drew⟩
  clear M3 hW
  go_upto_region 6 with fail
  rw [← HW.out]
  clear x0 x1
  go_region_held2 (fun w' => w'.cell? ⟨w3.heap.size, 0, none⟩ = some (.int .i64 s') ∧ w'.cell? ⟨w3.heap.size, 1, none⟩ = some (.slice xa xn xc) ∧ Below W.heap.size W w')
    (first | with_reducible exact HS0.out | with_reducible assumption)
    (first
      | (go_at_call 8; refine (implLookCache_calls s' xa xn xc xs d' g' _ hxm hxc ?_).mono ?_; exact HXs.out.below (q2_bel (by with_reducible assumption)) (Nat.le_refl _); rintro e y1 ⟨rfl, ga⟩; have hs1 := q2_below lt0 lt1 (by with_reducible assumption) ga; clear ga)
      | (go_at_call 9; refine (specLookCache_calls s' xa xn xc xs d' g' _ hxm hxc ?_).mono ?_; exact HXs.out.below (q2_bel (by with_reducible assumption)) (Nat.le_refl _); rintro e y1 ⟨rfl, ga⟩; have hs1 := q2_below lt0 lt1 (by with_reducible assumption) ga; clear ga))
  obtain ⟨w4, rfl⟩ : ∃ x, x = y1 := ⟨y1, rfl⟩
  have M4 := HM3.out.below (q2_bel hs1)
  clear hs1 HM3 HS0 HXs lt0 lt1
  have c0 := M4.cell 9 rfl
  have c1 := M4.cell 10 rfl
  have b0 := M4.cell 6 rfl
  have b1 := M4.cell 7 rfl
  have b2 := M4.cell 8 rfl
  have a0 := M4.cell 2 rfl
  have lt0 : (Addr.mk w1.heap.size 0 none).block < w4.heap.size := M4.lt 9 rfl
  have lt1 : (Addr.mk w1.heap.size 1 none).block < w4.heap.size := M4.lt 9 rfl
  have lt2 : (Addr.mk (w1.heap.size + 1) 0 none).block < w4.heap.size := M4.lt 6 rfl
  have lt3 : (Addr.mk (w1.heap.size + 1) 1 none).block < w4.heap.size := M4.lt 6 rfl
  have lt4 : (Addr.mk (w1.heap.size + 1) 2 none).block < w4.heap.size := M4.lt 6 rfl
  have lt5 : (Addr.mk w2.heap.size 0 none).block < w4.heap.size := M4.lt 2 rfl
  have HCs := hide (M4.get 2 rfl).sln
  have HM4 := hide M4
  clear M4
  by_cases hf : fiC s ls (d, g, q) r = 0
  rotate_left
  · have ef : (fiC s ls (d, g, q) r != 0) = true := by simpa using hf
    have eA : (fiC s ls (d, g, q) r == fiC s ls (d, g, q) r) = true := by simp
    have eB : (faultC s ls == faultC s ls) = true := by simp
    have HS1 : Hid (w4.drew.cell? ⟨w1.heap.size, 0, none⟩ = some (.int .i64 s) ∧ w4.drew.cell? ⟨w1.heap.size, 1, none⟩ = some (.slice ra n rc) ∧ w4.drew.cell? ⟨w1.heap.size + 1, 0, none⟩ = some (.int .i64 d) ∧ w4.drew.cell? ⟨w1.heap.size + 1, 1, none⟩ = some (.int .i64 g) ∧ w4.drew.cell? ⟨w1.heap.size + 1, 2, none⟩ = some (.int .i64 q) ∧ w4.drew.cell? ⟨w2.heap.size, 0, none⟩ = some (.int .i64 (fiC s ls (d, g, q) r)) ∧ Below w4.heap.size w4 w4.drew) := ⟨c0, c1, b0, b1, b2, a0, (Below.refl _ _).drew⟩
    clear hf
    go_upto_region 9 with fail
    clear c0 c1 b0 b1 b2 a0
    go_region_held2 (fun w' => w'.cell? ⟨w1.heap.size, 0, none⟩ = some (.int .i64 s) ∧ w'.cell? ⟨w1.heap.size, 1, none⟩ = some (.slice ra n rc) ∧ w'.cell? ⟨w1.heap.size + 1, 0, none⟩ = some (.int .i64 d) ∧ w'.cell? ⟨w1.heap.size + 1, 1, none⟩ = some (.int .i64 g) ∧ w'.cell? ⟨w1.heap.size + 1, 2, none⟩ = some (.int .i64 q) ∧ w'.cell? ⟨w2.heap.size, 0, none⟩ = some (.int .i64 (fiC s ls (d, g, q) r)) ∧ Below w4.heap.size w4 w')
      (first | with_reducible exact HS1.out | with_reducible assumption)
      (first
        | (go_at_call 10; refine (specFillCache_calls s ra n rc ls d g q r _ hnm hrc ?_).mono ?_; exact HCs.out.below (q6_bel (by with_reducible assumption)) (Nat.le_refl _); rintro e y1 ⟨_, _, _, rfl, _, ga⟩; have hs1 := q6_below lt0 lt1 lt2 lt3 lt4 lt5 (by with_reducible assumption) ga; clear ga)
        | (go_at_call 11; refine (implCacheFault_calls s ra n rc ls _ hnm hrc ?_).mono ?_; exact HCs.out.below (q6_bel (by with_reducible assumption)) (Nat.le_refl _); rintro e y1 ⟨rfl, ga⟩; have hs1 := q6_below lt0 lt1 lt2 lt3 lt4 lt5 (by with_reducible assumption) ga; clear ga)
        | (go_at_call 12; refine (specCacheFault_calls s ra n rc ls _ hnm hrc ?_).mono ?_; exact HCs.out.below (q6_bel (by with_reducible assumption)) (Nat.le_refl _); rintro e y1 ⟨rfl, ga⟩; have hs1 := q6_below lt0 lt1 lt2 lt3 lt4 lt5 (by with_reducible assumption) ga; clear ga))
    have HE := hide (HM4.out.below (q6_bel hs1)).bel
    clear hs1 HS1
    go_wp2
    go_ret
    exact ⟨rfl, HE.out⟩
  obtain ⟨hfl, hok, hr0⟩ := fiC_zero hf
  have ef : (fiC s ls (d, g, q) r != 0) = false := by simp [hf]
  have M5 := HM4.out
  rw [cV_ok hf, cV_ok hf, cL_ok hf] at M5
  generalize hFL : fiL s ls (d, g, q) r = FL at M5
  have HFL := hide hFL
  have Hf := hide hf
  have M6 := M5.sub (cs' := [(w2.heap.size, 0, .int .i64 (fiC s ls (d, g, q) r)), (w2.heap.size, 1, .int .i64 (FL.length : Int)), (w2.heap.size, 2, .int .i64 s), (w2.heap.size, 3, .slice fa fn fc), (w1.heap.size + 1, 0, .int .i64 d), (w1.heap.size + 1, 1, .int .i64 g), (w1.heap.size + 1, 2, .int .i64 q), (w1.heap.size, 0, .int .i64 s), (w1.heap.size, 1, .slice ra n rc)]) (fs' := [(w1.heap.size + 1 + 1, w2.heap.size, OL (InR (w1.heap.size + 1 + 1) w2.heap.size) fa fn FL), (w.heap.size, w1.heap.size, OL (InR w.heap.size w1.heap.size) ra n ls)]) (fun _ h => List.mem_cons_of_mem _ (List.mem_cons_of_mem _ h)) (fun _ h => List.mem_cons_of_mem _ h)
  clear HM4 M5 hFL hf c0 c1 b0 b1 b2 HCs lt0 lt1 lt2 lt3 lt4 lt5
  go_wp2
  go_loopw [10] (fun i wr => ∃ k : Nat, k ≤ fn ∧ i = .int .i64 k ∧ Mm w wr [(w2.heap.size, 0, .int .i64 (fiC s ls (d, g, q) r)), (w2.heap.size, 1, .int .i64 (FL.length : Int)), (w2.heap.size, 2, .int .i64 s), (w2.heap.size, 3, .slice fa fn fc), (w1.heap.size + 1, 0, .int .i64 d), (w1.heap.size + 1, 1, .int .i64 g), (w1.heap.size + 1, 2, .int .i64 q), (w1.heap.size, 0, .int .i64 s), (w1.heap.size, 1, .slice ra n rc)] [(w1.heap.size + 1 + 1, w2.heap.size, OL (InR (w1.heap.size + 1 + 1) w2.heap.size) fa fn FL), (w.heap.size, w1.heap.size, OL (InR w.heap.size w1.heap.size) ra n ls)]) (fun i _ => fn - (intOf i).toNat)
  case atStart => exact ⟨0, Nat.zero_le _, rfl, M6⟩
  case round =>
    clear M6 a0
    obtain ⟨k, hk, rfl, M⟩ := hrel
    have a3 := M.cell 3 rfl
    by_cases hlt : k < fn
    · have hsl := (M.get 0 rfl).sln
      have hFl : FL.length = fn := hsl.1
      have hfm : fn ≤ 1048576 := (M.get 0 rfl).2.1
      obtain ⟨b, off, rfl, hb, hcx⟩ := hsl.2 (by omega)
      obtain ⟨r0, r1, r2⟩ := cells3 hcx hlt
      have i0 : (0 : Int) ≤ (k : Int) := by omega
      have i1 : (k : Int) < (fn : Int) := by omega
      have hmem : g3 FL k ∈ FL := by rw [g3_get (by omega)]; exact List.getElem_mem _
      have hor := fi_mem (y := g3 FL k) hfl hok hr0 (by rw [HFL.out]; exact hmem)
      have M1 := M.alloc3 (.int .i64 (g3 FL k).1) (.int .i64 (g3 FL k).2.1) (.int .i64 (g3 FL k).2.2) 28
      obtain ⟨X, hX⟩ : ∃ X, X = wr.alloc (.cells #[.int .i64 (g3 FL k).1, .int .i64 (g3 FL k).2.1, .int .i64 (g3 FL k).2.2] 28) := ⟨_, rfl⟩
      rw [← hX] at M1
      have HX := hide hX
      have HM1 := hide M1
      have HS2 : Hid (X.drew.cell? ⟨wr.heap.size, 0, none⟩ = some (.int .i64 (g3 FL k).1) ∧ X.drew.cell? ⟨wr.heap.size, 1, none⟩ = some (.int .i64 (g3 FL k).2.1) ∧ X.drew.cell? ⟨wr.heap.size, 2, none⟩ = some (.int .i64 (g3 FL k).2.2) ∧ X.drew.cell? ⟨w1.heap.size + 1, 0, none⟩ = some (.int .i64 d) ∧ X.drew.cell? ⟨w1.heap.size + 1, 1, none⟩ = some (.int .i64 g) ∧ X.drew.cell? ⟨w1.heap.size + 1, 2, none⟩ = some (.int .i64 q) ∧ X.drew.cell? ⟨w1.heap.size, 0, none⟩ = some (.int .i64 s) ∧ X.drew.cell? ⟨w1.heap.size, 1, none⟩ = some (.slice ra n rc) ∧ Below X.heap.size X X.drew) := ⟨M1.cell 0 rfl, M1.cell 1 rfl, M1.cell 2 rfl, M1.cell 7 rfl, M1.cell 8 rfl, M1.cell 9 rfl, M1.cell 10 rfl, M1.cell 11 rfl, (Below.refl _ _).drew⟩
      have lt0 : (Addr.mk wr.heap.size 0 none).block < X.heap.size := M1.lt 0 rfl
      have lt1 : (Addr.mk wr.heap.size 1 none).block < X.heap.size := M1.lt 0 rfl
      have lt2 : (Addr.mk wr.heap.size 2 none).block < X.heap.size := M1.lt 0 rfl
      have lt3 : (Addr.mk (w1.heap.size + 1) 0 none).block < X.heap.size := M1.lt 7 rfl
      have lt4 : (Addr.mk (w1.heap.size + 1) 1 none).block < X.heap.size := M1.lt 7 rfl
      have lt5 : (Addr.mk (w1.heap.size + 1) 2 none).block < X.heap.size := M1.lt 7 rfl
      have lt6 : (Addr.mk w1.heap.size 0 none).block < X.heap.size := M1.lt 10 rfl
      have lt7 : (Addr.mk w1.heap.size 1 none).block < X.heap.size := M1.lt 10 rfl
      have HCs := hide (M1.get 1 rfl).sln
      clear M M1 hX hcx hsl hmem hFl
      by_cases hy : g3 FL k = (d, g, q)
      · have e1 : ((g3 FL k).1 = d) = True := eq_true (by rw [hy])
        have e2 : ((g3 FL k).2.1 = g) = True := eq_true (by rw [hy])
        have e3 : ((g3 FL k).2.2 = q) = True := eq_true (by rw [hy])
        have y0 := HM1.out.cell 0 rfl
        have y1 := HM1.out.cell 1 rfl
        have y2 := HM1.out.cell 2 rfl
        have l0 := HM1.out.cell 7 rfl
        have l1 := HM1.out.cell 8 rfl
        have l2 := HM1.out.cell 9 rfl
        clear hor hy HS2 HCs lt0 lt1 lt2 lt3 lt4 lt5 lt6 lt7
        go_upto_region 14 with fail
        rw [← HX.out]
        clear r0 r1 r2 a3
        go_quiet (fail)
        have HE := hide ((HM1.out.below (bdrewN (Below.refl X.heap.size X) nq)).sub (cs' := [(w2.heap.size, 0, .int .i64 (fiC s ls (d, g, q) r)), (w2.heap.size, 1, .int .i64 (FL.length : Int)), (w2.heap.size, 2, .int .i64 s), (w2.heap.size, 3, .slice (some ⟨b, off, none⟩) fn fc), (w1.heap.size + 1, 0, .int .i64 d), (w1.heap.size + 1, 1, .int .i64 g), (w1.heap.size + 1, 2, .int .i64 q), (w1.heap.size, 0, .int .i64 s), (w1.heap.size, 1, .slice ra n rc)]) (fs' := [(w1.heap.size + 1 + 1, w2.heap.size, OL (InR (w1.heap.size + 1 + 1) w2.heap.size) (some ⟨b, off, none⟩) fn FL), (w.heap.size, w1.heap.size, OL (InR w.heap.size w1.heap.size) ra n ls)]) (fun _ h => List.mem_cons_of_mem _ (List.mem_cons_of_mem _ (List.mem_cons_of_mem _ h))) (fun _ h => h))
        clear HM1
        go_wp2
        go_roundw
        case rel => exact ⟨k + 1, by omega, by go_num, HE.out⟩
        case measure => simp [intOf]; omega
      · have hlk := hor.resolve_left hy
        have el : (lkC s ls (g3 FL k).1 (g3 FL k).2.1 != 0) = false := by rw [hlk.1]; rfl
        have ev : (lkV s ls (g3 FL k).1 (g3 FL k).2.1 != (g3 FL k).2.2) = false := by rw [hlk.2]; simp
        clear hor hlk
        by_cases h1 : (g3 FL k).1 = d
        · have e1 := eq_true h1
          by_cases h2 : (g3 FL k).2.1 = g
          · have e2 := eq_true h2
            have h3 : ¬ (g3 FL k).2.2 = q := fun h3 => hy (Prod.ext h1 (Prod.ext h2 h3))
            clear h1 h2 hy
            go_upto_region 14 with fail
            rw [← HX.out]
            clear r0 r1 r2 a3
            go_region_held2 (fun w' => w'.cell? ⟨wr.heap.size, 0, none⟩ = some (.int .i64 (g3 FL k).1) ∧ w'.cell? ⟨wr.heap.size, 1, none⟩ = some (.int .i64 (g3 FL k).2.1) ∧ w'.cell? ⟨wr.heap.size, 2, none⟩ = some (.int .i64 (g3 FL k).2.2) ∧ w'.cell? ⟨w1.heap.size + 1, 0, none⟩ = some (.int .i64 d) ∧ w'.cell? ⟨w1.heap.size + 1, 1, none⟩ = some (.int .i64 g) ∧ w'.cell? ⟨w1.heap.size + 1, 2, none⟩ = some (.int .i64 q) ∧ w'.cell? ⟨w1.heap.size, 0, none⟩ = some (.int .i64 s) ∧ w'.cell? ⟨w1.heap.size, 1, none⟩ = some (.slice ra n rc) ∧ Below X.heap.size X w')
              (first | with_reducible exact HS2.out | with_reducible assumption)
              (first
                | (go_at_call 8; refine (implLookCache_calls s ra n rc ls (g3 FL k).1 (g3 FL k).2.1 _ hnm hrc ?_).mono ?_; exact HCs.out.below (q8_bel (by with_reducible assumption)) (Nat.le_refl _); rintro e y1 ⟨rfl, ga⟩; have hs1 := q8_below lt0 lt1 lt2 lt3 lt4 lt5 lt6 lt7 (by with_reducible assumption) ga; clear ga))
            have HE := hide ((HM1.out.below (q8_bel hs1)).sub (cs' := [(w2.heap.size, 0, .int .i64 (fiC s ls (d, g, q) r)), (w2.heap.size, 1, .int .i64 (FL.length : Int)), (w2.heap.size, 2, .int .i64 s), (w2.heap.size, 3, .slice (some ⟨b, off, none⟩) fn fc), (w1.heap.size + 1, 0, .int .i64 d), (w1.heap.size + 1, 1, .int .i64 g), (w1.heap.size + 1, 2, .int .i64 q), (w1.heap.size, 0, .int .i64 s), (w1.heap.size, 1, .slice ra n rc)]) (fs' := [(w1.heap.size + 1 + 1, w2.heap.size, OL (InR (w1.heap.size + 1 + 1) w2.heap.size) (some ⟨b, off, none⟩) fn FL), (w.heap.size, w1.heap.size, OL (InR w.heap.size w1.heap.size) ra n ls)]) (fun _ h => List.mem_cons_of_mem _ (List.mem_cons_of_mem _ (List.mem_cons_of_mem _ h))) (fun _ h => h))
            clear hs1 HS2 HM1 HCs
            go_wp2
            go_roundw
            case rel => exact ⟨k + 1, by omega, by go_num, HE.out⟩
            case measure => simp [intOf]; omega
          · clear h1 hy
            go_upto_region 14 with fail
            rw [← HX.out]
            clear r0 r1 r2 a3
            go_region_held2 (fun w' => w'.cell? ⟨wr.heap.size, 0, none⟩ = some (.int .i64 (g3 FL k).1) ∧ w'.cell? ⟨wr.heap.size, 1, none⟩ = some (.int .i64 (g3 FL k).2.1) ∧ w'.cell? ⟨wr.heap.size, 2, none⟩ = some (.int .i64 (g3 FL k).2.2) ∧ w'.cell? ⟨w1.heap.size + 1, 0, none⟩ = some (.int .i64 d) ∧ w'.cell? ⟨w1.heap.size + 1, 1, none⟩ = some (.int .i64 g) ∧ w'.cell? ⟨w1.heap.size + 1, 2, none⟩ = some (.int .i64 q) ∧ w'.cell? ⟨w1.heap.size, 0, none⟩ = some (.int .i64 s) ∧ w'.cell? ⟨w1.heap.size, 1, none⟩ = some (.slice ra n rc) ∧ Below X.heap.size X w')
              (first | with_reducible exact HS2.out | with_reducible assumption)
              (first
                | (go_at_call 8; refine (implLookCache_calls s ra n rc ls (g3 FL k).1 (g3 FL k).2.1 _ hnm hrc ?_).mono ?_; exact HCs.out.below (q8_bel (by with_reducible assumption)) (Nat.le_refl _); rintro e y1 ⟨rfl, ga⟩; have hs1 := q8_below lt0 lt1 lt2 lt3 lt4 lt5 lt6 lt7 (by with_reducible assumption) ga; clear ga))
            have HE := hide ((HM1.out.below (q8_bel hs1)).sub (cs' := [(w2.heap.size, 0, .int .i64 (fiC s ls (d, g, q) r)), (w2.heap.size, 1, .int .i64 (FL.length : Int)), (w2.heap.size, 2, .int .i64 s), (w2.heap.size, 3, .slice (some ⟨b, off, none⟩) fn fc), (w1.heap.size + 1, 0, .int .i64 d), (w1.heap.size + 1, 1, .int .i64 g), (w1.heap.size + 1, 2, .int .i64 q), (w1.heap.size, 0, .int .i64 s), (w1.heap.size, 1, .slice ra n rc)]) (fs' := [(w1.heap.size + 1 + 1, w2.heap.size, OL (InR (w1.heap.size + 1 + 1) w2.heap.size) (some ⟨b, off, none⟩) fn FL), (w.heap.size, w1.heap.size, OL (InR w.heap.size w1.heap.size) ra n ls)]) (fun _ h => List.mem_cons_of_mem _ (List.mem_cons_of_mem _ (List.mem_cons_of_mem _ h))) (fun _ h => h))
            clear hs1 HS2 HM1 HCs
            go_wp2
            go_roundw
            case rel => exact ⟨k + 1, by omega, by go_num, HE.out⟩
            case measure => simp [intOf]; omega
        · clear hy
          go_upto_region 14 with fail
          rw [← HX.out]
          clear r0 r1 r2 a3
          go_region_held2 (fun w' => w'.cell? ⟨wr.heap.size, 0, none⟩ = some (.int .i64 (g3 FL k).1) ∧ w'.cell? ⟨wr.heap.size, 1, none⟩ = some (.int .i64 (g3 FL k).2.1) ∧ w'.cell? ⟨wr.heap.size, 2, none⟩ = some (.int .i64 (g3 FL k).2.2) ∧ w'.cell? ⟨w1.heap.size + 1, 0, none⟩ = some (.int .i64 d) ∧ w'.cell? ⟨w1.heap.size + 1, 1, none⟩ = some (.int .i64 g) ∧ w'.cell? ⟨w1.heap.size + 1, 2, none⟩ = some (.int .i64 q) ∧ w'.cell? ⟨w1.heap.size, 0, none⟩ = some (.int .i64 s) ∧ w'.cell? ⟨w1.heap.size, 1, none⟩ = some (.slice ra n rc) ∧ Below X.heap.size X w')
            (first | with_reducible exact HS2.out | with_reducible assumption)
            (first
              | (go_at_call 8; refine (implLookCache_calls s ra n rc ls (g3 FL k).1 (g3 FL k).2.1 _ hnm hrc ?_).mono ?_; exact HCs.out.below (q8_bel (by with_reducible assumption)) (Nat.le_refl _); rintro e y1 ⟨rfl, ga⟩; have hs1 := q8_below lt0 lt1 lt2 lt3 lt4 lt5 lt6 lt7 (by with_reducible assumption) ga; clear ga))
          have HE := hide ((HM1.out.below (q8_bel hs1)).sub (cs' := [(w2.heap.size, 0, .int .i64 (fiC s ls (d, g, q) r)), (w2.heap.size, 1, .int .i64 (FL.length : Int)), (w2.heap.size, 2, .int .i64 s), (w2.heap.size, 3, .slice (some ⟨b, off, none⟩) fn fc), (w1.heap.size + 1, 0, .int .i64 d), (w1.heap.size + 1, 1, .int .i64 g), (w1.heap.size + 1, 2, .int .i64 q), (w1.heap.size, 0, .int .i64 s), (w1.heap.size, 1, .slice ra n rc)]) (fs' := [(w1.heap.size + 1 + 1, w2.heap.size, OL (InR (w1.heap.size + 1 + 1) w2.heap.size) (some ⟨b, off, none⟩) fn FL), (w.heap.size, w1.heap.size, OL (InR w.heap.size w1.heap.size) ra n ls)]) (fun _ h => List.mem_cons_of_mem _ (List.mem_cons_of_mem _ (List.mem_cons_of_mem _ h))) (fun _ h => h))
          clear hs1 HS2 HM1 HCs
          go_wp2
          go_roundw
          case rel => exact ⟨k + 1, by omega, by go_num, HE.out⟩
          case measure => simp [intOf]; omega
    · obtain rfl : k = fn := by omega
      clear hlt hk
      have hFl : FL.length = k := (M.get 0 rfl).sln.1
      have hkn : k ≤ maxLen := by have := (M.get 0 rfl).2.1; unfold maxLen; omega
      have hgood := fi_good hfl hok hr0
      have hkn2 := fi_known hfl hok hr0
      rw [HFL.out] at hgood hkn2
      have HG := hide hgood
      have HKn := hide hkn2
      have eF : (faultC s FL == 0) = true := by rw [hgood.1]; rfl
      have eL : ((FL.length : Int)) ≤ s := hgood.2
      have eV : ((FL.length : Int) == (k : Int)) = true := by rw [hFl]; simp
      have eL2 : (k : Int) ≤ s := by rw [← hFl]; exact hgood.2
      have a2 := M.cell 2 rfl
      have b0 := M.cell 4 rfl
      have b1 := M.cell 5 rfl
      have hfs := (M.get 0 rfl).sln
      clear hgood hkn2
      go_wp2_with fail
      refine (implLookCache_calls s fa k fc FL d g _ hkn hfc hfs).mono ?_
      rintro e v1 ⟨rfl, g1⟩
      have N1 := (M.below g1).alloc2 (.int .i64 (lkC s FL d g)) (.int .i64 (lkV s FL d g)) 37
      have zz := g1.size
      clear M g1 a3 a2 b0 b1 hfs
      have a2 := N1.cell 4 rfl
      have a3 := N1.cell 5 rfl
      have hfs := (N1.get 0 rfl).sln
      go_wp2_with fail
      refine (implCacheFault_calls s fa k fc FL _ hkn hfc hfs).mono ?_
      rintro e v2 ⟨rfl, g2⟩
      have N2 := N1.below g2
      clear N1 g2 a2 a3 hfs
      have k0 := N2.cell 0 rfl
      have k1 := N2.cell 1 rfl
      have a1 := N2.cell 3 rfl
      have a3 := N2.cell 5 rfl
      have b2 := N2.cell 8 rfl
      have c0 := N2.cell 9 rfl
      have HE := hide N2.bel
      clear N2
      rcases HKn.out with ⟨hs0, hk4⟩ | ⟨hs0, hk0, hkv⟩
      · have t1 : (s == 0) = true := by simpa using hs0
        have t2 : (lkC s FL d g == 4) = true := by simpa using hk4
        clear hs0 hk4 HKn HG
        go_wp2
        go_ret
        exact ⟨rfl, HE.out⟩
      · have t1 : (s == 0) = false := by simp; omega
        have t2 : (lkC s FL d g == 0) = true := by simpa using hk0
        have t3 : (lkV s FL d g == q) = true := by simpa using hkv
        clear hk0 hkv HKn HG
        go_wp2
        go_ret
        exact ⟨rfl, HE.out⟩

end Go.Proofs.Ytlilbbkidaahlaa
