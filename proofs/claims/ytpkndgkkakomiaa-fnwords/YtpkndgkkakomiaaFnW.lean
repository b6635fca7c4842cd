import Derived.Test.YtpkndgkkakomiaaDrawW3
import Derived.Test.YtpkndgkkakomiaaFnWP
import Derived.WalkKit
import Derived.ProofKit
import Derived.OpenShut
import Derived.ShutString
import Derived.ChangeOld
import Derived.Below
import Derived.WalkSpells
import Derived.Deep.QuietTactic
import Derived.BigQuiet
import Derived.Deep.RegionWith
import Derived.Deep.WholeRow
import Derived.Deep.DeepCutAuto
import Derived.Deep.RegionHeld2
import Derived.Deep.AppendLies
import Derived.Deep.RegionLaw
namespace Go.Proofs.Ytpkndgkkakomiaa
open Go.ChangeShapes Go.WideShapes Go.ChangeAt Go.RowKit

set_option maxRecDepth 100000 in
theorem lwBig_calls (a : Option Addr) (len cap : Nat) (w : World) (_hl : len ≤ maxLen) :
    Calls Try.prog 4 #[.slice a len cap] w fun e w' => e = .returned (.bool (decide (1048576 < (len : Int)))) ∧ w' = w := by
  go_enter Try.func4, Try.ntmps4
  go_wp2
  go_ret
  exact ⟨rfl, rfl⟩

theorem q2_bel {W X : World} {A0 A1 : Addr} {v0 v1 : Value} (h : X.cell? A0 = some v0 ∧ X.cell? A1 = some v1 ∧ Below W.heap.size W X) : Below W.heap.size W X := h.2.2

theorem q2_below {W X Y : World} {A0 A1 : Addr} {v0 v1 : Value} (h0 : A0.block < W.heap.size) (h1 : A1.block < W.heap.size) (h : X.cell? A0 = some v0 ∧ X.cell? A1 = some v1 ∧ Below W.heap.size W X) (g : Below X.heap.size X Y) : Y.cell? A0 = some v0 ∧ Y.cell? A1 = some v1 ∧ Below W.heap.size W Y := by
  have hz := (h.2.2).size
  exact ⟨(g.cell (by omega)).trans h.1, (g.cell (by omega)).trans h.2.1, (h.2.2).trans (g.mono hz)⟩

theorem q2_alloc {W X : World} {A0 A1 : Addr} {v0 v1 : Value} (h0 : A0.block < W.heap.size) (h1 : A1.block < W.heap.size) (h : X.cell? A0 = some v0 ∧ X.cell? A1 = some v1 ∧ Below W.heap.size W X) (o : Obj) : (X.alloc o).cell? A0 = some v0 ∧ (X.alloc o).cell? A1 = some v1 ∧ Below W.heap.size W (X.alloc o) := q2_below h0 h1 h ((Below.refl _ _).alloc (Nat.le_refl _) o)

theorem q2_allocd {W X : World} {A0 A1 : Addr} {v0 v1 : Value} (h0 : A0.block < W.heap.size) (h1 : A1.block < W.heap.size) (h : X.drew.cell? A0 = some v0 ∧ X.drew.cell? A1 = some v1 ∧ Below W.heap.size W X.drew) (o : Obj) : (X.alloc o).drew.cell? A0 = some v0 ∧ (X.alloc o).drew.cell? A1 = some v1 ∧ Below W.heap.size W (X.alloc o).drew := q2_alloc h0 h1 h o

theorem q2_set {W X : World} {A0 A1 : Addr} {v0 v1 : Value} (h0 : A0.block < W.heap.size) (h1 : A1.block < W.heap.size) (h : X.cell? A0 = some v0 ∧ X.cell? A1 = some v1 ∧ Below W.heap.size W X) {p : Addr} (hp : W.heap.size ≤ p.block) (y : Value) : (X.setCell p y).cell? A0 = some v0 ∧ (X.setCell p y).cell? A1 = some v1 ∧ Below W.heap.size W (X.setCell p y) :=
  ⟨(World.cell?_setCell_other _ _ _ _ (fun e => by rw [e] at hp; omega)).trans h.1, (World.cell?_setCell_other _ _ _ _ (fun e => by rw [e] at hp; omega)).trans h.2.1, (h.2.2).setCell hp y⟩

theorem q3_bel {W X : World} {A0 A1 A2 : Addr} {v0 v1 v2 : Value} (h : X.cell? A0 = some v0 ∧ X.cell? A1 = some v1 ∧ X.cell? A2 = some v2 ∧ Below W.heap.size W X) : Below W.heap.size W X := h.2.2.2

theorem q3_below {W X Y : World} {A0 A1 A2 : Addr} {v0 v1 v2 : Value} (h0 : A0.block < W.heap.size) (h1 : A1.block < W.heap.size) (h2 : A2.block < W.heap.size) (h : X.cell? A0 = some v0 ∧ X.cell? A1 = some v1 ∧ X.cell? A2 = some v2 ∧ Below W.heap.size W X) (g : Below X.heap.size X Y) : Y.cell? A0 = some v0 ∧ Y.cell? A1 = some v1 ∧ Y.cell? A2 = some v2 ∧ Below W.heap.size W Y := by
  have hz := (h.2.2.2).size
  exact ⟨(g.cell (by omega)).trans h.1, (g.cell (by omega)).trans h.2.1, (g.cell (by omega)).trans h.2.2.1, (h.2.2.2).trans (g.mono hz)⟩

theorem q3_alloc {W X : World} {A0 A1 A2 : Addr} {v0 v1 v2 : Value} (h0 : A0.block < W.heap.size) (h1 : A1.block < W.heap.size) (h2 : A2.block < W.heap.size) (h : X.cell? A0 = some v0 ∧ X.cell? A1 = some v1 ∧ X.cell? A2 = some v2 ∧ Below W.heap.size W X) (o : Obj) : (X.alloc o).cell? A0 = some v0 ∧ (X.alloc o).cell? A1 = some v1 ∧ (X.alloc o).cell? A2 = some v2 ∧ Below W.heap.size W (X.alloc o) := q3_below h0 h1 h2 h ((Below.refl _ _).alloc (Nat.le_refl _) o)

theorem q3_allocd {W X : World} {A0 A1 A2 : Addr} {v0 v1 v2 : Value} (h0 : A0.block < W.heap.size) (h1 : A1.block < W.heap.size) (h2 : A2.block < W.heap.size) (h : X.drew.cell? A0 = some v0 ∧ X.drew.cell? A1 = some v1 ∧ X.drew.cell? A2 = some v2 ∧ Below W.heap.size W X.drew) (o : Obj) : (X.alloc o).drew.cell? A0 = some v0 ∧ (X.alloc o).drew.cell? A1 = some v1 ∧ (X.alloc o).drew.cell? A2 = some v2 ∧ Below W.heap.size W (X.alloc o).drew := q3_alloc h0 h1 h2 h o

theorem q3_set {W X : World} {A0 A1 A2 : Addr} {v0 v1 v2 : Value} (h0 : A0.block < W.heap.size) (h1 : A1.block < W.heap.size) (h2 : A2.block < W.heap.size) (h : X.cell? A0 = some v0 ∧ X.cell? A1 = some v1 ∧ X.cell? A2 = some v2 ∧ Below W.heap.size W X) {p : Addr} (hp : W.heap.size ≤ p.block) (y : Value) : (X.setCell p y).cell? A0 = some v0 ∧ (X.setCell p y).cell? A1 = some v1 ∧ (X.setCell p y).cell? A2 = some v2 ∧ Below W.heap.size W (X.setCell p y) :=
  ⟨(World.cell?_setCell_other _ _ _ _ (fun e => by rw [e] at hp; omega)).trans h.1, (World.cell?_setCell_other _ _ _ _ (fun e => by rw [e] at hp; omega)).trans h.2.1, (World.cell?_setCell_other _ _ _ _ (fun e => by rw [e] at hp; omega)).trans h.2.2.1, (h.2.2.2).setCell hp y⟩

theorem q4_bel {W X : World} {A0 A1 A2 A3 : Addr} {v0 v1 v2 v3 : Value} (h : X.cell? A0 = some v0 ∧ X.cell? A1 = some v1 ∧ X.cell? A2 = some v2 ∧ X.cell? A3 = some v3 ∧ Below W.heap.size W X) : Below W.heap.size W X := h.2.2.2.2

theorem q4_below {W X Y : World} {A0 A1 A2 A3 : Addr} {v0 v1 v2 v3 : Value} (h0 : A0.block < W.heap.size) (h1 : A1.block < W.heap.size) (h2 : A2.block < W.heap.size) (h3 : A3.block < W.heap.size) (h : X.cell? A0 = some v0 ∧ X.cell? A1 = some v1 ∧ X.cell? A2 = some v2 ∧ X.cell? A3 = some v3 ∧ Below W.heap.size W X) (g : Below X.heap.size X Y) : Y.cell? A0 = some v0 ∧ Y.cell? A1 = some v1 ∧ Y.cell? A2 = some v2 ∧ Y.cell? A3 = some v3 ∧ Below W.heap.size W Y := by
  have hz := (h.2.2.2.2).size
  exact ⟨(g.cell (by omega)).trans h.1, (g.cell (by omega)).trans h.2.1, (g.cell (by omega)).trans h.2.2.1, (g.cell (by omega)).trans h.2.2.2.1, (h.2.2.2.2).trans (g.mono hz)⟩

theorem q4_alloc {W X : World} {A0 A1 A2 A3 : Addr} {v0 v1 v2 v3 : Value} (h0 : A0.block < W.heap.size) (h1 : A1.block < W.heap.size) (h2 : A2.block < W.heap.size) (h3 : A3.block < W.heap.size) (h : X.cell? A0 = some v0 ∧ X.cell? A1 = some v1 ∧ X.cell? A2 = some v2 ∧ X.cell? A3 = some v3 ∧ Below W.heap.size W X) (o : Obj) : (X.alloc o).cell? A0 = some v0 ∧ (X.alloc o).cell? A1 = some v1 ∧ (X.alloc o).cell? A2 = some v2 ∧ (X.alloc o).cell? A3 = some v3 ∧ Below W.heap.size W (X.alloc o) := q4_below h0 h1 h2 h3 h ((Below.refl _ _).alloc (Nat.le_refl _) o)

theorem q4_allocd {W X : World} {A0 A1 A2 A3 : Addr} {v0 v1 v2 v3 : Value} (h0 : A0.block < W.heap.size) (h1 : A1.block < W.heap.size) (h2 : A2.block < W.heap.size) (h3 : A3.block < W.heap.size) (h : X.drew.cell? A0 = some v0 ∧ X.drew.cell? A1 = some v1 ∧ X.drew.cell? A2 = some v2 ∧ X.drew.cell? A3 = some v3 ∧ Below W.heap.size W X.drew) (o : Obj) : (X.alloc o).drew.cell? A0 = some v0 ∧ (X.alloc o).drew.cell? A1 = some v1 ∧ (X.alloc o).drew.cell? A2 = some v2 ∧ (X.alloc o).drew.cell? A3 = some v3 ∧ Below W.heap.size W (X.alloc o).drew := q4_alloc h0 h1 h2 h3 h o

theorem q4_set {W X : World} {A0 A1 A2 A3 : Addr} {v0 v1 v2 v3 : Value} (h0 : A0.block < W.heap.size) (h1 : A1.block < W.heap.size) (h2 : A2.block < W.heap.size) (h3 : A3.block < W.heap.size) (h : X.cell? A0 = some v0 ∧ X.cell? A1 = some v1 ∧ X.cell? A2 = some v2 ∧ X.cell? A3 = some v3 ∧ Below W.heap.size W X) {p : Addr} (hp : W.heap.size ≤ p.block) (y : Value) : (X.setCell p y).cell? A0 = some v0 ∧ (X.setCell p y).cell? A1 = some v1 ∧ (X.setCell p y).cell? A2 = some v2 ∧ (X.setCell p y).cell? A3 = some v3 ∧ Below W.heap.size W (X.setCell p y) :=
  ⟨(World.cell?_setCell_other _ _ _ _ (fun e => by rw [e] at hp; omega)).trans h.1, (World.cell?_setCell_other _ _ _ _ (fun e => by rw [e] at hp; omega)).trans h.2.1, (World.cell?_setCell_other _ _ _ _ (fun e => by rw [e] at hp; omega)).trans h.2.2.1, (World.cell?_setCell_other _ _ _ _ (fun e => by rw [e] at hp; omega)).trans h.2.2.2.1, (h.2.2.2.2).setCell hp y⟩

theorem q5_bel {W X : World} {A0 A1 A2 A3 A4 : Addr} {v0 v1 v2 v3 v4 : Value} (h : X.cell? A0 = some v0 ∧ X.cell? A1 = some v1 ∧ X.cell? A2 = some v2 ∧ X.cell? A3 = some v3 ∧ X.cell? A4 = some v4 ∧ Below W.heap.size W X) : Below W.heap.size W X := h.2.2.2.2.2

theorem q5_below {W X Y : World} {A0 A1 A2 A3 A4 : Addr} {v0 v1 v2 v3 v4 : Value} (h0 : A0.block < W.heap.size) (h1 : A1.block < W.heap.size) (h2 : A2.block < W.heap.size) (h3 : A3.block < W.heap.size) (h4 : A4.block < W.heap.size) (h : X.cell? A0 = some v0 ∧ X.cell? A1 = some v1 ∧ X.cell? A2 = some v2 ∧ X.cell? A3 = some v3 ∧ X.cell? A4 = some v4 ∧ Below W.heap.size W X) (g : Below X.heap.size X Y) : Y.cell? A0 = some v0 ∧ Y.cell? A1 = some v1 ∧ Y.cell? A2 = some v2 ∧ Y.cell? A3 = some v3 ∧ Y.cell? A4 = some v4 ∧ Below W.heap.size W Y := by
  have hz := (h.2.2.2.2.2).size
  exact ⟨(g.cell (by omega)).trans h.1, (g.cell (by omega)).trans h.2.1, (g.cell (by omega)).trans h.2.2.1, (g.cell (by omega)).trans h.2.2.2.1, (g.cell (by omega)).trans h.2.2.2.2.1, (h.2.2.2.2.2).trans (g.mono hz)⟩

theorem q5_alloc {W X : World} {A0 A1 A2 A3 A4 : Addr} {v0 v1 v2 v3 v4 : Value} (h0 : A0.block < W.heap.size) (h1 : A1.block < W.heap.size) (h2 : A2.block < W.heap.size) (h3 : A3.block < W.heap.size) (h4 : A4.block < W.heap.size) (h : X.cell? A0 = some v0 ∧ X.cell? A1 = some v1 ∧ X.cell? A2 = some v2 ∧ X.cell? A3 = some v3 ∧ X.cell? A4 = some v4 ∧ Below W.heap.size W X) (o : Obj) : (X.alloc o).cell? A0 = some v0 ∧ (X.alloc o).cell? A1 = some v1 ∧ (X.alloc o).cell? A2 = some v2 ∧ (X.alloc o).cell? A3 = some v3 ∧ (X.alloc o).cell? A4 = some v4 ∧ Below W.heap.size W (X.alloc o) := q5_below h0 h1 h2 h3 h4 h ((Below.refl _ _).alloc (Nat.le_refl _) o)

theorem q5_allocd {W X : World} {A0 A1 A2 A3 A4 : Addr} {v0 v1 v2 v3 v4 : Value} (h0 : A0.block < W.heap.size) (h1 : A1.block < W.heap.size) (h2 : A2.block < W.heap.size) (h3 : A3.block < W.heap.size) (h4 : A4.block < W.heap.size) (h : X.drew.cell? A0 = some v0 ∧ X.drew.cell? A1 = some v1 ∧ X.drew.cell? A2 = some v2 ∧ X.drew.cell? A3 = some v3 ∧ X.drew.cell? A4 = some v4 ∧ Below W.heap.size W X.drew) (o : Obj) : (X.alloc o).drew.cell? A0 = some v0 ∧ (X.alloc o).drew.cell? A1 = some v1 ∧ (X.alloc o).drew.cell? A2 = some v2 ∧ (X.alloc o).drew.cell? A3 = some v3 ∧ (X.alloc o).drew.cell? A4 = some v4 ∧ Below W.heap.size W (X.alloc o).drew := q5_alloc h0 h1 h2 h3 h4 h o

theorem q5_set {W X : World} {A0 A1 A2 A3 A4 : Addr} {v0 v1 v2 v3 v4 : Value} (h0 : A0.block < W.heap.size) (h1 : A1.block < W.heap.size) (h2 : A2.block < W.heap.size) (h3 : A3.block < W.heap.size) (h4 : A4.block < W.heap.size) (h : X.cell? A0 = some v0 ∧ X.cell? A1 = some v1 ∧ X.cell? A2 = some v2 ∧ X.cell? A3 = some v3 ∧ X.cell? A4 = some v4 ∧ Below W.heap.size W X) {p : Addr} (hp : W.heap.size ≤ p.block) (y : Value) : (X.setCell p y).cell? A0 = some v0 ∧ (X.setCell p y).cell? A1 = some v1 ∧ (X.setCell p y).cell? A2 = some v2 ∧ (X.setCell p y).cell? A3 = some v3 ∧ (X.setCell p y).cell? A4 = some v4 ∧ Below W.heap.size W (X.setCell p y) :=
  ⟨(World.cell?_setCell_other _ _ _ _ (fun e => by rw [e] at hp; omega)).trans h.1, (World.cell?_setCell_other _ _ _ _ (fun e => by rw [e] at hp; omega)).trans h.2.1, (World.cell?_setCell_other _ _ _ _ (fun e => by rw [e] at hp; omega)).trans h.2.2.1, (World.cell?_setCell_other _ _ _ _ (fun e => by rw [e] at hp; omega)).trans h.2.2.2.1, (World.cell?_setCell_other _ _ _ _ (fun e => by rw [e] at hp; omega)).trans h.2.2.2.2.1, (h.2.2.2.2.2).setCell hp y⟩

theorem mrF0 (c : Int) (l : Value) (w : World) : (Instr.field 30 (.agg #[.int .i64 c, l]) 0).run Try.prog w = .ok (.int .i64 c) w := by kernel_rfl

theorem wrF0 (c v t : Int) (w : World) : (Instr.field 38 (.agg #[.int .i64 c, .int .i64 v, .int .i64 t]) 0).run Try.prog w = .ok (.int .i64 c) w := by kernel_rfl

theorem wrF1 (c v t : Int) (w : World) : (Instr.field 38 (.agg #[.int .i64 c, .int .i64 v, .int .i64 t]) 1).run Try.prog w = .ok (.agg #[.int .i64 v, .int .i64 t]) w := by kernel_rfl

theorem irF1 (c v : Int) (w : World) : (Instr.field 43 (.agg #[.int .i64 c, .int .i64 v]) 1).run Try.prog w = .ok (.int .i64 v) w := by kernel_rfl

theorem wF1 (v t : Int) (w : World) : (Instr.field 36 (.agg #[.int .i64 v, .int .i64 t]) 1).run Try.prog w = .ok (.int .i64 t) w := by kernel_rfl

set_option maxRecDepth 100000 in
theorem words_big (a : Option Addr) (len cap : Nat) (w : World) (hl : len ≤ maxLen) (hbig : 1048576 < len) :
    Calls Try.prog 3 #[.slice a len cap] w fun e w' => e = .returned (.bool true) ∧ Below w.heap.size w w' := by
  go_enter Try.func3, Try.ntmps3
  go_wp2_with fail
  refine (lwBig_calls a len cap _ hl).mono ?_
  rintro e w1 ⟨rfl, hw⟩
  obtain rfl : w = w1 := hw.symm
  clear hw
  rw [decide_eq_true (by omega)]
  go_wp2
  go_ret
  exact ⟨rfl, Below.refl _ _⟩

set_option maxRecDepth 100000 in
set_option maxHeartbeats 8000000 in
theorem words_small (a : Option Addr) (len cap : Nat) (w : World) (hc : Cd w a len) :
    Calls Try.prog 3 #[.slice a len cap] w fun e w' => e = .returned (.bool true) ∧ Below w.heap.size w w' := by
  have hlm : len ≤ maxLen := by have := hc.1; unfold maxLen; omega
  have M0 := Mm.start w
  have fd0 := mrF0
  have fd1 := wrF0
  have fd2 := wrF1
  have fd3 := irF1
  have fd4 := wF1
  go_enter Try.func3, Try.ntmps3
  go_wp2_with fail
  refine (lwBig_calls a len cap _ hlm).mono ?_
  rintro e w0 ⟨rfl, hw⟩
  obtain rfl : w = w0 := hw.symm
  rw [decide_eq_false (by have := hc.1; omega)]
  clear hw
  go_wp2_with fail
  refine (drawStoreWord_calls a len cap _ hc).mono ?_
  rintro e w1 ⟨ra, n, rc, ls, xs, hxs, rfl, o1, hn, g1⟩
  obtain ⟨p, v, rfl⟩ : ∃ p v, xs = [p, v] := by match xs, hxs with | [p, v], _ => exact ⟨p, v, rfl⟩
  simp only [List.map_cons, List.map_nil]
  have z1 := g1.size
  have M1 := ((M0.below g1).fact OWd.loc o1).alloc1 (.slice ra n rc) 26
  have hnm : n ≤ maxLen := by unfold maxLen; omega
  clear M0 g1 o1 hxs
  go_wp2_with fail
  refine (implStoreWord_calls ra n rc ls p v _ hnm (M1.get 0 rfl).swd).mono ?_
  rintro e w2 ⟨sa, sn, sc, rfl, o2, g2⟩
  have z2 := g2.size
  simp only [World.size_alloc] at z2 o2
  have M2 := ((M1.below g2).fact OWd.loc o2).alloc2 (.int .i64 (swC ls p v)) (.slice sa sn sc) 30
  clear M1 g2 o2
  have hc2 := hc.below M2.bel
  go_wp2_with fail
  refine (drawRetagWords_calls a len cap _ hc2).mono ?_
  rintro e w3 ⟨xa, xn, xc, xl, xs, hxs, rfl, o3, hxn, g3⟩
  obtain ⟨f, k, g, rfl⟩ : ∃ f k g, xs = [f, k, g] := by match xs, hxs with | [f, k, g], _ => exact ⟨f, k, g, rfl⟩
  simp only [List.map_cons, List.map_nil]
  have z3 := g3.size
  simp only [World.size_alloc] at z3 o3
  have M3 := ((M2.below g3).fact OWd.loc o3).alloc1 (.slice xa xn xc) 26
  have hxm : xn ≤ maxLen := by unfold maxLen; omega
  clear M2 g3 o3 hc2 hxs
  go_wp2_with fail
  refine (implRetagWords_calls xa xn xc xl f k g _ hxm (M3.get 0 rfl).swd).mono ?_
  rintro e w4 ⟨qa, qn, qc, rfl, o4, g4⟩
  have z4 := g4.size
  simp only [World.size_alloc] at z4 o4
  have M4 := ((M3.below g4).fact OWd.loc o4).alloc2 (.int .i64 (rtC xl f k g)) (.slice qa qn qc) 30
  clear M3 g4 o4
  have e1 : (rtC xl f k g != rtC xl f k g) = false := by simp
  have u0 := M4.cell 0 rfl
  have u2 := M4.cell 2 rfl
  obtain ⟨W, hW⟩ : ∃ W : World, W = w4.alloc (.cells #[.int .i64 (rtC xl f k g), .slice qa qn qc] 30) := ⟨_, rfl⟩
  rw [← hW] at M4
  have HW := hide hW
  have lt0 : (Addr.mk (w4.heap.size) 0 none).block < W.heap.size := M4.lt 0 rfl
  have lt1 : (Addr.mk (w3.heap.size) 0 none).block < W.heap.size := M4.lt 2 rfl
  have HM := hide M4
  have HXS := hide (M4.get 1 rfl).swd
  have HS0 : Hid (W.drew.cell? ⟨w4.heap.size, 0, none⟩ = some (.int .i64 (rtC xl f k g)) ∧ W.drew.cell? ⟨w3.heap.size, 0, none⟩ = some (.slice xa xn xc) ∧ Below W.heap.size W W.drew) := ⟨M4.cell 0 rfl, M4.cell 2 rfl, (Below.refl _ _).drew⟩
  clear M4 hW 
  go_upto_region 7 with fail
  rw [← HW.out]
  clear u0 u2
  go_region_held2 (fun w' => w'.cell? ⟨w4.heap.size, 0, none⟩ = some (.int .i64 (rtC xl f k g)) ∧ w'.cell? ⟨w3.heap.size, 0, none⟩ = some (.slice xa xn xc) ∧ Below W.heap.size W w')
    (first | with_reducible exact HS0.out | with_reducible assumption)
    (first
      | (go_at_call 9; refine (specRetagWords_calls xa xn xc xl f k g _ hxm ?_).mono ?_; exact HXS.out.below (q2_bel (by with_reducible assumption)) (Nat.le_refl _); rintro e y1 ⟨_, _, _, rfl, _, ga⟩; have hs1 := q2_below lt0 lt1 (by with_reducible assumption) ga; clear ga))
  have MR := HM.out.below (q2_bel hs1)
  clear hs1 HS0 HM lt0 lt1 HXS HW
  obtain ⟨w5, rfl⟩ : ∃ x, x = y1 := ⟨y1, rfl⟩
  have HL0 := hide MR
  clear MR
  go_wp2
  go_loopw [12] (fun i wr => ∃ j : Nat, j ≤ xn ∧ i = .int .i64 j ∧ Mm w wr [(w4.heap.size, 0, .int .i64 (rtC xl f k g)), (w4.heap.size, 1, .slice qa qn qc), (w3.heap.size, 0, .slice xa xn xc), (w2.heap.size, 0, .int .i64 (swC ls p v)), (w2.heap.size, 1, .slice sa sn sc), (w1.heap.size, 0, .slice ra n rc)] [(w3.heap.size + 1, w4.heap.size, OWd (InR (w3.heap.size + 1) w4.heap.size) qa qn (rtL xl f k g)), (w2.heap.size + 1 , w3.heap.size, OWd (InR (w2.heap.size + 1) w3.heap.size) xa xn xl), (w1.heap.size + 1, w2.heap.size, OWd (InR (w1.heap.size + 1) w2.heap.size) sa sn (swL ls p v)), (w.heap.size, w1.heap.size, OWd (InR w.heap.size w1.heap.size) ra n ls)]) (fun i _ => xn - (intOf i).toNat)
  case atStart => exact ⟨0, Nat.zero_le _, rfl, HL0.out⟩
  case round =>
    clear HL0
    obtain ⟨j, hj, rfl, M⟩ := hrel
    have hxl : xl.length = xn := (M.get 1 rfl).1
    have u0 := M.cell 0 rfl
    have u2 := M.cell 2 rfl
    by_cases hgo : j < xn ∧ rtC xl f k g = 0
    · obtain ⟨hlt, hr⟩ := hgo
      have hlt' : (j : Int) < (xn : Int) := by omega
      have er : (rtC xl f k g == 0) = true := by simp [hr]
      have hqn : qn ≤ maxLen := by have := (M.get 0 rfl).2.1; unfold maxLen; omega
      obtain ⟨_, ⟨hf0, hk0, hfk⟩, _⟩ := rtC_zero hr
      have hX := rt_load (i := j) hr (by omega)
      obtain ⟨b, off, rfl, hb, hcx⟩ := (M.get 1 rfl).swd.2 (by omega)
      obtain ⟨r0, r1⟩ := cellsw hcx hlt
      clear hcx hr
      by_cases hin : f ≤ (j : Int) ∧ (j : Int) < f + k
      · obtain ⟨i1, i2⟩ := hin
        rw [if_pos ⟨i1, i2⟩] at hX
        have HXX := hide hX
        have M1 := M.alloc2 (.int .i64 0) (.int .i64 g) 36
        clear M hX
        obtain ⟨X, hW⟩ : ∃ X : World, X = wr.alloc (.cells #[.int .i64 (0), .int .i64 (g)] 36) := ⟨_, rfl⟩
        rw [← hW] at M1
        have HW := hide hW
        have lt0 : (Addr.mk (wr.heap.size) 0 none).block < X.heap.size := M1.lt 0 rfl
        have lt1 : (Addr.mk (wr.heap.size) 1 none).block < X.heap.size := M1.lt 1 rfl
        have lt2 : (Addr.mk (w4.heap.size) 1 none).block < X.heap.size := M1.lt 3 rfl
        have HM := hide M1
        have HQS := hide (M1.get 0 rfl).swd
        have HS0 : Hid (X.drew.cell? ⟨wr.heap.size, 0, none⟩ = some (.int .i64 (0)) ∧ X.drew.cell? ⟨wr.heap.size, 1, none⟩ = some (.int .i64 (g)) ∧ X.drew.cell? ⟨w4.heap.size, 1, none⟩ = some (.slice qa qn qc) ∧ Below X.heap.size X X.drew) := ⟨M1.cell 0 rfl, M1.cell 1 rfl, M1.cell 3 rfl, (Below.refl _ _).drew⟩
        clear M1 hW 
        go_upto_region 15 with fail
        rw [← HW.out]
        clear u0 u2 r0 r1
        go_region_held2 (fun w' => w'.cell? ⟨wr.heap.size, 0, none⟩ = some (.int .i64 (0)) ∧ w'.cell? ⟨wr.heap.size, 1, none⟩ = some (.int .i64 (g)) ∧ w'.cell? ⟨w4.heap.size, 1, none⟩ = some (.slice qa qn qc) ∧ Below X.heap.size X w')
          (first | with_reducible exact HS0.out | with_reducible assumption)
          (first
            | (go_at_call 10; refine (implLoadIs_calls qa qn qc (rtL xl f k g) (j : Int) (0) (g) _ hqn ?_ HXX.out).mono ?_; exact HQS.out.below (q3_bel (by with_reducible assumption)) (Nat.le_refl _); rintro e y1 ⟨rfl, ga⟩; have hs1 := q3_below lt0 lt1 lt2 (by with_reducible assumption) ga; clear ga))
        have MR := HM.out.below (q3_bel hs1)
        clear hs1 HS0 HM lt0 lt1 lt2 HQS HW
        have HE := hide (MR.sub (cs' := [(w4.heap.size, 0, .int .i64 (rtC xl f k g)), (w4.heap.size, 1, .slice qa qn qc), (w3.heap.size, 0, .slice (some ⟨b, off, none⟩) xn xc), (w2.heap.size, 0, .int .i64 (swC ls p v)), (w2.heap.size, 1, .slice sa sn sc), (w1.heap.size, 0, .slice ra n rc)]) (fs' := [(w3.heap.size + 1, w4.heap.size, OWd (InR (w3.heap.size + 1) w4.heap.size) qa qn (rtL xl f k g)), (w2.heap.size + 1 , w3.heap.size, OWd (InR (w2.heap.size + 1) w3.heap.size) (some ⟨b, off, none⟩) xn xl), (w1.heap.size + 1, w2.heap.size, OWd (InR (w1.heap.size + 1) w2.heap.size) sa sn (swL ls p v)), (w.heap.size, w1.heap.size, OWd (InR w.heap.size w1.heap.size) ra n ls)]) (fun _ h => List.mem_cons_of_mem _ (List.mem_cons_of_mem _ h)) (fun _ h => h))
        clear MR
        go_wp2
        go_roundw
        case rel => exact ⟨j + 1, by omega, by go_num, HE.out⟩
        case measure => simp [intOf]; omega
      · rw [if_neg hin] at hX
        have HXX : Hid (lwX (rtL xl f k g) (j : Int) = ((gw xl j).1, (gw xl j).2)) := hX
        have M1 := M.alloc2 (.int .i64 (gw xl j).1) (.int .i64 (gw xl j).2) 36
        clear M hX
        by_cases i1 : f ≤ (j : Int)
        · have i2 : ¬ (j : Int) < f + k := fun h => hin ⟨i1, h⟩
          clear hin
          obtain ⟨X, hW⟩ : ∃ X : World, X = wr.alloc (.cells #[.int .i64 ((gw xl j).1), .int .i64 ((gw xl j).2)] 36) := ⟨_, rfl⟩
          rw [← hW] at M1
          have HW := hide hW
          have lt0 : (Addr.mk (wr.heap.size) 0 none).block < X.heap.size := M1.lt 0 rfl
          have lt1 : (Addr.mk (wr.heap.size) 1 none).block < X.heap.size := M1.lt 1 rfl
          have lt2 : (Addr.mk (w4.heap.size) 1 none).block < X.heap.size := M1.lt 3 rfl
          have HM := hide M1
          have HQS := hide (M1.get 0 rfl).swd
          have HS0 : Hid (X.drew.cell? ⟨wr.heap.size, 0, none⟩ = some (.int .i64 ((gw xl j).1)) ∧ X.drew.cell? ⟨wr.heap.size, 1, none⟩ = some (.int .i64 ((gw xl j).2)) ∧ X.drew.cell? ⟨w4.heap.size, 1, none⟩ = some (.slice qa qn qc) ∧ Below X.heap.size X X.drew) := ⟨M1.cell 0 rfl, M1.cell 1 rfl, M1.cell 3 rfl, (Below.refl _ _).drew⟩
          clear M1 hW 
          go_upto_region 15 with fail
          rw [← HW.out]
          clear u0 u2 r0 r1
          go_region_held2 (fun w' => w'.cell? ⟨wr.heap.size, 0, none⟩ = some (.int .i64 ((gw xl j).1)) ∧ w'.cell? ⟨wr.heap.size, 1, none⟩ = some (.int .i64 ((gw xl j).2)) ∧ w'.cell? ⟨w4.heap.size, 1, none⟩ = some (.slice qa qn qc) ∧ Below X.heap.size X w')
            (first | with_reducible exact HS0.out | with_reducible assumption)
            (first
              | (go_at_call 10; refine (implLoadIs_calls qa qn qc (rtL xl f k g) (j : Int) ((gw xl j).1) ((gw xl j).2) _ hqn ?_ HXX.out).mono ?_; exact HQS.out.below (q3_bel (by with_reducible assumption)) (Nat.le_refl _); rintro e y1 ⟨rfl, ga⟩; have hs1 := q3_below lt0 lt1 lt2 (by with_reducible assumption) ga; clear ga))
          have MR := HM.out.below (q3_bel hs1)
          clear hs1 HS0 HM lt0 lt1 lt2 HQS HW
          have HE := hide (MR.sub (cs' := [(w4.heap.size, 0, .int .i64 (rtC xl f k g)), (w4.heap.size, 1, .slice qa qn qc), (w3.heap.size, 0, .slice (some ⟨b, off, none⟩) xn xc), (w2.heap.size, 0, .int .i64 (swC ls p v)), (w2.heap.size, 1, .slice sa sn sc), (w1.heap.size, 0, .slice ra n rc)]) (fs' := [(w3.heap.size + 1, w4.heap.size, OWd (InR (w3.heap.size + 1) w4.heap.size) qa qn (rtL xl f k g)), (w2.heap.size + 1 , w3.heap.size, OWd (InR (w2.heap.size + 1) w3.heap.size) (some ⟨b, off, none⟩) xn xl), (w1.heap.size + 1, w2.heap.size, OWd (InR (w1.heap.size + 1) w2.heap.size) sa sn (swL ls p v)), (w.heap.size, w1.heap.size, OWd (InR w.heap.size w1.heap.size) ra n ls)]) (fun _ h => List.mem_cons_of_mem _ (List.mem_cons_of_mem _ h)) (fun _ h => h))
          clear MR
          go_wp2
          go_roundw
          case rel => exact ⟨j + 1, by omega, by go_num, HE.out⟩
          case measure => simp [intOf]; omega
        · clear hin
          obtain ⟨X, hW⟩ : ∃ X : World, X = wr.alloc (.cells #[.int .i64 ((gw xl j).1), .int .i64 ((gw xl j).2)] 36) := ⟨_, rfl⟩
          rw [← hW] at M1
          have HW := hide hW
          have lt0 : (Addr.mk (wr.heap.size) 0 none).block < X.heap.size := M1.lt 0 rfl
          have lt1 : (Addr.mk (wr.heap.size) 1 none).block < X.heap.size := M1.lt 1 rfl
          have lt2 : (Addr.mk (w4.heap.size) 1 none).block < X.heap.size := M1.lt 3 rfl
          have HM := hide M1
          have HQS := hide (M1.get 0 rfl).swd
          have HS0 : Hid (X.drew.cell? ⟨wr.heap.size, 0, none⟩ = some (.int .i64 ((gw xl j).1)) ∧ X.drew.cell? ⟨wr.heap.size, 1, none⟩ = some (.int .i64 ((gw xl j).2)) ∧ X.drew.cell? ⟨w4.heap.size, 1, none⟩ = some (.slice qa qn qc) ∧ Below X.heap.size X X.drew) := ⟨M1.cell 0 rfl, M1.cell 1 rfl, M1.cell 3 rfl, (Below.refl _ _).drew⟩
          clear M1 hW 
          go_upto_region 15 with fail
          rw [← HW.out]
          clear u0 u2 r0 r1
          go_region_held2 (fun w' => w'.cell? ⟨wr.heap.size, 0, none⟩ = some (.int .i64 ((gw xl j).1)) ∧ w'.cell? ⟨wr.heap.size, 1, none⟩ = some (.int .i64 ((gw xl j).2)) ∧ w'.cell? ⟨w4.heap.size, 1, none⟩ = some (.slice qa qn qc) ∧ Below X.heap.size X w')
            (first | with_reducible exact HS0.out | with_reducible assumption)
            (first
              | (go_at_call 10; refine (implLoadIs_calls qa qn qc (rtL xl f k g) (j : Int) ((gw xl j).1) ((gw xl j).2) _ hqn ?_ HXX.out).mono ?_; exact HQS.out.below (q3_bel (by with_reducible assumption)) (Nat.le_refl _); rintro e y1 ⟨rfl, ga⟩; have hs1 := q3_below lt0 lt1 lt2 (by with_reducible assumption) ga; clear ga))
          have MR := HM.out.below (q3_bel hs1)
          clear hs1 HS0 HM lt0 lt1 lt2 HQS HW
          have HE := hide (MR.sub (cs' := [(w4.heap.size, 0, .int .i64 (rtC xl f k g)), (w4.heap.size, 1, .slice qa qn qc), (w3.heap.size, 0, .slice (some ⟨b, off, none⟩) xn xc), (w2.heap.size, 0, .int .i64 (swC ls p v)), (w2.heap.size, 1, .slice sa sn sc), (w1.heap.size, 0, .slice ra n rc)]) (fs' := [(w3.heap.size + 1, w4.heap.size, OWd (InR (w3.heap.size + 1) w4.heap.size) qa qn (rtL xl f k g)), (w2.heap.size + 1 , w3.heap.size, OWd (InR (w2.heap.size + 1) w3.heap.size) (some ⟨b, off, none⟩) xn xl), (w1.heap.size + 1, w2.heap.size, OWd (InR (w1.heap.size + 1) w2.heap.size) sa sn (swL ls p v)), (w.heap.size, w1.heap.size, OWd (InR w.heap.size w1.heap.size) ra n ls)]) (fun _ h => List.mem_cons_of_mem _ (List.mem_cons_of_mem _ h)) (fun _ h => h))
          clear MR
          go_wp2
          go_roundw
          case rel => exact ⟨j + 1, by omega, by go_num, HE.out⟩
          case measure => simp [intOf]; omega
    · have hex : ¬ (j < xn) ∨ (j < xn ∧ ¬ rtC xl f k g = 0) := by
        by_cases h : j < xn
        · exact .inr ⟨h, fun h2 => hgo ⟨h, h2⟩⟩
        · exact .inl h
      have hc5 := hc.below M.bel
      have HM5 := hide M
      have HC5 := hide hc5
      clear hgo M hc5
      have hcase : (¬ (j : Int) < (xn : Int)) ∨ ((j : Int) < (xn : Int) ∧ (rtC xl f k g == 0) = false) := by
        rcases hex with h | ⟨h, h2⟩
        · exact .inl (by omega)
        · exact .inr ⟨by omega, by simpa using h2⟩
      clear hex
      rcases hcase with h | ⟨h, h2⟩
      all_goals (
        go_upto_region 17 with fail
        go_wp2_with fail
        refine (drawCountTag_calls a len cap _ HC5.out).mono ?_
        rintro e w6 ⟨ya, yn, yc, yl, xs, hxs, rfl, o6, hyn, g6⟩
        obtain ⟨kk, rfl⟩ : ∃ kk, xs = [kk] := by match xs, hxs with | [kk], _ => exact ⟨kk, rfl⟩
        simp only [List.map_cons, List.map_nil]
        have z6 := g6.size
        have M6 := ((HM5.out.below g6).fact OWd.loc o6).alloc1 (.slice ya yn yc) 26
        have hym : yn ≤ maxLen := by unfold maxLen; omega
        clear g6 o6 hxs HC5 HM5 u0 u2
        have hc6 := hc.below M6.bel
        go_wp2_with fail
        refine (drawMemoryFault_calls a len cap _ hc6).mono ?_
        rintro e w7 ⟨za, zn, zc, zl, xs, hxs, rfl, o7, hzn, g7⟩
        obtain ⟨mo, rfl⟩ : ∃ mo, xs = [mo] := by match xs, hxs with | [mo], _ => exact ⟨mo, rfl⟩
        simp only [List.map_cons, List.map_nil]
        have z7 := g7.size
        simp only [World.size_alloc] at z7 o7
        have M7 := ((M6.below g7).fact OWd.loc o7).alloc1 (.slice za zn zc) 26
        have hzm : zn ≤ maxLen := by unfold maxLen; omega
        clear M6 g7 o7 hxs hc6
        have e2 : (cgV yl kk != cgV yl kk) = false := by simp
        have e3 : (mfC mo zl != mfC mo zl) = false := by simp
        have v0 := M7.cell 0 rfl
        have v1 := M7.cell 1 rfl
        obtain ⟨W, hW⟩ : ∃ W : World, W = w7.alloc (.cells #[.slice za zn zc] 26) := ⟨_, rfl⟩
        rw [← hW] at M7
        have HW := hide hW
        have lt0 : (Addr.mk (w6.heap.size) 0 none).block < W.heap.size := M7.lt 1 rfl
        have lt1 : (Addr.mk (w7.heap.size) 0 none).block < W.heap.size := M7.lt 0 rfl
        have HM := hide M7
        have HYS := hide (M7.get 1 rfl).swd
        have HZS := hide (M7.get 0 rfl).swd
        have HS0 : Hid (W.drew.cell? ⟨w6.heap.size, 0, none⟩ = some (.slice ya yn yc) ∧ W.drew.cell? ⟨w7.heap.size, 0, none⟩ = some (.slice za zn zc) ∧ Below W.heap.size W W.drew) := ⟨M7.cell 1 rfl, M7.cell 0 rfl, (Below.refl _ _).drew⟩
        clear M7 hW 
        go_upto_region 19 with fail
        rw [← HW.out]
        clear v0 v1
        go_region_held2 (fun w' => w'.cell? ⟨w6.heap.size, 0, none⟩ = some (.slice ya yn yc) ∧ w'.cell? ⟨w7.heap.size, 0, none⟩ = some (.slice za zn zc) ∧ Below W.heap.size W w')
          (first | with_reducible exact HS0.out | with_reducible assumption)
          (first
            | (go_at_call 13; refine (implCountTag_calls ya yn yc yl kk _ hym ?_).mono ?_; exact HYS.out.below (q2_bel (by with_reducible assumption)) (Nat.le_refl _); rintro e y1 ⟨rfl, ga⟩; have hs1 := q2_below lt0 lt1 (by with_reducible assumption) ga; clear ga)
            | (go_at_call 14; refine (specCountTag_calls ya yn yc yl kk _ hym ?_).mono ?_; exact HYS.out.below (q2_bel (by with_reducible assumption)) (Nat.le_refl _); rintro e y1 ⟨rfl, ga⟩; have hs1 := q2_below lt0 lt1 (by with_reducible assumption) ga; clear ga)
            | (go_at_call 15; refine (implMemoryFault_calls za zn zc zl mo _ hzm ?_).mono ?_; exact HZS.out.below (q2_bel (by with_reducible assumption)) (Nat.le_refl _); rintro e y1 ⟨rfl, ga⟩; have hs1 := q2_below lt0 lt1 (by with_reducible assumption) ga; clear ga)
            | (go_at_call 16; refine (specMemoryFault_calls za zn zc zl mo _ hzm ?_).mono ?_; exact HZS.out.below (q2_bel (by with_reducible assumption)) (Nat.le_refl _); rintro e y1 ⟨rfl, ga⟩; have hs1 := q2_below lt0 lt1 (by with_reducible assumption) ga; clear ga))
        have MR := HM.out.below (q2_bel hs1)
        clear hs1 HS0 HM lt0 lt1 HYS HZS HW
        obtain ⟨w8, rfl⟩ : ∃ x, x = y1 := ⟨y1, rfl⟩
        have M8 := MR.sub (cs' := [(w4.heap.size, 0, .int .i64 (rtC xl f k g)), (w4.heap.size, 1, .slice qa qn qc), (w3.heap.size, 0, .slice xa xn xc), (w2.heap.size, 0, .int .i64 (swC ls p v)), (w2.heap.size, 1, .slice sa sn sc), (w1.heap.size, 0, .slice ra n rc)]) (fs' := [(w3.heap.size + 1, w4.heap.size, OWd (InR (w3.heap.size + 1) w4.heap.size) qa qn (rtL xl f k g)), (w2.heap.size + 1 , w3.heap.size, OWd (InR (w2.heap.size + 1) w3.heap.size) xa xn xl), (w1.heap.size + 1, w2.heap.size, OWd (InR (w1.heap.size + 1) w2.heap.size) sa sn (swL ls p v)), (w.heap.size, w1.heap.size, OWd (InR w.heap.size w1.heap.size) ra n ls)]) (fun _ h => List.mem_cons_of_mem _ (List.mem_cons_of_mem _ h)) (fun _ h => List.mem_cons_of_mem _ (List.mem_cons_of_mem _ h))
        clear MR
        have u3 := M8.cell 3 rfl
        have u5 := M8.cell 5 rfl
        by_cases hs0 : swC ls p v = 0
        rotate_left
        · have es : (swC ls p v != 0) = true := by simpa using hs0
          have eA : (swC ls p v == swC ls p v) = true := by simp
          have eB : (lwC ls p == lwC ls p) = true := by simp
          clear hs0
          have lt0 : (Addr.mk (w2.heap.size) 0 none).block < w8.heap.size := M8.lt 3 rfl
          have lt1 : (Addr.mk (w1.heap.size) 0 none).block < w8.heap.size := M8.lt 5 rfl
          have HM := hide M8
          have HAS := hide (M8.get 3 rfl).swd
          have HS0 : Hid (w8.drew.cell? ⟨w2.heap.size, 0, none⟩ = some (.int .i64 (swC ls p v)) ∧ w8.drew.cell? ⟨w1.heap.size, 0, none⟩ = some (.slice ra n rc) ∧ Below w8.heap.size w8 w8.drew) := ⟨M8.cell 3 rfl, M8.cell 5 rfl, (Below.refl _ _).drew⟩
          clear M8 
          go_upto_region 22 with fail
          clear u3 u5
          go_region_held2 (fun w' => w'.cell? ⟨w2.heap.size, 0, none⟩ = some (.int .i64 (swC ls p v)) ∧ w'.cell? ⟨w1.heap.size, 0, none⟩ = some (.slice ra n rc) ∧ Below w8.heap.size w8 w')
            (first | with_reducible exact HS0.out | with_reducible assumption)
            (first
              | (go_at_call 17; refine (specStoreWord_calls ra n rc ls p v _ hnm ?_).mono ?_; exact HAS.out.below (q2_bel (by with_reducible assumption)) (Nat.le_refl _); rintro e y1 ⟨_, _, _, rfl, _, ga⟩; have hs1 := q2_below lt0 lt1 (by with_reducible assumption) ga; clear ga)
              | (go_at_call 10; refine (implLoadWord_calls ra n rc ls p _ hnm ?_).mono ?_; exact HAS.out.below (q2_bel (by with_reducible assumption)) (Nat.le_refl _); rintro e y1 ⟨rfl, ga⟩; have hs1 := q2_below lt0 lt1 (by with_reducible assumption) ga; clear ga)
              | (go_at_call 18; refine (specLoadWord_calls ra n rc ls p _ hnm ?_).mono ?_; exact HAS.out.below (q2_bel (by with_reducible assumption)) (Nat.le_refl _); rintro e y1 ⟨rfl, ga⟩; have hs1 := q2_below lt0 lt1 (by with_reducible assumption) ga; clear ga))
          have MR := HM.out.below (q2_bel hs1)
          clear hs1 HS0 HM lt0 lt1 HAS
          have HE := hide MR.bel
          clear MR
          go_wp2
          go_ret
          exact ⟨rfl, HE.out⟩
        have es : (swC ls p v != 0) = false := by simp [hs0]
        obtain ⟨_, ⟨hp0, hp1⟩, _⟩ := swC_zero hs0
        have hll : ls.length = n := (M8.get 3 rfl).1
        have hsl : sn = n := by have h1 := (M8.get 2 rfl).1; rw [length_swL hs0] at h1; omega
        subst hsl
        have HZ := hide hs0
        have HL8 := hide M8
        clear M8 hs0
        go_wp2
        go_loopw [18] (fun i wr => ∃ j : Nat, j ≤ sn ∧ i = .int .i64 j ∧ Mm w wr [(w4.heap.size, 0, .int .i64 (rtC xl f k g)), (w4.heap.size, 1, .slice qa qn qc), (w3.heap.size, 0, .slice xa xn xc), (w2.heap.size, 0, .int .i64 (swC ls p v)), (w2.heap.size, 1, .slice sa sn sc), (w1.heap.size, 0, .slice ra sn rc)] [(w3.heap.size + 1, w4.heap.size, OWd (InR (w3.heap.size + 1) w4.heap.size) qa qn (rtL xl f k g)), (w2.heap.size + 1 , w3.heap.size, OWd (InR (w2.heap.size + 1) w3.heap.size) xa xn xl), (w1.heap.size + 1, w2.heap.size, OWd (InR (w1.heap.size + 1) w2.heap.size) sa sn (swL ls p v)), (w.heap.size, w1.heap.size, OWd (InR w.heap.size w1.heap.size) ra sn ls)]) (fun i _ => sn - (intOf i).toNat)
        case atStart => exact ⟨0, Nat.zero_le _, rfl, HL8.out⟩
        case round =>
          clear HL8 u3 u5
          obtain ⟨i, hi, rfl, M⟩ := hrel
          have u4 := M.cell 4 rfl
          have u5 := M.cell 5 rfl
          by_cases hlt : i < sn
          · have hlt' : (i : Int) < (sn : Int) := by omega
            obtain ⟨b, off, rfl, hb, hcx⟩ := (M.get 3 rfl).swd.2 (by omega)
            obtain ⟨r0, r1⟩ := cellsw hcx hlt
            clear hcx
            by_cases hat : (i : Int) = p
            · have ea : ((i : Int) != p) = false := by simp [hat]
              have HM := hide M
              clear M
              go_wp2_with fail
              go_quiet (fail)
              have HE := hide (HM.out.below (bdrewN (Below.refl _ _) nq))
              clear HM
              go_wp2
              go_roundw
              case rel => exact ⟨i + 1, by omega, by go_num, HE.out⟩
              case measure => simp [intOf]; omega
            · have ea : ((i : Int) != p) = true := by simp [hat]
              have hX := sw_load (i := i) HZ.out (by omega)
              rw [if_neg hat] at hX
              have HXX : Hid (lwX (swL ls p v) (i : Int) = ((gw ls i).1, (gw ls i).2)) := hX
              clear hX
              have lt0 : (Addr.mk w2.heap.size 1 none).block < wr.heap.size := M.lt 4 rfl
              have lt1 : (Addr.mk w1.heap.size 0 none).block < wr.heap.size := M.lt 5 rfl
              have lt2 : (Addr.mk b (off + i * 2) none).block < wr.heap.size := hb
              have lt3 : (Addr.mk b (off + i * 2 + 1) none).block < wr.heap.size := hb
              have HM := hide M
              have HSS := hide (M.get 2 rfl).swd
              have i0 : (0 : Int) ≤ (i : Int) := by omega
              have HS0 : Hid (wr.drew.cell? ⟨w2.heap.size, 1, none⟩ = some (.slice sa sn sc) ∧ wr.drew.cell? ⟨w1.heap.size, 0, none⟩ = some (.slice (some ⟨b, off, none⟩) sn rc) ∧ wr.drew.cell? ⟨b, off + i * 2, none⟩ = some (.int .i64 (gw ls i).1) ∧ wr.drew.cell? ⟨b, off + i * 2 + 1, none⟩ = some (.int .i64 (gw ls i).2) ∧ Below wr.heap.size wr wr.drew) := ⟨u4, u5, r0, r1, (Below.refl _ _).drew⟩
              clear M
              go_upto_region 26 with fail
              clear u4 u5 r0 r1
              go_region_held2 (fun w' => w'.cell? ⟨w2.heap.size, 1, none⟩ = some (.slice sa sn sc) ∧ w'.cell? ⟨w1.heap.size, 0, none⟩ = some (.slice (some ⟨b, off, none⟩) sn rc) ∧ w'.cell? ⟨b, off + i * 2, none⟩ = some (.int .i64 (gw ls i).1) ∧ w'.cell? ⟨b, off + i * 2 + 1, none⟩ = some (.int .i64 (gw ls i).2) ∧ Below wr.heap.size wr w')
                (first | with_reducible exact HS0.out | with_reducible assumption)
                (first
                  | (go_at_call 10; refine (implLoadIs_calls sa sn sc (swL ls p v) (i : Int) (gw ls i).1 (gw ls i).2 _ hnm ?_ HXX.out).mono ?_; exact HSS.out.below (q4_bel (by with_reducible assumption)) (Nat.le_refl _); rintro e y1 ⟨rfl, ga⟩; have hs1 := q4_below lt0 lt1 lt2 lt3 (by with_reducible assumption) ga; clear ga))
              have HE := hide (HM.out.below (q4_bel hs1))
              clear hs1 HS0 HM
              go_wp2
              go_roundw
              case rel => exact ⟨i + 1, by omega, by go_num, HE.out⟩
              case measure => simp [intOf]; omega
          · have hlt' : ¬ (i : Int) < (sn : Int) := by omega
            have hX := sw_load (i := p.toNat) HZ.out (by omega)
            rw [if_pos (by omega)] at hX
            have hpt : ((p.toNat : Nat) : Int) = p := by omega
            rw [hpt] at hX
            have hO := sw_old HZ.out
            have hC := sw_code HZ.out
            have HXX := hide hX
            have HOO : Hid (lwX ls p = ((gw ls p.toNat).1, (gw ls p.toNat).2)) := hO
            have HCC := hide hC
            clear hX hO hC
            go_wp2_with fail
            refine (implLoadIs_calls sa sn sc (swL ls p v) p v (gw ls p.toNat).2 _ hnm (M.get 2 rfl).swd HXX.out).mono ?_
            rintro e w9 ⟨rfl, g9⟩
            rw [HCC.out]
            have M9 := (M.below g9).alloc3 (.int .i64 0) (.int .i64 v) (.int .i64 (gw ls p.toNat).2) 38
            clear M g9 u4 u5
            have eV : (v == v) = true := by simp
            have eT : ((gw ls p.toNat).2 == (gw ls p.toNat).2) = true := by simp
            have eN : ((sn : Int) == (sn : Int)) = true := by simp
            have x0 := M9.cell 0 rfl
            have x1 := M9.cell 1 rfl
            have x2 := M9.cell 2 rfl
            have x7 := M9.cell 7 rfl
            have x8 := M9.cell 8 rfl
            obtain ⟨W, hW⟩ : ∃ W : World, W = w9.alloc (.cells #[.int .i64 0, .int .i64 v, .int .i64 (gw ls p.toNat).2] 38) := ⟨_, rfl⟩
            rw [← hW] at M9
            have HW := hide hW
            have lt0 : (Addr.mk (w9.heap.size) 0 none).block < W.heap.size := M9.lt 0 rfl
            have lt1 : (Addr.mk (w9.heap.size) 1 none).block < W.heap.size := M9.lt 1 rfl
            have lt2 : (Addr.mk (w9.heap.size) 2 none).block < W.heap.size := M9.lt 2 rfl
            have lt3 : (Addr.mk (w2.heap.size) 1 none).block < W.heap.size := M9.lt 7 rfl
            have lt4 : (Addr.mk (w1.heap.size) 0 none).block < W.heap.size := M9.lt 8 rfl
            have HM := hide M9
            have HAS := hide (M9.get 3 rfl).swd
            have HS0 : Hid (W.drew.cell? ⟨w9.heap.size, 0, none⟩ = some (.int .i64 0) ∧ W.drew.cell? ⟨w9.heap.size, 1, none⟩ = some (.int .i64 v) ∧ W.drew.cell? ⟨w9.heap.size, 2, none⟩ = some (.int .i64 (gw ls p.toNat).2) ∧ W.drew.cell? ⟨w2.heap.size, 1, none⟩ = some (.slice sa sn sc) ∧ W.drew.cell? ⟨w1.heap.size, 0, none⟩ = some (.slice ra sn rc) ∧ Below W.heap.size W W.drew) := ⟨M9.cell 0 rfl, M9.cell 1 rfl, M9.cell 2 rfl, M9.cell 7 rfl, M9.cell 8 rfl, (Below.refl _ _).drew⟩
            clear M9 hW 
            go_upto_region 29 with fail
            rw [← HW.out]
            clear x0 x1 x2 x7 x8
            go_region_held2 (fun w' => w'.cell? ⟨w9.heap.size, 0, none⟩ = some (.int .i64 0) ∧ w'.cell? ⟨w9.heap.size, 1, none⟩ = some (.int .i64 v) ∧ w'.cell? ⟨w9.heap.size, 2, none⟩ = some (.int .i64 (gw ls p.toNat).2) ∧ w'.cell? ⟨w2.heap.size, 1, none⟩ = some (.slice sa sn sc) ∧ w'.cell? ⟨w1.heap.size, 0, none⟩ = some (.slice ra sn rc) ∧ Below W.heap.size W w')
              (first | with_reducible exact HS0.out | with_reducible assumption)
              (first
                | (go_at_call 10; refine (implLoadIs_calls ra sn rc ls p (gw ls p.toNat).1 (gw ls p.toNat).2 _ hnm ?_ HOO.out).mono ?_; exact HAS.out.below (q5_bel (by with_reducible assumption)) (Nat.le_refl _); rintro e y1 ⟨rfl, ga⟩; have hs1 := q5_below lt0 lt1 lt2 lt3 lt4 (by with_reducible assumption) ga; clear ga))
            have MR := HM.out.below (q5_bel hs1)
            clear hs1 HS0 HM lt0 lt1 lt2 lt3 lt4 HAS HW
            have HE := hide MR.bel
            clear MR
            go_wp2
            go_ret
            exact ⟨rfl, HE.out⟩)

end Go.Proofs.Ytpkndgkkakomiaa
