/-
  PROVED: for every code (a slice of bytes) that FnTags is called with, the call returns true, and the code reads afterwards as it read before.
  CONDITIONS: none beyond the row's own (no cell narrows it).
-/
import Derived.Test.YtjkdckcmgbmmgaaQ3
import Derived.Test.YtjkdckcmgbmmgaaQ4
import Derived.Test.YtjkdckcmgbmmgaaQs
import Derived.WalkKit
import Derived.ProofKit
import Derived.OpenShut
import Derived.ShutString
import Derived.ChangeOld
import Derived.Below
import Derived.WalkSpells
import Derived.Deep.QuietTactic
import Derived.BigQuiet
import Derived.Deep.RegionWith
import Derived.Deep.WholeRow
import Derived.Deep.DeepCutAuto
import Derived.Deep.RegionHeld2
import Derived.Deep.AppendLies
import Derived.Deep.RegionLaw
namespace Go.Proofs.Ytjkdckcmgbmmgaa
open Go.ChangeShapes Go.WideShapes Go.ChangeAt Go.RowKit

set_option maxRecDepth 100000 in
theorem lwBig_calls (a : Option Addr) (len cap : Nat) (w : World) (_hl : len ≤ maxLen) :
    Calls Try.prog 6 #[.slice a len cap] w fun e w' => e = .returned (.bool (decide (1048576 < (len : Int)))) ∧ w' = w := by
  go_enter Try.func6, Try.ntmps6
  go_wp2
  go_ret
  exact ⟨rfl, rfl⟩

set_option maxRecDepth 100000 in
theorem lwNums_calls (a b : Option Addr) (la ca lb cb : Nat) (xs ys : List Int) (w : World) (hla : la ≤ maxLen) (hlb : lb ≤ maxLen) (hx : Sl w a la xs) (hy : Sl w b lb ys) :
    Calls Try.prog 15 #[.slice a la ca, .slice b lb cb] w fun e w' => e = .returned (.bool (decide (xs = ys))) ∧ Below w.heap.size w w' := by
  unfold maxLen at hla hlb
  obtain ⟨hxl, hx⟩ := hx
  obtain ⟨hyl, hy⟩ := hy
  by_cases hne : la = lb
  · subst hne
    have hn : ((la : Int) == (la : Int)) = true := by simp
    · go_enter Try.func15, Try.ntmps15
      go_wp2
      go_loopw [5] (fun i wr => ∃ k : Nat, k ≤ la ∧ i = .int .i64 k ∧ Below w.heap.size w wr ∧ ∀ j, j < k → gt xs j = gt ys j) (fun i _ => la - (intOf i).toNat)
      case atStart => exact ⟨0, Nat.zero_le _, rfl, Below.refl _ _, fun j hj => by omega⟩
      case round =>
        obtain ⟨k, hk, rfl, hbel, hall⟩ := hrel
        have Hall : Hid (∀ j, j < k → gt xs j = gt ys j) := hall
        clear hall
        by_cases hlt : k < la
        · obtain ⟨b1, o1, rfl, hb1, hc1⟩ := hx (by omega)
          obtain ⟨b2, o2, rfl, hb2, hc2⟩ := hy (by omega)
          have hck1 := (hbel.cell (p := ⟨b1, o1 + k, none⟩) hb1).trans (hc1 k hlt)
          have hck2 := (hbel.cell (p := ⟨b2, o2 + k, none⟩) hb2).trans (hc2 k hlt)
          have hki : (k : Int) < (la : Int) := by omega
          by_cases he : gt xs k = gt ys k
          · have hbq : (gt xs k != gt ys k) = false := by simp [he]
            have He : Hid (gt xs k = gt ys k) := he
            clear he
            go_wp2_with fail
            go_quiet (fail)
            go_wp2
            go_roundw
            case rel => exact ⟨k + 1, by omega, by go_num, bdrewN hbel _, fun j hj => by (by_cases e : j = k); (subst e; exact He.out); exact Hall.out j (by omega)⟩
            case measure => simp [intOf]; omega
          · have hbq : (gt xs k != gt ys k) = true := by simp [he]
            go_wp2_with fail
            go_quiet (fail)
            go_wp2
            go_ret
            exact ⟨ret_bool (by simp; intro e; exact he (by rw [e])), bdrewN hbel _⟩
        · go_wp2
          go_ret
          exact ⟨ret_bool (by simp; exact getD_ext (by omega) (fun i hi => Hall.out i (by omega))), hbel⟩
  · have hn : ((la : Int) == (lb : Int)) = false := by simp; omega
    go_enter Try.func15, Try.ntmps15
    go_wp2
    go_ret
    exact ⟨ret_bool (by simp; intro e; rw [e] at hxl; omega), Below.refl _ _⟩

theorem q5_bel {W X : World} {A0 A1 A2 A3 A4 : Addr} {v0 v1 v2 v3 v4 : Value} (h : X.cell? A0 = some v0 ∧ X.cell? A1 = some v1 ∧ X.cell? A2 = some v2 ∧ X.cell? A3 = some v3 ∧ X.cell? A4 = some v4 ∧ Below W.heap.size W X) : Below W.heap.size W X := h.2.2.2.2.2

theorem q5_below {W X Y : World} {A0 A1 A2 A3 A4 : Addr} {v0 v1 v2 v3 v4 : Value} (h0 : A0.block < W.heap.size) (h1 : A1.block < W.heap.size) (h2 : A2.block < W.heap.size) (h3 : A3.block < W.heap.size) (h4 : A4.block < W.heap.size) (h : X.cell? A0 = some v0 ∧ X.cell? A1 = some v1 ∧ X.cell? A2 = some v2 ∧ X.cell? A3 = some v3 ∧ X.cell? A4 = some v4 ∧ Below W.heap.size W X) (g : Below X.heap.size X Y) : Y.cell? A0 = some v0 ∧ Y.cell? A1 = some v1 ∧ Y.cell? A2 = some v2 ∧ Y.cell? A3 = some v3 ∧ Y.cell? A4 = some v4 ∧ Below W.heap.size W Y := by
  have hz := (h.2.2.2.2.2).size
  exact ⟨(g.cell (by omega)).trans h.1, (g.cell (by omega)).trans h.2.1, (g.cell (by omega)).trans h.2.2.1, (g.cell (by omega)).trans h.2.2.2.1, (g.cell (by omega)).trans h.2.2.2.2.1, (h.2.2.2.2.2).trans (g.mono hz)⟩

theorem q5_alloc {W X : World} {A0 A1 A2 A3 A4 : Addr} {v0 v1 v2 v3 v4 : Value} (h0 : A0.block < W.heap.size) (h1 : A1.block < W.heap.size) (h2 : A2.block < W.heap.size) (h3 : A3.block < W.heap.size) (h4 : A4.block < W.heap.size) (h : X.cell? A0 = some v0 ∧ X.cell? A1 = some v1 ∧ X.cell? A2 = some v2 ∧ X.cell? A3 = some v3 ∧ X.cell? A4 = some v4 ∧ Below W.heap.size W X) (o : Obj) : (X.alloc o).cell? A0 = some v0 ∧ (X.alloc o).cell? A1 = some v1 ∧ (X.alloc o).cell? A2 = some v2 ∧ (X.alloc o).cell? A3 = some v3 ∧ (X.alloc o).cell? A4 = some v4 ∧ Below W.heap.size W (X.alloc o) := q5_below h0 h1 h2 h3 h4 h ((Below.refl _ _).alloc (Nat.le_refl _) o)

theorem q5_allocd {W X : World} {A0 A1 A2 A3 A4 : Addr} {v0 v1 v2 v3 v4 : Value} (h0 : A0.block < W.heap.size) (h1 : A1.block < W.heap.size) (h2 : A2.block < W.heap.size) (h3 : A3.block < W.heap.size) (h4 : A4.block < W.heap.size) (h : X.drew.cell? A0 = some v0 ∧ X.drew.cell? A1 = some v1 ∧ X.drew.cell? A2 = some v2 ∧ X.drew.cell? A3 = some v3 ∧ X.drew.cell? A4 = some v4 ∧ Below W.heap.size W X.drew) (o : Obj) : (X.alloc o).drew.cell? A0 = some v0 ∧ (X.alloc o).drew.cell? A1 = some v1 ∧ (X.alloc o).drew.cell? A2 = some v2 ∧ (X.alloc o).drew.cell? A3 = some v3 ∧ (X.alloc o).drew.cell? A4 = some v4 ∧ Below W.heap.size W (X.alloc o).drew := q5_alloc h0 h1 h2 h3 h4 h o

theorem q5_set {W X : World} {A0 A1 A2 A3 A4 : Addr} {v0 v1 v2 v3 v4 : Value} (h0 : A0.block < W.heap.size) (h1 : A1.block < W.heap.size) (h2 : A2.block < W.heap.size) (h3 : A3.block < W.heap.size) (h4 : A4.block < W.heap.size) (h : X.cell? A0 = some v0 ∧ X.cell? A1 = some v1 ∧ X.cell? A2 = some v2 ∧ X.cell? A3 = some v3 ∧ X.cell? A4 = some v4 ∧ Below W.heap.size W X) {p : Addr} (hp : W.heap.size ≤ p.block) (y : Value) : (X.setCell p y).cell? A0 = some v0 ∧ (X.setCell p y).cell? A1 = some v1 ∧ (X.setCell p y).cell? A2 = some v2 ∧ (X.setCell p y).cell? A3 = some v3 ∧ (X.setCell p y).cell? A4 = some v4 ∧ Below W.heap.size W (X.setCell p y) :=
  ⟨(World.cell?_setCell_other _ _ _ _ (fun e => by rw [e] at hp; omega)).trans h.1, (World.cell?_setCell_other _ _ _ _ (fun e => by rw [e] at hp; omega)).trans h.2.1, (World.cell?_setCell_other _ _ _ _ (fun e => by rw [e] at hp; omega)).trans h.2.2.1, (World.cell?_setCell_other _ _ _ _ (fun e => by rw [e] at hp; omega)).trans h.2.2.2.1, (World.cell?_setCell_other _ _ _ _ (fun e => by rw [e] at hp; omega)).trans h.2.2.2.2.1, (h.2.2.2.2.2).setCell hp y⟩

theorem q6_bel {W X : World} {A0 A1 A2 A3 A4 A5 : Addr} {v0 v1 v2 v3 v4 v5 : Value} (h : X.cell? A0 = some v0 ∧ X.cell? A1 = some v1 ∧ X.cell? A2 = some v2 ∧ X.cell? A3 = some v3 ∧ X.cell? A4 = some v4 ∧ X.cell? A5 = some v5 ∧ Below W.heap.size W X) : Below W.heap.size W X := h.2.2.2.2.2.2

theorem q6_below {W X Y : World} {A0 A1 A2 A3 A4 A5 : Addr} {v0 v1 v2 v3 v4 v5 : Value} (h0 : A0.block < W.heap.size) (h1 : A1.block < W.heap.size) (h2 : A2.block < W.heap.size) (h3 : A3.block < W.heap.size) (h4 : A4.block < W.heap.size) (h5 : A5.block < W.heap.size) (h : X.cell? A0 = some v0 ∧ X.cell? A1 = some v1 ∧ X.cell? A2 = some v2 ∧ X.cell? A3 = some v3 ∧ X.cell? A4 = some v4 ∧ X.cell? A5 = some v5 ∧ Below W.heap.size W X) (g : Below X.heap.size X Y) : Y.cell? A0 = some v0 ∧ Y.cell? A1 = some v1 ∧ Y.cell? A2 = some v2 ∧ Y.cell? A3 = some v3 ∧ Y.cell? A4 = some v4 ∧ Y.cell? A5 = some v5 ∧ Below W.heap.size W Y := by
  have hz := (h.2.2.2.2.2.2).size
  exact ⟨(g.cell (by omega)).trans h.1, (g.cell (by omega)).trans h.2.1, (g.cell (by omega)).trans h.2.2.1, (g.cell (by omega)).trans h.2.2.2.1, (g.cell (by omega)).trans h.2.2.2.2.1, (g.cell (by omega)).trans h.2.2.2.2.2.1, (h.2.2.2.2.2.2).trans (g.mono hz)⟩

theorem q6_alloc {W X : World} {A0 A1 A2 A3 A4 A5 : Addr} {v0 v1 v2 v3 v4 v5 : Value} (h0 : A0.block < W.heap.size) (h1 : A1.block < W.heap.size) (h2 : A2.block < W.heap.size) (h3 : A3.block < W.heap.size) (h4 : A4.block < W.heap.size) (h5 : A5.block < W.heap.size) (h : X.cell? A0 = some v0 ∧ X.cell? A1 = some v1 ∧ X.cell? A2 = some v2 ∧ X.cell? A3 = some v3 ∧ X.cell? A4 = some v4 ∧ X.cell? A5 = some v5 ∧ Below W.heap.size W X) (o : Obj) : (X.alloc o).cell? A0 = some v0 ∧ (X.alloc o).cell? A1 = some v1 ∧ (X.alloc o).cell? A2 = some v2 ∧ (X.alloc o).cell? A3 = some v3 ∧ (X.alloc o).cell? A4 = some v4 ∧ (X.alloc o).cell? A5 = some v5 ∧ Below W.heap.size W (X.alloc o) := q6_below h0 h1 h2 h3 h4 h5 h ((Below.refl _ _).alloc (Nat.le_refl _) o)

theorem q6_allocd {W X : World} {A0 A1 A2 A3 A4 A5 : Addr} {v0 v1 v2 v3 v4 v5 : Value} (h0 : A0.block < W.heap.size) (h1 : A1.block < W.heap.size) (h2 : A2.block < W.heap.size) (h3 : A3.block < W.heap.size) (h4 : A4.block < W.heap.size) (h5 : A5.block < W.heap.size) (h : X.drew.cell? A0 = some v0 ∧ X.drew.cell? A1 = some v1 ∧ X.drew.cell? A2 = some v2 ∧ X.drew.cell? A3 = some v3 ∧ X.drew.cell? A4 = some v4 ∧ X.drew.cell? A5 = some v5 ∧ Below W.heap.size W X.drew) (o : Obj) : (X.alloc o).drew.cell? A0 = some v0 ∧ (X.alloc o).drew.cell? A1 = some v1 ∧ (X.alloc o).drew.cell? A2 = some v2 ∧ (X.alloc o).drew.cell? A3 = some v3 ∧ (X.alloc o).drew.cell? A4 = some v4 ∧ (X.alloc o).drew.cell? A5 = some v5 ∧ Below W.heap.size W (X.alloc o).drew := q6_alloc h0 h1 h2 h3 h4 h5 h o

theorem q6_set {W X : World} {A0 A1 A2 A3 A4 A5 : Addr} {v0 v1 v2 v3 v4 v5 : Value} (h0 : A0.block < W.heap.size) (h1 : A1.block < W.heap.size) (h2 : A2.block < W.heap.size) (h3 : A3.block < W.heap.size) (h4 : A4.block < W.heap.size) (h5 : A5.block < W.heap.size) (h : X.cell? A0 = some v0 ∧ X.cell? A1 = some v1 ∧ X.cell? A2 = some v2 ∧ X.cell? A3 = some v3 ∧ X.cell? A4 = some v4 ∧ X.cell? A5 = some v5 ∧ Below W.heap.size W X) {p : Addr} (hp : W.heap.size ≤ p.block) (y : Value) : (X.setCell p y).cell? A0 = some v0 ∧ (X.setCell p y).cell? A1 = some v1 ∧ (X.setCell p y).cell? A2 = some v2 ∧ (X.setCell p y).cell? A3 = some v3 ∧ (X.setCell p y).cell? A4 = some v4 ∧ (X.setCell p y).cell? A5 = some v5 ∧ Below W.heap.size W (X.setCell p y) :=
  ⟨(World.cell?_setCell_other _ _ _ _ (fun e => by rw [e] at hp; omega)).trans h.1, (World.cell?_setCell_other _ _ _ _ (fun e => by rw [e] at hp; omega)).trans h.2.1, (World.cell?_setCell_other _ _ _ _ (fun e => by rw [e] at hp; omega)).trans h.2.2.1, (World.cell?_setCell_other _ _ _ _ (fun e => by rw [e] at hp; omega)).trans h.2.2.2.1, (World.cell?_setCell_other _ _ _ _ (fun e => by rw [e] at hp; omega)).trans h.2.2.2.2.1, (World.cell?_setCell_other _ _ _ _ (fun e => by rw [e] at hp; omega)).trans h.2.2.2.2.2.1, (h.2.2.2.2.2.2).setCell hp y⟩

theorem q10_bel {W X : World} {A0 A1 A2 A3 A4 A5 A6 A7 A8 A9 : Addr} {v0 v1 v2 v3 v4 v5 v6 v7 v8 v9 : Value} (h : X.cell? A0 = some v0 ∧ X.cell? A1 = some v1 ∧ X.cell? A2 = some v2 ∧ X.cell? A3 = some v3 ∧ X.cell? A4 = some v4 ∧ X.cell? A5 = some v5 ∧ X.cell? A6 = some v6 ∧ X.cell? A7 = some v7 ∧ X.cell? A8 = some v8 ∧ X.cell? A9 = some v9 ∧ Below W.heap.size W X) : Below W.heap.size W X := h.2.2.2.2.2.2.2.2.2.2

theorem q10_below {W X Y : World} {A0 A1 A2 A3 A4 A5 A6 A7 A8 A9 : Addr} {v0 v1 v2 v3 v4 v5 v6 v7 v8 v9 : Value} (h0 : A0.block < W.heap.size) (h1 : A1.block < W.heap.size) (h2 : A2.block < W.heap.size) (h3 : A3.block < W.heap.size) (h4 : A4.block < W.heap.size) (h5 : A5.block < W.heap.size) (h6 : A6.block < W.heap.size) (h7 : A7.block < W.heap.size) (h8 : A8.block < W.heap.size) (h9 : A9.block < W.heap.size) (h : X.cell? A0 = some v0 ∧ X.cell? A1 = some v1 ∧ X.cell? A2 = some v2 ∧ X.cell? A3 = some v3 ∧ X.cell? A4 = some v4 ∧ X.cell? A5 = some v5 ∧ X.cell? A6 = some v6 ∧ X.cell? A7 = some v7 ∧ X.cell? A8 = some v8 ∧ X.cell? A9 = some v9 ∧ Below W.heap.size W X) (g : Below X.heap.size X Y) : Y.cell? A0 = some v0 ∧ Y.cell? A1 = some v1 ∧ Y.cell? A2 = some v2 ∧ Y.cell? A3 = some v3 ∧ Y.cell? A4 = some v4 ∧ Y.cell? A5 = some v5 ∧ Y.cell? A6 = some v6 ∧ Y.cell? A7 = some v7 ∧ Y.cell? A8 = some v8 ∧ Y.cell? A9 = some v9 ∧ Below W.heap.size W Y := by
  have hz := (h.2.2.2.2.2.2.2.2.2.2).size
  exact ⟨(g.cell (by omega)).trans h.1, (g.cell (by omega)).trans h.2.1, (g.cell (by omega)).trans h.2.2.1, (g.cell (by omega)).trans h.2.2.2.1, (g.cell (by omega)).trans h.2.2.2.2.1, (g.cell (by omega)).trans h.2.2.2.2.2.1, (g.cell (by omega)).trans h.2.2.2.2.2.2.1, (g.cell (by omega)).trans h.2.2.2.2.2.2.2.1, (g.cell (by omega)).trans h.2.2.2.2.2.2.2.2.1, (g.cell (by omega)).trans h.2.2.2.2.2.2.2.2.2.1, (h.2.2.2.2.2.2.2.2.2.2).trans (g.mono hz)⟩

theorem q10_alloc {W X : World} {A0 A1 A2 A3 A4 A5 A6 A7 A8 A9 : Addr} {v0 v1 v2 v3 v4 v5 v6 v7 v8 v9 : Value} (h0 : A0.block < W.heap.size) (h1 : A1.block < W.heap.size) (h2 : A2.block < W.heap.size) (h3 : A3.block < W.heap.size) (h4 : A4.block < W.heap.size) (h5 : A5.block < W.heap.size) (h6 : A6.block < W.heap.size) (h7 : A7.block < W.heap.size) (h8 : A8.block < W.heap.size) (h9 : A9.block < W.heap.size) (h : X.cell? A0 = some v0 ∧ X.cell? A1 = some v1 ∧ X.cell? A2 = some v2 ∧ X.cell? A3 = some v3 ∧ X.cell? A4 = some v4 ∧ X.cell? A5 = some v5 ∧ X.cell? A6 = some v6 ∧ X.cell? A7 = some v7 ∧ X.cell? A8 = some v8 ∧ X.cell? A9 = some v9 ∧ Below W.heap.size W X) (o : Obj) : (X.alloc o).cell? A0 = some v0 ∧ (X.alloc o).cell? A1 = some v1 ∧ (X.alloc o).cell? A2 = some v2 ∧ (X.alloc o).cell? A3 = some v3 ∧ (X.alloc o).cell? A4 = some v4 ∧ (X.alloc o).cell? A5 = some v5 ∧ (X.alloc o).cell? A6 = some v6 ∧ (X.alloc o).cell? A7 = some v7 ∧ (X.alloc o).cell? A8 = some v8 ∧ (X.alloc o).cell? A9 = some v9 ∧ Below W.heap.size W (X.alloc o) := q10_below h0 h1 h2 h3 h4 h5 h6 h7 h8 h9 h ((Below.refl _ _).alloc (Nat.le_refl _) o)

theorem q10_allocd {W X : World} {A0 A1 A2 A3 A4 A5 A6 A7 A8 A9 : Addr} {v0 v1 v2 v3 v4 v5 v6 v7 v8 v9 : Value} (h0 : A0.block < W.heap.size) (h1 : A1.block < W.heap.size) (h2 : A2.block < W.heap.size) (h3 : A3.block < W.heap.size) (h4 : A4.block < W.heap.size) (h5 : A5.block < W.heap.size) (h6 : A6.block < W.heap.size) (h7 : A7.block < W.heap.size) (h8 : A8.block < W.heap.size) (h9 : A9.block < W.heap.size) (h : X.drew.cell? A0 = some v0 ∧ X.drew.cell? A1 = some v1 ∧ X.drew.cell? A2 = some v2 ∧ X.drew.cell? A3 = some v3 ∧ X.drew.cell? A4 = some v4 ∧ X.drew.cell? A5 = some v5 ∧ X.drew.cell? A6 = some v6 ∧ X.drew.cell? A7 = some v7 ∧ X.drew.cell? A8 = some v8 ∧ X.drew.cell? A9 = some v9 ∧ Below W.heap.size W X.drew) (o : Obj) : (X.alloc o).drew.cell? A0 = some v0 ∧ (X.alloc o).drew.cell? A1 = some v1 ∧ (X.alloc o).drew.cell? A2 = some v2 ∧ (X.alloc o).drew.cell? A3 = some v3 ∧ (X.alloc o).drew.cell? A4 = some v4 ∧ (X.alloc o).drew.cell? A5 = some v5 ∧ (X.alloc o).drew.cell? A6 = some v6 ∧ (X.alloc o).drew.cell? A7 = some v7 ∧ (X.alloc o).drew.cell? A8 = some v8 ∧ (X.alloc o).drew.cell? A9 = some v9 ∧ Below W.heap.size W (X.alloc o).drew := q10_alloc h0 h1 h2 h3 h4 h5 h6 h7 h8 h9 h o

theorem q10_set {W X : World} {A0 A1 A2 A3 A4 A5 A6 A7 A8 A9 : Addr} {v0 v1 v2 v3 v4 v5 v6 v7 v8 v9 : Value} (h0 : A0.block < W.heap.size) (h1 : A1.block < W.heap.size) (h2 : A2.block < W.heap.size) (h3 : A3.block < W.heap.size) (h4 : A4.block < W.heap.size) (h5 : A5.block < W.heap.size) (h6 : A6.block < W.heap.size) (h7 : A7.block < W.heap.size) (h8 : A8.block < W.heap.size) (h9 : A9.block < W.heap.size) (h : X.cell? A0 = some v0 ∧ X.cell? A1 = some v1 ∧ X.cell? A2 = some v2 ∧ X.cell? A3 = some v3 ∧ X.cell? A4 = some v4 ∧ X.cell? A5 = some v5 ∧ X.cell? A6 = some v6 ∧ X.cell? A7 = some v7 ∧ X.cell? A8 = some v8 ∧ X.cell? A9 = some v9 ∧ Below W.heap.size W X) {p : Addr} (hp : W.heap.size ≤ p.block) (y : Value) : (X.setCell p y).cell? A0 = some v0 ∧ (X.setCell p y).cell? A1 = some v1 ∧ (X.setCell p y).cell? A2 = some v2 ∧ (X.setCell p y).cell? A3 = some v3 ∧ (X.setCell p y).cell? A4 = some v4 ∧ (X.setCell p y).cell? A5 = some v5 ∧ (X.setCell p y).cell? A6 = some v6 ∧ (X.setCell p y).cell? A7 = some v7 ∧ (X.setCell p y).cell? A8 = some v8 ∧ (X.setCell p y).cell? A9 = some v9 ∧ Below W.heap.size W (X.setCell p y) :=
  ⟨(World.cell?_setCell_other _ _ _ _ (fun e => by rw [e] at hp; omega)).trans h.1, (World.cell?_setCell_other _ _ _ _ (fun e => by rw [e] at hp; omega)).trans h.2.1, (World.cell?_setCell_other _ _ _ _ (fun e => by rw [e] at hp; omega)).trans h.2.2.1, (World.cell?_setCell_other _ _ _ _ (fun e => by rw [e] at hp; omega)).trans h.2.2.2.1, (World.cell?_setCell_other _ _ _ _ (fun e => by rw [e] at hp; omega)).trans h.2.2.2.2.1, (World.cell?_setCell_other _ _ _ _ (fun e => by rw [e] at hp; omega)).trans h.2.2.2.2.2.1, (World.cell?_setCell_other _ _ _ _ (fun e => by rw [e] at hp; omega)).trans h.2.2.2.2.2.2.1, (World.cell?_setCell_other _ _ _ _ (fun e => by rw [e] at hp; omega)).trans h.2.2.2.2.2.2.2.1, (World.cell?_setCell_other _ _ _ _ (fun e => by rw [e] at hp; omega)).trans h.2.2.2.2.2.2.2.2.1, (World.cell?_setCell_other _ _ _ _ (fun e => by rw [e] at hp; omega)).trans h.2.2.2.2.2.2.2.2.2.1, (h.2.2.2.2.2.2.2.2.2.2).setCell hp y⟩

theorem q16_bel {W X : World} {A0 A1 A2 A3 A4 A5 A6 A7 A8 A9 A10 A11 A12 A13 A14 A15 : Addr} {v0 v1 v2 v3 v4 v5 v6 v7 v8 v9 v10 v11 v12 v13 v14 v15 : Value} (h : X.cell? A0 = some v0 ∧ X.cell? A1 = some v1 ∧ X.cell? A2 = some v2 ∧ X.cell? A3 = some v3 ∧ X.cell? A4 = some v4 ∧ X.cell? A5 = some v5 ∧ X.cell? A6 = some v6 ∧ X.cell? A7 = some v7 ∧ X.cell? A8 = some v8 ∧ X.cell? A9 = some v9 ∧ X.cell? A10 = some v10 ∧ X.cell? A11 = some v11 ∧ X.cell? A12 = some v12 ∧ X.cell? A13 = some v13 ∧ X.cell? A14 = some v14 ∧ X.cell? A15 = some v15 ∧ Below W.heap.size W X) : Below W.heap.size W X := h.2.2.2.2.2.2.2.2.2.2.2.2.2.2.2.2

theorem q16_below {W X Y : World} {A0 A1 A2 A3 A4 A5 A6 A7 A8 A9 A10 A11 A12 A13 A14 A15 : Addr} {v0 v1 v2 v3 v4 v5 v6 v7 v8 v9 v10 v11 v12 v13 v14 v15 : Value} (h0 : A0.block < W.heap.size) (h1 : A1.block < W.heap.size) (h2 : A2.block < W.heap.size) (h3 : A3.block < W.heap.size) (h4 : A4.block < W.heap.size) (h5 : A5.block < W.heap.size) (h6 : A6.block < W.heap.size) (h7 : A7.block < W.heap.size) (h8 : A8.block < W.heap.size) (h9 : A9.block < W.heap.size) (h10 : A10.block < W.heap.size) (h11 : A11.block < W.heap.size) (h12 : A12.block < W.heap.size) (h13 : A13.block < W.heap.size) (h14 : A14.block < W.heap.size) (h15 : A15.block < W.heap.size) (h : X.cell? A0 = some v0 ∧ X.cell? A1 = some v1 ∧ X.cell? A2 = some v2 ∧ X.cell? A3 = some v3 ∧ X.cell? A4 = some v4 ∧ X.cell? A5 = some v5 ∧ X.cell? A6 = some v6 ∧ X.cell? A7 = some v7 ∧ X.cell? A8 = some v8 ∧ X.cell? A9 = some v9 ∧ X.cell? A10 = some v10 ∧ X.cell? A11 = some v11 ∧ X.cell? A12 = some v12 ∧ X.cell? A13 = some v13 ∧ X.cell? A14 = some v14 ∧ X.cell? A15 = some v15 ∧ Below W.heap.size W X) (g : Below X.heap.size X Y) : Y.cell? A0 = some v0 ∧ Y.cell? A1 = some v1 ∧ Y.cell? A2 = some v2 ∧ Y.cell? A3 = some v3 ∧ Y.cell? A4 = some v4 ∧ Y.cell? A5 = some v5 ∧ Y.cell? A6 = some v6 ∧ Y.cell? A7 = some v7 ∧ Y.cell? A8 = some v8 ∧ Y.cell? A9 = some v9 ∧ Y.cell? A10 = some v10 ∧ Y.cell? A11 = some v11 ∧ Y.cell? A12 = some v12 ∧ Y.cell? A13 = some v13 ∧ Y.cell? A14 = some v14 ∧ Y.cell? A15 = some v15 ∧ Below W.heap.size W Y := by
  have hz := (h.2.2.2.2.2.2.2.2.2.2.2.2.2.2.2.2).size
  exact ⟨(g.cell (by omega)).trans h.1, (g.cell (by omega)).trans h.2.1, (g.cell (by omega)).trans h.2.2.1, (g.cell (by omega)).trans h.2.2.2.1, (g.cell (by omega)).trans h.2.2.2.2.1, (g.cell (by omega)).trans h.2.2.2.2.2.1, (g.cell (by omega)).trans h.2.2.2.2.2.2.1, (g.cell (by omega)).trans h.2.2.2.2.2.2.2.1, (g.cell (by omega)).trans h.2.2.2.2.2.2.2.2.1, (g.cell (by omega)).trans h.2.2.2.2.2.2.2.2.2.1, (g.cell (by omega)).trans h.2.2.2.2.2.2.2.2.2.2.1, (g.cell (by omega)).trans h.2.2.2.2.2.2.2.2.2.2.2.1, (g.cell (by omega)).trans h.2.2.2.2.2.2.2.2.2.2.2.2.1, (g.cell (by omega)).trans h.2.2.2.2.2.2.2.2.2.2.2.2.2.1, (g.cell (by omega)).trans h.2.2.2.2.2.2.2.2.2.2.2.2.2.2.1, (g.cell (by omega)).trans h.2.2.2.2.2.2.2.2.2.2.2.2.2.2.2.1, (h.2.2.2.2.2.2.2.2.2.2.2.2.2.2.2.2).trans (g.mono hz)⟩

theorem q16_alloc {W X : World} {A0 A1 A2 A3 A4 A5 A6 A7 A8 A9 A10 A11 A12 A13 A14 A15 : Addr} {v0 v1 v2 v3 v4 v5 v6 v7 v8 v9 v10 v11 v12 v13 v14 v15 : Value} (h0 : A0.block < W.heap.size) (h1 : A1.block < W.heap.size) (h2 : A2.block < W.heap.size) (h3 : A3.block < W.heap.size) (h4 : A4.block < W.heap.size) (h5 : A5.block < W.heap.size) (h6 : A6.block < W.heap.size) (h7 : A7.block < W.heap.size) (h8 : A8.block < W.heap.size) (h9 : A9.block < W.heap.size) (h10 : A10.block < W.heap.size) (h11 : A11.block < W.heap.size) (h12 : A12.block < W.heap.size) (h13 : A13.block < W.heap.size) (h14 : A14.block < W.heap.size) (h15 : A15.block < W.heap.size) (h : X.cell? A0 = some v0 ∧ X.cell? A1 = some v1 ∧ X.cell? A2 = some v2 ∧ X.cell? A3 = some v3 ∧ X.cell? A4 = some v4 ∧ X.cell? A5 = some v5 ∧ X.cell? A6 = some v6 ∧ X.cell? A7 = some v7 ∧ X.cell? A8 = some v8 ∧ X.cell? A9 = some v9 ∧ X.cell? A10 = some v10 ∧ X.cell? A11 = some v11 ∧ X.cell? A12 = some v12 ∧ X.cell? A13 = some v13 ∧ X.cell? A14 = some v14 ∧ X.cell? A15 = some v15 ∧ Below W.heap.size W X) (o : Obj) : (X.alloc o).cell? A0 = some v0 ∧ (X.alloc o).cell? A1 = some v1 ∧ (X.alloc o).cell? A2 = some v2 ∧ (X.alloc o).cell? A3 = some v3 ∧ (X.alloc o).cell? A4 = some v4 ∧ (X.alloc o).cell? A5 = some v5 ∧ (X.alloc o).cell? A6 = some v6 ∧ (X.alloc o).cell? A7 = some v7 ∧ (X.alloc o).cell? A8 = some v8 ∧ (X.alloc o).cell? A9 = some v9 ∧ (X.alloc o).cell? A10 = some v10 ∧ (X.alloc o).cell? A11 = some v11 ∧ (X.alloc o).cell? A12 = some v12 ∧ (X.alloc o).cell? A13 = some v13 ∧ (X.alloc o).cell? A14 = some v14 ∧ (X.alloc o).cell? A15 = some v15 ∧ Below W.heap.size W (X.alloc o) := q16_below h0 h1 h2 h3 h4 h5 h6 h7 h8 h9 h10 h11 h12 h13 h14 h15 h ((Below.refl _ _).alloc (Nat.le_refl _) o)

theorem q16_allocd {W X : World} {A0 A1 A2 A3 A4 A5 A6 A7 A8 A9 A10 A11 A12 A13 A14 A15 : Addr} {v0 v1 v2 v3 v4 v5 v6 v7 v8 v9 v10 v11 v12 v13 v14 v15 : Value} (h0 : A0.block < W.heap.size) (h1 : A1.block < W.heap.size) (h2 : A2.block < W.heap.size) (h3 : A3.block < W.heap.size) (h4 : A4.block < W.heap.size) (h5 : A5.block < W.heap.size) (h6 : A6.block < W.heap.size) (h7 : A7.block < W.heap.size) (h8 : A8.block < W.heap.size) (h9 : A9.block < W.heap.size) (h10 : A10.block < W.heap.size) (h11 : A11.block < W.heap.size) (h12 : A12.block < W.heap.size) (h13 : A13.block < W.heap.size) (h14 : A14.block < W.heap.size) (h15 : A15.block < W.heap.size) (h : X.drew.cell? A0 = some v0 ∧ X.drew.cell? A1 = some v1 ∧ X.drew.cell? A2 = some v2 ∧ X.drew.cell? A3 = some v3 ∧ X.drew.cell? A4 = some v4 ∧ X.drew.cell? A5 = some v5 ∧ X.drew.cell? A6 = some v6 ∧ X.drew.cell? A7 = some v7 ∧ X.drew.cell? A8 = some v8 ∧ X.drew.cell? A9 = some v9 ∧ X.drew.cell? A10 = some v10 ∧ X.drew.cell? A11 = some v11 ∧ X.drew.cell? A12 = some v12 ∧ X.drew.cell? A13 = some v13 ∧ X.drew.cell? A14 = some v14 ∧ X.drew.cell? A15 = some v15 ∧ Below W.heap.size W X.drew) (o : Obj) : (X.alloc o).drew.cell? A0 = some v0 ∧ (X.alloc o).drew.cell? A1 = some v1 ∧ (X.alloc o).drew.cell? A2 = some v2 ∧ (X.alloc o).drew.cell? A3 = some v3 ∧ (X.alloc o).drew.cell? A4 = some v4 ∧ (X.alloc o).drew.cell? A5 = some v5 ∧ (X.alloc o).drew.cell? A6 = some v6 ∧ (X.alloc o).drew.cell? A7 = some v7 ∧ (X.alloc o).drew.cell? A8 = some v8 ∧ (X.alloc o).drew.cell? A9 = some v9 ∧ (X.alloc o).drew.cell? A10 = some v10 ∧ (X.alloc o).drew.cell? A11 = some v11 ∧ (X.alloc o).drew.cell? A12 = some v12 ∧ (X.alloc o).drew.cell? A13 = some v13 ∧ (X.alloc o).drew.cell? A14 = some v14 ∧ (X.alloc o).drew.cell? A15 = some v15 ∧ Below W.heap.size W (X.alloc o).drew := q16_alloc h0 h1 h2 h3 h4 h5 h6 h7 h8 h9 h10 h11 h12 h13 h14 h15 h o

theorem q16_set {W X : World} {A0 A1 A2 A3 A4 A5 A6 A7 A8 A9 A10 A11 A12 A13 A14 A15 : Addr} {v0 v1 v2 v3 v4 v5 v6 v7 v8 v9 v10 v11 v12 v13 v14 v15 : Value} (h0 : A0.block < W.heap.size) (h1 : A1.block < W.heap.size) (h2 : A2.block < W.heap.size) (h3 : A3.block < W.heap.size) (h4 : A4.block < W.heap.size) (h5 : A5.block < W.heap.size) (h6 : A6.block < W.heap.size) (h7 : A7.block < W.heap.size) (h8 : A8.block < W.heap.size) (h9 : A9.block < W.heap.size) (h10 : A10.block < W.heap.size) (h11 : A11.block < W.heap.size) (h12 : A12.block < W.heap.size) (h13 : A13.block < W.heap.size) (h14 : A14.block < W.heap.size) (h15 : A15.block < W.heap.size) (h : X.cell? A0 = some v0 ∧ X.cell? A1 = some v1 ∧ X.cell? A2 = some v2 ∧ X.cell? A3 = some v3 ∧ X.cell? A4 = some v4 ∧ X.cell? A5 = some v5 ∧ X.cell? A6 = some v6 ∧ X.cell? A7 = some v7 ∧ X.cell? A8 = some v8 ∧ X.cell? A9 = some v9 ∧ X.cell? A10 = some v10 ∧ X.cell? A11 = some v11 ∧ X.cell? A12 = some v12 ∧ X.cell? A13 = some v13 ∧ X.cell? A14 = some v14 ∧ X.cell? A15 = some v15 ∧ Below W.heap.size W X) {p : Addr} (hp : W.heap.size ≤ p.block) (y : Value) : (X.setCell p y).cell? A0 = some v0 ∧ (X.setCell p y).cell? A1 = some v1 ∧ (X.setCell p y).cell? A2 = some v2 ∧ (X.setCell p y).cell? A3 = some v3 ∧ (X.setCell p y).cell? A4 = some v4 ∧ (X.setCell p y).cell? A5 = some v5 ∧ (X.setCell p y).cell? A6 = some v6 ∧ (X.setCell p y).cell? A7 = some v7 ∧ (X.setCell p y).cell? A8 = some v8 ∧ (X.setCell p y).cell? A9 = some v9 ∧ (X.setCell p y).cell? A10 = some v10 ∧ (X.setCell p y).cell? A11 = some v11 ∧ (X.setCell p y).cell? A12 = some v12 ∧ (X.setCell p y).cell? A13 = some v13 ∧ (X.setCell p y).cell? A14 = some v14 ∧ (X.setCell p y).cell? A15 = some v15 ∧ Below W.heap.size W (X.setCell p y) :=
  ⟨(World.cell?_setCell_other _ _ _ _ (fun e => by rw [e] at hp; omega)).trans h.1, (World.cell?_setCell_other _ _ _ _ (fun e => by rw [e] at hp; omega)).trans h.2.1, (World.cell?_setCell_other _ _ _ _ (fun e => by rw [e] at hp; omega)).trans h.2.2.1, (World.cell?_setCell_other _ _ _ _ (fun e => by rw [e] at hp; omega)).trans h.2.2.2.1, (World.cell?_setCell_other _ _ _ _ (fun e => by rw [e] at hp; omega)).trans h.2.2.2.2.1, (World.cell?_setCell_other _ _ _ _ (fun e => by rw [e] at hp; omega)).trans h.2.2.2.2.2.1, (World.cell?_setCell_other _ _ _ _ (fun e => by rw [e] at hp; omega)).trans h.2.2.2.2.2.2.1, (World.cell?_setCell_other _ _ _ _ (fun e => by rw [e] at hp; omega)).trans h.2.2.2.2.2.2.2.1, (World.cell?_setCell_other _ _ _ _ (fun e => by rw [e] at hp; omega)).trans h.2.2.2.2.2.2.2.2.1, (World.cell?_setCell_other _ _ _ _ (fun e => by rw [e] at hp; omega)).trans h.2.2.2.2.2.2.2.2.2.1, (World.cell?_setCell_other _ _ _ _ (fun e => by rw [e] at hp; omega)).trans h.2.2.2.2.2.2.2.2.2.2.1, (World.cell?_setCell_other _ _ _ _ (fun e => by rw [e] at hp; omega)).trans h.2.2.2.2.2.2.2.2.2.2.2.1, (World.cell?_setCell_other _ _ _ _ (fun e => by rw [e] at hp; omega)).trans h.2.2.2.2.2.2.2.2.2.2.2.2.1, (World.cell?_setCell_other _ _ _ _ (fun e => by rw [e] at hp; omega)).trans h.2.2.2.2.2.2.2.2.2.2.2.2.2.1, (World.cell?_setCell_other _ _ _ _ (fun e => by rw [e] at hp; omega)).trans h.2.2.2.2.2.2.2.2.2.2.2.2.2.2.1, (World.cell?_setCell_other _ _ _ _ (fun e => by rw [e] at hp; omega)).trans h.2.2.2.2.2.2.2.2.2.2.2.2.2.2.2.1, (h.2.2.2.2.2.2.2.2.2.2.2.2.2.2.2.2).setCell hp y⟩

theorem lrF0 (c : Int) (l : Value) (w : World) : (Instr.field 42 (.agg #[.int .i64 c, l]) 0).run Try.prog w = .ok (.int .i64 c) w := by kernel_rfl

theorem lrF1 (c v : Value) (w : World) : (Instr.field 42 (.agg #[c, v]) 1).run Try.prog w = .ok (.agg #[v]) w := by kernel_rfl

theorem lbF0 (v : Value) (w : World) : (Instr.field 31 (.agg #[v]) 0).run Try.prog w = .ok v w := by kernel_rfl

theorem trF0 (c v : Int) (x y z : Value) (w : World) : (Instr.field 35 (.agg #[.int .i64 c, .int .i64 v, x, y, z]) 0).run Try.prog w = .ok (.int .i64 c) w := by kernel_rfl

theorem undef_no {b : Bool} (h : some undef = some (Value.bool b)) : False := by
  injection h with h
  cases h

theorem lwNums_as (a b : Option Addr) (la ca lb cb : Nat) (xs ys : List Int) (w : World) (h : xs = ys) (hla : la ≤ maxLen) (hlb : lb ≤ maxLen) (hx : Sl w a la xs) (hy : Sl w b lb ys) :
    Calls Try.prog 15 #[.slice a la ca, .slice b lb cb] w fun e w' => e = .returned (.bool true) ∧ Below w.heap.size w w' :=
  (lwNums_calls a b la ca lb cb xs ys w hla hlb hx hy).mono fun _ _ ⟨h1, h2⟩ => ⟨by rw [h1, decide_eq_true h], h2⟩

theorem tabF_as (a : Option Addr) (n ca : Nat) (ss : List (Int × List Int)) (ta : Option Addr) (tl tc : Nat) (ts : List Int) (da : Option Addr) (dl dc : Nat) (ds : List Int) (w : World) (h : tabF ss ts ds = 0) (hrt : RT w a n ss ta tl ts da dl ds) :
    Calls Try.prog 13 #[.agg #[.slice a n ca, .slice ta tl tc, .slice da dl dc]] w fun e w' => e = .returned (.int .i64 0) ∧ Below w.heap.size w w' :=
  (implTablesFault_calls a n ca ss ta tl tc ts da dl dc ds w hrt).mono fun _ _ ⟨h1, h2⟩ => ⟨by rw [h1, h], h2⟩

theorem os_max {S : Nat → Prop} {a : Option Addr} {n : Nat} {xs : List Int} {w : World} (h : OS S a n xs w) : n ≤ maxLen := by have := h.2.1; unfold maxLen; omega

set_option maxRecDepth 100000 in
theorem tags_big (a : Option Addr) (len cap : Nat) (w : World) (hl : len ≤ maxLen) (hbig : 1048576 < len) :
    Calls Try.prog 3 #[.slice a len cap] w fun e w' => e = .returned (.bool true) ∧ Below w.heap.size w w' := by
  go_enter Try.func3, Try.ntmps3
  go_wp2_with fail
  refine (lwBig_calls a len cap _ hl).mono ?_
  rintro e w1 ⟨rfl, hw⟩
  obtain rfl : w = w1 := hw.symm
  clear hw
  rw [decide_eq_true (by omega)]
  go_wp2
  go_ret
  exact ⟨rfl, Below.refl _ _⟩

set_option maxRecDepth 100000 in
set_option maxHeartbeats 20000000 in
theorem tags_small (a : Option Addr) (len cap : Nat) (w : World) (hc : Cd w a len) :
    Calls Try.prog 3 #[.slice a len cap] w fun e w' => e = .returned (.bool true) ∧ Below w.heap.size w w' := by
  have hlm : len ≤ maxLen := by have := hc.1; unfold maxLen; omega
  have M0 := Mm.start w
  have fd0 := lrF0
  have fd1 := lrF1
  have fd2 := lbF0
  have fd3 := trF0
  go_enter Try.func3, Try.ntmps3
  go_wp2_with fail
  refine (lwBig_calls a len cap _ hlm).mono ?_
  rintro e w0 ⟨rfl, hw⟩
  obtain rfl : w = w0 := hw.symm
  rw [decide_eq_false (by have := hc.1; omega)]
  clear hw
  go_wp2_with fail
  refine (drawAddTag_calls a len cap _ hc).mono ?_
  rintro e w1 ⟨t1a, t1n, t1c, ss, t2a, t2n, t2c, ts, t3a, t3n, t3c, ds, la, ll, lc, lv, rfl, tb, fr, hll, g1⟩
  have z1 := g1.size
  have M1 := ((((M0.below g1).fact TbS.loc tb).fact FrS.loc fr).alloc3 (.slice t1a t1n t1c) (.slice t2a t2n t2c) (.slice t3a t3n t3c) 29).alloc1 (.slice la ll lc) 31
  simp only [World.size_alloc] at M1
  have hllm : ll ≤ maxLen := by unfold maxLen; omega
  have Htl := hide tb.rt.2.2.2.1.1
  have Htm := hide tb.2.2.1
  clear M0 g1 tb fr
  go_wp2_with fail
  refine (implAddTag_calls t1a t1n t1c ss t2a t2n t2c ts t3a t3n t3c ds la ll lc lv _ (M1.get 1 rfl).rt hllm (M1.get 0 rfl).sl).mono ?_
  rintro e w2 ⟨e1a, e1n, e1c, e2a, e2n, e2c, e3a, e3n, e3c, rfl, o2, g2⟩
  have z2 := g2.size
  simp only [World.size_alloc] at z2 o2
  have M2 := ((M1.below g2).fact OT.loc o2).alloc5 (.int .i64 (agC ss ts ds lv)) (.int .i64 (agV ss ts ds lv)) (.slice e1a e1n e1c) (.slice e2a e2n e2c) (.slice e3a e3n e3c) 35
  clear M1 g2 o2
  have v0 := M2.cell 6 rfl
  have v1 := M2.cell 7 rfl
  have v2 := M2.cell 8 rfl
  have v3 := M2.cell 5 rfl
  go_wp2_with fail
  refine (implAddDomain_calls t1a t1n t1c ss t2a t2n t2c ts t3a t3n t3c ds la ll lc lv _ (M2.get 2 rfl).rt hllm (M2.get 1 rfl).sl).mono ?_
  rintro e w3 ⟨d1a, d1n, d1c, d2a, d2n, d2c, d3a, d3n, d3c, rfl, o3, g3⟩
  have z3 := g3.size
  simp only [World.size_alloc] at z3 o3
  have M3 := ((M2.below g3).fact OT.loc o3).alloc5 (.int .i64 (adC ss ts ds lv)) (.int .i64 (adV ss ts ds lv)) (.slice d1a d1n d1c) (.slice d2a d2n d2c) (.slice d3a d3n d3c) 35
  clear M2 g3 o3 v0 v1 v2 v3
  have hc3 := hc.below M3.bel
  go_wp2_with fail
  refine (drawDropTag_calls a len cap _ hc3).mono ?_
  rintro e w4 ⟨x1a, x1n, x1c, xs, x2a, x2n, x2c, ys, x3a, x3n, x3c, us, rfl, tb4, g4⟩
  have z4 := g4.size
  simp only [World.size_alloc] at z4 tb4
  have Hyl := hide tb4.rt.2.2.2.1.1
  have Hym := hide tb4.2.2.1
  have M4 := ((M3.below g4).fact TbS.loc tb4).alloc3 (.slice x1a x1n x1c) (.slice x2a x2n x2c) (.slice x3a x3n x3c) 29
  clear M3 g4 tb4 hc3
  go_wp2_with fail
  refine (implDropTag_calls x1a x1n x1c xs x2a x2n x2c ys x3a x3n x3c us _ (M4.get 0 rfl).rt).mono ?_
  rintro e w5 ⟨p1a, p1n, p1c, p2a, p2n, p2c, p3a, p3n, p3c, rfl, o5, g5⟩
  have z5 := g5.size
  simp only [World.size_alloc] at z5 o5
  have Hpl := hide o5.rt.2.2.2.1.1
  have M5 := ((M4.below g5).fact OT.loc o5).alloc5 (.int .i64 (dtC xs ys us)) (.int .i64 (dtV xs ys us)) (.slice p1a p1n p1c) (.slice p2a p2n p2c) (.slice p3a p3n p3c) 35
  clear M4 g5 o5
  have e1 : (dtC xs ys us != dtC xs ys us) = false := by simp
  have e2 : (adC ss ts ds lv != adC ss ts ds lv) = false := by simp
  obtain ⟨W, hW⟩ : ∃ W : World, W = w5.alloc (.cells #[.int .i64 (dtC xs ys us), .int .i64 (dtV xs ys us), .slice p1a p1n p1c, .slice p2a p2n p2c, .slice p3a p3n p3c] 35) := ⟨_, rfl⟩
  rw [← hW] at M5
  have HW := hide hW
  have lt0 : (Addr.mk (w5.heap.size) 0 none).block < W.heap.size := M5.lt 0 rfl
  have lt1 : (Addr.mk (w5.heap.size) 2 none).block < W.heap.size := M5.lt 2 rfl
  have lt2 : (Addr.mk (w5.heap.size) 3 none).block < W.heap.size := M5.lt 3 rfl
  have lt3 : (Addr.mk (w5.heap.size) 4 none).block < W.heap.size := M5.lt 4 rfl
  have lt4 : (Addr.mk (w4.heap.size) 0 none).block < W.heap.size := M5.lt 5 rfl
  have lt5 : (Addr.mk (w4.heap.size) 1 none).block < W.heap.size := M5.lt 6 rfl
  have lt6 : (Addr.mk (w4.heap.size) 2 none).block < W.heap.size := M5.lt 7 rfl
  have lt7 : (Addr.mk (w3.heap.size) 0 none).block < W.heap.size := M5.lt 8 rfl
  have lt8 : (Addr.mk (w3.heap.size) 1 none).block < W.heap.size := M5.lt 9 rfl
  have lt9 : (Addr.mk (w3.heap.size) 2 none).block < W.heap.size := M5.lt 10 rfl
  have lt10 : (Addr.mk (w3.heap.size) 3 none).block < W.heap.size := M5.lt 11 rfl
  have lt11 : (Addr.mk (w3.heap.size) 4 none).block < W.heap.size := M5.lt 12 rfl
  have lt12 : (Addr.mk (w1.heap.size) 0 none).block < W.heap.size := M5.lt 19 rfl
  have lt13 : (Addr.mk (w1.heap.size) 1 none).block < W.heap.size := M5.lt 20 rfl
  have lt14 : (Addr.mk (w1.heap.size) 2 none).block < W.heap.size := M5.lt 21 rfl
  have lt15 : (Addr.mk (w1.heap.size + 1) 0 none).block < W.heap.size := M5.lt 18 rfl
  have HM := hide M5
  have HPS := hide ((M5.get 0 rfl).rt)
  have HXS := hide ((M5.get 1 rfl).rt)
  have HDS := hide ((M5.get 2 rfl).rt)
  have HLS := hide ((M5.get 4 rfl).sl)
  have HTS := hide ((M5.get 5 rfl).rt)
  have HS0 : Hid (W.drew.cell? ⟨w5.heap.size, 0, none⟩ = some (.int .i64 (dtC xs ys us)) ∧ W.drew.cell? ⟨w5.heap.size, 2, none⟩ = some (.slice p1a p1n p1c) ∧ W.drew.cell? ⟨w5.heap.size, 3, none⟩ = some (.slice p2a p2n p2c) ∧ W.drew.cell? ⟨w5.heap.size, 4, none⟩ = some (.slice p3a p3n p3c) ∧ W.drew.cell? ⟨w4.heap.size, 0, none⟩ = some (.slice x1a x1n x1c) ∧ W.drew.cell? ⟨w4.heap.size, 1, none⟩ = some (.slice x2a x2n x2c) ∧ W.drew.cell? ⟨w4.heap.size, 2, none⟩ = some (.slice x3a x3n x3c) ∧ W.drew.cell? ⟨w3.heap.size, 0, none⟩ = some (.int .i64 (adC ss ts ds lv)) ∧ W.drew.cell? ⟨w3.heap.size, 1, none⟩ = some (.int .i64 (adV ss ts ds lv)) ∧ W.drew.cell? ⟨w3.heap.size, 2, none⟩ = some (.slice d1a d1n d1c) ∧ W.drew.cell? ⟨w3.heap.size, 3, none⟩ = some (.slice d2a d2n d2c) ∧ W.drew.cell? ⟨w3.heap.size, 4, none⟩ = some (.slice d3a d3n d3c) ∧ W.drew.cell? ⟨w1.heap.size, 0, none⟩ = some (.slice t1a t1n t1c) ∧ W.drew.cell? ⟨w1.heap.size, 1, none⟩ = some (.slice t2a t2n t2c) ∧ W.drew.cell? ⟨w1.heap.size, 2, none⟩ = some (.slice t3a t3n t3c) ∧ W.drew.cell? ⟨w1.heap.size + 1, 0, none⟩ = some (.slice la ll lc) ∧ Below W.heap.size W W.drew) := ⟨M5.cell 0 rfl, M5.cell 2 rfl, M5.cell 3 rfl, M5.cell 4 rfl, M5.cell 5 rfl, M5.cell 6 rfl, M5.cell 7 rfl, M5.cell 8 rfl, M5.cell 9 rfl, M5.cell 10 rfl, M5.cell 11 rfl, M5.cell 12 rfl, M5.cell 19 rfl, M5.cell 20 rfl, M5.cell 21 rfl, M5.cell 18 rfl, (Below.refl _ _).drew⟩
  clear M5 hW
  go_upto_region 8 with fail
  rw [← HW.out]
  go_cut [88] (fun v wd => v = .bool false ∧ Below W.heap.size W wd)
  case first =>
    by_cases hp : dtC xs ys us = 0
    · have e3 : (dtC xs ys us == 0) = true := by simp [hp]
      obtain ⟨hpf, hpn⟩ := dt_right hp
      have e5 : IntKind.i64.wrap ((x2n : Int) - 1) = (x2n : Int) - 1 := by have h1 := Hyl.out; have h2 := Hpl.out; have h3 := Hym.out; rw [IntKind.wrap_i64]; omega
      have e6 : ((p2n : Int) != (x2n : Int) - 1) = false := by have h1 := Hyl.out; have h2 := Hpl.out; simp; omega
      clear hpn
      clear hp
      by_cases hd : adC ss ts ds lv = 0
      · have e7 : (adC ss ts ds lv == 0) = true := by simp [hd]
        obtain ⟨hdf, hdl⟩ := ad_right hd
        clear hd
        as_aux_lemma =>
          go_region_held2 (fun w' => w'.cell? ⟨w5.heap.size, 0, none⟩ = some (.int .i64 (dtC xs ys us)) ∧ w'.cell? ⟨w5.heap.size, 2, none⟩ = some (.slice p1a p1n p1c) ∧ w'.cell? ⟨w5.heap.size, 3, none⟩ = some (.slice p2a p2n p2c) ∧ w'.cell? ⟨w5.heap.size, 4, none⟩ = some (.slice p3a p3n p3c) ∧ w'.cell? ⟨w4.heap.size, 0, none⟩ = some (.slice x1a x1n x1c) ∧ w'.cell? ⟨w4.heap.size, 1, none⟩ = some (.slice x2a x2n x2c) ∧ w'.cell? ⟨w4.heap.size, 2, none⟩ = some (.slice x3a x3n x3c) ∧ w'.cell? ⟨w3.heap.size, 0, none⟩ = some (.int .i64 (adC ss ts ds lv)) ∧ w'.cell? ⟨w3.heap.size, 1, none⟩ = some (.int .i64 (adV ss ts ds lv)) ∧ w'.cell? ⟨w3.heap.size, 2, none⟩ = some (.slice d1a d1n d1c) ∧ w'.cell? ⟨w3.heap.size, 3, none⟩ = some (.slice d2a d2n d2c) ∧ w'.cell? ⟨w3.heap.size, 4, none⟩ = some (.slice d3a d3n d3c) ∧ w'.cell? ⟨w1.heap.size, 0, none⟩ = some (.slice t1a t1n t1c) ∧ w'.cell? ⟨w1.heap.size, 1, none⟩ = some (.slice t2a t2n t2c) ∧ w'.cell? ⟨w1.heap.size, 2, none⟩ = some (.slice t3a t3n t3c) ∧ w'.cell? ⟨w1.heap.size + 1, 0, none⟩ = some (.slice la ll lc) ∧ Below W.heap.size W w')
            (first | with_reducible exact HS0.out | with_reducible assumption)
            (first
              | (go_at_call 12; (with_reducible refine (specDropTag_calls x1a x1n x1c xs x2a x2n x2c ys x3a x3n x3c us _ ?_).mono ?_); exact HXS.out.below (q16_bel (by with_reducible assumption)) (Nat.le_refl _); rintro e y1 ⟨_, _, _, _, _, _, _, _, _, rfl, _, ga⟩; have hs1 := q16_below lt0 lt1 lt2 lt3 lt4 lt5 lt6 lt7 lt8 lt9 lt10 lt11 lt12 lt13 lt14 lt15 (by with_reducible assumption) ga; clear ga)
              | (go_at_call 13; (with_reducible refine (tabF_as p1a p1n p1c (dtS xs ys us) p2a p2n p2c (dtT xs ys us) p3a p3n p3c (dtD xs ys us) _ hpf ?_).mono ?_); exact HPS.out.below (q16_bel (by with_reducible assumption)) (Nat.le_refl _); rintro e y1 ⟨rfl, ga⟩; have hs1 := q16_below lt0 lt1 lt2 lt3 lt4 lt5 lt6 lt7 lt8 lt9 lt10 lt11 lt12 lt13 lt14 lt15 (by with_reducible assumption) ga; clear ga)
              | (go_at_call 14; (with_reducible refine (specAddDomainW_calls t1a t1n t1c ss t2a t2n t2c ts t3a t3n t3c ds la ll lc lv _ ?_ hllm ?_).mono ?_); exact HTS.out.below (q16_bel (by with_reducible assumption)) (Nat.le_refl _); exact HLS.out.below (q16_bel (by with_reducible assumption)) (Nat.le_refl _); rintro e y1 ⟨_, _, _, _, _, _, _, _, _, rfl, _, ga⟩; have hs1 := q16_below lt0 lt1 lt2 lt3 lt4 lt5 lt6 lt7 lt8 lt9 lt10 lt11 lt12 lt13 lt14 lt15 (by with_reducible assumption) ga; clear ga)
              | (go_at_call 13; (with_reducible refine (tabF_as d1a d1n d1c (adS ss ts ds lv) d2a d2n d2c (adT ss ts ds lv) d3a d3n d3c (adD ss ts ds lv) _ hdf ?_).mono ?_); exact HDS.out.below (q16_bel (by with_reducible assumption)) (Nat.le_refl _); rintro e y1 ⟨rfl, ga⟩; have hs1 := q16_below lt0 lt1 lt2 lt3 lt4 lt5 lt6 lt7 lt8 lt9 lt10 lt11 lt12 lt13 lt14 lt15 (by with_reducible assumption) ga; clear ga)
              | (go_at_call 16; (with_reducible refine (implDomainLabel_calls d1a d1n d1c (adS ss ts ds lv) d2a d2n d2c (adT ss ts ds lv) d3a d3n d3c (adD ss ts ds lv) (adV ss ts ds lv) _ ?_).mono ?_); exact HDS.out.below (q16_bel (by with_reducible assumption)) (Nat.le_refl _); rintro e y1 ⟨k1a, k1n, k1c, rfl, ok, ga⟩; have hs1 := q16_below lt0 lt1 lt2 lt3 lt4 lt5 lt6 lt7 lt8 lt9 lt10 lt11 lt12 lt13 lt14 lt15 (by with_reducible assumption) ga; have hk1 := os_max ok; have HK := hide ok.sl; clear ok; clear ga)
              | (go_at_call 15; (with_reducible refine (lwNums_as k1a la k1n k1c ll lc _ lv _ hdl hk1 hllm ?_ ?_).mono ?_); exact HK.out; exact HLS.out.below (q16_bel (by with_reducible assumption)) (Nat.le_refl _); rintro e y1 ⟨rfl, ga⟩; have hs1 := q16_below lt0 lt1 lt2 lt3 lt4 lt5 lt6 lt7 lt8 lt9 lt10 lt11 lt12 lt13 lt14 lt15 (by with_reducible assumption) ga; clear ga))
          all_goals go_wp2_with fail
          all_goals go_meet
          all_goals exact ⟨rfl, q16_bel hs1⟩
      · have e7 : (adC ss ts ds lv == 0) = false := by simpa using hd
        clear hd
        as_aux_lemma =>
          refine wp_region_held_drew (S := (fun w' => w'.cell? ⟨w5.heap.size, 0, none⟩ = some (.int .i64 (dtC xs ys us)) ∧ w'.cell? ⟨w5.heap.size, 2, none⟩ = some (.slice p1a p1n p1c) ∧ w'.cell? ⟨w5.heap.size, 3, none⟩ = some (.slice p2a p2n p2c) ∧ w'.cell? ⟨w5.heap.size, 4, none⟩ = some (.slice p3a p3n p3c) ∧ w'.cell? ⟨w4.heap.size, 0, none⟩ = some (.slice x1a x1n x1c) ∧ w'.cell? ⟨w4.heap.size, 1, none⟩ = some (.slice x2a x2n x2c) ∧ w'.cell? ⟨w4.heap.size, 2, none⟩ = some (.slice x3a x3n x3c) ∧ w'.cell? ⟨w3.heap.size, 0, none⟩ = some (.int .i64 (adC ss ts ds lv)) ∧ w'.cell? ⟨w3.heap.size, 1, none⟩ = some (.int .i64 (adV ss ts ds lv)) ∧ w'.cell? ⟨w3.heap.size, 2, none⟩ = some (.slice d1a d1n d1c) ∧ w'.cell? ⟨w3.heap.size, 3, none⟩ = some (.slice d2a d2n d2c) ∧ w'.cell? ⟨w3.heap.size, 4, none⟩ = some (.slice d3a d3n d3c) ∧ w'.cell? ⟨w1.heap.size, 0, none⟩ = some (.slice t1a t1n t1c) ∧ w'.cell? ⟨w1.heap.size, 1, none⟩ = some (.slice t2a t2n t2c) ∧ w'.cell? ⟨w1.heap.size, 2, none⟩ = some (.slice t3a t3n t3c) ∧ w'.cell? ⟨w1.heap.size + 1, 0, none⟩ = some (.slice la ll lc) ∧ Below W.heap.size W w')) (by kernel_rfl) HS0.out (fun hHeld => ?_)
          refine wpAnyH_take (i := 0) (oi := { dst := some 28, op := Go.Op.fieldAddr 35 (Go.Operand.tmp 8) 0, type := 0, pos := "laws.go:147", after := #[], guard := none }) (v := ?_) rfl (by kernel_rfl) (by kernel_rfl) (by kernel_rfl) (fun _ _ _ h => h) (Or.inl ⟨by rfl, ?_⟩) (by assumption) ?_
          rotate_left
          · (intro w hSw; (try dsimp only at hSw); go_simp; (try with_reducible rfl))
          (try simp only [Act.put, List.setIfInBounds_toArray, List.set_cons_zero, List.set_cons_succ])
          refine wpAnyH_take (i := 1) (oi := { dst := some 29, op := Go.Op.load 2 (Go.Operand.tmp 28), type := 2, pos := "laws.go:147", after := #[{ on := 0, ground := Go.Ground.data }], guard := none }) (v := ?_) rfl (by kernel_rfl) (by kernel_rfl) (by kernel_rfl) (fun _ _ _ h => h) (Or.inl ⟨by rfl, ?_⟩) (by assumption) ?_
          rotate_left
          · (intro w hSw; (try dsimp only at hSw); go_simp; (try with_reducible rfl))
          (try simp only [Act.put, List.setIfInBounds_toArray, List.set_cons_zero, List.set_cons_succ])
          refine wpAnyH_take (i := 2) (oi := { dst := some 30, op := Go.Op.load 29 (Go.Operand.tmp 7), type := 29, pos := "laws.go:147", after := #[], guard := none }) (v := ?_) rfl (by kernel_rfl) (by kernel_rfl) (by kernel_rfl) (fun _ _ _ h => h) (Or.inl ⟨by rfl, ?_⟩) (by assumption) ?_
          rotate_left
          · (intro w hSw; (try dsimp only at hSw); go_simp; (try with_reducible rfl))
          (try simp only [Act.put, List.setIfInBounds_toArray, List.set_cons_zero, List.set_cons_succ])
          refine wpAnyH_ready (rs := [3]) (by kernel_rfl) (by simp) ?_
          refine AllReadyH.cons (o := { dst := some 31, op := Go.Op.call { callee := Go.Callee.value (Go.Operand.func 12), args := #[Go.Operand.tmp 30], argTypes := #[29] }, type := 35, pos := "laws.go:147", after := #[{ on := 2, ground := Go.Ground.data }], guard := none }) rfl (fun K hK => ?_) AllReadyH.nil
          go_simp
          go_wp2_with (go_at_call 12; (with_reducible refine (specDropTag_calls x1a x1n x1c xs x2a x2n x2c ys x3a x3n x3c us _ ?_).mono ?_); exact HXS.out.below (q16_bel (by with_reducible assumption)) (Nat.le_refl _); rintro e y1 ⟨_, _, _, _, _, _, _, _, _, rfl, _, ga⟩; have hs1 := q16_below lt0 lt1 lt2 lt3 lt4 lt5 lt6 lt7 lt8 lt9 lt10 lt11 lt12 lt13 lt14 lt15 (by with_reducible assumption) ga; clear ga)
          refine hK.out _ _ hs1 (fun hHeld => ?_)
          clear hK K
          (try simp only [Act.put, List.setIfInBounds_toArray, List.set_cons_zero, List.set_cons_succ])
          refine wpAnyH_take (i := 4) (oi := { dst := some 32, op := Go.Op.field 35 (Go.Operand.tmp 31) 0, type := 2, pos := "laws.go:147", after := #[{ on := 3, ground := Go.Ground.data }], guard := none }) (v := ?_) rfl (by kernel_rfl) (by kernel_rfl) (by kernel_rfl) (fun _ _ _ h => h) (Or.inl ⟨by rfl, ?_⟩) (by assumption) ?_
          rotate_left
          · (intro w hSw; (try dsimp only at hSw); go_simp; (try with_reducible rfl))
          (try simp only [Act.put, List.setIfInBounds_toArray, List.set_cons_zero, List.set_cons_succ])
          refine wpAnyH_take (i := 5) (oi := { dst := some 33, op := Go.Op.binOp Go.BinOp.neq 2 (Go.Operand.tmp 29) (Go.Operand.tmp 32) 2, type := 4, pos := "laws.go:147", after := #[{ on := 1, ground := Go.Ground.data }, { on := 4, ground := Go.Ground.data }], guard := none }) (v := ?_) rfl (by kernel_rfl) (by kernel_rfl) (by kernel_rfl) (fun _ _ _ h => h) (Or.inl ⟨by rfl, ?_⟩) (by assumption) ?_
          rotate_left
          · (intro w hSw; (try dsimp only at hSw); go_simp; (try with_reducible rfl))
          (try simp only [Act.put, List.setIfInBounds_toArray, List.set_cons_zero, List.set_cons_succ])
          refine wpAnyH_take (i := 6) (oi := { dst := some 34, op := Go.Op.move (Go.Operand.tmp 33), type := 4, pos := "laws.go:147", after := #[{ on := 5, ground := Go.Ground.data }, { on := 3, ground := Go.Ground.chain }], guard := none }) (v := ?_) rfl (by kernel_rfl) (by kernel_rfl) (by kernel_rfl) (fun _ _ _ h => h) (Or.inl ⟨by rfl, ?_⟩) (by assumption) ?_
          rotate_left
          · (intro w hSw; (try dsimp only at hSw); go_simp; (try with_reducible rfl))
          (try simp only [Act.put, List.setIfInBounds_toArray, List.set_cons_zero, List.set_cons_succ])
          refine wpAnyH_take (i := 7) (oi := { dst := some 35, op := Go.Op.fieldAddr 35 (Go.Operand.tmp 8) 0, type := 0, pos := "laws.go:147", after := #[{ on := 6, ground := Go.Ground.guard }], guard := some (6, false) }) (v := ?_) rfl (by kernel_rfl) (by kernel_rfl) (by kernel_rfl) (fun _ _ _ h => h) (Or.inl ⟨by rfl, ?_⟩) (by assumption) ?_
          rotate_left
          · (intro w hSw; (try dsimp only at hSw); go_simp; (try with_reducible rfl))
          (try simp only [Act.put, List.setIfInBounds_toArray, List.set_cons_zero, List.set_cons_succ])
          refine wpAnyH_take (i := 8) (oi := { dst := some 36, op := Go.Op.load 2 (Go.Operand.tmp 35), type := 2, pos := "laws.go:147", after := #[{ on := 7, ground := Go.Ground.data }, { on := 6, ground := Go.Ground.guard }], guard := some (6, false) }) (v := ?_) rfl (by kernel_rfl) (by kernel_rfl) (by kernel_rfl) (fun _ _ _ h => h) (Or.inl ⟨by rfl, ?_⟩) (by assumption) ?_
          rotate_left
          · (intro w hSw; (try dsimp only at hSw); go_simp; (try with_reducible rfl))
          (try simp only [Act.put, List.setIfInBounds_toArray, List.set_cons_zero, List.set_cons_succ])
          refine wpAnyH_take (i := 9) (oi := { dst := some 37, op := Go.Op.binOp Go.BinOp.eql 2 (Go.Operand.tmp 36) (Go.Operand.const (Go.Value.int Go.IntKind.i64 0)) 2, type := 4, pos := "laws.go:147", after := #[{ on := 8, ground := Go.Ground.data }, { on := 6, ground := Go.Ground.guard }], guard := some (6, false) }) (v := ?_) rfl (by kernel_rfl) (by kernel_rfl) (by kernel_rfl) (fun _ _ _ h => h) (Or.inl ⟨by rfl, ?_⟩) (by assumption) ?_
          rotate_left
          · (intro w hSw; (try dsimp only at hSw); go_simp; (try with_reducible rfl))
          (try simp only [Act.put, List.setIfInBounds_toArray, List.set_cons_zero, List.set_cons_succ])
          refine wpAnyH_take (i := 10) (oi := { dst := some 38, op := Go.Op.move (Go.Operand.tmp 37), type := 4, pos := "laws.go:147", after := #[{ on := 9, ground := Go.Ground.data }, { on := 6, ground := Go.Ground.chain }, { on := 6, ground := Go.Ground.guard }], guard := some (6, false) }) (v := ?_) rfl (by kernel_rfl) (by kernel_rfl) (by kernel_rfl) (fun _ _ _ h => h) (Or.inl ⟨by rfl, ?_⟩) (by assumption) ?_
          rotate_left
          · (intro w hSw; (try dsimp only at hSw); go_simp; (try with_reducible rfl))
          (try simp only [Act.put, List.setIfInBounds_toArray, List.set_cons_zero, List.set_cons_succ])
          refine wpAnyH_take (i := 11) (oi := { dst := some 39, op := Go.Op.fieldAddr 35 (Go.Operand.tmp 8) 2, type := 0, pos := "laws.go:147", after := #[{ on := 10, ground := Go.Ground.guard }], guard := some (10, true) }) (v := ?_) rfl (by kernel_rfl) (by kernel_rfl) (by kernel_rfl) (fun _ _ _ h => h) (Or.inl ⟨by rfl, ?_⟩) (by assumption) ?_
          rotate_left
          · (intro w hSw; (try dsimp only at hSw); go_simp; (try with_reducible rfl))
          (try simp only [Act.put, List.setIfInBounds_toArray, List.set_cons_zero, List.set_cons_succ])
          refine wpAnyH_take (i := 12) (oi := { dst := some 40, op := Go.Op.load 29 (Go.Operand.tmp 39), type := 29, pos := "laws.go:147", after := #[{ on := 11, ground := Go.Ground.data }, { on := 10, ground := Go.Ground.guard }], guard := some (10, true) }) (v := ?_) rfl (by kernel_rfl) (by kernel_rfl) (by kernel_rfl) (fun _ _ _ h => h) (Or.inl ⟨by rfl, ?_⟩) (by assumption) ?_
          rotate_left
          · (intro w hSw; (try dsimp only at hSw); go_simp; (try with_reducible rfl))
          (try simp only [Act.put, List.setIfInBounds_toArray, List.set_cons_zero, List.set_cons_succ])
          refine wpAnyH_ready (rs := [13]) (by kernel_rfl) (by simp) ?_
          refine AllReadyH.cons (o := { dst := some 41, op := Go.Op.call { callee := Go.Callee.value (Go.Operand.func 13), args := #[Go.Operand.tmp 40], argTypes := #[29] }, type := 2, pos := "laws.go:147", after := #[{ on := 12, ground := Go.Ground.data }, { on := 10, ground := Go.Ground.chain }, { on := 10, ground := Go.Ground.guard }], guard := some (10, true) }) rfl (fun K hK => ?_) AllReadyH.nil
          go_simp
          go_wp2_with (go_at_call 13; (with_reducible refine (tabF_as p1a p1n p1c (dtS xs ys us) p2a p2n p2c (dtT xs ys us) p3a p3n p3c (dtD xs ys us) _ hpf ?_).mono ?_); exact HPS.out.below (q16_bel (by with_reducible assumption)) (Nat.le_refl _); rintro e y1 ⟨rfl, ga⟩; have hs1 := q16_below lt0 lt1 lt2 lt3 lt4 lt5 lt6 lt7 lt8 lt9 lt10 lt11 lt12 lt13 lt14 lt15 (by with_reducible assumption) ga; clear ga)
          refine hK.out _ _ hs1 (fun hHeld => ?_)
          clear hK K
          (try simp only [Act.put, List.setIfInBounds_toArray, List.set_cons_zero, List.set_cons_succ])
          refine wpAnyH_take (i := 14) (oi := { dst := some 42, op := Go.Op.binOp Go.BinOp.neq 2 (Go.Operand.tmp 41) (Go.Operand.const (Go.Value.int Go.IntKind.i64 0)) 2, type := 4, pos := "laws.go:147", after := #[{ on := 13, ground := Go.Ground.data }, { on := 10, ground := Go.Ground.guard }], guard := some (10, true) }) (v := ?_) rfl (by kernel_rfl) (by kernel_rfl) (by kernel_rfl) (fun _ _ _ h => h) (Or.inl ⟨by rfl, ?_⟩) (by assumption) ?_
          rotate_left
          · (intro w hSw; (try dsimp only at hSw); go_simp; (try with_reducible rfl))
          (try simp only [Act.put, List.setIfInBounds_toArray, List.set_cons_zero, List.set_cons_succ])
          refine wpAnyH_take (i := 15) (oi := { dst := some 43, op := Go.Op.move (Go.Operand.tmp 42), type := 4, pos := "laws.go:147", after := #[{ on := 14, ground := Go.Ground.data }, { on := 13, ground := Go.Ground.chain }, { on := 10, ground := Go.Ground.guard }], guard := some (10, true) }) (v := ?_) rfl (by kernel_rfl) (by kernel_rfl) (by kernel_rfl) (fun _ _ _ h => h) (Or.inl ⟨by rfl, ?_⟩) (by assumption) ?_
          rotate_left
          · (intro w hSw; (try dsimp only at hSw); go_simp; (try with_reducible rfl))
          (try simp only [Act.put, List.setIfInBounds_toArray, List.set_cons_zero, List.set_cons_succ])
          refine wpAnyH_take (i := 16) (oi := { dst := some 44, op := Go.Op.fieldAddr 35 (Go.Operand.tmp 8) 2, type := 0, pos := "laws.go:147", after := #[{ on := 15, ground := Go.Ground.guard }], guard := some (15, false) }) (v := ?_) rfl (by kernel_rfl) (by kernel_rfl) (by kernel_rfl) (fun _ _ _ h => h) (Or.inl ⟨by rfl, ?_⟩) (by assumption) ?_
          rotate_left
          · (intro w hSw; (try dsimp only at hSw); go_simp; (try with_reducible rfl))
          (try simp only [Act.put, List.setIfInBounds_toArray, List.set_cons_zero, List.set_cons_succ])
          refine wpAnyH_take (i := 17) (oi := { dst := some 45, op := Go.Op.fieldAddr 29 (Go.Operand.tmp 44) 1, type := 0, pos := "laws.go:147", after := #[{ on := 16, ground := Go.Ground.data }, { on := 15, ground := Go.Ground.guard }], guard := some (15, false) }) (v := ?_) rfl (by kernel_rfl) (by kernel_rfl) (by kernel_rfl) (fun _ _ _ h => h) (Or.inl ⟨by rfl, ?_⟩) (by assumption) ?_
          rotate_left
          · (intro w hSw; (try dsimp only at hSw); go_simp; (try with_reducible rfl))
          (try simp only [Act.put, List.setIfInBounds_toArray, List.set_cons_zero, List.set_cons_succ])
          refine wpAnyH_take (i := 18) (oi := { dst := some 46, op := Go.Op.load 27 (Go.Operand.tmp 45), type := 27, pos := "laws.go:147", after := #[{ on := 17, ground := Go.Ground.data }, { on := 15, ground := Go.Ground.guard }], guard := some (15, false) }) (v := ?_) rfl (by kernel_rfl) (by kernel_rfl) (by kernel_rfl) (fun _ _ _ h => h) (Or.inl ⟨by rfl, ?_⟩) (by assumption) ?_
          rotate_left
          · (intro w hSw; (try dsimp only at hSw); go_simp; (try with_reducible rfl))
          (try simp only [Act.put, List.setIfInBounds_toArray, List.set_cons_zero, List.set_cons_succ])
          refine wpAnyH_take (i := 19) (oi := { dst := some 47, op := Go.Op.call { callee := Go.Callee.builtin Go.Builtin.len, args := #[Go.Operand.tmp 46], argTypes := #[27] }, type := 3, pos := "laws.go:147", after := #[{ on := 18, ground := Go.Ground.data }, { on := 15, ground := Go.Ground.guard }], guard := some (15, false) }) (v := ?_) rfl (by kernel_rfl) (by kernel_rfl) (by kernel_rfl) (fun _ _ _ h => h) (Or.inl ⟨by rfl, ?_⟩) (by assumption) ?_
          rotate_left
          · (intro w hSw; (try dsimp only at hSw); go_simp; (try with_reducible rfl))
          (try simp only [Act.put, List.setIfInBounds_toArray, List.set_cons_zero, List.set_cons_succ])
          refine wpAnyH_take (i := 20) (oi := { dst := some 48, op := Go.Op.fieldAddr 29 (Go.Operand.tmp 7) 1, type := 0, pos := "laws.go:147", after := #[{ on := 15, ground := Go.Ground.guard }], guard := some (15, false) }) (v := ?_) rfl (by kernel_rfl) (by kernel_rfl) (by kernel_rfl) (fun _ _ _ h => h) (Or.inl ⟨by rfl, ?_⟩) (by assumption) ?_
          rotate_left
          · (intro w hSw; (try dsimp only at hSw); go_simp; (try with_reducible rfl))
          (try simp only [Act.put, List.setIfInBounds_toArray, List.set_cons_zero, List.set_cons_succ])
          refine wpAnyH_take (i := 21) (oi := { dst := some 49, op := Go.Op.load 27 (Go.Operand.tmp 48), type := 27, pos := "laws.go:147", after := #[{ on := 20, ground := Go.Ground.data }, { on := 15, ground := Go.Ground.guard }], guard := some (15, false) }) (v := ?_) rfl (by kernel_rfl) (by kernel_rfl) (by kernel_rfl) (fun _ _ _ h => h) (Or.inl ⟨by rfl, ?_⟩) (by assumption) ?_
          rotate_left
          · (intro w hSw; (try dsimp only at hSw); go_simp; (try with_reducible rfl))
          (try simp only [Act.put, List.setIfInBounds_toArray, List.set_cons_zero, List.set_cons_succ])
          refine wpAnyH_take (i := 22) (oi := { dst := some 50, op := Go.Op.call { callee := Go.Callee.builtin Go.Builtin.len, args := #[Go.Operand.tmp 49], argTypes := #[27] }, type := 3, pos := "laws.go:147", after := #[{ on := 21, ground := Go.Ground.data }, { on := 15, ground := Go.Ground.guard }], guard := some (15, false) }) (v := ?_) rfl (by kernel_rfl) (by kernel_rfl) (by kernel_rfl) (fun _ _ _ h => h) (Or.inl ⟨by rfl, ?_⟩) (by assumption) ?_
          rotate_left
          · (intro w hSw; (try dsimp only at hSw); go_simp; (try with_reducible rfl))
          (try simp only [Act.put, List.setIfInBounds_toArray, List.set_cons_zero, List.set_cons_succ])
          refine wpAnyH_take (i := 23) (oi := { dst := some 51, op := Go.Op.binOp Go.BinOp.sub 3 (Go.Operand.tmp 50) (Go.Operand.const (Go.Value.int Go.IntKind.i64 1)) 3, type := 3, pos := "laws.go:147", after := #[{ on := 22, ground := Go.Ground.data }, { on := 15, ground := Go.Ground.guard }], guard := some (15, false) }) (v := ?_) rfl (by kernel_rfl) (by kernel_rfl) (by kernel_rfl) (fun _ _ _ h => h) (Or.inl ⟨by rfl, ?_⟩) (by assumption) ?_
          rotate_left
          · (intro w hSw; (try dsimp only at hSw); go_simp; (try with_reducible rfl))
          (try simp only [Act.put, List.setIfInBounds_toArray, List.set_cons_zero, List.set_cons_succ])
          refine wpAnyH_take (i := 24) (oi := { dst := some 52, op := Go.Op.binOp Go.BinOp.neq 3 (Go.Operand.tmp 47) (Go.Operand.tmp 51) 3, type := 4, pos := "laws.go:147", after := #[{ on := 19, ground := Go.Ground.data }, { on := 23, ground := Go.Ground.data }, { on := 15, ground := Go.Ground.guard }], guard := some (15, false) }) (v := ?_) rfl (by kernel_rfl) (by kernel_rfl) (by kernel_rfl) (fun _ _ _ h => h) (Or.inl ⟨by rfl, ?_⟩) (by assumption) ?_
          rotate_left
          · (intro w hSw; (try dsimp only at hSw); go_simp; (try with_reducible rfl))
          (try simp only [Act.put, List.setIfInBounds_toArray, List.set_cons_zero, List.set_cons_succ])
          refine wpAnyH_take (i := 25) (oi := { dst := some 53, op := Go.Op.pick (Go.Operand.tmp 43) (Go.Operand.const (Go.Value.bool true)) (Go.Operand.tmp 52), type := 4, pos := "laws.go:147", after := #[{ on := 15, ground := Go.Ground.data }, { on := 24, ground := Go.Ground.data }, { on := 10, ground := Go.Ground.guard }], guard := some (10, true) }) (v := ?_) rfl (by kernel_rfl) (by kernel_rfl) (by kernel_rfl) (fun _ _ _ h => h) (Or.inl ⟨by rfl, ?_⟩) (by assumption) ?_
          rotate_left
          · (intro w hSw; (try dsimp only at hSw); go_simp; (try with_reducible rfl))
          (try simp only [Act.put, List.setIfInBounds_toArray, List.set_cons_zero, List.set_cons_succ])
          refine wpAnyH_take (i := 26) (oi := { dst := some 54, op := Go.Op.pick (Go.Operand.tmp 38) (Go.Operand.tmp 53) (Go.Operand.const (Go.Value.bool false)), type := 4, pos := "laws.go:147", after := #[{ on := 10, ground := Go.Ground.data }, { on := 25, ground := Go.Ground.data }, { on := 6, ground := Go.Ground.guard }], guard := some (6, false) }) (v := ?_) rfl (by kernel_rfl) (by kernel_rfl) (by kernel_rfl) (fun _ _ _ h => h) (Or.inl ⟨by rfl, ?_⟩) (by assumption) ?_
          rotate_left
          · (intro w hSw; (try dsimp only at hSw); go_simp; (try with_reducible rfl))
          (try simp only [Act.put, List.setIfInBounds_toArray, List.set_cons_zero, List.set_cons_succ])
          refine wpAnyH_take (i := 27) (oi := { dst := some 55, op := Go.Op.pick (Go.Operand.tmp 34) (Go.Operand.const (Go.Value.bool true)) (Go.Operand.tmp 54), type := 4, pos := "laws.go:147", after := #[{ on := 6, ground := Go.Ground.data }, { on := 26, ground := Go.Ground.data }], guard := none }) (v := ?_) rfl (by kernel_rfl) (by kernel_rfl) (by kernel_rfl) (fun _ _ _ h => h) (Or.inl ⟨by rfl, ?_⟩) (by assumption) ?_
          rotate_left
          · (intro w hSw; (try dsimp only at hSw); go_simp; (try with_reducible rfl))
          (try simp only [Act.put, List.setIfInBounds_toArray, List.set_cons_zero, List.set_cons_succ])
          refine wpAnyH_take (i := 28) (oi := { dst := some 56, op := Go.Op.move (Go.Operand.tmp 55), type := 4, pos := "laws.go:147", after := #[{ on := 27, ground := Go.Ground.data }, { on := 15, ground := Go.Ground.chain }], guard := none }) (v := ?_) rfl (by kernel_rfl) (by kernel_rfl) (by kernel_rfl) (fun _ _ _ h => h) (Or.inl ⟨by rfl, ?_⟩) (by assumption) ?_
          rotate_left
          · (intro w hSw; (try dsimp only at hSw); go_simp; (try with_reducible rfl))
          (try simp only [Act.put, List.setIfInBounds_toArray, List.set_cons_zero, List.set_cons_succ])
          refine wpAnyH_take (i := 29) (oi := { dst := some 57, op := Go.Op.fieldAddr 35 (Go.Operand.tmp 6) 0, type := 0, pos := "laws.go:147", after := #[{ on := 28, ground := Go.Ground.guard }], guard := some (28, false) }) (v := ?_) rfl (by kernel_rfl) (by kernel_rfl) (by kernel_rfl) (fun _ _ _ h => h) (Or.inl ⟨by rfl, ?_⟩) (by assumption) ?_
          rotate_left
          · (intro w hSw; (try dsimp only at hSw); go_simp; (try with_reducible rfl))
          (try simp only [Act.put, List.setIfInBounds_toArray, List.set_cons_zero, List.set_cons_succ])
          refine wpAnyH_take (i := 30) (oi := { dst := some 58, op := Go.Op.load 2 (Go.Operand.tmp 57), type := 2, pos := "laws.go:147", after := #[{ on := 29, ground := Go.Ground.data }, { on := 28, ground := Go.Ground.guard }], guard := some (28, false) }) (v := ?_) rfl (by kernel_rfl) (by kernel_rfl) (by kernel_rfl) (fun _ _ _ h => h) (Or.inl ⟨by rfl, ?_⟩) (by assumption) ?_
          rotate_left
          · (intro w hSw; (try dsimp only at hSw); go_simp; (try with_reducible rfl))
          (try simp only [Act.put, List.setIfInBounds_toArray, List.set_cons_zero, List.set_cons_succ])
          refine wpAnyH_take (i := 31) (oi := { dst := some 59, op := Go.Op.load 29 (Go.Operand.tmp 3), type := 29, pos := "laws.go:147", after := #[{ on := 28, ground := Go.Ground.guard }], guard := some (28, false) }) (v := ?_) rfl (by kernel_rfl) (by kernel_rfl) (by kernel_rfl) (fun _ _ _ h => h) (Or.inl ⟨by rfl, ?_⟩) (by assumption) ?_
          rotate_left
          · (intro w hSw; (try dsimp only at hSw); go_simp; (try with_reducible rfl))
          (try simp only [Act.put, List.setIfInBounds_toArray, List.set_cons_zero, List.set_cons_succ])
          refine wpAnyH_take (i := 32) (oi := { dst := some 60, op := Go.Op.load 31 (Go.Operand.tmp 4), type := 31, pos := "laws.go:147", after := #[{ on := 28, ground := Go.Ground.guard }], guard := some (28, false) }) (v := ?_) rfl (by kernel_rfl) (by kernel_rfl) (by kernel_rfl) (fun _ _ _ h => h) (Or.inl ⟨by rfl, ?_⟩) (by assumption) ?_
          rotate_left
          · (intro w hSw; (try dsimp only at hSw); go_simp; (try with_reducible rfl))
          (try simp only [Act.put, List.setIfInBounds_toArray, List.set_cons_zero, List.set_cons_succ])
          refine wpAnyH_ready (rs := [33]) (by kernel_rfl) (by simp) ?_
          refine AllReadyH.cons (o := { dst := some 61, op := Go.Op.call { callee := Go.Callee.value (Go.Operand.func 14), args := #[Go.Operand.tmp 59, Go.Operand.tmp 60], argTypes := #[29, 31] }, type := 35, pos := "laws.go:147", after := #[{ on := 31, ground := Go.Ground.data }, { on := 32, ground := Go.Ground.data }, { on := 28, ground := Go.Ground.chain }, { on := 28, ground := Go.Ground.guard }], guard := some (28, false) }) rfl (fun K hK => ?_) AllReadyH.nil
          go_simp
          go_wp2_with (go_at_call 14; (with_reducible refine (specAddDomainW_calls t1a t1n t1c ss t2a t2n t2c ts t3a t3n t3c ds la ll lc lv _ ?_ hllm ?_).mono ?_); exact HTS.out.below (q16_bel (by with_reducible assumption)) (Nat.le_refl _); exact HLS.out.below (q16_bel (by with_reducible assumption)) (Nat.le_refl _); rintro e y1 ⟨_, _, _, _, _, _, _, _, _, rfl, _, ga⟩; have hs1 := q16_below lt0 lt1 lt2 lt3 lt4 lt5 lt6 lt7 lt8 lt9 lt10 lt11 lt12 lt13 lt14 lt15 (by with_reducible assumption) ga; clear ga)
          refine hK.out _ _ hs1 (fun hHeld => ?_)
          clear hK K
          (try simp only [Act.put, List.setIfInBounds_toArray, List.set_cons_zero, List.set_cons_succ])
          refine wpAnyH_take (i := 34) (oi := { dst := some 62, op := Go.Op.field 35 (Go.Operand.tmp 61) 0, type := 2, pos := "laws.go:147", after := #[{ on := 33, ground := Go.Ground.data }, { on := 28, ground := Go.Ground.guard }], guard := some (28, false) }) (v := ?_) rfl (by kernel_rfl) (by kernel_rfl) (by kernel_rfl) (fun _ _ _ h => h) (Or.inl ⟨by rfl, ?_⟩) (by assumption) ?_
          rotate_left
          · (intro w hSw; (try dsimp only at hSw); go_simp; (try with_reducible rfl))
          (try simp only [Act.put, List.setIfInBounds_toArray, List.set_cons_zero, List.set_cons_succ])
          refine wpAnyH_take (i := 35) (oi := { dst := some 63, op := Go.Op.binOp Go.BinOp.neq 2 (Go.Operand.tmp 58) (Go.Operand.tmp 62) 2, type := 4, pos := "laws.go:147", after := #[{ on := 30, ground := Go.Ground.data }, { on := 34, ground := Go.Ground.data }, { on := 28, ground := Go.Ground.guard }], guard := some (28, false) }) (v := ?_) rfl (by kernel_rfl) (by kernel_rfl) (by kernel_rfl) (fun _ _ _ h => h) (Or.inl ⟨by rfl, ?_⟩) (by assumption) ?_
          rotate_left
          · (intro w hSw; (try dsimp only at hSw); go_simp; (try with_reducible rfl))
          (try simp only [Act.put, List.setIfInBounds_toArray, List.set_cons_zero, List.set_cons_succ])
          refine wpAnyH_take (i := 36) (oi := { dst := some 64, op := Go.Op.pick (Go.Operand.tmp 56) (Go.Operand.const (Go.Value.bool true)) (Go.Operand.tmp 63), type := 4, pos := "laws.go:147", after := #[{ on := 28, ground := Go.Ground.data }, { on := 35, ground := Go.Ground.data }], guard := none }) (v := ?_) rfl (by kernel_rfl) (by kernel_rfl) (by kernel_rfl) (fun _ _ _ h => h) (Or.inl ⟨by rfl, ?_⟩) (by assumption) ?_
          rotate_left
          · (intro w hSw; (try dsimp only at hSw); go_simp; (try with_reducible rfl))
          (try simp only [Act.put, List.setIfInBounds_toArray, List.set_cons_zero, List.set_cons_succ])
          refine wpAnyH_take (i := 37) (oi := { dst := some 65, op := Go.Op.move (Go.Operand.tmp 64), type := 4, pos := "laws.go:147", after := #[{ on := 36, ground := Go.Ground.data }, { on := 33, ground := Go.Ground.chain }], guard := none }) (v := ?_) rfl (by kernel_rfl) (by kernel_rfl) (by kernel_rfl) (fun _ _ _ h => h) (Or.inl ⟨by rfl, ?_⟩) (by assumption) ?_
          rotate_left
          · (intro w hSw; (try dsimp only at hSw); go_simp; (try with_reducible rfl))
          (try simp only [Act.put, List.setIfInBounds_toArray, List.set_cons_zero, List.set_cons_succ])
          refine wpAnyH_take (i := 38) (oi := { dst := some 66, op := Go.Op.fieldAddr 35 (Go.Operand.tmp 6) 0, type := 0, pos := "laws.go:147", after := #[{ on := 37, ground := Go.Ground.guard }], guard := some (37, false) }) (v := ?_) rfl (by kernel_rfl) (by kernel_rfl) (by kernel_rfl) (fun _ _ _ h => h) (Or.inl ⟨by rfl, ?_⟩) (by assumption) ?_
          rotate_left
          · (intro w hSw; (try dsimp only at hSw); go_simp; (try with_reducible rfl))
          (try simp only [Act.put, List.setIfInBounds_toArray, List.set_cons_zero, List.set_cons_succ])
          refine wpAnyH_take (i := 39) (oi := { dst := some 67, op := Go.Op.load 2 (Go.Operand.tmp 66), type := 2, pos := "laws.go:147", after := #[{ on := 38, ground := Go.Ground.data }, { on := 37, ground := Go.Ground.guard }], guard := some (37, false) }) (v := ?_) rfl (by kernel_rfl) (by kernel_rfl) (by kernel_rfl) (fun _ _ _ h => h) (Or.inl ⟨by rfl, ?_⟩) (by assumption) ?_
          rotate_left
          · (intro w hSw; (try dsimp only at hSw); go_simp; (try with_reducible rfl))
          (try simp only [Act.put, List.setIfInBounds_toArray, List.set_cons_zero, List.set_cons_succ])
          refine wpAnyH_take (i := 40) (oi := { dst := some 68, op := Go.Op.binOp Go.BinOp.eql 2 (Go.Operand.tmp 67) (Go.Operand.const (Go.Value.int Go.IntKind.i64 0)) 2, type := 4, pos := "laws.go:147", after := #[{ on := 39, ground := Go.Ground.data }, { on := 37, ground := Go.Ground.guard }], guard := some (37, false) }) (v := ?_) rfl (by kernel_rfl) (by kernel_rfl) (by kernel_rfl) (fun _ _ _ h => h) (Or.inl ⟨by rfl, ?_⟩) (by assumption) ?_
          rotate_left
          · (intro w hSw; (try dsimp only at hSw); go_simp; (try with_reducible rfl))
          (try simp only [Act.put, List.setIfInBounds_toArray, List.set_cons_zero, List.set_cons_succ])
          refine wpAnyH_take (i := 41) (oi := { dst := some 69, op := Go.Op.move (Go.Operand.tmp 68), type := 4, pos := "laws.go:147", after := #[{ on := 40, ground := Go.Ground.data }, { on := 37, ground := Go.Ground.chain }, { on := 37, ground := Go.Ground.guard }], guard := some (37, false) }) (v := ?_) rfl (by kernel_rfl) (by kernel_rfl) (by kernel_rfl) (fun _ _ _ h => h) (Or.inl ⟨by rfl, ?_⟩) (by assumption) ?_
          rotate_left
          · (intro w hSw; (try dsimp only at hSw); go_simp; (try with_reducible rfl))
          (try simp only [Act.put, List.setIfInBounds_toArray, List.set_cons_zero, List.set_cons_succ])
          refine wpAnyH_take (i := 42) (oi := { dst := some 70, op := Go.Op.fieldAddr 35 (Go.Operand.tmp 6) 2, type := 0, pos := "laws.go:147", after := #[{ on := 41, ground := Go.Ground.guard }], guard := some (41, true) }) (v := undef) rfl (by kernel_rfl) (by kernel_rfl) (by kernel_rfl) (fun _ _ _ h => h) (Or.inr ⟨by rfl, rfl⟩) (by assumption) ?_
          (try simp only [Act.put, List.setIfInBounds_toArray, List.set_cons_zero, List.set_cons_succ])
          refine wpAnyH_take (i := 43) (oi := { dst := some 71, op := Go.Op.load 29 (Go.Operand.tmp 70), type := 29, pos := "laws.go:147", after := #[{ on := 42, ground := Go.Ground.data }, { on := 41, ground := Go.Ground.guard }], guard := some (41, true) }) (v := undef) rfl (by kernel_rfl) (by kernel_rfl) (by kernel_rfl) (fun _ _ _ h => h) (Or.inr ⟨by rfl, rfl⟩) (by assumption) ?_
          (try simp only [Act.put, List.setIfInBounds_toArray, List.set_cons_zero, List.set_cons_succ])
          refine wpAnyH_take (i := 44) (oi := { dst := some 72, op := Go.Op.call { callee := Go.Callee.value (Go.Operand.func 13), args := #[Go.Operand.tmp 71], argTypes := #[29] }, type := 2, pos := "laws.go:147", after := #[{ on := 43, ground := Go.Ground.data }, { on := 41, ground := Go.Ground.chain }, { on := 41, ground := Go.Ground.guard }], guard := some (41, true) }) (v := undef) rfl (by kernel_rfl) (by kernel_rfl) (by kernel_rfl) (fun _ _ _ h => h) (Or.inr ⟨by rfl, rfl⟩) (by assumption) ?_
          (try simp only [Act.put, List.setIfInBounds_toArray, List.set_cons_zero, List.set_cons_succ])
          refine wpAnyH_take (i := 45) (oi := { dst := some 73, op := Go.Op.binOp Go.BinOp.neq 2 (Go.Operand.tmp 72) (Go.Operand.const (Go.Value.int Go.IntKind.i64 0)) 2, type := 4, pos := "laws.go:147", after := #[{ on := 44, ground := Go.Ground.data }, { on := 41, ground := Go.Ground.guard }], guard := some (41, true) }) (v := undef) rfl (by kernel_rfl) (by kernel_rfl) (by kernel_rfl) (fun _ _ _ h => h) (Or.inr ⟨by rfl, rfl⟩) (by assumption) ?_
          (try simp only [Act.put, List.setIfInBounds_toArray, List.set_cons_zero, List.set_cons_succ])
          refine wpAnyH_take (i := 46) (oi := { dst := some 74, op := Go.Op.move (Go.Operand.tmp 73), type := 4, pos := "laws.go:147", after := #[{ on := 45, ground := Go.Ground.data }, { on := 44, ground := Go.Ground.chain }, { on := 41, ground := Go.Ground.guard }], guard := some (41, true) }) (v := undef) rfl (by kernel_rfl) (by kernel_rfl) (by kernel_rfl) (fun _ _ _ h => h) (Or.inr ⟨by rfl, rfl⟩) (by assumption) ?_
          (try simp only [Act.put, List.setIfInBounds_toArray, List.set_cons_zero, List.set_cons_succ])
          refine wpAnyH_take (i := 47) (oi := { dst := some 75, op := Go.Op.fieldAddr 35 (Go.Operand.tmp 6) 2, type := 0, pos := "laws.go:147", after := #[{ on := 46, ground := Go.Ground.guard }], guard := some (46, false) }) (v := undef) rfl (by kernel_rfl) (by kernel_rfl) (by kernel_rfl) (fun _ _ _ h => h) (Or.inr ⟨by rfl, rfl⟩) (by assumption) ?_
          (try simp only [Act.put, List.setIfInBounds_toArray, List.set_cons_zero, List.set_cons_succ])
          refine wpAnyH_take (i := 48) (oi := { dst := some 76, op := Go.Op.load 29 (Go.Operand.tmp 75), type := 29, pos := "laws.go:147", after := #[{ on := 47, ground := Go.Ground.data }, { on := 46, ground := Go.Ground.guard }], guard := some (46, false) }) (v := undef) rfl (by kernel_rfl) (by kernel_rfl) (by kernel_rfl) (fun _ _ _ h => h) (Or.inr ⟨by rfl, rfl⟩) (by assumption) ?_
          (try simp only [Act.put, List.setIfInBounds_toArray, List.set_cons_zero, List.set_cons_succ])
          refine wpAnyH_take (i := 49) (oi := { dst := some 77, op := Go.Op.fieldAddr 35 (Go.Operand.tmp 6) 1, type := 0, pos := "laws.go:147", after := #[{ on := 46, ground := Go.Ground.guard }], guard := some (46, false) }) (v := undef) rfl (by kernel_rfl) (by kernel_rfl) (by kernel_rfl) (fun _ _ _ h => h) (Or.inr ⟨by rfl, rfl⟩) (by assumption) ?_
          (try simp only [Act.put, List.setIfInBounds_toArray, List.set_cons_zero, List.set_cons_succ])
          refine wpAnyH_take (i := 50) (oi := { dst := some 78, op := Go.Op.load 2 (Go.Operand.tmp 77), type := 2, pos := "laws.go:147", after := #[{ on := 49, ground := Go.Ground.data }, { on := 46, ground := Go.Ground.guard }], guard := some (46, false) }) (v := undef) rfl (by kernel_rfl) (by kernel_rfl) (by kernel_rfl) (fun _ _ _ h => h) (Or.inr ⟨by rfl, rfl⟩) (by assumption) ?_
          (try simp only [Act.put, List.setIfInBounds_toArray, List.set_cons_zero, List.set_cons_succ])
          refine wpAnyH_take (i := 51) (oi := { dst := some 79, op := Go.Op.call { callee := Go.Callee.value (Go.Operand.func 16), args := #[Go.Operand.tmp 76, Go.Operand.tmp 78], argTypes := #[29, 2] }, type := 42, pos := "laws.go:147", after := #[{ on := 48, ground := Go.Ground.data }, { on := 50, ground := Go.Ground.data }, { on := 46, ground := Go.Ground.chain }, { on := 46, ground := Go.Ground.guard }], guard := some (46, false) }) (v := undef) rfl (by kernel_rfl) (by kernel_rfl) (by kernel_rfl) (fun _ _ _ h => h) (Or.inr ⟨by rfl, rfl⟩) (by assumption) ?_
          (try simp only [Act.put, List.setIfInBounds_toArray, List.set_cons_zero, List.set_cons_succ])
          refine wpAnyH_take (i := 52) (oi := { dst := some 80, op := Go.Op.field 42 (Go.Operand.tmp 79) 1, type := 31, pos := "laws.go:147", after := #[{ on := 51, ground := Go.Ground.data }, { on := 46, ground := Go.Ground.guard }], guard := some (46, false) }) (v := undef) rfl (by kernel_rfl) (by kernel_rfl) (by kernel_rfl) (fun _ _ _ h => h) (Or.inr ⟨by rfl, rfl⟩) (by assumption) ?_
          (try simp only [Act.put, List.setIfInBounds_toArray, List.set_cons_zero, List.set_cons_succ])
          refine wpAnyH_take (i := 53) (oi := { dst := some 81, op := Go.Op.field 31 (Go.Operand.tmp 80) 0, type := 27, pos := "laws.go:147", after := #[{ on := 52, ground := Go.Ground.data }, { on := 46, ground := Go.Ground.guard }], guard := some (46, false) }) (v := undef) rfl (by kernel_rfl) (by kernel_rfl) (by kernel_rfl) (fun _ _ _ h => h) (Or.inr ⟨by rfl, rfl⟩) (by assumption) ?_
          (try simp only [Act.put, List.setIfInBounds_toArray, List.set_cons_zero, List.set_cons_succ])
          refine wpAnyH_take (i := 54) (oi := { dst := some 82, op := Go.Op.fieldAddr 31 (Go.Operand.tmp 4) 0, type := 0, pos := "laws.go:147", after := #[{ on := 46, ground := Go.Ground.guard }], guard := some (46, false) }) (v := undef) rfl (by kernel_rfl) (by kernel_rfl) (by kernel_rfl) (fun _ _ _ h => h) (Or.inr ⟨by rfl, rfl⟩) (by assumption) ?_
          (try simp only [Act.put, List.setIfInBounds_toArray, List.set_cons_zero, List.set_cons_succ])
          refine wpAnyH_take (i := 55) (oi := { dst := some 83, op := Go.Op.load 27 (Go.Operand.tmp 82), type := 27, pos := "laws.go:147", after := #[{ on := 54, ground := Go.Ground.data }, { on := 46, ground := Go.Ground.guard }], guard := some (46, false) }) (v := undef) rfl (by kernel_rfl) (by kernel_rfl) (by kernel_rfl) (fun _ _ _ h => h) (Or.inr ⟨by rfl, rfl⟩) (by assumption) ?_
          (try simp only [Act.put, List.setIfInBounds_toArray, List.set_cons_zero, List.set_cons_succ])
          refine wpAnyH_take (i := 56) (oi := { dst := some 84, op := Go.Op.call { callee := Go.Callee.value (Go.Operand.func 15), args := #[Go.Operand.tmp 81, Go.Operand.tmp 83], argTypes := #[27, 27] }, type := 4, pos := "laws.go:147", after := #[{ on := 53, ground := Go.Ground.data }, { on := 55, ground := Go.Ground.data }, { on := 51, ground := Go.Ground.chain }, { on := 46, ground := Go.Ground.guard }], guard := some (46, false) }) (v := undef) rfl (by kernel_rfl) (by kernel_rfl) (by kernel_rfl) (fun _ _ _ h => h) (Or.inr ⟨by rfl, rfl⟩) (by assumption) ?_
          (try simp only [Act.put, List.setIfInBounds_toArray, List.set_cons_zero, List.set_cons_succ])
          refine wpAnyH_take (i := 57) (oi := { dst := some 85, op := Go.Op.unOp Go.UnOp.not 4 (Go.Operand.tmp 84), type := 4, pos := "laws.go:147", after := #[{ on := 56, ground := Go.Ground.data }, { on := 46, ground := Go.Ground.guard }], guard := some (46, false) }) (v := undef) rfl (by kernel_rfl) (by kernel_rfl) (by kernel_rfl) (fun _ _ _ h => h) (Or.inr ⟨by rfl, rfl⟩) (by assumption) ?_
          (try simp only [Act.put, List.setIfInBounds_toArray, List.set_cons_zero, List.set_cons_succ])
          refine wpAnyH_take (i := 58) (oi := { dst := some 86, op := Go.Op.pick (Go.Operand.tmp 74) (Go.Operand.const (Go.Value.bool true)) (Go.Operand.tmp 85), type := 4, pos := "laws.go:147", after := #[{ on := 46, ground := Go.Ground.data }, { on := 57, ground := Go.Ground.data }, { on := 41, ground := Go.Ground.guard }], guard := some (41, true) }) (v := undef) rfl (by kernel_rfl) (by kernel_rfl) (by kernel_rfl) (fun _ _ _ h => h) (Or.inr ⟨by rfl, rfl⟩) (by assumption) ?_
          (try simp only [Act.put, List.setIfInBounds_toArray, List.set_cons_zero, List.set_cons_succ])
          refine wpAnyH_take (i := 59) (oi := { dst := some 87, op := Go.Op.pick (Go.Operand.tmp 69) (Go.Operand.tmp 86) (Go.Operand.const (Go.Value.bool false)), type := 4, pos := "laws.go:147", after := #[{ on := 41, ground := Go.Ground.data }, { on := 58, ground := Go.Ground.data }, { on := 37, ground := Go.Ground.guard }], guard := some (37, false) }) (v := ?_) rfl (by kernel_rfl) (by kernel_rfl) (by kernel_rfl) (fun _ _ _ h => h) (Or.inl ⟨by rfl, ?_⟩) (by assumption) ?_
          rotate_left
          · (intro w hSw; (try dsimp only at hSw); go_simp; (try with_reducible rfl))
          (try simp only [Act.put, List.setIfInBounds_toArray, List.set_cons_zero, List.set_cons_succ])
          refine wpAnyH_take (i := 60) (oi := { dst := some 88, op := Go.Op.pick (Go.Operand.tmp 65) (Go.Operand.const (Go.Value.bool true)) (Go.Operand.tmp 87), type := 4, pos := "laws.go:147", after := #[{ on := 37, ground := Go.Ground.data }, { on := 59, ground := Go.Ground.data }], guard := none }) (v := ?_) rfl (by kernel_rfl) (by kernel_rfl) (by kernel_rfl) (fun _ _ _ h => h) (Or.inl ⟨by rfl, ?_⟩) (by assumption) ?_
          rotate_left
          · (intro w hSw; (try dsimp only at hSw); go_simp; (try with_reducible rfl))
          (try simp only [Act.put, List.setIfInBounds_toArray, List.set_cons_zero, List.set_cons_succ])
          refine wpAnyH_done (by kernel_rfl) ?_ _
          go_wp2_with fail
          go_meet
          exact ⟨rfl, q16_bel hs1⟩
    · have e3 : (dtC xs ys us == 0) = false := by simpa using hp
      clear hp
      by_cases hd : adC ss ts ds lv = 0
      · have e7 : (adC ss ts ds lv == 0) = true := by simp [hd]
        obtain ⟨hdf, hdl⟩ := ad_right hd
        clear hd
        as_aux_lemma =>
          refine wp_region_held_drew (S := (fun w' => w'.cell? ⟨w5.heap.size, 0, none⟩ = some (.int .i64 (dtC xs ys us)) ∧ w'.cell? ⟨w5.heap.size, 2, none⟩ = some (.slice p1a p1n p1c) ∧ w'.cell? ⟨w5.heap.size, 3, none⟩ = some (.slice p2a p2n p2c) ∧ w'.cell? ⟨w5.heap.size, 4, none⟩ = some (.slice p3a p3n p3c) ∧ w'.cell? ⟨w4.heap.size, 0, none⟩ = some (.slice x1a x1n x1c) ∧ w'.cell? ⟨w4.heap.size, 1, none⟩ = some (.slice x2a x2n x2c) ∧ w'.cell? ⟨w4.heap.size, 2, none⟩ = some (.slice x3a x3n x3c) ∧ w'.cell? ⟨w3.heap.size, 0, none⟩ = some (.int .i64 (adC ss ts ds lv)) ∧ w'.cell? ⟨w3.heap.size, 1, none⟩ = some (.int .i64 (adV ss ts ds lv)) ∧ w'.cell? ⟨w3.heap.size, 2, none⟩ = some (.slice d1a d1n d1c) ∧ w'.cell? ⟨w3.heap.size, 3, none⟩ = some (.slice d2a d2n d2c) ∧ w'.cell? ⟨w3.heap.size, 4, none⟩ = some (.slice d3a d3n d3c) ∧ w'.cell? ⟨w1.heap.size, 0, none⟩ = some (.slice t1a t1n t1c) ∧ w'.cell? ⟨w1.heap.size, 1, none⟩ = some (.slice t2a t2n t2c) ∧ w'.cell? ⟨w1.heap.size, 2, none⟩ = some (.slice t3a t3n t3c) ∧ w'.cell? ⟨w1.heap.size + 1, 0, none⟩ = some (.slice la ll lc) ∧ Below W.heap.size W w')) (by kernel_rfl) HS0.out (fun hHeld => ?_)
          refine wpAnyH_take (i := 0) (oi := { dst := some 28, op := Go.Op.fieldAddr 35 (Go.Operand.tmp 8) 0, type := 0, pos := "laws.go:147", after := #[], guard := none }) (v := ?_) rfl (by kernel_rfl) (by kernel_rfl) (by kernel_rfl) (fun _ _ _ h => h) (Or.inl ⟨by rfl, ?_⟩) (by assumption) ?_
          rotate_left
          · (intro w hSw; (try dsimp only at hSw); go_simp; (try with_reducible rfl))
          (try simp only [Act.put, List.setIfInBounds_toArray, List.set_cons_zero, List.set_cons_succ])
          refine wpAnyH_take (i := 1) (oi := { dst := some 29, op := Go.Op.load 2 (Go.Operand.tmp 28), type := 2, pos := "laws.go:147", after := #[{ on := 0, ground := Go.Ground.data }], guard := none }) (v := ?_) rfl (by kernel_rfl) (by kernel_rfl) (by kernel_rfl) (fun _ _ _ h => h) (Or.inl ⟨by rfl, ?_⟩) (by assumption) ?_
          rotate_left
          · (intro w hSw; (try dsimp only at hSw); go_simp; (try with_reducible rfl))
          (try simp only [Act.put, List.setIfInBounds_toArray, List.set_cons_zero, List.set_cons_succ])
          refine wpAnyH_take (i := 2) (oi := { dst := some 30, op := Go.Op.load 29 (Go.Operand.tmp 7), type := 29, pos := "laws.go:147", after := #[], guard := none }) (v := ?_) rfl (by kernel_rfl) (by kernel_rfl) (by kernel_rfl) (fun _ _ _ h => h) (Or.inl ⟨by rfl, ?_⟩) (by assumption) ?_
          rotate_left
          · (intro w hSw; (try dsimp only at hSw); go_simp; (try with_reducible rfl))
          (try simp only [Act.put, List.setIfInBounds_toArray, List.set_cons_zero, List.set_cons_succ])
          refine wpAnyH_ready (rs := [3]) (by kernel_rfl) (by simp) ?_
          refine AllReadyH.cons (o := { dst := some 31, op := Go.Op.call { callee := Go.Callee.value (Go.Operand.func 12), args := #[Go.Operand.tmp 30], argTypes := #[29] }, type := 35, pos := "laws.go:147", after := #[{ on := 2, ground := Go.Ground.data }], guard := none }) rfl (fun K hK => ?_) AllReadyH.nil
          go_simp
          go_wp2_with (go_at_call 12; (with_reducible refine (specDropTag_calls x1a x1n x1c xs x2a x2n x2c ys x3a x3n x3c us _ ?_).mono ?_); exact HXS.out.below (q16_bel (by with_reducible assumption)) (Nat.le_refl _); rintro e y1 ⟨_, _, _, _, _, _, _, _, _, rfl, _, ga⟩; have hs1 := q16_below lt0 lt1 lt2 lt3 lt4 lt5 lt6 lt7 lt8 lt9 lt10 lt11 lt12 lt13 lt14 lt15 (by with_reducible assumption) ga; clear ga)
          refine hK.out _ _ hs1 (fun hHeld => ?_)
          clear hK K
          (try simp only [Act.put, List.setIfInBounds_toArray, List.set_cons_zero, List.set_cons_succ])
          refine wpAnyH_take (i := 4) (oi := { dst := some 32, op := Go.Op.field 35 (Go.Operand.tmp 31) 0, type := 2, pos := "laws.go:147", after := #[{ on := 3, ground := Go.Ground.data }], guard := none }) (v := ?_) rfl (by kernel_rfl) (by kernel_rfl) (by kernel_rfl) (fun _ _ _ h => h) (Or.inl ⟨by rfl, ?_⟩) (by assumption) ?_
          rotate_left
          · (intro w hSw; (try dsimp only at hSw); go_simp; (try with_reducible rfl))
          (try simp only [Act.put, List.setIfInBounds_toArray, List.set_cons_zero, List.set_cons_succ])
          refine wpAnyH_take (i := 5) (oi := { dst := some 33, op := Go.Op.binOp Go.BinOp.neq 2 (Go.Operand.tmp 29) (Go.Operand.tmp 32) 2, type := 4, pos := "laws.go:147", after := #[{ on := 1, ground := Go.Ground.data }, { on := 4, ground := Go.Ground.data }], guard := none }) (v := ?_) rfl (by kernel_rfl) (by kernel_rfl) (by kernel_rfl) (fun _ _ _ h => h) (Or.inl ⟨by rfl, ?_⟩) (by assumption) ?_
          rotate_left
          · (intro w hSw; (try dsimp only at hSw); go_simp; (try with_reducible rfl))
          (try simp only [Act.put, List.setIfInBounds_toArray, List.set_cons_zero, List.set_cons_succ])
          refine wpAnyH_take (i := 6) (oi := { dst := some 34, op := Go.Op.move (Go.Operand.tmp 33), type := 4, pos := "laws.go:147", after := #[{ on := 5, ground := Go.Ground.data }, { on := 3, ground := Go.Ground.chain }], guard := none }) (v := ?_) rfl (by kernel_rfl) (by kernel_rfl) (by kernel_rfl) (fun _ _ _ h => h) (Or.inl ⟨by rfl, ?_⟩) (by assumption) ?_
          rotate_left
          · (intro w hSw; (try dsimp only at hSw); go_simp; (try with_reducible rfl))
          (try simp only [Act.put, List.setIfInBounds_toArray, List.set_cons_zero, List.set_cons_succ])
          refine wpAnyH_take (i := 7) (oi := { dst := some 35, op := Go.Op.fieldAddr 35 (Go.Operand.tmp 8) 0, type := 0, pos := "laws.go:147", after := #[{ on := 6, ground := Go.Ground.guard }], guard := some (6, false) }) (v := ?_) rfl (by kernel_rfl) (by kernel_rfl) (by kernel_rfl) (fun _ _ _ h => h) (Or.inl ⟨by rfl, ?_⟩) (by assumption) ?_
          rotate_left
          · (intro w hSw; (try dsimp only at hSw); go_simp; (try with_reducible rfl))
          (try simp only [Act.put, List.setIfInBounds_toArray, List.set_cons_zero, List.set_cons_succ])
          refine wpAnyH_take (i := 8) (oi := { dst := some 36, op := Go.Op.load 2 (Go.Operand.tmp 35), type := 2, pos := "laws.go:147", after := #[{ on := 7, ground := Go.Ground.data }, { on := 6, ground := Go.Ground.guard }], guard := some (6, false) }) (v := ?_) rfl (by kernel_rfl) (by kernel_rfl) (by kernel_rfl) (fun _ _ _ h => h) (Or.inl ⟨by rfl, ?_⟩) (by assumption) ?_
          rotate_left
          · (intro w hSw; (try dsimp only at hSw); go_simp; (try with_reducible rfl))
          (try simp only [Act.put, List.setIfInBounds_toArray, List.set_cons_zero, List.set_cons_succ])
          refine wpAnyH_take (i := 9) (oi := { dst := some 37, op := Go.Op.binOp Go.BinOp.eql 2 (Go.Operand.tmp 36) (Go.Operand.const (Go.Value.int Go.IntKind.i64 0)) 2, type := 4, pos := "laws.go:147", after := #[{ on := 8, ground := Go.Ground.data }, { on := 6, ground := Go.Ground.guard }], guard := some (6, false) }) (v := ?_) rfl (by kernel_rfl) (by kernel_rfl) (by kernel_rfl) (fun _ _ _ h => h) (Or.inl ⟨by rfl, ?_⟩) (by assumption) ?_
          rotate_left
          · (intro w hSw; (try dsimp only at hSw); go_simp; (try with_reducible rfl))
          (try simp only [Act.put, List.setIfInBounds_toArray, List.set_cons_zero, List.set_cons_succ])
          refine wpAnyH_take (i := 10) (oi := { dst := some 38, op := Go.Op.move (Go.Operand.tmp 37), type := 4, pos := "laws.go:147", after := #[{ on := 9, ground := Go.Ground.data }, { on := 6, ground := Go.Ground.chain }, { on := 6, ground := Go.Ground.guard }], guard := some (6, false) }) (v := ?_) rfl (by kernel_rfl) (by kernel_rfl) (by kernel_rfl) (fun _ _ _ h => h) (Or.inl ⟨by rfl, ?_⟩) (by assumption) ?_
          rotate_left
          · (intro w hSw; (try dsimp only at hSw); go_simp; (try with_reducible rfl))
          (try simp only [Act.put, List.setIfInBounds_toArray, List.set_cons_zero, List.set_cons_succ])
          refine wpAnyH_take (i := 11) (oi := { dst := some 39, op := Go.Op.fieldAddr 35 (Go.Operand.tmp 8) 2, type := 0, pos := "laws.go:147", after := #[{ on := 10, ground := Go.Ground.guard }], guard := some (10, true) }) (v := undef) rfl (by kernel_rfl) (by kernel_rfl) (by kernel_rfl) (fun _ _ _ h => h) (Or.inr ⟨by rfl, rfl⟩) (by assumption) ?_
          (try simp only [Act.put, List.setIfInBounds_toArray, List.set_cons_zero, List.set_cons_succ])
          refine wpAnyH_take (i := 12) (oi := { dst := some 40, op := Go.Op.load 29 (Go.Operand.tmp 39), type := 29, pos := "laws.go:147", after := #[{ on := 11, ground := Go.Ground.data }, { on := 10, ground := Go.Ground.guard }], guard := some (10, true) }) (v := undef) rfl (by kernel_rfl) (by kernel_rfl) (by kernel_rfl) (fun _ _ _ h => h) (Or.inr ⟨by rfl, rfl⟩) (by assumption) ?_
          (try simp only [Act.put, List.setIfInBounds_toArray, List.set_cons_zero, List.set_cons_succ])
          refine wpAnyH_take (i := 13) (oi := { dst := some 41, op := Go.Op.call { callee := Go.Callee.value (Go.Operand.func 13), args := #[Go.Operand.tmp 40], argTypes := #[29] }, type := 2, pos := "laws.go:147", after := #[{ on := 12, ground := Go.Ground.data }, { on := 10, ground := Go.Ground.chain }, { on := 10, ground := Go.Ground.guard }], guard := some (10, true) }) (v := undef) rfl (by kernel_rfl) (by kernel_rfl) (by kernel_rfl) (fun _ _ _ h => h) (Or.inr ⟨by rfl, rfl⟩) (by assumption) ?_
          (try simp only [Act.put, List.setIfInBounds_toArray, List.set_cons_zero, List.set_cons_succ])
          refine wpAnyH_take (i := 14) (oi := { dst := some 42, op := Go.Op.binOp Go.BinOp.neq 2 (Go.Operand.tmp 41) (Go.Operand.const (Go.Value.int Go.IntKind.i64 0)) 2, type := 4, pos := "laws.go:147", after := #[{ on := 13, ground := Go.Ground.data }, { on := 10, ground := Go.Ground.guard }], guard := some (10, true) }) (v := undef) rfl (by kernel_rfl) (by kernel_rfl) (by kernel_rfl) (fun _ _ _ h => h) (Or.inr ⟨by rfl, rfl⟩) (by assumption) ?_
          (try simp only [Act.put, List.setIfInBounds_toArray, List.set_cons_zero, List.set_cons_succ])
          refine wpAnyH_take (i := 15) (oi := { dst := some 43, op := Go.Op.move (Go.Operand.tmp 42), type := 4, pos := "laws.go:147", after := #[{ on := 14, ground := Go.Ground.data }, { on := 13, ground := Go.Ground.chain }, { on := 10, ground := Go.Ground.guard }], guard := some (10, true) }) (v := undef) rfl (by kernel_rfl) (by kernel_rfl) (by kernel_rfl) (fun _ _ _ h => h) (Or.inr ⟨by rfl, rfl⟩) (by assumption) ?_
          (try simp only [Act.put, List.setIfInBounds_toArray, List.set_cons_zero, List.set_cons_succ])
          refine wpAnyH_take (i := 16) (oi := { dst := some 44, op := Go.Op.fieldAddr 35 (Go.Operand.tmp 8) 2, type := 0, pos := "laws.go:147", after := #[{ on := 15, ground := Go.Ground.guard }], guard := some (15, false) }) (v := undef) rfl (by kernel_rfl) (by kernel_rfl) (by kernel_rfl) (fun _ _ _ h => h) (Or.inr ⟨by rfl, rfl⟩) (by assumption) ?_
          (try simp only [Act.put, List.setIfInBounds_toArray, List.set_cons_zero, List.set_cons_succ])
          refine wpAnyH_take (i := 17) (oi := { dst := some 45, op := Go.Op.fieldAddr 29 (Go.Operand.tmp 44) 1, type := 0, pos := "laws.go:147", after := #[{ on := 16, ground := Go.Ground.data }, { on := 15, ground := Go.Ground.guard }], guard := some (15, false) }) (v := undef) rfl (by kernel_rfl) (by kernel_rfl) (by kernel_rfl) (fun _ _ _ h => h) (Or.inr ⟨by rfl, rfl⟩) (by assumption) ?_
          (try simp only [Act.put, List.setIfInBounds_toArray, List.set_cons_zero, List.set_cons_succ])
          refine wpAnyH_take (i := 18) (oi := { dst := some 46, op := Go.Op.load 27 (Go.Operand.tmp 45), type := 27, pos := "laws.go:147", after := #[{ on := 17, ground := Go.Ground.data }, { on := 15, ground := Go.Ground.guard }], guard := some (15, false) }) (v := undef) rfl (by kernel_rfl) (by kernel_rfl) (by kernel_rfl) (fun _ _ _ h => h) (Or.inr ⟨by rfl, rfl⟩) (by assumption) ?_
          (try simp only [Act.put, List.setIfInBounds_toArray, List.set_cons_zero, List.set_cons_succ])
          refine wpAnyH_take (i := 19) (oi := { dst := some 47, op := Go.Op.call { callee := Go.Callee.builtin Go.Builtin.len, args := #[Go.Operand.tmp 46], argTypes := #[27] }, type := 3, pos := "laws.go:147", after := #[{ on := 18, ground := Go.Ground.data }, { on := 15, ground := Go.Ground.guard }], guard := some (15, false) }) (v := undef) rfl (by kernel_rfl) (by kernel_rfl) (by kernel_rfl) (fun _ _ _ h => h) (Or.inr ⟨by rfl, rfl⟩) (by assumption) ?_
          (try simp only [Act.put, List.setIfInBounds_toArray, List.set_cons_zero, List.set_cons_succ])
          refine wpAnyH_take (i := 20) (oi := { dst := some 48, op := Go.Op.fieldAddr 29 (Go.Operand.tmp 7) 1, type := 0, pos := "laws.go:147", after := #[{ on := 15, ground := Go.Ground.guard }], guard := some (15, false) }) (v := undef) rfl (by kernel_rfl) (by kernel_rfl) (by kernel_rfl) (fun _ _ _ h => h) (Or.inr ⟨by rfl, rfl⟩) (by assumption) ?_
          (try simp only [Act.put, List.setIfInBounds_toArray, List.set_cons_zero, List.set_cons_succ])
          refine wpAnyH_take (i := 21) (oi := { dst := some 49, op := Go.Op.load 27 (Go.Operand.tmp 48), type := 27, pos := "laws.go:147", after := #[{ on := 20, ground := Go.Ground.data }, { on := 15, ground := Go.Ground.guard }], guard := some (15, false) }) (v := undef) rfl (by kernel_rfl) (by kernel_rfl) (by kernel_rfl) (fun _ _ _ h => h) (Or.inr ⟨by rfl, rfl⟩) (by assumption) ?_
          (try simp only [Act.put, List.setIfInBounds_toArray, List.set_cons_zero, List.set_cons_succ])
          refine wpAnyH_take (i := 22) (oi := { dst := some 50, op := Go.Op.call { callee := Go.Callee.builtin Go.Builtin.len, args := #[Go.Operand.tmp 49], argTypes := #[27] }, type := 3, pos := "laws.go:147", after := #[{ on := 21, ground := Go.Ground.data }, { on := 15, ground := Go.Ground.guard }], guard := some (15, false) }) (v := undef) rfl (by kernel_rfl) (by kernel_rfl) (by kernel_rfl) (fun _ _ _ h => h) (Or.inr ⟨by rfl, rfl⟩) (by assumption) ?_
          (try simp only [Act.put, List.setIfInBounds_toArray, List.set_cons_zero, List.set_cons_succ])
          refine wpAnyH_take (i := 23) (oi := { dst := some 51, op := Go.Op.binOp Go.BinOp.sub 3 (Go.Operand.tmp 50) (Go.Operand.const (Go.Value.int Go.IntKind.i64 1)) 3, type := 3, pos := "laws.go:147", after := #[{ on := 22, ground := Go.Ground.data }, { on := 15, ground := Go.Ground.guard }], guard := some (15, false) }) (v := undef) rfl (by kernel_rfl) (by kernel_rfl) (by kernel_rfl) (fun _ _ _ h => h) (Or.inr ⟨by rfl, rfl⟩) (by assumption) ?_
          (try simp only [Act.put, List.setIfInBounds_toArray, List.set_cons_zero, List.set_cons_succ])
          refine wpAnyH_take (i := 24) (oi := { dst := some 52, op := Go.Op.binOp Go.BinOp.neq 3 (Go.Operand.tmp 47) (Go.Operand.tmp 51) 3, type := 4, pos := "laws.go:147", after := #[{ on := 19, ground := Go.Ground.data }, { on := 23, ground := Go.Ground.data }, { on := 15, ground := Go.Ground.guard }], guard := some (15, false) }) (v := undef) rfl (by kernel_rfl) (by kernel_rfl) (by kernel_rfl) (fun _ _ _ h => h) (Or.inr ⟨by rfl, rfl⟩) (by assumption) ?_
          (try simp only [Act.put, List.setIfInBounds_toArray, List.set_cons_zero, List.set_cons_succ])
          refine wpAnyH_take (i := 25) (oi := { dst := some 53, op := Go.Op.pick (Go.Operand.tmp 43) (Go.Operand.const (Go.Value.bool true)) (Go.Operand.tmp 52), type := 4, pos := "laws.go:147", after := #[{ on := 15, ground := Go.Ground.data }, { on := 24, ground := Go.Ground.data }, { on := 10, ground := Go.Ground.guard }], guard := some (10, true) }) (v := undef) rfl (by kernel_rfl) (by kernel_rfl) (by kernel_rfl) (fun _ _ _ h => h) (Or.inr ⟨by rfl, rfl⟩) (by assumption) ?_
          (try simp only [Act.put, List.setIfInBounds_toArray, List.set_cons_zero, List.set_cons_succ])
          refine wpAnyH_take (i := 26) (oi := { dst := some 54, op := Go.Op.pick (Go.Operand.tmp 38) (Go.Operand.tmp 53) (Go.Operand.const (Go.Value.bool false)), type := 4, pos := "laws.go:147", after := #[{ on := 10, ground := Go.Ground.data }, { on := 25, ground := Go.Ground.data }, { on := 6, ground := Go.Ground.guard }], guard := some (6, false) }) (v := ?_) rfl (by kernel_rfl) (by kernel_rfl) (by kernel_rfl) (fun _ _ _ h => h) (Or.inl ⟨by rfl, ?_⟩) (by assumption) ?_
          rotate_left
          · (intro w hSw; (try dsimp only at hSw); go_simp; (try with_reducible rfl))
          (try simp only [Act.put, List.setIfInBounds_toArray, List.set_cons_zero, List.set_cons_succ])
          refine wpAnyH_take (i := 27) (oi := { dst := some 55, op := Go.Op.pick (Go.Operand.tmp 34) (Go.Operand.const (Go.Value.bool true)) (Go.Operand.tmp 54), type := 4, pos := "laws.go:147", after := #[{ on := 6, ground := Go.Ground.data }, { on := 26, ground := Go.Ground.data }], guard := none }) (v := ?_) rfl (by kernel_rfl) (by kernel_rfl) (by kernel_rfl) (fun _ _ _ h => h) (Or.inl ⟨by rfl, ?_⟩) (by assumption) ?_
          rotate_left
          · (intro w hSw; (try dsimp only at hSw); go_simp; (try with_reducible rfl))
          (try simp only [Act.put, List.setIfInBounds_toArray, List.set_cons_zero, List.set_cons_succ])
          refine wpAnyH_take (i := 28) (oi := { dst := some 56, op := Go.Op.move (Go.Operand.tmp 55), type := 4, pos := "laws.go:147", after := #[{ on := 27, ground := Go.Ground.data }, { on := 15, ground := Go.Ground.chain }], guard := none }) (v := ?_) rfl (by kernel_rfl) (by kernel_rfl) (by kernel_rfl) (fun _ _ _ h => h) (Or.inl ⟨by rfl, ?_⟩) (by assumption) ?_
          rotate_left
          · (intro w hSw; (try dsimp only at hSw); go_simp; (try with_reducible rfl))
          (try simp only [Act.put, List.setIfInBounds_toArray, List.set_cons_zero, List.set_cons_succ])
          refine wpAnyH_take (i := 29) (oi := { dst := some 57, op := Go.Op.fieldAddr 35 (Go.Operand.tmp 6) 0, type := 0, pos := "laws.go:147", after := #[{ on := 28, ground := Go.Ground.guard }], guard := some (28, false) }) (v := ?_) rfl (by kernel_rfl) (by kernel_rfl) (by kernel_rfl) (fun _ _ _ h => h) (Or.inl ⟨by rfl, ?_⟩) (by assumption) ?_
          rotate_left
          · (intro w hSw; (try dsimp only at hSw); go_simp; (try with_reducible rfl))
          (try simp only [Act.put, List.setIfInBounds_toArray, List.set_cons_zero, List.set_cons_succ])
          refine wpAnyH_take (i := 30) (oi := { dst := some 58, op := Go.Op.load 2 (Go.Operand.tmp 57), type := 2, pos := "laws.go:147", after := #[{ on := 29, ground := Go.Ground.data }, { on := 28, ground := Go.Ground.guard }], guard := some (28, false) }) (v := ?_) rfl (by kernel_rfl) (by kernel_rfl) (by kernel_rfl) (fun _ _ _ h => h) (Or.inl ⟨by rfl, ?_⟩) (by assumption) ?_
          rotate_left
          · (intro w hSw; (try dsimp only at hSw); go_simp; (try with_reducible rfl))
          (try simp only [Act.put, List.setIfInBounds_toArray, List.set_cons_zero, List.set_cons_succ])
          refine wpAnyH_take (i := 31) (oi := { dst := some 59, op := Go.Op.load 29 (Go.Operand.tmp 3), type := 29, pos := "laws.go:147", after := #[{ on := 28, ground := Go.Ground.guard }], guard := some (28, false) }) (v := ?_) rfl (by kernel_rfl) (by kernel_rfl) (by kernel_rfl) (fun _ _ _ h => h) (Or.inl ⟨by rfl, ?_⟩) (by assumption) ?_
          rotate_left
          · (intro w hSw; (try dsimp only at hSw); go_simp; (try with_reducible rfl))
          (try simp only [Act.put, List.setIfInBounds_toArray, List.set_cons_zero, List.set_cons_succ])
          refine wpAnyH_take (i := 32) (oi := { dst := some 60, op := Go.Op.load 31 (Go.Operand.tmp 4), type := 31, pos := "laws.go:147", after := #[{ on := 28, ground := Go.Ground.guard }], guard := some (28, false) }) (v := ?_) rfl (by kernel_rfl) (by kernel_rfl) (by kernel_rfl) (fun _ _ _ h => h) (Or.inl ⟨by rfl, ?_⟩) (by assumption) ?_
          rotate_left
          · (intro w hSw; (try dsimp only at hSw); go_simp; (try with_reducible rfl))
          (try simp only [Act.put, List.setIfInBounds_toArray, List.set_cons_zero, List.set_cons_succ])
          refine wpAnyH_ready (rs := [33]) (by kernel_rfl) (by simp) ?_
          refine AllReadyH.cons (o := { dst := some 61, op := Go.Op.call { callee := Go.Callee.value (Go.Operand.func 14), args := #[Go.Operand.tmp 59, Go.Operand.tmp 60], argTypes := #[29, 31] }, type := 35, pos := "laws.go:147", after := #[{ on := 31, ground := Go.Ground.data }, { on := 32, ground := Go.Ground.data }, { on := 28, ground := Go.Ground.chain }, { on := 28, ground := Go.Ground.guard }], guard := some (28, false) }) rfl (fun K hK => ?_) AllReadyH.nil
          go_simp
          go_wp2_with (go_at_call 14; (with_reducible refine (specAddDomainW_calls t1a t1n t1c ss t2a t2n t2c ts t3a t3n t3c ds la ll lc lv _ ?_ hllm ?_).mono ?_); exact HTS.out.below (q16_bel (by with_reducible assumption)) (Nat.le_refl _); exact HLS.out.below (q16_bel (by with_reducible assumption)) (Nat.le_refl _); rintro e y1 ⟨_, _, _, _, _, _, _, _, _, rfl, _, ga⟩; have hs1 := q16_below lt0 lt1 lt2 lt3 lt4 lt5 lt6 lt7 lt8 lt9 lt10 lt11 lt12 lt13 lt14 lt15 (by with_reducible assumption) ga; clear ga)
          refine hK.out _ _ hs1 (fun hHeld => ?_)
          clear hK K
          (try simp only [Act.put, List.setIfInBounds_toArray, List.set_cons_zero, List.set_cons_succ])
          refine wpAnyH_take (i := 34) (oi := { dst := some 62, op := Go.Op.field 35 (Go.Operand.tmp 61) 0, type := 2, pos := "laws.go:147", after := #[{ on := 33, ground := Go.Ground.data }, { on := 28, ground := Go.Ground.guard }], guard := some (28, false) }) (v := ?_) rfl (by kernel_rfl) (by kernel_rfl) (by kernel_rfl) (fun _ _ _ h => h) (Or.inl ⟨by rfl, ?_⟩) (by assumption) ?_
          rotate_left
          · (intro w hSw; (try dsimp only at hSw); go_simp; (try with_reducible rfl))
          (try simp only [Act.put, List.setIfInBounds_toArray, List.set_cons_zero, List.set_cons_succ])
          refine wpAnyH_take (i := 35) (oi := { dst := some 63, op := Go.Op.binOp Go.BinOp.neq 2 (Go.Operand.tmp 58) (Go.Operand.tmp 62) 2, type := 4, pos := "laws.go:147", after := #[{ on := 30, ground := Go.Ground.data }, { on := 34, ground := Go.Ground.data }, { on := 28, ground := Go.Ground.guard }], guard := some (28, false) }) (v := ?_) rfl (by kernel_rfl) (by kernel_rfl) (by kernel_rfl) (fun _ _ _ h => h) (Or.inl ⟨by rfl, ?_⟩) (by assumption) ?_
          rotate_left
          · (intro w hSw; (try dsimp only at hSw); go_simp; (try with_reducible rfl))
          (try simp only [Act.put, List.setIfInBounds_toArray, List.set_cons_zero, List.set_cons_succ])
          refine wpAnyH_take (i := 36) (oi := { dst := some 64, op := Go.Op.pick (Go.Operand.tmp 56) (Go.Operand.const (Go.Value.bool true)) (Go.Operand.tmp 63), type := 4, pos := "laws.go:147", after := #[{ on := 28, ground := Go.Ground.data }, { on := 35, ground := Go.Ground.data }], guard := none }) (v := ?_) rfl (by kernel_rfl) (by kernel_rfl) (by kernel_rfl) (fun _ _ _ h => h) (Or.inl ⟨by rfl, ?_⟩) (by assumption) ?_
          rotate_left
          · (intro w hSw; (try dsimp only at hSw); go_simp; (try with_reducible rfl))
          (try simp only [Act.put, List.setIfInBounds_toArray, List.set_cons_zero, List.set_cons_succ])
          refine wpAnyH_take (i := 37) (oi := { dst := some 65, op := Go.Op.move (Go.Operand.tmp 64), type := 4, pos := "laws.go:147", after := #[{ on := 36, ground := Go.Ground.data }, { on := 33, ground := Go.Ground.chain }], guard := none }) (v := ?_) rfl (by kernel_rfl) (by kernel_rfl) (by kernel_rfl) (fun _ _ _ h => h) (Or.inl ⟨by rfl, ?_⟩) (by assumption) ?_
          rotate_left
          · (intro w hSw; (try dsimp only at hSw); go_simp; (try with_reducible rfl))
          (try simp only [Act.put, List.setIfInBounds_toArray, List.set_cons_zero, List.set_cons_succ])
          refine wpAnyH_take (i := 38) (oi := { dst := some 66, op := Go.Op.fieldAddr 35 (Go.Operand.tmp 6) 0, type := 0, pos := "laws.go:147", after := #[{ on := 37, ground := Go.Ground.guard }], guard := some (37, false) }) (v := ?_) rfl (by kernel_rfl) (by kernel_rfl) (by kernel_rfl) (fun _ _ _ h => h) (Or.inl ⟨by rfl, ?_⟩) (by assumption) ?_
          rotate_left
          · (intro w hSw; (try dsimp only at hSw); go_simp; (try with_reducible rfl))
          (try simp only [Act.put, List.setIfInBounds_toArray, List.set_cons_zero, List.set_cons_succ])
          refine wpAnyH_take (i := 39) (oi := { dst := some 67, op := Go.Op.load 2 (Go.Operand.tmp 66), type := 2, pos := "laws.go:147", after := #[{ on := 38, ground := Go.Ground.data }, { on := 37, ground := Go.Ground.guard }], guard := some (37, false) }) (v := ?_) rfl (by kernel_rfl) (by kernel_rfl) (by kernel_rfl) (fun _ _ _ h => h) (Or.inl ⟨by rfl, ?_⟩) (by assumption) ?_
          rotate_left
          · (intro w hSw; (try dsimp only at hSw); go_simp; (try with_reducible rfl))
          (try simp only [Act.put, List.setIfInBounds_toArray, List.set_cons_zero, List.set_cons_succ])
          refine wpAnyH_take (i := 40) (oi := { dst := some 68, op := Go.Op.binOp Go.BinOp.eql 2 (Go.Operand.tmp 67) (Go.Operand.const (Go.Value.int Go.IntKind.i64 0)) 2, type := 4, pos := "laws.go:147", after := #[{ on := 39, ground := Go.Ground.data }, { on := 37, ground := Go.Ground.guard }], guard := some (37, false) }) (v := ?_) rfl (by kernel_rfl) (by kernel_rfl) (by kernel_rfl) (fun _ _ _ h => h) (Or.inl ⟨by rfl, ?_⟩) (by assumption) ?_
          rotate_left
          · (intro w hSw; (try dsimp only at hSw); go_simp; (try with_reducible rfl))
          (try simp only [Act.put, List.setIfInBounds_toArray, List.set_cons_zero, List.set_cons_succ])
          refine wpAnyH_take (i := 41) (oi := { dst := some 69, op := Go.Op.move (Go.Operand.tmp 68), type := 4, pos := "laws.go:147", after := #[{ on := 40, ground := Go.Ground.data }, { on := 37, ground := Go.Ground.chain }, { on := 37, ground := Go.Ground.guard }], guard := some (37, false) }) (v := ?_) rfl (by kernel_rfl) (by kernel_rfl) (by kernel_rfl) (fun _ _ _ h => h) (Or.inl ⟨by rfl, ?_⟩) (by assumption) ?_
          rotate_left
          · (intro w hSw; (try dsimp only at hSw); go_simp; (try with_reducible rfl))
          (try simp only [Act.put, List.setIfInBounds_toArray, List.set_cons_zero, List.set_cons_succ])
          refine wpAnyH_take (i := 42) (oi := { dst := some 70, op := Go.Op.fieldAddr 35 (Go.Operand.tmp 6) 2, type := 0, pos := "laws.go:147", after := #[{ on := 41, ground := Go.Ground.guard }], guard := some (41, true) }) (v := ?_) rfl (by kernel_rfl) (by kernel_rfl) (by kernel_rfl) (fun _ _ _ h => h) (Or.inl ⟨by rfl, ?_⟩) (by assumption) ?_
          rotate_left
          · (intro w hSw; (try dsimp only at hSw); go_simp; (try with_reducible rfl))
          (try simp only [Act.put, List.setIfInBounds_toArray, List.set_cons_zero, List.set_cons_succ])
          refine wpAnyH_take (i := 43) (oi := { dst := some 71, op := Go.Op.load 29 (Go.Operand.tmp 70), type := 29, pos := "laws.go:147", after := #[{ on := 42, ground := Go.Ground.data }, { on := 41, ground := Go.Ground.guard }], guard := some (41, true) }) (v := ?_) rfl (by kernel_rfl) (by kernel_rfl) (by kernel_rfl) (fun _ _ _ h => h) (Or.inl ⟨by rfl, ?_⟩) (by assumption) ?_
          rotate_left
          · (intro w hSw; (try dsimp only at hSw); go_simp; (try with_reducible rfl))
          (try simp only [Act.put, List.setIfInBounds_toArray, List.set_cons_zero, List.set_cons_succ])
          refine wpAnyH_ready (rs := [44]) (by kernel_rfl) (by simp) ?_
          refine AllReadyH.cons (o := { dst := some 72, op := Go.Op.call { callee := Go.Callee.value (Go.Operand.func 13), args := #[Go.Operand.tmp 71], argTypes := #[29] }, type := 2, pos := "laws.go:147", after := #[{ on := 43, ground := Go.Ground.data }, { on := 41, ground := Go.Ground.chain }, { on := 41, ground := Go.Ground.guard }], guard := some (41, true) }) rfl (fun K hK => ?_) AllReadyH.nil
          go_simp
          go_wp2_with (go_at_call 13; (with_reducible refine (tabF_as d1a d1n d1c (adS ss ts ds lv) d2a d2n d2c (adT ss ts ds lv) d3a d3n d3c (adD ss ts ds lv) _ hdf ?_).mono ?_); exact HDS.out.below (q16_bel (by with_reducible assumption)) (Nat.le_refl _); rintro e y1 ⟨rfl, ga⟩; have hs1 := q16_below lt0 lt1 lt2 lt3 lt4 lt5 lt6 lt7 lt8 lt9 lt10 lt11 lt12 lt13 lt14 lt15 (by with_reducible assumption) ga; clear ga)
          refine hK.out _ _ hs1 (fun hHeld => ?_)
          clear hK K
          (try simp only [Act.put, List.setIfInBounds_toArray, List.set_cons_zero, List.set_cons_succ])
          refine wpAnyH_take (i := 45) (oi := { dst := some 73, op := Go.Op.binOp Go.BinOp.neq 2 (Go.Operand.tmp 72) (Go.Operand.const (Go.Value.int Go.IntKind.i64 0)) 2, type := 4, pos := "laws.go:147", after := #[{ on := 44, ground := Go.Ground.data }, { on := 41, ground := Go.Ground.guard }], guard := some (41, true) }) (v := ?_) rfl (by kernel_rfl) (by kernel_rfl) (by kernel_rfl) (fun _ _ _ h => h) (Or.inl ⟨by rfl, ?_⟩) (by assumption) ?_
          rotate_left
          · (intro w hSw; (try dsimp only at hSw); go_simp; (try with_reducible rfl))
          (try simp only [Act.put, List.setIfInBounds_toArray, List.set_cons_zero, List.set_cons_succ])
          refine wpAnyH_take (i := 46) (oi := { dst := some 74, op := Go.Op.move (Go.Operand.tmp 73), type := 4, pos := "laws.go:147", after := #[{ on := 45, ground := Go.Ground.data }, { on := 44, ground := Go.Ground.chain }, { on := 41, ground := Go.Ground.guard }], guard := some (41, true) }) (v := ?_) rfl (by kernel_rfl) (by kernel_rfl) (by kernel_rfl) (fun _ _ _ h => h) (Or.inl ⟨by rfl, ?_⟩) (by assumption) ?_
          rotate_left
          · (intro w hSw; (try dsimp only at hSw); go_simp; (try with_reducible rfl))
          (try simp only [Act.put, List.setIfInBounds_toArray, List.set_cons_zero, List.set_cons_succ])
          refine wpAnyH_take (i := 47) (oi := { dst := some 75, op := Go.Op.fieldAddr 35 (Go.Operand.tmp 6) 2, type := 0, pos := "laws.go:147", after := #[{ on := 46, ground := Go.Ground.guard }], guard := some (46, false) }) (v := ?_) rfl (by kernel_rfl) (by kernel_rfl) (by kernel_rfl) (fun _ _ _ h => h) (Or.inl ⟨by rfl, ?_⟩) (by assumption) ?_
          rotate_left
          · (intro w hSw; (try dsimp only at hSw); go_simp; (try with_reducible rfl))
          (try simp only [Act.put, List.setIfInBounds_toArray, List.set_cons_zero, List.set_cons_succ])
          refine wpAnyH_take (i := 48) (oi := { dst := some 76, op := Go.Op.load 29 (Go.Operand.tmp 75), type := 29, pos := "laws.go:147", after := #[{ on := 47, ground := Go.Ground.data }, { on := 46, ground := Go.Ground.guard }], guard := some (46, false) }) (v := ?_) rfl (by kernel_rfl) (by kernel_rfl) (by kernel_rfl) (fun _ _ _ h => h) (Or.inl ⟨by rfl, ?_⟩) (by assumption) ?_
          rotate_left
          · (intro w hSw; (try dsimp only at hSw); go_simp; (try with_reducible rfl))
          (try simp only [Act.put, List.setIfInBounds_toArray, List.set_cons_zero, List.set_cons_succ])
          refine wpAnyH_take (i := 49) (oi := { dst := some 77, op := Go.Op.fieldAddr 35 (Go.Operand.tmp 6) 1, type := 0, pos := "laws.go:147", after := #[{ on := 46, ground := Go.Ground.guard }], guard := some (46, false) }) (v := ?_) rfl (by kernel_rfl) (by kernel_rfl) (by kernel_rfl) (fun _ _ _ h => h) (Or.inl ⟨by rfl, ?_⟩) (by assumption) ?_
          rotate_left
          · (intro w hSw; (try dsimp only at hSw); go_simp; (try with_reducible rfl))
          (try simp only [Act.put, List.setIfInBounds_toArray, List.set_cons_zero, List.set_cons_succ])
          refine wpAnyH_take (i := 50) (oi := { dst := some 78, op := Go.Op.load 2 (Go.Operand.tmp 77), type := 2, pos := "laws.go:147", after := #[{ on := 49, ground := Go.Ground.data }, { on := 46, ground := Go.Ground.guard }], guard := some (46, false) }) (v := ?_) rfl (by kernel_rfl) (by kernel_rfl) (by kernel_rfl) (fun _ _ _ h => h) (Or.inl ⟨by rfl, ?_⟩) (by assumption) ?_
          rotate_left
          · (intro w hSw; (try dsimp only at hSw); go_simp; (try with_reducible rfl))
          (try simp only [Act.put, List.setIfInBounds_toArray, List.set_cons_zero, List.set_cons_succ])
          refine wpAnyH_take (i := 54) (oi := { dst := some 82, op := Go.Op.fieldAddr 31 (Go.Operand.tmp 4) 0, type := 0, pos := "laws.go:147", after := #[{ on := 46, ground := Go.Ground.guard }], guard := some (46, false) }) (v := ?_) rfl (by kernel_rfl) (by kernel_rfl) (by kernel_rfl) (fun _ _ _ h => h) (Or.inl ⟨by rfl, ?_⟩) (by assumption) ?_
          rotate_left
          · (intro w hSw; (try dsimp only at hSw); go_simp; (try with_reducible rfl))
          (try simp only [Act.put, List.setIfInBounds_toArray, List.set_cons_zero, List.set_cons_succ])
          refine wpAnyH_take (i := 55) (oi := { dst := some 83, op := Go.Op.load 27 (Go.Operand.tmp 82), type := 27, pos := "laws.go:147", after := #[{ on := 54, ground := Go.Ground.data }, { on := 46, ground := Go.Ground.guard }], guard := some (46, false) }) (v := ?_) rfl (by kernel_rfl) (by kernel_rfl) (by kernel_rfl) (fun _ _ _ h => h) (Or.inl ⟨by rfl, ?_⟩) (by assumption) ?_
          rotate_left
          · (intro w hSw; (try dsimp only at hSw); go_simp; (try with_reducible rfl))
          (try simp only [Act.put, List.setIfInBounds_toArray, List.set_cons_zero, List.set_cons_succ])
          refine wpAnyH_ready (rs := [51]) (by kernel_rfl) (by simp) ?_
          refine AllReadyH.cons (o := { dst := some 79, op := Go.Op.call { callee := Go.Callee.value (Go.Operand.func 16), args := #[Go.Operand.tmp 76, Go.Operand.tmp 78], argTypes := #[29, 2] }, type := 42, pos := "laws.go:147", after := #[{ on := 48, ground := Go.Ground.data }, { on := 50, ground := Go.Ground.data }, { on := 46, ground := Go.Ground.chain }, { on := 46, ground := Go.Ground.guard }], guard := some (46, false) }) rfl (fun K hK => ?_) AllReadyH.nil
          go_simp
          go_wp2_with (go_at_call 16; (with_reducible refine (implDomainLabel_calls d1a d1n d1c (adS ss ts ds lv) d2a d2n d2c (adT ss ts ds lv) d3a d3n d3c (adD ss ts ds lv) (adV ss ts ds lv) _ ?_).mono ?_); exact HDS.out.below (q16_bel (by with_reducible assumption)) (Nat.le_refl _); rintro e y1 ⟨k1a, k1n, k1c, rfl, ok, ga⟩; have hs1 := q16_below lt0 lt1 lt2 lt3 lt4 lt5 lt6 lt7 lt8 lt9 lt10 lt11 lt12 lt13 lt14 lt15 (by with_reducible assumption) ga; have hk1 := os_max ok; have HK := hide ok.sl; clear ok; clear ga)
          refine hK.out _ _ hs1 (fun hHeld => ?_)
          clear hK K
          (try simp only [Act.put, List.setIfInBounds_toArray, List.set_cons_zero, List.set_cons_succ])
          refine wpAnyH_take (i := 52) (oi := { dst := some 80, op := Go.Op.field 42 (Go.Operand.tmp 79) 1, type := 31, pos := "laws.go:147", after := #[{ on := 51, ground := Go.Ground.data }, { on := 46, ground := Go.Ground.guard }], guard := some (46, false) }) (v := ?_) rfl (by kernel_rfl) (by kernel_rfl) (by kernel_rfl) (fun _ _ _ h => h) (Or.inl ⟨by rfl, ?_⟩) (by assumption) ?_
          rotate_left
          · (intro w hSw; (try dsimp only at hSw); go_simp; (try with_reducible rfl))
          (try simp only [Act.put, List.setIfInBounds_toArray, List.set_cons_zero, List.set_cons_succ])
          refine wpAnyH_take (i := 53) (oi := { dst := some 81, op := Go.Op.field 31 (Go.Operand.tmp 80) 0, type := 27, pos := "laws.go:147", after := #[{ on := 52, ground := Go.Ground.data }, { on := 46, ground := Go.Ground.guard }], guard := some (46, false) }) (v := ?_) rfl (by kernel_rfl) (by kernel_rfl) (by kernel_rfl) (fun _ _ _ h => h) (Or.inl ⟨by rfl, ?_⟩) (by assumption) ?_
          rotate_left
          · (intro w hSw; (try dsimp only at hSw); go_simp; (try with_reducible rfl))
          (try simp only [Act.put, List.setIfInBounds_toArray, List.set_cons_zero, List.set_cons_succ])
          refine wpAnyH_ready (rs := [56]) (by kernel_rfl) (by simp) ?_
          refine AllReadyH.cons (o := { dst := some 84, op := Go.Op.call { callee := Go.Callee.value (Go.Operand.func 15), args := #[Go.Operand.tmp 81, Go.Operand.tmp 83], argTypes := #[27, 27] }, type := 4, pos := "laws.go:147", after := #[{ on := 53, ground := Go.Ground.data }, { on := 55, ground := Go.Ground.data }, { on := 51, ground := Go.Ground.chain }, { on := 46, ground := Go.Ground.guard }], guard := some (46, false) }) rfl (fun K hK => ?_) AllReadyH.nil
          go_simp
          go_wp2_with (go_at_call 15; (with_reducible refine (lwNums_as k1a la k1n k1c ll lc _ lv _ hdl hk1 hllm ?_ ?_).mono ?_); exact HK.out; exact HLS.out.below (q16_bel (by with_reducible assumption)) (Nat.le_refl _); rintro e y1 ⟨rfl, ga⟩; have hs1 := q16_below lt0 lt1 lt2 lt3 lt4 lt5 lt6 lt7 lt8 lt9 lt10 lt11 lt12 lt13 lt14 lt15 (by with_reducible assumption) ga; clear ga)
          refine hK.out _ _ hs1 (fun hHeld => ?_)
          clear hK K
          (try simp only [Act.put, List.setIfInBounds_toArray, List.set_cons_zero, List.set_cons_succ])
          refine wpAnyH_take (i := 57) (oi := { dst := some 85, op := Go.Op.unOp Go.UnOp.not 4 (Go.Operand.tmp 84), type := 4, pos := "laws.go:147", after := #[{ on := 56, ground := Go.Ground.data }, { on := 46, ground := Go.Ground.guard }], guard := some (46, false) }) (v := ?_) rfl (by kernel_rfl) (by kernel_rfl) (by kernel_rfl) (fun _ _ _ h => h) (Or.inl ⟨by rfl, ?_⟩) (by assumption) ?_
          rotate_left
          · (intro w hSw; (try dsimp only at hSw); go_simp; (try with_reducible rfl))
          (try simp only [Act.put, List.setIfInBounds_toArray, List.set_cons_zero, List.set_cons_succ])
          refine wpAnyH_take (i := 58) (oi := { dst := some 86, op := Go.Op.pick (Go.Operand.tmp 74) (Go.Operand.const (Go.Value.bool true)) (Go.Operand.tmp 85), type := 4, pos := "laws.go:147", after := #[{ on := 46, ground := Go.Ground.data }, { on := 57, ground := Go.Ground.data }, { on := 41, ground := Go.Ground.guard }], guard := some (41, true) }) (v := ?_) rfl (by kernel_rfl) (by kernel_rfl) (by kernel_rfl) (fun _ _ _ h => h) (Or.inl ⟨by rfl, ?_⟩) (by assumption) ?_
          rotate_left
          · (intro w hSw; (try dsimp only at hSw); go_simp; (try with_reducible rfl))
          (try simp only [Act.put, List.setIfInBounds_toArray, List.set_cons_zero, List.set_cons_succ])
          refine wpAnyH_take (i := 59) (oi := { dst := some 87, op := Go.Op.pick (Go.Operand.tmp 69) (Go.Operand.tmp 86) (Go.Operand.const (Go.Value.bool false)), type := 4, pos := "laws.go:147", after := #[{ on := 41, ground := Go.Ground.data }, { on := 58, ground := Go.Ground.data }, { on := 37, ground := Go.Ground.guard }], guard := some (37, false) }) (v := ?_) rfl (by kernel_rfl) (by kernel_rfl) (by kernel_rfl) (fun _ _ _ h => h) (Or.inl ⟨by rfl, ?_⟩) (by assumption) ?_
          rotate_left
          · (intro w hSw; (try dsimp only at hSw); go_simp; (try with_reducible rfl))
          (try simp only [Act.put, List.setIfInBounds_toArray, List.set_cons_zero, List.set_cons_succ])
          refine wpAnyH_take (i := 60) (oi := { dst := some 88, op := Go.Op.pick (Go.Operand.tmp 65) (Go.Operand.const (Go.Value.bool true)) (Go.Operand.tmp 87), type := 4, pos := "laws.go:147", after := #[{ on := 37, ground := Go.Ground.data }, { on := 59, ground := Go.Ground.data }], guard := none }) (v := ?_) rfl (by kernel_rfl) (by kernel_rfl) (by kernel_rfl) (fun _ _ _ h => h) (Or.inl ⟨by rfl, ?_⟩) (by assumption) ?_
          rotate_left
          · (intro w hSw; (try dsimp only at hSw); go_simp; (try with_reducible rfl))
          (try simp only [Act.put, List.setIfInBounds_toArray, List.set_cons_zero, List.set_cons_succ])
          refine wpAnyH_done (by kernel_rfl) ?_ _
          go_wp2_with fail
          go_meet
          exact ⟨rfl, q16_bel hs1⟩
      · have e7 : (adC ss ts ds lv == 0) = false := by simpa using hd
        clear hd
        as_aux_lemma =>
          refine wp_region_held_drew (S := (fun w' => w'.cell? ⟨w5.heap.size, 0, none⟩ = some (.int .i64 (dtC xs ys us)) ∧ w'.cell? ⟨w5.heap.size, 2, none⟩ = some (.slice p1a p1n p1c) ∧ w'.cell? ⟨w5.heap.size, 3, none⟩ = some (.slice p2a p2n p2c) ∧ w'.cell? ⟨w5.heap.size, 4, none⟩ = some (.slice p3a p3n p3c) ∧ w'.cell? ⟨w4.heap.size, 0, none⟩ = some (.slice x1a x1n x1c) ∧ w'.cell? ⟨w4.heap.size, 1, none⟩ = some (.slice x2a x2n x2c) ∧ w'.cell? ⟨w4.heap.size, 2, none⟩ = some (.slice x3a x3n x3c) ∧ w'.cell? ⟨w3.heap.size, 0, none⟩ = some (.int .i64 (adC ss ts ds lv)) ∧ w'.cell? ⟨w3.heap.size, 1, none⟩ = some (.int .i64 (adV ss ts ds lv)) ∧ w'.cell? ⟨w3.heap.size, 2, none⟩ = some (.slice d1a d1n d1c) ∧ w'.cell? ⟨w3.heap.size, 3, none⟩ = some (.slice d2a d2n d2c) ∧ w'.cell? ⟨w3.heap.size, 4, none⟩ = some (.slice d3a d3n d3c) ∧ w'.cell? ⟨w1.heap.size, 0, none⟩ = some (.slice t1a t1n t1c) ∧ w'.cell? ⟨w1.heap.size, 1, none⟩ = some (.slice t2a t2n t2c) ∧ w'.cell? ⟨w1.heap.size, 2, none⟩ = some (.slice t3a t3n t3c) ∧ w'.cell? ⟨w1.heap.size + 1, 0, none⟩ = some (.slice la ll lc) ∧ Below W.heap.size W w')) (by kernel_rfl) HS0.out (fun hHeld => ?_)
          refine wpAnyH_take (i := 0) (oi := { dst := some 28, op := Go.Op.fieldAddr 35 (Go.Operand.tmp 8) 0, type := 0, pos := "laws.go:147", after := #[], guard := none }) (v := ?_) rfl (by kernel_rfl) (by kernel_rfl) (by kernel_rfl) (fun _ _ _ h => h) (Or.inl ⟨by rfl, ?_⟩) (by assumption) ?_
          rotate_left
          · (intro w hSw; (try dsimp only at hSw); go_simp; (try with_reducible rfl))
          (try simp only [Act.put, List.setIfInBounds_toArray, List.set_cons_zero, List.set_cons_succ])
          refine wpAnyH_take (i := 1) (oi := { dst := some 29, op := Go.Op.load 2 (Go.Operand.tmp 28), type := 2, pos := "laws.go:147", after := #[{ on := 0, ground := Go.Ground.data }], guard := none }) (v := ?_) rfl (by kernel_rfl) (by kernel_rfl) (by kernel_rfl) (fun _ _ _ h => h) (Or.inl ⟨by rfl, ?_⟩) (by assumption) ?_
          rotate_left
          · (intro w hSw; (try dsimp only at hSw); go_simp; (try with_reducible rfl))
          (try simp only [Act.put, List.setIfInBounds_toArray, List.set_cons_zero, List.set_cons_succ])
          refine wpAnyH_take (i := 2) (oi := { dst := some 30, op := Go.Op.load 29 (Go.Operand.tmp 7), type := 29, pos := "laws.go:147", after := #[], guard := none }) (v := ?_) rfl (by kernel_rfl) (by kernel_rfl) (by kernel_rfl) (fun _ _ _ h => h) (Or.inl ⟨by rfl, ?_⟩) (by assumption) ?_
          rotate_left
          · (intro w hSw; (try dsimp only at hSw); go_simp; (try with_reducible rfl))
          (try simp only [Act.put, List.setIfInBounds_toArray, List.set_cons_zero, List.set_cons_succ])
          refine wpAnyH_ready (rs := [3]) (by kernel_rfl) (by simp) ?_
          refine AllReadyH.cons (o := { dst := some 31, op := Go.Op.call { callee := Go.Callee.value (Go.Operand.func 12), args := #[Go.Operand.tmp 30], argTypes := #[29] }, type := 35, pos := "laws.go:147", after := #[{ on := 2, ground := Go.Ground.data }], guard := none }) rfl (fun K hK => ?_) AllReadyH.nil
          go_simp
          go_wp2_with (go_at_call 12; (with_reducible refine (specDropTag_calls x1a x1n x1c xs x2a x2n x2c ys x3a x3n x3c us _ ?_).mono ?_); exact HXS.out.below (q16_bel (by with_reducible assumption)) (Nat.le_refl _); rintro e y1 ⟨_, _, _, _, _, _, _, _, _, rfl, _, ga⟩; have hs1 := q16_below lt0 lt1 lt2 lt3 lt4 lt5 lt6 lt7 lt8 lt9 lt10 lt11 lt12 lt13 lt14 lt15 (by with_reducible assumption) ga; clear ga)
          refine hK.out _ _ hs1 (fun hHeld => ?_)
          clear hK K
          (try simp only [Act.put, List.setIfInBounds_toArray, List.set_cons_zero, List.set_cons_succ])
          refine wpAnyH_take (i := 4) (oi := { dst := some 32, op := Go.Op.field 35 (Go.Operand.tmp 31) 0, type := 2, pos := "laws.go:147", after := #[{ on := 3, ground := Go.Ground.data }], guard := none }) (v := ?_) rfl (by kernel_rfl) (by kernel_rfl) (by kernel_rfl) (fun _ _ _ h => h) (Or.inl ⟨by rfl, ?_⟩) (by assumption) ?_
          rotate_left
          · (intro w hSw; (try dsimp only at hSw); go_simp; (try with_reducible rfl))
          (try simp only [Act.put, List.setIfInBounds_toArray, List.set_cons_zero, List.set_cons_succ])
          refine wpAnyH_take (i := 5) (oi := { dst := some 33, op := Go.Op.binOp Go.BinOp.neq 2 (Go.Operand.tmp 29) (Go.Operand.tmp 32) 2, type := 4, pos := "laws.go:147", after := #[{ on := 1, ground := Go.Ground.data }, { on := 4, ground := Go.Ground.data }], guard := none }) (v := ?_) rfl (by kernel_rfl) (by kernel_rfl) (by kernel_rfl) (fun _ _ _ h => h) (Or.inl ⟨by rfl, ?_⟩) (by assumption) ?_
          rotate_left
          · (intro w hSw; (try dsimp only at hSw); go_simp; (try with_reducible rfl))
          (try simp only [Act.put, List.setIfInBounds_toArray, List.set_cons_zero, List.set_cons_succ])
          refine wpAnyH_take (i := 6) (oi := { dst := some 34, op := Go.Op.move (Go.Operand.tmp 33), type := 4, pos := "laws.go:147", after := #[{ on := 5, ground := Go.Ground.data }, { on := 3, ground := Go.Ground.chain }], guard := none }) (v := ?_) rfl (by kernel_rfl) (by kernel_rfl) (by kernel_rfl) (fun _ _ _ h => h) (Or.inl ⟨by rfl, ?_⟩) (by assumption) ?_
          rotate_left
          · (intro w hSw; (try dsimp only at hSw); go_simp; (try with_reducible rfl))
          (try simp only [Act.put, List.setIfInBounds_toArray, List.set_cons_zero, List.set_cons_succ])
          refine wpAnyH_take (i := 7) (oi := { dst := some 35, op := Go.Op.fieldAddr 35 (Go.Operand.tmp 8) 0, type := 0, pos := "laws.go:147", after := #[{ on := 6, ground := Go.Ground.guard }], guard := some (6, false) }) (v := ?_) rfl (by kernel_rfl) (by kernel_rfl) (by kernel_rfl) (fun _ _ _ h => h) (Or.inl ⟨by rfl, ?_⟩) (by assumption) ?_
          rotate_left
          · (intro w hSw; (try dsimp only at hSw); go_simp; (try with_reducible rfl))
          (try simp only [Act.put, List.setIfInBounds_toArray, List.set_cons_zero, List.set_cons_succ])
          refine wpAnyH_take (i := 8) (oi := { dst := some 36, op := Go.Op.load 2 (Go.Operand.tmp 35), type := 2, pos := "laws.go:147", after := #[{ on := 7, ground := Go.Ground.data }, { on := 6, ground := Go.Ground.guard }], guard := some (6, false) }) (v := ?_) rfl (by kernel_rfl) (by kernel_rfl) (by kernel_rfl) (fun _ _ _ h => h) (Or.inl ⟨by rfl, ?_⟩) (by assumption) ?_
          rotate_left
          · (intro w hSw; (try dsimp only at hSw); go_simp; (try with_reducible rfl))
          (try simp only [Act.put, List.setIfInBounds_toArray, List.set_cons_zero, List.set_cons_succ])
          refine wpAnyH_take (i := 9) (oi := { dst := some 37, op := Go.Op.binOp Go.BinOp.eql 2 (Go.Operand.tmp 36) (Go.Operand.const (Go.Value.int Go.IntKind.i64 0)) 2, type := 4, pos := "laws.go:147", after := #[{ on := 8, ground := Go.Ground.data }, { on := 6, ground := Go.Ground.guard }], guard := some (6, false) }) (v := ?_) rfl (by kernel_rfl) (by kernel_rfl) (by kernel_rfl) (fun _ _ _ h => h) (Or.inl ⟨by rfl, ?_⟩) (by assumption) ?_
          rotate_left
          · (intro w hSw; (try dsimp only at hSw); go_simp; (try with_reducible rfl))
          (try simp only [Act.put, List.setIfInBounds_toArray, List.set_cons_zero, List.set_cons_succ])
          refine wpAnyH_take (i := 10) (oi := { dst := some 38, op := Go.Op.move (Go.Operand.tmp 37), type := 4, pos := "laws.go:147", after := #[{ on := 9, ground := Go.Ground.data }, { on := 6, ground := Go.Ground.chain }, { on := 6, ground := Go.Ground.guard }], guard := some (6, false) }) (v := ?_) rfl (by kernel_rfl) (by kernel_rfl) (by kernel_rfl) (fun _ _ _ h => h) (Or.inl ⟨by rfl, ?_⟩) (by assumption) ?_
          rotate_left
          · (intro w hSw; (try dsimp only at hSw); go_simp; (try with_reducible rfl))
          (try simp only [Act.put, List.setIfInBounds_toArray, List.set_cons_zero, List.set_cons_succ])
          refine wpAnyH_take (i := 11) (oi := { dst := some 39, op := Go.Op.fieldAddr 35 (Go.Operand.tmp 8) 2, type := 0, pos := "laws.go:147", after := #[{ on := 10, ground := Go.Ground.guard }], guard := some (10, true) }) (v := undef) rfl (by kernel_rfl) (by kernel_rfl) (by kernel_rfl) (fun _ _ _ h => h) (Or.inr ⟨by rfl, rfl⟩) (by assumption) ?_
          (try simp only [Act.put, List.setIfInBounds_toArray, List.set_cons_zero, List.set_cons_succ])
          refine wpAnyH_take (i := 12) (oi := { dst := some 40, op := Go.Op.load 29 (Go.Operand.tmp 39), type := 29, pos := "laws.go:147", after := #[{ on := 11, ground := Go.Ground.data }, { on := 10, ground := Go.Ground.guard }], guard := some (10, true) }) (v := undef) rfl (by kernel_rfl) (by kernel_rfl) (by kernel_rfl) (fun _ _ _ h => h) (Or.inr ⟨by rfl, rfl⟩) (by assumption) ?_
          (try simp only [Act.put, List.setIfInBounds_toArray, List.set_cons_zero, List.set_cons_succ])
          refine wpAnyH_take (i := 13) (oi := { dst := some 41, op := Go.Op.call { callee := Go.Callee.value (Go.Operand.func 13), args := #[Go.Operand.tmp 40], argTypes := #[29] }, type := 2, pos := "laws.go:147", after := #[{ on := 12, ground := Go.Ground.data }, { on := 10, ground := Go.Ground.chain }, { on := 10, ground := Go.Ground.guard }], guard := some (10, true) }) (v := undef) rfl (by kernel_rfl) (by kernel_rfl) (by kernel_rfl) (fun _ _ _ h => h) (Or.inr ⟨by rfl, rfl⟩) (by assumption) ?_
          (try simp only [Act.put, List.setIfInBounds_toArray, List.set_cons_zero, List.set_cons_succ])
          refine wpAnyH_take (i := 14) (oi := { dst := some 42, op := Go.Op.binOp Go.BinOp.neq 2 (Go.Operand.tmp 41) (Go.Operand.const (Go.Value.int Go.IntKind.i64 0)) 2, type := 4, pos := "laws.go:147", after := #[{ on := 13, ground := Go.Ground.data }, { on := 10, ground := Go.Ground.guard }], guard := some (10, true) }) (v := undef) rfl (by kernel_rfl) (by kernel_rfl) (by kernel_rfl) (fun _ _ _ h => h) (Or.inr ⟨by rfl, rfl⟩) (by assumption) ?_
          (try simp only [Act.put, List.setIfInBounds_toArray, List.set_cons_zero, List.set_cons_succ])
          refine wpAnyH_take (i := 15) (oi := { dst := some 43, op := Go.Op.move (Go.Operand.tmp 42), type := 4, pos := "laws.go:147", after := #[{ on := 14, ground := Go.Ground.data }, { on := 13, ground := Go.Ground.chain }, { on := 10, ground := Go.Ground.guard }], guard := some (10, true) }) (v := undef) rfl (by kernel_rfl) (by kernel_rfl) (by kernel_rfl) (fun _ _ _ h => h) (Or.inr ⟨by rfl, rfl⟩) (by assumption) ?_
          (try simp only [Act.put, List.setIfInBounds_toArray, List.set_cons_zero, List.set_cons_succ])
          refine wpAnyH_take (i := 16) (oi := { dst := some 44, op := Go.Op.fieldAddr 35 (Go.Operand.tmp 8) 2, type := 0, pos := "laws.go:147", after := #[{ on := 15, ground := Go.Ground.guard }], guard := some (15, false) }) (v := undef) rfl (by kernel_rfl) (by kernel_rfl) (by kernel_rfl) (fun _ _ _ h => h) (Or.inr ⟨by rfl, rfl⟩) (by assumption) ?_
          (try simp only [Act.put, List.setIfInBounds_toArray, List.set_cons_zero, List.set_cons_succ])
          refine wpAnyH_take (i := 17) (oi := { dst := some 45, op := Go.Op.fieldAddr 29 (Go.Operand.tmp 44) 1, type := 0, pos := "laws.go:147", after := #[{ on := 16, ground := Go.Ground.data }, { on := 15, ground := Go.Ground.guard }], guard := some (15, false) }) (v := undef) rfl (by kernel_rfl) (by kernel_rfl) (by kernel_rfl) (fun _ _ _ h => h) (Or.inr ⟨by rfl, rfl⟩) (by assumption) ?_
          (try simp only [Act.put, List.setIfInBounds_toArray, List.set_cons_zero, List.set_cons_succ])
          refine wpAnyH_take (i := 18) (oi := { dst := some 46, op := Go.Op.load 27 (Go.Operand.tmp 45), type := 27, pos := "laws.go:147", after := #[{ on := 17, ground := Go.Ground.data }, { on := 15, ground := Go.Ground.guard }], guard := some (15, false) }) (v := undef) rfl (by kernel_rfl) (by kernel_rfl) (by kernel_rfl) (fun _ _ _ h => h) (Or.inr ⟨by rfl, rfl⟩) (by assumption) ?_
          (try simp only [Act.put, List.setIfInBounds_toArray, List.set_cons_zero, List.set_cons_succ])
          refine wpAnyH_take (i := 19) (oi := { dst := some 47, op := Go.Op.call { callee := Go.Callee.builtin Go.Builtin.len, args := #[Go.Operand.tmp 46], argTypes := #[27] }, type := 3, pos := "laws.go:147", after := #[{ on := 18, ground := Go.Ground.data }, { on := 15, ground := Go.Ground.guard }], guard := some (15, false) }) (v := undef) rfl (by kernel_rfl) (by kernel_rfl) (by kernel_rfl) (fun _ _ _ h => h) (Or.inr ⟨by rfl, rfl⟩) (by assumption) ?_
          (try simp only [Act.put, List.setIfInBounds_toArray, List.set_cons_zero, List.set_cons_succ])
          refine wpAnyH_take (i := 20) (oi := { dst := some 48, op := Go.Op.fieldAddr 29 (Go.Operand.tmp 7) 1, type := 0, pos := "laws.go:147", after := #[{ on := 15, ground := Go.Ground.guard }], guard := some (15, false) }) (v := undef) rfl (by kernel_rfl) (by kernel_rfl) (by kernel_rfl) (fun _ _ _ h => h) (Or.inr ⟨by rfl, rfl⟩) (by assumption) ?_
          (try simp only [Act.put, List.setIfInBounds_toArray, List.set_cons_zero, List.set_cons_succ])
          refine wpAnyH_take (i := 21) (oi := { dst := some 49, op := Go.Op.load 27 (Go.Operand.tmp 48), type := 27, pos := "laws.go:147", after := #[{ on := 20, ground := Go.Ground.data }, { on := 15, ground := Go.Ground.guard }], guard := some (15, false) }) (v := undef) rfl (by kernel_rfl) (by kernel_rfl) (by kernel_rfl) (fun _ _ _ h => h) (Or.inr ⟨by rfl, rfl⟩) (by assumption) ?_
          (try simp only [Act.put, List.setIfInBounds_toArray, List.set_cons_zero, List.set_cons_succ])
          refine wpAnyH_take (i := 22) (oi := { dst := some 50, op := Go.Op.call { callee := Go.Callee.builtin Go.Builtin.len, args := #[Go.Operand.tmp 49], argTypes := #[27] }, type := 3, pos := "laws.go:147", after := #[{ on := 21, ground := Go.Ground.data }, { on := 15, ground := Go.Ground.guard }], guard := some (15, false) }) (v := undef) rfl (by kernel_rfl) (by kernel_rfl) (by kernel_rfl) (fun _ _ _ h => h) (Or.inr ⟨by rfl, rfl⟩) (by assumption) ?_
          (try simp only [Act.put, List.setIfInBounds_toArray, List.set_cons_zero, List.set_cons_succ])
          refine wpAnyH_take (i := 23) (oi := { dst := some 51, op := Go.Op.binOp Go.BinOp.sub 3 (Go.Operand.tmp 50) (Go.Operand.const (Go.Value.int Go.IntKind.i64 1)) 3, type := 3, pos := "laws.go:147", after := #[{ on := 22, ground := Go.Ground.data }, { on := 15, ground := Go.Ground.guard }], guard := some (15, false) }) (v := undef) rfl (by kernel_rfl) (by kernel_rfl) (by kernel_rfl) (fun _ _ _ h => h) (Or.inr ⟨by rfl, rfl⟩) (by assumption) ?_
          (try simp only [Act.put, List.setIfInBounds_toArray, List.set_cons_zero, List.set_cons_succ])
          refine wpAnyH_take (i := 24) (oi := { dst := some 52, op := Go.Op.binOp Go.BinOp.neq 3 (Go.Operand.tmp 47) (Go.Operand.tmp 51) 3, type := 4, pos := "laws.go:147", after := #[{ on := 19, ground := Go.Ground.data }, { on := 23, ground := Go.Ground.data }, { on := 15, ground := Go.Ground.guard }], guard := some (15, false) }) (v := undef) rfl (by kernel_rfl) (by kernel_rfl) (by kernel_rfl) (fun _ _ _ h => h) (Or.inr ⟨by rfl, rfl⟩) (by assumption) ?_
          (try simp only [Act.put, List.setIfInBounds_toArray, List.set_cons_zero, List.set_cons_succ])
          refine wpAnyH_take (i := 25) (oi := { dst := some 53, op := Go.Op.pick (Go.Operand.tmp 43) (Go.Operand.const (Go.Value.bool true)) (Go.Operand.tmp 52), type := 4, pos := "laws.go:147", after := #[{ on := 15, ground := Go.Ground.data }, { on := 24, ground := Go.Ground.data }, { on := 10, ground := Go.Ground.guard }], guard := some (10, true) }) (v := undef) rfl (by kernel_rfl) (by kernel_rfl) (by kernel_rfl) (fun _ _ _ h => h) (Or.inr ⟨by rfl, rfl⟩) (by assumption) ?_
          (try simp only [Act.put, List.setIfInBounds_toArray, List.set_cons_zero, List.set_cons_succ])
          refine wpAnyH_take (i := 26) (oi := { dst := some 54, op := Go.Op.pick (Go.Operand.tmp 38) (Go.Operand.tmp 53) (Go.Operand.const (Go.Value.bool false)), type := 4, pos := "laws.go:147", after := #[{ on := 10, ground := Go.Ground.data }, { on := 25, ground := Go.Ground.data }, { on := 6, ground := Go.Ground.guard }], guard := some (6, false) }) (v := ?_) rfl (by kernel_rfl) (by kernel_rfl) (by kernel_rfl) (fun _ _ _ h => h) (Or.inl ⟨by rfl, ?_⟩) (by assumption) ?_
          rotate_left
          · (intro w hSw; (try dsimp only at hSw); go_simp; (try with_reducible rfl))
          (try simp only [Act.put, List.setIfInBounds_toArray, List.set_cons_zero, List.set_cons_succ])
          refine wpAnyH_take (i := 27) (oi := { dst := some 55, op := Go.Op.pick (Go.Operand.tmp 34) (Go.Operand.const (Go.Value.bool true)) (Go.Operand.tmp 54), type := 4, pos := "laws.go:147", after := #[{ on := 6, ground := Go.Ground.data }, { on := 26, ground := Go.Ground.data }], guard := none }) (v := ?_) rfl (by kernel_rfl) (by kernel_rfl) (by kernel_rfl) (fun _ _ _ h => h) (Or.inl ⟨by rfl, ?_⟩) (by assumption) ?_
          rotate_left
          · (intro w hSw; (try dsimp only at hSw); go_simp; (try with_reducible rfl))
          (try simp only [Act.put, List.setIfInBounds_toArray, List.set_cons_zero, List.set_cons_succ])
          refine wpAnyH_take (i := 28) (oi := { dst := some 56, op := Go.Op.move (Go.Operand.tmp 55), type := 4, pos := "laws.go:147", after := #[{ on := 27, ground := Go.Ground.data }, { on := 15, ground := Go.Ground.chain }], guard := none }) (v := ?_) rfl (by kernel_rfl) (by kernel_rfl) (by kernel_rfl) (fun _ _ _ h => h) (Or.inl ⟨by rfl, ?_⟩) (by assumption) ?_
          rotate_left
          · (intro w hSw; (try dsimp only at hSw); go_simp; (try with_reducible rfl))
          (try simp only [Act.put, List.setIfInBounds_toArray, List.set_cons_zero, List.set_cons_succ])
          refine wpAnyH_take (i := 29) (oi := { dst := some 57, op := Go.Op.fieldAddr 35 (Go.Operand.tmp 6) 0, type := 0, pos := "laws.go:147", after := #[{ on := 28, ground := Go.Ground.guard }], guard := some (28, false) }) (v := ?_) rfl (by kernel_rfl) (by kernel_rfl) (by kernel_rfl) (fun _ _ _ h => h) (Or.inl ⟨by rfl, ?_⟩) (by assumption) ?_
          rotate_left
          · (intro w hSw; (try dsimp only at hSw); go_simp; (try with_reducible rfl))
          (try simp only [Act.put, List.setIfInBounds_toArray, List.set_cons_zero, List.set_cons_succ])
          refine wpAnyH_take (i := 30) (oi := { dst := some 58, op := Go.Op.load 2 (Go.Operand.tmp 57), type := 2, pos := "laws.go:147", after := #[{ on := 29, ground := Go.Ground.data }, { on := 28, ground := Go.Ground.guard }], guard := some (28, false) }) (v := ?_) rfl (by kernel_rfl) (by kernel_rfl) (by kernel_rfl) (fun _ _ _ h => h) (Or.inl ⟨by rfl, ?_⟩) (by assumption) ?_
          rotate_left
          · (intro w hSw; (try dsimp only at hSw); go_simp; (try with_reducible rfl))
          (try simp only [Act.put, List.setIfInBounds_toArray, List.set_cons_zero, List.set_cons_succ])
          refine wpAnyH_take (i := 31) (oi := { dst := some 59, op := Go.Op.load 29 (Go.Operand.tmp 3), type := 29, pos := "laws.go:147", after := #[{ on := 28, ground := Go.Ground.guard }], guard := some (28, false) }) (v := ?_) rfl (by kernel_rfl) (by kernel_rfl) (by kernel_rfl) (fun _ _ _ h => h) (Or.inl ⟨by rfl, ?_⟩) (by assumption) ?_
          rotate_left
          · (intro w hSw; (try dsimp only at hSw); go_simp; (try with_reducible rfl))
          (try simp only [Act.put, List.setIfInBounds_toArray, List.set_cons_zero, List.set_cons_succ])
          refine wpAnyH_take (i := 32) (oi := { dst := some 60, op := Go.Op.load 31 (Go.Operand.tmp 4), type := 31, pos := "laws.go:147", after := #[{ on := 28, ground := Go.Ground.guard }], guard := some (28, false) }) (v := ?_) rfl (by kernel_rfl) (by kernel_rfl) (by kernel_rfl) (fun _ _ _ h => h) (Or.inl ⟨by rfl, ?_⟩) (by assumption) ?_
          rotate_left
          · (intro w hSw; (try dsimp only at hSw); go_simp; (try with_reducible rfl))
          (try simp only [Act.put, List.setIfInBounds_toArray, List.set_cons_zero, List.set_cons_succ])
          refine wpAnyH_ready (rs := [33]) (by kernel_rfl) (by simp) ?_
          refine AllReadyH.cons (o := { dst := some 61, op := Go.Op.call { callee := Go.Callee.value (Go.Operand.func 14), args := #[Go.Operand.tmp 59, Go.Operand.tmp 60], argTypes := #[29, 31] }, type := 35, pos := "laws.go:147", after := #[{ on := 31, ground := Go.Ground.data }, { on := 32, ground := Go.Ground.data }, { on := 28, ground := Go.Ground.chain }, { on := 28, ground := Go.Ground.guard }], guard := some (28, false) }) rfl (fun K hK => ?_) AllReadyH.nil
          go_simp
          go_wp2_with (go_at_call 14; (with_reducible refine (specAddDomainW_calls t1a t1n t1c ss t2a t2n t2c ts t3a t3n t3c ds la ll lc lv _ ?_ hllm ?_).mono ?_); exact HTS.out.below (q16_bel (by with_reducible assumption)) (Nat.le_refl _); exact HLS.out.below (q16_bel (by with_reducible assumption)) (Nat.le_refl _); rintro e y1 ⟨_, _, _, _, _, _, _, _, _, rfl, _, ga⟩; have hs1 := q16_below lt0 lt1 lt2 lt3 lt4 lt5 lt6 lt7 lt8 lt9 lt10 lt11 lt12 lt13 lt14 lt15 (by with_reducible assumption) ga; clear ga)
          refine hK.out _ _ hs1 (fun hHeld => ?_)
          clear hK K
          (try simp only [Act.put, List.setIfInBounds_toArray, List.set_cons_zero, List.set_cons_succ])
          refine wpAnyH_take (i := 34) (oi := { dst := some 62, op := Go.Op.field 35 (Go.Operand.tmp 61) 0, type := 2, pos := "laws.go:147", after := #[{ on := 33, ground := Go.Ground.data }, { on := 28, ground := Go.Ground.guard }], guard := some (28, false) }) (v := ?_) rfl (by kernel_rfl) (by kernel_rfl) (by kernel_rfl) (fun _ _ _ h => h) (Or.inl ⟨by rfl, ?_⟩) (by assumption) ?_
          rotate_left
          · (intro w hSw; (try dsimp only at hSw); go_simp; (try with_reducible rfl))
          (try simp only [Act.put, List.setIfInBounds_toArray, List.set_cons_zero, List.set_cons_succ])
          refine wpAnyH_take (i := 35) (oi := { dst := some 63, op := Go.Op.binOp Go.BinOp.neq 2 (Go.Operand.tmp 58) (Go.Operand.tmp 62) 2, type := 4, pos := "laws.go:147", after := #[{ on := 30, ground := Go.Ground.data }, { on := 34, ground := Go.Ground.data }, { on := 28, ground := Go.Ground.guard }], guard := some (28, false) }) (v := ?_) rfl (by kernel_rfl) (by kernel_rfl) (by kernel_rfl) (fun _ _ _ h => h) (Or.inl ⟨by rfl, ?_⟩) (by assumption) ?_
          rotate_left
          · (intro w hSw; (try dsimp only at hSw); go_simp; (try with_reducible rfl))
          (try simp only [Act.put, List.setIfInBounds_toArray, List.set_cons_zero, List.set_cons_succ])
          refine wpAnyH_take (i := 36) (oi := { dst := some 64, op := Go.Op.pick (Go.Operand.tmp 56) (Go.Operand.const (Go.Value.bool true)) (Go.Operand.tmp 63), type := 4, pos := "laws.go:147", after := #[{ on := 28, ground := Go.Ground.data }, { on := 35, ground := Go.Ground.data }], guard := none }) (v := ?_) rfl (by kernel_rfl) (by kernel_rfl) (by kernel_rfl) (fun _ _ _ h => h) (Or.inl ⟨by rfl, ?_⟩) (by assumption) ?_
          rotate_left
          · (intro w hSw; (try dsimp only at hSw); go_simp; (try with_reducible rfl))
          (try simp only [Act.put, List.setIfInBounds_toArray, List.set_cons_zero, List.set_cons_succ])
          refine wpAnyH_take (i := 37) (oi := { dst := some 65, op := Go.Op.move (Go.Operand.tmp 64), type := 4, pos := "laws.go:147", after := #[{ on := 36, ground := Go.Ground.data }, { on := 33, ground := Go.Ground.chain }], guard := none }) (v := ?_) rfl (by kernel_rfl) (by kernel_rfl) (by kernel_rfl) (fun _ _ _ h => h) (Or.inl ⟨by rfl, ?_⟩) (by assumption) ?_
          rotate_left
          · (intro w hSw; (try dsimp only at hSw); go_simp; (try with_reducible rfl))
          (try simp only [Act.put, List.setIfInBounds_toArray, List.set_cons_zero, List.set_cons_succ])
          refine wpAnyH_take (i := 38) (oi := { dst := some 66, op := Go.Op.fieldAddr 35 (Go.Operand.tmp 6) 0, type := 0, pos := "laws.go:147", after := #[{ on := 37, ground := Go.Ground.guard }], guard := some (37, false) }) (v := ?_) rfl (by kernel_rfl) (by kernel_rfl) (by kernel_rfl) (fun _ _ _ h => h) (Or.inl ⟨by rfl, ?_⟩) (by assumption) ?_
          rotate_left
          · (intro w hSw; (try dsimp only at hSw); go_simp; (try with_reducible rfl))
          (try simp only [Act.put, List.setIfInBounds_toArray, List.set_cons_zero, List.set_cons_succ])
          refine wpAnyH_take (i := 39) (oi := { dst := some 67, op := Go.Op.load 2 (Go.Operand.tmp 66), type := 2, pos := "laws.go:147", after := #[{ on := 38, ground := Go.Ground.data }, { on := 37, ground := Go.Ground.guard }], guard := some (37, false) }) (v := ?_) rfl (by kernel_rfl) (by kernel_rfl) (by kernel_rfl) (fun _ _ _ h => h) (Or.inl ⟨by rfl, ?_⟩) (by assumption) ?_
          rotate_left
          · (intro w hSw; (try dsimp only at hSw); go_simp; (try with_reducible rfl))
          (try simp only [Act.put, List.setIfInBounds_toArray, List.set_cons_zero, List.set_cons_succ])
          refine wpAnyH_take (i := 40) (oi := { dst := some 68, op := Go.Op.binOp Go.BinOp.eql 2 (Go.Operand.tmp 67) (Go.Operand.const (Go.Value.int Go.IntKind.i64 0)) 2, type := 4, pos := "laws.go:147", after := #[{ on := 39, ground := Go.Ground.data }, { on := 37, ground := Go.Ground.guard }], guard := some (37, false) }) (v := ?_) rfl (by kernel_rfl) (by kernel_rfl) (by kernel_rfl) (fun _ _ _ h => h) (Or.inl ⟨by rfl, ?_⟩) (by assumption) ?_
          rotate_left
          · (intro w hSw; (try dsimp only at hSw); go_simp; (try with_reducible rfl))
          (try simp only [Act.put, List.setIfInBounds_toArray, List.set_cons_zero, List.set_cons_succ])
          refine wpAnyH_take (i := 41) (oi := { dst := some 69, op := Go.Op.move (Go.Operand.tmp 68), type := 4, pos := "laws.go:147", after := #[{ on := 40, ground := Go.Ground.data }, { on := 37, ground := Go.Ground.chain }, { on := 37, ground := Go.Ground.guard }], guard := some (37, false) }) (v := ?_) rfl (by kernel_rfl) (by kernel_rfl) (by kernel_rfl) (fun _ _ _ h => h) (Or.inl ⟨by rfl, ?_⟩) (by assumption) ?_
          rotate_left
          · (intro w hSw; (try dsimp only at hSw); go_simp; (try with_reducible rfl))
          (try simp only [Act.put, List.setIfInBounds_toArray, List.set_cons_zero, List.set_cons_succ])
          refine wpAnyH_take (i := 42) (oi := { dst := some 70, op := Go.Op.fieldAddr 35 (Go.Operand.tmp 6) 2, type := 0, pos := "laws.go:147", after := #[{ on := 41, ground := Go.Ground.guard }], guard := some (41, true) }) (v := undef) rfl (by kernel_rfl) (by kernel_rfl) (by kernel_rfl) (fun _ _ _ h => h) (Or.inr ⟨by rfl, rfl⟩) (by assumption) ?_
          (try simp only [Act.put, List.setIfInBounds_toArray, List.set_cons_zero, List.set_cons_succ])
          refine wpAnyH_take (i := 43) (oi := { dst := some 71, op := Go.Op.load 29 (Go.Operand.tmp 70), type := 29, pos := "laws.go:147", after := #[{ on := 42, ground := Go.Ground.data }, { on := 41, ground := Go.Ground.guard }], guard := some (41, true) }) (v := undef) rfl (by kernel_rfl) (by kernel_rfl) (by kernel_rfl) (fun _ _ _ h => h) (Or.inr ⟨by rfl, rfl⟩) (by assumption) ?_
          (try simp only [Act.put, List.setIfInBounds_toArray, List.set_cons_zero, List.set_cons_succ])
          refine wpAnyH_take (i := 44) (oi := { dst := some 72, op := Go.Op.call { callee := Go.Callee.value (Go.Operand.func 13), args := #[Go.Operand.tmp 71], argTypes := #[29] }, type := 2, pos := "laws.go:147", after := #[{ on := 43, ground := Go.Ground.data }, { on := 41, ground := Go.Ground.chain }, { on := 41, ground := Go.Ground.guard }], guard := some (41, true) }) (v := undef) rfl (by kernel_rfl) (by kernel_rfl) (by kernel_rfl) (fun _ _ _ h => h) (Or.inr ⟨by rfl, rfl⟩) (by assumption) ?_
          (try simp only [Act.put, List.setIfInBounds_toArray, List.set_cons_zero, List.set_cons_succ])
          refine wpAnyH_take (i := 45) (oi := { dst := some 73, op := Go.Op.binOp Go.BinOp.neq 2 (Go.Operand.tmp 72) (Go.Operand.const (Go.Value.int Go.IntKind.i64 0)) 2, type := 4, pos := "laws.go:147", after := #[{ on := 44, ground := Go.Ground.data }, { on := 41, ground := Go.Ground.guard }], guard := some (41, true) }) (v := undef) rfl (by kernel_rfl) (by kernel_rfl) (by kernel_rfl) (fun _ _ _ h => h) (Or.inr ⟨by rfl, rfl⟩) (by assumption) ?_
          (try simp only [Act.put, List.setIfInBounds_toArray, List.set_cons_zero, List.set_cons_succ])
          refine wpAnyH_take (i := 46) (oi := { dst := some 74, op := Go.Op.move (Go.Operand.tmp 73), type := 4, pos := "laws.go:147", after := #[{ on := 45, ground := Go.Ground.data }, { on := 44, ground := Go.Ground.chain }, { on := 41, ground := Go.Ground.guard }], guard := some (41, true) }) (v := undef) rfl (by kernel_rfl) (by kernel_rfl) (by kernel_rfl) (fun _ _ _ h => h) (Or.inr ⟨by rfl, rfl⟩) (by assumption) ?_
          (try simp only [Act.put, List.setIfInBounds_toArray, List.set_cons_zero, List.set_cons_succ])
          refine wpAnyH_take (i := 47) (oi := { dst := some 75, op := Go.Op.fieldAddr 35 (Go.Operand.tmp 6) 2, type := 0, pos := "laws.go:147", after := #[{ on := 46, ground := Go.Ground.guard }], guard := some (46, false) }) (v := undef) rfl (by kernel_rfl) (by kernel_rfl) (by kernel_rfl) (fun _ _ _ h => h) (Or.inr ⟨by rfl, rfl⟩) (by assumption) ?_
          (try simp only [Act.put, List.setIfInBounds_toArray, List.set_cons_zero, List.set_cons_succ])
          refine wpAnyH_take (i := 48) (oi := { dst := some 76, op := Go.Op.load 29 (Go.Operand.tmp 75), type := 29, pos := "laws.go:147", after := #[{ on := 47, ground := Go.Ground.data }, { on := 46, ground := Go.Ground.guard }], guard := some (46, false) }) (v := undef) rfl (by kernel_rfl) (by kernel_rfl) (by kernel_rfl) (fun _ _ _ h => h) (Or.inr ⟨by rfl, rfl⟩) (by assumption) ?_
          (try simp only [Act.put, List.setIfInBounds_toArray, List.set_cons_zero, List.set_cons_succ])
          refine wpAnyH_take (i := 49) (oi := { dst := some 77, op := Go.Op.fieldAddr 35 (Go.Operand.tmp 6) 1, type := 0, pos := "laws.go:147", after := #[{ on := 46, ground := Go.Ground.guard }], guard := some (46, false) }) (v := undef) rfl (by kernel_rfl) (by kernel_rfl) (by kernel_rfl) (fun _ _ _ h => h) (Or.inr ⟨by rfl, rfl⟩) (by assumption) ?_
          (try simp only [Act.put, List.setIfInBounds_toArray, List.set_cons_zero, List.set_cons_succ])
          refine wpAnyH_take (i := 50) (oi := { dst := some 78, op := Go.Op.load 2 (Go.Operand.tmp 77), type := 2, pos := "laws.go:147", after := #[{ on := 49, ground := Go.Ground.data }, { on := 46, ground := Go.Ground.guard }], guard := some (46, false) }) (v := undef) rfl (by kernel_rfl) (by kernel_rfl) (by kernel_rfl) (fun _ _ _ h => h) (Or.inr ⟨by rfl, rfl⟩) (by assumption) ?_
          (try simp only [Act.put, List.setIfInBounds_toArray, List.set_cons_zero, List.set_cons_succ])
          refine wpAnyH_take (i := 51) (oi := { dst := some 79, op := Go.Op.call { callee := Go.Callee.value (Go.Operand.func 16), args := #[Go.Operand.tmp 76, Go.Operand.tmp 78], argTypes := #[29, 2] }, type := 42, pos := "laws.go:147", after := #[{ on := 48, ground := Go.Ground.data }, { on := 50, ground := Go.Ground.data }, { on := 46, ground := Go.Ground.chain }, { on := 46, ground := Go.Ground.guard }], guard := some (46, false) }) (v := undef) rfl (by kernel_rfl) (by kernel_rfl) (by kernel_rfl) (fun _ _ _ h => h) (Or.inr ⟨by rfl, rfl⟩) (by assumption) ?_
          (try simp only [Act.put, List.setIfInBounds_toArray, List.set_cons_zero, List.set_cons_succ])
          refine wpAnyH_take (i := 52) (oi := { dst := some 80, op := Go.Op.field 42 (Go.Operand.tmp 79) 1, type := 31, pos := "laws.go:147", after := #[{ on := 51, ground := Go.Ground.data }, { on := 46, ground := Go.Ground.guard }], guard := some (46, false) }) (v := undef) rfl (by kernel_rfl) (by kernel_rfl) (by kernel_rfl) (fun _ _ _ h => h) (Or.inr ⟨by rfl, rfl⟩) (by assumption) ?_
          (try simp only [Act.put, List.setIfInBounds_toArray, List.set_cons_zero, List.set_cons_succ])
          refine wpAnyH_take (i := 53) (oi := { dst := some 81, op := Go.Op.field 31 (Go.Operand.tmp 80) 0, type := 27, pos := "laws.go:147", after := #[{ on := 52, ground := Go.Ground.data }, { on := 46, ground := Go.Ground.guard }], guard := some (46, false) }) (v := undef) rfl (by kernel_rfl) (by kernel_rfl) (by kernel_rfl) (fun _ _ _ h => h) (Or.inr ⟨by rfl, rfl⟩) (by assumption) ?_
          (try simp only [Act.put, List.setIfInBounds_toArray, List.set_cons_zero, List.set_cons_succ])
          refine wpAnyH_take (i := 54) (oi := { dst := some 82, op := Go.Op.fieldAddr 31 (Go.Operand.tmp 4) 0, type := 0, pos := "laws.go:147", after := #[{ on := 46, ground := Go.Ground.guard }], guard := some (46, false) }) (v := undef) rfl (by kernel_rfl) (by kernel_rfl) (by kernel_rfl) (fun _ _ _ h => h) (Or.inr ⟨by rfl, rfl⟩) (by assumption) ?_
          (try simp only [Act.put, List.setIfInBounds_toArray, List.set_cons_zero, List.set_cons_succ])
          refine wpAnyH_take (i := 55) (oi := { dst := some 83, op := Go.Op.load 27 (Go.Operand.tmp 82), type := 27, pos := "laws.go:147", after := #[{ on := 54, ground := Go.Ground.data }, { on := 46, ground := Go.Ground.guard }], guard := some (46, false) }) (v := undef) rfl (by kernel_rfl) (by kernel_rfl) (by kernel_rfl) (fun _ _ _ h => h) (Or.inr ⟨by rfl, rfl⟩) (by assumption) ?_
          (try simp only [Act.put, List.setIfInBounds_toArray, List.set_cons_zero, List.set_cons_succ])
          refine wpAnyH_take (i := 56) (oi := { dst := some 84, op := Go.Op.call { callee := Go.Callee.value (Go.Operand.func 15), args := #[Go.Operand.tmp 81, Go.Operand.tmp 83], argTypes := #[27, 27] }, type := 4, pos := "laws.go:147", after := #[{ on := 53, ground := Go.Ground.data }, { on := 55, ground := Go.Ground.data }, { on := 51, ground := Go.Ground.chain }, { on := 46, ground := Go.Ground.guard }], guard := some (46, false) }) (v := undef) rfl (by kernel_rfl) (by kernel_rfl) (by kernel_rfl) (fun _ _ _ h => h) (Or.inr ⟨by rfl, rfl⟩) (by assumption) ?_
          (try simp only [Act.put, List.setIfInBounds_toArray, List.set_cons_zero, List.set_cons_succ])
          refine wpAnyH_take (i := 57) (oi := { dst := some 85, op := Go.Op.unOp Go.UnOp.not 4 (Go.Operand.tmp 84), type := 4, pos := "laws.go:147", after := #[{ on := 56, ground := Go.Ground.data }, { on := 46, ground := Go.Ground.guard }], guard := some (46, false) }) (v := undef) rfl (by kernel_rfl) (by kernel_rfl) (by kernel_rfl) (fun _ _ _ h => h) (Or.inr ⟨by rfl, rfl⟩) (by assumption) ?_
          (try simp only [Act.put, List.setIfInBounds_toArray, List.set_cons_zero, List.set_cons_succ])
          refine wpAnyH_take (i := 58) (oi := { dst := some 86, op := Go.Op.pick (Go.Operand.tmp 74) (Go.Operand.const (Go.Value.bool true)) (Go.Operand.tmp 85), type := 4, pos := "laws.go:147", after := #[{ on := 46, ground := Go.Ground.data }, { on := 57, ground := Go.Ground.data }, { on := 41, ground := Go.Ground.guard }], guard := some (41, true) }) (v := undef) rfl (by kernel_rfl) (by kernel_rfl) (by kernel_rfl) (fun _ _ _ h => h) (Or.inr ⟨by rfl, rfl⟩) (by assumption) ?_
          (try simp only [Act.put, List.setIfInBounds_toArray, List.set_cons_zero, List.set_cons_succ])
          refine wpAnyH_take (i := 59) (oi := { dst := some 87, op := Go.Op.pick (Go.Operand.tmp 69) (Go.Operand.tmp 86) (Go.Operand.const (Go.Value.bool false)), type := 4, pos := "laws.go:147", after := #[{ on := 41, ground := Go.Ground.data }, { on := 58, ground := Go.Ground.data }, { on := 37, ground := Go.Ground.guard }], guard := some (37, false) }) (v := ?_) rfl (by kernel_rfl) (by kernel_rfl) (by kernel_rfl) (fun _ _ _ h => h) (Or.inl ⟨by rfl, ?_⟩) (by assumption) ?_
          rotate_left
          · (intro w hSw; (try dsimp only at hSw); go_simp; (try with_reducible rfl))
          (try simp only [Act.put, List.setIfInBounds_toArray, List.set_cons_zero, List.set_cons_succ])
          refine wpAnyH_take (i := 60) (oi := { dst := some 88, op := Go.Op.pick (Go.Operand.tmp 65) (Go.Operand.const (Go.Value.bool true)) (Go.Operand.tmp 87), type := 4, pos := "laws.go:147", after := #[{ on := 37, ground := Go.Ground.data }, { on := 59, ground := Go.Ground.data }], guard := none }) (v := ?_) rfl (by kernel_rfl) (by kernel_rfl) (by kernel_rfl) (fun _ _ _ h => h) (Or.inl ⟨by rfl, ?_⟩) (by assumption) ?_
          rotate_left
          · (intro w hSw; (try dsimp only at hSw); go_simp; (try with_reducible rfl))
          (try simp only [Act.put, List.setIfInBounds_toArray, List.set_cons_zero, List.set_cons_succ])
          refine wpAnyH_done (by kernel_rfl) ?_ _
          go_wp2_with fail
          go_meet
          exact ⟨rfl, q16_bel hs1⟩
  case rest =>
    obtain ⟨rfl, gc8⟩ := hcut
    obtain ⟨w6, rfl⟩ : ∃ x, x = wc := ⟨wc, rfl⟩
    have M6 := (HM.out.below gc8).sub (cs' := [(w2.heap.size, 0, .int .i64 (agC ss ts ds lv)), (w2.heap.size, 1, .int .i64 (agV ss ts ds lv)), (w2.heap.size, 2, .slice e1a e1n e1c), (w2.heap.size, 3, .slice e2a e2n e2c), (w2.heap.size, 4, .slice e3a e3n e3c), (w1.heap.size + 1, 0, .slice la ll lc), (w1.heap.size, 0, .slice t1a t1n t1c), (w1.heap.size, 1, .slice t2a t2n t2c), (w1.heap.size, 2, .slice t3a t3n t3c)]) (fs' := [(w1.heap.size + 1 + 1, w2.heap.size, OT (InR (w1.heap.size + 1 + 1) w2.heap.size) e1a e1n (agS ss ts ds lv) e2a e2n (agT ss ts ds lv) e3a e3n (agD ss ts ds lv)), (w.heap.size, w1.heap.size, FrS (InR w.heap.size w1.heap.size) la ll lv), (w.heap.size, w1.heap.size, TbS (InR w.heap.size w1.heap.size) t1a t1n ss t2a t2n ts t3a t3n ds)]) (fun c h => List.mem_of_mem_drop (i := 13) h) (fun f h => List.mem_of_mem_drop (i := 3) h)
    clear gc8 HM HS0 lt0 lt1 lt2 lt3 lt4 lt5 lt6 lt7 lt8 lt9 lt10 lt11 lt12 lt13 lt14 lt15 HPS HXS HDS HLS HTS HW e1 e2 Hyl Hpl Hym
    have v0 := M6.cell 0 rfl
    by_cases hf : agC ss ts ds lv = 0
    rotate_left
    · have ef : (agC ss ts ds lv != 0) = true := by simpa using hf
      have eA : (agC ss ts ds lv == agC ss ts ds lv) = true := by simp
      have eB : (tabF ss ts ds == tabF ss ts ds) = true := by simp
      clear hf
      as_aux_lemma =>
        have lt0 : (Addr.mk (w2.heap.size) 0 none).block < w6.heap.size := M6.lt 0 rfl
        have lt1 : (Addr.mk (w1.heap.size + 1) 0 none).block < w6.heap.size := M6.lt 5 rfl
        have lt2 : (Addr.mk (w1.heap.size) 0 none).block < w6.heap.size := M6.lt 6 rfl
        have lt3 : (Addr.mk (w1.heap.size) 1 none).block < w6.heap.size := M6.lt 7 rfl
        have lt4 : (Addr.mk (w1.heap.size) 2 none).block < w6.heap.size := M6.lt 8 rfl
        have HM := hide M6
        have HLS := hide ((M6.get 1 rfl).sl)
        have HTS := hide ((M6.get 2 rfl).rt)
        have HS0 : Hid (w6.drew.cell? ⟨w2.heap.size, 0, none⟩ = some (.int .i64 (agC ss ts ds lv)) ∧ w6.drew.cell? ⟨w1.heap.size + 1, 0, none⟩ = some (.slice la ll lc) ∧ w6.drew.cell? ⟨w1.heap.size, 0, none⟩ = some (.slice t1a t1n t1c) ∧ w6.drew.cell? ⟨w1.heap.size, 1, none⟩ = some (.slice t2a t2n t2c) ∧ w6.drew.cell? ⟨w1.heap.size, 2, none⟩ = some (.slice t3a t3n t3c) ∧ Below w6.heap.size w6 w6.drew) := ⟨M6.cell 0 rfl, M6.cell 5 rfl, M6.cell 6 rfl, M6.cell 7 rfl, M6.cell 8 rfl, (Below.refl _ _).drew⟩
        clear M6
        go_upto_region 11 with fail
        clear v0
        go_region_held2 (fun w' => w'.cell? ⟨w2.heap.size, 0, none⟩ = some (.int .i64 (agC ss ts ds lv)) ∧ w'.cell? ⟨w1.heap.size + 1, 0, none⟩ = some (.slice la ll lc) ∧ w'.cell? ⟨w1.heap.size, 0, none⟩ = some (.slice t1a t1n t1c) ∧ w'.cell? ⟨w1.heap.size, 1, none⟩ = some (.slice t2a t2n t2c) ∧ w'.cell? ⟨w1.heap.size, 2, none⟩ = some (.slice t3a t3n t3c) ∧ Below w6.heap.size w6 w')
          (first | with_reducible exact HS0.out | with_reducible assumption)
          (first
            | (go_at_call 17; (with_reducible refine (specAddTagW_calls t1a t1n t1c ss t2a t2n t2c ts t3a t3n t3c ds la ll lc lv _ ?_ hllm ?_).mono ?_); exact HTS.out.below (q5_bel (by with_reducible assumption)) (Nat.le_refl _); exact HLS.out.below (q5_bel (by with_reducible assumption)) (Nat.le_refl _); rintro e y1 ⟨_, _, _, _, _, _, _, _, _, rfl, _, ga⟩; have hs1 := q5_below lt0 lt1 lt2 lt3 lt4 (by with_reducible assumption) ga; clear ga)
            | (go_at_call 13; (with_reducible refine (implTablesFault_calls t1a t1n t1c ss t2a t2n t2c ts t3a t3n t3c ds _ ?_).mono ?_); exact HTS.out.below (q5_bel (by with_reducible assumption)) (Nat.le_refl _); rintro e y1 ⟨rfl, ga⟩; have hs1 := q5_below lt0 lt1 lt2 lt3 lt4 (by with_reducible assumption) ga; clear ga)
            | (go_at_call 18; (with_reducible refine (specTablesFault_calls t1a t1n t1c ss t2a t2n t2c ts t3a t3n t3c ds _ ?_).mono ?_); exact HTS.out.below (q5_bel (by with_reducible assumption)) (Nat.le_refl _); rintro e y1 ⟨rfl, ga⟩; have hs1 := q5_below lt0 lt1 lt2 lt3 lt4 (by with_reducible assumption) ga; clear ga))
        have HE := hide (HM.out.below (q5_bel hs1)).bel
        clear hs1 HS0 HM
        go_wp2
        go_ret
        exact ⟨rfl, HE.out⟩
    have ef : (agC ss ts ds lv != 0) = false := by simp [hf]
    obtain ⟨a1, a2, a3, a4, a5, a6, a7⟩ := ag_right hf
    have HA1 := hide a1
    have HA2 := hide a2
    have HA3 := hide a3
    have HA4 := hide a4
    have HA5 := hide a5
    have HA6 := hide a6
    have HA7 := hide a7
    have htl1 : ts.length ≤ t2n := Nat.le_of_eq Htl.out
    have htl2 : t2n ≤ ts.length := Nat.le_of_eq Htl.out.symm
    have htm : t2n ≤ 1048576 := Htm.out
    clear hf a1 a2 a3 a4 a5 a6 a7
    go_wp2
    go_loopw [9] (fun i wr => ∃ k : Nat, k ≤ t2n ∧ i = .int .i64 ((k : Int) + 1) ∧ Mm w wr [(w2.heap.size, 0, .int .i64 (agC ss ts ds lv)), (w2.heap.size, 1, .int .i64 (agV ss ts ds lv)), (w2.heap.size, 2, .slice e1a e1n e1c), (w2.heap.size, 3, .slice e2a e2n e2c), (w2.heap.size, 4, .slice e3a e3n e3c), (w1.heap.size + 1, 0, .slice la ll lc), (w1.heap.size, 0, .slice t1a t1n t1c), (w1.heap.size, 1, .slice t2a t2n t2c), (w1.heap.size, 2, .slice t3a t3n t3c)] [(w1.heap.size + 1 + 1, w2.heap.size, OT (InR (w1.heap.size + 1 + 1) w2.heap.size) e1a e1n (agS ss ts ds lv) e2a e2n (agT ss ts ds lv) e3a e3n (agD ss ts ds lv)), (w.heap.size, w1.heap.size, FrS (InR w.heap.size w1.heap.size) la ll lv), (w.heap.size, w1.heap.size, TbS (InR w.heap.size w1.heap.size) t1a t1n ss t2a t2n ts t3a t3n ds)]) (fun i _ => t2n + 1 - (intOf i).toNat)
    case atStart => exact ⟨0, Nat.zero_le _, rfl, M6⟩
    case round =>
      clear M6 v0
      obtain ⟨k, hk, rfl, M⟩ := hrel
      have a3 := M.cell 7 rfl
      by_cases hlt : k < t2n
      · have i1 : (k : Int) + 1 ≤ (t2n : Int) := by omega
        have e1 : (k : Int) + 1 - 1 = (k : Int) := by omega
        have hkt := HA4.out k (by omega)
        have lt0 : (Addr.mk (w2.heap.size) 2 none).block < wr.heap.size := M.lt 2 rfl
        have lt1 : (Addr.mk (w2.heap.size) 3 none).block < wr.heap.size := M.lt 3 rfl
        have lt2 : (Addr.mk (w2.heap.size) 4 none).block < wr.heap.size := M.lt 4 rfl
        have lt3 : (Addr.mk (w1.heap.size) 0 none).block < wr.heap.size := M.lt 6 rfl
        have lt4 : (Addr.mk (w1.heap.size) 1 none).block < wr.heap.size := M.lt 7 rfl
        have lt5 : (Addr.mk (w1.heap.size) 2 none).block < wr.heap.size := M.lt 8 rfl
        have HM := hide M
        have HAS := hide ((M.get 0 rfl).rt)
        have HTS := hide ((M.get 2 rfl).rt)
        have HS0 : Hid (wr.drew.cell? ⟨w2.heap.size, 2, none⟩ = some (.slice e1a e1n e1c) ∧ wr.drew.cell? ⟨w2.heap.size, 3, none⟩ = some (.slice e2a e2n e2c) ∧ wr.drew.cell? ⟨w2.heap.size, 4, none⟩ = some (.slice e3a e3n e3c) ∧ wr.drew.cell? ⟨w1.heap.size, 0, none⟩ = some (.slice t1a t1n t1c) ∧ wr.drew.cell? ⟨w1.heap.size, 1, none⟩ = some (.slice t2a t2n t2c) ∧ wr.drew.cell? ⟨w1.heap.size, 2, none⟩ = some (.slice t3a t3n t3c) ∧ Below wr.heap.size wr wr.drew) := ⟨M.cell 2 rfl, M.cell 3 rfl, M.cell 4 rfl, M.cell 6 rfl, M.cell 7 rfl, M.cell 8 rfl, (Below.refl _ _).drew⟩
        clear M
        go_upto_region 15 with fail
        clear a3
        go_region_held2 (fun w' => w'.cell? ⟨w2.heap.size, 2, none⟩ = some (.slice e1a e1n e1c) ∧ w'.cell? ⟨w2.heap.size, 3, none⟩ = some (.slice e2a e2n e2c) ∧ w'.cell? ⟨w2.heap.size, 4, none⟩ = some (.slice e3a e3n e3c) ∧ w'.cell? ⟨w1.heap.size, 0, none⟩ = some (.slice t1a t1n t1c) ∧ w'.cell? ⟨w1.heap.size, 1, none⟩ = some (.slice t2a t2n t2c) ∧ w'.cell? ⟨w1.heap.size, 2, none⟩ = some (.slice t3a t3n t3c) ∧ Below wr.heap.size wr w')
          (first | with_reducible exact HS0.out | with_reducible assumption)
          (first
            | (go_at_call 19; (with_reducible refine (implTagLabel_calls e1a e1n e1c (agS ss ts ds lv) e2a e2n e2c (agT ss ts ds lv) e3a e3n e3c (agD ss ts ds lv) ((k : Int) + 1) _ ?_).mono ?_); exact HAS.out.below (q6_bel (by with_reducible assumption)) (Nat.le_refl _); rintro e y1 ⟨k1a, k1n, k1c, rfl, ok, ga⟩; rw [e1] at ok; have hk1 := os_max ok; have HK1 := hide ok.sl; have HG1 := hide ga; have hs1 := q6_below lt0 lt1 lt2 lt3 lt4 lt5 (by with_reducible assumption) ga; clear ga ok)
            | (go_at_call 19; (with_reducible refine (implTagLabel_calls t1a t1n t1c ss t2a t2n t2c ts t3a t3n t3c ds ((k : Int) + 1) _ ?_).mono ?_); exact HTS.out.below (q6_bel (by with_reducible assumption)) (Nat.le_refl _); rintro e y2 ⟨k2a, k2n, k2c, rfl, ok, ga⟩; rw [e1] at ok; have hk2 := os_max ok; have HK2 := hide ok.sl; have HG2 := hide ga; have hs1 := q6_below lt0 lt1 lt2 lt3 lt4 lt5 (by with_reducible assumption) ga; clear ga ok)
            | (go_at_call 15; (with_reducible refine (lwNums_as k1a k2a k1n k1c k2n k2c _ _ _ hkt hk1 hk2 ?_ ?_).mono ?_); (first | exact HK1.out | exact HK1.out.below HG2.out (Nat.le_refl _)); (first | exact HK2.out | exact HK2.out.below HG1.out (Nat.le_refl _)); rintro e y3 ⟨rfl, ga⟩; have hs1 := q6_below lt0 lt1 lt2 lt3 lt4 lt5 (by with_reducible assumption) ga; clear ga))
        all_goals (
          have M' := HM.out.below (q6_bel hs1)
          clear hs1 HS0 HM
          go_wp2
          go_roundw
          case rel => exact ⟨k + 1, by omega, by go_num, M'⟩
          case measure => simp [intOf]; omega)
      · obtain rfl : k = t2n := by omega
        have i2 : ¬ ((k : Int) + 1 ≤ (k : Int)) := by omega
        have v2 := M.cell 2 rfl
        have v3 := M.cell 3 rfl
        have v4 := M.cell 4 rfl
        go_wp2_with fail
        refine (implDropTag_calls e1a e1n e1c (agS ss ts ds lv) e2a e2n e2c (agT ss ts ds lv) e3a e3n e3c (agD ss ts ds lv) _ (M.get 0 rfl).rt).mono ?_
        rintro e w7 ⟨b1a, b1n, b1c, b2a, b2n, b2c, b3a, b3n, b3c, rfl, o7, g7⟩
        rw [HA5.out]
        have z7 := g7.size
        rw [HA6.out] at o7
        have hbm := o7.rt.2.2.1
        have M7 := ((M.below g7).fact OT.loc o7).alloc5 (.int .i64 0) (.int .i64 (dtV (agS ss ts ds lv) (agT ss ts ds lv) (agD ss ts ds lv))) (.slice b1a b1n b1c) (.slice b2a b2n b2c) (.slice b3a b3n b3c) 35
        have hkm : k ≤ maxLen := by unfold maxLen; omega
        have eV : (agV ss ts ds lv == (k : Int) + 1) = true := by rw [HA2.out]; simp; omega
        have eW : IntKind.i64.wrap ((k : Int) + 1) = (k : Int) + 1 := by rw [IntKind.wrap_i64]; omega
        have eT : (tgC ss ts ds ts (agV ss ts ds lv - 1) == 4) = true := by rw [HA7.out]; rfl
        have hA3 := HA3.out
        clear M g7 o7 v2 v3 v4 a3 i2
        as_aux_lemma =>
          obtain ⟨W2, hW⟩ : ∃ W2 : World, W2 = w7.alloc (.cells #[.int .i64 0, .int .i64 (dtV (agS ss ts ds lv) (agT ss ts ds lv) (agD ss ts ds lv)), .slice b1a b1n b1c, .slice b2a b2n b2c, .slice b3a b3n b3c] 35) := ⟨_, rfl⟩
          rw [← hW] at M7
          have HW := hide hW
          have lt0 : (Addr.mk (w2.heap.size) 1 none).block < W2.heap.size := M7.lt 6 rfl
          have lt1 : (Addr.mk (w2.heap.size) 2 none).block < W2.heap.size := M7.lt 7 rfl
          have lt2 : (Addr.mk (w2.heap.size) 3 none).block < W2.heap.size := M7.lt 8 rfl
          have lt3 : (Addr.mk (w2.heap.size) 4 none).block < W2.heap.size := M7.lt 9 rfl
          have lt4 : (Addr.mk (w1.heap.size) 0 none).block < W2.heap.size := M7.lt 11 rfl
          have lt5 : (Addr.mk (w1.heap.size) 1 none).block < W2.heap.size := M7.lt 12 rfl
          have lt6 : (Addr.mk (w1.heap.size) 2 none).block < W2.heap.size := M7.lt 13 rfl
          have lt7 : (Addr.mk (w1.heap.size + 1) 0 none).block < W2.heap.size := M7.lt 10 rfl
          have lt8 : (Addr.mk (w7.heap.size) 0 none).block < W2.heap.size := M7.lt 0 rfl
          have lt9 : (Addr.mk (w7.heap.size) 3 none).block < W2.heap.size := M7.lt 3 rfl
          have HM := hide M7
          have HBS := hide ((M7.get 0 rfl).rt.2.2.2.1)
          have HAS := hide ((M7.get 1 rfl).rt)
          have HLS := hide ((M7.get 2 rfl).sl)
          have HTS := hide ((M7.get 3 rfl).rt)
          have HTT := hide ((M7.get 3 rfl).rt.2.2.2.1)
          have HS0 : Hid (W2.drew.cell? ⟨w2.heap.size, 1, none⟩ = some (.int .i64 (agV ss ts ds lv)) ∧ W2.drew.cell? ⟨w2.heap.size, 2, none⟩ = some (.slice e1a e1n e1c) ∧ W2.drew.cell? ⟨w2.heap.size, 3, none⟩ = some (.slice e2a e2n e2c) ∧ W2.drew.cell? ⟨w2.heap.size, 4, none⟩ = some (.slice e3a e3n e3c) ∧ W2.drew.cell? ⟨w1.heap.size, 0, none⟩ = some (.slice t1a t1n t1c) ∧ W2.drew.cell? ⟨w1.heap.size, 1, none⟩ = some (.slice t2a k t2c) ∧ W2.drew.cell? ⟨w1.heap.size, 2, none⟩ = some (.slice t3a t3n t3c) ∧ W2.drew.cell? ⟨w1.heap.size + 1, 0, none⟩ = some (.slice la ll lc) ∧ W2.drew.cell? ⟨w7.heap.size, 0, none⟩ = some (.int .i64 0) ∧ W2.drew.cell? ⟨w7.heap.size, 3, none⟩ = some (.slice b2a b2n b2c) ∧ Below W2.heap.size W2 W2.drew) := ⟨M7.cell 6 rfl, M7.cell 7 rfl, M7.cell 8 rfl, M7.cell 9 rfl, M7.cell 11 rfl, M7.cell 12 rfl, M7.cell 13 rfl, M7.cell 10 rfl, M7.cell 0 rfl, M7.cell 3 rfl, (Below.refl _ _).drew⟩
          clear M7 hW
          go_upto_region 18 with fail
          rw [← HW.out]
          go_region_held2 (fun w' => w'.cell? ⟨w2.heap.size, 1, none⟩ = some (.int .i64 (agV ss ts ds lv)) ∧ w'.cell? ⟨w2.heap.size, 2, none⟩ = some (.slice e1a e1n e1c) ∧ w'.cell? ⟨w2.heap.size, 3, none⟩ = some (.slice e2a e2n e2c) ∧ w'.cell? ⟨w2.heap.size, 4, none⟩ = some (.slice e3a e3n e3c) ∧ w'.cell? ⟨w1.heap.size, 0, none⟩ = some (.slice t1a t1n t1c) ∧ w'.cell? ⟨w1.heap.size, 1, none⟩ = some (.slice t2a k t2c) ∧ w'.cell? ⟨w1.heap.size, 2, none⟩ = some (.slice t3a t3n t3c) ∧ w'.cell? ⟨w1.heap.size + 1, 0, none⟩ = some (.slice la ll lc) ∧ w'.cell? ⟨w7.heap.size, 0, none⟩ = some (.int .i64 0) ∧ w'.cell? ⟨w7.heap.size, 3, none⟩ = some (.slice b2a b2n b2c) ∧ Below W2.heap.size W2 w')
            (first | with_reducible exact HS0.out | with_reducible assumption)
            (first
              | (go_at_call 13; (with_reducible refine (tabF_as e1a e1n e1c (agS ss ts ds lv) e2a e2n e2c (agT ss ts ds lv) e3a e3n e3c (agD ss ts ds lv) _ HA1.out ?_).mono ?_); exact HAS.out.below (q10_bel (by with_reducible assumption)) (Nat.le_refl _); rintro e y1 ⟨rfl, ga⟩; have hs1 := q10_below lt0 lt1 lt2 lt3 lt4 lt5 lt6 lt7 lt8 lt9 (by with_reducible assumption) ga; clear ga)
              | (go_at_call 19; (with_reducible refine (implTagLabel_calls e1a e1n e1c (agS ss ts ds lv) e2a e2n e2c (agT ss ts ds lv) e3a e3n e3c (agD ss ts ds lv) (agV ss ts ds lv) _ ?_).mono ?_); exact HAS.out.below (q10_bel (by with_reducible assumption)) (Nat.le_refl _); rintro e y1 ⟨k1a, k1n, k1c, rfl, ok, ga⟩; have hs1 := q10_below lt0 lt1 lt2 lt3 lt4 lt5 lt6 lt7 lt8 lt9 (by with_reducible assumption) ga; have hk1 := os_max ok; have HK := hide ok.sl; clear ok; clear ga)
              | (go_at_call 19; (with_reducible refine (implTagLabel_calls t1a t1n t1c ss t2a k t2c ts t3a t3n t3c ds (agV ss ts ds lv) _ ?_).mono ?_); exact HTS.out.below (q10_bel (by with_reducible assumption)) (Nat.le_refl _); rintro e y1 ⟨_, _, _, rfl, _, ga⟩; have hs1 := q10_below lt0 lt1 lt2 lt3 lt4 lt5 lt6 lt7 lt8 lt9 (by with_reducible assumption) ga; clear ga)
              | (go_at_call 15; (with_reducible refine (lwNums_as k1a la k1n k1c ll lc _ lv _ hA3 hk1 hllm ?_ ?_).mono ?_); exact HK.out; exact HLS.out.below (q10_bel (by with_reducible assumption)) (Nat.le_refl _); rintro e y1 ⟨rfl, ga⟩; have hs1 := q10_below lt0 lt1 lt2 lt3 lt4 lt5 lt6 lt7 lt8 lt9 (by with_reducible assumption) ga; clear ga)
              | (go_at_call 15; (with_reducible refine (lwNums_as b2a t2a b2n b2c k t2c ts ts _ rfl hbm hkm ?_ ?_).mono ?_); exact HBS.out.below (q10_bel (by with_reducible assumption)) (Nat.le_refl _); exact HTT.out.below (q10_bel (by with_reducible assumption)) (Nat.le_refl _); rintro e y1 ⟨rfl, ga⟩; have hs1 := q10_below lt0 lt1 lt2 lt3 lt4 lt5 lt6 lt7 lt8 lt9 (by with_reducible assumption) ga; clear ga))
          all_goals (
            have HE := hide (HM.out.below (q10_bel hs1)).bel
            clear hs1 HS0 HM
            go_wp2
            go_ret
            exact ⟨rfl, HE.out⟩)

theorem own : ownKnob Try.prog.godebug = none := by kernel_rfl

theorem laidOut : laidOutB Try.prog = true := by kernel_rfl

theorem walk_Tags (a : Option Addr) (len cap : Nat) (w : World) (hl : len ≤ maxLen) (hc : len ≤ 1048576 → Cd w a len) :
    Calls Try.prog 3 #[.slice a len cap] w fun e w' => e = .returned (.bool true) ∧ Below w.heap.size w w' := by
  by_cases h : len ≤ 1048576
  · exact tags_small a len cap w (hc h)
  · exact tags_big a len cap w hl (by omega)

theorem open_code {H : Type} {enc : TypeId × Value → H} {P : Program} {w : World} {t e : TypeId} {a : Option Addr} {len cap fuel : Nat} {x : DataW H × List MemPlace}
    (hsl : P.underlying t = some (.slice e)) (he : P.underlying e = some (.int .u8)) (hce : P.cellsOf e = 1)
    (h : DataW.trod enc P w 0 (fun _ => true) true fuel t (Value.slice a len cap).cells.toList = some x) : len ≤ maxLen ∧ (len ≤ 1048576 → Cd w a len) := by
  rcases open_ints hsl he hce h with ⟨hcs, _⟩ | ⟨y, l, c', zs, hcs, _, hl, hm, hz, _, hcell, hwf⟩
  · simp [Value.cells] at hcs
    obtain ⟨rfl, rfl, rfl⟩ := hcs
    exact ⟨Nat.zero_le _, fun _ => ⟨by omega, fun h => by omega⟩⟩
  · simp [Value.cells] at hcs
    obtain ⟨rfl, rfl, rfl⟩ := hcs
    simp at hz
    refine ⟨by omega, fun hsm => ⟨hsm, fun hp => ?_⟩⟩
    obtain ⟨b, off, spot⟩ := y
    have hc0 := hcell 0 (by omega)
    have hspot : spot = none := by simpa [Addr.add] using World.cell?_spot hc0
    subst hspot
    refine ⟨b, off, rfl, World.block_lt_of_cell? _ _ hc0, fun i hi => ?_⟩
    have hadd : (Addr.mk b off none).add i = ⟨b, off + i, none⟩ := by cases i <;> simp [Addr.add]
    have hci := hcell i (by omega)
    rw [hadd] at hci
    have hil : i < zs.length := by omega
    have hge : zs.getD i 0 = zs[i] := by simp [List.getD, hil]
    have hw := hwf (zs.getD i 0) (by rw [hge]; exact List.getElem_mem hil)
    have hb : 0 ≤ zs.getD i 0 ∧ zs.getD i 0 ≤ 255 := by simpa [Lit.wf, IntKind.min, IntKind.max, IntKind.signed, IntKind.bits] using hw
    exact ⟨_, hb.1, hb.2, hci⟩

set_option maxRecDepth 100000 in
theorem lifted_Tags (os : Os) (started : os.Started) (H : Type) (enc : TypeId × Value → H) :
    ReturnsInHanded {} Try.checked os 3 .any (Rows.fnTagsSpec.pre6 enc Try.prog Try.f3 Rows.fnTagsRow.domain false) (Rows.fnTagsSpec.post enc Try.prog Try.f3 false true false false) := by
  refine returnsInHanded_of_change (C := Try.checked) own started (by kernel_rfl) Try.func3
    (ChangeSpec.witness6 (enc := enc) (C := Try.checked) false ⟨#[], #[.slice none 0 0], []⟩ 8 (by kernel_rfl) (by kernel_rfl) (by kernel_rfl) (by kernel_rfl)) ?_
  intro W base args ds gs before hval0 hW hcnd _
  have hval : ∀ (j : Nat) t v, Try.f3.params[j]? = some t → args[j]? = some v → Value.okWide Try.prog W .any base t v := hval0
  have hW' := hW
  obtain ⟨p, q, hA0, hV, rfl, hfz, hnd⟩ := hW
  have hA : DataW.TrodAll enc Try.prog W 0 (fun _ => true) true Try.f3.params.toList args.toList ds p := hA0
  rw [Try.params3] at hA hval
  obtain ⟨v0, vs0, d0, ds0, p0, q0, hargs, rfl, rfl, h0, r0⟩ := trodAll_cons hA
  obtain ⟨rfl, rfl, rfl⟩ := trodAll_nil r0
  obtain rfl : args = #[v0] := by cases args; simp_all
  obtain ⟨rfl, rfl⟩ := trodVars_none hV
  obtain ⟨a0, len0, cap0, rfl⟩ := okWide_slice Try.underlying22 (hval 0 22 v0 rfl rfl)
  have k0 := h0
  have lt0 : ∀ x ∈ p0, x.block < W.heap.size := by obtain ⟨m, hm⟩ := k0; exact DataW.trod_lt m _ _ _ hm
  obtain ⟨hl0, hc0⟩ : len0 ≤ maxLen ∧ (len0 ≤ 1048576 → Cd W a0 len0) := by
    obtain ⟨fuel, hf⟩ := h0
    exact open_code Try.underlying22 Try.underlying5 (by kernel_rfl) hf
  clear hA0 hval0
  refine (walk_Tags a0 len0 cap0 W hl0 hc0).mono fun e W' ⟨he, bel⟩ => ?_
  subst he
  exact ⟨_, rfl, _, _, _, [], _, [], hW', trodAll_mk1 (shut_bool Try.underlying4 _), (trodAll_cons_mk (Below.trod laidOut (by kernel_rfl) (of_decide_eq_true (by kernel_rfl)) k0 bel lt0) trodAll_mk0), rfl, bel.frame _, fun h => by cases h⟩

theorem fnTags_holds : Rows.FnTagsSaid :=
  OpenClaim.holds_of_wide 3 Try.f3 rfl rfl rfl rfl rfl rfl rfl ⟨rfl, rfl, rfl, rfl, rfl⟩ rfl rfl rfl rfl rfl (by kernel_rfl) Try.func3 (by kernel_rfl)
    (of_decide_eq_true (by kernel_rfl)) (by unfold Func.isWrapper; first | (rw [if_pos (by decide +kernel)]; kernel_rfl) | (rw [if_neg (by decide +kernel)]; exact ⟨rfl, rfl⟩))
    (fun os started H enc _ => lifted_Tags os started H enc)
#print axioms fnTags_holds

end Go.Proofs.Ytjkdckcmgbmmgaa
