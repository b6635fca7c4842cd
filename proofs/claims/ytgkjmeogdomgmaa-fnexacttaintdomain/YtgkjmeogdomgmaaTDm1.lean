import Derived.Test.YtgkjmeogdomgmaaLevels
import Derived.Test.YtgkjmeogdomgmaaQs
import Derived.Test.YtgkjmeogdomgmaaTaintS
import Derived.Test.YtgkjmeogdomgmaaMore
import Derived.Test.YtgkjmeogdomgmaaLeave
import Derived.Test.YtgkjmeogdomgmaaTablesI
import Derived.Test.YtgkjmeogdomgmaaDropP
import Derived.Test.YtgkjmeogdomgmaaL1Copy
import Derived.Test.YtgkjmeogdomgmaaCsK
import Derived.WalkKit
import Derived.ProofKit
import Derived.OpenShut
import Derived.ShutString
import Derived.ChangeOld
import Derived.Below
import Derived.WalkSpells
import Derived.Deep.QuietTactic
import Derived.BigQuiet
import Derived.Deep.RegionWith
import Derived.Deep.WholeRow
import Derived.Deep.DeepCutAuto
import Derived.Deep.RegionHeld2
import Derived.Deep.AppendLies
import Derived.Deep.RegionLaw
namespace Go.Proofs.Ytgkjmeogdomgmaa
open Go.ChangeShapes Go.WideShapes Go.ChangeAt Go.RowKit

set_option maxRecDepth 100000 in
theorem faultOfBoth_calls (a b : Option Addr) (la ca lb cb : Nat) (xs ys : List Int) (w : World) (hla : la ≤ maxLen) (hlb : lb ≤ maxLen) (hx : Sl w a la xs) (hy : Sl w b lb ys) :
    Calls Try.prog 58 #[.agg #[.slice a la ca], .agg #[.slice b lb cb]] w fun e w' => e = .returned (.int .i64 (both xs ys)) ∧ Below w.heap.size w w' := by
  have hb0 := fun o1 o2 => ((Below.refl w.heap.size w).alloc (Nat.le_refl _) o1).alloc (by simp) o2
  by_cases hf : fault xs = 0
  · have hq : (fault xs == 0) = true := by simp [hf]
    have e := both_eq (ys := ys) hf
    rw [e]
    clear e hf
    go_enter Try.func58, Try.ntmps58
    go_wp2_with fail
    refine (implLabelFault_calls a la ca xs _ hla (hx.below (hb0 _ _) (Nat.le_refl _))).mono ?_
    rintro e w1 ⟨rfl, hb⟩
    have h1 : Below w.heap.size w w1 := (hb0 _ _).trans (hb.mono (by simp; omega))
    have c2 : w1.cell? ⟨w.heap.size + 1, 0, none⟩ = some (.slice b lb cb) := (hb.cell (p := ⟨w.heap.size + 1, 0, none⟩) (by simp)).trans (by go_simp)
    clear hb hb0
    go_wp2_with fail
    refine (implLabelFault_calls b lb cb ys _ hlb (hy.below h1 (Nat.le_refl _))).mono ?_
    rintro e w2 ⟨rfl, hb⟩
    go_wp2
    go_ret
    exact ⟨rfl, h1.trans (hb.mono h1.size)⟩
  · have hq : (fault xs == 0) = false := by simp [hf]
    have e := both_ne (ys := ys) hf
    rw [e]
    clear e hf
    go_enter Try.func58, Try.ntmps58
    go_wp2_with fail
    refine (implLabelFault_calls a la ca xs _ hla (hx.below (hb0 _ _) (Nat.le_refl _))).mono ?_
    rintro e w1 ⟨rfl, hb⟩
    go_wp2
    go_ret
    exact ⟨rfl, (hb0 _ _).trans (hb.mono (by simp; omega))⟩

theorem both_zero {xs ys : List Int} (h : (both xs ys == 0) = true) : fault xs = 0 ∧ fault ys = 0 := by
  simp only [beq_iff_eq] at h
  unfold both at h
  split at h
  · exact ⟨by assumption, h⟩
  · contradiction

theorem isBelowB_of {xs ys : List Int} (h : fault xs = 0 ∧ fault ys = 0) : isBelowB xs ys = belowB xs ys := by
  unfold isBelowB; rw [h.1, h.2]; rfl

theorem isBelowB_not {xs ys : List Int} (h : (both xs ys == 0) = false) : isBelowB xs ys = false := by
  simp only [beq_eq_false_iff_ne] at h
  unfold both at h
  unfold isBelowB
  split at h
  · rename_i e; rw [e]; simp [h]
  · rename_i e; simp [e]

set_option maxRecDepth 100000 in
theorem implIsBelow_calls (a b : Option Addr) (la ca lb cb : Nat) (xs ys : List Int) (w : World) (hla : la ≤ maxLen) (hlb : lb ≤ maxLen) (hx : Sl w a la xs) (hy : Sl w b lb ys) :
    Calls Try.prog 25 #[.agg #[.slice a la ca], .agg #[.slice b lb cb]] w fun e w' => e = .returned (.bool (isBelowB xs ys)) ∧ Below w.heap.size w w' := by
  have hb0 := fun o1 o2 => ((Below.refl w.heap.size w).alloc (Nat.le_refl _) o1).alloc (by simp) o2
  cases hf : (both xs ys == 0) with
  | true =>
    obtain ⟨fx, fy⟩ := both_zero hf
    have e1 : la = 4 := by rw [← hx.1]; exact fault_len fx
    have e2 : lb = 4 := by rw [← hy.1]; exact fault_len fy
    rw [isBelowB_of ⟨fx, fy⟩]
    subst e1 e2
    clear fx fy
    have i0 := idx0
    have i1 := idx1
    have i2 := idx2
    have i3 := idx3
    go_enter Try.func25, Try.ntmps25
    go_wp2_with fail
    refine (faultOfBoth_calls a b 4 ca 4 cb xs ys _ hla hlb (hx.below (hb0 _ _) (Nat.le_refl _)) (hy.below (hb0 _ _) (Nat.le_refl _))).mono ?_
    rintro e w1 ⟨rfl, hb⟩
    have h1 : Below w.heap.size w w1 := (hb0 _ _).trans (hb.mono (by simp; omega))
    have c1 : w1.cell? ⟨w.heap.size, 0, none⟩ = some (.slice a 4 ca) := (hb.cell (p := ⟨w.heap.size, 0, none⟩) (by simp; omega)).trans (by go_simp)
    have c2 : w1.cell? ⟨w.heap.size + 1, 0, none⟩ = some (.slice b 4 cb) := (hb.cell (p := ⟨w.heap.size + 1, 0, none⟩) (by simp)).trans (by go_simp)
    have hN : w.heap.size + 1 < w1.heap.size := by have := hb.size; simp at this; omega
    clear hb hb0
    go_wp2_with fail
    refine (levelsOf_calls b cb ys _ (hy.below h1 (Nat.le_refl _))).mono ?_
    rintro e w2 ⟨rfl, hb2⟩
    have c12 := (hb2.cell (p := ⟨w.heap.size, 0, none⟩) (by show w.heap.size < _; omega)).trans c1
    have h2 : Below w.heap.size w w2 := h1.trans (hb2.mono h1.size)
    have hN2 : w.heap.size < w2.heap.size := by have := hb2.size; omega
    clear hb2 c1 c2
    unfold ints4
    go_wp2_with fail
    refine (levelsOf_calls a ca xs _ (hx.below (h2.alloc h2.size _) (Nat.le_refl _))).mono ?_
    rintro e w3 ⟨rfl, hb3⟩
    have u0 : w3.cell? ⟨w2.heap.size, 0, none⟩ = some (.int .i64 (gt ys 0)) := (hb3.cell (p := ⟨w2.heap.size, 0, none⟩) (by simp)).trans (by go_simp)
    have u1 : w3.cell? ⟨w2.heap.size, 1, none⟩ = some (.int .i64 (gt ys 1)) := (hb3.cell (p := ⟨w2.heap.size, 1, none⟩) (by simp)).trans (by go_simp)
    have u2 : w3.cell? ⟨w2.heap.size, 2, none⟩ = some (.int .i64 (gt ys 2)) := (hb3.cell (p := ⟨w2.heap.size, 2, none⟩) (by simp)).trans (by go_simp)
    have u3 : w3.cell? ⟨w2.heap.size, 3, none⟩ = some (.int .i64 (gt ys 3)) := (hb3.cell (p := ⟨w2.heap.size, 3, none⟩) (by simp)).trans (by go_simp)
    have h3 : Below w.heap.size w w3 := (h2.alloc h2.size _).trans (hb3.mono (by simp; omega))
    clear hb3
    unfold ints4
    go_wp2
    go_loop [16] (fun i => ∃ k : Nat, k ≤ 4 ∧ i = .int .i64 k ∧ ∀ j, j < k → gt xs j ≤ gt ys j) (fun i => 4 - (intOf i).toNat)
    case atStart => exact ⟨0, Nat.zero_le _, rfl, fun j hj => by omega⟩
    case round =>
      obtain ⟨k, hk, rfl, hall⟩ := hrel
      have Hall : Hid (∀ j, j < k → gt xs j ≤ gt ys j) := hall
      clear hall
      rcases (by omega : k = 0 ∨ k = 1 ∨ k = 2 ∨ k = 3 ∨ k = 4) with rfl | rfl | rfl | rfl | rfl
      · by_cases he : gt ys 0 < gt xs 0
        · go_wp2
          go_ret
          exact ⟨ret_bool (belowB_no (by omega) he).symm, h3⟩
        · go_wp2
          go_round
          case rel => exact ⟨1, by omega, by go_num, fun j hj => by (by_cases e : j = 0); (subst e; omega); exact Hall.out j (by omega)⟩
          case measure => simp [intOf]
      · by_cases he : gt ys 1 < gt xs 1
        · go_wp2
          go_ret
          exact ⟨ret_bool (belowB_no (by omega) he).symm, h3⟩
        · go_wp2
          go_round
          case rel => exact ⟨2, by omega, by go_num, fun j hj => by (by_cases e : j = 1); (subst e; omega); exact Hall.out j (by omega)⟩
          case measure => simp [intOf]
      · by_cases he : gt ys 2 < gt xs 2
        · go_wp2
          go_ret
          exact ⟨ret_bool (belowB_no (by omega) he).symm, h3⟩
        · go_wp2
          go_round
          case rel => exact ⟨3, by omega, by go_num, fun j hj => by (by_cases e : j = 2); (subst e; omega); exact Hall.out j (by omega)⟩
          case measure => simp [intOf]
      · by_cases he : gt ys 3 < gt xs 3
        · go_wp2
          go_ret
          exact ⟨ret_bool (belowB_no (by omega) he).symm, h3⟩
        · go_wp2
          go_round
          case rel => exact ⟨4, by omega, by go_num, fun j hj => by (by_cases e : j = 3); (subst e; omega); exact Hall.out j (by omega)⟩
          case measure => simp [intOf]
      · go_wp2
        go_ret
        exact ⟨ret_bool (belowB_yes (fun j hj => Hall.out j (by omega))).symm, h3⟩
  | false =>
    rw [isBelowB_not hf]
    go_enter Try.func25, Try.ntmps25
    go_wp2_with fail
    refine (faultOfBoth_calls a b la ca lb cb xs ys _ hla hlb (hx.below (hb0 _ _) (Nat.le_refl _)) (hy.below (hb0 _ _) (Nat.le_refl _))).mono ?_
    rintro e w1 ⟨rfl, hb⟩
    go_wp2
    go_ret
    exact ⟨rfl, (hb0 _ _).trans (hb.mono (by simp; omega))⟩

/-- what the region keeps: two boxes, and all that was there. -/
theorem sj_alloc {w1 X : World} {N M : Nat} {u v : Value} (h : X.cell? ⟨N, 0, none⟩ = some u ∧ X.cell? ⟨M, 0, none⟩ = some v ∧ Below w1.heap.size w1 X) (o : Obj) :
    (X.alloc o).cell? ⟨N, 0, none⟩ = some u ∧ (X.alloc o).cell? ⟨M, 0, none⟩ = some v ∧ Below w1.heap.size w1 (X.alloc o) :=
  ⟨(World.cell?_alloc_lt _ _ _ (World.block_lt_of_cell? _ _ h.1)).trans h.1, (World.cell?_alloc_lt _ _ _ (World.block_lt_of_cell? _ _ h.2.1)).trans h.2.1, h.2.2.alloc h.2.2.size o⟩

theorem sj_below {w1 X Y : World} {N M : Nat} {u v : Value} (h : X.cell? ⟨N, 0, none⟩ = some u ∧ X.cell? ⟨M, 0, none⟩ = some v ∧ Below w1.heap.size w1 X) (hb : Below X.heap.size X Y) :
    Y.cell? ⟨N, 0, none⟩ = some u ∧ Y.cell? ⟨M, 0, none⟩ = some v ∧ Below w1.heap.size w1 Y :=
  ⟨(hb.cell (p := ⟨N, 0, none⟩) (World.block_lt_of_cell? _ _ h.1)).trans h.1, (hb.cell (p := ⟨M, 0, none⟩) (World.block_lt_of_cell? _ _ h.2.1)).trans h.2.1, h.2.2.trans (hb.mono h.2.2.size)⟩

theorem sj_sl {w w1 X : World} {N M : Nat} {u v : Value} {a : Option Addr} {n : Nat} {xs : List Int} (h : X.cell? ⟨N, 0, none⟩ = some u ∧ X.cell? ⟨M, 0, none⟩ = some v ∧ Below w1.heap.size w1 X) (h1 : Below w.heap.size w w1) (hx : Sl w a n xs) : Sl X a n xs :=
  hx.below (h1.trans (h.2.2.mono h1.size)) (Nat.le_refl _)

theorem sj_set {w1 X : World} {N M : Nat} {u v : Value} (nN : N < w1.heap.size) (nM : M < w1.heap.size) (h : X.cell? ⟨N, 0, none⟩ = some u ∧ X.cell? ⟨M, 0, none⟩ = some v ∧ Below w1.heap.size w1 X) {p : Addr} (hp : w1.heap.size ≤ p.block) (y : Value) :
    (X.setCell p y).cell? ⟨N, 0, none⟩ = some u ∧ (X.setCell p y).cell? ⟨M, 0, none⟩ = some v ∧ Below w1.heap.size w1 (X.setCell p y) :=
  ⟨(World.cell?_setCell_other _ _ _ _ (fun e => by rw [e] at hp; simp at hp; omega)).trans h.1, (World.cell?_setCell_other _ _ _ _ (fun e => by rw [e] at hp; simp at hp; omega)).trans h.2.1, h.2.2.setCell hp y⟩

theorem sj_allocd {w1 X : World} {N M : Nat} {u v : Value} (h : X.drew.cell? ⟨N, 0, none⟩ = some u ∧ X.drew.cell? ⟨M, 0, none⟩ = some v ∧ Below w1.heap.size w1 X.drew) (o : Obj) :
    (X.alloc o).drew.cell? ⟨N, 0, none⟩ = some u ∧ (X.alloc o).drew.cell? ⟨M, 0, none⟩ = some v ∧ Below w1.heap.size w1 (X.alloc o).drew := sj_alloc (X := X.drew) h o

theorem bcell {W w1 : World} (hb : Below W.heap.size W w1) : (∀ b o, b < W.heap.size → w1.cell? ⟨b, o, none⟩ = W.cell? ⟨b, o, none⟩) ∧ (∀ b o, b < W.heap.size → w1.frozen? ⟨b, o, none⟩ = W.frozen? ⟨b, o, none⟩) :=
  ⟨fun b o h => hb.cell (p := ⟨b, o, none⟩) h, fun b o h => hb.frozen (p := ⟨b, o, none⟩) h⟩

theorem sj_start {w1 : World} {N M : Nat} {u v : Value} (h : w1.cell? ⟨N, 0, none⟩ = some u) (k : w1.cell? ⟨M, 0, none⟩ = some v) :
    w1.drew.cell? ⟨N, 0, none⟩ = some u ∧ w1.drew.cell? ⟨M, 0, none⟩ = some v ∧ Below w1.heap.size w1 w1.drew := ⟨h, k, (Below.refl _ _).drew⟩

theorem bcell_lt {W w1 : World} {n : Nat} (hb : Below W.heap.size W w1) (hn : n ≤ W.heap.size) : (∀ b o, b < n → w1.cell? ⟨b, o, none⟩ = W.cell? ⟨b, o, none⟩) ∧ (∀ b o, b < n → w1.frozen? ⟨b, o, none⟩ = W.frozen? ⟨b, o, none⟩) :=
  ⟨fun b o h => hb.cell (p := ⟨b, o, none⟩) (Nat.lt_of_lt_of_le h hn), fun b o h => hb.frozen (p := ⟨b, o, none⟩) (Nat.lt_of_lt_of_le h hn)⟩

theorem set4_other (X : World) (g h j : Nat) (y0 y1 y2 y3 : Value) (hne : g ≠ h) : ((((X.setCell ⟨h, 0, none⟩ y0).setCell ⟨h, 1, none⟩ y1).setCell ⟨h, 2, none⟩ y2).setCell ⟨h, 3, none⟩ y3).cell? ⟨g, j, none⟩ = X.cell? ⟨g, j, none⟩ := by
  rw [World.cell?_setCell_other _ _ _ _ (fun e => hne (by injection e with e1; exact e1.symm)), World.cell?_setCell_other _ _ _ _ (fun e => hne (by injection e with e1; exact e1.symm)), World.cell?_setCell_other _ _ _ _ (fun e => hne (by injection e with e1; exact e1.symm)), World.cell?_setCell_other _ _ _ _ (fun e => hne (by injection e with e1; exact e1.symm))]

theorem ARow.mk4 {w : World} {g : Nat} {f : Nat → Int} (h0 : w.cell? ⟨g, 0, none⟩ = some (.int .i64 (f 0))) (h1 : w.cell? ⟨g, 1, none⟩ = some (.int .i64 (f 1))) (h2 : w.cell? ⟨g, 2, none⟩ = some (.int .i64 (f 2))) (h3 : w.cell? ⟨g, 3, none⟩ = some (.int .i64 (f 3))) (hf : ∀ j, w.frozen? ⟨g, j, none⟩ = false) : ARow w g f :=
  ⟨fun j hj => by rcases (by omega : j = 0 ∨ j = 1 ∨ j = 2 ∨ j = 3) with rfl | rfl | rfl | rfl <;> assumption, hf⟩

theorem mix4 (f : Int → Int → Int) {xs ys : List Int} (h : xs.length = 4) : mix f xs ys = [f (gt xs 0) (gt ys 0), f (gt xs 1) (gt ys 1), f (gt xs 2) (gt ys 2), f (gt xs 3) (gt ys 3)] := by
  rw [list4 (zs := mix f xs ys) (by rw [length_mix]; exact h), gt_mix f xs ys 0 (by omega), gt_mix f xs ys 1 (by omega), gt_mix f xs ys 2 (by omega), gt_mix f xs ys 3 (by omega)]

theorem some_set {X : World} {p q : Addr} {v : Value} (h : (X.cell? q).isSome = true) : ((X.setCell p v).cell? q).isSome = true := by
  obtain ⟨u, hu⟩ := Option.isSome_iff_exists.1 h
  obtain ⟨u', hu'⟩ := cell?_setCell_some (p := p) (x := v) hu
  rw [hu']; rfl



theorem fieldL (c v : Value) (w : World) : (Instr.field 55 (.agg #[c, v]) 1).run Try.prog w = .ok (.agg #[v]) w := by kernel_rfl

set_option maxRecDepth 100000 in
theorem taintedLevel_calls (x y : Int) (w : World) : Calls Try.prog 85 #[.int .i64 x, .int .i64 y] w fun e w' => e = .returned (.int .i64 (td x y)) ∧ w' = w := by
  by_cases h : x = 0
  · have HV : Hid (td x y = 0) := if_pos h
    have e1 : (x == 0) = true := by simp [h]
    clear h
    go_enter Try.func85, Try.ntmps85
    go_wp2
    go_ret
    exact ⟨ret_int HV.out.symm, rfl⟩
  · have HV : Hid (td x y = max x y) := if_neg h
    have e1 : (x == 0) = false := by simp [h]
    clear h
    by_cases h2 : x < y
    · have HV2 : Hid (td x y = y) := by show _ = _; rw [HV.out]; omega
      go_enter Try.func85, Try.ntmps85
      go_wp2
      go_ret
      exact ⟨ret_int HV2.out.symm, rfl⟩
    · have HV2 : Hid (td x y = x) := by show _ = _; rw [HV.out]; omega
      go_enter Try.func85, Try.ntmps85
      go_wp2
      go_ret
      exact ⟨ret_int HV2.out.symm, rfl⟩

set_option maxRecDepth 100000 in
set_option maxHeartbeats 4000000 in
theorem mixed_td (xs ys : List Int) (w : World) :
    Calls Try.prog 84 #[.agg (ints4 xs), .agg (ints4 ys), .func (.func 85) #[] #[]] w fun e w' => e = .returned (.agg #[.int .i64 (td (gt xs 0) (gt ys 0)), .int .i64 (td (gt xs 1) (gt ys 1)), .int .i64 (td (gt xs 2) (gt ys 2)), .int .i64 (td (gt xs 3) (gt ys 3))]) ∧ Below w.heap.size w w' := by
  unfold ints4
  have M00 := (((Mm.start w).allocC [.int .i64 (gt xs 0), .int .i64 (gt xs 1), .int .i64 (gt xs 2), .int .i64 (gt xs 3)] 100).allocC [.int .i64 (gt ys 0), .int .i64 (gt ys 1), .int .i64 (gt ys 2), .int .i64 (gt ys 3)] 100).allocC [.int .i64 0, .int .i64 0, .int .i64 0, .int .i64 0] 100
  simp only [World.size_alloc] at M00
  obtain ⟨W, hW⟩ : ∃ W : World, W = ((w.alloc (.cells #[.int .i64 (gt xs 0), .int .i64 (gt xs 1), .int .i64 (gt xs 2), .int .i64 (gt xs 3)] 100)).alloc (.cells #[.int .i64 (gt ys 0), .int .i64 (gt ys 1), .int .i64 (gt ys 2), .int .i64 (gt ys 3)] 100)).alloc (.cells #[.int .i64 0, .int .i64 0, .int .i64 0, .int .i64 0] 100) := ⟨_, rfl⟩
  rw [← hW] at M00
  have zW : W.heap.size = w.heap.size + 3 := by rw [hW]; simp
  have HRow : Hid (ARow W w.heap.size (upTo (fun j => td (gt xs j) (gt ys j)) (gt xs) 0)) := ARow.mk4 ((M00.get 2 rfl).cell 0 rfl) ((M00.get 2 rfl).cell 1 rfl) ((M00.get 2 rfl).cell 2 rfl) ((M00.get 2 rfl).cell 3 rfl) (fun j => by rw [hW]; go_simp)
  have HM0 : Hid (Mm w W [] [(w.heap.size + 1 + 1, w.heap.size + 1 + 1 + 1, Cs (w.heap.size + 1 + 1) [.int .i64 0, .int .i64 0, .int .i64 0, .int .i64 0]), (w.heap.size + 1, w.heap.size + 1 + 1, Cs (w.heap.size + 1) [.int .i64 (gt ys 0), .int .i64 (gt ys 1), .int .i64 (gt ys 2), .int .i64 (gt ys 3)])]) := M00.sub (fun _ h => h) (fun _ h => by simp only [List.mem_cons, List.not_mem_nil, or_false] at h ⊢; rcases h with h | h <;> simp [h])
  have HW := hide hW
  clear M00 hW
  go_enter Try.func84, Try.ntmps84
  go_upto_region 1 with fail
  rw [← HW.out]
  clear HW
  go_wp2
  go_loopw [8] (fun i wr => ∃ k : Nat, k ≤ 4 ∧ i = .int .i64 k ∧ ARow wr w.heap.size (upTo (fun j => td (gt xs j) (gt ys j)) (gt xs) k) ∧ Mm w wr [] [(w.heap.size + 1 + 1, w.heap.size + 1 + 1 + 1, Cs (w.heap.size + 1 + 1) [.int .i64 0, .int .i64 0, .int .i64 0, .int .i64 0]), (w.heap.size + 1, w.heap.size + 1 + 1, Cs (w.heap.size + 1) [.int .i64 (gt ys 0), .int .i64 (gt ys 1), .int .i64 (gt ys 2), .int .i64 (gt ys 3)])]) (fun i _ => 4 - (intOf i).toNat)
  case atStart => exact ⟨0, Nat.zero_le _, rfl, HRow.out, HM0.out⟩
  case round =>
    clear HRow HM0
    obtain ⟨k, hk4, rfl, hrow, M⟩ := hrel
    by_cases hlt : k < 4
    · have hv : wr.cell? ⟨w.heap.size, k, none⟩ = some (.int .i64 (gt xs k)) := by rw [hrow.1 k hlt]; simp [upTo]
      have hf := hrow.2 k
      have hy : wr.cell? ⟨w.heap.size + 1, k, none⟩ = some (.int .i64 (gt ys k)) := by
        rcases (by omega : k = 0 ∨ k = 1 ∨ k = 2 ∨ k = 3) with rfl | rfl | rfl | rfl
        · exact (M.get 1 rfl).cell 0 rfl
        · exact (M.get 1 rfl).cell 1 rfl
        · exact (M.get 1 rfl).cell 2 rfl
        · exact (M.get 1 rfl).cell 3 rfl
      have k0 : (0 : Int) ≤ (k : Int) := by omega
      have k1 : (k : Int) < 4 := by omega
      have HR := hide (hrow.set (x := td (gt xs k) (gt ys k)) hlt (upTo_set (F := fun j => td (gt xs j) (gt ys j)) (f := gt xs) rfl))
      have HMs := hide (M.out (B := w.heap.size) (T := w.heap.size + 1) ((OutS.refl (InR w.heap.size (w.heap.size + 1)) wr).setCell (p := ⟨w.heap.size, k, none⟩) ⟨Nat.le_refl _, Nat.lt_succ_self _⟩ (.int .i64 (td (gt xs k) (gt ys k)))) (by omega) (by simp) (by simp <;> omega))
      clear hrow M
      go_wp2_with fail
      go_region_with (go_at_call 85; refine (taintedLevel_calls _ _ _).mono ?_; rintro e w1 ⟨rfl, rfl⟩)
      all_goals (
        go_wp2
        go_roundw
        case rel => exact ⟨k + 1, by omega, by go_num, HR.out, HMs.out.below (Below.refl _ _).drew⟩
        case measure => simp [intOf]; omega)
    · obtain rfl : k = 4 := by omega
      have hrow := hrow.keep (f' := fun j => td (gt xs j) (gt ys j)) (fun j hj => if_pos hj)
      have v0 := hrow.1 0 (by omega)
      have v1 := hrow.1 1 (by omega)
      have v2 := hrow.1 2 (by omega)
      have v3 := hrow.1 3 (by omega)
      have r0 := (M.get 0 rfl).cell 0 rfl
      have r1 := (M.get 0 rfl).cell 1 rfl
      have r2 := (M.get 0 rfl).cell 2 rfl
      have r3 := (M.get 0 rfl).cell 3 rfl
      have f0 := (M.get 0 rfl).fz 0 (by simp)
      have f1 := (M.get 0 rfl).fz 1 (by simp)
      have f2 := (M.get 0 rfl).fz 2 (by simp)
      have f3 := (M.get 0 rfl).fz 3 (by simp)
      have HB := hide M.bel
      clear hrow M
      go_wp2
      have n0 := set4_at0 _ _ (.int .i64 (td (gt xs 0) (gt ys 0))) (.int .i64 (td (gt xs 1) (gt ys 1))) (.int .i64 (td (gt xs 2) (gt ys 2))) (.int .i64 (td (gt xs 3) (gt ys 3))) ⟨_, r0⟩
      have n1 := set4_at1 _ _ (.int .i64 (td (gt xs 0) (gt ys 0))) (.int .i64 (td (gt xs 1) (gt ys 1))) (.int .i64 (td (gt xs 2) (gt ys 2))) (.int .i64 (td (gt xs 3) (gt ys 3))) ⟨_, r1⟩
      have n2 := set4_at2 _ _ (.int .i64 (td (gt xs 0) (gt ys 0))) (.int .i64 (td (gt xs 1) (gt ys 1))) (.int .i64 (td (gt xs 2) (gt ys 2))) (.int .i64 (td (gt xs 3) (gt ys 3))) ⟨_, r2⟩
      have n3 := set4_at3 _ _ (.int .i64 (td (gt xs 0) (gt ys 0))) (.int .i64 (td (gt xs 1) (gt ys 1))) (.int .i64 (td (gt xs 2) (gt ys 2))) (.int .i64 (td (gt xs 3) (gt ys 3))) ⟨_, r3⟩
      refine bodyPost_ret (v := .agg #[.int .i64 (td (gt xs 0) (gt ys 0)), .int .i64 (td (gt xs 1) (gt ys 1)), .int .i64 (td (gt xs 2) (gt ys 2)), .int .i64 (td (gt xs 3) (gt ys 3))]) (by simp [results, Try.results84, go_sem, n0, n1, n2, n3]) rfl ⟨rfl, ?_⟩
      exact (((HB.out.setCell (by simp; omega) _).setCell (by simp; omega) _).setCell (by simp; omega) _).setCell (by simp; omega) _

set_option maxRecDepth 100000 in
set_option maxHeartbeats 4000000 in
theorem taintedBy_calls (a b : Option Addr) (ca cb : Nat) (xs ys : List Int) (w : World) (hx : Sl w a 4 xs) (hy : Sl w b 4 ys) (_ : fault xs = 0) (_ : fault ys = 0) :
    Calls Try.prog 44 #[.agg #[.slice a 4 ca], .agg #[.slice b 4 cb]] w fun e w' => ∃ bb, e = .returned (.agg #[.slice (some ⟨bb, 0, none⟩) 4 4]) ∧ (w.heap.size ≤ bb ∧ Blk w' bb (mix td xs ys)) ∧ Below w.heap.size w w' := by
  have M0 := (((Mm.start w).allocC [.slice a 4 ca] 41).allocC [.slice b 4 cb] 41).allocC [.slice none 0 0] 41
  simp only [World.size_alloc] at M0
  have HX := hide (hx.below M0.bel (Nat.le_refl _))
  have HY := hide (hy.below M0.bel (Nat.le_refl _))
  have hxl := hx.1
  have HM4 := hide (mix4 td (ys := ys) hxl)
  have HM := hide M0
  obtain ⟨u, hu⟩ : ∃ u, u = ((w.alloc (.cells #[.slice a 4 ca] 41)).alloc (.cells #[.slice b 4 cb] 41)).alloc (.cells #[.slice none 0 0] 41) := ⟨_, rfl⟩
  rw [← hu] at HX HY HM
  have zu : u.heap.size = w.heap.size + 3 := by rw [hu]; simp
  have HU := hide hu
  have c0 : u.cell? ⟨w.heap.size, 0, none⟩ = some (.slice a 4 ca) := (HM.out.get 2 rfl).cell 0 rfl
  have c1 : u.cell? ⟨w.heap.size + 1, 0, none⟩ = some (.slice b 4 cb) := (HM.out.get 1 rfl).cell 0 rfl
  have hb : Below u.heap.size u u.drew := (Below.refl _ _).drew
  clear hx hy hu M0
  go_enter Try.func44, Try.ntmps44
  go_upto_region 1 with fail
  rw [← HU.out]
  clear HU
  go_region_with (first
    | (go_at_call_of 59 (Value.slice a 4 ca); refine (levelsOf_calls a ca xs _ (HX.out.below hb (Nat.le_refl _))).mono ?_; rintro e ua ⟨rfl, ga⟩; replace hb := hb.trans (ga.mono hb.size); have N := HM.out.below hb; have k0 := (N.get 2 rfl).cell 0 rfl; have k1 := (N.get 1 rfl).cell 0 rfl; clear N; clear ga)
    | (go_at_call_of 59 (Value.slice b 4 cb); refine (levelsOf_calls b cb ys _ (HY.out.below hb (Nat.le_refl _))).mono ?_; rintro e ub ⟨rfl, ga⟩; replace hb := hb.trans (ga.mono hb.size); have N := HM.out.below hb; have k0 := (N.get 2 rfl).cell 0 rfl; have k1 := (N.get 1 rfl).cell 0 rfl; clear N; clear ga)
    | (go_at_call 84; refine (mixed_td xs ys _).mono ?_; rintro e uc ⟨rfl, ga⟩; replace hb := hb.trans (ga.mono hb.size); clear ga)
    | (go_at_call 83; refine (labelOf_calls _ _ _ _ _).mono ?_; rintro e ud ⟨b4, rfl, hl4, blk4, ga⟩; have hz4 := hb.size; replace hb := hb.trans (ga.mono hb.size); have hz5 := ga.size; have lb4 := blk4.1; have M4 := HM.out.below hb; have r0 := (M4.get 0 rfl).cell 0 rfl; have f0 := (M4.get 0 rfl).fz 0 (by simp); have HB := hide M4.bel; clear M4; clear ga))
  all_goals (
    have HK : Hid (Blk ud b4 (mix td xs ys)) := by show Blk _ _ _; rw [HM4.out]; exact blk4
    have HBx := hide HB.out
    clear blk4 hb
    go_wp2
    refine bodyPost_ret (v := .agg #[.slice (some ⟨b4, 0, none⟩) 4 4]) (by simp [results, Try.results44, go_sem, r0]) rfl ⟨b4, rfl, ⟨by omega, ?_⟩, HB.out.setCell (by simp <;> omega) _⟩
    exact HK.out.setCell (p := ⟨w.heap.size + 1 + 1, 0, none⟩) (by show w.heap.size + 1 + 1 ≠ _; omega) (.slice (some ⟨b4, 0, none⟩) 4 4))

/-- what 'relabelDomain' answers. -/
def RL (P M nn : Nat) (ss : List (Int × List Int)) (q : Nat) (zs : List Int) (S : Nat → Prop) (ya : Option Addr) (dn j : Nat) (ds : List Int) (w : World) (e : Ending) (w' : World) : Prop :=
  e = .returned (.tuple #[.int .i64 (etV (leaveS ss q) zs), .int .i64 (etC (leaveS ss q) zs)]) ∧ OutS (fun k => (k = M ∨ k = P) ∨ S k) w w' ∧ KP P w w' ∧
    (etC (leaveS ss q) zs = 0 → OS S ya dn (ds.set j (enQ (leaveS ss q) zs : Int)) w' ∧ ∃ D', Bk w' P M ((enS (leaveS ss q) zs).length : Int) (nn + 1 + 1) D' ∧ Rep (enS (leaveS ss q) zs) D')

set_option maxRecDepth 100000 in
set_option maxHeartbeats 4000000 in
theorem relabelDomain_calls (P M nn j q : Nat) (ss : List (Int × List Int)) (zs : List Int) (D : DataW Unit) (S : Nat → Prop) (ya : Option Addr) (dn yc : Nat) (ds : List Int) (bb cb : Nat) (w : World) (hb : Bk w P M (ss.length : Int) nn D) (hn : nn ≤ 90) (good : Good ss) (rep : Rep ss D) (hz : fault zs = 0) (c3 : w.cell? ⟨P, 3, none⟩ = some (.slice ya dn yc)) (hrow : OS S ya dn ds w) (hSM : ¬ S M) (hSP : ¬ S P) (hbM : bb ≠ M) (hy : Blk w bb zs) (hj : j < dn) (hq : gt ds j = (q : Int)) (hql : q < ss.length) (hqp : 0 < gc ss q) (hat : atC ss (q : Int) = 0) :
    Calls Try.prog 43 #[.pointer (some ⟨P, 0, none⟩), .int .i64 (j : Int), .agg #[.slice (some ⟨bb, 0, none⟩) 4 cb]] w (RL P M nn ss q zs S ya dn j ds w) := by
  have al := (Below.refl w.heap.size w).alloc (Nat.le_refl _) (.cells #[.slice (some ⟨bb, 0, none⟩) 4 cb] 41)
  have M0 := (Mm.start w).alloc1 (.slice (some ⟨bb, 0, none⟩) 4 cb) 41
  have hP0 := hb.lt
  have hM0 := hb.own.lt
  obtain ⟨hdl, hd1, h0 | ⟨g, rfl, hSg, blk⟩⟩ := hrow
  · omega
  have hPg : P ≠ g := fun e => hSP (e ▸ hSg)
  have hMg : M ≠ g := fun e => hSM (e ▸ hSg)
  have blk0 := blk.below al
  have cj := blk0.2.1 j (by omega)
  rw [hq] at cj
  have c30 := (al.cell (p := ⟨P, 3, none⟩) hP0).trans c3
  have hb0 := hb.below al
  have hy0 := hy.below al
  have hzl := fault_len hz
  have gl2 := good_leave good hql hqp
  have i0 : (0 : Int) ≤ (j : Int) := by omega
  have i1 : (j : Int) < (dn : Int) := by omega
  have HB0 := hide hb0
  have HG := hide good
  have HRp := hide rep
  have HY0 := hide hy0
  have HBlk := hide blk0
  have HM0 := hide M0
  have HAl := hide al
  clear hb0 good rep hy0 blk0 M0 al hb blk hy
  go_enter Try.func43, Try.ntmps43
  go_wp2_with fail
  go_region_with (first
    | (go_at_call 80; refine (leave_calls P M nn (q : Int) ss D _ (HB0.out.below (Below.refl _ _).drew) (by omega) HG.out HRp.out).mono ?_; rintro e w1 ⟨rfl, u1, hfin⟩))
  all_goals (
    obtain ⟨D1, hb1, hrep1⟩ := hfin hat
    have hqn : ((q : Int)).toNat = q := by omega
    rw [hqn] at hrep1
    have v1 : OutS (fun k => k = M) (w.alloc (.cells #[.slice (some ⟨bb, 0, none⟩) 4 cb] 41)) w1 := (OutS.of_below ((Below.refl _ _).drew)).trans u1
    have z1 := v1.size
    simp only [World.size_alloc] at z1
    have hPM : P ≠ M := hb1.ne.symm
    have blk1 : Blk w1 g ds := (Blk.loc (S := fun k => k = g) rfl) _ _ (fun k hk hl => v1.block k hl (fun e => hMg (e.symm.trans hk))) HBlk.out
    have y1 : Blk w1 bb zs := (Blk.loc (S := fun k => k = bb) rfl) _ _ (fun k hk hl => v1.block k hl (fun e => hbM (hk.symm.trans e))) HY0.out
    have hs1 := y1.sl
    rw [hzl] at hs1
    have c31 := (World.cell?_of_block (a := ⟨P, 3, none⟩) (v1.block P (by simp; omega) hPM)).trans c30
    have lc1 := (World.cell?_of_block (a := ⟨w.heap.size, 0, none⟩) (v1.block w.heap.size (by simp) (by omega))).trans (HM0.out.cell 0 rfl)
    have HK1 : Hid (KP P w w1) := (KP.of_block (HAl.out.block P hP0)).trans (KP.of_block (v1.block P (by simp; omega) hPM))
    have HO1 : Hid (OutS (fun k => (k = M ∨ k = P) ∨ S k) w w1) := (OutS.of_below HAl.out).trans (v1.mono (fun k h => .inl (.inl h)))
    have HB1 := hide hb1
    rw [← length_leaveS ss q] at hb1
    have HB1' := hide hb1
    have HRp1 := hide hrep1
    have HS1 := hide hs1
    have HBk1 := hide blk1
    clear u1 hfin v1 hb1 hrep1 HB0 HBlk HY0 HM0 HAl HRp blk1 y1 hs1
    go_wp2_with fail
    go_region_with (first
      | (go_at_call 82; refine (markOf_calls (some ⟨bb, 0, none⟩) cb zs _ ?_).mono ?_; exact HS1.out.below (Below.refl _ _).drew (Nat.le_refl _); rintro e w2 ⟨rfl, g2⟩; have k2 := (Below.refl w1.heap.size w1).drew.trans g2; clear g2)
      | (go_at_call 81; refine (enter_calls P M (nn + 1) (leaveS ss q) zs D1 _ (HB1'.out.below k2) (by omega) gl2 HRp1.out hz).mono ?_; rintro e w3 ⟨rfl, u3, hfin3⟩))
    all_goals (
      have z2 := k2.size
      have hP1 := HB1.out.lt
      have blk3 : Blk w3 g ds := (Blk.loc (S := fun k => k = g) rfl) _ _ (fun k hk hl => u3.1.block k hl (fun e => by rcases e with e | e; exact hMg (e.symm.trans hk); exact hPg (e.symm.trans hk))) (HBk1.out.below k2)
      have HK3 : Hid (KP P w w3) := (HK1.out.trans (KP.of_block (k2.block P hP1))).trans u3.2
      have HO3 : Hid (OutS (fun k => (k = M ∨ k = P) ∨ S k) w w3) := (HO1.out.trans (OutS.of_below k2)).trans (u3.1.mono (fun k h => .inl h))
      have c33 := ((HK3.out 3).1 (by omega)).trans c3
      have cj3 := blk3.2.1 j (by omega)
      have fj3 := blk3.2.2 j
      have HBk3 := hide blk3
      clear u3 k2 HB1 HB1' HRp1 HS1 HBk1 HO1 HK1 blk3
      by_cases ht : etC (leaveS ss q) zs = 0
      · obtain ⟨D', hb3, hrep3⟩ := hfin3 ht
        have et : (etC (leaveS ss q) zs != 0) = false := by simp [ht]
        have HEV : Hid (etV (leaveS ss q) zs = (enQ (leaveS ss q) zs : Int)) := if_pos ht
        have Ht := hide ht
        have HB3 := hide (hb3.keepG (row := some g) (setC1_grown w3 g j (.int .i64 (enQ (leaveS ss q) zs : Int))) (fun e => hPg (by injection e)) (fun e => hMg (by injection e)))
        have HRep := hide hrep3
        have HO4 := hide (HO3.out.setCell (p := ⟨g, j, none⟩) (.inr hSg) (.int .i64 (enQ (leaveS ss q) zs : Int)))
        have HK4 := hide (HK3.out.trans (KP.of_block (Below.heap_setCell w3 ⟨g, j, none⟩ (.int .i64 (enQ (leaveS ss q) zs : Int)) P (fun e => hPg e))))
        have HOS : Hid (OS S (some ⟨g, 0, none⟩) dn (ds.set j (enQ (leaveS ss q) zs : Int)) (w3.setCell ⟨g, j, none⟩ (.int .i64 (enQ (leaveS ss q) zs : Int)))) := OS.ofBlk (blk_store HBk3.out (by omega)) hSg (by simpa using hdl) hd1
        rw [HEV.out]
        clear hfin3 ht hb3 hrep3
        go_wp2
        refine bodyPost_ret (v := .tuple #[.int .i64 (enQ (leaveS ss q) zs : Int), .int .i64 0]) (by simp [results, Try.results43, go_sem]) rfl ⟨by rw [HEV.out, Ht.out], HO4.out, HK4.out, fun _ => ⟨HOS.out, D', HB3.out, HRep.out⟩⟩
      · have et : (etC (leaveS ss q) zs != 0) = true := by simp [ht]
        have HEV : Hid (etV (leaveS ss q) zs = 0) := if_neg ht
        have Ht := hide ht
        clear hfin3 ht
        go_wp2
        refine bodyPost_ret (v := .tuple #[.int .i64 0, .int .i64 (etC (leaveS ss q) zs)]) (by simp [results, Try.results43, go_sem]) rfl ⟨by rw [HEV.out], HO3.out, HK3.out, fun h => absurd h Ht.out⟩))

theorem fault_mix {f : Int → Int → Int} {xs ys : List Int} (hf : ∀ x y, f x y = x ∨ f x y = y) (hx : fault xs = 0) (hy : fault ys = 0) : fault (mix f xs ys) = 0 := by
  have lx := fault_len hx
  have ly := fault_len hy
  apply fault_ok
  · rw [length_mix]; exact lx
  · rw [List.all_eq_true]
    intro z hz
    obtain ⟨j, hj, rfl⟩ := List.getElem_of_mem hz
    have hj' : j < xs.length := by rw [length_mix] at hj; exact hj
    have e : (mix f xs ys)[j] = gt (mix f xs ys) j := by simp [gt, hj]
    have h1 := fault_all hx j hj'
    have h2 := fault_all hy j (by omega)
    rw [e, gt_mix f xs ys j hj']
    unfold okI
    rcases hf (gt xs j) (gt ys j) with h | h
    · rw [h]; simp; omega
    · rw [h]; simp; omega

theorem max_or (x y : Int) : max x y = x ∨ max x y = y := by
  rcases Int.le_total x y with h | h
  · exact .inr (Int.max_eq_right h)
  · exact .inl (Int.max_eq_left h)

theorem td_or (x y : Int) : td x y = x ∨ td x y = y := by
  unfold td
  split
  · rename_i h; exact .inl h.symm
  · exact max_or x y

def txQ (ds : List Int) (x : Int) : Nat := (gt ds x.toNat).toNat

def txZ (ss : List (Int × List Int)) (ds : List Int) (x : Int) (zs : List Int) : List Int := mix td (gl ss (txQ ds x)) zs

def txC (ss : List (Int × List Int)) (ts ds : List Int) (x : Int) (zs : List Int) : Int := if tabF ss ts ds = 0 then (if inC ds x = 0 then (if fault zs = 0 then (if thing0 zs = true then etC (leaveS ss (txQ ds x)) (txZ ss ds x zs) else 1) else fault zs) else inC ds x) else tabF ss ts ds

def txV (ss : List (Int × List Int)) (ts ds : List Int) (x : Int) (zs : List Int) : Int := if txC ss ts ds x zs = 0 then (enQ (leaveS ss (txQ ds x)) (txZ ss ds x zs) : Int) else 0

def txS (ss : List (Int × List Int)) (ts ds : List Int) (x : Int) (zs : List Int) : List (Int × List Int) := if txC ss ts ds x zs = 0 then enS (leaveS ss (txQ ds x)) (txZ ss ds x zs) else []

def txT (ss : List (Int × List Int)) (ts ds : List Int) (x : Int) (zs : List Int) : List Int := if txC ss ts ds x zs = 0 then ts else []

def txD (ss : List (Int × List Int)) (ts ds : List Int) (x : Int) (zs : List Int) : List Int := if txC ss ts ds x zs = 0 then ds.set x.toNat (enQ (leaveS ss (txQ ds x)) (txZ ss ds x zs) : Int) else []

theorem inC_zero {l : List Int} {i : Int} (h : inC l i = 0) : 0 ≤ i ∧ i < (l.length : Int) := by
  unfold inC at h
  split at h
  · assumption
  · cases h

set_option maxRecDepth 100000 in
theorem lastDomain_calls (P : Nat) (a : Option Addr) (n c : Nat) (w : World) (_hn : n ≤ 10) (hc : w.cell? ⟨P, 3, none⟩ = some (.slice a n c)) :
    Calls Try.prog 78 #[.pointer (some ⟨P, 0, none⟩)] w fun e w' => e = .returned (.int .i64 ((n : Int) - 1)) ∧ w' = w := by
  go_enter Try.func78, Try.ntmps78
  go_wp2
  go_ret
  exact ⟨rfl, rfl⟩

set_option maxRecDepth 100000 in
set_option maxHeartbeats 1000000 in
theorem domainLabel_calls (P M n : Nat) (ss : List (Int × List Int)) (D : DataW Unit) (a : Option Addr) (l c : Nat) (ts : List Int) (p : Int) (w : World) (hb : Bk w P M (ss.length : Int) n D) (good : Good ss) (rep : Rep ss D) (ct : w.cell? ⟨P, 3, none⟩ = some (.slice a l c)) (hts : Sl w a l ts) (hl : l ≤ 10) (h1 : allS ss ts = true) :
    Calls Try.prog 40 #[.pointer (some ⟨P, 0, none⟩), .int .i64 p] w fun e w' => ∃ ra rn rc, e = .returned (.agg #[.int .i64 (inC ts (p)), .slice ra rn rc]) ∧ OS (InR w.heap.size w'.heap.size) ra rn (inL ss ts (p)) w' ∧ Below w.heap.size w w' := by
  have hP := hb.lt
  obtain ⟨hlen, hts⟩ := hts
  have M0 := (Mm.start w).alloc2 (.int .i64 0) (.slice none 0 0) 55
  have al := (Below.refl w.heap.size w).alloc (Nat.le_refl _) (.cells #[.int .i64 0, .slice none 0 0] 55)
  have ct0 := (al.cell (p := ⟨P, 3, none⟩) hP).trans ct
  have hb0 := hb.below al
  by_cases hin : 0 ≤ p ∧ p < (l : Int)
  · obtain ⟨j, hj⟩ : ∃ j : Nat, p = (j : Int) := ⟨(p).toNat, by omega⟩
    obtain rfl : p = (j : Int) := by omega
    have hjl : j < l := by omega
    obtain ⟨b, off, rfl, hbb, hc⟩ := hts (by omega)
    have ck := (al.cell (p := ⟨b, off + j, none⟩) hbb).trans (hc j hjl)
    rw [hj]
    have HC := hide (inC_yes (l := ts) (j := j) (by omega))
    have HL := hide (inL_yes (ss := ss) (l := ts) (j := j) (by omega))
    have HA := hide (atC_all h1 (j := j) (by omega))
    have n1 : ¬ ((j : Int) < 0) := by omega
    have n2 : ¬ ((l : Int) - 1 < (j : Int)) := by omega
    have j0 : (0 : Int) ≤ (j : Int) := by omega
    have j1 : (j : Int) < (l : Int) := by omega
    have hj10 : (j : Int) ≤ 10 := by omega
    have hjw : IntKind.i64.wrap (j : Int) = (j : Int) := IntWalk.i64_in _ (by omega)
    have HM0 := hide M0
    have HB0 := hide hb0
    clear M0 al hb0 hin hj
    go_enter Try.func40, Try.ntmps40
    go_wp2_with fail
    refine (lastDomain_calls P _ l c _ hl ct0).mono ?_
    rintro e w1 ⟨rfl, rfl⟩
    go_wp2_with fail
    go_region_with (first
      | (go_at_call 79; refine (labelAt_calls P M n (gt ts j) ss D _ (HB0.out.below ((Below.refl _ _).drew)) good rep).mono ?_; rintro e w2 ⟨ra, rn, rc, rfl, o2, g2⟩; have h2 := ((Below.refl (w.alloc (.cells #[.int .i64 0, .slice none 0 0] 55)).heap.size (w.alloc (.cells #[.int .i64 0, .slice none 0 0] 55))).drew).trans g2; have M2 := HM0.out.below h2; have r0 := M2.cell 0 rfl; have r1 := M2.cell 1 rfl; have f0 := M2.fz 0 rfl; have f1 := M2.fz 1 rfl; have HB2 := hide M2.bel; have HO := hide o2; rw [HA.out]; clear g2 h2 M2 o2))
    all_goals go_wp2
    all_goals refine bodyPost_ret (v := .agg #[.int .i64 0, .slice ra rn rc]) (by simp [results, Try.results40, go_sem, r0, r1]) rfl ⟨ra, rn, rc, by rw [HC.out], ?_, (HB2.out.setCell (Nat.le_refl _) _).setCell (Nat.le_refl _) _⟩
    all_goals rw [HL.out]
    all_goals exact (OS.loc w2 _ (fun k hk _ => by rw [Below.heap_setCell _ _ _ _ (fun e => by have := hk.1; simp at e this; omega), Below.heap_setCell _ _ _ _ (fun e => by have := hk.1; simp at e this; omega)]) HO.out).mono (fun k hk => ⟨by have := hk.1; simp at this; omega, by simpa using hk.2⟩)
  · have HC := hide (inC_no (l := ts) (i := p) (by omega))
    have HL := hide (inL_no (ss := ss) (l := ts) (i := p) (by omega))
    have HB := hide M0.bel
    by_cases h0 : p < 0
    · go_enter Try.func40, Try.ntmps40
      clear M0 al hb0 hin
      go_wp2
      refine bodyPost_ret (v := .agg #[.int .i64 4, .slice none 0 0]) (by simp [results, Try.results40, go_sem]) rfl ⟨_, 0, 0, by rw [HC.out], ⟨by rw [HL.out]; rfl, by omega, .inl rfl⟩, (Below.refl _ _).alloc (Nat.le_refl _) _⟩
    · have h2 : (l : Int) - 1 < p := by omega
      go_enter Try.func40, Try.ntmps40
      clear M0 al hb0 hin
      go_wp2_with fail
      refine (lastDomain_calls P _ l c _ hl ct0).mono ?_
      rintro e w1 ⟨rfl, rfl⟩
      go_wp2
      refine bodyPost_ret (v := .agg #[.int .i64 4, .slice none 0 0]) (by simp [results, Try.results40, go_sem]) rfl ⟨_, 0, 0, by rw [HC.out], ⟨by rw [HL.out]; rfl, by omega, .inl rfl⟩, (Below.refl _ _).alloc (Nat.le_refl _) _⟩

set_option maxRecDepth 100000 in
theorem implDomainLabel_calls (a : Option Addr) (n c : Nat) (ss : List (Int × List Int)) (ta : Option Addr) (tn tc : Nat) (ts : List Int) (da : Option Addr) (dn dc : Nat) (ds : List Int) (p : Int) (w : World) (hrt : RT w a n ss ta tn ts da dn ds) :
    Calls Try.prog 20 #[.agg #[.slice a n c, .slice ta tn tc, .slice da dn dc], .int .i64 p] w fun e w' => ∃ ra rn rc, e = .returned (.agg #[.int .i64 (tgC ss ts ds ds (p)), .slice ra rn rc]) ∧ OS (InR w.heap.size w'.heap.size) ra rn (tgL ss ts ds ds (p)) w' ∧ Below w.heap.size w w' := by
  have M0 := ((Mm.start w).alloc3 (.slice a n c) (.slice ta tn tc) (.slice da dn dc) 36).alloc2 (.int .i64 0) (.slice none 0 0) 55
  simp only [World.size_alloc] at M0
  by_cases hf : tabF ss ts ds = 0
  · have ef : (tabF ss ts ds != 0) = false := by simp [hf]
    have HC := hide (tgC_ok (l := ds) (i := p) hf)
    have HL := hide (tgL_ok (l := ds) (i := p) hf)
    obtain ⟨hr, hm, hA1, hA2, _⟩ := tabF_zero hf
    have hml := many_len hm
    have Hf := hide hf
    clear hf hm
    go_enter Try.func20, Try.ntmps20
    go_wp2_with fail
    refine (openTables_calls a n c ss ta tn tc ts da dn dc ds _ (hrt.below M0.bel (Nat.le_refl _))).mono ?_
    rintro e w1 ⟨sz, mo, xa, xn, xc, ya, yn, yc, rfl, g1, hled⟩
    obtain ⟨rfl, M, X1, X2, X3, rfl, l1, l2, l3, l4, l5, own, ox, oy⟩ := hled Hf.out
    have M1 := (M0.below g1).alloc4 (.int .i64 (ss.length : Int)) (.map (some M)) (.slice xa xn xc) (.slice ya yn yc) 80
    have al := (Below.refl w1.heap.size w1).alloc (Nat.le_refl _) (.cells #[.int .i64 (ss.length : Int), .map (some M), .slice xa xn xc, .slice ya yn yc] 80)
    have hbk : Bk (w1.alloc (.cells #[.int .i64 (ss.length : Int), .map (some M), .slice xa xn xc, .slice ya yn yc] 80)) w1.heap.size M (ss.length : Int) ss.length (bk ss ss.length) := ⟨by simp, by simp, by simp, fun j => by simp, ownsMap_below own al (Nat.le_refl _)⟩
    have ox1 := OS.loc.below al ox
    have oy1 := OS.loc.below al oy
    have hxn := ox.1
    have hyn := oy.1
    have ctl := M1.cell 3 rfl
    clear g1 al ox oy own hled M0
    go_wp2_with fail
    refine (domainLabel_calls w1.heap.size M _ ss _ _ _ _ ds p _ hbk (good_of hr) (rep_bk hr) ctl oy1.sl (by omega) hA2).mono ?_
    rintro e w2 ⟨ra, rn, rc, rfl, os2, g2⟩
    have M2 := M1.below g2
    have r0 := M2.cell 4 rfl
    have r1 := M2.cell 5 rfl
    have f0 := M2.fz 4 rfl
    have f1 := M2.fz 5 rfl
    have hl1 := M1.lt 4 rfl
    have hB2 := M1.bel.size
    have HB := hide M2.bel
    have HO := hide os2
    clear M1 M2 g2 os2 hbk ctl ox1 oy1
    go_wp2
    refine bodyPost_ret (v := .agg #[.int .i64 (inC ds (p)), .slice ra rn rc]) (by simp [results, Try.results20, go_sem, r0, r1]) rfl ⟨ra, rn, rc, by rw [HC.out], ?_, (HB.out.setCell (by simp) _).setCell (by simp) _⟩
    rw [HL.out]
    exact (OS.loc w2 _ (fun k hk _ => by rw [Below.heap_setCell _ _ _ _ (fun e => by have := hk.1; simp at e; omega), Below.heap_setCell _ _ _ _ (fun e => by have := hk.1; simp at e; omega)]) HO.out).mono (fun k hk => ⟨by have := hk.1; omega, by simpa using hk.2⟩)
  · have ef : (tabF ss ts ds != 0) = true := by simp [hf]
    have HC := hide (tgC_bad (l := ds) (i := p) hf)
    have HL := hide (tgL_bad (l := ds) (i := p) hf)
    clear hf
    go_enter Try.func20, Try.ntmps20
    go_wp2_with fail
    refine (openTables_calls a n c ss ta tn tc ts da dn dc ds _ (hrt.below M0.bel (Nat.le_refl _))).mono ?_
    rintro e w1 ⟨sz, mo, xa, xn, xc, ya, yn, yc, rfl, g1, _⟩
    have M1 := (M0.below g1).alloc4 (.int .i64 sz) (.map mo) (.slice xa xn xc) (.slice ya yn yc) 80
    have r0 := M1.cell 4 rfl
    have r1 := M1.cell 5 rfl
    have f0 := M1.fz 4 rfl
    have f1 := M1.fz 5 rfl
    have HB := hide M1.bel
    clear M0 M1 g1
    go_wp2
    refine bodyPost_ret (v := .agg #[.int .i64 (tabF ss ts ds), .slice none 0 0]) (by simp [results, Try.results20, go_sem, r0, r1]) rfl ⟨_, 0, 0, by rw [HC.out], ⟨by rw [HL.out]; rfl, by omega, .inl rfl⟩, (HB.out.setCell (by simp) _).setCell (by simp) _⟩

set_option maxRecDepth 100000 in
theorem l3HasDomain_calls (q : Nat) (a : Option Addr) (n c : Nat) (p : Int) (w : World) (_hn : n ≤ 10) (hc : w.cell? ⟨q, 2, none⟩ = some (.slice a n c)) :
    Calls Try.prog 32 #[.pointer (some ⟨q, 0, none⟩), .int .i64 p] w fun e w' => e = .returned (.bool (decide (0 ≤ p ∧ p < (n : Int)))) ∧ Below w.heap.size w w' := by
  go_enter Try.func32, Try.ntmps32
  go_wp2_with fail
  refine (in_calls _ _ _ _).mono ?_
  rintro e w1 ⟨rfl, g1⟩
  go_wp2
  go_ret
  exact ⟨ret_bool (by rw [Bool.eq_iff_iff]; simp; omega), g1⟩

set_option maxRecDepth 100000 in
theorem l3Domain_calls (q : Nat) (a : Option Addr) (n ca : Nat) (ss : List (Int × List Int)) (ta : Option Addr) (tl tc : Nat) (ts : List Int) (j : Nat) (w : World) (good : Good ss) (htl : tl ≤ 10) (hqc : w.cell? ⟨q, 0, none⟩ = some (.slice a n ca)) (hqt : w.cell? ⟨q, 2, none⟩ = some (.slice ta tl tc)) (hx : Sls w a n ss) (ht : Sl w ta tl ts) (h1 : allS ss ts = true) (hj : j < tl) :
    Calls Try.prog 55 #[.pointer (some ⟨q, 0, none⟩), .int .i64 ((j : Int))] w fun e w' => ∃ b o la ll lc, e = .returned (.pointer (some ⟨b, o, none⟩)) ∧ b < w.heap.size ∧ w.cell? ⟨b, o, none⟩ = some (.slice la ll lc) ∧ ll ≤ 4 ∧ Sl w la ll (atL ss (gt ts j)) ∧ Below w.heap.size w w' := by
  have hlen := hx.1
  have few := good.few
  have htlen := ht.1
  obtain ⟨b, off, rfl, hbb, hc⟩ := ht.2 (by omega)
  obtain ⟨s, hs, hsl, hsp, hsa⟩ := allS_at good h1 (j := j) (by omega)
  have ck := hc j hj
  rw [hs] at ck
  obtain ⟨b1, o1, rfl, hb1, hc1⟩ := hx.2 (by omega)
  obtain ⟨_, la, ll, lc, k1, kl, ksl⟩ := hc1 s (by omega)
  have h4 : ll ≤ 4 := by rw [← ksl.1, fault_len (good.right s hsl hsp)]; omega
  have i0 : (0 : Int) ≤ (s : Int) := by omega
  have i1 : (s : Int) < (n : Int) := by omega
  have j0 : (0 : Int) ≤ (j : Int) := by omega
  have j1 : (j : Int) < (tl : Int) := by omega
  have HK := hide k1
  have HS := hide ksl
  have HA := hide hsa
  clear k1 ksl hc1 hc hx ht hsa
  go_enter Try.func55, Try.ntmps55
  go_wp2_with fail
  go_quiet (fail)
  go_wp2
  go_ret
  exact ⟨b1, o1 + s * 2 + 1, la, ll, lc, rfl, hb1, HK.out, h4, by rw [HA.out]; exact HS.out, bdrewN (Below.refl _ _) _⟩

set_option maxRecDepth 100000 in
theorem specDomainLabel_calls (a : Option Addr) (n c : Nat) (ss : List (Int × List Int)) (ta : Option Addr) (tn tc : Nat) (ts : List Int) (da : Option Addr) (dn dc : Nat) (ds : List Int) (p : Int) (w : World) (hrt : RT w a n ss ta tn ts da dn ds) :
    Calls Try.prog 21 #[.agg #[.slice a n c, .slice ta tn tc, .slice da dn dc], .int .i64 p] w fun e w' => ∃ ra rn rc, e = .returned (.agg #[.int .i64 (tgC ss ts ds ds (p)), .slice ra rn rc]) ∧ OS (InR w.heap.size w'.heap.size) ra rn (tgL ss ts ds ds (p)) w' ∧ Below w.heap.size w w' := by
  have M0 := ((Mm.start w).alloc3 (.slice a n c) (.slice ta tn tc) (.slice da dn dc) 36).alloc2 (.int .i64 0) (.slice none 0 0) 55
  simp only [World.size_alloc] at M0
  have hrt0 := hrt.below M0.bel (Nat.le_refl _)
  have hlx := hrt.2.2.2.2.2.1
  by_cases hf : tabF ss ts ds = 0
  · have ef : (tabF ss ts ds != 0) = false := by simp [hf]
    have HC := hide (tgC_ok (l := ds) (i := p) hf)
    have HL := hide (tgL_ok (l := ds) (i := p) hf)
    obtain ⟨hr, hm, hA1, hA2, _⟩ := tabF_zero hf
    have hml := many_len hm
    have good := good_of hr
    clear hf hm
    by_cases hin : 0 ≤ p ∧ p < (dn : Int)
    · have hd : decide (0 ≤ p ∧ p < (dn : Int)) = true := decide_eq_true hin
      obtain ⟨j, hj⟩ : ∃ j : Nat, p = (j : Int) := ⟨(p).toNat, by omega⟩
      obtain rfl : p = (j : Int) := by omega
      have HC2 : Hid (inC ds ((j : Int)) = 0) := by show _ = _; rw [hj]; exact inC_yes (by omega)
      have HL2 : Hid (inL ss ds ((j : Int)) = atL ss (gt ds j)) := by show _ = _; rw [hj]; exact inL_yes (by omega)
      have hjn : j < dn := by omega
      clear hin hj
      go_enter Try.func21, Try.ntmps21
      go_wp2_with fail
      refine (l3Fault_calls _ a n c ss ta tn tc ts da dn dc ds _ (M0.lt 2 rfl) (M0.cell 2 rfl) (M0.cell 3 rfl) (M0.cell 4 rfl) hrt0).mono ?_
      rintro e w1 ⟨rfl, g1⟩
      have M1 := M0.below g1
      have hrt1 := hrt0.below g1 (Nat.le_refl _)
      clear g1 M0 hrt0
      go_wp2_with fail
      refine (l3HasDomain_calls _ da dn dc _ _ (by omega) (M1.cell 4 rfl)).mono ?_
      rintro e w2 ⟨rfl, g2⟩
      rw [hd]
      have M2 := M1.below g2
      have hrt2 := hrt1.below g2 (Nat.le_refl _)
      clear g2 M1 hrt1 hd
      go_wp2_with fail
      refine (l3Domain_calls _ a n c ss da dn dc ds j _ good (by omega) (M2.cell 2 rfl) (M2.cell 4 rfl) hrt2.2.1 hrt2.2.2.2.2.2 hA2 hjn).mono ?_
      rintro e w3 ⟨b, o, la, ll, lc, rfl, hb, cb, h4, ksl, g3⟩
      have M3 := M2.below g3
      have cb3 := (g3.cell (p := ⟨b, o, none⟩) hb).trans cb
      have ksl3 := ksl.below g3 (Nat.le_refl _)
      clear g3 M2 hrt2 cb ksl
      go_wp2_with fail
      refine (l1Copy_O la ll lc _ _ (by omega) ksl3).mono ?_
      rintro e w4 ⟨ra, rc, rfl, os4, g4⟩
      have M4 := M3.below g4
      have r0 := M4.cell 0 rfl
      have r1 := M4.cell 1 rfl
      have f0 := M4.fz 0 rfl
      have f1 := M4.fz 1 rfl
      have hl3 := M3.lt 0 rfl
      have hB3 := M3.bel.size
      have HB := hide M4.bel
      have HO := hide os4
      clear M3 M4 g4 os4 cb3 ksl3
      go_wp2
      refine bodyPost_ret (v := .agg #[.int .i64 0, .slice ra ll rc]) (by simp [results, Try.results21, go_sem, r0, r1]) rfl ⟨ra, ll, rc, by rw [HC.out, HC2.out], ?_, (HB.out.setCell (by simp) _).setCell (by simp) _⟩
      rw [HL.out, HL2.out]
      exact (OS.loc w4 _ (fun k hk _ => by rw [Below.heap_setCell _ _ _ _ (fun e => by have := hk.1; simp at e; omega), Below.heap_setCell _ _ _ _ (fun e => by have := hk.1; simp at e; omega)]) HO.out).mono (fun k hk => ⟨by have := hk.1; omega, by simpa using hk.2⟩)
    · have hd : decide (0 ≤ p ∧ p < (dn : Int)) = false := decide_eq_false hin
      have HC2 := hide (inC_no (l := ds) (i := p) (by omega))
      have HL2 := hide (inL_no (ss := ss) (l := ds) (i := p) (by omega))
      clear hin
      go_enter Try.func21, Try.ntmps21
      go_wp2_with fail
      refine (l3Fault_calls _ a n c ss ta tn tc ts da dn dc ds _ (M0.lt 2 rfl) (M0.cell 2 rfl) (M0.cell 3 rfl) (M0.cell 4 rfl) hrt0).mono ?_
      rintro e w1 ⟨rfl, g1⟩
      have M1 := M0.below g1
      clear g1 M0 hrt0
      go_wp2_with fail
      refine (l3HasDomain_calls _ da dn dc _ _ (by omega) (M1.cell 4 rfl)).mono ?_
      rintro e w2 ⟨rfl, g2⟩
      rw [hd]
      have M2 := M1.below g2
      have r0 := M2.cell 0 rfl
      have r1 := M2.cell 1 rfl
      have f0 := M2.fz 0 rfl
      have f1 := M2.fz 1 rfl
      have HB := hide M2.bel
      clear g2 M1 M2 hd
      go_wp2
      refine bodyPost_ret (v := .agg #[.int .i64 4, .slice none 0 0]) (by simp [results, Try.results21, go_sem, r0, r1]) rfl ⟨_, 0, 0, by rw [HC.out, HC2.out], ⟨by rw [HL.out, HL2.out]; rfl, by omega, .inl rfl⟩, (HB.out.setCell (by simp) _).setCell (by simp) _⟩
  · have ef : (tabF ss ts ds != 0) = true := by simp [hf]
    have HC := hide (tgC_bad (l := ds) (i := p) hf)
    have HL := hide (tgL_bad (l := ds) (i := p) hf)
    clear hf
    go_enter Try.func21, Try.ntmps21
    go_wp2_with fail
    refine (l3Fault_calls _ a n c ss ta tn tc ts da dn dc ds _ (M0.lt 2 rfl) (M0.cell 2 rfl) (M0.cell 3 rfl) (M0.cell 4 rfl) hrt0).mono ?_
    rintro e w1 ⟨rfl, g1⟩
    have M1 := M0.below g1
    have r0 := M1.cell 0 rfl
    have r1 := M1.cell 1 rfl
    have f0 := M1.fz 0 rfl
    have f1 := M1.fz 1 rfl
    have HB := hide M1.bel
    clear M0 M1 g1 hrt0
    go_wp2
    refine bodyPost_ret (v := .agg #[.int .i64 (tabF ss ts ds), .slice none 0 0]) (by simp [results, Try.results21, go_sem, r0, r1]) rfl ⟨_, 0, 0, by rw [HC.out], ⟨by rw [HL.out]; rfl, by omega, .inl rfl⟩, (HB.out.setCell (by simp) _).setCell (by simp) _⟩

set_option maxRecDepth 100000 in
set_option maxHeartbeats 4000000 in
theorem implTaintDomain_calls (a : Option Addr) (n c : Nat) (ss : List (Int × List Int)) (ta : Option Addr) (tn tc : Nat) (ts : List Int) (da : Option Addr) (dn dc : Nat) (ds : List Int) (x : Int) (b : Option Addr) (lb cb : Nat) (zs : List Int) (w : World) (hrt : RT w a n ss ta tn ts da dn ds) (hlb : lb ≤ maxLen) (hy : Sl w b lb zs) :
    Calls Try.prog 10 #[.agg #[.slice a n c, .slice ta tn tc, .slice da dn dc], .int .i64 x, .agg #[.slice b lb cb]] w fun e w' => ∃ ra rn rc xa xn xc ya yn yc, e = .returned (.agg #[.int .i64 (txC ss ts ds x zs), .int .i64 (txV ss ts ds x zs), .slice ra rn rc, .slice xa xn xc, .slice ya yn yc]) ∧
      OT (InR w.heap.size w'.heap.size) ra rn (txS ss ts ds x zs) xa xn (txT ss ts ds x zs) ya yn (txD ss ts ds x zs) w' ∧ Below w.heap.size w w' := by
  have M0 := (((Mm.start w).alloc3 (.slice a n c) (.slice ta tn tc) (.slice da dn dc) 36).alloc1 (.slice b lb cb) 41).alloc5 (.int .i64 0) (.int .i64 0) (.slice none 0 0) (.slice none 0 0) (.slice none 0 0) 38
  simp only [World.size_alloc] at M0
  have hrt0 := hrt.below M0.bel (Nat.le_refl _)
  have hy0 := hy.below M0.bel (Nat.le_refl _)
  go_enter Try.func10, Try.ntmps10
  go_wp2_with fail
  refine (openTables_R a n c ss ta tn tc ts da dn dc ds _ hrt0).mono ?_
  rintro e w1 ⟨sz, mo, xa, xn, xc, ya, yn, yc, rfl, g1, hled⟩
  have M1a := M0.below g1
  have zR := M1a.lt 0 rfl
  have M1 := (M0.below g1).alloc4 (.int .i64 sz) (.map mo) (.slice xa xn xc) (.slice ya yn yc) 80
  have z1 := g1.size
  simp only [World.size_alloc] at z1
  by_cases hf : tabF ss ts ds = 0
  rotate_left
  · have HC : Hid (txC ss ts ds x zs = tabF ss ts ds) := if_neg hf
    have e2 : (tabF ss ts ds != 0) = true := by simpa using hf
    have hf' : txC ss ts ds x zs ≠ 0 := by rw [HC.out]; exact hf
    have HV : Hid (txV ss ts ds x zs = 0) := if_neg hf'
    have HS : Hid (txS ss ts ds x zs = []) := if_neg hf'
    have HT : Hid (txT ss ts ds x zs = []) := if_neg hf'
    have HD : Hid (txD ss ts ds x zs = []) := if_neg hf'
    have c0 := M1a.cell 0 rfl
    have c1 := M1a.cell 1 rfl
    have c2 := M1a.cell 2 rfl
    have c3 := M1a.cell 3 rfl
    have c4 := M1a.cell 4 rfl
    have f0 := M1a.fz 0 rfl
    have f1 := M1a.fz 1 rfl
    have f2 := M1a.fz 2 rfl
    have f3 := M1a.fz 3 rfl
    have f4 := M1a.fz 4 rfl
    have HB := hide M1a.bel
    clear hf hf' M0 M1 M1a g1 hrt0 hy0 hled
    go_wp2
    refine bodyPost_ret (v := .agg #[.int .i64 (tabF ss ts ds), .int .i64 0, .slice none 0 0, .slice none 0 0, .slice none 0 0]) (by simp [results, Try.results10, go_sem, c0, c1, c2, c3, c4, zR]) rfl ⟨_, _, _, _, _, _, _, _, _, by rw [HC.out, HV.out], ?_, (below_set5 HB.out (by omega) _ _ _ _ _).alloc (by simp; omega) _⟩
    rw [HS.out, HT.out, HD.out]
    exact OT.nil _ _ _ _ _
  have HC1 : Hid (txC ss ts ds x zs = if inC ds x = 0 then (if fault zs = 0 then (if thing0 zs = true then etC (leaveS ss (txQ ds x)) (txZ ss ds x zs) else 1) else fault zs) else inC ds x) := if_pos hf
  obtain ⟨rfl, _, M, X1, X2, X3, rfl, l1, l2, l3, l4, l5, own, ox, oy⟩ := hled hf
  simp only [World.size_alloc] at l1
  obtain ⟨hr, hmy, hA1, hA2, _⟩ := tabF_zero hf
  have hml := many_len hmy
  have good := good_of hr
  have few := good.few
  have hyn1 : ds.length ≤ yn := Nat.le_of_eq oy.1.1
  have hyn2 : yn ≤ ds.length := Nat.le_of_eq oy.1.1.symm
  have al := (Below.refl w1.heap.size w1).alloc (Nat.le_refl _) (.cells #[.int .i64 (ss.length : Int), .map (some M), .slice xa xn xc, .slice ya yn yc] 80)
  have hbk : Bk (w1.alloc (.cells #[.int .i64 (ss.length : Int), .map (some M), .slice xa xn xc, .slice ya yn yc] 80)) w1.heap.size M (ss.length : Int) ss.length (bk ss ss.length) := ⟨by simp, by simp, by simp, fun j => by simp, ownsMap_below own al (Nat.le_refl _)⟩
  have hM1 := own.lt
  have ox1 := OS.loc.below al ox.1
  have oy1 := OS.loc.below al oy.1
  have hy1 := (hy0.below g1 (Nat.le_refl _)).below al (Nat.le_refl _)
  have p3 := M1.cell 3 rfl
  rw [hf]
  clear M0 M1a g1 hrt0 hy0 hled own ox oy al hf zR
  go_wp2_with fail
  refine (domainLabel_calls w1.heap.size M ss.length ss _ ya yn yc ds x _ hbk good (rep_bk hr) p3 oy1.sl (by omega) hA2).mono ?_
  rintro e w2 ⟨ra, rn, rc, rfl, o2, g2⟩
  have M2a := M1.below g2
  have zR := M2a.lt 4 rfl
  have z2 := g2.size
  simp only [World.size_alloc] at z2 o2
  by_cases hi : inC ds x = 0
  rotate_left
  · have HC : Hid (txC ss ts ds x zs = inC ds x) := by show _ = _; rw [HC1.out, if_neg hi]
    have e2 : (inC ds x != 0) = true := by simpa using hi
    have hf' : txC ss ts ds x zs ≠ 0 := by rw [HC.out]; exact hi
    have HV : Hid (txV ss ts ds x zs = 0) := if_neg hf'
    have HS : Hid (txS ss ts ds x zs = []) := if_neg hf'
    have HT : Hid (txT ss ts ds x zs = []) := if_neg hf'
    have HD : Hid (txD ss ts ds x zs = []) := if_neg hf'
    have c0 := M2a.cell 4 rfl
    have c1 := M2a.cell 5 rfl
    have c2 := M2a.cell 6 rfl
    have c3 := M2a.cell 7 rfl
    have c4 := M2a.cell 8 rfl
    have f0 := M2a.fz 4 rfl
    have f1 := M2a.fz 5 rfl
    have f2 := M2a.fz 6 rfl
    have f3 := M2a.fz 7 rfl
    have f4 := M2a.fz 8 rfl
    have HB := hide M2a.bel
    clear hi hf' M1 M2a g2 o2 hbk ox1 oy1 hy1 p3 HC1 hr
    go_wp2
    refine bodyPost_ret (v := .agg #[.int .i64 (inC ds x), .int .i64 0, .slice none 0 0, .slice none 0 0, .slice none 0 0]) (by simp [results, Try.results10, go_sem, c0, c1, c2, c3, c4, zR]) rfl ⟨_, _, _, _, _, _, _, _, _, by rw [HC.out, HV.out], ?_, (below_set5 HB.out (by omega) _ _ _ _ _).alloc (by simp; omega) _⟩
    rw [HS.out, HT.out, HD.out]
    exact OT.nil _ _ _ _ _
  have hin := inC_zero hi
  obtain ⟨j, rfl⟩ : ∃ j : Nat, x = (j : Int) := ⟨x.toNat, by omega⟩
  have hjl : j < ds.length := by omega
  have hat := atC_all hA2 hjl
  obtain ⟨q, hq, hql, hqp, hqL, _⟩ := atC_zero good hat
  have hQ : txQ ds (j : Int) = q := by unfold txQ; rw [Int.toNat_natCast, hq, Int.toNat_natCast]
  have HQ := hide hQ
  have HZ : Hid (txZ ss ds (j : Int) zs = mix td (gl ss q) zs) := by show _ = _; unfold txZ; rw [hQ]
  rw [inL_yes hjl, hqL] at o2
  have fo := good.right q hql hqp
  obtain rfl : rn = 4 := by have := o2.1; have := fault_len fo; omega
  have Hq := hide hq
  rw [hq] at hat
  have Hat := hide hat
  have Hr := hide hr
  have HC2 : Hid (txC ss ts ds (j : Int) zs = if fault zs = 0 then (if thing0 zs = true then etC (leaveS ss q) (mix td (gl ss q) zs) else 1) else fault zs) := by show _ = _; rw [HC1.out, if_pos hi, HZ.out, hQ]
  rw [hi]
  have M2 := M2a.alloc2 (.int .i64 0) (.slice ra 4 rc) 55
  have al2 := (Below.refl w2.heap.size w2).alloc (Nat.le_refl _) (.cells #[.int .i64 0, .slice ra 4 rc] 55)
  have hb2 := (hbk.below g2).below al2
  have ox2 := OS.loc.below al2 (OS.loc.below g2 ox1)
  have oy2 := OS.loc.below al2 (OS.loc.below g2 oy1)
  have ow2 := OS.loc.below al2 o2
  have hy2 := (hy1.below g2 (Nat.le_refl _)).below al2 (Nat.le_refl _)
  have lc2 := M2.cell 11 rfl
  clear M1 M2a g2 o2 hbk ox1 oy1 hy1 p3 HC1 hr hq hat hQ hqL al2 zR
  go_wp2_with fail
  refine (implLabelFault_calls b lb cb zs _ hlb hy2).mono ?_
  rintro e w3 ⟨rfl, g3⟩
  have M3 := M2.below g3
  have z3 := g3.size
  simp only [World.size_alloc] at z3
  by_cases hz : fault zs = 0
  rotate_left
  · have HC : Hid (txC ss ts ds (j : Int) zs = fault zs) := by show _ = _; rw [HC2.out, if_neg hz]
    have e2 : (fault zs != 0) = true := by simpa using hz
    have hf' : txC ss ts ds (j : Int) zs ≠ 0 := by rw [HC.out]; exact hz
    have HV : Hid (txV ss ts ds (j : Int) zs = 0) := if_neg hf'
    have HS : Hid (txS ss ts ds (j : Int) zs = []) := if_neg hf'
    have HT : Hid (txT ss ts ds (j : Int) zs = []) := if_neg hf'
    have HD : Hid (txD ss ts ds (j : Int) zs = []) := if_neg hf'
    have c0 := M3.cell 6 rfl
    have c1 := M3.cell 7 rfl
    have c2 := M3.cell 8 rfl
    have c3 := M3.cell 9 rfl
    have c4 := M3.cell 10 rfl
    have f0 := M3.fz 6 rfl
    have f1 := M3.fz 7 rfl
    have f2 := M3.fz 8 rfl
    have f3 := M3.fz 9 rfl
    have f4 := M3.fz 10 rfl
    have HB := hide M3.bel
    clear hi hz hf' M2 M3 g3 hb2 ox2 oy2 ow2 hy2 lc2 HC2
    go_wp2
    refine bodyPost_ret (v := .agg #[.int .i64 (fault zs), .int .i64 0, .slice none 0 0, .slice none 0 0, .slice none 0 0]) (by simp [results, Try.results10, go_sem, c0, c1, c2, c3, c4]) rfl ⟨_, _, _, _, _, _, _, _, _, by rw [HC.out, HV.out], ?_, below_set5 HB.out (by omega) _ _ _ _ _⟩
    rw [HS.out, HT.out, HD.out]
    exact OT.nil _ _ _ _ _
  obtain rfl : lb = 4 := by have := fault_len hz; have := hy.1; omega
  rw [hz]
  have M4 := M3.alloc1 (.slice b 4 cb) 41
  have al4 := (Below.refl w3.heap.size w3).alloc (Nat.le_refl _) (.cells #[.slice b 4 cb] 41)
  have hb4 := (hb2.below g3).below al4
  have ox4 := OS.loc.below al4 (OS.loc.below g3 ox2)
  have oy4 := OS.loc.below al4 (OS.loc.below g3 oy2)
  have ow4 := OS.loc.below al4 (OS.loc.below g3 ow2)
  have hy4 := (hy2.below g3 (Nat.le_refl _)).below al4 (Nat.le_refl _)
  have lc3 := M3.cell 11 rfl
  have lc4 := M4.cell 0 rfl
  clear M2 M3 g3 hb2 ox2 oy2 ow2 hy2 lc2 al4
  go_wp2_with fail
  refine (areThings_calls (some ⟨w3.heap.size, 0, none⟩) 1 1 [zs] _ (by omega) (lbs_one lc4 hlb hy4)).mono ?_
  rintro e w4 ⟨rfl, g4⟩
  rw [things_one hz]
  have M5 := M4.below g4
  have z4 := g4.size
  simp only [World.size_alloc] at z4
  by_cases ht : thing0 zs = true
  rotate_left
  · have htf : thing0 zs = false := by simpa using ht
    have HC : Hid (txC ss ts ds (j : Int) zs = 1) := by show _ = _; rw [HC2.out, if_pos hz, if_neg ht]
    rw [htf]
    have hf' : txC ss ts ds (j : Int) zs ≠ 0 := by rw [HC.out]; decide
    have HV : Hid (txV ss ts ds (j : Int) zs = 0) := if_neg hf'
    have HS : Hid (txS ss ts ds (j : Int) zs = []) := if_neg hf'
    have HT : Hid (txT ss ts ds (j : Int) zs = []) := if_neg hf'
    have HD : Hid (txD ss ts ds (j : Int) zs = []) := if_neg hf'
    have c0 := M5.cell 7 rfl
    have c1 := M5.cell 8 rfl
    have c2 := M5.cell 9 rfl
    have c3 := M5.cell 10 rfl
    have c4 := M5.cell 11 rfl
    have f0 := M5.fz 7 rfl
    have f1 := M5.fz 8 rfl
    have f2 := M5.fz 9 rfl
    have f3 := M5.fz 10 rfl
    have f4 := M5.fz 11 rfl
    have HB := hide M5.bel
    clear hi hz ht htf hf' M4 M5 g4 hb4 ox4 oy4 ow4 hy4 lc3 lc4 HC2
    go_wp2
    refine bodyPost_ret (v := .agg #[.int .i64 1, .int .i64 0, .slice none 0 0, .slice none 0 0, .slice none 0 0]) (by simp [results, Try.results10, go_sem, c0, c1, c2, c3, c4]) rfl ⟨_, _, _, _, _, _, _, _, _, by rw [HC.out, HV.out], ?_, below_set5 HB.out (by omega) _ _ _ _ _⟩
    rw [HS.out, HT.out, HD.out]
    exact OT.nil _ _ _ _ _
  have HC : Hid (txC ss ts ds (j : Int) zs = etC (leaveS ss q) (mix td (gl ss q) zs)) := by show _ = _; rw [HC2.out, if_pos hz, if_pos ht]
  rw [ht]
  have hb5 := hb4.below g4
  have ox5 := OS.loc.below g4 ox4
  have oy5 := OS.loc.below g4 oy4
  have ow5 := OS.loc.below g4 ow4
  have hy5 := hy4.below g4 (Nat.le_refl _)
  have wc5 := M5.cell 2 rfl
  have lc5 := M5.cell 12 rfl
  have hmz : fault (mix td (gl ss q) zs) = 0 := fault_mix td_or fo hz
  clear M4 g4 hb4 ox4 oy4 ow4 hy4 lc3 lc4 HC2 hi ht
  go_wp2_with fail
  refine (taintedBy_calls ra b rc cb (gl ss q) zs _ ow5.sl hy5 fo hz).mono ?_
  rintro e w5 ⟨bb, rfl, ⟨hbl, blk⟩, g5⟩
  have M6 := M5.below g5
  have z5 := g5.size
  have hb6 := hb5.below g5
  have ox6 := OS.loc.below g5 ox5
  have oy6 := OS.loc.below g5 oy5
  have p2 := M6.cell 5 rfl
  have p3 := M6.cell 6 rfl
  clear M5 g5 hb5 ox5 oy5 ow5 hy5 wc5 lc5
  go_wp2_with fail
  refine (relabelDomain_calls w1.heap.size M ss.length j q ss (mix td (gl ss q) zs) _ (InR X2 X3) ya yn yc ds bb 4 _ hb6 (by omega) good (rep_bk Hr.out) hmz p3 oy6 (fun e => by have := e.1; omega) (fun e => by have := e.2; omega) (by omega) blk (by omega) Hq.out hql hqp Hat.out).mono ?_
  rintro e w6 ⟨rfl, u6, k6, hfin⟩
  have z6 := u6.size
  have q2 := ((k6 2).1 (by omega)).trans p2
  have q3 := ((k6 3).1 (by omega)).trans p3
  have M7 : Mm w w6 [(w.heap.size + 1 + 1, 0, .int .i64 0), (w.heap.size + 1 + 1, 1, .int .i64 0), (w.heap.size + 1 + 1, 2, .slice none 0 0), (w.heap.size + 1 + 1, 3, .slice none 0 0), (w.heap.size + 1 + 1, 4, .slice none 0 0)] [] :=
    (M6.sub (fun _ h => by simp only [List.mem_cons, List.not_mem_nil, or_false] at h ⊢; rcases h with h | h | h | h | h <;> simp [h]) (fun _ h => by cases h)).out (B := M) (T := w1.heap.size + 1) (u6.mono (fun k hk => by rcases hk with (hk | hk) | hk; exact ⟨by omega, by omega⟩; exact ⟨by omega, by omega⟩; exact ⟨by have := hk.1; omega, by have := hk.2; omega⟩)) (by omega) (by simp <;> omega) (by simp)
  have ox7 := OS.loc.out u6 (fun k h h' => by have := h.1; have := h.2; rcases h' with (h' | h') | h'; omega; omega; have := h'.1; omega) ox6
  clear M6 u6 k6 hb6 ox6 oy6 p2 p3 blk
  by_cases het : etC (leaveS ss q) (mix td (gl ss q) zs) = 0
  rotate_left
  · have e2 : (etC (leaveS ss q) (mix td (gl ss q) zs) != 0) = true := by simpa using het
    have HEV : Hid (etV (leaveS ss q) (mix td (gl ss q) zs) = 0) := if_neg het
    rw [HEV.out]
    have hf' : txC ss ts ds (j : Int) zs ≠ 0 := by rw [HC.out]; exact het
    have HV : Hid (txV ss ts ds (j : Int) zs = 0) := if_neg hf'
    have HS : Hid (txS ss ts ds (j : Int) zs = []) := if_neg hf'
    have HT : Hid (txT ss ts ds (j : Int) zs = []) := if_neg hf'
    have HD : Hid (txD ss ts ds (j : Int) zs = []) := if_neg hf'
    have c0 := M7.cell 0 rfl
    have c1 := M7.cell 1 rfl
    have c2 := M7.cell 2 rfl
    have c3 := M7.cell 3 rfl
    have c4 := M7.cell 4 rfl
    have f0 := M7.fz 0 rfl
    have f1 := M7.fz 1 rfl
    have f2 := M7.fz 2 rfl
    have f3 := M7.fz 3 rfl
    have f4 := M7.fz 4 rfl
    have HB := hide M7.bel
    clear het hf' M7 ox7 hfin q2 q3
    go_wp2
    refine bodyPost_ret (v := .agg #[.int .i64 (etC (leaveS ss q) (mix td (gl ss q) zs)), .int .i64 0, .slice none 0 0, .slice none 0 0, .slice none 0 0]) (by simp [results, Try.results10, go_sem, c0, c1, c2, c3, c4]) rfl ⟨_, _, _, _, _, _, _, _, _, by rw [HC.out, HV.out], ?_, below_set5 HB.out (by omega) _ _ _ _ _⟩
    rw [HS.out, HT.out, HD.out]
    exact OT.nil _ _ _ _ _
  have HC0 : Hid (txC ss ts ds (j : Int) zs = 0) := HC.out.trans het
  have HV : Hid (txV ss ts ds (j : Int) zs = (enQ (leaveS ss q) (mix td (gl ss q) zs) : Int)) := (if_pos HC0.out).trans (by rw [HZ.out, HQ.out])
  have HS : Hid (txS ss ts ds (j : Int) zs = enS (leaveS ss q) (mix td (gl ss q) zs)) := (if_pos HC0.out).trans (by rw [HZ.out, HQ.out])
  have HT : Hid (txT ss ts ds (j : Int) zs = ts) := if_pos HC0.out
  have HD : Hid (txD ss ts ds (j : Int) zs = ds.set j (enQ (leaveS ss q) (mix td (gl ss q) zs) : Int)) := (if_pos HC0.out).trans (by rw [HZ.out, HQ.out, Int.toNat_natCast])
  obtain ⟨oy7, D3, hb7, hrep⟩ := hfin het
  have gl3 := good_enter (good_leave good hql hqp) hmz het
  have HEV : Hid (etV (leaveS ss q) (mix td (gl ss q) zs) = (enQ (leaveS ss q) (mix td (gl ss q) zs) : Int)) := if_pos het
  rw [HEV.out, het]
  generalize hEq : enQ (leaveS ss q) (mix td (gl ss q) zs) = eq at HV HD oy7 ⊢
  generalize hEs : enS (leaveS ss q) (mix td (gl ss q) zs) = es at HS gl3 hb7 hrep ⊢
  clear HEV het hfin HC hEq hEs hmz
  go_wp2_with fail
  refine (tables_calls w1.heap.size M _ es D3 xa xn xc ya yn yc _ hb7 gl3 hrep q2 q3).mono ?_
  rintro e w7 ⟨b7, rfl, o7, g7⟩
  have M8 := M7.below g7
  have z7 := g7.size
  have ox8 := OS.loc.below g7 ox7
  have oy8 := OS.loc.below g7 oy7
  have c0 := M8.cell 0 rfl
  have c1 := M8.cell 1 rfl
  have c2 := M8.cell 2 rfl
  have c3 := M8.cell 3 rfl
  have c4 := M8.cell 4 rfl
  have f0 := M8.fz 0 rfl
  have f1 := M8.fz 1 rfl
  have f2 := M8.fz 2 rfl
  have f3 := M8.fz 3 rfl
  have f4 := M8.fz 4 rfl
  have HB := hide M8.bel
  have HO : Hid (∀ v0 v1 v2 v3 v4, OT (InR w.heap.size w7.heap.size) (some ⟨b7, 0, none⟩) es.length es xa xn ts ya yn (ds.set j (eq : Int)) (((((w7.setCell ⟨w.heap.size + 1 + 1, 0, none⟩ v0).setCell ⟨w.heap.size + 1 + 1, 1, none⟩ v1).setCell ⟨w.heap.size + 1 + 1, 2, none⟩ v2).setCell ⟨w.heap.size + 1 + 1, 3, none⟩ v3).setCell ⟨w.heap.size + 1 + 1, 4, none⟩ v4)) := fun v0 v1 v2 v3 v4 =>
    OT.ofS (loc_set5 OR.loc o7 (fun e => by have := e.1; omega) v0 v1 v2 v3 v4) (loc_set5 OS.loc ox8 (fun e => by have := e.1; omega) v0 v1 v2 v3 v4) (loc_set5 OS.loc oy8 (fun e => by have := e.1; omega) v0 v1 v2 v3 v4)
      (fun k h => ⟨by have := h.1; omega, by have := h.2; omega⟩) (fun k h => ⟨by have := h.1; omega, by have := h.2; omega⟩) (fun k h => ⟨by have := h.1; omega, by have := h.2; omega⟩)
      (fun k h h' => by have := h.1; have := h'.2; omega) (fun k h h' => by have := h.1; have := h'.2; omega) (fun k h h' => by have := h.2; have := h'.1; omega)
  clear M7 M8 g7 o7 ox7 oy7 ox8 oy8 hb7 hrep q2 q3
  go_wp2
  refine bodyPost_ret (v := .agg #[.int .i64 0, .int .i64 (eq : Int), .slice (some ⟨b7, 0, none⟩) es.length es.length, .slice xa xn xc, .slice ya yn yc]) (by simp [results, Try.results10, go_sem, c0, c1, c2, c3, c4]) rfl ⟨_, _, _, _, _, _, _, _, _, by rw [HC0.out, HV.out], ?_, below_set5 HB.out (by omega) _ _ _ _ _⟩
  rw [HS.out, HT.out, HD.out]
  simpa using HO.out _ _ _ _ _

end Go.Proofs.Ytgkjmeogdomgmaa
