import Derived.Test.YtnlkigjgloeonaaGreatLevels
import Derived.WalkKit
import Derived.ProofKit
import Derived.OpenShut
import Derived.ShutString
import Derived.ChangeOld
import Derived.Below
import Derived.WalkSpells
import Derived.Deep.QuietTactic
import Derived.BigQuiet
import Derived.Deep.RegionWith
import Derived.Deep.WholeRow
import Derived.Deep.DeepCutAuto
import Derived.Deep.RegionHeld2
import Derived.Deep.AppendLies
import Derived.Deep.RegionLaw
namespace Go.Proofs.YtnlkigjgloeonaaGreat
open Go.ChangeShapes Go.WideShapes Go.ChangeAt Go.RowKit

set_option maxRecDepth 100000 in
theorem faultOfBoth_calls (a b : Option Addr) (la ca lb cb : Nat) (xs ys : List Int) (w : World) (hla : la ≤ maxLen) (hlb : lb ≤ maxLen) (hx : Sl w a la xs) (hy : Sl w b lb ys) :
    Calls Tryz.prog 156 #[.agg #[.slice a la ca], .agg #[.slice b lb cb]] w fun e w' => e = .returned (.int .i64 (both xs ys)) ∧ Below w.heap.size w w' := by
  have hb0 := fun o1 o2 => ((Below.refl w.heap.size w).alloc (Nat.le_refl _) o1).alloc (by simp) o2
  by_cases hf : fault xs = 0
  · have hq : (fault xs == 0) = true := by simp [hf]
    have e := both_eq (ys := ys) hf
    rw [e]
    clear e hf
    go_enter Tryz.func156, Tryz.ntmps156
    go_wp2_with fail
    refine (implLabelFault_calls a la ca xs _ hla (hx.below (hb0 _ _) (Nat.le_refl _))).mono ?_
    rintro e w1 ⟨rfl, hb⟩
    have h1 : Below w.heap.size w w1 := (hb0 _ _).trans (hb.mono (by simp; omega))
    have c2 : w1.cell? ⟨w.heap.size + 1, 0, none⟩ = some (.slice b lb cb) := (hb.cell (p := ⟨w.heap.size + 1, 0, none⟩) (by simp)).trans (by go_simp)
    clear hb hb0
    go_wp2_with fail
    refine (implLabelFault_calls b lb cb ys _ hlb (hy.below h1 (Nat.le_refl _))).mono ?_
    rintro e w2 ⟨rfl, hb⟩
    go_wp2
    go_ret
    exact ⟨rfl, h1.trans (hb.mono h1.size)⟩
  · have hq : (fault xs == 0) = false := by simp [hf]
    have e := both_ne (ys := ys) hf
    rw [e]
    clear e hf
    go_enter Tryz.func156, Tryz.ntmps156
    go_wp2_with fail
    refine (implLabelFault_calls a la ca xs _ hla (hx.below (hb0 _ _) (Nat.le_refl _))).mono ?_
    rintro e w1 ⟨rfl, hb⟩
    go_wp2
    go_ret
    exact ⟨rfl, (hb0 _ _).trans (hb.mono (by simp; omega))⟩

theorem both_zero {xs ys : List Int} (h : (both xs ys == 0) = true) : fault xs = 0 ∧ fault ys = 0 := by
  simp only [beq_iff_eq] at h
  unfold both at h
  split at h
  · exact ⟨by assumption, h⟩
  · contradiction

theorem isBelowB_of {xs ys : List Int} (h : fault xs = 0 ∧ fault ys = 0) : isBelowB xs ys = belowB xs ys := by
  unfold isBelowB; rw [h.1, h.2]; rfl

theorem isBelowB_not {xs ys : List Int} (h : (both xs ys == 0) = false) : isBelowB xs ys = false := by
  simp only [beq_eq_false_iff_ne] at h
  unfold both at h
  unfold isBelowB
  split at h
  · rename_i e; rw [e]; simp [h]
  · rename_i e; simp [e]

set_option maxRecDepth 100000 in
theorem implIsBelow_calls (a b : Option Addr) (la ca lb cb : Nat) (xs ys : List Int) (w : World) (hla : la ≤ maxLen) (hlb : lb ≤ maxLen) (hx : Sl w a la xs) (hy : Sl w b lb ys) :
    Calls Tryz.prog 135 #[.agg #[.slice a la ca], .agg #[.slice b lb cb]] w fun e w' => e = .returned (.bool (isBelowB xs ys)) ∧ Below w.heap.size w w' := by
  have hb0 := fun o1 o2 => ((Below.refl w.heap.size w).alloc (Nat.le_refl _) o1).alloc (by simp) o2
  cases hf : (both xs ys == 0) with
  | true =>
    obtain ⟨fx, fy⟩ := both_zero hf
    have e1 : la = 4 := by rw [← hx.1]; exact fault_len fx
    have e2 : lb = 4 := by rw [← hy.1]; exact fault_len fy
    rw [isBelowB_of ⟨fx, fy⟩]
    subst e1 e2
    clear fx fy
    have i0 := idx0
    have i1 := idx1
    have i2 := idx2
    have i3 := idx3
    go_enter Tryz.func135, Tryz.ntmps135
    go_wp2_with fail
    refine (faultOfBoth_calls a b 4 ca 4 cb xs ys _ hla hlb (hx.below (hb0 _ _) (Nat.le_refl _)) (hy.below (hb0 _ _) (Nat.le_refl _))).mono ?_
    rintro e w1 ⟨rfl, hb⟩
    have h1 : Below w.heap.size w w1 := (hb0 _ _).trans (hb.mono (by simp; omega))
    have c1 : w1.cell? ⟨w.heap.size, 0, none⟩ = some (.slice a 4 ca) := (hb.cell (p := ⟨w.heap.size, 0, none⟩) (by simp; omega)).trans (by go_simp)
    have c2 : w1.cell? ⟨w.heap.size + 1, 0, none⟩ = some (.slice b 4 cb) := (hb.cell (p := ⟨w.heap.size + 1, 0, none⟩) (by simp)).trans (by go_simp)
    have hN : w.heap.size + 1 < w1.heap.size := by have := hb.size; simp at this; omega
    clear hb hb0
    go_wp2_with fail
    refine (levelsOf_calls b cb ys _ (hy.below h1 (Nat.le_refl _))).mono ?_
    rintro e w2 ⟨rfl, hb2⟩
    have c12 := (hb2.cell (p := ⟨w.heap.size, 0, none⟩) (by show w.heap.size < _; omega)).trans c1
    have h2 : Below w.heap.size w w2 := h1.trans (hb2.mono h1.size)
    have hN2 : w.heap.size < w2.heap.size := by have := hb2.size; omega
    clear hb2 c1 c2
    unfold ints4
    go_wp2_with fail
    refine (levelsOf_calls a ca xs _ (hx.below (h2.alloc h2.size _) (Nat.le_refl _))).mono ?_
    rintro e w3 ⟨rfl, hb3⟩
    have u0 : w3.cell? ⟨w2.heap.size, 0, none⟩ = some (.int .i64 (gt ys 0)) := (hb3.cell (p := ⟨w2.heap.size, 0, none⟩) (by simp)).trans (by go_simp)
    have u1 : w3.cell? ⟨w2.heap.size, 1, none⟩ = some (.int .i64 (gt ys 1)) := (hb3.cell (p := ⟨w2.heap.size, 1, none⟩) (by simp)).trans (by go_simp)
    have u2 : w3.cell? ⟨w2.heap.size, 2, none⟩ = some (.int .i64 (gt ys 2)) := (hb3.cell (p := ⟨w2.heap.size, 2, none⟩) (by simp)).trans (by go_simp)
    have u3 : w3.cell? ⟨w2.heap.size, 3, none⟩ = some (.int .i64 (gt ys 3)) := (hb3.cell (p := ⟨w2.heap.size, 3, none⟩) (by simp)).trans (by go_simp)
    have h3 : Below w.heap.size w w3 := (h2.alloc h2.size _).trans (hb3.mono (by simp; omega))
    clear hb3
    unfold ints4
    go_wp2
    go_loop [16] (fun i => ∃ k : Nat, k ≤ 4 ∧ i = .int .i64 k ∧ ∀ j, j < k → gt xs j ≤ gt ys j) (fun i => 4 - (intOf i).toNat)
    case atStart => exact ⟨0, Nat.zero_le _, rfl, fun j hj => by omega⟩
    case round =>
      obtain ⟨k, hk, rfl, hall⟩ := hrel
      have Hall : Hid (∀ j, j < k → gt xs j ≤ gt ys j) := hall
      clear hall
      rcases (by omega : k = 0 ∨ k = 1 ∨ k = 2 ∨ k = 3 ∨ k = 4) with rfl | rfl | rfl | rfl | rfl
      · by_cases he : gt ys 0 < gt xs 0
        · go_wp2
          go_ret
          exact ⟨ret_bool (belowB_no (by omega) he).symm, h3⟩
        · go_wp2
          go_round
          case rel => exact ⟨1, by omega, by go_num, fun j hj => by (by_cases e : j = 0); (subst e; omega); exact Hall.out j (by omega)⟩
          case measure => simp [intOf]
      · by_cases he : gt ys 1 < gt xs 1
        · go_wp2
          go_ret
          exact ⟨ret_bool (belowB_no (by omega) he).symm, h3⟩
        · go_wp2
          go_round
          case rel => exact ⟨2, by omega, by go_num, fun j hj => by (by_cases e : j = 1); (subst e; omega); exact Hall.out j (by omega)⟩
          case measure => simp [intOf]
      · by_cases he : gt ys 2 < gt xs 2
        · go_wp2
          go_ret
          exact ⟨ret_bool (belowB_no (by omega) he).symm, h3⟩
        · go_wp2
          go_round
          case rel => exact ⟨3, by omega, by go_num, fun j hj => by (by_cases e : j = 2); (subst e; omega); exact Hall.out j (by omega)⟩
          case measure => simp [intOf]
      · by_cases he : gt ys 3 < gt xs 3
        · go_wp2
          go_ret
          exact ⟨ret_bool (belowB_no (by omega) he).symm, h3⟩
        · go_wp2
          go_round
          case rel => exact ⟨4, by omega, by go_num, fun j hj => by (by_cases e : j = 3); (subst e; omega); exact Hall.out j (by omega)⟩
          case measure => simp [intOf]
      · go_wp2
        go_ret
        exact ⟨ret_bool (belowB_yes (fun j hj => Hall.out j (by omega))).symm, h3⟩
  | false =>
    rw [isBelowB_not hf]
    go_enter Tryz.func135, Tryz.ntmps135
    go_wp2_with fail
    refine (faultOfBoth_calls a b la ca lb cb xs ys _ hla hlb (hx.below (hb0 _ _) (Nat.le_refl _)) (hy.below (hb0 _ _) (Nat.le_refl _))).mono ?_
    rintro e w1 ⟨rfl, hb⟩
    go_wp2
    go_ret
    exact ⟨rfl, (hb0 _ _).trans (hb.mono (by simp; omega))⟩

end Go.Proofs.YtnlkigjgloeonaaGreat
