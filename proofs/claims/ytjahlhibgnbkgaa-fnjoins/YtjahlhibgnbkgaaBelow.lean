import Derived.Test.YtjahlhibgnbkgaaFault
import Derived.WalkKit
import Derived.ProofKit
import Derived.OpenShut
import Derived.ShutString
import Derived.ChangeOld
import Derived.Below
import Derived.WalkSpells
import Derived.Deep.QuietTactic
import Derived.BigQuiet
import Derived.Deep.RegionWith
import Derived.Deep.WholeRow
import Derived.Deep.DeepCutAuto
import Derived.Deep.RegionHeld2
import Derived.Deep.AppendLies
import Derived.Deep.RegionLaw
namespace Go.Proofs.Ytjahlhibgnbkgaa
open Go.ChangeShapes Go.WideShapes Go.ChangeAt Go.RowKit

set_option maxRecDepth 100000 in
theorem l1Right_calls (p q : Nat) (a b : Option Addr) (la ca lb cb : Nat) (xs ys : List Int) (w : World) (hla : la ≤ maxLen) (hlb : lb ≤ maxLen) (hp : p < w.heap.size) (hq : q < w.heap.size)
    (hpc : w.cell? ⟨p, 0, none⟩ = some (.slice a la ca)) (hqc : w.cell? ⟨q, 0, none⟩ = some (.slice b lb cb)) (hx : Sl w a la xs) (hy : Sl w b lb ys) :
    Calls Try.prog 48 #[.pointer (some ⟨p, 0, none⟩), .pointer (some ⟨q, 0, none⟩)] w fun e w' => e = .returned (.bool ((fault xs == 0) && (fault ys == 0))) ∧ Below w.heap.size w w' := by
  cases hf : (fault xs == 0) with
  | true =>
    go_enter Try.func48, Try.ntmps48
    go_wp2_with fail
    refine (l1Fault_calls p a la ca xs _ hla hp hpc hx).mono ?_
    rintro e w1 ⟨rfl, hb⟩
    have c1 := (hb.cell (p := ⟨q, 0, none⟩) hq).trans hqc
    go_wp2_with fail
    refine (l1Fault_calls q b lb cb ys _ hlb (by have := hb.size; omega) c1 (hy.below hb (Nat.le_refl _))).mono ?_
    rintro e w2 ⟨rfl, hb2⟩
    go_wp2
    go_ret
    exact ⟨ret_bool (by simp), hb.trans (hb2.mono hb.size)⟩
  | false =>
    go_enter Try.func48, Try.ntmps48
    go_wp2_with fail
    refine (l1Fault_calls p a la ca xs _ hla hp hpc hx).mono ?_
    rintro e w1 ⟨rfl, hb⟩
    go_wp2
    go_ret
    exact ⟨rfl, hb⟩

set_option maxRecDepth 100000 in
theorem l1Below_calls (p q : Nat) (a b : Option Addr) (ca cb : Nat) (xs ys : List Int) (w : World) (hp : p < w.heap.size) (hq : q < w.heap.size)
    (hpc : w.cell? ⟨p, 0, none⟩ = some (.slice a 4 ca)) (hqc : w.cell? ⟨q, 0, none⟩ = some (.slice b 4 cb)) (hx : Sl w a 4 xs) (hy : Sl w b 4 ys) :
    Calls Try.prog 49 #[.pointer (some ⟨p, 0, none⟩), .pointer (some ⟨q, 0, none⟩)] w fun e w' => e = .returned (.bool (belowB xs ys)) ∧ Below w.heap.size w w' := by
  obtain ⟨hxl, hx⟩ := hx
  obtain ⟨hyl, hy⟩ := hy
  obtain ⟨b1, o1, rfl, hb1, hc1⟩ := hx (by omega)
  obtain ⟨b2, o2, rfl, hb2, hc2⟩ := hy (by omega)
  go_enter Try.func49, Try.ntmps49
  go_wp2
  go_loopw [5] (fun i wr => ∃ k : Nat, k ≤ 4 ∧ i = .int .i64 k ∧ Below w.heap.size w wr ∧ ∀ j, j < k → gt xs j ≤ gt ys j) (fun i _ => 4 - (intOf i).toNat)
  case atStart => exact ⟨0, Nat.zero_le _, rfl, Below.refl _ _, fun j hj => by omega⟩
  case round =>
    obtain ⟨k, hk, rfl, hbel, hall⟩ := hrel
    have Hall : Hid (∀ j, j < k → gt xs j ≤ gt ys j) := hall
    clear hall
    have hpr := (hbel.cell (p := ⟨p, 0, none⟩) hp).trans hpc
    have hqr := (hbel.cell (p := ⟨q, 0, none⟩) hq).trans hqc
    by_cases hlt : k < 4
    · have hck1 := (hbel.cell (p := ⟨b1, o1 + k, none⟩) hb1).trans (hc1 k hlt)
      have hck2 := (hbel.cell (p := ⟨b2, o2 + k, none⟩) hb2).trans (hc2 k hlt)
      have hki : (k : Int) < 4 := by omega
      by_cases he : gt ys k < gt xs k
      · go_wp2_with fail
        go_quiet (fail)
        go_wp2
        go_ret
        exact ⟨ret_bool (belowB_no hlt he).symm, bdrewN hbel _⟩
      · have hle : gt xs k ≤ gt ys k := by omega
        go_wp2_with fail
        go_quiet (fail)
        go_wp2
        go_roundw
        case rel => exact ⟨k + 1, by omega, by go_num, bdrewN hbel _, fun j hj => by (by_cases e : j = k); (subst e; exact hle); exact Hall.out j (by omega)⟩
        case measure => simp [intOf]; omega
    · go_wp2
      go_ret
      exact ⟨ret_bool (belowB_yes (fun j hj => Hall.out j (by omega))).symm, hbel⟩

set_option maxRecDepth 100000 in
theorem specIsBelow_calls (a b : Option Addr) (la ca lb cb : Nat) (xs ys : List Int) (w : World) (hla : la ≤ maxLen) (hlb : lb ≤ maxLen) (hx : Sl w a la xs) (hy : Sl w b lb ys) :
    Calls Try.prog 14 #[.agg #[.slice a la ca], .agg #[.slice b lb cb]] w fun e w' => e = .returned (.bool (isBelowB xs ys)) ∧ Below w.heap.size w w' := by
  have hb0 := fun o1 o2 => ((Below.refl w.heap.size w).alloc (Nat.le_refl _) o1).alloc (by simp) o2
  cases hf : ((fault xs == 0) && (fault ys == 0)) with
  | true =>
    have e : isBelowB xs ys = belowB xs ys := by unfold isBelowB; rw [hf]; rfl
    have Hf := hide hf
    rw [e]
    clear e hf
    go_enter Try.func14, Try.ntmps14
    go_wp2_with fail
    refine (l1Right_calls _ _ a b la ca lb cb xs ys _ hla hlb (by simp; omega) (by simp) (by go_simp) (by go_simp) (hx.below (hb0 _ _) (Nat.le_refl _)) (hy.below (hb0 _ _) (Nat.le_refl _))).mono ?_
    rintro e w1 ⟨rfl, hb⟩
    rw [Hf.out]
    have h1 : Below w.heap.size w w1 := (hb0 _ _).trans (hb.mono (by simp; omega))
    have c1 : w1.cell? ⟨w.heap.size, 0, none⟩ = some (.slice a la ca) := (hb.cell (p := ⟨w.heap.size, 0, none⟩) (by simp; omega)).trans (by go_simp)
    have c2 : w1.cell? ⟨w.heap.size + 1, 0, none⟩ = some (.slice b lb cb) := (hb.cell (p := ⟨w.heap.size + 1, 0, none⟩) (by simp)).trans (by go_simp)
    have hN : w.heap.size + 1 < w1.heap.size := by have := hb.size; simp at this; omega
    clear hb hb0
    have hf := Hf.out
    simp only [Bool.and_eq_true, beq_iff_eq] at hf
    have e1 : la = 4 := by rw [← hx.1]; exact fault_len hf.1
    have e2 : lb = 4 := by rw [← hy.1]; exact fault_len hf.2
    subst e1 e2
    clear hf
    go_wp2_with fail
    refine (l1Below_calls _ _ a b ca cb xs ys _ (by omega) hN c1 c2 (hx.below h1 (Nat.le_refl _)) (hy.below h1 (Nat.le_refl _))).mono ?_
    rintro e w2 ⟨rfl, hb⟩
    go_wp2
    go_ret
    exact ⟨rfl, h1.trans (hb.mono h1.size)⟩
  | false =>
    have e : isBelowB xs ys = false := by unfold isBelowB; rw [hf]; rfl
    have Hf := hide hf
    rw [e]
    clear e hf
    go_enter Try.func14, Try.ntmps14
    go_wp2_with fail
    refine (l1Right_calls _ _ a b la ca lb cb xs ys _ hla hlb (by simp; omega) (by simp) (by go_simp) (by go_simp) (hx.below (hb0 _ _) (Nat.le_refl _)) (hy.below (hb0 _ _) (Nat.le_refl _))).mono ?_
    rintro e w1 ⟨rfl, hb⟩
    rw [Hf.out]
    go_wp2
    go_ret
    exact ⟨rfl, (hb0 _ _).trans (hb.mono (by simp; omega))⟩

set_option maxRecDepth 100000 in
theorem faultOfBoth_calls (a b : Option Addr) (la ca lb cb : Nat) (xs ys : List Int) (w : World) (hla : la ≤ maxLen) (hlb : lb ≤ maxLen) (hx : Sl w a la xs) (hy : Sl w b lb ys) :
    Calls Try.prog 45 #[.agg #[.slice a la ca], .agg #[.slice b lb cb]] w fun e w' => e = .returned (.int .i64 (both xs ys)) ∧ Below w.heap.size w w' := by
  have hb0 := fun o1 o2 => ((Below.refl w.heap.size w).alloc (Nat.le_refl _) o1).alloc (by simp) o2
  by_cases hf : fault xs = 0
  · have hq : (fault xs == 0) = true := by simp [hf]
    have e := both_eq (ys := ys) hf
    rw [e]
    clear e hf
    go_enter Try.func45, Try.ntmps45
    go_wp2_with fail
    refine (implLabelFault_calls a la ca xs _ hla (hx.below (hb0 _ _) (Nat.le_refl _))).mono ?_
    rintro e w1 ⟨rfl, hb⟩
    have h1 : Below w.heap.size w w1 := (hb0 _ _).trans (hb.mono (by simp; omega))
    have c2 : w1.cell? ⟨w.heap.size + 1, 0, none⟩ = some (.slice b lb cb) := (hb.cell (p := ⟨w.heap.size + 1, 0, none⟩) (by simp)).trans (by go_simp)
    clear hb hb0
    go_wp2_with fail
    refine (implLabelFault_calls b lb cb ys _ hlb (hy.below h1 (Nat.le_refl _))).mono ?_
    rintro e w2 ⟨rfl, hb⟩
    go_wp2
    go_ret
    exact ⟨rfl, h1.trans (hb.mono h1.size)⟩
  · have hq : (fault xs == 0) = false := by simp [hf]
    have e := both_ne (ys := ys) hf
    rw [e]
    clear e hf
    go_enter Try.func45, Try.ntmps45
    go_wp2_with fail
    refine (implLabelFault_calls a la ca xs _ hla (hx.below (hb0 _ _) (Nat.le_refl _))).mono ?_
    rintro e w1 ⟨rfl, hb⟩
    go_wp2
    go_ret
    exact ⟨rfl, (hb0 _ _).trans (hb.mono (by simp; omega))⟩

set_option maxRecDepth 100000 in
theorem lwNums_calls (a b : Option Addr) (la ca lb cb : Nat) (xs ys : List Int) (w : World) (hla : la ≤ maxLen) (hlb : lb ≤ maxLen) (hx : Sl w a la xs) (hy : Sl w b lb ys) :
    Calls Try.prog 13 #[.slice a la ca, .slice b lb cb] w fun e w' => e = .returned (.bool (decide (xs = ys))) ∧ Below w.heap.size w w' := by
  unfold maxLen at hla hlb
  obtain ⟨hxl, hx⟩ := hx
  obtain ⟨hyl, hy⟩ := hy
  by_cases hne : la = lb
  · subst hne
    have hn : ((la : Int) == (la : Int)) = true := by simp
    · go_enter Try.func13, Try.ntmps13
      go_wp2
      go_loopw [5] (fun i wr => ∃ k : Nat, k ≤ la ∧ i = .int .i64 k ∧ Below w.heap.size w wr ∧ ∀ j, j < k → gt xs j = gt ys j) (fun i _ => la - (intOf i).toNat)
      case atStart => exact ⟨0, Nat.zero_le _, rfl, Below.refl _ _, fun j hj => by omega⟩
      case round =>
        obtain ⟨k, hk, rfl, hbel, hall⟩ := hrel
        have Hall : Hid (∀ j, j < k → gt xs j = gt ys j) := hall
        clear hall
        by_cases hlt : k < la
        · obtain ⟨b1, o1, rfl, hb1, hc1⟩ := hx (by omega)
          obtain ⟨b2, o2, rfl, hb2, hc2⟩ := hy (by omega)
          have hck1 := (hbel.cell (p := ⟨b1, o1 + k, none⟩) hb1).trans (hc1 k hlt)
          have hck2 := (hbel.cell (p := ⟨b2, o2 + k, none⟩) hb2).trans (hc2 k hlt)
          have hki : (k : Int) < (la : Int) := by omega
          by_cases he : gt xs k = gt ys k
          · have hbq : (gt xs k != gt ys k) = false := by simp [he]
            have He : Hid (gt xs k = gt ys k) := he
            clear he
            go_wp2_with fail
            go_quiet (fail)
            go_wp2
            go_roundw
            case rel => exact ⟨k + 1, by omega, by go_num, bdrewN hbel _, fun j hj => by (by_cases e : j = k); (subst e; exact He.out); exact Hall.out j (by omega)⟩
            case measure => simp [intOf]; omega
          · have hbq : (gt xs k != gt ys k) = true := by simp [he]
            go_wp2_with fail
            go_quiet (fail)
            go_wp2
            go_ret
            exact ⟨ret_bool (by simp; intro e; exact he (by rw [e])), bdrewN hbel _⟩
        · go_wp2
          go_ret
          exact ⟨ret_bool (by simp; exact getD_ext (by omega) (fun i hi => Hall.out i (by omega))), hbel⟩
  · have hn : ((la : Int) == (lb : Int)) = false := by simp; omega
    go_enter Try.func13, Try.ntmps13
    go_wp2
    go_ret
    exact ⟨ret_bool (by simp; intro e; rw [e] at hxl; omega), Below.refl _ _⟩

end Go.Proofs.Ytjahlhibgnbkgaa
