import Derived.Test.YtnhpoaclapofpaaRows
import Derived.Test.YtnhpoaclapofpaaSepI
import Derived.WalkKit
import Derived.ProofKit
import Derived.OpenShut
import Derived.ShutString
import Derived.ChangeOld
import Derived.Below
import Derived.WalkSpells
import Derived.Deep.QuietTactic
import Derived.BigQuiet
import Derived.Deep.RegionWith
import Derived.Deep.WholeRow
import Derived.Deep.DeepCutAuto
import Derived.Deep.RegionHeld2
import Derived.Deep.AppendLies
import Derived.Deep.RegionLaw
namespace Go.Proofs.Ytnhpoaclapofpaa
open Go.ChangeShapes Go.WideShapes Go.ChangeAt Go.RowKit

/-- is v one of l to m? -/
def inB (v l m : Int) : Bool := decide (l ≤ v) && decide (v ≤ m)

theorem inB_true {v l m : Int} (h : l ≤ v) (k : v ≤ m) : inB v l m = true := by simp [inB, h, k]

theorem inB_low {v l m : Int} (h : v < l) : inB v l m = false := by simp [inB]; omega

theorem inB_high {v l m : Int} (h : m < v) : inB v l m = false := by simp [inB]; omega

/-- an event's fault. -/
def evC (k n p : Int) : Int := if (!inB k 1 3 || (k == 2 && p != 0) || (k == 3 && n != 0)) = true then 1 else if ((k == 1 && !inB n 1 30) || !inB p 0 999) = true then 3 else 0

set_option maxRecDepth 100000 in
theorem isUp_calls (v m : Int) (w : World) :
    Calls Try.prog 8 #[.int .i64 v, .int .i64 m] w fun e w' => e = .returned (.bool (inB v 0 m)) ∧ w' = w := by
  by_cases h1 : 0 ≤ v
  · by_cases h2 : v ≤ m
    all_goals
      go_enter Try.func8, Try.ntmps8
      go_wp2
      go_ret
      exact ⟨ret_bool (by simp [inB, h1, h2]), rfl⟩
  · go_enter Try.func8, Try.ntmps8
    go_wp2
    go_ret
    exact ⟨ret_bool (by simp [inB]; omega), rfl⟩

set_option maxRecDepth 100000 in
theorem in_calls (v l m : Int) (w : World) :
    Calls Try.prog 7 #[.int .i64 v, .int .i64 l, .int .i64 m] w fun e w' => e = .returned (.bool (inB v l m)) ∧ w' = w := by
  by_cases h1 : l ≤ v
  · by_cases h2 : v ≤ m
    all_goals
      go_enter Try.func7, Try.ntmps7
      go_wp2
      go_ret
      exact ⟨ret_bool (by simp [inB, h1, h2]), rfl⟩
  · go_enter Try.func7, Try.ntmps7
    go_wp2
    go_ret
    exact ⟨ret_bool (by simp [inB]; omega), rfl⟩

set_option maxRecDepth 100000 in
theorem implEventFault_calls (k n p : Int) (w : World) :
    Calls Try.prog 6 #[.agg #[.int .i64 k, .int .i64 n, .int .i64 p]] w fun e w' => e = .returned (.int .i64 (evC k n p)) ∧ Below w.heap.size w w' := by
  have HB := hide ((Below.refl w.heap.size w).alloc (Nat.le_refl _) (.cells #[.int .i64 k, .int .i64 n, .int .i64 p] 25))
  rcases (show k < 1 ∨ 3 < k ∨ k = 1 ∨ k = 2 ∨ k = 3 by omega) with hk | hk | rfl | rfl | rfl
  · have hki : inB k 1 3 = false := inB_low hk
    have e1 : (k == 1) = false := (by simp; omega)
    have e2 : (k == 2) = false := (by simp; omega)
    have e3 : (k == 3) = false := (by simp; omega)
    have HR : Hid (evC k n p = 1) := hide (by simp [evC, hki])
    go_enter Try.func6, Try.ntmps6
    go_wp2_with (go_at_call 8; refine (isUp_calls _ _ _).mono ?_; rintro e w' ⟨rfl, rfl⟩)
    go_ret
    exact ⟨ret_int HR.out.symm, HB.out⟩
  · have hki : inB k 1 3 = false := inB_high hk
    have e1 : (k == 1) = false := (by simp; omega)
    have e2 : (k == 2) = false := (by simp; omega)
    have e3 : (k == 3) = false := (by simp; omega)
    have HR : Hid (evC k n p = 1) := hide (by simp [evC, hki])
    go_enter Try.func6, Try.ntmps6
    go_wp2_with (go_at_call 8; refine (isUp_calls _ _ _).mono ?_; rintro e w' ⟨rfl, rfl⟩)
    go_ret
    exact ⟨ret_int HR.out.symm, HB.out⟩
  · have hki : inB 1 1 3 = true := (by decide)
    by_cases hn1 : 1 ≤ n
    · have hn1a : ¬ n < 1 := (by omega)
      by_cases hn3 : n ≤ 30
      · have hn3a : ¬ 30 < n := (by omega)
        have hni := inB_true hn1 hn3
        by_cases hp0 : 0 ≤ p
        · by_cases hp9 : p ≤ 999
          · have hpi := inB_true hp0 hp9
            have HR : Hid (evC 1 n p = 0) := hide (by simp [evC, hki, hni, hpi])
            go_enter Try.func6, Try.ntmps6
            go_wp2_with (go_at_call 8; refine (isUp_calls _ _ _).mono ?_; rintro e w' ⟨rfl, rfl⟩)
            go_ret
            exact ⟨ret_int HR.out.symm, HB.out⟩
          · have hpi : inB p 0 999 = false := inB_high (by omega)
            have HR : Hid (evC 1 n p = 3) := hide (by simp [evC, hki, hni, hpi])
            go_enter Try.func6, Try.ntmps6
            go_wp2_with (go_at_call 8; refine (isUp_calls _ _ _).mono ?_; rintro e w' ⟨rfl, rfl⟩)
            go_ret
            exact ⟨ret_int HR.out.symm, HB.out⟩
        · have hpi : inB p 0 999 = false := inB_low (by omega)
          have HR : Hid (evC 1 n p = 3) := hide (by simp [evC, hki, hni, hpi])
          go_enter Try.func6, Try.ntmps6
          go_wp2_with (go_at_call 8; refine (isUp_calls _ _ _).mono ?_; rintro e w' ⟨rfl, rfl⟩)
          go_ret
          exact ⟨ret_int HR.out.symm, HB.out⟩
      · have hn3a : 30 < n := (by omega)
        have hni : inB n 1 30 = false := inB_high hn3a
        have HR : Hid (evC 1 n p = 3) := hide (by simp [evC, hki, hni])
        go_enter Try.func6, Try.ntmps6
        go_wp2_with (go_at_call 8; refine (isUp_calls _ _ _).mono ?_; rintro e w' ⟨rfl, rfl⟩)
        go_ret
        exact ⟨ret_int HR.out.symm, HB.out⟩
    · have hn1a : n < 1 := (by omega)
      have hni : inB n 1 30 = false := inB_low hn1a
      have HR : Hid (evC 1 n p = 3) := hide (by simp [evC, hki, hni])
      go_enter Try.func6, Try.ntmps6
      go_wp2_with (go_at_call 8; refine (isUp_calls _ _ _).mono ?_; rintro e w' ⟨rfl, rfl⟩)
      go_ret
      exact ⟨ret_int HR.out.symm, HB.out⟩
  · have hki : inB 2 1 3 = true := (by decide)
    by_cases hp : p = 0
    · subst hp
      have HR : Hid (evC 2 n 0 = 0) := hide (by simp [evC, hki, inB_true (show (0 : Int) ≤ 0 by omega) (show (0 : Int) ≤ 999 by omega)])
      go_enter Try.func6, Try.ntmps6
      go_wp2_with (go_at_call 8; refine (isUp_calls _ _ _).mono ?_; rintro e w' ⟨rfl, rfl⟩)
      go_ret
      exact ⟨ret_int HR.out.symm, HB.out⟩
    · have hp1 : (p == 0) = false := (by simp [hp])
      have hp2 : (p != 0) = true := (by simp [hp])
      have HR : Hid (evC 2 n p = 1) := hide (by simp [evC, hki, hp2])
      go_enter Try.func6, Try.ntmps6
      go_wp2_with (go_at_call 8; refine (isUp_calls _ _ _).mono ?_; rintro e w' ⟨rfl, rfl⟩)
      go_ret
      exact ⟨ret_int HR.out.symm, HB.out⟩
  · have hki : inB 3 1 3 = true := (by decide)
    by_cases hn : n = 0
    · subst hn
      by_cases hp0 : 0 ≤ p
      · by_cases hp9 : p ≤ 999
        · have hpi := inB_true hp0 hp9
          have HR : Hid (evC 3 0 p = 0) := hide (by simp [evC, hki, hpi])
          go_enter Try.func6, Try.ntmps6
          go_wp2_with (go_at_call 8; refine (isUp_calls _ _ _).mono ?_; rintro e w' ⟨rfl, rfl⟩)
          go_ret
          exact ⟨ret_int HR.out.symm, HB.out⟩
        · have hpi : inB p 0 999 = false := inB_high (by omega)
          have HR : Hid (evC 3 0 p = 3) := hide (by simp [evC, hki, hpi])
          go_enter Try.func6, Try.ntmps6
          go_wp2_with (go_at_call 8; refine (isUp_calls _ _ _).mono ?_; rintro e w' ⟨rfl, rfl⟩)
          go_ret
          exact ⟨ret_int HR.out.symm, HB.out⟩
      · have hpi : inB p 0 999 = false := inB_low (by omega)
        have HR : Hid (evC 3 0 p = 3) := hide (by simp [evC, hki, hpi])
        go_enter Try.func6, Try.ntmps6
        go_wp2_with (go_at_call 8; refine (isUp_calls _ _ _).mono ?_; rintro e w' ⟨rfl, rfl⟩)
        go_ret
        exact ⟨ret_int HR.out.symm, HB.out⟩
    · have hn1 : (n == 0) = false := (by simp [hn])
      have hn2 : (n != 0) = true := (by simp [hn])
      have HR : Hid (evC 3 n p = 1) := hide (by simp [evC, hki, hn2])
      go_enter Try.func6, Try.ntmps6
      go_wp2_with (go_at_call 8; refine (isUp_calls _ _ _).mono ?_; rintro e w' ⟨rfl, rfl⟩)
      go_ret
      exact ⟨ret_int HR.out.symm, HB.out⟩

set_option maxRecDepth 100000 in
theorem specEventFault_calls (k n p : Int) (w : World) :
    Calls Try.prog 4 #[.agg #[.int .i64 k, .int .i64 n, .int .i64 p]] w fun e w' => e = .returned (.int .i64 (evC k n p)) ∧ Below w.heap.size w w' := by
  have HB := hide ((Below.refl w.heap.size w).alloc (Nat.le_refl _) (.cells #[.int .i64 k, .int .i64 n, .int .i64 p] 25))
  rcases (show k < 1 ∨ 3 < k ∨ k = 1 ∨ k = 2 ∨ k = 3 by omega) with hk | hk | rfl | rfl | rfl
  · have hki : inB k 1 3 = false := inB_low hk
    have e1 : (k == 1) = false := (by simp; omega)
    have e2 : (k == 2) = false := (by simp; omega)
    have e3 : (k == 3) = false := (by simp; omega)
    have HR : Hid (evC k n p = 1) := hide (by simp [evC, hki])
    go_enter Try.func4, Try.ntmps4
    go_wp2_with (go_at_call 7; refine (in_calls _ _ _ _).mono ?_; rintro e w' ⟨rfl, rfl⟩)
    go_ret
    exact ⟨ret_int HR.out.symm, HB.out⟩
  · have hki : inB k 1 3 = false := inB_high hk
    have e1 : (k == 1) = false := (by simp; omega)
    have e2 : (k == 2) = false := (by simp; omega)
    have e3 : (k == 3) = false := (by simp; omega)
    have HR : Hid (evC k n p = 1) := hide (by simp [evC, hki])
    go_enter Try.func4, Try.ntmps4
    go_wp2_with (go_at_call 7; refine (in_calls _ _ _ _).mono ?_; rintro e w' ⟨rfl, rfl⟩)
    go_ret
    exact ⟨ret_int HR.out.symm, HB.out⟩
  · have hki : inB 1 1 3 = true := (by decide)
    by_cases hn1 : 1 ≤ n
    · have hn1a : ¬ n < 1 := (by omega)
      by_cases hn3 : n ≤ 30
      · have hn3a : ¬ 30 < n := (by omega)
        have hni := inB_true hn1 hn3
        by_cases hp0 : 0 ≤ p
        · by_cases hp9 : p ≤ 999
          · have hpi := inB_true hp0 hp9
            have HR : Hid (evC 1 n p = 0) := hide (by simp [evC, hki, hni, hpi])
            go_enter Try.func4, Try.ntmps4
            go_wp2_with (go_at_call 7; refine (in_calls _ _ _ _).mono ?_; rintro e w' ⟨rfl, rfl⟩)
            go_ret
            exact ⟨ret_int HR.out.symm, HB.out⟩
          · have hpi : inB p 0 999 = false := inB_high (by omega)
            have HR : Hid (evC 1 n p = 3) := hide (by simp [evC, hki, hni, hpi])
            go_enter Try.func4, Try.ntmps4
            go_wp2_with (go_at_call 7; refine (in_calls _ _ _ _).mono ?_; rintro e w' ⟨rfl, rfl⟩)
            go_ret
            exact ⟨ret_int HR.out.symm, HB.out⟩
        · have hpi : inB p 0 999 = false := inB_low (by omega)
          have HR : Hid (evC 1 n p = 3) := hide (by simp [evC, hki, hni, hpi])
          go_enter Try.func4, Try.ntmps4
          go_wp2_with (go_at_call 7; refine (in_calls _ _ _ _).mono ?_; rintro e w' ⟨rfl, rfl⟩)
          go_ret
          exact ⟨ret_int HR.out.symm, HB.out⟩
      · have hn3a : 30 < n := (by omega)
        have hni : inB n 1 30 = false := inB_high hn3a
        have HR : Hid (evC 1 n p = 3) := hide (by simp [evC, hki, hni])
        go_enter Try.func4, Try.ntmps4
        go_wp2_with (go_at_call 7; refine (in_calls _ _ _ _).mono ?_; rintro e w' ⟨rfl, rfl⟩)
        go_ret
        exact ⟨ret_int HR.out.symm, HB.out⟩
    · have hn1a : n < 1 := (by omega)
      have hni : inB n 1 30 = false := inB_low hn1a
      have HR : Hid (evC 1 n p = 3) := hide (by simp [evC, hki, hni])
      go_enter Try.func4, Try.ntmps4
      go_wp2_with (go_at_call 7; refine (in_calls _ _ _ _).mono ?_; rintro e w' ⟨rfl, rfl⟩)
      go_ret
      exact ⟨ret_int HR.out.symm, HB.out⟩
  · have hki : inB 2 1 3 = true := (by decide)
    by_cases hp : p = 0
    · subst hp
      have HR : Hid (evC 2 n 0 = 0) := hide (by simp [evC, hki, inB_true (show (0 : Int) ≤ 0 by omega) (show (0 : Int) ≤ 999 by omega)])
      go_enter Try.func4, Try.ntmps4
      go_wp2_with (go_at_call 7; refine (in_calls _ _ _ _).mono ?_; rintro e w' ⟨rfl, rfl⟩)
      go_ret
      exact ⟨ret_int HR.out.symm, HB.out⟩
    · have hp1 : (p == 0) = false := (by simp [hp])
      have hp2 : (p != 0) = true := (by simp [hp])
      have HR : Hid (evC 2 n p = 1) := hide (by simp [evC, hki, hp2])
      go_enter Try.func4, Try.ntmps4
      go_wp2_with (go_at_call 7; refine (in_calls _ _ _ _).mono ?_; rintro e w' ⟨rfl, rfl⟩)
      go_ret
      exact ⟨ret_int HR.out.symm, HB.out⟩
  · have hki : inB 3 1 3 = true := (by decide)
    by_cases hn : n = 0
    · subst hn
      by_cases hp0 : 0 ≤ p
      · by_cases hp9 : p ≤ 999
        · have hpi := inB_true hp0 hp9
          have HR : Hid (evC 3 0 p = 0) := hide (by simp [evC, hki, hpi])
          go_enter Try.func4, Try.ntmps4
          go_wp2_with (go_at_call 7; refine (in_calls _ _ _ _).mono ?_; rintro e w' ⟨rfl, rfl⟩)
          go_ret
          exact ⟨ret_int HR.out.symm, HB.out⟩
        · have hpi : inB p 0 999 = false := inB_high (by omega)
          have HR : Hid (evC 3 0 p = 3) := hide (by simp [evC, hki, hpi])
          go_enter Try.func4, Try.ntmps4
          go_wp2_with (go_at_call 7; refine (in_calls _ _ _ _).mono ?_; rintro e w' ⟨rfl, rfl⟩)
          go_ret
          exact ⟨ret_int HR.out.symm, HB.out⟩
      · have hpi : inB p 0 999 = false := inB_low (by omega)
        have HR : Hid (evC 3 0 p = 3) := hide (by simp [evC, hki, hpi])
        go_enter Try.func4, Try.ntmps4
        go_wp2_with (go_at_call 7; refine (in_calls _ _ _ _).mono ?_; rintro e w' ⟨rfl, rfl⟩)
        go_ret
        exact ⟨ret_int HR.out.symm, HB.out⟩
    · have hn1 : (n == 0) = false := (by simp [hn])
      have hn2 : (n != 0) = true := (by simp [hn])
      have HR : Hid (evC 3 n p = 1) := hide (by simp [evC, hki, hn2])
      go_enter Try.func4, Try.ntmps4
      go_wp2_with (go_at_call 7; refine (in_calls _ _ _ _).mono ?_; rintro e w' ⟨rfl, rfl⟩)
      go_ret
      exact ⟨ret_int HR.out.symm, HB.out⟩

end Go.Proofs.Ytnhpoaclapofpaa
