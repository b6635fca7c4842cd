import Derived.Test.YtgoigibjmpjloaaWdL
import Derived.WalkKit
import Derived.ProofKit
import Derived.OpenShut
import Derived.ShutString
import Derived.ChangeOld
import Derived.Below
import Derived.WalkSpells
import Derived.Deep.QuietTactic
import Derived.BigQuiet
import Derived.Deep.RegionWith
import Derived.Deep.WholeRow
import Derived.Deep.DeepCutAuto
import Derived.Deep.RegionHeld2
import Derived.Deep.AppendLies
import Derived.Deep.RegionLaw
namespace Go.Proofs.Ytgoigibjmpjloaa
open Go.ChangeShapes Go.WideShapes Go.ChangeAt Go.RowKit

set_option maxRecDepth 100000 in
theorem implEqualW_calls (a b : Option Addr) (la ca lb cb : Nat) (xs ys : List (Int × Int)) (w : World) (hla : la ≤ maxLen) (hlb : lb ≤ maxLen) (hx : Swd w a la xs) (hy : Swd w b lb ys) :
    Calls Try.prog 45 #[.slice a la ca, .slice b lb cb] w fun e w' => e = .returned (.bool (decide (xs = ys))) ∧ Below w.heap.size w w' := by
  unfold maxLen at hla hlb
  obtain ⟨hxl, hx⟩ := hx
  obtain ⟨hyl, hy⟩ := hy
  by_cases hne : la = lb
  · subst hne
    have hn : ((la : Int) != (la : Int)) = false := by simp
    go_enter Try.func45, Try.ntmps45
    go_wp2
    go_loopw [13] (fun i wr => ∃ k : Nat, k ≤ la ∧ i = .int .i64 k ∧ Below w.heap.size w wr ∧ ∀ j, j < k → gw xs j = gw ys j) (fun i _ => la - (intOf i).toNat)
    case atStart => exact ⟨0, Nat.zero_le _, rfl, Below.refl _ _, fun j hj => by omega⟩
    case round =>
      obtain ⟨k, hk, rfl, hbel, hall⟩ := hrel
      have Hall : Hid (∀ j, j < k → gw xs j = gw ys j) := hall
      clear hall
      by_cases hlt : k < la
      · obtain ⟨b1, o1, rfl, hb1, hc1⟩ := hx (by omega)
        obtain ⟨b2, o2, rfl, hb2, hc2⟩ := hy (by omega)
        obtain ⟨p0, p1⟩ := cellsw hc1 hlt
        obtain ⟨r0, r1⟩ := cellsw hc2 hlt
        have hp0 := (hbel.cell (p := ⟨b1, o1 + k * 2, none⟩) hb1).trans p0
        have hp1 := (hbel.cell (p := ⟨b1, o1 + k * 2 + 1, none⟩) hb1).trans p1
        have hq0 := (hbel.cell (p := ⟨b2, o2 + k * 2, none⟩) hb2).trans r0
        have hq1 := (hbel.cell (p := ⟨b2, o2 + k * 2 + 1, none⟩) hb2).trans r1
        clear p0 p1 r0 r1 hc1 hc2
        have hki : (k : Int) < (la : Int) := by omega
        by_cases he : gw xs k = gw ys k
        · rw [← he] at hq0 hq1
          have He : Hid (gw xs k = gw ys k) := he
          clear he
          go_wp2_with fail
          go_quiet (fail)
          go_wp2
          go_roundw
          case rel => exact ⟨k + 1, by omega, by go_num, bdrewN hbel _, fun j hj => by (by_cases e : j = k); (subst e; exact He.out); exact Hall.out j (by omega)⟩
          case measure => simp [intOf]; omega
        · have HR : Hid (decide (xs = ys) = false) := by show _ = _; simp; intro e; exact he (by rw [e])
          by_cases h1 : (gw xs k).1 = (gw ys k).1
          · have h2 : ¬ (gw xs k).2 = (gw ys k).2 := fun h => he (Prod.ext h1 h)
            clear he
            go_wp2_with fail
            go_quiet (fail)
            go_wp2
            go_ret
            exact ⟨ret_bool HR.out.symm, bdrewN hbel _⟩
          · clear he
            go_wp2_with fail
            go_quiet (fail)
            go_wp2
            go_ret
            exact ⟨ret_bool HR.out.symm, bdrewN hbel _⟩
      · go_wp2
        go_ret
        exact ⟨ret_bool (by simp; exact gw_ext (by omega) (fun i hi => Hall.out i (by omega))), hbel⟩
  · have hn : ((la : Int) != (lb : Int)) = true := by simp; omega
    go_enter Try.func45, Try.ntmps45
    go_wp2
    go_ret
    exact ⟨ret_bool (by simp; intro e; rw [e] at hxl; omega), Below.refl _ _⟩

set_option maxRecDepth 100000 in
theorem implSameMemories_calls (a : Option Addr) (la ca : Nat) (xs : List (Int × Int)) (b : Option Addr) (lb cb : Nat) (ys : List (Int × Int)) (w : World) (hla : la ≤ maxLen) (hx : Swd w a la xs) (hlb : lb ≤ maxLen) (hy : Swd w b lb ys) :
    Calls Try.prog 29 #[.agg #[.slice a la ca], .agg #[.slice b lb cb]] w fun e w' => e = .returned (.bool (decide (xs = ys))) ∧ Below w.heap.size w w' := by
  have HB := hide fun o1 o2 => ((Below.refl w.heap.size w).alloc (Nat.le_refl _) o1).alloc (by simp) o2
  go_enter Try.func29, Try.ntmps29
  go_wp2_with fail
  refine (implEqualW_calls a b la ca lb cb xs ys _ hla hlb (hx.below (HB.out _ _) (Nat.le_refl _)) (hy.below (HB.out _ _) (Nat.le_refl _))).mono ?_
  rintro e w1 ⟨rfl, g1⟩
  have HE := hide ((HB.out (.cells #[.slice a la ca] 29) (.cells #[.slice b lb cb] 29)).trans (g1.mono (HB.out _ _).size))
  clear g1
  go_wp2
  go_ret
  exact ⟨rfl, HE.out⟩

set_option maxRecDepth 100000 in
set_option maxHeartbeats 1000000 in
theorem specSameMemories_calls (a : Option Addr) (la ca : Nat) (xs : List (Int × Int)) (b : Option Addr) (lb cb : Nat) (ys : List (Int × Int)) (w : World) (hla : la ≤ maxLen) (hx : Swd w a la xs) (hlb : lb ≤ maxLen) (hy : Swd w b lb ys) :
    Calls Try.prog 28 #[.agg #[.slice a la ca], .agg #[.slice b lb cb]] w fun e w' => e = .returned (.bool (decide (xs = ys))) ∧ Below w.heap.size w w' := by
  unfold maxLen at hla hlb
  obtain ⟨hxl, hx⟩ := hx
  obtain ⟨hyl, hy⟩ := hy
  have M0 := ((Mm.start w).alloc1 (.slice a la ca) 29).alloc1 (.slice b lb cb) 29
  try simp only [World.size_alloc] at M0
  have HM := hide M0
  clear M0
  by_cases hne : la = lb
  · subst hne
    have hn : ((la : Int) != (la : Int)) = false := by simp
    go_enter Try.func28, Try.ntmps28
    go_wp2
    go_loopw [5] (fun i wr => ∃ k : Nat, k ≤ la ∧ i = .int .i64 k ∧ Mm w wr [(w.heap.size + 1, 0, .slice b la cb), (w.heap.size, 0, .slice a la ca)] [] ∧ ∀ j, j < k → gw xs j = gw ys j) (fun i _ => la - (intOf i).toNat)
    case atStart => exact ⟨0, Nat.zero_le _, rfl, HM.out, fun j hj => by omega⟩
    case round =>
      obtain ⟨k, hk, rfl, M, hall⟩ := hrel
      have Hall : Hid (∀ j, j < k → gw xs j = gw ys j) := hall
      have hbel := M.bel
      have m0 := M.cell 0 rfl
      have m1 := M.cell 1 rfl
      have HM1 := hide M
      clear hall M
      by_cases hlt : k < la
      · obtain ⟨b1, o1, rfl, hb1, hc1⟩ := hx (by omega)
        obtain ⟨b2, o2, rfl, hb2, hc2⟩ := hy (by omega)
        obtain ⟨p0, p1⟩ := cellsw hc1 hlt
        obtain ⟨r0, r1⟩ := cellsw hc2 hlt
        have hp0 := (hbel.cell (p := ⟨b1, o1 + k * 2, none⟩) hb1).trans p0
        have hp1 := (hbel.cell (p := ⟨b1, o1 + k * 2 + 1, none⟩) hb1).trans p1
        have hq0 := (hbel.cell (p := ⟨b2, o2 + k * 2, none⟩) hb2).trans r0
        have hq1 := (hbel.cell (p := ⟨b2, o2 + k * 2 + 1, none⟩) hb2).trans r1
        clear p0 p1 r0 r1 hc1 hc2
        have hki : (k : Int) < (la : Int) := by omega
        by_cases he : gw xs k = gw ys k
        · rw [← he] at hq0 hq1
          have He : Hid (gw xs k = gw ys k) := he
          clear he
          go_wp2_with fail
          go_quiet (fail)
          go_wp2
          go_roundw
          case rel => exact ⟨k + 1, by omega, by go_num, HM1.out.below (bdrewN (Below.refl _ _) _), fun j hj => by (by_cases e : j = k); (subst e; exact He.out); exact Hall.out j (by omega)⟩
          case measure => simp [intOf]; omega
        · have HR : Hid (decide (xs = ys) = false) := by show _ = _; simp; intro e; exact he (by rw [e])
          by_cases h1 : (gw xs k).1 = (gw ys k).1
          · have h2 : ¬ (gw xs k).2 = (gw ys k).2 := fun h => he (Prod.ext h1 h)
            clear he
            go_wp2_with fail
            go_quiet (fail)
            go_wp2
            go_ret
            exact ⟨ret_bool HR.out.symm, bdrewN hbel _⟩
          · clear he
            go_wp2_with fail
            go_quiet (fail)
            go_wp2
            go_ret
            exact ⟨ret_bool HR.out.symm, bdrewN hbel _⟩
      · go_wp2
        go_ret
        exact ⟨ret_bool (by simp; exact gw_ext (by omega) (fun i hi => Hall.out i (by omega))), hbel⟩
  · have hn : ((la : Int) != (lb : Int)) = true := by simp; omega
    go_enter Try.func28, Try.ntmps28
    go_wp2
    go_ret
    exact ⟨ret_bool (by simp; intro e; rw [e] at hxl; omega), HM.out.bel⟩

end Go.Proofs.Ytgoigibjmpjloaa
