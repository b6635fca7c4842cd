import Derived.Test.YtfnknfpioagjcaaLnL
import Derived.WalkKit
import Derived.ProofKit
import Derived.OpenShut
import Derived.ShutString
import Derived.ChangeOld
import Derived.Below
import Derived.WalkSpells
import Derived.Deep.QuietTactic
import Derived.BigQuiet
import Derived.Deep.RegionWith
import Derived.Deep.WholeRow
import Derived.Deep.DeepCutAuto
import Derived.Deep.RegionHeld2
import Derived.Deep.AppendLies
import Derived.Deep.RegionLaw
namespace Go.Proofs.Ytfnknfpioagjcaa
open Go.ChangeShapes Go.WideShapes Go.ChangeAt Go.RowKit

set_option maxRecDepth 100000 in
theorem markLineS_O (S : Nat → Prop) (a : Option Addr) (n cap : Nat) (ls : List (Int × Int × Int)) (m : Int) (w : World) (hm0 : 0 ≤ m) (hm : m ≤ 4194304) (hs : OL S a n ls w) :
    Calls Try.prog 42 #[.slice a n cap, .int .i64 m] w fun e w' => e = .returned (.int .i64 (m + 3 * n)) ∧ OL S a n (mk3 m n) w' ∧ OutS S w w' := by
  obtain ⟨hlen, hn, hs⟩ := hs
  rcases hs with rfl | ⟨b, rfl, hB, blk⟩
  · go_enter Try.func42, Try.ntmps42
    go_wp2
    go_loop [1, 5] (fun k i => k = .int .i64 m ∧ i = .int .i64 0) (fun _ _ => 0)
    case atStart => exact ⟨rfl, rfl⟩
    case round =>
      obtain ⟨rfl, rfl⟩ := hrel
      go_wp2
      go_ret
      exact ⟨ret_int (by simp), ⟨length_mk3 _ _, by omega, (.inl rfl)⟩, OutS.refl _ _⟩
  · have hr0 := MRow.start (m := m) blk
    rw [length_fl3, hlen] at hr0
    clear blk
    go_enter Try.func42, Try.ntmps42
    go_wp2
    go_loopw [1, 5] (fun q i wr => ∃ k : Nat, k ≤ n ∧ q = .int .i64 (m + 3 * k) ∧ i = .int .i64 k ∧ MRow wr b (n * 3) (k * 3) m ∧ OutS S w wr) (fun _ i _ => n - (intOf i).toNat)
    case atStart => exact ⟨0, Nat.zero_le _, by simp, rfl, hr0, OutS.refl _ _⟩
    case round =>
      clear hr0
      obtain ⟨k, hk, rfl, rfl, hrow, hbut⟩ := hrel
      by_cases hlt : k < n
      · obtain ⟨v0, hv0⟩ := hrow.2.2.1 (k * 3) (by omega)
        obtain ⟨v1, hv1⟩ := hrow.2.2.1 (k * 3 + 1) (by omega)
        obtain ⟨v2, hv2⟩ := hrow.2.2.1 (k * 3 + 2) (by omega)
        have hf0 := hrow.2.2.2 (k * 3)
        have hf1 := hrow.2.2.2 (k * 3 + 1)
        have hf2 := hrow.2.2.2 (k * 3 + 2)
        have HR := hide (((hrow.store (by omega)).store (by omega)).store (by omega))
        have HO := hide (fun x y z => ((hbut.setCell (p := ⟨b, k * 3, none⟩) hB x).setCell (p := ⟨b, k * 3 + 1, none⟩) hB y).setCell (p := ⟨b, k * 3 + 2, none⟩) hB z)
        clear hrow hbut
        go_wp2
        go_roundw
        case rel =>
          refine ⟨k + 1, by omega, by go_num, by go_num, ?_, HO.out _ _ _⟩
          have h := HR.out
          have e0 : m + ((k * 3 : Nat) : Int) = m + 3 * (k : Int) := by omega
          have e1 : m + ((k * 3 + 1 : Nat) : Int) = m + 3 * (k : Int) + 1 := by omega
          have e2 : m + ((k * 3 + 1 + 1 : Nat) : Int) = m + 3 * (k : Int) + 1 + 1 := by omega
          rw [e0, e1, e2] at h
          have e3 : (k + 1) * 3 = k * 3 + 1 + 1 + 1 := by omega
          rw [e3]
          exact h
        case measure => simp [intOf]; omega
      · have e : k = n := by omega
        subst e
        go_wp2
        go_ret
        exact ⟨rfl, ⟨length_mk3 _ _, hn, .inr ⟨b, rfl, hB, hrow.done3⟩⟩, hbut⟩

set_option maxRecDepth 100000 in
theorem markCache_O (S : Nat → Prop) (s : Int) (a : Option Addr) (n cap : Nat) (ls : List (Int × Int × Int)) (m : Int) (w : World) (hm0 : 0 ≤ m) (hm : m ≤ 4194304) (hs : OL S a n ls w) :
    Calls Try.prog 20 #[.agg #[.int .i64 s, .slice a n cap], .int .i64 m] w fun e w' => e = .returned (.int .i64 (m + 3 * n)) ∧ OL S a n (mk3 m n) w' ∧ OutS S w w' := by
  go_enter Try.func20, Try.ntmps20
  go_wp2_with fail
  refine (markLineS_O S a n cap ls m _ hm0 hm (OL.loc.below ((Below.refl _ _).alloc (Nat.le_refl _) _) hs)).mono ?_
  rintro e w1 ⟨rfl, h1, h2⟩
  go_wp2
  go_ret
  exact ⟨rfl, h1, (OutS.of_below ((Below.refl _ _).alloc (Nat.le_refl _) _)).trans h2⟩

set_option maxRecDepth 100000 in
theorem markCR_O (S : Nat → Prop) (c v s : Int) (a : Option Addr) (n cap : Nat) (ls : List (Int × Int × Int)) (m : Int) (w : World) (hm0 : 0 ≤ m) (hm : m ≤ 4194304) (hs : OL S a n ls w) :
    Calls Try.prog 21 #[.agg #[.int .i64 c, .int .i64 v, .int .i64 s, .slice a n cap], .int .i64 m] w fun e w' => e = .returned (.int .i64 (m + 3 * n)) ∧ OL S a n (mk3 m n) w' ∧ OutS S w w' := by
  go_enter Try.func21, Try.ntmps21
  go_wp2_with fail
  refine (markCache_O S s a n cap ls m _ hm0 hm (OL.loc.below ((Below.refl _ _).alloc (Nat.le_refl _) _) hs)).mono ?_
  rintro e w1 ⟨rfl, h1, h2⟩
  go_wp2
  go_ret
  exact ⟨rfl, h1, (OutS.of_below ((Below.refl _ _).alloc (Nat.le_refl _) _)).trans h2⟩

set_option maxRecDepth 100000 in
theorem heldLineS_calls (a : Option Addr) (n cap : Nat) (m : Int) (w : World) (hm0 : 0 ≤ m) (hm : m ≤ 4194304) (hn : n ≤ 1048576) (hs : Sln w a n (mk3 m n)) :
    Calls Try.prog 52 #[.slice a n cap, .int .i64 m] w fun e w' => e = .returned (.int .i64 (m + 3 * n)) ∧ Below w.heap.size w w' := by
  obtain ⟨_, hs⟩ := hs
  go_enter Try.func52, Try.ntmps52
  go_wp2
  go_loop [1, 5] (fun q i => ∃ k : Nat, k ≤ n ∧ q = .int .i64 (m + 3 * k) ∧ i = .int .i64 k) (fun _ i => n - (intOf i).toNat)
  case atStart => exact ⟨0, Nat.zero_le _, by simp, rfl⟩
  case round =>
    obtain ⟨k, hk, rfl, rfl⟩ := hrel
    by_cases hlt : k < n
    · obtain ⟨b, off, rfl, hb, hc⟩ := hs (by omega)
      obtain ⟨r0, r1, r2⟩ := cells3 hc hlt
      rw [g3_mk3 m n k hlt] at r0 r1 r2
      simp only at r0 r1 r2
      have n0 : ((m + 3 * (k : Int)) != (m + 3 * (k : Int))) = false := by simp
      have n1 : ((m + 3 * (k : Int) + 1) != (m + 3 * (k : Int) + 1)) = false := by simp
      have n2 : ((m + 3 * (k : Int) + 2) != (m + 3 * (k : Int) + 1 + 1)) = false := by simp; omega
      clear hc
      go_wp2
      go_round
      case rel => exact ⟨k + 1, by omega, by go_num, by go_num⟩
      case measure => simp [intOf]; omega
    · have e : k = n := by omega
      subst e
      go_wp2
      go_ret
      exact ⟨rfl, Below.refl _ _⟩

set_option maxRecDepth 100000 in
theorem heldCache_calls (s : Int) (a : Option Addr) (n cap : Nat) (m : Int) (w : World) (hm0 : 0 ≤ m) (hm : m ≤ 4194304) (hn : n ≤ 1048576) (hs : Sln w a n (mk3 m n)) :
    Calls Try.prog 43 #[.agg #[.int .i64 s, .slice a n cap], .int .i64 m] w fun e w' => e = .returned (.int .i64 (m + 3 * n)) ∧ Below w.heap.size w w' := by
  have hp : ¬ (m + 3 * n < 0) := by omega
  go_enter Try.func43, Try.ntmps43
  go_wp2_with fail
  refine (heldLineS_calls a n cap m _ hm0 hm hn (hs.below ((Below.refl _ _).alloc (Nat.le_refl _) _) (Nat.le_refl _))).mono ?_
  rintro e w1 ⟨rfl, hb⟩
  go_wp2
  go_ret
  exact ⟨rfl, ((Below.refl _ _).alloc (Nat.le_refl _) _).trans (hb.mono (by simp))⟩

set_option maxRecDepth 100000 in
theorem heldCR_O (c v s : Int) (S : Nat → Prop) (a : Option Addr) (n cap : Nat) (w : World) (hs : OL S a n (mk3 1 n) w) :
    Calls Try.prog 22 #[.agg #[.int .i64 c, .int .i64 v, .int .i64 s, .slice a n cap], .int .i64 1] w fun e w' => e = .returned (.int .i64 (1 + 3 * n)) ∧ Below w.heap.size w w' := by
  have hn := hs.2.1
  have hp : ¬ ((1 : Int) + 3 * n < 0) := by omega
  have hs1 := hs.sln
  go_enter Try.func22, Try.ntmps22
  go_wp2_with fail
  refine (heldCache_calls s a n cap 1 _ (by omega) (by omega) hn (hs1.below ((Below.refl _ _).alloc (Nat.le_refl _) _) (Nat.le_refl _))).mono ?_
  rintro e w1 ⟨rfl, hb⟩
  go_wp2
  go_ret
  exact ⟨rfl, ((Below.refl _ _).alloc (Nat.le_refl _) _).trans (hb.mono (by simp))⟩

set_option maxRecDepth 100000 in
theorem eqCR_O (c v s : Int) (S S' : Nat → Prop) (a b : Option Addr) (n m ca cb : Nat) (ls : List (Int × Int × Int)) (w : World) (hx : OL S a n ls w) (hy : OL S' b m ls w) :
    Calls Try.prog 19 #[.agg #[.int .i64 c, .int .i64 v, .int .i64 s, .slice a n ca], .agg #[.int .i64 c, .int .i64 v, .int .i64 s, .slice b m cb]] w fun e w' => e = .returned (.bool true) ∧ Below w.heap.size w w' := by
  obtain rfl : m = n := by have := hx.1; have := hy.1; omega
  have h1 : (c != c) = false := by simp
  have h2 : (v != v) = false := by simp
  have HB := hide fun o1 o2 => ((Below.refl w.heap.size w).alloc (Nat.le_refl _) o1).alloc (by simp) o2
  have HX := hide fun o1 o2 => OL.loc.alloc (OL.loc.alloc hx o1) o2
  have HY := hide fun o1 o2 => OL.loc.alloc (OL.loc.alloc hy o1) o2
  go_enter Try.func19, Try.ntmps19
  go_wp2_with fail
  refine (eqCache_O _ _ s a b _ ca cb ls _ (HX.out _ _) (HY.out _ _)).mono ?_
  rintro e w1 ⟨rfl, hb⟩
  have HE := hide ((HB.out _ _).trans (hb.mono (HB.out _ _).size))
  clear hb
  go_wp2
  go_ret
  exact ⟨rfl, HE.out⟩

end Go.Proofs.Ytfnknfpioagjcaa
