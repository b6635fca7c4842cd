import Derived.Test.YtainblfjfmjclahMarkReg
import Derived.Test.YtainblfjfmjclahToRegO
import Derived.WalkKit
import Derived.ProofKit
import Derived.OpenShut
import Derived.ShutString
import Derived.ChangeOld
import Derived.Below
import Derived.WalkSpells
import Derived.Deep.QuietTactic
import Derived.BigQuiet
import Derived.Deep.RegionWith
import Derived.Deep.WholeRow
import Derived.Deep.DeepCutAuto
import Derived.Deep.RegionHeld2
import Derived.Deep.AppendLies
import Derived.Deep.RegionLaw
namespace Go.Proofs.Ytainblfjfmjclah
open Go.ChangeShapes Go.WideShapes Go.ChangeAt Go.RowKit

set_option maxRecDepth 100000 in
theorem heldInt64S_calls (a : Option Addr) (n cap : Nat) (m : Int) (w : World) (hm0 : 0 ≤ m) (hm : m ≤ 4194304) (hn : n ≤ 1048576) (hs : Sl w a n (marksFrom m n)) :
    Calls Try.prog 75 #[.slice a n cap, .int .i64 m] w fun e w' => e = .returned (.int .i64 (m + n)) ∧ Below w.heap.size w w' := by
  obtain ⟨_, hs⟩ := hs
  go_enter Try.func75, Try.ntmps75
  go_wp2
  go_loopw [1, 5] (fun q i wr => ∃ k : Nat, k ≤ n ∧ q = .int .i64 (m + k) ∧ i = .int .i64 k ∧ Below w.heap.size w wr) (fun _ i _ => n - (intOf i).toNat)
  case atStart => exact ⟨0, Nat.zero_le _, by simp, rfl, Below.refl _ _⟩
  case round =>
    obtain ⟨k, hk, rfl, rfl, hbel⟩ := hrel
    by_cases hlt : k < n
    · obtain ⟨b, off, rfl, hb, hc⟩ := hs (by omega)
      have hck := (hbel.cell (p := ⟨b, off + k, none⟩) hb).trans (hc k hlt)
      rw [gt_marksFrom m n k hlt] at hck
      go_wp2
      go_roundw
      case rel => exact ⟨k + 1, by omega, by go_num, by go_num, hbel⟩
      case measure => simp [intOf]; omega
    · have e : k = n := by omega
      subst e
      go_wp2
      go_ret
      exact ⟨rfl, hbel⟩

set_option maxRecDepth 100000 in
theorem heldSlotS_calls (a : Option Addr) (n cap : Nat) (ss : List (Int × List Int)) (m : Int) (w : World) (hm0 : 0 ≤ m) (hm : m ≤ 1048577) (hbd : n + lenSum ss ≤ 1048576) (hs : Sls w a n (mkS m ss)) :
    Calls Try.prog 68 #[.slice a n cap, .int .i64 m] w fun e w' => e = .returned (.int .i64 (m + n + lenSum ss)) ∧ Below w.heap.size w w' := by
  obtain ⟨hlen, hs⟩ := hs
  rw [length_mkS] at hlen
  go_enter Try.func68, Try.ntmps68
  go_wp2
  go_loopw [1, 5] (fun q i wr => ∃ k : Nat, k ≤ n ∧ q = .int .i64 (mkC m ss k) ∧ i = .int .i64 k ∧ Below w.heap.size w wr) (fun _ i _ => n - (intOf i).toNat)
  case atStart => exact ⟨0, Nat.zero_le _, by simp [mkC, lenSum], rfl, Below.refl _ _⟩
  case round =>
    obtain ⟨k, hk, rfl, rfl, hbel⟩ := hrel
    by_cases hlt : k < n
    · obtain ⟨b, off, rfl, hb, hc⟩ := hs (by omega)
      obtain ⟨hc0, la, ll, lc, hc1, hll, hsl⟩ := hc k hlt
      have kc := mkC_le m ss k
      have kg := mkC_ge m ss k
      have hgl := gl_le ss k (by omega)
      have hzl : (gl (mkS m ss) k).length = ll := hsl.1
      rw [gl_mkS m ss k (by omega), length_mkL] at hzl
      rw [gl_mkS m ss k (by omega)] at hsl
      rw [gc_mkS m ss k (by omega)] at hc0
      unfold mkL at hsl
      rw [hzl] at hsl
      have hck0 := (hbel.cell (p := ⟨b, off + k * 2, none⟩) hb).trans hc0
      have hck1 := (hbel.cell (p := ⟨b, off + k * 2 + 1, none⟩) hb).trans hc1
      have hsr := hsl.below hbel (Nat.le_refl _)
      have Hst := hide (mkC_succ m ss k (by omega))
      have hneg : ¬ (mkC m ss k + 1 + (ll : Int) < 0) := by omega
      clear hc hc0 hc1
      go_wp2_with fail
      refine (heldInt64S_calls la ll lc _ _ (by omega) (by omega) (by omega) hsr).mono ?_
      rintro e w1 ⟨rfl, g1⟩
      go_wp2
      go_roundw
      case rel => exact ⟨k + 1, by omega, by rw [Hst.out, hzl], by go_num, hbel.trans (g1.mono hbel.size)⟩
      case measure => simp [intOf]; omega
    · have e : k = n := by omega
      subst e
      have HE : Hid (mkC m ss k = m + k + lenSum ss) := by show _ = _; rw [← hlen]; exact mkC_all m ss
      go_wp2
      go_ret
      exact ⟨ret_int HE.out, hbel⟩

set_option maxRecDepth 100000 in
theorem heldRegistry_calls (a : Option Addr) (n cap : Nat) (ss : List (Int × List Int)) (m : Int) (w : World) (hm0 : 0 ≤ m) (hm : m ≤ 1048577) (hbd : n + lenSum ss ≤ 1048576) (hs : Sls w a n (mkS m ss)) :
    Calls Try.prog 48 #[.agg #[.slice a n cap], .int .i64 m] w fun e w' => e = .returned (.int .i64 (m + n + lenSum ss)) ∧ Below w.heap.size w w' := by
  have hp : ¬ (m + n + (lenSum ss : Int) < 0) := by omega
  go_enter Try.func48, Try.ntmps48
  go_wp2_with fail
  refine (heldSlotS_calls a n cap ss m _ hm0 hm hbd (hs.below ((Below.refl _ _).alloc (Nat.le_refl _) _) (Nat.le_refl _))).mono ?_
  rintro e w1 ⟨rfl, hb⟩
  go_wp2
  go_ret
  exact ⟨rfl, ((Below.refl _ _).alloc (Nat.le_refl _) _).trans (hb.mono (by simp))⟩

set_option maxRecDepth 100000 in
theorem heldRR_O (c v : Int) (S : Nat → Prop) (a : Option Addr) (n cap : Nat) (ss : List (Int × List Int)) (w : World) (hs : OR S a n (mkS 1 ss) w) :
    Calls Try.prog 23 #[.agg #[.int .i64 c, .int .i64 v, .slice a n cap], .int .i64 1] w fun e w' => e = .returned (.int .i64 (1 + n + lenSum ss)) ∧ Below w.heap.size w w' := by
  have hbd := hs.2.1
  rw [lenSum_mkS] at hbd
  have hp : ¬ ((1 : Int) + n + (lenSum ss : Int) < 0) := by omega
  have hx := hs.sls
  go_enter Try.func23, Try.ntmps23
  go_wp2_with fail
  refine (heldRegistry_calls a n cap ss 1 _ (by omega) (by omega) hbd (hx.below ((Below.refl _ _).alloc (Nat.le_refl _) _) (Nat.le_refl _))).mono ?_
  rintro e w1 ⟨rfl, hb⟩
  go_wp2
  go_ret
  exact ⟨rfl, ((Below.refl _ _).alloc (Nat.le_refl _) _).trans (hb.mono (by simp))⟩

set_option maxRecDepth 100000 in
theorem markRR_O (S : Nat → Prop) (c v : Int) (a : Option Addr) (n cap : Nat) (ss : List (Int × List Int)) (m : Int) (w : World) (hm0 : 0 ≤ m) (hm : m ≤ 1048577) (hs : OR S a n ss w) :
    Calls Try.prog 22 #[.agg #[.int .i64 c, .int .i64 v, .slice a n cap], .int .i64 m] w fun e w' => e = .returned (.int .i64 (m + n + lenSum ss)) ∧ OR S a n (mkS m ss) w' ∧ OutS S w w' := by
  go_enter Try.func22, Try.ntmps22
  go_wp2_with fail
  refine (markRegistry_O S a n cap ss m _ hm0 hm (OR.loc.below ((Below.refl _ _).alloc (Nat.le_refl _) _) hs)).mono ?_
  rintro e w1 ⟨rfl, h1, h2⟩
  go_wp2
  go_ret
  exact ⟨rfl, h1, (OutS.of_below ((Below.refl _ _).alloc (Nat.le_refl _) _)).trans h2⟩

set_option maxRecDepth 100000 in
theorem eqRR_O (c v : Int) (S S' : Nat → Prop) (a b : Option Addr) (n m ca cb : Nat) (ss : List (Int × List Int)) (w : World) (hx : OR S a n ss w) (hy : OR S' b m ss w) :
    Calls Try.prog 19 #[.agg #[.int .i64 c, .int .i64 v, .slice a n ca], .agg #[.int .i64 c, .int .i64 v, .slice b m cb]] w fun e w' => e = .returned (.bool true) ∧ Below w.heap.size w w' := by
  obtain rfl : m = n := by have := hx.1; have := hy.1; omega
  have hb0 := fun o1 o2 => ((Below.refl w.heap.size w).alloc (Nat.le_refl _) o1).alloc (by simp) o2
  go_enter Try.func19, Try.ntmps19
  go_wp2_with fail
  refine (eqRegistry_O S S' a b m ca cb ss _ (OR.loc.alloc (OR.loc.alloc hx _) _) (OR.loc.alloc (OR.loc.alloc hy _) _)).mono ?_
  rintro e w1 ⟨rfl, hb⟩
  go_wp2
  go_ret
  exact ⟨rfl, (hb0 _ _).trans (hb.mono (by simp; omega))⟩

end Go.Proofs.Ytainblfjfmjclah
