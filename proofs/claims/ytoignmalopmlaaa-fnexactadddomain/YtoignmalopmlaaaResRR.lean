import Derived.Test.YtoignmalopmlaaaMarkReg
import Derived.Test.YtoignmalopmlaaaToRegO
import Derived.WalkKit
import Derived.ProofKit
import Derived.OpenShut
import Derived.ShutString
import Derived.ChangeOld
import Derived.Below
import Derived.WalkSpells
import Derived.Deep.QuietTactic
import Derived.BigQuiet
import Derived.Deep.RegionWith
import Derived.Deep.WholeRow
import Derived.Deep.DeepCutAuto
import Derived.Deep.RegionHeld2
import Derived.Deep.AppendLies
import Derived.Deep.RegionLaw
namespace Go.Proofs.Ytoignmalopmlaaa
open Go.ChangeShapes Go.WideShapes Go.ChangeAt Go.RowKit

set_option maxRecDepth 100000 in
theorem heldInt64S_calls (a : Option Addr) (n cap : Nat) (m : Int) (w : World) (hm0 : 0 ≤ m) (hm : m ≤ 4194304) (hn : n ≤ 1048576) (hs : Sl w a n (marksFrom m n)) :
    Calls Try.prog 86 #[.slice a n cap, .int .i64 m] w fun e w' => e = .returned (.int .i64 (m + n)) ∧ Below w.heap.size w w' := by
  obtain ⟨_, hs⟩ := hs
  go_enter Try.func86, Try.ntmps86
  go_wp2
  go_loopw [1, 5] (fun q i wr => ∃ k : Nat, k ≤ n ∧ q = .int .i64 (m + k) ∧ i = .int .i64 k ∧ Below w.heap.size w wr) (fun _ i _ => n - (intOf i).toNat)
  case atStart => exact ⟨0, Nat.zero_le _, by simp, rfl, Below.refl _ _⟩
  case round =>
    obtain ⟨k, hk, rfl, rfl, hbel⟩ := hrel
    by_cases hlt : k < n
    · obtain ⟨b, off, rfl, hb, hc⟩ := hs (by omega)
      have hck := (hbel.cell (p := ⟨b, off + k, none⟩) hb).trans (hc k hlt)
      rw [gt_marksFrom m n k hlt] at hck
      go_wp2
      go_roundw
      case rel => exact ⟨k + 1, by omega, by go_num, by go_num, hbel⟩
      case measure => simp [intOf]; omega
    · have e : k = n := by omega
      subst e
      go_wp2
      go_ret
      exact ⟨rfl, hbel⟩

set_option maxRecDepth 100000 in
theorem heldSlotS_calls (a : Option Addr) (n cap : Nat) (ss : List (Int × List Int)) (m : Int) (w : World) (hm0 : 0 ≤ m) (hm : m ≤ 1048577) (hbd : n + lenSum ss ≤ 1048576) (hs : Sls w a n (mkS m ss)) :
    Calls Try.prog 119 #[.slice a n cap, .int .i64 m] w fun e w' => e = .returned (.int .i64 (m + n + lenSum ss)) ∧ Below w.heap.size w w' := by
  obtain ⟨hlen, hs⟩ := hs
  rw [length_mkS] at hlen
  go_enter Try.func119, Try.ntmps119
  go_wp2
  go_loopw [1, 5] (fun q i wr => ∃ k : Nat, k ≤ n ∧ q = .int .i64 (mkC m ss k) ∧ i = .int .i64 k ∧ Below w.heap.size w wr) (fun _ i _ => n - (intOf i).toNat)
  case atStart => exact ⟨0, Nat.zero_le _, by simp [mkC, lenSum], rfl, Below.refl _ _⟩
  case round =>
    obtain ⟨k, hk, rfl, rfl, hbel⟩ := hrel
    by_cases hlt : k < n
    · obtain ⟨b, off, rfl, hb, hc⟩ := hs (by omega)
      obtain ⟨hc0, la, ll, lc, hc1, hll, hsl⟩ := hc k hlt
      have kc := mkC_le m ss k
      have kg := mkC_ge m ss k
      have hgl := gl_le ss k (by omega)
      have hzl : (gl (mkS m ss) k).length = ll := hsl.1
      rw [gl_mkS m ss k (by omega), length_mkL] at hzl
      rw [gl_mkS m ss k (by omega)] at hsl
      rw [gc_mkS m ss k (by omega)] at hc0
      unfold mkL at hsl
      rw [hzl] at hsl
      have hck0 := (hbel.cell (p := ⟨b, off + k * 2, none⟩) hb).trans hc0
      have hck1 := (hbel.cell (p := ⟨b, off + k * 2 + 1, none⟩) hb).trans hc1
      have hsr := hsl.below hbel (Nat.le_refl _)
      have Hst := hide (mkC_succ m ss k (by omega))
      have hneg : ¬ (mkC m ss k + 1 + (ll : Int) < 0) := by omega
      clear hc hc0 hc1
      go_wp2_with fail
      refine (heldInt64S_calls la ll lc _ _ (by omega) (by omega) (by omega) hsr).mono ?_
      rintro e w1 ⟨rfl, g1⟩
      go_wp2
      go_roundw
      case rel => exact ⟨k + 1, by omega, by rw [Hst.out, hzl], by go_num, hbel.trans (g1.mono hbel.size)⟩
      case measure => simp [intOf]; omega
    · have e : k = n := by omega
      subst e
      have HE : Hid (mkC m ss k = m + k + lenSum ss) := by show _ = _; rw [← hlen]; exact mkC_all m ss
      go_wp2
      go_ret
      exact ⟨ret_int HE.out, hbel⟩

set_option maxRecDepth 100000 in
theorem heldRegistry_calls (a : Option Addr) (n cap : Nat) (ss : List (Int × List Int)) (m : Int) (w : World) (hm0 : 0 ≤ m) (hm : m ≤ 1048577) (hbd : n + lenSum ss ≤ 1048576) (hs : Sls w a n (mkS m ss)) :
    Calls Try.prog 85 #[.agg #[.slice a n cap], .int .i64 m] w fun e w' => e = .returned (.int .i64 (m + n + lenSum ss)) ∧ Below w.heap.size w w' := by
  have hp : ¬ (m + n + (lenSum ss : Int) < 0) := by omega
  go_enter Try.func85, Try.ntmps85
  go_wp2_with fail
  refine (heldSlotS_calls a n cap ss m _ hm0 hm hbd (hs.below ((Below.refl _ _).alloc (Nat.le_refl _) _) (Nat.le_refl _))).mono ?_
  rintro e w1 ⟨rfl, hb⟩
  go_wp2
  go_ret
  exact ⟨rfl, ((Below.refl _ _).alloc (Nat.le_refl _) _).trans (hb.mono (by simp))⟩

end Go.Proofs.Ytoignmalopmlaaa
