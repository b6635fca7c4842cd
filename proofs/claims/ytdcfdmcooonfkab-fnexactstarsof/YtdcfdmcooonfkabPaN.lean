import Derived.Test.YtdcfdmcooonfkabPaL
import Derived.WalkKit
import Derived.ProofKit
import Derived.OpenShut
import Derived.ShutString
import Derived.ChangeOld
import Derived.Below
import Derived.WalkSpells
import Derived.Deep.QuietTactic
import Derived.BigQuiet
import Derived.Deep.RegionWith
import Derived.Deep.WholeRow
import Derived.Deep.DeepCutAuto
import Derived.Deep.RegionHeld2
import Derived.Deep.AppendLies
import Derived.Deep.RegionLaw
namespace Go.Proofs.Ytdcfdmcooonfkab
open Go.ChangeShapes Go.WideShapes Go.ChangeAt Go.RowKit

set_option maxRecDepth 100000 in
theorem heldInt64S_calls (a : Option Addr) (n cap : Nat) (m : Int) (w : World) (hm0 : 0 ≤ m) (hm : m ≤ 4194304) (hn : n ≤ 1048576) (hs : Sl w a n (marksFrom m n)) :
    Calls Try.prog 30 #[.slice a n cap, .int .i64 m] w fun e w' => e = .returned (.int .i64 (m + n)) ∧ Below w.heap.size w w' := by
  obtain ⟨_, hs⟩ := hs
  go_enter Try.func30, Try.ntmps30
  go_wp2
  go_loopw [1, 5] (fun q i wr => ∃ k : Nat, k ≤ n ∧ q = .int .i64 (m + k) ∧ i = .int .i64 k ∧ Below w.heap.size w wr) (fun _ i _ => n - (intOf i).toNat)
  case atStart => exact ⟨0, Nat.zero_le _, by simp, rfl, Below.refl _ _⟩
  case round =>
    obtain ⟨k, hk, rfl, rfl, hbel⟩ := hrel
    by_cases hlt : k < n
    · obtain ⟨b, off, rfl, hb, hc⟩ := hs (by omega)
      have hck := (hbel.cell (p := ⟨b, off + k, none⟩) hb).trans (hc k hlt)
      rw [gt_marksFrom m n k hlt] at hck
      go_wp2
      go_roundw
      case rel => exact ⟨k + 1, by omega, by go_num, by go_num, hbel⟩
      case measure => simp [intOf]; omega
    · have e : k = n := by omega
      subst e
      go_wp2
      go_ret
      exact ⟨rfl, hbel⟩

set_option maxRecDepth 100000 in
theorem heldLabel_calls (a : Option Addr) (n cap : Nat) (m : Int) (w : World) (hm0 : 0 ≤ m) (hm : m ≤ 4194304) (hn : n ≤ 1048576) (hs : Sl w a n (marksFrom m n)) :
    Calls Try.prog 29 #[.agg #[.slice a n cap], .int .i64 m] w fun e w' => e = .returned (.int .i64 (m + n)) ∧ Below w.heap.size w w' := by
  have hp : ¬ (m + n < 0) := by omega
  go_enter Try.func29, Try.ntmps29
  go_wp2_with fail
  refine (heldInt64S_calls a n cap m _ hm0 hm hn (hs.below ((Below.refl _ _).alloc (Nat.le_refl _) _) (Nat.le_refl _))).mono ?_
  rintro e w1 ⟨rfl, hb⟩
  go_wp2
  go_ret
  exact ⟨rfl, ((Below.refl _ _).alloc (Nat.le_refl _) _).trans (hb.mono (by simp))⟩

set_option maxRecDepth 100000 in
theorem heldLabelResult_calls (c : Int) (a : Option Addr) (n cap : Nat) (m : Int) (w : World) (hm0 : 0 ≤ m) (hm : m ≤ 4194304) (hn : n ≤ 1048576) (hs : Sl w a n (marksFrom m n)) :
    Calls Try.prog 13 #[.agg #[.int .i64 c, .slice a n cap], .int .i64 m] w fun e w' => e = .returned (.int .i64 (m + n)) ∧ Below w.heap.size w w' := by
  have hp : ¬ (m + n < 0) := by omega
  go_enter Try.func13, Try.ntmps13
  go_wp2_with fail
  refine (heldLabel_calls a n cap m _ hm0 hm hn (hs.below ((Below.refl _ _).alloc (Nat.le_refl _) _) (Nat.le_refl _))).mono ?_
  rintro e w1 ⟨rfl, hb⟩
  go_wp2
  go_ret
  exact ⟨rfl, ((Below.refl _ _).alloc (Nat.le_refl _) _).trans (hb.mono (by simp))⟩

set_option maxRecDepth 100000 in
theorem eqNR_O (c : Int) (a b : Option Addr) (n m ca cb : Nat) (zs : List Int) (w : World) (hn : n ≤ 1048576) (hx : Sl w a n zs) (hy : Sl w b m zs) :
    Calls Try.prog 16 #[.agg #[.int .i64 c, .slice a n ca], .agg #[.int .i64 c, .slice b m cb]] w fun e w' => e = .returned (.bool true) ∧ Below w.heap.size w w' := by
  obtain rfl : m = n := by have := hx.1; have := hy.1; omega
  have hb0 := fun o1 o2 => ((Below.refl w.heap.size w).alloc (Nat.le_refl _) o1).alloc (by simp) o2
  have hcc : (c != c) = false := by simp
  go_enter Try.func16, Try.ntmps16
  go_wp2_with fail
  refine (eqInts_calls a b m ca m cb zs zs _ (by unfold maxLen; omega) (by unfold maxLen; omega) (hx.below (hb0 _ _) (Nat.le_refl _)) (hy.below (hb0 _ _) (Nat.le_refl _))).mono ?_
  rintro e w1 ⟨rfl, hb⟩
  rw [decide_eq_true rfl]
  go_wp2
  go_ret
  exact ⟨rfl, (hb0 _ _).trans (hb.mono (by simp; omega))⟩

set_option maxRecDepth 100000 in
theorem markNR_O (S : Nat → Prop) (c : Int) (a : Option Addr) (n cap : Nat) (rs : List Int) (m : Int) (w : World) (hm0 : 0 ≤ m) (hm : m ≤ 4194304) (hs : OS S a n rs w) :
    Calls Try.prog 17 #[.agg #[.int .i64 c, .slice a n cap], .int .i64 m] w fun e w' => e = .returned (.int .i64 (m + n)) ∧ OS S a n (marksFrom m n) w' ∧ OutS S w w' := by
  go_enter Try.func17, Try.ntmps17
  go_wp2_with fail
  refine (markInt64S_O S a n cap rs m _ hm0 hm (OS.loc.below ((Below.refl _ _).alloc (Nat.le_refl _) _) hs)).mono ?_
  rintro e w1 ⟨rfl, h1, h2⟩
  go_wp2
  go_ret
  exact ⟨rfl, h1, (OutS.of_below ((Below.refl _ _).alloc (Nat.le_refl _) _)).trans h2⟩

set_option maxRecDepth 100000 in
theorem heldNR_O (c : Int) (S : Nat → Prop) (a : Option Addr) (n cap : Nat) (w : World) (hs : OS S a n (marksFrom 1 n) w) :
    Calls Try.prog 18 #[.agg #[.int .i64 c, .slice a n cap], .int .i64 1] w fun e w' => e = .returned (.int .i64 (1 + n)) ∧ Below w.heap.size w w' := by
  have hb1 := fun o1 => (Below.refl w.heap.size w).alloc (Nat.le_refl _) o1
  have hlt : decide ((1 : Int) + (n : Int) < 0) = false := by simp; omega
  go_enter Try.func18, Try.ntmps18
  go_wp2_with fail
  refine (heldInt64S_calls a n cap 1 _ (by omega) (by omega) hs.2.1 (hs.sl.below (hb1 _) (Nat.le_refl _))).mono ?_
  rintro e w1 ⟨rfl, hb⟩
  go_wp2
  go_ret
  exact ⟨rfl, (hb1 _).trans (hb.mono (by simp))⟩

end Go.Proofs.Ytdcfdmcooonfkab
