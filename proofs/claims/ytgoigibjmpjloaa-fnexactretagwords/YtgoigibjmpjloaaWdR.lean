import Derived.Test.YtgoigibjmpjloaaWdL
import Derived.WalkKit
import Derived.ProofKit
import Derived.OpenShut
import Derived.ShutString
import Derived.ChangeOld
import Derived.Below
import Derived.WalkSpells
import Derived.Deep.QuietTactic
import Derived.BigQuiet
import Derived.Deep.RegionWith
import Derived.Deep.WholeRow
import Derived.Deep.DeepCutAuto
import Derived.Deep.RegionHeld2
import Derived.Deep.AppendLies
import Derived.Deep.RegionLaw
namespace Go.Proofs.Ytgoigibjmpjloaa
open Go.ChangeShapes Go.WideShapes Go.ChangeAt Go.RowKit

set_option maxRecDepth 100000 in
theorem eqWordResult_calls (c d t : Int) (w : World) :
    Calls Try.prog 16 #[.agg #[.int .i64 c, .int .i64 d, .int .i64 t], .agg #[.int .i64 c, .int .i64 d, .int .i64 t]] w fun e w' => e = .returned (.bool true) ∧ Below w.heap.size w w' := by
  have h1 : (c != c) = false := by simp
  have hb2 := fun o1 o2 => ((Below.refl w.heap.size w).alloc (Nat.le_refl _) o1).alloc (by simp) o2
  go_enter Try.func16, Try.ntmps16
  go_wp2_with fail
  refine (eqWord_calls d t _).mono ?_
  rintro e w1 ⟨rfl, hb⟩
  have hbw : Below w.heap.size w w1 := (hb2 _ _).trans (hb.mono (by simp; omega))
  clear hb hb2
  go_wp2
  go_ret
  exact ⟨rfl, hbw⟩

set_option maxRecDepth 100000 in
theorem markWordS_O (S : Nat → Prop) (a : Option Addr) (n cap : Nat) (ls : List (Int × Int)) (m : Int) (w : World) (hm0 : 0 ≤ m) (hm : m ≤ 4194304) (hs : OWd S a n ls w) :
    Calls Try.prog 41 #[.slice a n cap, .int .i64 m] w fun e w' => e = .returned (.int .i64 (m + 2 * n)) ∧ OWd S a n (mkw m n) w' ∧ OutS S w w' := by
  obtain ⟨hlen, hn, hs⟩ := hs
  rcases hs with rfl | ⟨b, rfl, hB, blk⟩
  · go_enter Try.func41, Try.ntmps41
    go_wp2
    go_loop [1, 5] (fun k i => k = .int .i64 m ∧ i = .int .i64 0) (fun _ _ => 0)
    case atStart => exact ⟨rfl, rfl⟩
    case round =>
      obtain ⟨rfl, rfl⟩ := hrel
      go_wp2
      go_ret
      exact ⟨ret_int (by simp), ⟨length_mkw _ _, by omega, (.inl rfl)⟩, OutS.refl _ _⟩
  · have hr0 := MRow.start (m := m) blk
    rw [length_flw, hlen] at hr0
    clear blk
    go_enter Try.func41, Try.ntmps41
    go_wp2
    go_loopw [1, 5] (fun q i wr => ∃ k : Nat, k ≤ n ∧ q = .int .i64 (m + 2 * k) ∧ i = .int .i64 k ∧ MRow wr b (n * 2) (k * 2) m ∧ OutS S w wr) (fun _ i _ => n - (intOf i).toNat)
    case atStart => exact ⟨0, Nat.zero_le _, by simp, rfl, hr0, OutS.refl _ _⟩
    case round =>
      clear hr0
      obtain ⟨k, hk, rfl, rfl, hrow, hbut⟩ := hrel
      by_cases hlt : k < n
      · obtain ⟨v0, hv0⟩ := hrow.2.2.1 (k * 2) (by omega)
        obtain ⟨v1, hv1⟩ := hrow.2.2.1 (k * 2 + 1) (by omega)
        have hf0 := hrow.2.2.2 (k * 2)
        have hf1 := hrow.2.2.2 (k * 2 + 1)
        have HR := hide ((hrow.store (by omega)).store (by omega))
        have HO := hide (fun x y => (hbut.setCell (p := ⟨b, k * 2, none⟩) hB x).setCell (p := ⟨b, k * 2 + 1, none⟩) hB y)
        clear hrow hbut
        go_wp2
        go_roundw
        case rel =>
          refine ⟨k + 1, by omega, by go_num, by go_num, ?_, HO.out _ _⟩
          have h := HR.out
          have e0 : m + ((k * 2 : Nat) : Int) = m + 2 * (k : Int) := by omega
          have e1 : m + ((k * 2 + 1 : Nat) : Int) = m + 2 * (k : Int) + 1 := by omega
          rw [e0, e1] at h
          have e3 : (k + 1) * 2 = k * 2 + 1 + 1 := by omega
          rw [e3]
          exact h
        case measure => simp [intOf]; omega
      · have e : k = n := by omega
        subst e
        go_wp2
        go_ret
        exact ⟨rfl, ⟨length_mkw _ _, hn, .inr ⟨b, rfl, hB, hrow.donew⟩⟩, hbut⟩

set_option maxRecDepth 100000 in
theorem markMemory_O (S : Nat → Prop) (a : Option Addr) (n cap : Nat) (ls : List (Int × Int)) (m : Int) (w : World) (hm0 : 0 ≤ m) (hm : m ≤ 4194304) (hs : OWd S a n ls w) :
    Calls Try.prog 20 #[.agg #[.slice a n cap], .int .i64 m] w fun e w' => e = .returned (.int .i64 (m + 2 * n)) ∧ OWd S a n (mkw m n) w' ∧ OutS S w w' := by
  go_enter Try.func20, Try.ntmps20
  go_wp2_with fail
  refine (markWordS_O S a n cap ls m _ hm0 hm (OWd.loc.below ((Below.refl _ _).alloc (Nat.le_refl _) _) hs)).mono ?_
  rintro e w1 ⟨rfl, h1, h2⟩
  go_wp2
  go_ret
  exact ⟨rfl, h1, (OutS.of_below ((Below.refl _ _).alloc (Nat.le_refl _) _)).trans h2⟩

set_option maxRecDepth 100000 in
theorem markMR_O (S : Nat → Prop) (c : Int) (a : Option Addr) (n cap : Nat) (ls : List (Int × Int)) (m : Int) (w : World) (hm0 : 0 ≤ m) (hm : m ≤ 4194304) (hs : OWd S a n ls w) :
    Calls Try.prog 21 #[.agg #[.int .i64 c, .slice a n cap], .int .i64 m] w fun e w' => e = .returned (.int .i64 (m + 2 * n)) ∧ OWd S a n (mkw m n) w' ∧ OutS S w w' := by
  go_enter Try.func21, Try.ntmps21
  go_wp2_with fail
  refine (markMemory_O S a n cap ls m _ hm0 hm (OWd.loc.below ((Below.refl _ _).alloc (Nat.le_refl _) _) hs)).mono ?_
  rintro e w1 ⟨rfl, h1, h2⟩
  go_wp2
  go_ret
  exact ⟨rfl, h1, (OutS.of_below ((Below.refl _ _).alloc (Nat.le_refl _) _)).trans h2⟩

set_option maxRecDepth 100000 in
theorem heldWordS_calls (a : Option Addr) (n cap : Nat) (m : Int) (w : World) (hm0 : 0 ≤ m) (hm : m ≤ 4194304) (hn : n ≤ 1048576) (hs : Swd w a n (mkw m n)) :
    Calls Try.prog 47 #[.slice a n cap, .int .i64 m] w fun e w' => e = .returned (.int .i64 (m + 2 * n)) ∧ Below w.heap.size w w' := by
  obtain ⟨_, hs⟩ := hs
  go_enter Try.func47, Try.ntmps47
  go_wp2
  go_loop [1, 5] (fun q i => ∃ k : Nat, k ≤ n ∧ q = .int .i64 (m + 2 * k) ∧ i = .int .i64 k) (fun _ i => n - (intOf i).toNat)
  case atStart => exact ⟨0, Nat.zero_le _, by simp, rfl⟩
  case round =>
    obtain ⟨k, hk, rfl, rfl⟩ := hrel
    by_cases hlt : k < n
    · obtain ⟨b, off, rfl, hb, hc⟩ := hs (by omega)
      obtain ⟨r0, r1⟩ := cellsw hc hlt
      rw [gw_mkw m n k hlt] at r0 r1
      simp only at r0 r1
      have n0 : ((m + 2 * (k : Int)) != (m + 2 * (k : Int))) = false := by simp
      have n1 : ((m + 2 * (k : Int) + 1) != (m + 2 * (k : Int) + 1)) = false := by simp
      clear hc
      go_wp2
      go_round
      case rel => exact ⟨k + 1, by omega, by go_num, by go_num⟩
      case measure => simp [intOf]; omega
    · have e : k = n := by omega
      subst e
      go_wp2
      go_ret
      exact ⟨rfl, Below.refl _ _⟩

set_option maxRecDepth 100000 in
theorem heldMemory_calls (a : Option Addr) (n cap : Nat) (m : Int) (w : World) (hm0 : 0 ≤ m) (hm : m ≤ 4194304) (hn : n ≤ 1048576) (hs : Swd w a n (mkw m n)) :
    Calls Try.prog 42 #[.agg #[.slice a n cap], .int .i64 m] w fun e w' => e = .returned (.int .i64 (m + 2 * n)) ∧ Below w.heap.size w w' := by
  have hp : ¬ (m + 2 * n < 0) := by omega
  go_enter Try.func42, Try.ntmps42
  go_wp2_with fail
  refine (heldWordS_calls a n cap m _ hm0 hm hn (hs.below ((Below.refl _ _).alloc (Nat.le_refl _) _) (Nat.le_refl _))).mono ?_
  rintro e w1 ⟨rfl, hb⟩
  go_wp2
  go_ret
  exact ⟨rfl, ((Below.refl _ _).alloc (Nat.le_refl _) _).trans (hb.mono (by simp))⟩

set_option maxRecDepth 100000 in
theorem heldMR_O (c : Int) (S : Nat → Prop) (a : Option Addr) (n cap : Nat) (w : World) (hs : OWd S a n (mkw 1 n) w) :
    Calls Try.prog 22 #[.agg #[.int .i64 c, .slice a n cap], .int .i64 1] w fun e w' => e = .returned (.int .i64 (1 + 2 * n)) ∧ Below w.heap.size w w' := by
  have hn := hs.2.1
  have hp : ¬ ((1 : Int) + 2 * n < 0) := by omega
  have hs1 := hs.swd
  go_enter Try.func22, Try.ntmps22
  go_wp2_with fail
  refine (heldMemory_calls a n cap 1 _ (by omega) (by omega) hn (hs1.below ((Below.refl _ _).alloc (Nat.le_refl _) _) (Nat.le_refl _))).mono ?_
  rintro e w1 ⟨rfl, hb⟩
  go_wp2
  go_ret
  exact ⟨rfl, ((Below.refl _ _).alloc (Nat.le_refl _) _).trans (hb.mono (by simp))⟩

set_option maxRecDepth 100000 in
theorem eqMR_O (c : Int) (S S' : Nat → Prop) (a b : Option Addr) (n m ca cb : Nat) (ls : List (Int × Int)) (w : World) (hx : OWd S a n ls w) (hy : OWd S' b m ls w) :
    Calls Try.prog 19 #[.agg #[.int .i64 c, .slice a n ca], .agg #[.int .i64 c, .slice b m cb]] w fun e w' => e = .returned (.bool true) ∧ Below w.heap.size w w' := by
  obtain rfl : m = n := by have := hx.1; have := hy.1; omega
  have h1 : (c != c) = false := by simp
  have HB := hide fun o1 o2 => ((Below.refl w.heap.size w).alloc (Nat.le_refl _) o1).alloc (by simp) o2
  have HX := hide fun o1 o2 => OWd.loc.alloc (OWd.loc.alloc hx o1) o2
  have HY := hide fun o1 o2 => OWd.loc.alloc (OWd.loc.alloc hy o1) o2
  go_enter Try.func19, Try.ntmps19
  go_wp2_with fail
  refine (eqMemory_O _ _ a b _ ca cb ls _ (HX.out _ _) (HY.out _ _)).mono ?_
  rintro e w1 ⟨rfl, hb⟩
  have HE := hide ((HB.out _ _).trans (hb.mono (HB.out _ _).size))
  clear hb
  go_wp2
  go_ret
  exact ⟨rfl, HE.out⟩

end Go.Proofs.Ytgoigibjmpjloaa
