import Derived.Test.YtipfaoecodclaaaKiA
import Derived.WalkKit
import Derived.ProofKit
import Derived.OpenShut
import Derived.ShutString
import Derived.ChangeOld
import Derived.Below
import Derived.WalkSpells
import Derived.Deep.QuietTactic
import Derived.BigQuiet
import Derived.Deep.RegionWith
import Derived.Deep.WholeRow
import Derived.Deep.DeepCutAuto
import Derived.Deep.RegionHeld2
import Derived.Deep.AppendLies
import Derived.Deep.RegionLaw
namespace Go.Proofs.Ytipfaoecodclaaa
open Go.ChangeShapes Go.WideShapes Go.ChangeAt Go.RowKit

/-- the first object's standing. -/
def fstB (x : OB) : Bool := (decide (x.1 = -1) && decide (x.2.1 = 0)) && decide (x.2.2.1 = 1)
def fstF (x : OB) : Int := if fstB x = true then 0 else 4

set_option maxRecDepth 100000 in
theorem firstFault_calls (x : OB) (la : Option Addr) (lc : Nat) (da : Option Addr) (dc : Nat) (w : World) : Calls Try.prog 70 #[.agg #[.int .i64 x.1, .int .i64 x.2.1, .int .i64 x.2.2.1, .slice la x.2.2.2.1.length lc, .int .i64 x.2.2.2.2.1, .int .i64 x.2.2.2.2.2.1, .slice da x.2.2.2.2.2.2.length dc]] w fun e w' => e = .returned (.int .i64 (fstF x)) ∧ Below w.heap.size w w' := by
  have HB : Hid (Below w.heap.size w (w.alloc (.cells #[.int .i64 x.1, .int .i64 x.2.1, .int .i64 x.2.2.1, .slice la x.2.2.2.1.length lc, .int .i64 x.2.2.2.2.1, .int .i64 x.2.2.2.2.2.1, .slice da x.2.2.2.2.2.2.length dc] 57))) := (Below.refl _ _).alloc (Nat.le_refl _) _
  by_cases h1 : x.1 = -1
  rotate_left
  · have e1 : (x.1 != -1) = true := by simpa using h1
    have HV : Hid (fstF x = 4) := by show _ = _; unfold fstF fstB; simp [h1]
    clear h1
    go_enter Try.func70, Try.ntmps70
    go_wp2
    go_ret
    exact ⟨ret_int HV.out.symm, HB.out⟩
  have e1 : (x.1 != -1) = false := by simp [h1]
  by_cases h2 : x.2.1 = 0
  rotate_left
  · have e2 : (x.2.1 != 0) = true := by simpa using h2
    have HV : Hid (fstF x = 4) := by show _ = _; unfold fstF fstB; simp [h2]
    clear h1 h2
    go_enter Try.func70, Try.ntmps70
    go_wp2
    go_ret
    exact ⟨ret_int HV.out.symm, HB.out⟩
  have e2 : (x.2.1 != 0) = false := by simp [h2]
  by_cases h3 : x.2.2.1 = 1
  rotate_left
  · have e3 : (x.2.2.1 != 1) = true := by simpa using h3
    have HV : Hid (fstF x = 4) := by show _ = _; unfold fstF fstB; simp [h3]
    clear h1 h2 h3
    go_enter Try.func70, Try.ntmps70
    go_wp2
    go_ret
    exact ⟨ret_int HV.out.symm, HB.out⟩
  have e3 : (x.2.2.1 != 1) = false := by simp [h3]
  have HV : Hid (fstF x = 0) := by show _ = _; unfold fstF fstB; simp [h1, h2, h3]
  clear h1 h2 h3
  go_enter Try.func70, Try.ntmps70
  go_wp2
  go_ret
  exact ⟨ret_int HV.out.symm, HB.out⟩

set_option maxRecDepth 100000 in
set_option maxHeartbeats 2000000 in
theorem placeIn_calls (a : Option Addr) (n c : Nat) (f : Nat → OB) (p x : Int) (w : World) (hn : n ≤ maxLen) (hs : S7 w a n f) : Calls Try.prog 72 #[.slice a n c, .int .i64 p, .int .i64 x] w fun e w' => e = .returned (.int .i64 (pinA f n p x)) ∧ Below w.heap.size w w' := by
  unfold maxLen at hn
  go_enter Try.func72, Try.ntmps72
  go_wp2
  go_loopw [11] (fun i wr => ∃ k : Nat, k ≤ n ∧ i = .int .i64 k ∧ Below w.heap.size w wr ∧ ∀ j, j < k → pinHit f p x j = false) (fun i _ => n - (intOf i).toNat)
  case atStart => exact ⟨0, Nat.zero_le _, rfl, Below.refl _ _, fun j hj => by omega⟩
  case round =>
    obtain ⟨k, hk, rfl, hbel, hno⟩ := hrel
    have Hno := hide hno
    clear hno
    by_cases hlt : k < n
    · obtain ⟨b, off, rfl, hb, hc⟩ := hs (by omega)
      obtain ⟨la, lc, da, dc, h7⟩ := hc k hlt
      obtain ⟨r0, r1, r2, r3, r4, r5, r6⟩ := h7.of_block (hbel.block b hb)
      have HB := hide (fun o => hbel.alloc hbel.size o)
      clear hc h7 hbel
      by_cases h1 : (f k).1 = p
      · have e1 : ((f k).1 == p) = true := by simpa using h1
        by_cases h2 : (f k).2.1 = x
        · have e2 : ((f k).2.1 == x) = true := by simpa using h2
          have HV : Hid (pinA f n p x = (k : Int)) := pinA_hit hlt Hno.out (by unfold pinHit; simp [h1, h2])
          clear h1 h2
          go_wp2
          go_ret
          exact ⟨ret_int HV.out.symm, HB.out _⟩
        · have e2 : ((f k).2.1 == x) = false := by simpa using h2
          have HN : Hid (∀ j, j < k + 1 → pinHit f p x j = false) := fun j hj => by
            by_cases e0 : j = k
            · subst e0; unfold pinHit; simp [h2]
            · exact Hno.out j (by omega)
          clear h1 h2
          go_wp2
          go_roundw
          case rel => exact ⟨k + 1, by omega, by go_num, HB.out _, HN.out⟩
          case measure => simp [intOf]; omega
      · have e1 : ((f k).1 == p) = false := by simpa using h1
        have HN : Hid (∀ j, j < k + 1 → pinHit f p x j = false) := fun j hj => by
          by_cases e0 : j = k
          · subst e0; unfold pinHit; simp [h1]
          · exact Hno.out j (by omega)
        clear h1
        go_wp2
        go_roundw
        case rel => exact ⟨k + 1, by omega, by go_num, HB.out _, HN.out⟩
        case measure => simp [intOf]; omega
    · have HR : Hid (pinA f n p x = -1) := pinA_no (fun j hj => Hno.out j (by omega))
      clear hs
      go_wp2
      go_ret
      exact ⟨ret_int HR.out.symm, hbel⟩

set_option maxRecDepth 100000 in
set_option maxHeartbeats 2000000 in
theorem boxUsed_calls (nx : Int) (ka : Option Addr) (kn kc : Nat) (f : Nat → OB) (w : World) (hn : kn ≤ 12) (hs : S7 w ka kn f) (hq : ∀ j, j < kn → 0 ≤ (f j).2.2.2.2.1 ∧ (f j).2.2.2.2.1 ≤ 200) : Calls Try.prog 95 #[.agg #[.int .i64 nx, .slice ka kn kc]] w fun e w' => e = .returned (.int .i64 (qS f kn)) ∧ Below w.heap.size w w' := by
  have HQ : Hid (∀ k, k ≤ kn → 0 ≤ qS f k ∧ qS f k ≤ 200 * (k : Int)) := fun k hk => qS_bound (fun j hj => hq j (by omega))
  have HQ1 := hide hq
  clear hq
  go_enter Try.func95, Try.ntmps95
  go_wp2
  go_loopw [9, 3] (fun i s wr => ∃ k : Nat, k ≤ kn ∧ i = .int .i64 k ∧ s = .int .i64 (qS f k) ∧ Below w.heap.size w wr) (fun i _ _ => kn - (intOf i).toNat)
  case atStart => exact ⟨0, Nat.zero_le _, rfl, rfl, (Below.refl _ _).alloc (Nat.le_refl _) _⟩
  case round =>
    obtain ⟨k, hk, rfl, rfl, hbel⟩ := hrel
    by_cases hlt : k < kn
    · obtain ⟨b, off, rfl, hb, hc⟩ := hs (by omega)
      obtain ⟨la, lc, da, dc, h7⟩ := hc k hlt
      obtain ⟨r0, r1, r2, r3, r4, r5, r6⟩ := h7.of_block (hbel.block b hb)
      have HB := hide (fun o => hbel.alloc hbel.size o)
      have HE : Hid (qS f (k + 1) = qS f k + (f k).2.2.2.2.1) := rfl
      have q1 := HQ.out k (by omega)
      have q2 := HQ1.out k hlt
      have hwp : IntKind.i64.wrap (qS f k + (f k).2.2.2.2.1) = qS f k + (f k).2.2.2.2.1 := IntWalk.i64_in _ (by omega)
      clear hc h7 hbel q1 q2
      go_wp2
      go_roundw
      case rel => exact ⟨k + 1, by omega, by go_num, by rw [HE.out], HB.out _⟩
      case measure => simp [intOf]; omega
    · obtain rfl : k = kn := by omega
      clear hs
      go_wp2
      go_ret
      exact ⟨rfl, hbel⟩

end Go.Proofs.Ytipfaoecodclaaa
