import Derived.Test.YtpgpoeljbppggaaDoorDigitAt
import Derived.WalkKit
import Derived.ProofKit
import Derived.OpenShut
import Derived.ShutString
import Derived.ChangeOld
import Derived.Below
import Derived.WalkSpells
import Derived.Deep.QuietTactic
import Derived.BigQuiet
import Derived.Deep.RegionWith
import Derived.Deep.WholeRow
import Derived.Deep.DeepCutAuto
import Derived.Deep.RegionHeld2
import Derived.Deep.AppendLies
import Derived.Deep.RegionLaw
namespace Go.Proofs.YtpgpoeljbppggaaDoor
open Go.ChangeShapes Go.WideShapes Go.ChangeAt Go.RowKit

/-- the number that the first k digits of a text are. -/
def numK (s : ByteArray) : Nat → Int
  | 0 => 0
  | k + 1 => numK s k * 10 + (byt s k - 48)

def digs (s : ByteArray) (k : Nat) : Prop := ∀ j, j < k → 48 ≤ byt s j ∧ byt s j ≤ 57

theorem digs_snoc {s : ByteArray} {k : Nat} (h : digs s k) (h1 : 48 ≤ byt s k) (h2 : byt s k ≤ 57) : digs s (k + 1) := fun j hj => by
  by_cases e : j = k
  · subst e; exact ⟨h1, h2⟩
  · exact h j (by omega)

theorem numK_lt (s : ByteArray) : ∀ k, digs s k → 0 ≤ numK s k ∧ numK s k < 10 ^ k
  | 0, _ => by simp [numK]
  | k + 1, h => by
    have ih := numK_lt s k (fun j hj => h j (by omega))
    have hd := h k (by omega)
    rw [Int.pow_succ]
    show 0 ≤ numK s k * 10 + (byt s k - 48) ∧ numK s k * 10 + (byt s k - 48) < 10 ^ k * 10
    omega

open Classical in
/-- the number that a text is; -1: it is none. -/
noncomputable def numV (s : ByteArray) : Int := if s.size < 1 ∨ 5 < s.size ∨ (1 < s.size ∧ byt s 0 = 48) then -1 else if digs s s.size then numK s s.size else -1

theorem numV_bad {s : ByteArray} (h : s.size < 1 ∨ 5 < s.size ∨ (1 < s.size ∧ byt s 0 = 48)) : numV s = -1 := if_pos h

theorem numV_ok {s : ByteArray} (h : ¬ (s.size < 1 ∨ 5 < s.size ∨ (1 < s.size ∧ byt s 0 = 48))) (hd : digs s s.size) : numV s = numK s s.size := by
  unfold numV
  rw [if_neg h, if_pos hd]

theorem numV_no {s : ByteArray} {k : Nat} (hk : k < s.size) (h : byt s k < 48 ∨ 57 < byt s k) : numV s = -1 := by
  unfold numV
  split
  · rfl
  · rw [if_neg (fun hd => by have := hd k hk; omega)]

set_option maxRecDepth 100000 in
set_option maxHeartbeats 1000000 in
theorem l5Number_calls (s : ByteArray) (w : World) :
    Calls Tryd.prog 54 #[.string s] w fun e w' => e = .returned (.int .i64 (numV s)) ∧ w' = w := by
  by_cases h1 : s.size < 1
  · have i1 : (s.size : Int) < 1 := by omega
    have HD := hide (numV_bad (.inl h1))
    clear h1
    go_enter Tryd.func54, Tryd.ntmps54
    go_wp2
    go_ret
    exact ⟨by rw [HD.out]; rfl, rfl⟩
  have i1 : (1 : Int) ≤ (s.size : Int) := by omega
  by_cases h2 : 5 < s.size
  · have i2 : (5 : Int) < (s.size : Int) := by omega
    have HD := hide (numV_bad (.inr (.inl h2)))
    clear h1 h2
    go_enter Tryd.func54, Tryd.ntmps54
    go_wp2
    go_ret
    exact ⟨by rw [HD.out]; rfl, rfl⟩
  have i2 : (s.size : Int) ≤ 5 := by omega
  have hix0 : ∀ w, (Instr.index 9 (.string s) (.int .i64 0)).run Tryd.prog w = .ok (.int .u8 (byt s 0)) w := idx_byt (k := 0) (by omega)
  by_cases h3 : 1 < s.size ∧ byt s 0 = 48
  · have i3 : (1 : Int) < (s.size : Int) := by omega
    have i4 : (byt s 0 == 48) = true := by simpa using h3.2
    have HD := hide (numV_bad (.inr (.inr h3)))
    clear h1 h2 h3
    go_enter Tryd.func54, Tryd.ntmps54
    go_wp2
    go_ret
    exact ⟨by rw [HD.out]; rfl, rfl⟩
  have HN : Hid (¬ (s.size < 1 ∨ 5 < s.size ∨ (1 < s.size ∧ byt s 0 = 48))) := fun x => x.elim h1 (fun x => x.elim h2 h3)
  have hcase : (s.size : Int) ≤ 1 ∨ ((1 : Int) < (s.size : Int) ∧ (byt s 0 == 48) = false) := by
    by_cases h4 : 1 < s.size
    · exact .inr ⟨by omega, by simpa using fun e => h3 ⟨h4, e⟩⟩
    · exact .inl (by omega)
  clear h1 h2 h3
  rcases hcase with i3 | ⟨i3, i4⟩
  all_goals (
    go_enter Tryd.func54, Tryd.ntmps54
    go_wp2
    go_loopw [3, 4] (fun n i wr => ∃ k : Nat, k ≤ s.size ∧ n = .int .i64 (numK s k) ∧ i = .int .i64 k ∧ digs s k ∧ wr = w) (fun _ i _ => s.size - (intOf i).toNat)
    case atStart => exact ⟨0, Nat.zero_le _, rfl, rfl, fun j hj => by omega, rfl⟩
    case round =>
      obtain ⟨k, hk, rfl, rfl, hd, rfl⟩ := hrel
      by_cases hlt : k < s.size
      · have hix := idx_byt hlt
        have j1 : (k : Int) < (s.size : Int) := by omega
        have hb := byt_lt s k
        have hn := numK_lt s k hd
        have hp : (10 : Int) ^ k ≤ 10000 := by
          rcases (by omega : k = 0 ∨ k = 1 ∨ k = 2 ∨ k = 3 ∨ k = 4) with rfl | rfl | rfl | rfl | rfl <;> decide
        have hn1 : numK s k ≤ 9999 := by omega
        have hn0 := hn.1
        clear hn hp
        by_cases c1 : byt s k < 48
        · have HD := hide (numV_no hlt (.inl c1))
          clear hlt hb
          go_wp2
          go_ret
          exact ⟨by rw [HD.out]; rfl, rfl⟩
        by_cases c2 : 57 < byt s k
        · have HD := hide (numV_no hlt (.inr c2))
          clear hlt hb
          go_wp2
          go_ret
          exact ⟨by rw [HD.out]; rfl, rfl⟩
        have hd2 := digs_snoc hd (by omega) (by omega)
        have HD2 := hide hd2
        have hw : (byt s k - 48) % 256 = byt s k - 48 := by omega
        clear hd hd2
        go_wp2
        go_roundw
        case rel => exact ⟨k + 1, by omega, by (show _ = Value.int .i64 (numK s k * 10 + (byt s k - 48)); go_num), by go_num, HD2.out, trivial⟩
        case measure => simp [intOf]; omega
      · obtain rfl : k = s.size := by omega
        have HD := hide (numV_ok HN.out hd)
        clear hlt hk hd
        go_wp2
        go_ret
        exact ⟨by rw [HD.out]; rfl, rfl⟩)

end Go.Proofs.YtpgpoeljbppggaaDoor
