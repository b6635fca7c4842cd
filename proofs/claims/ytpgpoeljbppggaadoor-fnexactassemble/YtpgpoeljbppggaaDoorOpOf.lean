import Derived.Test.YtpgpoeljbppggaaDoorL5Num
import Derived.WalkKit
import Derived.ProofKit
import Derived.OpenShut
import Derived.ShutString
import Derived.ChangeOld
import Derived.Below
import Derived.WalkSpells
import Derived.Deep.QuietTactic
import Derived.BigQuiet
import Derived.Deep.RegionWith
import Derived.Deep.WholeRow
import Derived.Deep.DeepCutAuto
import Derived.Deep.RegionHeld2
import Derived.Deep.AppendLies
import Derived.Deep.RegionLaw
namespace Go.Proofs.YtpgpoeljbppggaaDoor
open Go.ChangeShapes Go.WideShapes Go.ChangeAt Go.RowKit

theorem str_ne {a b : ByteArray} (h : ¬ a = b) : (a.toList == b.toList) = false := by
  rw [ByteArray.toList_eq, ByteArray.toList_eq, beq_eq_false_iff_ne]
  exact fun e => h (ByteArray.ext (Array.toList_inj.1 e))

theorem ix16 (x : Nat → ByteArray) {k : Nat} (h : k < 16) (w : World) : (Instr.index 61 (.agg #[.string (x 0), .string (x 1), .string (x 2), .string (x 3), .string (x 4), .string (x 5), .string (x 6), .string (x 7), .string (x 8), .string (x 9), .string (x 10), .string (x 11), .string (x 12), .string (x 13), .string (x 14), .string (x 15)]) (.int .i64 k)).run Tryd.prog w = .ok (.string (x k)) w := by
  rcases (by omega : k = 0 ∨ k = 1 ∨ k = 2 ∨ k = 3 ∨ k = 4 ∨ k = 5 ∨ k = 6 ∨ k = 7 ∨ k = 8 ∨ k = 9 ∨ k = 10 ∨ k = 11 ∨ k = 12 ∨ k = 13 ∨ k = 14 ∨ k = 15) with rfl | rfl | rfl | rfl | rfl | rfl | rfl | rfl | rfl | rfl | rfl | rfl | rfl | rfl | rfl | rfl <;> kernel_rfl

set_option maxRecDepth 100000 in
set_option maxHeartbeats 1000000 in
theorem opOfWord_calls (x : Nat → ByteArray) (s : ByteArray) (w : World) (hc : ∀ j, j < 16 → w.cell? ⟨0, j, none⟩ = some (.string (x j))) :
    Calls Tryd.prog 52 #[.string s] w fun e w' => ∃ r : Int, e = .returned (.int .i64 r) ∧ ((r = -1 ∧ ∀ j, j < 16 → x j ≠ s) ∨ ∃ j : Nat, j < 16 ∧ r = j ∧ x j = s) ∧ w' = w := by
  have c0 : w.cell? ⟨0, 0, none⟩ = some (.string (x 0)) := hc 0 (by decide)
  have c1 : w.cell? ⟨0, 1, none⟩ = some (.string (x 1)) := hc 1 (by decide)
  have c2 : w.cell? ⟨0, 2, none⟩ = some (.string (x 2)) := hc 2 (by decide)
  have c3 : w.cell? ⟨0, 3, none⟩ = some (.string (x 3)) := hc 3 (by decide)
  have c4 : w.cell? ⟨0, 4, none⟩ = some (.string (x 4)) := hc 4 (by decide)
  have c5 : w.cell? ⟨0, 5, none⟩ = some (.string (x 5)) := hc 5 (by decide)
  have c6 : w.cell? ⟨0, 6, none⟩ = some (.string (x 6)) := hc 6 (by decide)
  have c7 : w.cell? ⟨0, 7, none⟩ = some (.string (x 7)) := hc 7 (by decide)
  have c8 : w.cell? ⟨0, 8, none⟩ = some (.string (x 8)) := hc 8 (by decide)
  have c9 : w.cell? ⟨0, 9, none⟩ = some (.string (x 9)) := hc 9 (by decide)
  have c10 : w.cell? ⟨0, 10, none⟩ = some (.string (x 10)) := hc 10 (by decide)
  have c11 : w.cell? ⟨0, 11, none⟩ = some (.string (x 11)) := hc 11 (by decide)
  have c12 : w.cell? ⟨0, 12, none⟩ = some (.string (x 12)) := hc 12 (by decide)
  have c13 : w.cell? ⟨0, 13, none⟩ = some (.string (x 13)) := hc 13 (by decide)
  have c14 : w.cell? ⟨0, 14, none⟩ = some (.string (x 14)) := hc 14 (by decide)
  have c15 : w.cell? ⟨0, 15, none⟩ = some (.string (x 15)) := hc 15 (by decide)
  go_enter Tryd.func52, Tryd.ntmps52
  go_wp2
  clear c0 c1 c2 c3 c4 c5 c6 c7 c8 c9 c10 c11 c12 c13 c14 c15
  go_loopw [3, 4, 6] (fun _ _ i wr => ∃ k : Nat, k ≤ 16 ∧ i = .int .i64 k ∧ (∀ j, j < k → x j ≠ s) ∧ wr = w) (fun _ _ i _ => 16 - (intOf i).toNat)
  case atStart => exact ⟨0, by decide, rfl, fun j hj => by omega, rfl⟩
  case round =>
    obtain ⟨k, hk, rfl, hno, rfl⟩ := hrel
    by_cases hlt : k < 16
    · have hix := ix16 x hlt
      have j1 : (k : Int) < 16 := by omega
      by_cases he : x k = s
      · have HE := hide he
        subst he
        clear hno
        go_wp2
        go_ret
        exact ⟨_, rfl, .inr ⟨k, hlt, rfl, rfl⟩, rfl⟩
      · have HN : Hid (∀ j, j < k + 1 → x j ≠ s) := fun j hj => by
          by_cases e : j = k
          · subst e; exact he
          · exact hno j (by omega)
        have hne := str_ne he
        clear hno he
        go_wp2
        go_roundw
        case rel => exact ⟨k + 1, by omega, by go_num, HN.out, trivial⟩
        case measure => simp [intOf]; omega
    · obtain rfl : k = 16 := by omega
      have HN := hide hno
      clear hno hlt
      go_wp2
      go_ret
      exact ⟨_, rfl, .inl ⟨rfl, HN.out⟩, rfl⟩

end Go.Proofs.YtpgpoeljbppggaaDoor
