import Derived.Test.YtknnahchhbobbaaDoorTxtI
import Derived.WalkKit
import Derived.ProofKit
import Derived.OpenShut
import Derived.ShutString
import Derived.ChangeOld
import Derived.Below
import Derived.WalkSpells
import Derived.Deep.QuietTactic
import Derived.BigQuiet
import Derived.Deep.RegionWith
import Derived.Deep.WholeRow
import Derived.Deep.DeepCutAuto
import Derived.Deep.RegionHeld2
import Derived.Deep.AppendLies
import Derived.Deep.RegionLaw
namespace Go.Proofs.YtknnahchhbobbaaDoor
open Go.ChangeShapes Go.WideShapes Go.ChangeAt Go.RowKit

/-- the level of a sign; -1: it is none. -/
def lvl (c : Int) : Int := if c = 42 then 0 else if c = 48 then 1 else if c = 49 then 2 else if c = 50 then 3 else if c = 51 then 4 else if c = 74 then 5 else -1

theorem lvl_none {c : Int} (h : ∀ j, j < 6 → gt sgs j ≠ c) : lvl c = -1 := by
  have h0 := h 0 (by omega)
  have h1 := h 1 (by omega)
  have h2 := h 2 (by omega)
  have h3 := h 3 (by omega)
  have h4 := h 4 (by omega)
  have h5 := h 5 (by omega)
  simp [gt, sgs] at h0 h1 h2 h3 h4 h5
  unfold lvl
  rw [if_neg (Ne.symm h0), if_neg (Ne.symm h1), if_neg (Ne.symm h2), if_neg (Ne.symm h3), if_neg (Ne.symm h4), if_neg (Ne.symm h5)]

/-- the levels that a text's signs are. -/
def plL (s : ByteArray) : List Int := s.data.toList.map (fun c => lvl (c.toNat : Int))

def plC (s : ByteArray) : Int := if fault (plL s) = 0 then 0 else 5

theorem length_plL (s : ByteArray) : (plL s).length = s.size := by unfold plL; rw [List.length_map]; rfl

theorem gt_plL {s : ByteArray} {k : Nat} (h : k < s.size) : gt (plL s) k = lvl (s[k].toNat : Int) := by
  show (plL s).getD k 0 = _
  rw [← List.getElem_eq_getD (h := by rw [length_plL]; exact h)]
  unfold plL
  rw [List.getElem_map]
  rfl

theorem take_plL {s : ByteArray} {k : Nat} (h : k < s.size) : ((plL s).take (k + 1)).map (Value.int .i64) = ((plL s).take k).map (Value.int .i64) ++ [.int .i64 (lvl (s[k].toNat : Int))] := by
  rw [List.take_succ_eq_append_getElem (by rw [length_plL]; exact h), List.map_append, ← gt_plL h]
  simp [gt, length_plL, h]

/-- the first k levels of a text, as values. -/
def plK (s : ByteArray) (k : Nat) : List Value := ((plL s).take k).map (Value.int .i64)

theorem take_plK {s : ByteArray} {k : Nat} (h : k < s.size) : plK s (k + 1) = plK s k ++ [.int .i64 (lvl (s[k].toNat : Int))] := take_plL h

/-- what levelOfSign gives. -/
def lsV (c : Int) : Int := if lvl c < 0 then 0 else lvl c

def lsB (c : Int) : Bool := decide (0 ≤ lvl c)

theorem ne_step {c : Int} {k : Nat} (h : ∀ j, j < k → gt sgs j ≠ c) (hk : gt sgs k ≠ c) : ∀ j, j < k + 1 → gt sgs j ≠ c := by
  intro j hj
  by_cases e : j = k
  · subst e; exact hk
  · exact h j (by omega)

theorem six0 (w : World) : (Instr.index 9 (.string ⟨#[42, 48, 49, 50, 51, 74]⟩) (.int .i64 0)).run Tryd.prog w = .ok (.int .u8 42) w := by kernel_rfl

theorem tab0 (w : World) : (Instr.index 61 (.agg #[.int .u8 42, .int .u8 48, .int .u8 49, .int .u8 50, .int .u8 51, .int .u8 74]) (.int .i64 0)).run Tryd.prog w = .ok (.int .u8 42) w := by kernel_rfl

theorem six1 (w : World) : (Instr.index 9 (.string ⟨#[42, 48, 49, 50, 51, 74]⟩) (.int .i64 1)).run Tryd.prog w = .ok (.int .u8 48) w := by kernel_rfl

theorem tab1 (w : World) : (Instr.index 61 (.agg #[.int .u8 42, .int .u8 48, .int .u8 49, .int .u8 50, .int .u8 51, .int .u8 74]) (.int .i64 1)).run Tryd.prog w = .ok (.int .u8 48) w := by kernel_rfl

theorem six2 (w : World) : (Instr.index 9 (.string ⟨#[42, 48, 49, 50, 51, 74]⟩) (.int .i64 2)).run Tryd.prog w = .ok (.int .u8 49) w := by kernel_rfl

theorem tab2 (w : World) : (Instr.index 61 (.agg #[.int .u8 42, .int .u8 48, .int .u8 49, .int .u8 50, .int .u8 51, .int .u8 74]) (.int .i64 2)).run Tryd.prog w = .ok (.int .u8 49) w := by kernel_rfl

theorem six3 (w : World) : (Instr.index 9 (.string ⟨#[42, 48, 49, 50, 51, 74]⟩) (.int .i64 3)).run Tryd.prog w = .ok (.int .u8 50) w := by kernel_rfl

theorem tab3 (w : World) : (Instr.index 61 (.agg #[.int .u8 42, .int .u8 48, .int .u8 49, .int .u8 50, .int .u8 51, .int .u8 74]) (.int .i64 3)).run Tryd.prog w = .ok (.int .u8 50) w := by kernel_rfl

theorem six4 (w : World) : (Instr.index 9 (.string ⟨#[42, 48, 49, 50, 51, 74]⟩) (.int .i64 4)).run Tryd.prog w = .ok (.int .u8 51) w := by kernel_rfl

theorem tab4 (w : World) : (Instr.index 61 (.agg #[.int .u8 42, .int .u8 48, .int .u8 49, .int .u8 50, .int .u8 51, .int .u8 74]) (.int .i64 4)).run Tryd.prog w = .ok (.int .u8 51) w := by kernel_rfl

theorem six5 (w : World) : (Instr.index 9 (.string ⟨#[42, 48, 49, 50, 51, 74]⟩) (.int .i64 5)).run Tryd.prog w = .ok (.int .u8 74) w := by kernel_rfl

theorem tab5 (w : World) : (Instr.index 61 (.agg #[.int .u8 42, .int .u8 48, .int .u8 49, .int .u8 50, .int .u8 51, .int .u8 74]) (.int .i64 5)).run Tryd.prog w = .ok (.int .u8 74) w := by kernel_rfl

set_option maxRecDepth 100000 in
set_option maxHeartbeats 1000000 in
theorem l1Level_calls (c : Int) (w : World) :
    Calls Tryd.prog 40 #[.int .u8 c] w fun e w' => e = .returned (.int .i64 (lvl c)) ∧ w' = w := by
  have ix0 := six0
  have ix1 := six1
  have ix2 := six2
  have ix3 := six3
  have ix4 := six4
  have ix5 := six5
  go_enter Tryd.func40, Tryd.ntmps40
  go_wp2
  go_loop [4] (fun i => ∃ k : Nat, k ≤ 6 ∧ i = .int .i64 k ∧ ∀ j, j < k → gt sgs j ≠ c) (fun i => 6 - (intOf i).toNat)
  case atStart => exact ⟨0, Nat.zero_le _, rfl, fun j hj => by omega⟩
  case round =>
    obtain ⟨k, hk, rfl, hno⟩ := hrel
    have HN := hide hno
    clear hno
    rcases (by omega : k = 0 ∨ k = 1 ∨ k = 2 ∨ k = 3 ∨ k = 4 ∨ k = 5 ∨ k = 6) with rfl | rfl | rfl | rfl | rfl | rfl | rfl
    · by_cases hc : c = 42
      · subst hc
        have he : (((42 : Int)) == 42) = true := by decide
        go_wp2
        go_ret
        exact ⟨by rfl, rfl⟩
      · have he : ((42 : Int) == c) = false := by simp; omega
        have HC : Hid (gt sgs 0 ≠ c) := fun e => hc e.symm
        clear hc
        go_wp2
        go_round
        case rel => exact ⟨1, by omega, by go_num, ne_step HN.out HC.out⟩
        case measure => simp [intOf]
    · by_cases hc : c = 48
      · subst hc
        have he : (((48 : Int)) == 48) = true := by decide
        go_wp2
        go_ret
        exact ⟨by rfl, rfl⟩
      · have he : ((48 : Int) == c) = false := by simp; omega
        have HC : Hid (gt sgs 1 ≠ c) := fun e => hc e.symm
        clear hc
        go_wp2
        go_round
        case rel => exact ⟨2, by omega, by go_num, ne_step HN.out HC.out⟩
        case measure => simp [intOf]
    · by_cases hc : c = 49
      · subst hc
        have he : (((49 : Int)) == 49) = true := by decide
        go_wp2
        go_ret
        exact ⟨by rfl, rfl⟩
      · have he : ((49 : Int) == c) = false := by simp; omega
        have HC : Hid (gt sgs 2 ≠ c) := fun e => hc e.symm
        clear hc
        go_wp2
        go_round
        case rel => exact ⟨3, by omega, by go_num, ne_step HN.out HC.out⟩
        case measure => simp [intOf]
    · by_cases hc : c = 50
      · subst hc
        have he : (((50 : Int)) == 50) = true := by decide
        go_wp2
        go_ret
        exact ⟨by rfl, rfl⟩
      · have he : ((50 : Int) == c) = false := by simp; omega
        have HC : Hid (gt sgs 3 ≠ c) := fun e => hc e.symm
        clear hc
        go_wp2
        go_round
        case rel => exact ⟨4, by omega, by go_num, ne_step HN.out HC.out⟩
        case measure => simp [intOf]
    · by_cases hc : c = 51
      · subst hc
        have he : (((51 : Int)) == 51) = true := by decide
        go_wp2
        go_ret
        exact ⟨by rfl, rfl⟩
      · have he : ((51 : Int) == c) = false := by simp; omega
        have HC : Hid (gt sgs 4 ≠ c) := fun e => hc e.symm
        clear hc
        go_wp2
        go_round
        case rel => exact ⟨5, by omega, by go_num, ne_step HN.out HC.out⟩
        case measure => simp [intOf]
    · by_cases hc : c = 74
      · subst hc
        have he : (((74 : Int)) == 74) = true := by decide
        go_wp2
        go_ret
        exact ⟨by rfl, rfl⟩
      · have he : ((74 : Int) == c) = false := by simp; omega
        have HC : Hid (gt sgs 5 ≠ c) := fun e => hc e.symm
        clear hc
        go_wp2
        go_round
        case rel => exact ⟨6, by omega, by go_num, ne_step HN.out HC.out⟩
        case measure => simp [intOf]
    · have HL := hide (lvl_none HN.out)
      go_wp2
      go_ret
      exact ⟨by rw [HL.out]; rfl, rfl⟩

set_option maxRecDepth 100000 in
set_option maxHeartbeats 1000000 in
theorem levelOfSign_calls (c : Int) (w : World) (hsg : Sg w) :
    Calls Tryd.prog 27 #[.int .u8 c] w fun e w' => e = .returned (.tuple #[.int .i64 (lsV c), .bool (lsB c)]) ∧ w' = w := by
  have s0 : w.cell? ⟨0, 0, none⟩ = some (.int .u8 42) := hsg.2 0 (by omega)
  have s1 : w.cell? ⟨0, 1, none⟩ = some (.int .u8 48) := hsg.2 1 (by omega)
  have s2 : w.cell? ⟨0, 2, none⟩ = some (.int .u8 49) := hsg.2 2 (by omega)
  have s3 : w.cell? ⟨0, 3, none⟩ = some (.int .u8 50) := hsg.2 3 (by omega)
  have s4 : w.cell? ⟨0, 4, none⟩ = some (.int .u8 51) := hsg.2 4 (by omega)
  have s5 : w.cell? ⟨0, 5, none⟩ = some (.int .u8 74) := hsg.2 5 (by omega)
  clear hsg
  have ix0 := tab0
  have ix1 := tab1
  have ix2 := tab2
  have ix3 := tab3
  have ix4 := tab4
  have ix5 := tab5
  go_enter Tryd.func27, Tryd.ntmps27
  go_wp2
  go_loop [7] (fun i => ∃ k : Nat, k ≤ 6 ∧ i = .int .i64 k ∧ ∀ j, j < k → gt sgs j ≠ c) (fun i => 6 - (intOf i).toNat)
  case atStart => exact ⟨0, Nat.zero_le _, rfl, fun j hj => by omega⟩
  case round =>
    obtain ⟨k, hk, rfl, hno⟩ := hrel
    have HN := hide hno
    clear hno
    rcases (by omega : k = 0 ∨ k = 1 ∨ k = 2 ∨ k = 3 ∨ k = 4 ∨ k = 5 ∨ k = 6) with rfl | rfl | rfl | rfl | rfl | rfl | rfl
    · by_cases hc : c = 42
      · subst hc
        have he : (((42 : Int)) == 42) = true := by decide
        go_wp2
        go_ret2
        exact ⟨by rfl, rfl⟩
      · have he : ((42 : Int) == c) = false := by simp; omega
        have HC : Hid (gt sgs 0 ≠ c) := fun e => hc e.symm
        clear hc
        go_wp2
        go_round
        case rel => exact ⟨1, by omega, by go_num, ne_step HN.out HC.out⟩
        case measure => simp [intOf]
    · by_cases hc : c = 48
      · subst hc
        have he : (((48 : Int)) == 48) = true := by decide
        go_wp2
        go_ret2
        exact ⟨by rfl, rfl⟩
      · have he : ((48 : Int) == c) = false := by simp; omega
        have HC : Hid (gt sgs 1 ≠ c) := fun e => hc e.symm
        clear hc
        go_wp2
        go_round
        case rel => exact ⟨2, by omega, by go_num, ne_step HN.out HC.out⟩
        case measure => simp [intOf]
    · by_cases hc : c = 49
      · subst hc
        have he : (((49 : Int)) == 49) = true := by decide
        go_wp2
        go_ret2
        exact ⟨by rfl, rfl⟩
      · have he : ((49 : Int) == c) = false := by simp; omega
        have HC : Hid (gt sgs 2 ≠ c) := fun e => hc e.symm
        clear hc
        go_wp2
        go_round
        case rel => exact ⟨3, by omega, by go_num, ne_step HN.out HC.out⟩
        case measure => simp [intOf]
    · by_cases hc : c = 50
      · subst hc
        have he : (((50 : Int)) == 50) = true := by decide
        go_wp2
        go_ret2
        exact ⟨by rfl, rfl⟩
      · have he : ((50 : Int) == c) = false := by simp; omega
        have HC : Hid (gt sgs 3 ≠ c) := fun e => hc e.symm
        clear hc
        go_wp2
        go_round
        case rel => exact ⟨4, by omega, by go_num, ne_step HN.out HC.out⟩
        case measure => simp [intOf]
    · by_cases hc : c = 51
      · subst hc
        have he : (((51 : Int)) == 51) = true := by decide
        go_wp2
        go_ret2
        exact ⟨by rfl, rfl⟩
      · have he : ((51 : Int) == c) = false := by simp; omega
        have HC : Hid (gt sgs 4 ≠ c) := fun e => hc e.symm
        clear hc
        go_wp2
        go_round
        case rel => exact ⟨5, by omega, by go_num, ne_step HN.out HC.out⟩
        case measure => simp [intOf]
    · by_cases hc : c = 74
      · subst hc
        have he : (((74 : Int)) == 74) = true := by decide
        go_wp2
        go_ret2
        exact ⟨by rfl, rfl⟩
      · have he : ((74 : Int) == c) = false := by simp; omega
        have HC : Hid (gt sgs 5 ≠ c) := fun e => hc e.symm
        clear hc
        go_wp2
        go_round
        case rel => exact ⟨6, by omega, by go_num, ne_step HN.out HC.out⟩
        case measure => simp [intOf]
    · have HL := hide (lvl_none HN.out)
      go_wp2
      go_ret2
      exact ⟨by unfold lsV lsB; rw [HL.out]; rfl, rfl⟩

end Go.Proofs.YtknnahchhbobbaaDoor
