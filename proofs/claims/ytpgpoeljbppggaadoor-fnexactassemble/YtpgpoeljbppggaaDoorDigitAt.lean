import Derived.Test.YtpgpoeljbppggaaDoorItxP
import Derived.Laws.Strings
import Derived.WalkKit
import Derived.ProofKit
import Derived.OpenShut
import Derived.ShutString
import Derived.ChangeOld
import Derived.Below
import Derived.WalkSpells
import Derived.Deep.QuietTactic
import Derived.BigQuiet
import Derived.Deep.RegionWith
import Derived.Deep.WholeRow
import Derived.Deep.DeepCutAuto
import Derived.Deep.RegionHeld2
import Derived.Deep.AppendLies
import Derived.Deep.RegionLaw
namespace Go.Proofs.YtpgpoeljbppggaaDoor
open Go.ChangeShapes Go.WideShapes Go.ChangeAt Go.RowKit

/-- the byte of a text at a place. -/
def byt (s : ByteArray) (k : Nat) : Int := if h : k < s.size then (s[k].toNat : Int) else 0

/-- the digit of a text at a place; -1: none is there. -/
def dgt (s : ByteArray) (k : Nat) : Int := if k < s.size ∧ 48 ≤ byt s k ∧ byt s k ≤ 57 then byt s k - 48 else -1

theorem byt_lt (s : ByteArray) (k : Nat) : 0 ≤ byt s k ∧ byt s k < 256 := by
  unfold byt
  split
  · have := s[k].toNat_lt
    omega
  · omega

theorem idx_byt {s : ByteArray} {k : Nat} (h : k < s.size) (w : World) : (Instr.index 9 (.string s) (.int .i64 k)).run Tryd.prog w = .ok (.int .u8 (byt s k)) w := by
  rw [run_index_string (h := Tryd.underlying9), dif_pos (by omega)]
  unfold byt
  rw [dif_pos h]
  rfl

set_option maxRecDepth 100000 in
theorem digitAt_calls (s : ByteArray) (k : Nat) (w : World) :
    Calls Tryd.prog 53 #[.string s, .int .i64 k] w fun e w' => e = .returned (.int .i64 (dgt s k)) ∧ w' = w := by
  by_cases h : k < s.size
  · have hix := idx_byt h
    have i1 : (k : Int) < (s.size : Int) := by omega
    have hb := byt_lt s k
    by_cases h1 : byt s k < 48
    · have hd : dgt s k = -1 := if_neg (by omega)
      have HD := hide hd
      clear hd h hb
      go_enter Tryd.func53, Tryd.ntmps53
      go_wp2
      go_ret
      exact ⟨by rw [HD.out]; rfl, rfl⟩
    · by_cases h2 : 57 < byt s k
      · have hd : dgt s k = -1 := if_neg (by omega)
        have HD := hide hd
        clear hd h hb
        go_enter Tryd.func53, Tryd.ntmps53
        go_wp2
        go_ret
        exact ⟨by rw [HD.out]; rfl, rfl⟩
      · have hd : dgt s k = byt s k - 48 := if_pos ⟨h, by omega, by omega⟩
        have HD := hide hd
        have hw : (byt s k - 48) % 256 = byt s k - 48 := by omega
        clear hd h
        go_enter Tryd.func53, Tryd.ntmps53
        go_wp2
        go_ret
        exact ⟨by rw [HD.out]; rfl, rfl⟩
  · have i1 : (s.size : Int) ≤ (k : Int) := by omega
    have hd : dgt s k = -1 := if_neg (fun x => h x.1)
    have HD := hide hd
    clear hd h
    go_enter Tryd.func53, Tryd.ntmps53
    go_wp2
    go_ret
    exact ⟨by rw [HD.out]; rfl, rfl⟩

end Go.Proofs.YtpgpoeljbppggaaDoor
