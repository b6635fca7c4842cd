import Derived.Test.YtipfaoecodclaaaKfP
import Derived.WalkKit
import Derived.ProofKit
import Derived.OpenShut
import Derived.ShutString
import Derived.ChangeOld
import Derived.Below
import Derived.WalkSpells
import Derived.Deep.QuietTactic
import Derived.BigQuiet
import Derived.Deep.RegionWith
import Derived.Deep.WholeRow
import Derived.Deep.DeepCutAuto
import Derived.Deep.RegionHeld2
import Derived.Deep.AppendLies
import Derived.Deep.RegionLaw
namespace Go.Proofs.Ytipfaoecodclaaa
open Go.ChangeShapes Go.WideShapes Go.ChangeAt Go.RowKit

set_option maxRecDepth 100000 in
theorem l11Form_calls (b o : Nat) (x : OB) (la : Option Addr) (lc : Nat) (da : Option Addr) (dc : Nat) (w : World) (h : O7 w b o x la lc da dc) : Calls Try.prog 61 #[.pointer (some ⟨b, o, none⟩)] w fun e w' => e = .returned (.bool (formB x)) ∧ w' = w := by
  obtain ⟨r0, r1, r2, r3, r4, r5, r6⟩ := h
  by_cases h1 : x.2.2.1 = 1
  · have e1 : (x.2.2.1 == 1) = true := by simpa using h1
    have HR : Hid (formB x = ((x.2.2.2.2.2.2.length : Int) == 0)) := by show _ = _; unfold formB; rw [if_pos h1]; (by_cases hz : x.2.2.2.2.2.2.length = 0) <;> simp [hz]
    clear h1
    go_enter Try.func61, Try.ntmps61
    go_wp2
    go_ret
    exact ⟨ret_bool HR.out.symm, rfl⟩
  · have e1 : (x.2.2.1 == 1) = false := by simpa using h1
    by_cases h2 : x.2.2.1 = 2
    · have e2 : (x.2.2.1 == 2) = true := by simpa using h2
      have HR : Hid (formB x = (x.2.2.2.2.2.1 == 0)) := by show _ = _; unfold formB; rw [if_neg h1, h2]; simp; rfl
      clear h1 h2
      go_enter Try.func61, Try.ntmps61
      go_wp2
      go_ret
      exact ⟨ret_bool HR.out.symm, rfl⟩
    · have e2 : (x.2.2.1 == 2) = false := by simpa using h2
      have HR : Hid (formB x = false) := by show _ = _; unfold formB; rw [if_neg h1]; simp [h2]
      clear h1 h2
      go_enter Try.func61, Try.ntmps61
      go_wp2
      go_ret
      exact ⟨ret_bool HR.out.symm, rfl⟩

end Go.Proofs.Ytipfaoecodclaaa
