import Derived.Test.YtipfaoecodclaaaKfP
import Derived.WalkKit
import Derived.ProofKit
import Derived.OpenShut
import Derived.ShutString
import Derived.ChangeOld
import Derived.Below
import Derived.WalkSpells
import Derived.Deep.QuietTactic
import Derived.BigQuiet
import Derived.Deep.RegionWith
import Derived.Deep.WholeRow
import Derived.Deep.DeepCutAuto
import Derived.Deep.RegionHeld2
import Derived.Deep.AppendLies
import Derived.Deep.RegionLaw
namespace Go.Proofs.Ytipfaoecodclaaa
open Go.ChangeShapes Go.WideShapes Go.ChangeAt Go.RowKit

set_option maxRecDepth 100000 in
set_option maxHeartbeats 2000000 in
theorem l11Ranges_calls (b o : Nat) (x : OB) (la : Option Addr) (lc : Nat) (da : Option Addr) (dc : Nat) (w : World) (h : O7 w b o x la lc da dc) (hb : b < w.heap.size) (hd : x.2.2.2.2.2.2.length ≤ maxLen) (hs : Sl w da x.2.2.2.2.2.2.length x.2.2.2.2.2.2) : Calls Try.prog 63 #[.pointer (some ⟨b, o, none⟩)] w fun e w' => e = .returned (.bool (rngB x)) ∧ Below w.heap.size w w' := by
  unfold maxLen at hd
  obtain ⟨r0, r1, r2, r3, r4, r5, r6⟩ := h
  obtain ⟨_, hs⟩ := hs
  have HB := hide fun n => bdrewN (Below.refl w.heap.size w) n
  cases h1 : inB x.2.2.2.2.1 0 200 with
  | false =>
    have HR : Hid (rngB x = false) := by show _ = _; unfold rngB; rw [h1]; simp
    clear hs
    go_enter Try.func63, Try.ntmps63
    go_wp2_with fail
    go_quiet (first | (go_at_call 47; with_reducible refine Calls.quiet_of_same (inB_is _ _ _ _ _ h1)))
    go_wp2
    go_ret
    exact ⟨ret_bool HR.out.symm, HB.out _⟩
  | true =>
  by_cases hk : x.2.2.1 = 1 ∧ inB x.2.2.2.2.2.1 1 100 = false
  · have h2 := hk.2
    have e1 : (x.2.2.1 == 1) = true := by simpa using hk.1
    have HR : Hid (rngB x = false) := by show _ = _; unfold rngB; rw [h2]; simp [hk.1]
    clear hs hk
    go_enter Try.func63, Try.ntmps63
    go_wp2_with fail
    go_quiet (first | (go_at_call 47; with_reducible refine Calls.quiet_of_same (inB_is _ _ _ _ _ h1)) | (go_at_call 47; with_reducible refine Calls.quiet_of_same (inB_is _ _ _ _ _ h2)))
    go_wp2
    go_ret
    exact ⟨ret_bool HR.out.symm, HB.out _⟩
  have hok : (!(decide (x.2.2.1 = 1)) || inB x.2.2.2.2.2.1 1 100) = true := by
    by_cases hk1 : x.2.2.1 = 1
    · have : inB x.2.2.2.2.2.1 1 100 = true := by cases hh : inB x.2.2.2.2.2.1 1 100 with | true => rfl | false => exact absurd ⟨hk1, hh⟩ hk
      simp [this]
    · simp [hk1]
  by_cases hl : (x.2.2.2.2.2.2.length : Int) ≤ x.2.2.2.2.1
  rotate_left
  · have HR : Hid (rngB x = false) := by show _ = _; unfold rngB; simp [hl]
    have hl' : (x.2.2.2.2.2.2.length : Int) > x.2.2.2.2.1 := by omega
    by_cases hk1 : x.2.2.1 = 1
    · have e1 : (x.2.2.1 == 1) = true := by simpa using hk1
      have h2 : inB x.2.2.2.2.2.1 1 100 = true := by simpa [hk1] using hok
      clear hs hk hok hk1
      go_enter Try.func63, Try.ntmps63
      go_wp2_with fail
      go_quiet (first | (go_at_call 47; with_reducible refine Calls.quiet_of_same (inB_is _ _ _ _ _ h1)) | (go_at_call 47; with_reducible refine Calls.quiet_of_same (inB_is _ _ _ _ _ h2)))
      go_wp2
      go_ret
      exact ⟨ret_bool HR.out.symm, HB.out _⟩
    · have e1 : (x.2.2.1 == 1) = false := by simpa using hk1
      clear hs hk hok hk1
      go_enter Try.func63, Try.ntmps63
      go_wp2_with fail
      go_quiet (first | (go_at_call 47; with_reducible refine Calls.quiet_of_same (inB_is _ _ _ _ _ h1)))
      go_wp2
      go_ret
      exact ⟨ret_bool HR.out.symm, HB.out _⟩
  have HR0 : Hid (rngB x = x.2.2.2.2.2.2.all (fun v => inB v 0 65535)) := by show _ = _; unfold rngB; rw [h1, hok]; simp [hl]
  have hl' : ¬ ((x.2.2.2.2.2.2.length : Int) > x.2.2.2.2.1) := by omega
  by_cases hk1 : x.2.2.1 = 1
  · have e1 : (x.2.2.1 == 1) = true := by simpa using hk1
    have h2 : inB x.2.2.2.2.2.1 1 100 = true := by simpa [hk1] using hok
    clear hk hok hk1 hl
    go_enter Try.func63, Try.ntmps63
    go_wp2_with fail
    go_quiet (first | (go_at_call 47; with_reducible refine Calls.quiet_of_same (inB_is _ _ _ _ _ h1)) | (go_at_call 47; with_reducible refine Calls.quiet_of_same (inB_is _ _ _ _ _ h2)))
    obtain ⟨u, hu⟩ : ∃ y, y = w.drewN nq := ⟨_, rfl⟩
    have gu : Below w.heap.size w u := by rw [hu]; exact HB.out _
    rw [← hu]
    have s6 := (gu.cell (p := ⟨b, o + 6, none⟩) hb).trans r6
    clear hu r0 r1 r2 r3 r4 r5 r6
    go_wp2
    clear hl' e1
    go_loop [3] (fun i => ∃ k : Nat, k ≤ x.2.2.2.2.2.2.length ∧ i = .int .i64 k ∧ ∀ j, j < k → inB (gt x.2.2.2.2.2.2 j) 0 65535 = true) (fun i => x.2.2.2.2.2.2.length - (intOf i).toNat)
    case atStart => exact ⟨0, Nat.zero_le _, rfl, fun j hj => by omega⟩
    case round =>
      obtain ⟨k, hk, rfl, hno⟩ := hrel
      have Hno := hide hno
      clear hno
      by_cases hlt : k < x.2.2.2.2.2.2.length
      · obtain ⟨bk, off, rfl, hbk, hc⟩ := hs (by omega)
        have hck := (gu.cell (p := ⟨bk, off + k, none⟩) hbk).trans (hc k hlt)
        clear hc
        cases h3 : inB (gt x.2.2.2.2.2.2 k) 0 65535 with
        | false =>
          have HR : Hid (rngB x = false) := by
            show _ = _
            rw [HR0.out, List.all_eq_false]
            exact ⟨x.2.2.2.2.2.2[k], List.getElem_mem hlt, by have e0 : gt x.2.2.2.2.2.2 k = x.2.2.2.2.2.2[k] := (by unfold gt; simp [hlt]); rw [← e0, h3]; simp⟩
          go_wp2_with (go_at_call 47; with_reducible refine (inB_is _ _ _ _ _ h3).mono ?_; rintro e w' ⟨rfl, hw'⟩; rw [hw']; clear hw' w')
          go_ret
          exact ⟨ret_bool HR.out.symm, gu⟩
        | true =>
          have HN : Hid (∀ j, j < k + 1 → inB (gt x.2.2.2.2.2.2 j) 0 65535 = true) := fun j hj => by
            by_cases e0 : j = k
            · subst e0; exact h3
            · exact Hno.out j (by omega)
          go_wp2_with (go_at_call 47; with_reducible refine (inB_is _ _ _ _ _ h3).mono ?_; rintro e w' ⟨rfl, hw'⟩; rw [hw']; clear hw' w')
          go_round
          case rel => exact ⟨k + 1, by omega, by go_num, HN.out⟩
          case measure => simp [intOf]; omega
      · have HR : Hid (rngB x = true) := by
          show _ = _
          rw [HR0.out, List.all_eq_true]
          intro v hv
          obtain ⟨j, hj, rfl⟩ := List.getElem_of_mem hv
          have := Hno.out j (by omega)
          have e0 : gt x.2.2.2.2.2.2 j = x.2.2.2.2.2.2[j] := by unfold gt; simp [hj]
          rw [← e0]; exact this
        clear hs
        go_wp2
        go_ret
        exact ⟨ret_bool HR.out.symm, gu⟩
  · have e1 : (x.2.2.1 == 1) = false := by simpa using hk1
    clear hk hok hk1 hl
    go_enter Try.func63, Try.ntmps63
    go_wp2_with fail
    go_quiet (first | (go_at_call 47; with_reducible refine Calls.quiet_of_same (inB_is _ _ _ _ _ h1)))
    obtain ⟨u, hu⟩ : ∃ y, y = w.drewN nq := ⟨_, rfl⟩
    have gu : Below w.heap.size w u := by rw [hu]; exact HB.out _
    rw [← hu]
    have s6 := (gu.cell (p := ⟨b, o + 6, none⟩) hb).trans r6
    clear hu r0 r1 r2 r3 r4 r5 r6
    go_wp2
    clear hl' e1
    go_loop [3] (fun i => ∃ k : Nat, k ≤ x.2.2.2.2.2.2.length ∧ i = .int .i64 k ∧ ∀ j, j < k → inB (gt x.2.2.2.2.2.2 j) 0 65535 = true) (fun i => x.2.2.2.2.2.2.length - (intOf i).toNat)
    case atStart => exact ⟨0, Nat.zero_le _, rfl, fun j hj => by omega⟩
    case round =>
      obtain ⟨k, hk, rfl, hno⟩ := hrel
      have Hno := hide hno
      clear hno
      by_cases hlt : k < x.2.2.2.2.2.2.length
      · obtain ⟨bk, off, rfl, hbk, hc⟩ := hs (by omega)
        have hck := (gu.cell (p := ⟨bk, off + k, none⟩) hbk).trans (hc k hlt)
        clear hc
        cases h3 : inB (gt x.2.2.2.2.2.2 k) 0 65535 with
        | false =>
          have HR : Hid (rngB x = false) := by
            show _ = _
            rw [HR0.out, List.all_eq_false]
            exact ⟨x.2.2.2.2.2.2[k], List.getElem_mem hlt, by have e0 : gt x.2.2.2.2.2.2 k = x.2.2.2.2.2.2[k] := (by unfold gt; simp [hlt]); rw [← e0, h3]; simp⟩
          go_wp2_with (go_at_call 47; with_reducible refine (inB_is _ _ _ _ _ h3).mono ?_; rintro e w' ⟨rfl, hw'⟩; rw [hw']; clear hw' w')
          go_ret
          exact ⟨ret_bool HR.out.symm, gu⟩
        | true =>
          have HN : Hid (∀ j, j < k + 1 → inB (gt x.2.2.2.2.2.2 j) 0 65535 = true) := fun j hj => by
            by_cases e0 : j = k
            · subst e0; exact h3
            · exact Hno.out j (by omega)
          go_wp2_with (go_at_call 47; with_reducible refine (inB_is _ _ _ _ _ h3).mono ?_; rintro e w' ⟨rfl, hw'⟩; rw [hw']; clear hw' w')
          go_round
          case rel => exact ⟨k + 1, by omega, by go_num, HN.out⟩
          case measure => simp [intOf]; omega
      · have HR : Hid (rngB x = true) := by
          show _ = _
          rw [HR0.out, List.all_eq_true]
          intro v hv
          obtain ⟨j, hj, rfl⟩ := List.getElem_of_mem hv
          have := Hno.out j (by omega)
          have e0 : gt x.2.2.2.2.2.2 j = x.2.2.2.2.2.2[j] := by unfold gt; simp [hj]
          rw [← e0]; exact this
        clear hs
        go_wp2
        go_ret
        exact ⟨ret_bool HR.out.symm, gu⟩

end Go.Proofs.Ytipfaoecodclaaa
