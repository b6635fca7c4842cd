import Derived.Test.YtpgpoeljbppggaaDoorPinQ
import Derived.Test.YtpgpoeljbppggaaDoorPinC
import Derived.WalkKit
import Derived.ProofKit
import Derived.OpenShut
import Derived.ShutString
import Derived.ChangeOld
import Derived.Below
import Derived.WalkSpells
import Derived.Deep.QuietTactic
import Derived.BigQuiet
import Derived.Deep.RegionWith
import Derived.Deep.WholeRow
import Derived.Deep.DeepCutAuto
import Derived.Deep.RegionHeld2
import Derived.Deep.AppendLies
import Derived.Deep.RegionLaw
namespace Go.Proofs.YtpgpoeljbppggaaDoor
open Go.ChangeShapes Go.WideShapes Go.ChangeAt Go.RowKit

/-- the numbers of the pieces are what the machine reads. -/
theorem parse_yes {s : ByteArray} {m : Nat} {p0 p1 p2 p3 : ByteArray} (hm : 2 * (s.size - nb s 0) + 4 ≤ m) (hc : cuts s 0 = [p0, p1, p2, p3]) (h1 : 0 ≤ numV p1 ∧ numV p1 ≤ 63) (h2 : 0 ≤ numV p2 ∧ numV p2 ≤ 63) (h3 : 0 ≤ numV p3 ∧ numV p3 ≤ 63) :
    mach s m false 0 (nb s 0) 0 0 0 = some (numV p1, numV p2, numV p3) ∧ p0 = s.extract 0 (nb s 0) := by
  obtain ⟨_, a2, _, a4⟩ := nb_spec (s := s) (a := 0) (Nat.zero_le _)
  rw [cuts_at (Nat.zero_le _)] at hc
  injection hc with e0 hc
  have l0 : nb s 0 + 1 ≤ s.size := by
    by_cases h : s.size < nb s 0 + 1
    · rw [cuts_end h] at hc; contradiction
    · omega
  obtain ⟨b1, b2, _, b4⟩ := nb_spec (s := s) (a := nb s 0 + 1) l0
  rw [cuts_at l0] at hc
  injection hc with e1 hc
  have l1 : nb s (nb s 0 + 1) + 1 ≤ s.size := by
    by_cases h : s.size < nb s (nb s 0 + 1) + 1
    · rw [cuts_end h] at hc; contradiction
    · omega
  obtain ⟨c1, c2, _, c4⟩ := nb_spec (s := s) (a := nb s (nb s 0 + 1) + 1) l1
  rw [cuts_at l1] at hc
  injection hc with e2 hc
  have l2 : nb s (nb s (nb s 0 + 1) + 1) + 1 ≤ s.size := by
    by_cases h : s.size < nb s (nb s (nb s 0 + 1) + 1) + 1
    · rw [cuts_end h] at hc; contradiction
    · omega
  obtain ⟨d1, d2, _, d4⟩ := nb_spec (s := s) (a := nb s (nb s (nb s 0 + 1) + 1) + 1) l2
  rw [cuts_at l2] at hc
  injection hc with e3 hc
  have l3 : nb s (nb s (nb s (nb s 0 + 1) + 1) + 1) = s.size := by
    by_cases h : s.size < nb s (nb s (nb s (nb s 0 + 1) + 1) + 1) + 1
    · omega
    · rw [cuts_at (by omega)] at hc; contradiction
  obtain ⟨m1, hm1, s1⟩ := (num_step (p := 0) (q := 0) (r := 0) (j := 0) (m := m) (a := nb s 0) (by omega) (a4.resolve_left (by omega)) rfl (by omega) rfl hm (congrArg numV e1.symm)).2 h1
  obtain ⟨m2, hm2, s2⟩ := (num_step (p := numV p1) (q := 0) (r := 0) (j := 1) (m := m1) (a := nb s (nb s 0 + 1)) (by omega) (b4.resolve_left (by omega)) rfl (by omega) rfl hm1 (congrArg numV e2.symm)).2 h2
  obtain ⟨m3, hm3, s3⟩ := (num_step (p := numV p1) (q := numV p2) (r := 0) (j := 2) (m := m2) (a := nb s (nb s (nb s 0 + 1) + 1)) (by omega) (c4.resolve_left (by omega)) rfl (by omega) rfl hm2 (congrArg numV e3.symm)).2 h3
  refine ⟨?_, e0.symm⟩
  rw [s1]
  show mach s m1 false 1 (nb s (nb s 0 + 1)) (numV p1) 0 0 = _
  rw [s2]
  show mach s m2 false 2 (nb s (nb s (nb s 0 + 1) + 1)) (numV p1) (numV p2) 0 = _
  rw [s3]
  show (if nb s (nb s (nb s (nb s 0 + 1) + 1) + 1) = s.size then some (numV p1, numV p2, numV p3) else none) = _
  rw [if_pos l3]

/-- where the machine reads three numbers they are those of the pieces. -/
theorem parse_some {s : ByteArray} {m : Nat} {v : Int × Int × Int} (hm : 2 * (s.size - nb s 0) + 4 ≤ m) (hr : mach s m false 0 (nb s 0) 0 0 0 = some v) :
    ∃ p0 p1 p2 p3 : ByteArray, cuts s 0 = [p0, p1, p2, p3] ∧ p0 = s.extract 0 (nb s 0) ∧ v = (numV p1, numV p2, numV p3) ∧ (0 ≤ numV p1 ∧ numV p1 ≤ 63) ∧ (0 ≤ numV p2 ∧ numV p2 ≤ 63) ∧ (0 ≤ numV p3 ∧ numV p3 ≤ 63) := by
  obtain ⟨_, a2, _, a4⟩ := nb_spec (s := s) (a := 0) (Nat.zero_le _)
  by_cases l0 : nb s 0 < s.size
  rotate_left
  · rw [mach_stop (.inl (by omega))] at hr; contradiction
  have l0' : nb s 0 + 1 ≤ s.size := l0
  obtain ⟨b1, b2, _, b4⟩ := nb_spec (s := s) (a := nb s 0 + 1) l0'
  have t1 := num_step (p := 0) (q := 0) (r := 0) (j := 0) (m := m) (a := nb s 0) (V := numV (s.extract (nb s 0 + 1) (nb s (nb s 0 + 1)))) l0 (a4.resolve_left (by omega)) rfl (by omega) rfl hm rfl
  obtain ⟨p1, hp1⟩ : ∃ p1, p1 = s.extract (nb s 0 + 1) (nb s (nb s 0 + 1)) := ⟨_, rfl⟩
  rw [← hp1] at t1
  by_cases h1 : 0 ≤ numV p1 ∧ numV p1 ≤ 63
  rotate_left
  · rw [t1.1 h1] at hr; contradiction
  obtain ⟨m1, hm1, s1⟩ := t1.2 h1
  rw [s1] at hr
  change mach s m1 false 1 (nb s (nb s 0 + 1)) (numV p1) 0 0 = some v at hr
  by_cases l1 : nb s (nb s 0 + 1) < s.size
  rotate_left
  · rw [mach_stop (.inl (by omega))] at hr; contradiction
  have l1' : nb s (nb s 0 + 1) + 1 ≤ s.size := l1
  obtain ⟨c1, c2, _, c4⟩ := nb_spec (s := s) (a := nb s (nb s 0 + 1) + 1) l1'
  have t2 := num_step (p := numV p1) (q := 0) (r := 0) (j := 1) (m := m1) (a := nb s (nb s 0 + 1)) (V := numV (s.extract (nb s (nb s 0 + 1) + 1) (nb s (nb s (nb s 0 + 1) + 1)))) l1 (b4.resolve_left (by omega)) rfl (by omega) rfl hm1 rfl
  obtain ⟨p2, hp2⟩ : ∃ p2, p2 = s.extract (nb s (nb s 0 + 1) + 1) (nb s (nb s (nb s 0 + 1) + 1)) := ⟨_, rfl⟩
  rw [← hp2] at t2
  by_cases h2 : 0 ≤ numV p2 ∧ numV p2 ≤ 63
  rotate_left
  · rw [t2.1 h2] at hr; contradiction
  obtain ⟨m2, hm2, s2⟩ := t2.2 h2
  rw [s2] at hr
  change mach s m2 false 2 (nb s (nb s (nb s 0 + 1) + 1)) (numV p1) (numV p2) 0 = some v at hr
  by_cases l2 : nb s (nb s (nb s 0 + 1) + 1) < s.size
  rotate_left
  · rw [mach_stop (.inl (by omega))] at hr; contradiction
  have l2' : nb s (nb s (nb s 0 + 1) + 1) + 1 ≤ s.size := l2
  obtain ⟨d1, d2, _, d4⟩ := nb_spec (s := s) (a := nb s (nb s (nb s 0 + 1) + 1) + 1) l2'
  have t3 := num_step (p := numV p1) (q := numV p2) (r := 0) (j := 2) (m := m2) (a := nb s (nb s (nb s 0 + 1) + 1)) (V := numV (s.extract (nb s (nb s (nb s 0 + 1) + 1) + 1) (nb s (nb s (nb s (nb s 0 + 1) + 1) + 1)))) l2 (c4.resolve_left (by omega)) rfl (by omega) rfl hm2 rfl
  obtain ⟨p3, hp3⟩ : ∃ p3, p3 = s.extract (nb s (nb s (nb s 0 + 1) + 1) + 1) (nb s (nb s (nb s (nb s 0 + 1) + 1) + 1)) := ⟨_, rfl⟩
  rw [← hp3] at t3
  by_cases h3 : 0 ≤ numV p3 ∧ numV p3 ≤ 63
  rotate_left
  · rw [t3.1 h3] at hr; contradiction
  obtain ⟨m3, hm3, s3⟩ := t3.2 h3
  rw [s3] at hr
  change (if nb s (nb s (nb s (nb s 0 + 1) + 1) + 1) = s.size then some (numV p1, numV p2, numV p3) else none) = some v at hr
  by_cases l3 : nb s (nb s (nb s (nb s 0 + 1) + 1) + 1) = s.size
  rotate_left
  · rw [if_neg l3] at hr; contradiction
  rw [if_pos l3] at hr
  injection hr with hr
  refine ⟨_, p1, p2, p3, ?_, rfl, hr.symm, h1, h2, h3⟩
  rw [cuts_at (Nat.zero_le _), cuts_at l0', cuts_at l1', cuts_at l2', cuts_end (by omega), hp1, hp2, hp3]

end Go.Proofs.YtpgpoeljbppggaaDoor
