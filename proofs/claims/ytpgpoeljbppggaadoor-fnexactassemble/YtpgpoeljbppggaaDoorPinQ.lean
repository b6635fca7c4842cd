import Derived.Test.YtpgpoeljbppggaaDoorPinR
import Derived.WalkKit
import Derived.ProofKit
import Derived.OpenShut
import Derived.ShutString
import Derived.ChangeOld
import Derived.Below
import Derived.WalkSpells
import Derived.Deep.QuietTactic
import Derived.BigQuiet
import Derived.Deep.RegionWith
import Derived.Deep.WholeRow
import Derived.Deep.DeepCutAuto
import Derived.Deep.RegionHeld2
import Derived.Deep.AppendLies
import Derived.Deep.RegionLaw
namespace Go.Proofs.YtpgpoeljbppggaaDoor
open Go.ChangeShapes Go.WideShapes Go.ChangeAt Go.RowKit

/-- what the machine does with the number behind a blank. -/
theorem num_step {s : ByteArray} {m j a e : Nat} {p q r V : Int} (ha : a < s.size) (hb : byt s a = 32) (he : e = nb s (a + 1)) (hj : j ≤ 2) (h0 : (if j = 0 then p else if j = 1 then q else r) = 0) (hm : 2 * (s.size - a) + 4 ≤ m) (hV : V = numV (s.extract (a + 1) e)) :
    (¬ (0 ≤ V ∧ V ≤ 63) → mach s m false j a p q r = none) ∧ ((0 ≤ V ∧ V ≤ 63) → ∃ m2, 2 * (s.size - e) + 4 ≤ m2 ∧ mach s m false j a p q r = mEnd s m2 j e (if j = 0 then V else p) (if j = 1 then V else q) (if j = 2 then V else r)) := by
  obtain ⟨n1, n2, n3, n4⟩ := nb_spec (s := s) (a := a + 1) (by omega)
  rw [← he] at n1 n2 n3 n4
  have hsz := size_ext (s := s) (a := a + 1) (e := e) n2
  have hby : ∀ i, a + 1 + i < e → byt (s.extract (a + 1) e) i = byt s (a + 1 + i) := fun i hi => byt_ext n2 hi
  have hend : dgt s e = -1 := dgt_no (by rcases n4 with h | h <;> omega)
  obtain ⟨m, rfl⟩ : ∃ k, m = k + 4 := ⟨m - 4, by omega⟩
  have s1 : mach s (m + 4) false j a p q r = if dgt s (a + 1) < 0 then none else mach s (m + 3) true j (a + 1) p q r := by
    rw [mach]; rw [if_neg (by omega)]
  rw [s1]
  -- no digit at all
  by_cases d0 : dgt s (a + 1) < 0
  · rw [if_pos d0]
    have hv : V = -1 := by
      rw [hV]
      by_cases el : e = a + 1
      · exact numV_bad (.inl (by omega))
      · refine numV_no (k := 0) (by omega) ?_
        rw [hby 0 (by omega)]
        by_cases hdg : 48 ≤ byt s (a + 1) ∧ byt s (a + 1) ≤ 57
        · rw [dgt_yes (by omega) hdg.1 hdg.2] at d0; omega
        · rw [Nat.add_zero]; omega
    exact ⟨fun _ => rfl, fun h => by omega⟩
  rw [if_neg d0]
  have g0 := dgt_in (s := s) (k := a + 1) (by omega)
  have l0 : a + 1 < e := by
    by_cases el : e = a + 1
    · rw [← el, hend] at d0; omega
    · omega
  have b0 : dgt s (a + 1) = byt s (a + 1) - 48 ∧ 48 ≤ byt s (a + 1) ∧ byt s (a + 1) ≤ 57 := by
    by_cases hdg : 48 ≤ byt s (a + 1) ∧ byt s (a + 1) ≤ 57
    · exact ⟨dgt_yes g0.1 hdg.1 hdg.2, hdg⟩
    · rw [dgt_no (by omega)] at d0; omega
  have k0 : numK (s.extract (a + 1) e) 1 = dgt s (a + 1) := by
    show 0 * 10 + (byt _ 0 - 48) = _
    rw [hby 0 (by omega)]; rw [b0.1]; show 0 * 10 + (byt s (a + 1) - 48) = _; omega
  have hn : 10 * (if j = 0 then p else if j = 1 then q else r) + dgt s (a + 1) = dgt s (a + 1) := by rw [h0]; omega
  rw [mach_true (n := dgt s (a + 1)) hn hj, if_neg (by omega)]
  -- one digit
  by_cases el1 : e = a + 1 + 1
  · have hd1 : dgt s (a + 1 + 1) = -1 := by rw [← el1]; exact hend
    rw [if_neg (by omega)]
    have hv : V = dgt s (a + 1) := by
      rw [hV, ← k0]
      have e1 : (s.extract (a + 1) e).size = 1 := by omega
      rw [numV_ok (by omega) (fun i hi => by rw [hby i (by omega), show i = 0 by omega]; exact b0.2), e1]
    exact ⟨fun h => absurd ⟨by omega, by omega⟩ h, fun _ => ⟨m + 2, by omega, by rw [hv, el1]⟩⟩
  have l1 : a + 1 + 1 < e := by omega
  have hbl1 := n3 (a + 1 + 1) (by omega) l1
  -- a digit that is 0 has one behind it
  by_cases z0 : dgt s (a + 1) = 0
  · rw [if_neg (by omega), mEnd_stop (by omega) hbl1]
    have hv : V = -1 := by rw [hV]; exact numV_bad (.inr (.inr ⟨by omega, by rw [hby 0 (by omega)]; show byt s (a + 1) = 48; omega⟩))
    exact ⟨fun _ => rfl, fun h => by omega⟩
  by_cases d1 : dgt s (a + 1 + 1) < 0
  · rw [if_neg (by omega), mEnd_stop (by omega) hbl1]
    have hv : V = -1 := by
      rw [hV]
      refine numV_no (k := 1) (by omega) ?_
      rw [hby 1 (by omega)]
      by_cases hdg : 48 ≤ byt s (a + 1 + 1) ∧ byt s (a + 1 + 1) ≤ 57
      · rw [dgt_yes (by omega) hdg.1 hdg.2] at d1; omega
      · omega
    exact ⟨fun _ => rfl, fun h => by omega⟩
  have g1 := dgt_in (s := s) (k := a + 1 + 1) (by omega)
  have b1 : dgt s (a + 1 + 1) = byt s (a + 1 + 1) - 48 ∧ 48 ≤ byt s (a + 1 + 1) ∧ byt s (a + 1 + 1) ≤ 57 := by
    by_cases hdg : 48 ≤ byt s (a + 1 + 1) ∧ byt s (a + 1 + 1) ≤ 57
    · exact ⟨dgt_yes g1.1 hdg.1 hdg.2, hdg⟩
    · rw [dgt_no (by omega)] at d1; omega
  rw [if_pos ⟨by omega, by omega⟩]
  obtain ⟨n, hnn⟩ : ∃ n, n = 10 * dgt s (a + 1) + dgt s (a + 1 + 1) := ⟨_, rfl⟩
  have k1 : numK (s.extract (a + 1) e) 2 = n := by
    show numK (s.extract (a + 1) e) 1 * 10 + (byt _ 1 - 48) = _
    rw [k0, hby 1 (by omega), hnn, b1.1]; omega
  have hn1 : 10 * (if j = 0 then (if j = 0 then dgt s (a + 1) else p) else if j = 1 then (if j = 1 then dgt s (a + 1) else q) else (if j = 2 then dgt s (a + 1) else r)) + dgt s (a + 1 + 1) = n := by
    rw [hnn]
    obtain rfl | rfl | rfl : j = 0 ∨ j = 1 ∨ j = 2 := by omega
    all_goals simp
  rw [mach_true (n := n) hn1 hj]
  have hii : ∀ (i : Nat) (u v : Int), (if j = i then n else (if j = i then u else v)) = (if j = i then n else v) := fun i u v => by split <;> rfl
  rw [hii, hii, hii]
  by_cases h63 : 63 < n
  · rw [if_pos h63]
    have hv := numV_ge (s := s.extract (a + 1) e) (k := 2) (by omega) (by omega)
    rw [← hV] at hv
    exact ⟨fun _ => rfl, fun h => absurd h hv⟩
  rw [if_neg h63]
  -- two digits
  by_cases el2 : e = a + 1 + 1 + 1
  · have hd2 : dgt s (a + 1 + 1 + 1) = -1 := by rw [← el2]; exact hend
    rw [if_neg (by omega)]
    have hv : V = n := by
      rw [hV, ← k1]
      have e1 : (s.extract (a + 1) e).size = 2 := by omega
      rw [numV_ok (by rw [hby 0 (by omega)]; show ¬ (_ ∨ _ ∨ (_ ∧ byt s (a + 1) = 48)); omega) (fun i hi => by
        rw [hby i (by omega)]
        obtain rfl | rfl : i = 0 ∨ i = 1 := by omega
        · exact b0.2
        · exact b1.2), e1]
    exact ⟨fun h => absurd ⟨by omega, by omega⟩ h, fun _ => ⟨m + 1, by omega, by rw [hv, el2]⟩⟩
  have l2 : a + 1 + 1 + 1 < e := by omega
  have hbl2 := n3 (a + 1 + 1 + 1) (by omega) l2
  by_cases d2 : dgt s (a + 1 + 1 + 1) < 0
  · rw [if_neg (by omega), mEnd_stop (by omega) hbl2]
    have hv : V = -1 := by
      rw [hV]
      refine numV_no (k := 2) (by omega) ?_
      rw [hby 2 (by omega)]
      by_cases hdg : 48 ≤ byt s (a + 1 + 1 + 1) ∧ byt s (a + 1 + 1 + 1) ≤ 57
      · rw [dgt_yes (by omega) hdg.1 hdg.2] at d2; omega
      · rw [show a + 1 + 2 = a + 1 + 1 + 1 from rfl]; omega
    exact ⟨fun _ => rfl, fun h => by omega⟩
  have g2 := dgt_in (s := s) (k := a + 1 + 1 + 1) (by omega)
  have b2 : dgt s (a + 1 + 1 + 1) = byt s (a + 1 + 1 + 1) - 48 := by
    by_cases hdg : 48 ≤ byt s (a + 1 + 1 + 1) ∧ byt s (a + 1 + 1 + 1) ≤ 57
    · exact dgt_yes g2.1 hdg.1 hdg.2
    · rw [dgt_no (by omega)] at d2; omega
  rw [if_pos ⟨by omega, by omega⟩]
  have hn2 : 10 * (if j = 0 then (if j = 0 then n else p) else if j = 1 then (if j = 1 then n else q) else (if j = 2 then n else r)) + dgt s (a + 1 + 1 + 1) = 10 * n + dgt s (a + 1 + 1 + 1) := by
    obtain rfl | rfl | rfl : j = 0 ∨ j = 1 ∨ j = 2 := by omega
    all_goals simp
  rw [mach_true (n := 10 * n + dgt s (a + 1 + 1 + 1)) hn2 hj, if_pos (by omega)]
  have k2 : numK (s.extract (a + 1) e) 3 = 10 * n + dgt s (a + 1 + 1 + 1) := by
    show numK (s.extract (a + 1) e) 2 * 10 + (byt _ 2 - 48) = _
    rw [k1, hby 2 (by omega), b2]; show n * 10 + (byt s (a + 1 + 1 + 1) - 48) = _; omega
  have hv := numV_ge (s := s.extract (a + 1) e) (k := 3) (by omega) (by omega)
  rw [← hV] at hv
  exact ⟨fun _ => rfl, fun h => absurd h hv⟩

end Go.Proofs.YtpgpoeljbppggaaDoor
