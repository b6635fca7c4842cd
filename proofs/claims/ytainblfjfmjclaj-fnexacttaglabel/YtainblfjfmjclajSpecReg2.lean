import Derived.Test.YtainblfjfmjclajSpecReg
import Derived.WalkKit
import Derived.ProofKit
import Derived.OpenShut
import Derived.ShutString
import Derived.ChangeOld
import Derived.Below
import Derived.WalkSpells
import Derived.Deep.QuietTactic
import Derived.BigQuiet
import Derived.Deep.RegionWith
import Derived.Deep.WholeRow
import Derived.Deep.DeepCutAuto
import Derived.Deep.RegionHeld2
import Derived.Deep.AppendLies
import Derived.Deep.RegionLaw
namespace Go.Proofs.Ytainblfjfmjclaj
open Go.ChangeShapes Go.WideShapes Go.ChangeAt Go.RowKit

set_option maxRecDepth 100000 in
theorem l2Fault_calls (p : Nat) (a : Option Addr) (n ca : Nat) (ss : List (Int × List Int)) (w : World) (hn : n ≤ maxLen) (hp : p < w.heap.size)
    (hpc : w.cell? ⟨p, 0, none⟩ = some (.slice a n ca)) (hx : Sls w a n ss) :
    Calls Try.prog 84 #[.pointer (some ⟨p, 0, none⟩)] w fun e w' => e = .returned (.int .i64 (faultR ss)) ∧ Below w.heap.size w w' := by
  have hx0 := hx
  have hnm := hn
  unfold maxLen at hn
  obtain ⟨hlen, hx⟩ := hx
  by_cases h10 : 10 < n
  · go_enter Try.func84, Try.ntmps84
    go_wp2
    go_ret
    exact ⟨ret_int (faultR_many (by omega)).symm, Below.refl _ _⟩
  · have HN : Hid (ss.length ≤ 10) := by show ss.length ≤ 10; omega
    go_enter Try.func84, Try.ntmps84
    go_wp2
    go_loopw [3] (fun i wr => ∃ k : Nat, k ≤ n ∧ i = .int .i64 k ∧ Below w.heap.size w wr ∧ ∀ j, j < k → slotF ss j = 0) (fun i _ => n - (intOf i).toNat)
    case atStart => exact ⟨0, Nat.zero_le _, rfl, Below.refl _ _, fun j hj => by omega⟩
    case round =>
      obtain ⟨k, hk, rfl, hbel, hall⟩ := hrel
      have Hall : Hid (∀ j, j < k → slotF ss j = 0) := hall
      clear hall
      have hpr := (hbel.cell (p := ⟨p, 0, none⟩) hp).trans hpc
      by_cases hlt : k < n
      · obtain ⟨b1, o1, rfl, hb1, hc1⟩ := hx (by omega)
        obtain ⟨p0, la, ll, lc, p1, pl, psl⟩ := hc1 k hlt
        have hp0 := (hbel.cell (p := ⟨b1, o1 + k * 2, none⟩) hb1).trans p0
        have hp1 := (hbel.cell (p := ⟨b1, o1 + k * 2 + 1, none⟩) hb1).trans p1
        have HP := hide (psl.below hbel (Nat.le_refl _))
        have hll : (gl ss k).length = ll := psl.1
        have kL : k < ss.length := by omega
        clear p0 p1 psl
        go_wp2_with fail
        refine (in_calls _ _ _ _).mono ?_
        rintro e w1 ⟨rfl, g1⟩
        have hb2 := hbel.trans (g1.mono hbel.size)
        have hp0 := (hb2.cell (p := ⟨b1, o1 + k * 2, none⟩) hb1).trans (hc1 k hlt).1
        have hq1 : w1.cell? ⟨b1, o1 + k * 2 + 1, none⟩ = some (.slice la ll lc) := (g1.cell (p := ⟨b1, o1 + k * 2 + 1, none⟩) (by show b1 < _; have := hbel.size; omega)).trans hp1
        have hpr1 := (hb2.cell (p := ⟨p, 0, none⟩) hp).trans hpc
        have HP1 := hide (HP.out.below g1 (Nat.le_refl _))
        clear g1 hpr hp1 HP
        cases hr : (decide (0 ≤ gc ss k) && decide (gc ss k ≤ 99)) with
        | false =>
          have HF := hide (slotF_range hr)
          clear hr
          go_wp2
          go_ret
          exact ⟨ret_int ((faultR_hit HN.out kL Hall.out (by rw [HF.out]; decide)).trans HF.out).symm, hb2⟩
        | true =>
          have Hr := hide hr
          clear hr
          by_cases h0 : gc ss k = 0
          · have e0 : (gc ss k == 0) = true := by simp [h0]
            by_cases hz : 0 < ll
            · have HF := hide (slotF_form h0 (by omega))
              clear h0
              go_wp2
              go_ret
              exact ⟨ret_int ((faultR_hit HN.out kL Hall.out (by rw [HF.out]; decide)).trans HF.out).symm, hb2⟩
            · have HF := hide (slotF_empty h0 (by omega))
              clear h0
              go_wp2
              go_roundw
              case rel => exact ⟨k + 1, by omega, by go_num, hb2, fun j hj => by (by_cases e : j = k); (subst e; exact HF.out); exact Hall.out j (by omega)⟩
              case measure => simp [intOf]; omega
          · have e0 : (gc ss k == 0) = false := by simp [h0]
            have H0 := hide h0
            clear h0
            go_wp2_with fail
            refine (l1FaultO_calls b1 (o1 + k * 2 + 1) la ll lc (gl ss k) _ pl (by have := hb2.size; omega) hq1 HP1.out).mono ?_
            rintro e w2 ⟨rfl, g2⟩
            have hb3 := hb2.trans (g2.mono hb2.size)
            have hq2 : w2.cell? ⟨b1, o1 + k * 2 + 1, none⟩ = some (.slice la ll lc) := (g2.cell (p := ⟨b1, o1 + k * 2 + 1, none⟩) (by show b1 < _; have := hb2.size; omega)).trans hq1
            have hpr2 := (hb3.cell (p := ⟨p, 0, none⟩) hp).trans hpc
            have HP2 := hide (HP1.out.below g2 (Nat.le_refl _))
            clear g2 hq1 hpr1 HP1
            by_cases hf : fault (gl ss k) = 0
            · have ef : (fault (gl ss k) != 0) = false := by simp [hf]
              have Hf := hide hf
              clear hf
              have hz3 := hb3.size
              by_cases ha : at2 ss (gl ss k) = (k : Int)
              · have ea : (at2 ss (gl ss k) != (k : Int)) = false := by simp [ha]
                have HF := hide (slotF_ok Hr.out H0.out Hf.out ha)
                clear ha
                go_wp2_with fail
                refine (l2At_calls p b1 (o1 + k * 2 + 1) (some ⟨b1, o1, none⟩) la n ca ll lc ss (gl ss k) _ hnm pl (by omega) (by omega) hpr2 hq2 (hx0.below hb3 (Nat.le_refl _)) HP2.out).mono ?_
                rintro e w3 ⟨rfl, g3⟩
                have HE := hide (hb3.trans (g3.mono hb3.size))
                clear g3
                go_wp2
                go_roundw
                case rel => exact ⟨k + 1, by omega, by go_num, HE.out, fun j hj => by (by_cases e : j = k); (subst e; exact HF.out); exact Hall.out j (by omega)⟩
                case measure => simp [intOf]; omega
              · have ea : (at2 ss (gl ss k) != (k : Int)) = true := by simp [ha]
                have HF := hide (slotF_state Hr.out H0.out Hf.out ha)
                clear ha
                go_wp2_with fail
                refine (l2At_calls p b1 (o1 + k * 2 + 1) (some ⟨b1, o1, none⟩) la n ca ll lc ss (gl ss k) _ hnm pl (by omega) (by omega) hpr2 hq2 (hx0.below hb3 (Nat.le_refl _)) HP2.out).mono ?_
                rintro e w3 ⟨rfl, g3⟩
                have HE := hide (hb3.trans (g3.mono hb3.size))
                clear g3
                go_wp2
                go_ret
                exact ⟨ret_int ((faultR_hit HN.out kL Hall.out (by rw [HF.out]; decide)).trans HF.out).symm, HE.out⟩
            · have ef : (fault (gl ss k) != 0) = true := by simp [hf]
              have HF := hide (slotF_label Hr.out H0.out hf)
              have Hf := hide hf
              clear hf
              go_wp2
              go_ret
              exact ⟨ret_int ((faultR_hit HN.out kL Hall.out (by rw [HF.out]; exact Hf.out)).trans HF.out).symm, hb3⟩
      · go_wp2
        go_ret
        exact ⟨ret_int (faultR_ok HN.out (fun j hj => Hall.out j (by omega))).symm, hbel⟩

end Go.Proofs.Ytainblfjfmjclaj
