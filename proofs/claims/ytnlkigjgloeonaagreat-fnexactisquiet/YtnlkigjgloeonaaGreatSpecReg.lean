import Derived.Test.YtnlkigjgloeonaaGreatBase
import Derived.Test.YtnlkigjgloeonaaGreatReg
import Derived.WalkKit
import Derived.ProofKit
import Derived.OpenShut
import Derived.ShutString
import Derived.ChangeOld
import Derived.Below
import Derived.WalkSpells
import Derived.Deep.QuietTactic
import Derived.BigQuiet
import Derived.Deep.RegionWith
import Derived.Deep.WholeRow
import Derived.Deep.DeepCutAuto
import Derived.Deep.RegionHeld2
import Derived.Deep.AppendLies
import Derived.Deep.RegionLaw
namespace Go.Proofs.YtnlkigjgloeonaaGreat
open Go.ChangeShapes Go.WideShapes Go.ChangeAt Go.RowKit

set_option maxRecDepth 100000 in
theorem l1FaultO_calls (p o : Nat) (a : Option Addr) (len cap : Nat) (zs : List Int) (w : World) (hl : len ≤ maxLen) (hp : p < w.heap.size) (hpc : w.cell? ⟨p, o, none⟩ = some (.slice a len cap)) (hs : Sl w a len zs) :
    Calls Tryz.prog 27 #[.pointer (some ⟨p, o, none⟩)] w fun e w' => e = .returned (.int .i64 (fault zs)) ∧ Below w.heap.size w w' := by
  unfold maxLen at hl
  obtain ⟨hlen, hs⟩ := hs
  by_cases h4 : len = 4
  · subst h4
    obtain ⟨b, off, rfl, hb, hc⟩ := hs (by omega)
    go_enter Tryz.func27, Tryz.ntmps27
    go_wp2
    go_loopw [3] (fun i wr => ∃ k : Nat, k ≤ 4 ∧ i = .int .i64 k ∧ Below w.heap.size w wr ∧ (zs.take k).all okI = true) (fun i _ => 4 - (intOf i).toNat)
    case atStart => exact ⟨0, Nat.zero_le _, rfl, Below.refl _ _, by simp⟩
    case round =>
      obtain ⟨k, hk, rfl, hbel, hall⟩ := hrel
      have Hall : Hid ((zs.take k).all okI = true) := hall
      clear hall
      have hpr := (hbel.cell (p := ⟨p, o, none⟩) hp).trans hpc
      by_cases hlt : k < 4
      · have hck := (hbel.cell (p := ⟨b, off + k, none⟩) hb).trans (hc k hlt)
        have HS : Hid ((zs.take (k + 1)).all okI = ((zs.take k).all okI && okI (gt zs k))) := all_take_succ zs k (by omega)
        go_wp2_with fail
        refine (in_calls _ _ _ _).mono ?_
        rintro e w1 ⟨rfl, hb1⟩
        have hbw : Below w.heap.size w w1 := hbel.trans (hb1.mono hbel.size)
        clear hb1
        cases hok : (decide (0 ≤ gt zs k) && decide (gt zs k ≤ 5)) with
        | true =>
          have Hok : Hid ((decide (0 ≤ gt zs k) && decide (gt zs k ≤ 5)) = true) := hok
          clear hok
          go_wp2
          go_roundw
          case rel => exact ⟨k + 1, by omega, by go_num, hbw, by rw [HS.out, Hall.out]; exact Hok.out⟩
          case measure => simp [intOf]; omega
        | false =>
          have Hok : Hid ((decide (0 ≤ gt zs k) && decide (gt zs k ≤ 5)) = false) := hok
          clear hok
          go_wp2
          go_ret
          exact ⟨ret_int (fault_bad zs k (by omega) hlen Hok.out).symm, hbw⟩
      · go_wp2
        go_ret
        exact ⟨ret_int (fault_ok zs hlen (by have := Hall.out; rw [List.take_of_length_le (by omega)] at this; exact this)).symm, hbel⟩
  · have hne : ((len : Int) == 4) = false := by simp; omega
    go_enter Tryz.func27, Tryz.ntmps27
    go_wp2
    go_ret
    exact ⟨ret_int (by simp [fault, hlen, h4]), Below.refl _ _⟩

set_option maxRecDepth 100000 in
theorem l1Same_calls (p o q r : Nat) (a b : Option Addr) (la ca lb cb : Nat) (xs ys : List Int) (w : World) (hla : la ≤ maxLen) (hlb : lb ≤ maxLen) (hp : p < w.heap.size) (hq : q < w.heap.size)
    (hpc : w.cell? ⟨p, o, none⟩ = some (.slice a la ca)) (hqc : w.cell? ⟨q, r, none⟩ = some (.slice b lb cb)) (hx : Sl w a la xs) (hy : Sl w b lb ys) :
    Calls Tryz.prog 159 #[.pointer (some ⟨p, o, none⟩), .pointer (some ⟨q, r, none⟩)] w fun e w' => e = .returned (.bool (decide (xs = ys))) ∧ Below w.heap.size w w' := by
  unfold maxLen at hla hlb
  obtain ⟨hxl, hx⟩ := hx
  obtain ⟨hyl, hy⟩ := hy
  by_cases hne : la = lb
  · subst hne
    have hn : ((la : Int) == (la : Int)) = true := by simp
    go_enter Tryz.func159, Tryz.ntmps159
    go_wp2_with fail
    go_quiet (fail)
    go_wp2
    go_loopw [5] (fun i wr => ∃ k : Nat, k ≤ la ∧ i = .int .i64 k ∧ Below w.heap.size w wr ∧ ∀ j, j < k → gt xs j = gt ys j) (fun i _ => la - (intOf i).toNat)
    case atStart => exact ⟨0, Nat.zero_le _, rfl, bdrewN (Below.refl _ _) _, fun j hj => by omega⟩
    case round =>
      obtain ⟨k, hk, rfl, hbel, hall⟩ := hrel
      have Hall : Hid (∀ j, j < k → gt xs j = gt ys j) := hall
      clear hall
      have hpr := (hbel.cell (p := ⟨p, o, none⟩) hp).trans hpc
      have hqr := (hbel.cell (p := ⟨q, r, none⟩) hq).trans hqc
      by_cases hlt : k < la
      · obtain ⟨b1, o1, rfl, hb1, hc1⟩ := hx (by omega)
        obtain ⟨b2, o2, rfl, hb2, hc2⟩ := hy (by omega)
        have hck1 := (hbel.cell (p := ⟨b1, o1 + k, none⟩) hb1).trans (hc1 k hlt)
        have hck2 := (hbel.cell (p := ⟨b2, o2 + k, none⟩) hb2).trans (hc2 k hlt)
        have hki : (k : Int) < (la : Int) := by omega
        by_cases he : gt xs k = gt ys k
        · have hbq : (gt xs k != gt ys k) = false := by simp [he]
          have He : Hid (gt xs k = gt ys k) := he
          clear he
          go_wp2_with fail
          go_quiet (fail)
          go_wp2
          go_roundw
          case rel => exact ⟨k + 1, by omega, by go_num, bdrewN hbel _, fun j hj => by (by_cases e : j = k); (subst e; exact He.out); exact Hall.out j (by omega)⟩
          case measure => simp [intOf]; omega
        · have hbq : (gt xs k != gt ys k) = true := by simp [he]
          go_wp2_with fail
          go_quiet (fail)
          go_wp2
          go_ret
          exact ⟨ret_bool (by simp; intro e; exact he (by rw [e])), bdrewN hbel _⟩
      · go_wp2
        go_ret
        exact ⟨ret_bool (by simp; exact getD_ext (by omega) (fun i hi => Hall.out i (by omega))), hbel⟩
  · have hn : ((la : Int) == (lb : Int)) = false := by simp; omega
    go_enter Tryz.func159, Tryz.ntmps159
    go_wp2_with fail
    go_quiet (fail)
    go_wp2
    go_ret
    exact ⟨ret_bool (by simp; intro e; rw [e] at hxl; omega), bdrewN (Below.refl _ _) _⟩

set_option maxRecDepth 100000 in
theorem l2At_calls (p q r : Nat) (a b : Option Addr) (n ca lb cb : Nat) (ss : List (Int × List Int)) (zs : List Int) (w : World) (hn : n ≤ maxLen) (hlb : lb ≤ maxLen) (hp : p < w.heap.size) (hq : q < w.heap.size)
    (hpc : w.cell? ⟨p, 0, none⟩ = some (.slice a n ca)) (hqc : w.cell? ⟨q, r, none⟩ = some (.slice b lb cb)) (hx : Sls w a n ss) (hy : Sl w b lb zs) :
    Calls Tryz.prog 142 #[.pointer (some ⟨p, 0, none⟩), .pointer (some ⟨q, r, none⟩)] w fun e w' => e = .returned (.int .i64 (at2 ss zs)) ∧ Below w.heap.size w w' := by
  unfold maxLen at hn
  obtain ⟨hlen, hx⟩ := hx
  go_enter Tryz.func142, Tryz.ntmps142
  go_wp2
  go_loopw [5] (fun i wr => ∃ k : Nat, k ≤ n ∧ i = .int .i64 k ∧ Below w.heap.size w wr ∧ ∀ j, j < k → hit ss zs j = false) (fun i _ => n - (intOf i).toNat)
  case atStart => exact ⟨0, Nat.zero_le _, rfl, Below.refl _ _, fun j hj => by omega⟩
  case round =>
    obtain ⟨k, hk, rfl, hbel, hall⟩ := hrel
    have Hall : Hid (∀ j, j < k → hit ss zs j = false) := hall
    clear hall
    have hpr := (hbel.cell (p := ⟨p, 0, none⟩) hp).trans hpc
    have hqr := (hbel.cell (p := ⟨q, r, none⟩) hq).trans hqc
    by_cases hlt : k < n
    · obtain ⟨b1, o1, rfl, hb1, hc1⟩ := hx (by omega)
      obtain ⟨p0, la, ll, lc, p1, pl, psl⟩ := hc1 k hlt
      have hp0 := (hbel.cell (p := ⟨b1, o1 + k * 2, none⟩) hb1).trans p0
      have hp1 := (hbel.cell (p := ⟨b1, o1 + k * 2 + 1, none⟩) hb1).trans p1
      have k1 : b1 < wr.heap.size := by have := hbel.size; omega
      have kq : q < wr.heap.size := by have := hbel.size; omega
      have HP := hide (psl.below hbel (Nat.le_refl _))
      have HQ := hide (hy.below hbel (Nat.le_refl _))
      clear p0 p1 psl
      by_cases hpos : 0 < gc ss k
      · by_cases he : gl ss k = zs
        · have Hh : Hid (hit ss zs k = true) := by show hit ss zs k = true; simp [hit, hpos, he]
          go_wp2_with fail
          refine (l1Same_calls b1 _ q r la b ll lc lb cb (gl ss k) zs _ pl hlb k1 kq hp1 hqr HP.out HQ.out).mono ?_
          rintro e w1 ⟨rfl, g1⟩
          rw [decide_eq_true he]
          have HE := hide (hbel.trans (g1.mono hbel.size))
          go_wp2
          go_ret
          exact ⟨ret_int (at2_hit (by omega) Hall.out Hh.out).symm, HE.out⟩
        · have Hh : Hid (hit ss zs k = false) := by show hit ss zs k = false; simp [hit, he]
          go_wp2_with fail
          refine (l1Same_calls b1 _ q r la b ll lc lb cb (gl ss k) zs _ pl hlb k1 kq hp1 hqr HP.out HQ.out).mono ?_
          rintro e w1 ⟨rfl, g1⟩
          rw [decide_eq_false he]
          have HE := hide (hbel.trans (g1.mono hbel.size))
          go_wp2
          go_roundw
          case rel => exact ⟨k + 1, by omega, by go_num, HE.out, fun j hj => by (by_cases e : j = k); (subst e; exact Hh.out); exact Hall.out j (by omega)⟩
          case measure => simp [intOf]; omega
      · have Hh : Hid (hit ss zs k = false) := by show hit ss zs k = false; simp [hit, hpos]
        go_wp2
        go_roundw
        case rel => exact ⟨k + 1, by omega, by go_num, hbel, fun j hj => by (by_cases e : j = k); (subst e; exact Hh.out); exact Hall.out j (by omega)⟩
        case measure => simp [intOf]; omega
    · go_wp2
      go_ret
      exact ⟨ret_int (at2_none (fun j hj => Hall.out j (by omega))).symm, hbel⟩

set_option maxRecDepth 100000 in
theorem l2Fault_calls (p : Nat) (a : Option Addr) (n ca : Nat) (ss : List (Int × List Int)) (w : World) (hn : n ≤ maxLen) (hp : p < w.heap.size)
    (hpc : w.cell? ⟨p, 0, none⟩ = some (.slice a n ca)) (hx : Sls w a n ss) :
    Calls Tryz.prog 114 #[.pointer (some ⟨p, 0, none⟩)] w fun e w' => e = .returned (.int .i64 (faultR ss)) ∧ Below w.heap.size w w' := by
  have hx0 := hx
  have hnm := hn
  unfold maxLen at hn
  obtain ⟨hlen, hx⟩ := hx
  by_cases h10 : 10 < n
  · go_enter Tryz.func114, Tryz.ntmps114
    go_wp2
    go_ret
    exact ⟨ret_int (faultR_many (by omega)).symm, Below.refl _ _⟩
  · have HN : Hid (ss.length ≤ 10) := by show ss.length ≤ 10; omega
    go_enter Tryz.func114, Tryz.ntmps114
    go_wp2
    go_loopw [3] (fun i wr => ∃ k : Nat, k ≤ n ∧ i = .int .i64 k ∧ Below w.heap.size w wr ∧ ∀ j, j < k → slotF ss j = 0) (fun i _ => n - (intOf i).toNat)
    case atStart => exact ⟨0, Nat.zero_le _, rfl, Below.refl _ _, fun j hj => by omega⟩
    case round =>
      obtain ⟨k, hk, rfl, hbel, hall⟩ := hrel
      have Hall : Hid (∀ j, j < k → slotF ss j = 0) := hall
      clear hall
      have hpr := (hbel.cell (p := ⟨p, 0, none⟩) hp).trans hpc
      by_cases hlt : k < n
      · obtain ⟨b1, o1, rfl, hb1, hc1⟩ := hx (by omega)
        obtain ⟨p0, la, ll, lc, p1, pl, psl⟩ := hc1 k hlt
        have hp0 := (hbel.cell (p := ⟨b1, o1 + k * 2, none⟩) hb1).trans p0
        have hp1 := (hbel.cell (p := ⟨b1, o1 + k * 2 + 1, none⟩) hb1).trans p1
        have HP := hide (psl.below hbel (Nat.le_refl _))
        have hll : (gl ss k).length = ll := psl.1
        have kL : k < ss.length := by omega
        clear p0 p1 psl
        go_wp2_with fail
        refine (in_calls _ _ _ _).mono ?_
        rintro e w1 ⟨rfl, g1⟩
        have hb2 := hbel.trans (g1.mono hbel.size)
        have hp0 := (hb2.cell (p := ⟨b1, o1 + k * 2, none⟩) hb1).trans (hc1 k hlt).1
        have hq1 : w1.cell? ⟨b1, o1 + k * 2 + 1, none⟩ = some (.slice la ll lc) := (g1.cell (p := ⟨b1, o1 + k * 2 + 1, none⟩) (by show b1 < _; have := hbel.size; omega)).trans hp1
        have hpr1 := (hb2.cell (p := ⟨p, 0, none⟩) hp).trans hpc
        have HP1 := hide (HP.out.below g1 (Nat.le_refl _))
        clear g1 hpr hp1 HP
        cases hr : (decide (0 ≤ gc ss k) && decide (gc ss k ≤ 99)) with
        | false =>
          have HF := hide (slotF_range hr)
          clear hr
          go_wp2
          go_ret
          exact ⟨ret_int ((faultR_hit HN.out kL Hall.out (by rw [HF.out]; decide)).trans HF.out).symm, hb2⟩
        | true =>
          have Hr := hide hr
          clear hr
          by_cases h0 : gc ss k = 0
          · have e0 : (gc ss k == 0) = true := by simp [h0]
            by_cases hz : 0 < ll
            · have HF := hide (slotF_form h0 (by omega))
              clear h0
              go_wp2
              go_ret
              exact ⟨ret_int ((faultR_hit HN.out kL Hall.out (by rw [HF.out]; decide)).trans HF.out).symm, hb2⟩
            · have HF := hide (slotF_empty h0 (by omega))
              clear h0
              go_wp2
              go_roundw
              case rel => exact ⟨k + 1, by omega, by go_num, hb2, fun j hj => by (by_cases e : j = k); (subst e; exact HF.out); exact Hall.out j (by omega)⟩
              case measure => simp [intOf]; omega
          · have e0 : (gc ss k == 0) = false := by simp [h0]
            have H0 := hide h0
            clear h0
            go_wp2_with fail
            refine (l1FaultO_calls b1 (o1 + k * 2 + 1) la ll lc (gl ss k) _ pl (by have := hb2.size; omega) hq1 HP1.out).mono ?_
            rintro e w2 ⟨rfl, g2⟩
            have hb3 := hb2.trans (g2.mono hb2.size)
            have hq2 : w2.cell? ⟨b1, o1 + k * 2 + 1, none⟩ = some (.slice la ll lc) := (g2.cell (p := ⟨b1, o1 + k * 2 + 1, none⟩) (by show b1 < _; have := hb2.size; omega)).trans hq1
            have hpr2 := (hb3.cell (p := ⟨p, 0, none⟩) hp).trans hpc
            have HP2 := hide (HP1.out.below g2 (Nat.le_refl _))
            clear g2 hq1 hpr1 HP1
            by_cases hf : fault (gl ss k) = 0
            · have ef : (fault (gl ss k) != 0) = false := by simp [hf]
              have Hf := hide hf
              clear hf
              have hz3 := hb3.size
              by_cases ha : at2 ss (gl ss k) = (k : Int)
              · have ea : (at2 ss (gl ss k) != (k : Int)) = false := by simp [ha]
                have HF := hide (slotF_ok Hr.out H0.out Hf.out ha)
                clear ha
                go_wp2_with fail
                refine (l2At_calls p b1 (o1 + k * 2 + 1) (some ⟨b1, o1, none⟩) la n ca ll lc ss (gl ss k) _ hnm pl (by omega) (by omega) hpr2 hq2 (hx0.below hb3 (Nat.le_refl _)) HP2.out).mono ?_
                rintro e w3 ⟨rfl, g3⟩
                have HE := hide (hb3.trans (g3.mono hb3.size))
                clear g3
                go_wp2
                go_roundw
                case rel => exact ⟨k + 1, by omega, by go_num, HE.out, fun j hj => by (by_cases e : j = k); (subst e; exact HF.out); exact Hall.out j (by omega)⟩
                case measure => simp [intOf]; omega
              · have ea : (at2 ss (gl ss k) != (k : Int)) = true := by simp [ha]
                have HF := hide (slotF_state Hr.out H0.out Hf.out ha)
                clear ha
                go_wp2_with fail
                refine (l2At_calls p b1 (o1 + k * 2 + 1) (some ⟨b1, o1, none⟩) la n ca ll lc ss (gl ss k) _ hnm pl (by omega) (by omega) hpr2 hq2 (hx0.below hb3 (Nat.le_refl _)) HP2.out).mono ?_
                rintro e w3 ⟨rfl, g3⟩
                have HE := hide (hb3.trans (g3.mono hb3.size))
                clear g3
                go_wp2
                go_ret
                exact ⟨ret_int ((faultR_hit HN.out kL Hall.out (by rw [HF.out]; decide)).trans HF.out).symm, HE.out⟩
            · have ef : (fault (gl ss k) != 0) = true := by simp [hf]
              have HF := hide (slotF_label Hr.out H0.out hf)
              have Hf := hide hf
              clear hf
              go_wp2
              go_ret
              exact ⟨ret_int ((faultR_hit HN.out kL Hall.out (by rw [HF.out]; exact Hf.out)).trans HF.out).symm, hb3⟩
      · go_wp2
        go_ret
        exact ⟨ret_int (faultR_ok HN.out (fun j hj => Hall.out j (by omega))).symm, hbel⟩

end Go.Proofs.YtnlkigjgloeonaaGreat
