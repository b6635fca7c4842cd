import Derived.Test.YtgkjmeogdomgmaaGreatG2
import Derived.Test.YtgkjmeogdomgmaaGreatG1
import Derived.Test.YtgkjmeogdomgmaaGreatG7
import Derived.WalkKit
import Derived.ProofKit
import Derived.OpenShut
import Derived.ShutString
import Derived.ChangeOld
import Derived.Below
import Derived.WalkSpells
import Derived.Deep.QuietTactic
import Derived.BigQuiet
import Derived.Deep.RegionWith
import Derived.Deep.WholeRow
import Derived.Deep.DeepCutAuto
import Derived.Deep.RegionHeld2
import Derived.Deep.AppendLies
import Derived.Deep.RegionLaw
namespace Go.Proofs.YtgkjmeogdomgmaaGreat
open Go.ChangeShapes Go.WideShapes Go.ChangeAt Go.RowKit

set_option maxRecDepth 100000 in
theorem l1FaultO_calls (p o : Nat) (a : Option Addr) (len cap : Nat) (zs : List Int) (w : World) (hl : len ≤ maxLen) (hp : p < w.heap.size) (hpc : w.cell? ⟨p, o, none⟩ = some (.slice a len cap)) (hs : Sl w a len zs) :
    Calls Tryz.prog 132 #[.pointer (some ⟨p, o, none⟩)] w fun e w' => e = .returned (.int .i64 (fault zs)) ∧ Below w.heap.size w w' := by
  unfold maxLen at hl
  obtain ⟨hlen, hs⟩ := hs
  by_cases h4 : len = 4
  · subst h4
    obtain ⟨b, off, rfl, hb, hc⟩ := hs (by omega)
    go_enter Tryz.func132, Tryz.ntmps132
    go_wp2
    go_loopw [3] (fun i wr => ∃ k : Nat, k ≤ 4 ∧ i = .int .i64 k ∧ Below w.heap.size w wr ∧ (zs.take k).all okI = true) (fun i _ => 4 - (intOf i).toNat)
    case atStart => exact ⟨0, Nat.zero_le _, rfl, Below.refl _ _, by simp⟩
    case round =>
      obtain ⟨k, hk, rfl, hbel, hall⟩ := hrel
      have Hall : Hid ((zs.take k).all okI = true) := hall
      clear hall
      have hpr := (hbel.cell (p := ⟨p, o, none⟩) hp).trans hpc
      by_cases hlt : k < 4
      · have hck := (hbel.cell (p := ⟨b, off + k, none⟩) hb).trans (hc k hlt)
        have HS : Hid ((zs.take (k + 1)).all okI = ((zs.take k).all okI && okI (gt zs k))) := all_take_succ zs k (by omega)
        go_wp2_with fail
        refine (in_calls _ _ _ _).mono ?_
        rintro e w1 ⟨rfl, hb1⟩
        have hbw : Below w.heap.size w w1 := hbel.trans (hb1.mono hbel.size)
        clear hb1
        cases hok : (decide (0 ≤ gt zs k) && decide (gt zs k ≤ 5)) with
        | true =>
          have Hok : Hid ((decide (0 ≤ gt zs k) && decide (gt zs k ≤ 5)) = true) := hok
          clear hok
          go_wp2
          go_roundw
          case rel => exact ⟨k + 1, by omega, by go_num, hbw, by rw [HS.out, Hall.out]; exact Hok.out⟩
          case measure => simp [intOf]; omega
        | false =>
          have Hok : Hid ((decide (0 ≤ gt zs k) && decide (gt zs k ≤ 5)) = false) := hok
          clear hok
          go_wp2
          go_ret
          exact ⟨ret_int (fault_bad zs k (by omega) hlen Hok.out).symm, hbw⟩
      · go_wp2
        go_ret
        exact ⟨ret_int (fault_ok zs hlen (by have := Hall.out; rw [List.take_of_length_le (by omega)] at this; exact this)).symm, hbel⟩
  · have hne : ((len : Int) == 4) = false := by simp; omega
    go_enter Tryz.func132, Tryz.ntmps132
    go_wp2
    go_ret
    exact ⟨ret_int (by simp [fault, hlen, h4]), Below.refl _ _⟩

set_option maxRecDepth 100000 in
theorem l1Same_calls (p o q r : Nat) (a b : Option Addr) (la ca lb cb : Nat) (xs ys : List Int) (w : World) (hla : la ≤ maxLen) (hlb : lb ≤ maxLen) (hp : p < w.heap.size) (hq : q < w.heap.size)
    (hpc : w.cell? ⟨p, o, none⟩ = some (.slice a la ca)) (hqc : w.cell? ⟨q, r, none⟩ = some (.slice b lb cb)) (hx : Sl w a la xs) (hy : Sl w b lb ys) :
    Calls Tryz.prog 161 #[.pointer (some ⟨p, o, none⟩), .pointer (some ⟨q, r, none⟩)] w fun e w' => e = .returned (.bool (decide (xs = ys))) ∧ Below w.heap.size w w' := by
  unfold maxLen at hla hlb
  obtain ⟨hxl, hx⟩ := hx
  obtain ⟨hyl, hy⟩ := hy
  by_cases hne : la = lb
  · subst hne
    have hn : ((la : Int) == (la : Int)) = true := by simp
    go_enter Tryz.func161, Tryz.ntmps161
    go_wp2_with fail
    go_quiet (fail)
    go_wp2
    go_loopw [5] (fun i wr => ∃ k : Nat, k ≤ la ∧ i = .int .i64 k ∧ Below w.heap.size w wr ∧ ∀ j, j < k → gt xs j = gt ys j) (fun i _ => la - (intOf i).toNat)
    case atStart => exact ⟨0, Nat.zero_le _, rfl, bdrewN (Below.refl _ _) _, fun j hj => by omega⟩
    case round =>
      obtain ⟨k, hk, rfl, hbel, hall⟩ := hrel
      have Hall : Hid (∀ j, j < k → gt xs j = gt ys j) := hall
      clear hall
      have hpr := (hbel.cell (p := ⟨p, o, none⟩) hp).trans hpc
      have hqr := (hbel.cell (p := ⟨q, r, none⟩) hq).trans hqc
      by_cases hlt : k < la
      · obtain ⟨b1, o1, rfl, hb1, hc1⟩ := hx (by omega)
        obtain ⟨b2, o2, rfl, hb2, hc2⟩ := hy (by omega)
        have hck1 := (hbel.cell (p := ⟨b1, o1 + k, none⟩) hb1).trans (hc1 k hlt)
        have hck2 := (hbel.cell (p := ⟨b2, o2 + k, none⟩) hb2).trans (hc2 k hlt)
        have hki : (k : Int) < (la : Int) := by omega
        by_cases he : gt xs k = gt ys k
        · have hbq : (gt xs k != gt ys k) = false := by simp [he]
          have He : Hid (gt xs k = gt ys k) := he
          clear he
          go_wp2_with fail
          go_quiet (fail)
          go_wp2
          go_roundw
          case rel => exact ⟨k + 1, by omega, by go_num, bdrewN hbel _, fun j hj => by (by_cases e : j = k); (subst e; exact He.out); exact Hall.out j (by omega)⟩
          case measure => simp [intOf]; omega
        · have hbq : (gt xs k != gt ys k) = true := by simp [he]
          go_wp2_with fail
          go_quiet (fail)
          go_wp2
          go_ret
          exact ⟨ret_bool (by simp; intro e; exact he (by rw [e])), bdrewN hbel _⟩
      · go_wp2
        go_ret
        exact ⟨ret_bool (by simp; exact getD_ext (by omega) (fun i hi => Hall.out i (by omega))), hbel⟩
  · have hn : ((la : Int) == (lb : Int)) = false := by simp; omega
    go_enter Tryz.func161, Tryz.ntmps161
    go_wp2_with fail
    go_quiet (fail)
    go_wp2
    go_ret
    exact ⟨ret_bool (by simp; intro e; rw [e] at hxl; omega), bdrewN (Below.refl _ _) _⟩

set_option maxRecDepth 100000 in
theorem l2At_calls (p q r : Nat) (a b : Option Addr) (n ca lb cb : Nat) (ss : List (Int × List Int)) (zs : List Int) (w : World) (hn : n ≤ maxLen) (hlb : lb ≤ maxLen) (hp : p < w.heap.size) (hq : q < w.heap.size)
    (hpc : w.cell? ⟨p, 0, none⟩ = some (.slice a n ca)) (hqc : w.cell? ⟨q, r, none⟩ = some (.slice b lb cb)) (hx : Sls w a n ss) (hy : Sl w b lb zs) :
    Calls Tryz.prog 133 #[.pointer (some ⟨p, 0, none⟩), .pointer (some ⟨q, r, none⟩)] w fun e w' => e = .returned (.int .i64 (at2 ss zs)) ∧ Below w.heap.size w w' := by
  unfold maxLen at hn
  obtain ⟨hlen, hx⟩ := hx
  go_enter Tryz.func133, Tryz.ntmps133
  go_wp2
  go_loopw [5] (fun i wr => ∃ k : Nat, k ≤ n ∧ i = .int .i64 k ∧ Below w.heap.size w wr ∧ ∀ j, j < k → hit ss zs j = false) (fun i _ => n - (intOf i).toNat)
  case atStart => exact ⟨0, Nat.zero_le _, rfl, Below.refl _ _, fun j hj => by omega⟩
  case round =>
    obtain ⟨k, hk, rfl, hbel, hall⟩ := hrel
    have Hall : Hid (∀ j, j < k → hit ss zs j = false) := hall
    clear hall
    have hpr := (hbel.cell (p := ⟨p, 0, none⟩) hp).trans hpc
    have hqr := (hbel.cell (p := ⟨q, r, none⟩) hq).trans hqc
    by_cases hlt : k < n
    · obtain ⟨b1, o1, rfl, hb1, hc1⟩ := hx (by omega)
      obtain ⟨p0, la, ll, lc, p1, pl, psl⟩ := hc1 k hlt
      have hp0 := (hbel.cell (p := ⟨b1, o1 + k * 2, none⟩) hb1).trans p0
      have hp1 := (hbel.cell (p := ⟨b1, o1 + k * 2 + 1, none⟩) hb1).trans p1
      have k1 : b1 < wr.heap.size := by have := hbel.size; omega
      have kq : q < wr.heap.size := by have := hbel.size; omega
      have HP := hide (psl.below hbel (Nat.le_refl _))
      have HQ := hide (hy.below hbel (Nat.le_refl _))
      clear p0 p1 psl
      by_cases hpos : 0 < gc ss k
      · by_cases he : gl ss k = zs
        · have Hh : Hid (hit ss zs k = true) := by show hit ss zs k = true; simp [hit, hpos, he]
          go_wp2_with fail
          refine (l1Same_calls b1 _ q r la b ll lc lb cb (gl ss k) zs _ pl hlb k1 kq hp1 hqr HP.out HQ.out).mono ?_
          rintro e w1 ⟨rfl, g1⟩
          rw [decide_eq_true he]
          have HE := hide (hbel.trans (g1.mono hbel.size))
          go_wp2
          go_ret
          exact ⟨ret_int (at2_hit (by omega) Hall.out Hh.out).symm, HE.out⟩
        · have Hh : Hid (hit ss zs k = false) := by show hit ss zs k = false; simp [hit, he]
          go_wp2_with fail
          refine (l1Same_calls b1 _ q r la b ll lc lb cb (gl ss k) zs _ pl hlb k1 kq hp1 hqr HP.out HQ.out).mono ?_
          rintro e w1 ⟨rfl, g1⟩
          rw [decide_eq_false he]
          have HE := hide (hbel.trans (g1.mono hbel.size))
          go_wp2
          go_roundw
          case rel => exact ⟨k + 1, by omega, by go_num, HE.out, fun j hj => by (by_cases e : j = k); (subst e; exact Hh.out); exact Hall.out j (by omega)⟩
          case measure => simp [intOf]; omega
      · have Hh : Hid (hit ss zs k = false) := by show hit ss zs k = false; simp [hit, hpos]
        go_wp2
        go_roundw
        case rel => exact ⟨k + 1, by omega, by go_num, hbel, fun j hj => by (by_cases e : j = k); (subst e; exact Hh.out); exact Hall.out j (by omega)⟩
        case measure => simp [intOf]; omega
    · go_wp2
      go_ret
      exact ⟨ret_int (at2_none (fun j hj => Hall.out j (by omega))).symm, hbel⟩

set_option maxRecDepth 100000 in
theorem l2Fault_calls (p : Nat) (a : Option Addr) (n ca : Nat) (ss : List (Int × List Int)) (w : World) (hn : n ≤ maxLen) (hp : p < w.heap.size)
    (hpc : w.cell? ⟨p, 0, none⟩ = some (.slice a n ca)) (hx : Sls w a n ss) :
    Calls Tryz.prog 95 #[.pointer (some ⟨p, 0, none⟩)] w fun e w' => e = .returned (.int .i64 (faultR ss)) ∧ Below w.heap.size w w' := by
  have hx0 := hx
  have hnm := hn
  unfold maxLen at hn
  obtain ⟨hlen, hx⟩ := hx
  by_cases h10 : 10 < n
  · go_enter Tryz.func95, Tryz.ntmps95
    go_wp2
    go_ret
    exact ⟨ret_int (faultR_many (by omega)).symm, Below.refl _ _⟩
  · have HN : Hid (ss.length ≤ 10) := by show ss.length ≤ 10; omega
    go_enter Tryz.func95, Tryz.ntmps95
    go_wp2
    go_loopw [3] (fun i wr => ∃ k : Nat, k ≤ n ∧ i = .int .i64 k ∧ Below w.heap.size w wr ∧ ∀ j, j < k → slotF ss j = 0) (fun i _ => n - (intOf i).toNat)
    case atStart => exact ⟨0, Nat.zero_le _, rfl, Below.refl _ _, fun j hj => by omega⟩
    case round =>
      obtain ⟨k, hk, rfl, hbel, hall⟩ := hrel
      have Hall : Hid (∀ j, j < k → slotF ss j = 0) := hall
      clear hall
      have hpr := (hbel.cell (p := ⟨p, 0, none⟩) hp).trans hpc
      by_cases hlt : k < n
      · obtain ⟨b1, o1, rfl, hb1, hc1⟩ := hx (by omega)
        obtain ⟨p0, la, ll, lc, p1, pl, psl⟩ := hc1 k hlt
        have hp0 := (hbel.cell (p := ⟨b1, o1 + k * 2, none⟩) hb1).trans p0
        have hp1 := (hbel.cell (p := ⟨b1, o1 + k * 2 + 1, none⟩) hb1).trans p1
        have HP := hide (psl.below hbel (Nat.le_refl _))
        have hll : (gl ss k).length = ll := psl.1
        have kL : k < ss.length := by omega
        clear p0 p1 psl
        go_wp2_with fail
        refine (in_calls _ _ _ _).mono ?_
        rintro e w1 ⟨rfl, g1⟩
        have hb2 := hbel.trans (g1.mono hbel.size)
        have hp0 := (hb2.cell (p := ⟨b1, o1 + k * 2, none⟩) hb1).trans (hc1 k hlt).1
        have hq1 : w1.cell? ⟨b1, o1 + k * 2 + 1, none⟩ = some (.slice la ll lc) := (g1.cell (p := ⟨b1, o1 + k * 2 + 1, none⟩) (by show b1 < _; have := hbel.size; omega)).trans hp1
        have hpr1 := (hb2.cell (p := ⟨p, 0, none⟩) hp).trans hpc
        have HP1 := hide (HP.out.below g1 (Nat.le_refl _))
        clear g1 hpr hp1 HP
        cases hr : (decide (0 ≤ gc ss k) && decide (gc ss k ≤ 99)) with
        | false =>
          have HF := hide (slotF_range hr)
          clear hr
          go_wp2
          go_ret
          exact ⟨ret_int ((faultR_hit HN.out kL Hall.out (by rw [HF.out]; decide)).trans HF.out).symm, hb2⟩
        | true =>
          have Hr := hide hr
          clear hr
          by_cases h0 : gc ss k = 0
          · have e0 : (gc ss k == 0) = true := by simp [h0]
            by_cases hz : 0 < ll
            · have HF := hide (slotF_form h0 (by omega))
              clear h0
              go_wp2
              go_ret
              exact ⟨ret_int ((faultR_hit HN.out kL Hall.out (by rw [HF.out]; decide)).trans HF.out).symm, hb2⟩
            · have HF := hide (slotF_empty h0 (by omega))
              clear h0
              go_wp2
              go_roundw
              case rel => exact ⟨k + 1, by omega, by go_num, hb2, fun j hj => by (by_cases e : j = k); (subst e; exact HF.out); exact Hall.out j (by omega)⟩
              case measure => simp [intOf]; omega
          · have e0 : (gc ss k == 0) = false := by simp [h0]
            have H0 := hide h0
            clear h0
            go_wp2_with fail
            refine (l1FaultO_calls b1 (o1 + k * 2 + 1) la ll lc (gl ss k) _ pl (by have := hb2.size; omega) hq1 HP1.out).mono ?_
            rintro e w2 ⟨rfl, g2⟩
            have hb3 := hb2.trans (g2.mono hb2.size)
            have hq2 : w2.cell? ⟨b1, o1 + k * 2 + 1, none⟩ = some (.slice la ll lc) := (g2.cell (p := ⟨b1, o1 + k * 2 + 1, none⟩) (by show b1 < _; have := hb2.size; omega)).trans hq1
            have hpr2 := (hb3.cell (p := ⟨p, 0, none⟩) hp).trans hpc
            have HP2 := hide (HP1.out.below g2 (Nat.le_refl _))
            clear g2 hq1 hpr1 HP1
            by_cases hf : fault (gl ss k) = 0
            · have ef : (fault (gl ss k) != 0) = false := by simp [hf]
              have Hf := hide hf
              clear hf
              have hz3 := hb3.size
              by_cases ha : at2 ss (gl ss k) = (k : Int)
              · have ea : (at2 ss (gl ss k) != (k : Int)) = false := by simp [ha]
                have HF := hide (slotF_ok Hr.out H0.out Hf.out ha)
                clear ha
                go_wp2_with fail
                refine (l2At_calls p b1 (o1 + k * 2 + 1) (some ⟨b1, o1, none⟩) la n ca ll lc ss (gl ss k) _ hnm pl (by omega) (by omega) hpr2 hq2 (hx0.below hb3 (Nat.le_refl _)) HP2.out).mono ?_
                rintro e w3 ⟨rfl, g3⟩
                have HE := hide (hb3.trans (g3.mono hb3.size))
                clear g3
                go_wp2
                go_roundw
                case rel => exact ⟨k + 1, by omega, by go_num, HE.out, fun j hj => by (by_cases e : j = k); (subst e; exact HF.out); exact Hall.out j (by omega)⟩
                case measure => simp [intOf]; omega
              · have ea : (at2 ss (gl ss k) != (k : Int)) = true := by simp [ha]
                have HF := hide (slotF_state Hr.out H0.out Hf.out ha)
                clear ha
                go_wp2_with fail
                refine (l2At_calls p b1 (o1 + k * 2 + 1) (some ⟨b1, o1, none⟩) la n ca ll lc ss (gl ss k) _ hnm pl (by omega) (by omega) hpr2 hq2 (hx0.below hb3 (Nat.le_refl _)) HP2.out).mono ?_
                rintro e w3 ⟨rfl, g3⟩
                have HE := hide (hb3.trans (g3.mono hb3.size))
                clear g3
                go_wp2
                go_ret
                exact ⟨ret_int ((faultR_hit HN.out kL Hall.out (by rw [HF.out]; decide)).trans HF.out).symm, HE.out⟩
            · have ef : (fault (gl ss k) != 0) = true := by simp [hf]
              have HF := hide (slotF_label Hr.out H0.out hf)
              have Hf := hide hf
              clear hf
              go_wp2
              go_ret
              exact ⟨ret_int ((faultR_hit HN.out kL Hall.out (by rw [HF.out]; exact Hf.out)).trans HF.out).symm, hb3⟩
      · go_wp2
        go_ret
        exact ⟨ret_int (faultR_ok HN.out (fun j hj => Hall.out j (by omega))).symm, hbel⟩

set_option maxRecDepth 100000 in
theorem l1ThingO_calls (p o : Nat) (a : Option Addr) (n cap : Nat) (zs : List Int) (w : World) (hn : n ≤ maxLen) (hpc : w.cell? ⟨p, o, none⟩ = some (.slice a n cap)) (hs : Sl w a n zs) :
    Calls Tryz.prog 135 #[.pointer (some ⟨p, o, none⟩)] w fun e w' => e = .returned (.bool (thing0 zs)) ∧ w' = w := by
  unfold maxLen at hn
  obtain ⟨hlen, hs⟩ := hs
  go_enter Tryz.func135, Tryz.ntmps135
  go_wp2
  go_loop [3] (fun i => ∃ k : Nat, k ≤ n ∧ i = .int .i64 k ∧ ∀ j, j < k → gt zs j ≠ 0 ∧ gt zs j ≠ 5) (fun i => n - (intOf i).toNat)
  case atStart => exact ⟨0, Nat.zero_le _, rfl, fun j hj => by omega⟩
  case round =>
    obtain ⟨k, hk, rfl, hall⟩ := hrel
    have Hall : Hid (∀ j, j < k → gt zs j ≠ 0 ∧ gt zs j ≠ 5) := hall
    clear hall
    by_cases hlt : k < n
    · obtain ⟨b, off, rfl, hb, hc⟩ := hs (by omega)
      have hck := hc k hlt
      by_cases he : gt zs k = 0
      · have hq : (gt zs k == 0) = true := by simp [he]
        have He := hide he
        clear he
        go_wp2
        go_ret
        exact ⟨ret_bool (thing0_no (k := k) (by omega) (.inl He.out)).symm, rfl⟩
      · have hq : (gt zs k == 0) = false := by simp [he]
        have He := hide he
        clear he
        by_cases h5 : gt zs k = 5
        · have hq5 : (gt zs k == 5) = true := by simp [h5]
          have H5 := hide h5
          clear h5
          go_wp2
          go_ret
          exact ⟨ret_bool (thing0_no (k := k) (by omega) (.inr H5.out)).symm, rfl⟩
        · have hq5 : (gt zs k == 5) = false := by simp [h5]
          have H5 := hide h5
          clear h5
          go_wp2
          go_round
          case rel => exact ⟨k + 1, by omega, by go_num, fun j hj => by (by_cases e : j = k); (subst e; exact ⟨He.out, H5.out⟩); exact Hall.out j (by omega)⟩
          case measure => simp [intOf]; omega
    · go_wp2
      go_ret
      exact ⟨ret_bool (thing0_yes (fun j hj => Hall.out j (by omega))).symm, rfl⟩

set_option maxRecDepth 100000 in
theorem l3Lowish_calls (p o : Nat) (a : Option Addr) (n cap : Nat) (zs : List Int) (w : World) (hn : n ≤ maxLen) (hpc : w.cell? ⟨p, o, none⟩ = some (.slice a n cap)) (hs : Sl w a n zs) :
    Calls Tryz.prog 136 #[.pointer (some ⟨p, o, none⟩)] w fun e w' => e = .returned (.bool (lowB zs)) ∧ w' = w := by
  unfold maxLen at hn
  obtain ⟨hlen, hs⟩ := hs
  go_enter Tryz.func136, Tryz.ntmps136
  go_wp2
  go_loop [3] (fun i => ∃ k : Nat, k ≤ n ∧ i = .int .i64 k ∧ ∀ j, j < k → gt zs j ≠ 5) (fun i => n - (intOf i).toNat)
  case atStart => exact ⟨0, Nat.zero_le _, rfl, fun j hj => by omega⟩
  case round =>
    obtain ⟨k, hk, rfl, hall⟩ := hrel
    have Hall : Hid (∀ j, j < k → gt zs j ≠ 5) := hall
    clear hall
    by_cases hlt : k < n
    · obtain ⟨b, off, rfl, hb, hc⟩ := hs (by omega)
      have hck := hc k hlt
      by_cases h5 : gt zs k = 5
      · have hq5 : (gt zs k == 5) = true := by simp [h5]
        have HF : Hid (lowB zs = false) := by show lowB zs = false; simp only [lowB]; rw [has_yes (k := k) (by omega) h5]; rfl
        clear h5
        go_wp2
        go_ret
        exact ⟨ret_bool HF.out.symm, rfl⟩
      · have hq5 : (gt zs k == 5) = false := by simp [h5]
        have H5 := hide h5
        clear h5
        go_wp2
        go_round
        case rel => exact ⟨k + 1, by omega, by go_num, fun j hj => by (by_cases e : j = k); (subst e; exact H5.out); exact Hall.out j (by omega)⟩
        case measure => simp [intOf]; omega
    · have HT : Hid (lowB zs = true) := by show lowB zs = true; simp only [lowB]; rw [has_no (fun j hj => Hall.out j (by omega))]; rfl
      go_wp2
      go_ret
      exact ⟨ret_bool HT.out.symm, rfl⟩

set_option maxRecDepth 100000 in
theorem l3Count_calls (a : Option Addr) (n cap : Nat) (zs : List Int) (i : Nat) (w : World) (hn : n ≤ 10) (hs : Sl w a n zs) :
    Calls Tryz.prog 98 #[.slice a n cap, .int .i64 (i : Int)] w fun e w' => e = .returned (.int .i64 (cnt zs i)) ∧ w' = w := by
  obtain ⟨hlen, hs⟩ := hs
  go_enter Tryz.func98, Tryz.ntmps98
  go_wp2
  go_loop [6, 5] (fun x y => ∃ k : Nat, k ≤ n ∧ x = .int .i64 k ∧ y = .int .i64 (cnt (zs.take k) i)) (fun x _ => n - (intOf x).toNat)
  case atStart => exact ⟨0, Nat.zero_le _, rfl, by simp [cnt]⟩
  case round =>
    obtain ⟨k, hk, rfl, rfl⟩ := hrel
    have hcl := cnt_le (zs.take k) i
    have hcl2 : cnt (zs.take k) i ≤ 10 := by have := hcl.2; rw [List.length_take] at this; omega
    have hcl1 := hcl.1
    clear hcl
    by_cases hlt : k < n
    · obtain ⟨b, off, rfl, hb, hc⟩ := hs (by omega)
      have hck := hc k hlt
      have Hs := hide (cnt_take zs k i (by omega))
      by_cases he : gt zs k = (i : Int)
      · have hq : (gt zs k == (i : Int)) = true := by simp [he]
        have HE : Hid (cnt (zs.take (k + 1)) i = cnt (zs.take k) i + 1) := by show _ = _; rw [Hs.out, if_pos he]
        clear he
        go_wp2
        go_round
        case rel => exact ⟨k + 1, by omega, by go_num, by rw [HE.out]⟩
        case measure => simp [intOf]; omega
      · have hq : (gt zs k == (i : Int)) = false := by simp [he]
        have HE : Hid (cnt (zs.take (k + 1)) i = cnt (zs.take k) i) := by show _ = _; rw [Hs.out, if_neg he]; omega
        clear he
        go_wp2
        go_round
        case rel => exact ⟨k + 1, by omega, by go_num, by rw [HE.out]⟩
        case measure => simp [intOf]; omega
    · have HE : Hid (cnt (zs.take k) i = cnt zs i) := by show _ = _; rw [List.take_of_length_le (by omega)]
      go_wp2
      go_ret
      exact ⟨ret_int HE.out, rfl⟩

theorem okS_out {ss : List (Int × List Int)} {s : Int} (h : ¬ (0 ≤ s ∧ s ≤ (ss.length : Int) - 1)) : okS ss s = false := by
  unfold okS atC
  rw [if_pos (by omega)]
  rfl

theorem okS_in {ss : List (Int × List Int)} {q : Nat} (h : q < ss.length) (hl : 0 ≤ gc ss q) : okS ss (q : Int) = decide (0 < gc ss q) := by
  unfold okS
  rw [atC_in h]
  by_cases h0 : gc ss q = 0
  · rw [if_pos h0, h0]; rfl
  · rw [if_neg h0]
    simp
    omega

set_option maxRecDepth 100000 in
theorem l3Slot_calls (p : Nat) (a : Option Addr) (n ca : Nat) (ss : List (Int × List Int)) (s : Int) (w : World) (good : Good ss) (hp : p < w.heap.size) (hpc : w.cell? ⟨p, 0, none⟩ = some (.slice a n ca)) (hx : Sls w a n ss) :
    Calls Tryz.prog 134 #[.pointer (some ⟨p, 0, none⟩), .int .i64 s] w fun e w' => e = .returned (.bool (okS ss s)) ∧ Below w.heap.size w w' := by
  have hlen := hx.1
  have few := good.few
  by_cases hin : 0 ≤ s ∧ s ≤ (n : Int) - 1
  · obtain ⟨q, rfl⟩ : ∃ q : Nat, s = (q : Int) := ⟨s.toNat, by omega⟩
    have hq : q < n := by omega
    have hd : (decide ((0 : Int) ≤ (q : Int)) && decide ((q : Int) ≤ (n : Int) - 1)) = true := by simp; omega
    obtain ⟨b1, o1, rfl, hb1, hc1⟩ := hx.2 (by omega)
    have k0 := (hc1 q hq).1
    have HO := hide (okS_in (ss := ss) (q := q) (by omega) (good.low q (by omega)))
    have i1 : (q : Int) < (n : Int) := by omega
    go_enter Tryz.func134, Tryz.ntmps134
    go_wp2_with fail
    refine (in_calls _ _ _ _).mono ?_
    rintro e w1 ⟨rfl, g1⟩
    rw [hd]
    have c1 := (g1.cell (p := ⟨p, 0, none⟩) hp).trans hpc
    have k1 := (g1.cell (p := ⟨b1, o1 + q * 2, none⟩) hb1).trans k0
    clear hx hc1 k0 hpc
    go_wp2
    all_goals go_ret
    all_goals exact ⟨ret_bool (by rw [HO.out]; try (first | (simp; done) | (simp; omega))), g1⟩
  · have hd : (decide ((0 : Int) ≤ s) && decide (s ≤ (n : Int) - 1)) = false := by simp; omega
    have HO := hide (okS_out (ss := ss) (s := s) (by omega))
    clear hin
    go_enter Tryz.func134, Tryz.ntmps134
    go_wp2_with fail
    refine (in_calls _ _ _ _).mono ?_
    rintro e w1 ⟨rfl, g1⟩
    rw [hd]
    go_wp2
    go_ret
    exact ⟨ret_bool HO.out.symm, g1⟩

set_option maxRecDepth 100000 in
theorem l3Slots_calls (p : Nat) (a : Option Addr) (n ca : Nat) (ss : List (Int × List Int)) (ta : Option Addr) (tl tc : Nat) (ts : List Int) (w : World) (good : Good ss) (htl : tl ≤ 10) (hp : p < w.heap.size) (hpc : w.cell? ⟨p, 0, none⟩ = some (.slice a n ca)) (hx : Sls w a n ss) (ht : Sl w ta tl ts) :
    Calls Tryz.prog 96 #[.pointer (some ⟨p, 0, none⟩), .slice ta tl tc] w fun e w' => e = .returned (.bool (allS ss ts)) ∧ Below w.heap.size w w' := by
  obtain ⟨hlen, ht⟩ := ht
  go_enter Tryz.func96, Tryz.ntmps96
  go_wp2
  go_loopw [5] (fun i wr => ∃ k : Nat, k ≤ tl ∧ i = .int .i64 k ∧ Below w.heap.size w wr ∧ ∀ j, j < k → okS ss (gt ts j) = true) (fun i _ => tl - (intOf i).toNat)
  case atStart => exact ⟨0, Nat.zero_le _, rfl, Below.refl _ _, fun j hj => by omega⟩
  case round =>
    obtain ⟨k, hk, rfl, hbel, hall⟩ := hrel
    have Hall := hide hall
    clear hall
    by_cases hlt : k < tl
    · obtain ⟨b, off, rfl, hbb, hc⟩ := ht (by omega)
      have hck := (hbel.cell (p := ⟨b, off + k, none⟩) hbb).trans (hc k hlt)
      have hpr := (hbel.cell (p := ⟨p, 0, none⟩) hp).trans hpc
      have hxr := hx.below hbel (Nat.le_refl _)
      have hpl : p < wr.heap.size := by have := hbel.size; omega
      cases ho : okS ss (gt ts k) with
      | true =>
        have Ho := hide ho
        go_wp2_with fail
        refine (l3Slot_calls p a n ca ss (gt ts k) _ good hpl hpr hxr).mono ?_
        rintro e w1 ⟨rfl, g1⟩
        rw [ho]
        have HE := hide (hbel.trans (g1.mono hbel.size))
        clear g1 ho hpr hxr
        go_wp2
        go_roundw
        case rel => exact ⟨k + 1, by omega, by go_num, HE.out, fun j hj => by (by_cases e : j = k); (subst e; exact Ho.out); exact Hall.out j (by omega)⟩
        case measure => simp [intOf]; omega
      | false =>
        have HF : Hid (allS ss ts = false) := all_hit (d := 0) (j := k) (by omega) ho
        go_wp2_with fail
        refine (l3Slot_calls p a n ca ss (gt ts k) _ good hpl hpr hxr).mono ?_
        rintro e w1 ⟨rfl, g1⟩
        rw [ho]
        have HE := hide (hbel.trans (g1.mono hbel.size))
        clear g1 ho hpr hxr
        go_wp2
        go_ret
        exact ⟨ret_bool HF.out.symm, HE.out⟩
    · have HT : Hid (allS ss ts = true) := all_pre (d := 0) (fun j hj => Hall.out j (by omega))
      go_wp2
      go_ret
      exact ⟨ret_bool HT.out.symm, hbel⟩

theorem allS_at {ss : List (Int × List Int)} (good : Good ss) {l : List Int} (h : allS ss l = true) {j : Nat} (hj : j < l.length) : ∃ q : Nat, gt l j = (q : Int) ∧ q < ss.length ∧ 0 < gc ss q ∧ atL ss (gt l j) = gl ss q := by
  obtain ⟨q, hq, hl⟩ := allS_lt h hj
  have h1 : okS ss (gt l j) = true := by have := all_get (d := 0) h hj; simpa [gt] using this
  have hp : 0 < gc ss q := by
    rw [hq, okS_in hl (good.low q hl)] at h1
    simpa using h1
  refine ⟨q, hq, hl, hp, ?_⟩
  rw [hq]
  refine atL_yes ?_
  rw [atC_in hl, if_neg (by omega)]

theorem thing_eq {zs : List Int} (h : fault zs = 0) : thingB zs = thing0 zs := by
  unfold thingB thing0
  rw [h]
  simp

theorem q3_cell {W X : World} {A0 A1 A2 : Addr} {v0 v1 v2 : Value} (h : X.cell? A0 = some v0 ∧ X.cell? A1 = some v1 ∧ X.cell? A2 = some v2 ∧ Below W.heap.size W X) {k o : Nat} {v : Value} (hk : k < W.heap.size) (hc : W.cell? ⟨k, o, none⟩ = some v) : X.cell? ⟨k, o, none⟩ = some v := ((q3_bel h).cell (p := ⟨k, o, none⟩) hk).trans hc

set_option maxRecDepth 100000 in
set_option maxHeartbeats 2000000 in
theorem l3Labels_calls (p : Nat) (a : Option Addr) (n ca : Nat) (ss : List (Int × List Int)) (ta da : Option Addr) (tl tc dl dc : Nat) (ts ds : List Int) (w : World) (good : Good ss) (htl : tl ≤ 10) (hdl : dl ≤ 10)
    (hp : p < w.heap.size) (hpc : w.cell? ⟨p, 0, none⟩ = some (.slice a n ca)) (hpt : w.cell? ⟨p, 1, none⟩ = some (.slice ta tl tc)) (hpd : w.cell? ⟨p, 2, none⟩ = some (.slice da dl dc)) (hx : Sls w a n ss) (ht : Sl w ta tl ts) (hd : Sl w da dl ds) (h1 : allS ss ts = true) (h2 : allS ss ds = true) :
    Calls Tryz.prog 97 #[.pointer (some ⟨p, 0, none⟩)] w fun e w' => e = .returned (.bool (thingsB (labs ss ts) && lowsB (labs ss ds))) ∧ Below w.heap.size w w' := by
  have hlen := hx.1
  have few := good.few
  have htlen := ht.1
  have hdlen := hd.1
  go_enter Tryz.func97, Tryz.ntmps97
  go_wp2
  go_loopw [3] (fun i wr => ∃ k : Nat, k ≤ tl ∧ i = .int .i64 k ∧ Below w.heap.size w wr ∧ ∀ j, j < k → thingB ((labs ss ts).getD j []) = true) (fun i _ => tl - (intOf i).toNat)
  case atStart => exact ⟨0, Nat.zero_le _, rfl, Below.refl _ _, fun j hj => by omega⟩
  case round =>
    obtain ⟨k, hk, rfl, hbel, hall⟩ := hrel
    have Hall := hide hall
    clear hall
    by_cases hlt : k < tl
    · obtain ⟨b, off, rfl, hbb, hc⟩ := ht.2 (by omega)
      obtain ⟨q, hq, hql, hqp, hql2⟩ := allS_at good h1 (j := k) (by omega)
      have hck0 := hc k hlt
      rw [hq] at hck0
      obtain ⟨b1, o1, rfl, hb1, hc1⟩ := hx.2 (by omega)
      obtain ⟨_, la, ll, lc, k1, kl, ksl⟩ := hc1 q (by omega)
      have i0 : (0 : Int) ≤ (q : Int) := by omega
      have i1 : (q : Int) < (n : Int) := by omega
      have j0 : (0 : Int) ≤ (k : Int) := by omega
      have j1 : (k : Int) < (tl : Int) := by omega
      have hpr := (hbel.cell (p := ⟨p, 0, none⟩) hp).trans hpc
      have hptr := (hbel.cell (p := ⟨p, 1, none⟩) hp).trans hpt
      have hck := (hbel.cell (p := ⟨b, off + k, none⟩) hbb).trans hck0
      have HK := hide ((hbel.cell (p := ⟨b1, o1 + q * 2 + 1, none⟩) hb1).trans k1)
      have HS := hide (ksl.below hbel (Nat.le_refl _))
      have lb1 : b1 < wr.heap.size := by have := hbel.size; omega
      have HS0 : Hid (wr.drew.cell? ⟨p, 0, none⟩ = some (.slice (some ⟨b1, o1, none⟩) n ca) ∧ wr.drew.cell? ⟨p, 1, none⟩ = some (.slice (some ⟨b, off, none⟩) tl tc) ∧ wr.drew.cell? ⟨b, off + k, none⟩ = some (.int .i64 (q : Int)) ∧ Below wr.heap.size wr wr.drew) := ⟨hpr, hptr, hck, (Below.refl _ _).drew⟩
      have Hg : Hid ((labs ss ts).getD k [] = gl ss q) := by show _ = _; rw [getD_labs ss ts k (by omega)]; exact hql2
      have hth := thing_eq (good.right q hql hqp)
      clear k1 ksl hc1 hc hck0
      cases htb : thing0 (gl ss q) with
      | true =>
        have Ht : Hid (thingB ((labs ss ts).getD k []) = true) := by show _ = _; rw [Hg.out, hth, htb]
        go_wp2_with fail
        clear hpr hptr hck
        go_region_held2 (fun w' => w'.cell? ⟨p, 0, none⟩ = some (.slice (some ⟨b1, o1, none⟩) n ca) ∧ w'.cell? ⟨p, 1, none⟩ = some (.slice (some ⟨b, off, none⟩) tl tc) ∧ w'.cell? ⟨b, off + k, none⟩ = some (.int .i64 (q : Int)) ∧ Below wr.heap.size wr w')
          (first | with_reducible exact HS0.out | with_reducible assumption)
          (first
            | (go_at_call 135; refine (l1ThingO_calls b1 _ la ll lc (gl ss q) _ kl ?_ ?_).mono ?_; exact q3_cell (by with_reducible assumption) lb1 HK.out; exact HS.out.below (q3_bel (by with_reducible assumption)) (Nat.le_refl _); rintro e v1 ⟨rfl, rfl⟩; rw [htb]; have hs1 := q3_bel (W := wr) (by with_reducible assumption)))
        have HE := hide (hbel.trans (hs1.mono hbel.size))
        clear hs1 HS0 HS HK hbel
        go_wp2
        go_roundw
        case rel => exact ⟨k + 1, by omega, by go_num, HE.out, fun j hj => by (by_cases e : j = k); (subst e; exact Ht.out); exact Hall.out j (by omega)⟩
        case measure => simp [intOf]; omega
      | false =>
        have HF : Hid (thingsB (labs ss ts) = false) := all_hit (d := []) (j := k) (by simp [labs]; omega) (by rw [Hg.out, hth, htb])
        go_wp2_with fail
        clear hpr hptr hck
        go_region_held2 (fun w' => w'.cell? ⟨p, 0, none⟩ = some (.slice (some ⟨b1, o1, none⟩) n ca) ∧ w'.cell? ⟨p, 1, none⟩ = some (.slice (some ⟨b, off, none⟩) tl tc) ∧ w'.cell? ⟨b, off + k, none⟩ = some (.int .i64 (q : Int)) ∧ Below wr.heap.size wr w')
          (first | with_reducible exact HS0.out | with_reducible assumption)
          (first
            | (go_at_call 135; refine (l1ThingO_calls b1 _ la ll lc (gl ss q) _ kl ?_ ?_).mono ?_; exact q3_cell (by with_reducible assumption) lb1 HK.out; exact HS.out.below (q3_bel (by with_reducible assumption)) (Nat.le_refl _); rintro e v1 ⟨rfl, rfl⟩; rw [htb]; have hs1 := q3_bel (W := wr) (by with_reducible assumption)))
        have HE := hide (hbel.trans (hs1.mono hbel.size))
        clear hs1 HS0 HS HK hbel
        go_wp2
        go_ret
        exact ⟨ret_bool (by rw [HF.out]; simp), HE.out⟩
    · have HT : Hid (thingsB (labs ss ts) = true) := all_pre (d := []) (fun j hj => Hall.out j (by simp [labs] at hj; omega))
      have hpr := (hbel.cell (p := ⟨p, 1, none⟩) hp).trans hpt
      have HB := hide hbel
      clear Hall hbel
      go_wp2
      clear hpr
      go_loopw [4] (fun i wr => ∃ k : Nat, k ≤ dl ∧ i = .int .i64 k ∧ Below w.heap.size w wr ∧ ∀ j, j < k → lowB ((labs ss ds).getD j []) = true) (fun i _ => dl - (intOf i).toNat)
      case atStart => exact ⟨0, Nat.zero_le _, rfl, HB.out, fun j hj => by omega⟩
      case round =>
        clear HB
        obtain ⟨k2, hk2, rfl, hbel, hall⟩ := hrel
        have Hall := hide hall
        clear hall
        by_cases hlt : k2 < dl
        · obtain ⟨b, off, rfl, hbb, hc⟩ := hd.2 (by omega)
          obtain ⟨q, hq, hql, hqp, hql2⟩ := allS_at good h2 (j := k2) (by omega)
          have hck0 := hc k2 hlt
          rw [hq] at hck0
          obtain ⟨b1, o1, rfl, hb1, hc1⟩ := hx.2 (by omega)
          obtain ⟨_, la, ll, lc, k1, kl, ksl⟩ := hc1 q (by omega)
          have i0 : (0 : Int) ≤ (q : Int) := by omega
          have i1 : (q : Int) < (n : Int) := by omega
          have j0 : (0 : Int) ≤ (k2 : Int) := by omega
          have j1 : (k2 : Int) < (dl : Int) := by omega
          have hpr := (hbel.cell (p := ⟨p, 0, none⟩) hp).trans hpc
          have hptr := (hbel.cell (p := ⟨p, 2, none⟩) hp).trans hpd
          have hck := (hbel.cell (p := ⟨b, off + k2, none⟩) hbb).trans hck0
          have HK := hide ((hbel.cell (p := ⟨b1, o1 + q * 2 + 1, none⟩) hb1).trans k1)
          have HS := hide (ksl.below hbel (Nat.le_refl _))
          have lb1 : b1 < wr.heap.size := by have := hbel.size; omega
          have HS0 : Hid (wr.drew.cell? ⟨p, 0, none⟩ = some (.slice (some ⟨b1, o1, none⟩) n ca) ∧ wr.drew.cell? ⟨p, 2, none⟩ = some (.slice (some ⟨b, off, none⟩) dl dc) ∧ wr.drew.cell? ⟨b, off + k2, none⟩ = some (.int .i64 (q : Int)) ∧ Below wr.heap.size wr wr.drew) := ⟨hpr, hptr, hck, (Below.refl _ _).drew⟩
          have Hg : Hid ((labs ss ds).getD k2 [] = gl ss q) := by show _ = _; rw [getD_labs ss ds k2 (by omega)]; exact hql2
          clear k1 ksl hc1 hc hck0
          cases htb : lowB (gl ss q) with
          | true =>
            have Ht : Hid (lowB ((labs ss ds).getD k2 []) = true) := by show _ = _; rw [Hg.out, htb]
            go_wp2_with fail
            clear hpr hptr hck
            go_region_held2 (fun w' => w'.cell? ⟨p, 0, none⟩ = some (.slice (some ⟨b1, o1, none⟩) n ca) ∧ w'.cell? ⟨p, 2, none⟩ = some (.slice (some ⟨b, off, none⟩) dl dc) ∧ w'.cell? ⟨b, off + k2, none⟩ = some (.int .i64 (q : Int)) ∧ Below wr.heap.size wr w')
              (first | with_reducible exact HS0.out | with_reducible assumption)
              (first
                | (go_at_call 136; refine (l3Lowish_calls b1 _ la ll lc (gl ss q) _ kl ?_ ?_).mono ?_; exact q3_cell (by with_reducible assumption) lb1 HK.out; exact HS.out.below (q3_bel (by with_reducible assumption)) (Nat.le_refl _); rintro e v1 ⟨rfl, rfl⟩; rw [htb]; have hs1 := q3_bel (W := wr) (by with_reducible assumption)))
            have HE := hide (hbel.trans (hs1.mono hbel.size))
            clear hs1 HS0 HS HK hbel
            go_wp2
            go_roundw
            case rel => exact ⟨k2 + 1, by omega, by go_num, HE.out, fun j hj => by (by_cases e : j = k2); (subst e; exact Ht.out); exact Hall.out j (by omega)⟩
            case measure => simp [intOf]; omega
          | false =>
            have HF : Hid (lowsB (labs ss ds) = false) := all_hit (d := []) (j := k2) (by simp [labs]; omega) (by rw [Hg.out, htb])
            go_wp2_with fail
            clear hpr hptr hck
            go_region_held2 (fun w' => w'.cell? ⟨p, 0, none⟩ = some (.slice (some ⟨b1, o1, none⟩) n ca) ∧ w'.cell? ⟨p, 2, none⟩ = some (.slice (some ⟨b, off, none⟩) dl dc) ∧ w'.cell? ⟨b, off + k2, none⟩ = some (.int .i64 (q : Int)) ∧ Below wr.heap.size wr w')
              (first | with_reducible exact HS0.out | with_reducible assumption)
              (first
                | (go_at_call 136; refine (l3Lowish_calls b1 _ la ll lc (gl ss q) _ kl ?_ ?_).mono ?_; exact q3_cell (by with_reducible assumption) lb1 HK.out; exact HS.out.below (q3_bel (by with_reducible assumption)) (Nat.le_refl _); rintro e v1 ⟨rfl, rfl⟩; rw [htb]; have hs1 := q3_bel (W := wr) (by with_reducible assumption)))
            have HE := hide (hbel.trans (hs1.mono hbel.size))
            clear hs1 HS0 HS HK hbel
            go_wp2
            go_ret
            exact ⟨ret_bool (by rw [HF.out]; simp), HE.out⟩
        · have HL : Hid (lowsB (labs ss ds) = true) := all_pre (d := []) (fun j hj => Hall.out j (by simp [labs] at hj; omega))
          have hpr := (hbel.cell (p := ⟨p, 2, none⟩) hp).trans hpd
          go_wp2
          go_ret
          exact ⟨ret_bool (by rw [HT.out, HL.out]; rfl), hbel⟩

set_option maxRecDepth 100000 in
set_option maxHeartbeats 2000000 in
theorem l3Fault_calls (p : Nat) (a : Option Addr) (n ca : Nat) (ss : List (Int × List Int)) (ta : Option Addr) (tl tc : Nat) (ts : List Int) (da : Option Addr) (dl dc : Nat) (ds : List Int) (w : World) (hp : p < w.heap.size)
    (hpc : w.cell? ⟨p, 0, none⟩ = some (.slice a n ca)) (hpt : w.cell? ⟨p, 1, none⟩ = some (.slice ta tl tc)) (hpd : w.cell? ⟨p, 2, none⟩ = some (.slice da dl dc)) (hrt : RT w a n ss ta tl ts da dl ds) :
    Calls Tryz.prog 48 #[.pointer (some ⟨p, 0, none⟩)] w fun e w' => e = .returned (.int .i64 (tabF ss ts ds)) ∧ Below w.heap.size w w' := by
  obtain ⟨hn, hx, htm, ht, hdm, hd⟩ := hrt
  have hlen := hx.1
  have htl := ht.1
  have hdl := hd.1
  by_cases hr : faultR ss = 0
  · have er : (faultR ss != 0) = false := by simp [hr]
    have good := good_of hr
    have few := good.few
    have Hr := hide hr
    clear hr
    by_cases hmany : manyB ts ds = true
    · have HF := hide (tabF_many Hr.out hmany)
      by_cases h6 : 6 < tl
      · go_enter Tryz.func48, Tryz.ntmps48
        go_wp2_with fail
        refine (l2Fault_calls p a n ca ss _ hn hp hpc hx).mono ?_
        rintro e w1 ⟨rfl, g1⟩
        have pc1 := (g1.cell (p := ⟨p, 0, none⟩) hp).trans hpc
        have pt1 := (g1.cell (p := ⟨p, 1, none⟩) hp).trans hpt
        have pd1 := (g1.cell (p := ⟨p, 2, none⟩) hp).trans hpd
        have lp1 : p < w1.heap.size := by have := g1.size; omega
        have hx1 := hx.below g1 (Nat.le_refl _)
        have ht1 := ht.below g1 (Nat.le_refl _)
        have hd1 := hd.below g1 (Nat.le_refl _)
        clear pc1 pd1 hx1 ht1 hd1
        have HE := hide g1
        clear g1
        go_wp2
        go_ret
        exact ⟨ret_int HF.out.symm, HE.out⟩
      · have h4 : 4 < dl := by
          unfold manyB at hmany
          simp at hmany
          omega
        go_enter Tryz.func48, Tryz.ntmps48
        go_wp2_with fail
        refine (l2Fault_calls p a n ca ss _ hn hp hpc hx).mono ?_
        rintro e w1 ⟨rfl, g1⟩
        have pc1 := (g1.cell (p := ⟨p, 0, none⟩) hp).trans hpc
        have pt1 := (g1.cell (p := ⟨p, 1, none⟩) hp).trans hpt
        have pd1 := (g1.cell (p := ⟨p, 2, none⟩) hp).trans hpd
        have lp1 : p < w1.heap.size := by have := g1.size; omega
        have hx1 := hx.below g1 (Nat.le_refl _)
        have ht1 := ht.below g1 (Nat.le_refl _)
        have hd1 := hd.below g1 (Nat.le_refl _)
        clear pc1 hx1 ht1 hd1
        have HE := hide g1
        clear g1
        go_wp2
        go_ret
        exact ⟨ret_int HF.out.symm, HE.out⟩
    · have hm : manyB ts ds = false := by simpa using hmany
      have hs6 : ¬ (6 < tl) ∧ ¬ (4 < dl) := by
        unfold manyB at hm
        simp at hm
        omega
      obtain ⟨h6, h4⟩ := hs6
      cases h1 : allS ss ts with
      | false =>
        have HF : Hid (tabF ss ts ds = 4) := by show _ = _; rw [tabF_led Hr.out hm]; simp [ledF, h1]
        go_enter Tryz.func48, Tryz.ntmps48
        go_wp2_with fail
        refine (l2Fault_calls p a n ca ss _ hn hp hpc hx).mono ?_
        rintro e w1 ⟨rfl, g1⟩
        have pc1 := (g1.cell (p := ⟨p, 0, none⟩) hp).trans hpc
        have pt1 := (g1.cell (p := ⟨p, 1, none⟩) hp).trans hpt
        have pd1 := (g1.cell (p := ⟨p, 2, none⟩) hp).trans hpd
        have lp1 : p < w1.heap.size := by have := g1.size; omega
        have hx1 := hx.below g1 (Nat.le_refl _)
        have ht1 := ht.below g1 (Nat.le_refl _)
        have hd1 := hd.below g1 (Nat.le_refl _)
        go_wp2_with fail
        refine (l3Slots_calls p a n ca ss ta tl tc ts _ good (by omega) lp1 pc1 hx1 ht1).mono ?_
        rintro e w2 ⟨rfl, g2⟩
        rw [h1]
        have g02 := g1.trans (g2.mono g1.size)
        have pc2 := (g02.cell (p := ⟨p, 0, none⟩) hp).trans hpc
        have pt2 := (g02.cell (p := ⟨p, 1, none⟩) hp).trans hpt
        have pd2 := (g02.cell (p := ⟨p, 2, none⟩) hp).trans hpd
        have lp2 : p < w2.heap.size := by have := g02.size; omega
        clear g1 g2 pc1 pt1 pd1 lp1 hx1 ht1 hd1
        clear pc2 pt2 pd2
        have HE := hide g02
        clear g02
        go_wp2
        go_ret
        exact ⟨ret_int HF.out.symm, HE.out⟩
      | true =>
        cases h2 : allS ss ds with
        | false =>
          have HF : Hid (tabF ss ts ds = 4) := by show _ = _; rw [tabF_led Hr.out hm]; simp [ledF, h2]
          go_enter Tryz.func48, Tryz.ntmps48
          go_wp2_with fail
          refine (l2Fault_calls p a n ca ss _ hn hp hpc hx).mono ?_
          rintro e w1 ⟨rfl, g1⟩
          have pc1 := (g1.cell (p := ⟨p, 0, none⟩) hp).trans hpc
          have pt1 := (g1.cell (p := ⟨p, 1, none⟩) hp).trans hpt
          have pd1 := (g1.cell (p := ⟨p, 2, none⟩) hp).trans hpd
          have lp1 : p < w1.heap.size := by have := g1.size; omega
          have hx1 := hx.below g1 (Nat.le_refl _)
          have ht1 := ht.below g1 (Nat.le_refl _)
          have hd1 := hd.below g1 (Nat.le_refl _)
          go_wp2_with fail
          refine (l3Slots_calls p a n ca ss ta tl tc ts _ good (by omega) lp1 pc1 hx1 ht1).mono ?_
          rintro e w2 ⟨rfl, g2⟩
          rw [h1]
          have g02 := g1.trans (g2.mono g1.size)
          have pc2 := (g02.cell (p := ⟨p, 0, none⟩) hp).trans hpc
          have pt2 := (g02.cell (p := ⟨p, 1, none⟩) hp).trans hpt
          have pd2 := (g02.cell (p := ⟨p, 2, none⟩) hp).trans hpd
          have lp2 : p < w2.heap.size := by have := g02.size; omega
          clear g1 g2 pc1 pt1 pd1 lp1 hx1 ht1 hd1
          go_wp2_with fail
          refine (l3Slots_calls p a n ca ss da dl dc ds _ good (by omega) lp2 pc2 (hx.below g02 (Nat.le_refl _)) (hd.below g02 (Nat.le_refl _))).mono ?_
          rintro e w3 ⟨rfl, g3⟩
          rw [h2]
          have g03 := g02.trans (g3.mono g02.size)
          have pc3 := (g03.cell (p := ⟨p, 0, none⟩) hp).trans hpc
          have pt3 := (g03.cell (p := ⟨p, 1, none⟩) hp).trans hpt
          have pd3 := (g03.cell (p := ⟨p, 2, none⟩) hp).trans hpd
          have lp3 : p < w3.heap.size := by have := g03.size; omega
          clear g3 g02 pc2 pt2 pd2 lp2
          clear pc3 pt3 pd3
          have HE := hide g03
          clear g03
          go_wp2
          go_ret
          exact ⟨ret_int HF.out.symm, HE.out⟩
        | true =>
          cases h3 : (thingsB (labs ss ts) && lowsB (labs ss ds)) with
          | false =>
            have HF : Hid (tabF ss ts ds = 1) := by show _ = _; rw [tabF_led Hr.out hm]; unfold ledF; rw [h1, h2, h3]; rfl
            go_enter Tryz.func48, Tryz.ntmps48
            go_wp2_with fail
            refine (l2Fault_calls p a n ca ss _ hn hp hpc hx).mono ?_
            rintro e w1 ⟨rfl, g1⟩
            have pc1 := (g1.cell (p := ⟨p, 0, none⟩) hp).trans hpc
            have pt1 := (g1.cell (p := ⟨p, 1, none⟩) hp).trans hpt
            have pd1 := (g1.cell (p := ⟨p, 2, none⟩) hp).trans hpd
            have lp1 : p < w1.heap.size := by have := g1.size; omega
            have hx1 := hx.below g1 (Nat.le_refl _)
            have ht1 := ht.below g1 (Nat.le_refl _)
            have hd1 := hd.below g1 (Nat.le_refl _)
            go_wp2_with fail
            refine (l3Slots_calls p a n ca ss ta tl tc ts _ good (by omega) lp1 pc1 hx1 ht1).mono ?_
            rintro e w2 ⟨rfl, g2⟩
            rw [h1]
            have g02 := g1.trans (g2.mono g1.size)
            have pc2 := (g02.cell (p := ⟨p, 0, none⟩) hp).trans hpc
            have pt2 := (g02.cell (p := ⟨p, 1, none⟩) hp).trans hpt
            have pd2 := (g02.cell (p := ⟨p, 2, none⟩) hp).trans hpd
            have lp2 : p < w2.heap.size := by have := g02.size; omega
            clear g1 g2 pc1 pt1 pd1 lp1 hx1 ht1 hd1
            go_wp2_with fail
            refine (l3Slots_calls p a n ca ss da dl dc ds _ good (by omega) lp2 pc2 (hx.below g02 (Nat.le_refl _)) (hd.below g02 (Nat.le_refl _))).mono ?_
            rintro e w3 ⟨rfl, g3⟩
            rw [h2]
            have g03 := g02.trans (g3.mono g02.size)
            have pc3 := (g03.cell (p := ⟨p, 0, none⟩) hp).trans hpc
            have pt3 := (g03.cell (p := ⟨p, 1, none⟩) hp).trans hpt
            have pd3 := (g03.cell (p := ⟨p, 2, none⟩) hp).trans hpd
            have lp3 : p < w3.heap.size := by have := g03.size; omega
            clear g3 g02 pc2 pt2 pd2 lp2
            go_wp2_with fail
            refine (l3Labels_calls p a n ca ss ta da tl tc dl dc ts ds _ good (by omega) (by omega) lp3 pc3 pt3 pd3 (hx.below g03 (Nat.le_refl _)) (ht.below g03 (Nat.le_refl _)) (hd.below g03 (Nat.le_refl _)) h1 h2).mono ?_
            rintro e w4 ⟨rfl, g4⟩
            rw [h3]
            have g04 := g03.trans (g4.mono g03.size)
            clear g4 g03 pc3 pt3 pd3 lp3
            have HE := hide g04
            clear g04
            go_wp2
            go_ret
            exact ⟨ret_int HF.out.symm, HE.out⟩
          | true =>
            go_enter Tryz.func48, Tryz.ntmps48
            go_wp2_with fail
            refine (l2Fault_calls p a n ca ss _ hn hp hpc hx).mono ?_
            rintro e w1 ⟨rfl, g1⟩
            have pc1 := (g1.cell (p := ⟨p, 0, none⟩) hp).trans hpc
            have pt1 := (g1.cell (p := ⟨p, 1, none⟩) hp).trans hpt
            have pd1 := (g1.cell (p := ⟨p, 2, none⟩) hp).trans hpd
            have lp1 : p < w1.heap.size := by have := g1.size; omega
            have hx1 := hx.below g1 (Nat.le_refl _)
            have ht1 := ht.below g1 (Nat.le_refl _)
            have hd1 := hd.below g1 (Nat.le_refl _)
            go_wp2_with fail
            refine (l3Slots_calls p a n ca ss ta tl tc ts _ good (by omega) lp1 pc1 hx1 ht1).mono ?_
            rintro e w2 ⟨rfl, g2⟩
            rw [h1]
            have g02 := g1.trans (g2.mono g1.size)
            have pc2 := (g02.cell (p := ⟨p, 0, none⟩) hp).trans hpc
            have pt2 := (g02.cell (p := ⟨p, 1, none⟩) hp).trans hpt
            have pd2 := (g02.cell (p := ⟨p, 2, none⟩) hp).trans hpd
            have lp2 : p < w2.heap.size := by have := g02.size; omega
            clear g1 g2 pc1 pt1 pd1 lp1 hx1 ht1 hd1
            go_wp2_with fail
            refine (l3Slots_calls p a n ca ss da dl dc ds _ good (by omega) lp2 pc2 (hx.below g02 (Nat.le_refl _)) (hd.below g02 (Nat.le_refl _))).mono ?_
            rintro e w3 ⟨rfl, g3⟩
            rw [h2]
            have g03 := g02.trans (g3.mono g02.size)
            have pc3 := (g03.cell (p := ⟨p, 0, none⟩) hp).trans hpc
            have pt3 := (g03.cell (p := ⟨p, 1, none⟩) hp).trans hpt
            have pd3 := (g03.cell (p := ⟨p, 2, none⟩) hp).trans hpd
            have lp3 : p < w3.heap.size := by have := g03.size; omega
            clear g3 g02 pc2 pt2 pd2 lp2
            go_wp2_with fail
            refine (l3Labels_calls p a n ca ss ta da tl tc dl dc ts ds _ good (by omega) (by omega) lp3 pc3 pt3 pd3 (hx.below g03 (Nat.le_refl _)) (ht.below g03 (Nat.le_refl _)) (hd.below g03 (Nat.le_refl _)) h1 h2).mono ?_
            rintro e w4 ⟨rfl, g4⟩
            rw [h3]
            have g04 := g03.trans (g4.mono g03.size)
            clear g4 g03 pc3 pt3 pd3 lp3
            have pc4 := (g04.cell (p := ⟨p, 0, none⟩) hp).trans hpc
            have HB4 := hide g04
            clear g04
            go_wp2
            clear pc4
            go_loopw [4] (fun i wr => ∃ k : Nat, k ≤ n ∧ i = .int .i64 k ∧ Below w.heap.size w wr ∧ ∀ j, j < k → gc ss j = cnt ts j + cnt ds j) (fun i _ => n - (intOf i).toNat)
            case atStart => exact ⟨0, Nat.zero_le _, rfl, HB4.out, fun j hj => by omega⟩
            case round =>
              clear HB4
              obtain ⟨k, hk, rfl, hbel, hall⟩ := hrel
              have Hall := hide hall
              clear hall
              have hpr := (hbel.cell (p := ⟨p, 0, none⟩) hp).trans hpc
              by_cases hlt : k < n
              · obtain ⟨b1, o1, rfl, hb1, hc1⟩ := hx.2 (by omega)
                have k0 := (hc1 k hlt).1
                have hck := (hbel.cell (p := ⟨b1, o1 + k * 2, none⟩) hb1).trans k0
                have hptr := (hbel.cell (p := ⟨p, 1, none⟩) hp).trans hpt
                have hpdr := (hbel.cell (p := ⟨p, 2, none⟩) hp).trans hpd
                have HT := hide (ht.below hbel (Nat.le_refl _))
                have HD := hide (hd.below hbel (Nat.le_refl _))
                have j0 : (0 : Int) ≤ (k : Int) := by omega
                have j1 : (k : Int) < (n : Int) := by omega
                have HS0 : Hid (wr.drew.cell? ⟨p, 0, none⟩ = some (.slice (some ⟨b1, o1, none⟩) n ca) ∧ wr.drew.cell? ⟨b1, o1 + k * 2, none⟩ = some (.int .i64 (gc ss k)) ∧ wr.drew.cell? ⟨p, 1, none⟩ = some (.slice ta tl tc) ∧ wr.drew.cell? ⟨p, 2, none⟩ = some (.slice da dl dc) ∧ Below wr.heap.size wr wr.drew) := ⟨hpr, hck, hptr, hpdr, (Below.refl _ _).drew⟩
                have ct1 := (cnt_le ts k).1
                have ct2 : cnt ts k ≤ 10 := by have := (cnt_le ts k).2; omega
                have cd1 := (cnt_le ds k).1
                have cd2 : cnt ds k ≤ 10 := by have := (cnt_le ds k).2; omega
                have ew : IntKind.i64.wrap (cnt ts k + cnt ds k) = cnt ts k + cnt ds k := IntWalk.i64_in _ (by omega)
                clear hc1 k0
                by_cases he : gc ss k = cnt ts k + cnt ds k
                · have ee : (gc ss k != cnt ts k + cnt ds k) = false := by simp [he]
                  have He := hide he
                  clear he
                  go_wp2_with fail
                  clear hpr hck hptr hpdr
                  go_region_held2 (fun w' => w'.cell? ⟨p, 0, none⟩ = some (.slice (some ⟨b1, o1, none⟩) n ca) ∧ w'.cell? ⟨b1, o1 + k * 2, none⟩ = some (.int .i64 (gc ss k)) ∧ w'.cell? ⟨p, 1, none⟩ = some (.slice ta tl tc) ∧ w'.cell? ⟨p, 2, none⟩ = some (.slice da dl dc) ∧ Below wr.heap.size wr w')
                    (first | with_reducible exact HS0.out | with_reducible assumption)
                    (first
                      | (go_at_call_of 98 (Value.slice ta tl tc); refine (l3Count_calls ta tl tc ts k _ (by omega) ?_).mono ?_; exact HT.out.below (q4_bel (by with_reducible assumption)) (Nat.le_refl _); rintro e v1 ⟨rfl, rfl⟩)
                      | (go_at_call_of 98 (Value.slice da dl dc); refine (l3Count_calls da dl dc ds k _ (by omega) ?_).mono ?_; exact HD.out.below (q4_bel (by with_reducible assumption)) (Nat.le_refl _); rintro e v2 ⟨rfl, rfl⟩; have hs1 := q4_bel (W := wr) (by with_reducible assumption)))
                  have HE := hide (hbel.trans (hs1.mono hbel.size))
                  clear hs1 HS0 HT HD hbel
                  go_wp2
                  go_roundw
                  case rel => exact ⟨k + 1, by omega, by go_num, HE.out, fun j hj => by (by_cases e : j = k); (subst e; exact He.out); exact Hall.out j (by omega)⟩
                  case measure => simp [intOf]; omega
                · have ee : (gc ss k != cnt ts k + cnt ds k) = true := by simp [he]
                  have HF : Hid (tabF ss ts ds = 8) := by
                    show tabF ss ts ds = 8
                    rw [tabF_led Hr.out hm]
                    have h5 : cntB ss ts ds = false := by
                      unfold cntB
                      rw [List.all_eq_false]
                      exact ⟨k, List.mem_range.2 (by omega), by simp; omega⟩
                    (unfold ledF; rw [h1, h2, h3, h5]; rfl)
                  clear he
                  go_wp2_with fail
                  clear hpr hck hptr hpdr
                  go_region_held2 (fun w' => w'.cell? ⟨p, 0, none⟩ = some (.slice (some ⟨b1, o1, none⟩) n ca) ∧ w'.cell? ⟨b1, o1 + k * 2, none⟩ = some (.int .i64 (gc ss k)) ∧ w'.cell? ⟨p, 1, none⟩ = some (.slice ta tl tc) ∧ w'.cell? ⟨p, 2, none⟩ = some (.slice da dl dc) ∧ Below wr.heap.size wr w')
                    (first | with_reducible exact HS0.out | with_reducible assumption)
                    (first
                      | (go_at_call_of 98 (Value.slice ta tl tc); refine (l3Count_calls ta tl tc ts k _ (by omega) ?_).mono ?_; exact HT.out.below (q4_bel (by with_reducible assumption)) (Nat.le_refl _); rintro e v1 ⟨rfl, rfl⟩)
                      | (go_at_call_of 98 (Value.slice da dl dc); refine (l3Count_calls da dl dc ds k _ (by omega) ?_).mono ?_; exact HD.out.below (q4_bel (by with_reducible assumption)) (Nat.le_refl _); rintro e v2 ⟨rfl, rfl⟩; have hs1 := q4_bel (W := wr) (by with_reducible assumption)))
                  have HE := hide (hbel.trans (hs1.mono hbel.size))
                  clear hs1 HS0 HT HD hbel
                  go_wp2
                  go_ret
                  exact ⟨ret_int HF.out.symm, HE.out⟩
              · have HF : Hid (tabF ss ts ds = 0) := by
                  show tabF ss ts ds = 0
                  rw [tabF_led Hr.out hm]
                  have h5 : cntB ss ts ds = true := by
                    unfold cntB
                    rw [List.all_eq_true]
                    intro i hi
                    simp only [decide_eq_true_eq]
                    exact Hall.out i (by have := List.mem_range.1 hi; omega)
                  (unfold ledF; rw [h1, h2, h3, h5]; rfl)
                go_wp2
                go_ret
                exact ⟨ret_int HF.out.symm, hbel⟩
  · have er : (faultR ss != 0) = true := by simp [hr]
    have HF := hide (tabF_bad (ts := ts) (ds := ds) hr)
    clear hr
    go_enter Tryz.func48, Tryz.ntmps48
    go_wp2_with fail
    refine (l2Fault_calls p a n ca ss _ hn hp hpc hx).mono ?_
    rintro e w1 ⟨rfl, g1⟩
    have HE := hide g1
    clear g1
    go_wp2
    go_ret
    exact ⟨ret_int HF.out.symm, HE.out⟩

set_option maxRecDepth 100000 in
theorem implTablesFault_calls (a : Option Addr) (n ca : Nat) (ss : List (Int × List Int)) (ta : Option Addr) (tl tc : Nat) (ts : List Int) (da : Option Addr) (dl dc : Nat) (ds : List Int) (w : World) (hrt : RT w a n ss ta tl ts da dl ds) :
    Calls Tryz.prog 70 #[.agg #[.slice a n ca, .slice ta tl tc, .slice da dl dc]] w fun e w' => e = .returned (.int .i64 (tabF ss ts ds)) ∧ Below w.heap.size w w' := by
  have M0 := (Mm.start w).alloc3 (.slice a n ca) (.slice ta tl tc) (.slice da dl dc) 43
  go_enter Tryz.func70, Tryz.ntmps70
  go_wp2_with fail
  refine (openTables_calls a n ca ss ta tl tc ts da dl dc ds _ (hrt.below M0.bel (Nat.le_refl _))).mono ?_
  rintro e w1 ⟨sz, mo, xa, xn, xc, ya, yn, yc, rfl, g1, _⟩
  have HE := hide (M0.below g1).bel
  clear g1 M0
  go_wp2
  go_ret
  exact ⟨rfl, HE.out.alloc HE.out.size _⟩

theorem tabF_zero {ss : List (Int × List Int)} {ts ds : List Int} (h : tabF ss ts ds = 0) : faultR ss = 0 ∧ manyB ts ds = false ∧ allS ss ts = true ∧ allS ss ds = true ∧ thingsB (labs ss ts) = true ∧ lowsB (labs ss ds) = true ∧ cntB ss ts ds = true := by
  unfold tabF at h
  split at h
  · rename_i hr
    split at h
    · cases h
    · rename_i hm
      unfold ledF at h
      split at h
      · rename_i h1
        split at h
        · rename_i h2
          split at h
          · rename_i h3
            simp at h1 h2 hm
            exact ⟨hr, hm, h1.1, h1.2, h2.1, h2.2, h3⟩
          · cases h
        · cases h
      · cases h
  · rename_i hr
    exact absurd h hr

theorem many_len {ts ds : List Int} (h : manyB ts ds = false) : ts.length ≤ 6 ∧ ds.length ≤ 4 := by
  unfold manyB at h
  simp at h
  exact h

def inC (l : List Int) (i : Int) : Int := if 0 ≤ i ∧ i < (l.length : Int) then 0 else 4

def inL (ss : List (Int × List Int)) (l : List Int) (i : Int) : List Int := if inC l i = 0 then atL ss (gt l i.toNat) else []

theorem inC_yes {l : List Int} {j : Nat} (h : j < l.length) : inC l (j : Int) = 0 := if_pos (by omega)

theorem inC_no {l : List Int} {i : Int} (h : ¬ (0 ≤ i ∧ i < (l.length : Int))) : inC l i = 4 := if_neg h

theorem inL_yes {ss : List (Int × List Int)} {l : List Int} {j : Nat} (h : j < l.length) : inL ss l (j : Int) = atL ss (gt l j) := by
  unfold inL
  rw [inC_yes h]
  rfl

theorem inL_no {ss : List (Int × List Int)} {l : List Int} {i : Int} (h : ¬ (0 ≤ i ∧ i < (l.length : Int))) : inL ss l i = [] := by
  unfold inL
  rw [inC_no h]
  rfl

def tgC (ss : List (Int × List Int)) (ts ds l : List Int) (i : Int) : Int := if tabF ss ts ds = 0 then inC l i else tabF ss ts ds

def tgL (ss : List (Int × List Int)) (ts ds l : List Int) (i : Int) : List Int := if tabF ss ts ds = 0 then inL ss l i else []

theorem tgC_ok {ss : List (Int × List Int)} {ts ds l : List Int} {i : Int} (h : tabF ss ts ds = 0) : tgC ss ts ds l i = inC l i := if_pos h

theorem tgC_bad {ss : List (Int × List Int)} {ts ds l : List Int} {i : Int} (h : tabF ss ts ds ≠ 0) : tgC ss ts ds l i = tabF ss ts ds := if_neg h

theorem tgL_ok {ss : List (Int × List Int)} {ts ds l : List Int} {i : Int} (h : tabF ss ts ds = 0) : tgL ss ts ds l i = inL ss l i := if_pos h

theorem tgL_bad {ss : List (Int × List Int)} {ts ds l : List Int} {i : Int} (h : tabF ss ts ds ≠ 0) : tgL ss ts ds l i = [] := if_neg h

theorem atC_all {ss : List (Int × List Int)} {l : List Int} (h : allS ss l = true) {j : Nat} (hj : j < l.length) : atC ss (gt l j) = 0 := by
  have h1 := all_get (d := 0) h hj
  simpa [okS, gt] using h1

set_option maxRecDepth 100000 in
theorem l1HighO_calls (p o : Nat) (a : Option Addr) (cap : Nat) (zs : List Int) (w : World) (hp : p < w.heap.size) (hpc : w.cell? ⟨p, o, none⟩ = some (.slice a 4 cap)) (hs : Sl w a 4 zs) :
    Calls Tryz.prog 162 #[.pointer (some ⟨p, o, none⟩)] w fun e w' => ∃ b c, e = .returned (.agg #[.slice (some ⟨b, 0, none⟩) 4 c]) ∧ w.heap.size ≤ b ∧ Blk w' b (highL zs) ∧ Below w.heap.size w w' := by
  obtain ⟨hlen, hs⟩ := hs
  obtain ⟨b, off, rfl, hb, hc⟩ := hs (by omega)
  obtain ⟨i0, hi, hz0, hz1, hz2⟩ := info_parts info2
  have hb0 := fun o1 o2 => ((Below.refl w.heap.size w).alloc (Nat.le_refl _) o1).alloc (by simp) o2
  have hown := World.ownsRow_lit (base := w.heap.size) (e := 2) (size := 1) (w.alloc (.cells #[.slice none 0 0] 112)) #[] 0 (by simp) (Nat.zero_le _) rfl
  have hnews := ints_at_sl (w := (w.alloc (.cells #[.slice none 0 0] 112)).alloc (.cells #[] 2)) (b := b) (off := off) (zs := zs) (fun i hi => ((hb0 _ _).cell (p := ⟨b, off + i, none⟩) hb).trans (hc i (by omega)))
  rw [World.size_alloc] at hown
  have HO := hide hown
  have HN := hide hnews
  clear hown hnews hs hc
  go_enter Tryz.func162, Tryz.ntmps162
  go_wp2_with (first
    | (at_builtin; refine wpList_append_own _ rfl _ _ 25 rfl w.heap.size 2 i0 (.int .i64 0) 1 8 Tryz.underlying25 hi hz0 hz1 hz2 rfl (by decide) _ 0 [] rfl HO.out ⟨b, off, none⟩ 4 cap (zs.map (Value.int .i64)) rfl (by simp [hlen]) HN.out ints_one (by decide) (by decide) (by simp; omega) ?_)
    | go_in)
  intro v' w1 hown' hgrow _
  have hown2 : w1.ownsRow w.heap.size 2 1 v' 4 (zs.map (Value.int .i64)) := hown'
  obtain ⟨g, cap', rfl, hg, hcap, _, blk⟩ := owns_blk (by omega) hown2
  have h1 : Below w.heap.size w w1 := (hb0 _ _).grown hgrow (by simp; omega) (fun k hk => by simp [Value.ownBlock] at hk; omega)
  have hgn : w1.heap.size ≠ g := by have := blk.1; omega
  have hr : w.heap.size ≠ g := by
    intro e
    have h0 := hgrow.block w.heap.size (by simp; omega) (by simp [Value.ownBlock])
    have h3 := blk.2.1 0 (by omega)
    rw [← e] at h3
    have h4 : ((w.alloc (.cells #[.slice none 0 0] 112)).alloc (.cells #[] 2)).cell? ⟨w.heap.size, 0, none⟩ = some (.int .i64 (gt zs 0)) := (World.cell?_of_block (a := ⟨w.heap.size, 0, none⟩) h0).symm.trans h3
    rw [show ((w.alloc (.cells #[.slice none 0 0] 112)).alloc (.cells #[] 2)).cell? ⟨w.heap.size, 0, none⟩ = some (.slice none 0 0) from by go_simp] at h4
    cases h4
  have rc : w1.cell? ⟨w.heap.size, 0, none⟩ = some (.slice none 0 0) := (World.cell?_of_block (a := ⟨w.heap.size, 0, none⟩) (hgrow.block w.heap.size (by simp; omega) (by simp [Value.ownBlock]))).trans (by go_simp)
  have rf : w1.frozen? ⟨w.heap.size, 0, none⟩ = false := (World.frozen?_of_block (a := ⟨w.heap.size, 0, none⟩) (hgrow.block w.heap.size (by simp; omega) (by simp [Value.ownBlock]))).trans (by go_simp)
  have hN1 : w.heap.size < w1.heap.size := by have := hgrow.size; simp at this; omega
  clear HO HN hown' hown2 hgrow hb0
  go_wp2
  go_loopw [4] (fun i wr => ∃ k : Nat, k ≤ 4 ∧ i = .int .i64 k ∧ Below w.heap.size w wr ∧ HRow wr g k zs ∧ wr.cell? ⟨w1.heap.size, 0, none⟩ = some (.slice (some ⟨g, 0, none⟩) 4 cap') ∧ wr.cell? ⟨w.heap.size, 0, none⟩ = some (.slice none 0 0) ∧ wr.frozen? ⟨w.heap.size, 0, none⟩ = false) (fun i _ => 4 - (intOf i).toNat)
  case atStart => exact ⟨0, Nat.zero_le _, rfl, h1.alloc h1.size _, HRow.start (blk.below ((Below.refl _ _).alloc (Nat.le_refl _) _)) hlen, by go_simp, by go_simp, by go_simp⟩
  case round =>
    obtain ⟨k, hk, rfl, hbel, hrow, hq, rc', rf'⟩ := hrel
    by_cases hlt : k < 4
    · have hck := hrow.2.1 k hlt
      rw [if_neg (by omega)] at hck
      have hfk := hrow.2.2 k
      by_cases he : gt zs k = 0
      · have hz : (gt zs k == 0) = true := by simp [he]
        have He := hide he
        have hq2 : (wr.setCell ⟨g, k, none⟩ (.int .i64 5)).cell? ⟨w1.heap.size, 0, none⟩ = some (.slice (some ⟨g, 0, none⟩) 4 cap') := by
          rw [World.cell?_setCell_other _ _ _ _ (fun h => hgn (by injection h with h2; exact h2.symm))]; exact hq
        have rc2 : (wr.setCell ⟨g, k, none⟩ (.int .i64 5)).cell? ⟨w.heap.size, 0, none⟩ = some (.slice none 0 0) := by
          rw [World.cell?_setCell_other _ _ _ _ (fun h => hr (by injection h with h2; exact h2.symm))]; exact rc'
        have Hq2 := hide hq2
        have Rc2 := hide rc2
        clear he hq2 rc2
        go_wp2
        go_roundw
        case rel => exact ⟨k + 1, by omega, by go_num, hbel.setCell hg _, hrow.set hlt He.out, Hq2.out, Rc2.out, by simpa using rf'⟩
        case measure => simp [intOf]; omega
      · have hz : (gt zs k == 0) = false := by simp [he]
        have He := hide he
        clear he
        go_wp2
        go_roundw
        case rel => exact ⟨k + 1, by omega, by go_num, hbel, hrow.keep He.out, hq, rc', rf'⟩
        case measure => simp [intOf]; omega
    · have hk4 : k = 4 := by omega
      subst hk4
      go_wp2
      refine bodyPost_ret (v := .agg #[.slice (some ⟨g, 0, none⟩) 4 cap']) (by simp [results, Tryz.results162, go_sem, rc']) rfl ⟨g, cap', rfl, hg, (hrow.done hlen).setCell (by simpa using hr) _, hbel.setCell (Nat.le_refl _) _⟩


set_option maxRecDepth 100000 in
theorem l1BelowO_calls (p o q r : Nat) (a b : Option Addr) (ca cb : Nat) (xs ys : List Int) (w : World) (hp : p < w.heap.size) (hq : q < w.heap.size)
    (hpc : w.cell? ⟨p, o, none⟩ = some (.slice a 4 ca)) (hqc : w.cell? ⟨q, r, none⟩ = some (.slice b 4 cb)) (hx : Sl w a 4 xs) (hy : Sl w b 4 ys) :
    Calls Tryz.prog 163 #[.pointer (some ⟨p, o, none⟩), .pointer (some ⟨q, r, none⟩)] w fun e w' => e = .returned (.bool (belowB xs ys)) ∧ Below w.heap.size w w' := by
  obtain ⟨hxl, hx⟩ := hx
  obtain ⟨hyl, hy⟩ := hy
  obtain ⟨b1, o1, rfl, hb1, hc1⟩ := hx (by omega)
  obtain ⟨b2, o2, rfl, hb2, hc2⟩ := hy (by omega)
  go_enter Tryz.func163, Tryz.ntmps163
  go_wp2
  go_loopw [5] (fun i wr => ∃ k : Nat, k ≤ 4 ∧ i = .int .i64 k ∧ Below w.heap.size w wr ∧ ∀ j, j < k → gt xs j ≤ gt ys j) (fun i _ => 4 - (intOf i).toNat)
  case atStart => exact ⟨0, Nat.zero_le _, rfl, Below.refl _ _, fun j hj => by omega⟩
  case round =>
    obtain ⟨k, hk, rfl, hbel, hall⟩ := hrel
    have Hall : Hid (∀ j, j < k → gt xs j ≤ gt ys j) := hall
    clear hall
    have hpr := (hbel.cell (p := ⟨p, o, none⟩) hp).trans hpc
    have hqr := (hbel.cell (p := ⟨q, r, none⟩) hq).trans hqc
    by_cases hlt : k < 4
    · have hck1 := (hbel.cell (p := ⟨b1, o1 + k, none⟩) hb1).trans (hc1 k hlt)
      have hck2 := (hbel.cell (p := ⟨b2, o2 + k, none⟩) hb2).trans (hc2 k hlt)
      have hki : (k : Int) < 4 := by omega
      by_cases he : gt ys k < gt xs k
      · go_wp2_with fail
        go_quiet (fail)
        go_wp2
        go_ret
        exact ⟨ret_bool (belowB_no hlt he).symm, bdrewN hbel _⟩
      · have hle : gt xs k ≤ gt ys k := by omega
        go_wp2_with fail
        go_quiet (fail)
        go_wp2
        go_roundw
        case rel => exact ⟨k + 1, by omega, by go_num, bdrewN hbel _, fun j hj => by (by_cases e : j = k); (subst e; exact hle); exact Hall.out j (by omega)⟩
        case measure => simp [intOf]; omega
    · go_wp2
      go_ret
      exact ⟨ret_bool (belowB_yes (fun j hj => Hall.out j (by omega))).symm, hbel⟩


set_option maxRecDepth 100000 in
theorem l1ObserveO_calls (p o q r : Nat) (a b : Option Addr) (ca cb : Nat) (xs ys : List Int) (w : World) (hp : p < w.heap.size) (hq : q < w.heap.size)
    (hpc : w.cell? ⟨p, o, none⟩ = some (.slice a 4 ca)) (hqc : w.cell? ⟨q, r, none⟩ = some (.slice b 4 cb)) (hx : Sl w a 4 xs) (hy : Sl w b 4 ys) :
    Calls Tryz.prog 137 #[.pointer (some ⟨p, o, none⟩), .pointer (some ⟨q, r, none⟩)] w fun e w' => e = .returned (.bool (thing0 ys && belowB ys (highL xs))) ∧ Below w.heap.size w w' := by
  go_enter Tryz.func137, Tryz.ntmps137
  go_wp2_with fail
  refine (l1HighO_calls p o a ca xs _ hp hpc hx).mono ?_
  rintro e w1 ⟨g, c, rfl, hgN, blk, hb1⟩
  have hq1 := (hb1.cell (p := ⟨q, r, none⟩) hq).trans hqc
  have hqs : q < w1.heap.size := by have := hb1.size; omega
  have ha := (Below.refl w1.heap.size w1).alloc (Nat.le_refl _) (.cells #[.slice (some ⟨g, 0, none⟩) 4 c] 112)
  have h1a : Below w.heap.size w (w1.alloc (.cells #[.slice (some ⟨g, 0, none⟩) 4 c] 112)) := hb1.trans (ha.mono hb1.size)
  have hlen : (highL xs).length = 4 := by rw [length_highL]; exact hx.1
  have hsl := hlen ▸ blk.sl
  go_wp2_with fail
  refine (l1ThingO_calls q r b 4 cb ys _ (by unfold maxLen; omega) (by go_simp) (hy.below h1a (Nat.le_refl _))).mono ?_
  rintro e w2 ⟨rfl, hw2⟩
  have hb2 : Below (w1.alloc (.cells #[.slice (some ⟨g, 0, none⟩) 4 c] 112)).heap.size (w1.alloc (.cells #[.slice (some ⟨g, 0, none⟩) 4 c] 112)) w2 := by rw [hw2]; exact Below.refl _ _
  clear hw2
  have h2 : Below w.heap.size w w2 := h1a.trans (hb2.mono (by have := hb1.size; simp; omega))
  have hq2 := (h2.cell (p := ⟨q, r, none⟩) hq).trans hqc
  have hhc : w2.cell? ⟨w1.heap.size, 0, none⟩ = some (.slice (some ⟨g, 0, none⟩) 4 c) := (hb2.cell (p := ⟨w1.heap.size, 0, none⟩) (by simp)).trans (by go_simp)
  have hhs : w1.heap.size < w2.heap.size := by have := hb2.size; simp at this; omega
  have hsl2 := (hsl.below ha (Nat.le_refl _)).below hb2 (Nat.le_refl _)
  cases ht : thing0 ys with
  | true =>
    go_wp2_with fail
    refine (l1BelowO_calls q r w1.heap.size 0 b (some ⟨g, 0, none⟩) cb c ys (highL xs) _ (by omega) hhs hq2 hhc (hy.below h2 (Nat.le_refl _)) hsl2).mono ?_
    rintro e w3 ⟨rfl, hb3⟩
    go_wp2
    go_ret
    exact ⟨ret_bool (by rw [ht]; rfl), h2.trans (hb3.mono h2.size)⟩
  | false =>
    go_wp2
    go_ret
    exact ⟨ret_bool (by rw [ht]; rfl), h2⟩


set_option maxRecDepth 100000 in
theorem l1ModifyO_calls (p o q r : Nat) (a b : Option Addr) (ca cb : Nat) (xs ys : List Int) (w : World) (hp : p < w.heap.size) (hq : q < w.heap.size)
    (hpc : w.cell? ⟨p, o, none⟩ = some (.slice a 4 ca)) (hqc : w.cell? ⟨q, r, none⟩ = some (.slice b 4 cb)) (hx : Sl w a 4 xs) (hy : Sl w b 4 ys) :
    Calls Tryz.prog 138 #[.pointer (some ⟨p, o, none⟩), .pointer (some ⟨q, r, none⟩)] w fun e w' => e = .returned (.bool ((thing0 ys && belowB ys (highL xs)) && belowB xs ys)) ∧ Below w.heap.size w w' := by
  cases ht : (thing0 ys && belowB ys (highL xs)) with
  | true =>
    have Ht := hide ht
    clear ht
    go_enter Tryz.func138, Tryz.ntmps138
    go_wp2_with fail
    refine (l1ObserveO_calls p o q r a b ca cb xs ys _ hp hq hpc hqc hx hy).mono ?_
    rintro e w1 ⟨rfl, hb⟩
    rw [Ht.out]
    have c1 := (hb.cell (p := ⟨p, o, none⟩) hp).trans hpc
    have c2 := (hb.cell (p := ⟨q, r, none⟩) hq).trans hqc
    have hsz := hb.size
    go_wp2_with fail
    refine (l1BelowO_calls p o q r a b ca cb xs ys _ (by omega) (by omega) c1 c2 (hx.below hb (Nat.le_refl _)) (hy.below hb (Nat.le_refl _))).mono ?_
    rintro e w2 ⟨rfl, hb2⟩
    go_wp2
    go_ret
    exact ⟨ret_bool (by simp), hb.trans (hb2.mono hb.size)⟩
  | false =>
    have Ht := hide ht
    clear ht
    go_enter Tryz.func138, Tryz.ntmps138
    go_wp2_with fail
    refine (l1ObserveO_calls p o q r a b ca cb xs ys _ hp hq hpc hqc hx hy).mono ?_
    rintro e w1 ⟨rfl, hb⟩
    rw [Ht.out]
    go_wp2
    go_ret
    exact ⟨rfl, hb⟩

end Go.Proofs.YtgkjmeogdomgmaaGreat
