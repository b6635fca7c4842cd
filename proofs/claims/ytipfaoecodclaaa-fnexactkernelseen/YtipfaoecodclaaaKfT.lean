import Derived.Test.YtipfaoecodclaaaKfU
import Derived.Test.YtipfaoecodclaaaKfR
import Derived.Test.YtipfaoecodclaaaKfS
import Derived.WalkKit
import Derived.ProofKit
import Derived.OpenShut
import Derived.ShutString
import Derived.ChangeOld
import Derived.Below
import Derived.WalkSpells
import Derived.Deep.QuietTactic
import Derived.BigQuiet
import Derived.Deep.RegionWith
import Derived.Deep.WholeRow
import Derived.Deep.DeepCutAuto
import Derived.Deep.RegionHeld2
import Derived.Deep.AppendLies
import Derived.Deep.RegionLaw
namespace Go.Proofs.Ytipfaoecodclaaa
open Go.ChangeShapes Go.WideShapes Go.ChangeAt Go.RowKit

set_option maxRecDepth 100000 in
theorem l1FaultO_calls (p o : Nat) (a : Option Addr) (len cap : Nat) (zs : List Int) (w : World) (hl : len ≤ maxLen) (hp : p < w.heap.size) (hpc : w.cell? ⟨p, o, none⟩ = some (.slice a len cap)) (hs : Sl w a len zs) :
    Calls Try.prog 25 #[.pointer (some ⟨p, o, none⟩)] w fun e w' => e = .returned (.int .i64 (fault zs)) ∧ Below w.heap.size w w' := by
  unfold maxLen at hl
  obtain ⟨hlen, hs⟩ := hs
  by_cases h4 : len = 4
  · subst h4
    obtain ⟨b, off, rfl, hb, hc⟩ := hs (by omega)
    go_enter Try.func25, Try.ntmps25
    go_wp2
    go_loopw [3] (fun i wr => ∃ k : Nat, k ≤ 4 ∧ i = .int .i64 k ∧ Below w.heap.size w wr ∧ (zs.take k).all okI = true) (fun i _ => 4 - (intOf i).toNat)
    case atStart => exact ⟨0, Nat.zero_le _, rfl, Below.refl _ _, by simp⟩
    case round =>
      obtain ⟨k, hk, rfl, hbel, hall⟩ := hrel
      have Hall : Hid ((zs.take k).all okI = true) := hall
      clear hall
      have hpr := (hbel.cell (p := ⟨p, o, none⟩) hp).trans hpc
      by_cases hlt : k < 4
      · have hck := (hbel.cell (p := ⟨b, off + k, none⟩) hb).trans (hc k hlt)
        have HS : Hid ((zs.take (k + 1)).all okI = ((zs.take k).all okI && okI (gt zs k))) := all_take_succ zs k (by omega)
        go_wp2_with fail
        refine (in_calls _ _ _ _).mono ?_
        rintro e w1 ⟨rfl, hb1⟩
        have hbw : Below w.heap.size w w1 := hbel.trans (hb1.mono hbel.size)
        clear hb1
        cases hok : (decide (0 ≤ gt zs k) && decide (gt zs k ≤ 5)) with
        | true =>
          have Hok : Hid ((decide (0 ≤ gt zs k) && decide (gt zs k ≤ 5)) = true) := hok
          clear hok
          go_wp2
          go_roundw
          case rel => exact ⟨k + 1, by omega, by go_num, hbw, by rw [HS.out, Hall.out]; exact Hok.out⟩
          case measure => simp [intOf]; omega
        | false =>
          have Hok : Hid ((decide (0 ≤ gt zs k) && decide (gt zs k ≤ 5)) = false) := hok
          clear hok
          go_wp2
          go_ret
          exact ⟨ret_int (fault_bad zs k (by omega) hlen Hok.out).symm, hbw⟩
      · go_wp2
        go_ret
        exact ⟨ret_int (fault_ok zs hlen (by have := Hall.out; rw [List.take_of_length_le (by omega)] at this; exact this)).symm, hbel⟩
  · have hne : ((len : Int) == 4) = false := by simp; omega
    go_enter Try.func25, Try.ntmps25
    go_wp2
    go_ret
    exact ⟨ret_int (by simp [fault, hlen, h4]), Below.refl _ _⟩

set_option maxRecDepth 100000 in
theorem l1ThingO_calls (p o : Nat) (a : Option Addr) (n cap : Nat) (zs : List Int) (w : World) (hn : n ≤ maxLen) (hpc : w.cell? ⟨p, o, none⟩ = some (.slice a n cap)) (hs : Sl w a n zs) :
    Calls Try.prog 62 #[.pointer (some ⟨p, o, none⟩)] w fun e w' => e = .returned (.bool (thing0 zs)) ∧ w' = w := by
  unfold maxLen at hn
  obtain ⟨hlen, hs⟩ := hs
  go_enter Try.func62, Try.ntmps62
  go_wp2
  go_loop [3] (fun i => ∃ k : Nat, k ≤ n ∧ i = .int .i64 k ∧ ∀ j, j < k → gt zs j ≠ 0 ∧ gt zs j ≠ 5) (fun i => n - (intOf i).toNat)
  case atStart => exact ⟨0, Nat.zero_le _, rfl, fun j hj => by omega⟩
  case round =>
    obtain ⟨k, hk, rfl, hall⟩ := hrel
    have Hall : Hid (∀ j, j < k → gt zs j ≠ 0 ∧ gt zs j ≠ 5) := hall
    clear hall
    by_cases hlt : k < n
    · obtain ⟨b, off, rfl, hb, hc⟩ := hs (by omega)
      have hck := hc k hlt
      by_cases he : gt zs k = 0
      · have hq : (gt zs k == 0) = true := by simp [he]
        have He := hide he
        clear he
        go_wp2
        go_ret
        exact ⟨ret_bool (thing0_no (k := k) (by omega) (.inl He.out)).symm, rfl⟩
      · have hq : (gt zs k == 0) = false := by simp [he]
        have He := hide he
        clear he
        by_cases h5 : gt zs k = 5
        · have hq5 : (gt zs k == 5) = true := by simp [h5]
          have H5 := hide h5
          clear h5
          go_wp2
          go_ret
          exact ⟨ret_bool (thing0_no (k := k) (by omega) (.inr H5.out)).symm, rfl⟩
        · have hq5 : (gt zs k == 5) = false := by simp [h5]
          have H5 := hide h5
          clear h5
          go_wp2
          go_round
          case rel => exact ⟨k + 1, by omega, by go_num, fun j hj => by (by_cases e : j = k); (subst e; exact ⟨He.out, H5.out⟩); exact Hall.out j (by omega)⟩
          case measure => simp [intOf]; omega
    · go_wp2
      go_ret
      exact ⟨ret_bool (thing0_yes (fun j hj => Hall.out j (by omega))).symm, rfl⟩

set_option maxRecDepth 100000 in
set_option maxHeartbeats 2000000 in
theorem l11One_calls (P : Nat) (a : Option Addr) (n c : Nat) (xs : List OB) (i : Nat) (w : World) (hk : KR P a n c xs w) (hi : i < n) (hnx : ∀ j : Nat, j < i → (gO xs j).2.2.1 = 1 → 1 ≤ (gO xs j).2.2.2.2.2.1 ∧ (gO xs j).2.2.2.2.2.1 ≤ 100) : Calls Try.prog 45 #[.pointer (some ⟨P, 0, none⟩), .int .i64 (i : Int)] w fun e w' => e = .returned (.int .i64 (oneF (gO xs) i)) ∧ Below w.heap.size w w' := by
  have hn := hk.nm
  unfold maxLen at hn
  have c0 := hk.c0
  obtain ⟨b, off, ea, hb, hc⟩ := hk.so.2 (by omega)
  rw [ea] at c0
  obtain ⟨la, lc, da, dc, h7, hll, hsl, hdl, hsd⟩ := hc i hi
  have i0 : (0 : Int) ≤ (i : Int) := by omega
  have i1 : (i : Int) < (n : Int) := by omega
  have HF := hide (l11Form_calls b (off + i * 7) (gO xs i) la lc da dc w h7)
  have c3 := h7.2.2.2.1
  have HK := hide hk
  have H7 := hide h7
  clear hk h7 hc ea
  go_enter Try.func45, Try.ntmps45
  go_wp2_with fail
  refine HF.out.mono ?_
  rintro e w' ⟨rfl, hw'⟩
  rw [hw']
  clear hw' w' HF
  cases h1 : formB (gO xs i) with
  | false =>
    have HV : Hid (oneF (gO xs) i = 1) := by show _ = _; unfold oneF; rw [if_pos h1]
    go_wp2
    go_ret
    exact ⟨ret_int HV.out.symm, Below.refl _ _⟩
  | true =>
  go_wp2_with fail
  refine (l1FaultO_calls b (off + i * 7 + 3) la _ lc (gO xs i).2.2.2.1 _ hll hb c3 hsl).mono ?_
  rintro e w1 ⟨rfl, g1⟩
  have z1 := g1.size
  by_cases h2 : fault (gO xs i).2.2.2.1 = 0
  rotate_left
  · have HV : Hid (oneF (gO xs) i = fault (gO xs i).2.2.2.1) := by show _ = _; unfold oneF; rw [if_neg (by rw [h1]; simp), if_pos h2]
    have e2 : (fault (gO xs i).2.2.2.1 != 0) = true := by simpa using h2
    clear h2
    go_wp2
    go_ret
    exact ⟨ret_int HV.out.symm, g1⟩
  have e2 : (fault (gO xs i).2.2.2.1 != 0) = false := by simp [h2]
  have d3 := (g1.cell (p := ⟨b, off + i * 7 + 3, none⟩) hb).trans c3
  go_wp2_with fail
  refine (l1ThingO_calls b (off + i * 7 + 3) la _ lc (gO xs i).2.2.2.1 _ hll d3 (hsl.below g1 (Nat.le_refl _))).mono ?_
  rintro e w' ⟨rfl, hw'⟩
  rw [hw']
  clear hw' w' c3 d3
  cases h3 : thing0 (gO xs i).2.2.2.1 with
  | false =>
    have HV : Hid (oneF (gO xs) i = 1) := by show _ = _; unfold oneF; rw [if_neg (by rw [h1]; simp), if_neg (by simpa using h2), if_pos h3]
    go_wp2
    go_ret
    exact ⟨ret_int HV.out.symm, g1⟩
  | true =>
  go_wp2_with fail
  refine (l11Ranges_calls b (off + i * 7) (gO xs i) la lc da dc _ (H7.out.of_block (g1.block b hb)) (by omega) hdl (hsd.below g1 (Nat.le_refl _))).mono ?_
  rintro e w2 ⟨rfl, g2⟩
  have G2 := g1.trans (g2.mono z1)
  have z2 := G2.size
  clear g2
  cases h4 : rngB (gO xs i) with
  | false =>
    have HV : Hid (oneF (gO xs) i = 3) := by show _ = _; unfold oneF; rw [if_neg (by rw [h1]; simp), if_neg (by simpa using h2), if_neg (by rw [h3]; simp), if_pos h4]
    go_wp2
    go_ret
    exact ⟨ret_int HV.out.symm, G2⟩
  | true =>
  go_wp2_with fail
  refine (l11Up_calls P a n c xs i _ (HK.out.below G2) hi).mono ?_
  rintro e w3 ⟨rfl, g3⟩
  have G3 := G2.trans (g3.mono z2)
  have z3 := G3.size
  clear g3
  cases h5 : upB (gO xs) i with
  | false =>
    have HV : Hid (oneF (gO xs) i = 4) := by show _ = _; unfold oneF; rw [if_neg (by rw [h1]; simp), if_neg (by simpa using h2), if_neg (by rw [h3]; simp), if_neg (by rw [h4]; simp), if_pos h5]
    go_wp2
    go_ret
    exact ⟨ret_int HV.out.symm, G3⟩
  | true =>
  go_wp2_with fail
  refine (l11Named_calls P a n c xs i _ (HK.out.below G3) hi h5 hnx).mono ?_
  rintro e w4 ⟨rfl, g4⟩
  have G4 := G3.trans (g4.mono z3)
  clear g4
  cases h6 : namB (gO xs) i with
  | false =>
    have HV : Hid (oneF (gO xs) i = 8) := by show _ = _; unfold oneF; rw [if_neg (by rw [h1]; simp), if_neg (by simpa using h2), if_neg (by rw [h3]; simp), if_neg (by rw [h4]; simp), if_neg (by rw [h5]; simp), if_pos h6]
    go_wp2
    go_ret
    exact ⟨ret_int HV.out.symm, G4⟩
  | true =>
    have HV : Hid (oneF (gO xs) i = 0) := by show _ = _; unfold oneF; rw [if_neg (by rw [h1]; simp), if_neg (by simpa using h2), if_neg (by rw [h3]; simp), if_neg (by rw [h4]; simp), if_neg (by rw [h5]; simp), if_neg (by rw [h6]; simp)]
    go_wp2
    go_ret
    exact ⟨ret_int HV.out.symm, G4⟩

set_option maxRecDepth 100000 in
theorem l11Free_calls (P : Nat) (a : Option Addr) (n c : Nat) (xs : List OB) (p : Nat) (w : World) (hk : KR P a n c xs w) (hp : p < n) (hn : n ≤ 1000) (hq : ∀ j, j < n → 0 ≤ (gO xs j).2.2.2.2.1 ∧ (gO xs j).2.2.2.2.1 ≤ 200) : Calls Try.prog 46 #[.pointer (some ⟨P, 0, none⟩), .int .i64 (p : Int)] w fun e w' => e = .returned (.int .i64 (freeO (gO xs) n p)) ∧ w' = w := by
  have c0 := hk.c0
  obtain ⟨b, off, ea, hb, hc⟩ := hk.so.2 (by omega)
  rw [ea] at c0
  obtain ⟨_, _, _, _, ⟨_, _, _, _, r4, _, _⟩, _⟩ := hc p hp
  have i0 : (0 : Int) ≤ (p : Int) := by omega
  have i1 : (p : Int) < (n : Int) := by omega
  have hqp := hq p hp
  clear hk ea
  go_enter Try.func46, Try.ntmps46
  go_wp2
  clear r4
  go_loop [5, 6] (fun v q => ∃ k : Nat, 1 ≤ k ∧ k ≤ n ∧ q = .int .i64 k ∧ v = .int .i64 ((gO xs p).2.2.2.2.1 - usedO (gO xs) (p : Int) k)) (fun _ q => n - (intOf q).toNat)
  case atStart => exact ⟨1, Nat.le_refl _, by omega, rfl, by simp [usedO]⟩
  case round =>
    obtain ⟨k, hk1, hkn, rfl, rfl⟩ := hrel
    have hu := usedO_le (f := gO xs) (p := (p : Int)) (k := k) (fun j hj => hq j (by omega))
    by_cases hlt : k < n
    · obtain ⟨_, _, _, _, ⟨t0, _, _, _, t4, _, _⟩, _⟩ := hc k hlt
      have hqk := hq k hlt
      have k0 : (0 : Int) ≤ (k : Int) := by omega
      have k1 : (k : Int) < (n : Int) := by omega
      clear hc
      by_cases h2 : (gO xs k).1 = (p : Int)
      · have e2 : ((gO xs k).1 == (p : Int)) = true := by simpa using h2
        have HN : Hid ((gO xs p).2.2.2.2.1 - usedO (gO xs) (p : Int) k - (gO xs k).2.2.2.2.1 = (gO xs p).2.2.2.2.1 - usedO (gO xs) (p : Int) (k + 1)) := by show _ = _; rw [show usedO (gO xs) (p : Int) (k + 1) = usedO (gO xs) (p : Int) k + (if 1 ≤ k ∧ (gO xs k).1 = (p : Int) then (gO xs k).2.2.2.2.1 else 0) from rfl, if_pos ⟨hk1, h2⟩]; omega
        clear h2
        go_wp2
        go_round
        case rel => exact ⟨k + 1, by omega, by omega, by go_num, by rw [← HN.out]⟩
        case measure => simp [intOf]; omega
      · have e2 : ((gO xs k).1 == (p : Int)) = false := by simpa using h2
        have HN : Hid (usedO (gO xs) (p : Int) (k + 1) = usedO (gO xs) (p : Int) k) := by show _ = _; rw [show usedO (gO xs) (p : Int) (k + 1) = usedO (gO xs) (p : Int) k + (if 1 ≤ k ∧ (gO xs k).1 = (p : Int) then (gO xs k).2.2.2.2.1 else 0) from rfl, if_neg (fun h => h2 h.2)]; omega
        clear h2
        go_wp2
        go_round
        case rel => exact ⟨k + 1, by omega, by omega, by go_num, by rw [HN.out]⟩
        case measure => simp [intOf]; omega
    · obtain rfl : k = n := by omega
      clear hc
      go_wp2
      go_ret
      exact ⟨rfl, rfl⟩

set_option maxRecDepth 100000 in
set_option maxHeartbeats 2000000 in
theorem l11Fault_calls (P : Nat) (a : Option Addr) (n c : Nat) (xs : List OB) (w : World) (hk : KR P a n c xs w) : Calls Try.prog 24 #[.pointer (some ⟨P, 0, none⟩)] w fun e w' => e = .returned (.int .i64 (kerF xs)) ∧ Below w.heap.size w w' := by
  have hn := hk.nm
  unfold maxLen at hn
  have c0 := hk.c0
  have hlen := hk.so.1
  have hP := hk.lt
  by_cases h1 : n < 1 ∨ 12 < n
  · have HV : Hid (kerF xs = 2) := by show _ = _; unfold kerF; rw [if_pos (by omega)]
    clear hk
    rcases h1 with h1 | h1
    · obtain rfl : n = 0 := by omega
      go_enter Try.func24, Try.ntmps24
      go_wp2
      go_ret
      exact ⟨ret_int HV.out.symm, Below.refl _ _⟩
    · go_enter Try.func24, Try.ntmps24
      go_wp2
      go_ret
      exact ⟨ret_int HV.out.symm, Below.refl _ _⟩
  have HX : Hid (kerF xs = if ffst n (oneF (gO xs)) ≠ 0 then ffst n (oneF (gO xs)) else if (List.range n).any (fullO (gO xs) n) = true then 7 else 0) := by show _ = _; unfold kerF; rw [if_neg (by omega), hlen]
  have hn1 : ¬ ((n : Int) < 1) := by omega
  have hn2 : ¬ ((n : Int) > 12) := by omega
  have hn12 : n ≤ 12 := by omega
  have HK := hide hk
  clear hk h1
  go_enter Try.func24, Try.ntmps24
  go_wp2
  clear hn1 hn2
  go_loopw [3, 4] (fun i _ wr => ∃ k : Nat, k ≤ n ∧ i = .int .i64 k ∧ Below w.heap.size w wr ∧ ∀ j, j < k → oneF (gO xs) j = 0) (fun i _ _ => n - (intOf i).toNat)
  case atStart => exact ⟨0, Nat.zero_le _, rfl, Below.refl _ _, fun j hj => by omega⟩
  case round =>
    obtain ⟨k, hkn, rfl, hbel, hno⟩ := hrel
    have Hno := hide hno
    clear hno
    have d0 := (hbel.cell (p := ⟨P, 0, none⟩) hP).trans c0
    by_cases hlt : k < n
    · go_wp2_with fail
      refine (l11One_calls P a n c xs k _ (HK.out.below hbel) hlt (fun j hj hkd => (rngB_inv (oneF_inv (Hno.out j hj)).2.2.2.1).2.1 hkd)).mono ?_
      rintro e w1 ⟨rfl, g1⟩
      have G1 := hbel.trans (g1.mono hbel.size)
      clear g1
      by_cases h2 : oneF (gO xs) k = 0
      · have e2 : (oneF (gO xs) k != 0) = false := by simp [h2]
        have HN : Hid (∀ j, j < k + 1 → oneF (gO xs) j = 0) := fun j hj => by
          by_cases e0 : j = k
          · subst e0; exact h2
          · exact Hno.out j (by omega)
        clear h2
        go_wp2
        go_roundw
        case rel => exact ⟨k + 1, by omega, by go_num, G1, HN.out⟩
        case measure => simp [intOf]; omega
      · have e2 : (oneF (gO xs) k != 0) = true := by simpa using h2
        have HV : Hid (kerF xs = oneF (gO xs) k) := by
          show _ = _
          have hf := ffst_hit hlt (fun j hj => Hno.out j hj) h2
          rw [HX.out, hf, if_pos h2]
        clear h2
        go_wp2
        go_ret
        exact ⟨ret_int HV.out.symm, G1⟩
    · have HA : Hid (∀ j, j < n → oneF (gO xs) j = 0) := fun j hj => Hno.out j (by omega)
      have HX2 : Hid (kerF xs = if (List.range n).any (fullO (gO xs) n) = true then 7 else 0) := by show _ = _; rw [HX.out, ffst_ok HA.out, if_neg (by simp)]
      have hkn' : ¬ ((k : Int) < (n : Int)) := by omega
      have HKR := hide (HK.out.below hbel)
      have HQ : Hid (∀ j, j < n → 0 ≤ (gO xs j).2.2.2.2.1 ∧ (gO xs j).2.2.2.2.1 ≤ 200) := fun j hj => (rngB_inv (oneF_inv (HA.out j hj)).2.2.2.1).1
      clear HX HK Hno
      go_wp2
      go_loop [5] (fun i => ∃ q : Nat, q ≤ n ∧ i = .int .i64 q ∧ ∀ j, j < q → fullO (gO xs) n j = false) (fun i => n - (intOf i).toNat)
      case atStart => exact ⟨0, Nat.zero_le _, rfl, fun j hj => by omega⟩
      case round =>
        obtain ⟨q, hqn, rfl, hno⟩ := hrel
        have Hno := hide hno
        clear hno
        by_cases hlq : q < n
        · obtain ⟨b, off, ea, hb, hc⟩ := HKR.out.so.2 (by omega)
          rw [ea] at d0
          obtain ⟨_, _, _, _, ⟨_, _, t2, _, _, _, _⟩, _⟩ := hc q hlq
          have q0 : (0 : Int) ≤ (q : Int) := by omega
          have q1 : (q : Int) < (n : Int) := by omega
          have HE := hide ea
          clear hc ea
          by_cases h3 : (gO xs q).2.2.1 = 1
          · have e3 : ((gO xs q).2.2.1 == 1) = true := by simpa using h3
            have HFR := hide (l11Free_calls P a n c xs q wr HKR.out hlq (by omega) HQ.out)
            by_cases h4 : freeO (gO xs) n q < 0
            · have HV : Hid (kerF xs = 7) := by show _ = _; rw [HX2.out, if_pos (any_range_yes hlq (by unfold fullO; simp [h3, h4]))]
              clear h3
              go_wp2_with fail
              refine HFR.out.mono ?_
              rintro e w' ⟨rfl, hw'⟩
              rw [hw']
              clear hw' w'
              go_wp2
              go_ret
              exact ⟨ret_int HV.out.symm, hbel⟩
            · have HN : Hid (∀ j, j < q + 1 → fullO (gO xs) n j = false) := fun j hj => by
                by_cases e0 : j = q
                · subst e0; unfold fullO; simp; intro _; omega
                · exact Hno.out j (by omega)
              clear h3
              go_wp2_with fail
              refine HFR.out.mono ?_
              rintro e w' ⟨rfl, hw'⟩
              rw [hw']
              clear hw' w'
              go_wp2
              go_round
              case rel => exact ⟨q + 1, by omega, by go_num, HN.out⟩
              case measure => simp [intOf]; omega
          · have e3 : ((gO xs q).2.2.1 == 1) = false := by simpa using h3
            have HN : Hid (∀ j, j < q + 1 → fullO (gO xs) n j = false) := fun j hj => by
              by_cases e0 : j = q
              · subst e0; unfold fullO; simp [h3]
              · exact Hno.out j (by omega)
            clear h3
            go_wp2
            go_round
            case rel => exact ⟨q + 1, by omega, by go_num, HN.out⟩
            case measure => simp [intOf]; omega
        · have HV : Hid (kerF xs = 0) := by show _ = _; rw [HX2.out, any_range_no (fun j hj => Hno.out j (by omega))]; rfl
          go_wp2
          go_ret
          exact ⟨ret_int HV.out.symm, hbel⟩

end Go.Proofs.Ytipfaoecodclaaa
