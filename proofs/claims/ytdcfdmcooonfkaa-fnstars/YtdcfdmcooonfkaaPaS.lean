import Derived.Test.YtdcfdmcooonfkaaPaP
import Derived.Test.YtdcfdmcooonfkaaQs
import Derived.WalkKit
import Derived.ProofKit
import Derived.OpenShut
import Derived.ShutString
import Derived.ChangeOld
import Derived.Below
import Derived.WalkSpells
import Derived.Deep.QuietTactic
import Derived.BigQuiet
import Derived.Deep.RegionWith
import Derived.Deep.WholeRow
import Derived.Deep.DeepCutAuto
import Derived.Deep.RegionHeld2
import Derived.Deep.AppendLies
import Derived.Deep.RegionLaw
namespace Go.Proofs.Ytdcfdmcooonfkaa
open Go.ChangeShapes Go.WideShapes Go.ChangeAt Go.RowKit

set_option maxRecDepth 100000 in
theorem l1FaultO_calls (p o : Nat) (a : Option Addr) (len cap : Nat) (zs : List Int) (w : World) (hl : len ≤ maxLen) (hp : p < w.heap.size) (hpc : w.cell? ⟨p, o, none⟩ = some (.slice a len cap)) (hs : Sl w a len zs) :
    Calls Try.prog 58 #[.pointer (some ⟨p, o, none⟩)] w fun e w' => e = .returned (.int .i64 (fault zs)) ∧ Below w.heap.size w w' := by
  unfold maxLen at hl
  obtain ⟨hlen, hs⟩ := hs
  by_cases h4 : len = 4
  · subst h4
    obtain ⟨b, off, rfl, hb, hc⟩ := hs (by omega)
    go_enter Try.func58, Try.ntmps58
    go_wp2
    go_loopw [3] (fun i wr => ∃ k : Nat, k ≤ 4 ∧ i = .int .i64 k ∧ Below w.heap.size w wr ∧ (zs.take k).all okI = true) (fun i _ => 4 - (intOf i).toNat)
    case atStart => exact ⟨0, Nat.zero_le _, rfl, Below.refl _ _, by simp⟩
    case round =>
      obtain ⟨k, hk, rfl, hbel, hall⟩ := hrel
      have Hall : Hid ((zs.take k).all okI = true) := hall
      clear hall
      have hpr := (hbel.cell (p := ⟨p, o, none⟩) hp).trans hpc
      by_cases hlt : k < 4
      · have hck := (hbel.cell (p := ⟨b, off + k, none⟩) hb).trans (hc k hlt)
        have HS : Hid ((zs.take (k + 1)).all okI = ((zs.take k).all okI && okI (gt zs k))) := all_take_succ zs k (by omega)
        go_wp2_with fail
        refine (in_calls _ _ _ _).mono ?_
        rintro e w1 ⟨rfl, hb1⟩
        have hbw : Below w.heap.size w w1 := hbel.trans (hb1.mono hbel.size)
        clear hb1
        cases hok : (decide (0 ≤ gt zs k) && decide (gt zs k ≤ 5)) with
        | true =>
          have Hok : Hid ((decide (0 ≤ gt zs k) && decide (gt zs k ≤ 5)) = true) := hok
          clear hok
          go_wp2
          go_roundw
          case rel => exact ⟨k + 1, by omega, by go_num, hbw, by rw [HS.out, Hall.out]; exact Hok.out⟩
          case measure => simp [intOf]; omega
        | false =>
          have Hok : Hid ((decide (0 ≤ gt zs k) && decide (gt zs k ≤ 5)) = false) := hok
          clear hok
          go_wp2
          go_ret
          exact ⟨ret_int (fault_bad zs k (by omega) hlen Hok.out).symm, hbw⟩
      · go_wp2
        go_ret
        exact ⟨ret_int (fault_ok zs hlen (by have := Hall.out; rw [List.take_of_length_le (by omega)] at this; exact this)).symm, hbel⟩
  · have hne : ((len : Int) == 4) = false := by simp; omega
    go_enter Try.func58, Try.ntmps58
    go_wp2
    go_ret
    exact ⟨ret_int (by simp [fault, hlen, h4]), Below.refl _ _⟩

set_option maxRecDepth 100000 in
theorem l1ThingO_calls (p o : Nat) (a : Option Addr) (n cap : Nat) (zs : List Int) (w : World) (hn : n ≤ maxLen) (hpc : w.cell? ⟨p, o, none⟩ = some (.slice a n cap)) (hs : Sl w a n zs) :
    Calls Try.prog 51 #[.pointer (some ⟨p, o, none⟩)] w fun e w' => e = .returned (.bool (thing0 zs)) ∧ w' = w := by
  unfold maxLen at hn
  obtain ⟨hlen, hs⟩ := hs
  go_enter Try.func51, Try.ntmps51
  go_wp2
  go_loop [3] (fun i => ∃ k : Nat, k ≤ n ∧ i = .int .i64 k ∧ ∀ j, j < k → gt zs j ≠ 0 ∧ gt zs j ≠ 5) (fun i => n - (intOf i).toNat)
  case atStart => exact ⟨0, Nat.zero_le _, rfl, fun j hj => by omega⟩
  case round =>
    obtain ⟨k, hk, rfl, hall⟩ := hrel
    have Hall : Hid (∀ j, j < k → gt zs j ≠ 0 ∧ gt zs j ≠ 5) := hall
    clear hall
    by_cases hlt : k < n
    · obtain ⟨b, off, rfl, hb, hc⟩ := hs (by omega)
      have hck := hc k hlt
      by_cases he : gt zs k = 0
      · have hq : (gt zs k == 0) = true := by simp [he]
        have He := hide he
        clear he
        go_wp2
        go_ret
        exact ⟨ret_bool (thing0_no (k := k) (by omega) (.inl He.out)).symm, rfl⟩
      · have hq : (gt zs k == 0) = false := by simp [he]
        have He := hide he
        clear he
        by_cases h5 : gt zs k = 5
        · have hq5 : (gt zs k == 5) = true := by simp [h5]
          have H5 := hide h5
          clear h5
          go_wp2
          go_ret
          exact ⟨ret_bool (thing0_no (k := k) (by omega) (.inr H5.out)).symm, rfl⟩
        · have hq5 : (gt zs k == 5) = false := by simp [h5]
          have H5 := hide h5
          clear h5
          go_wp2
          go_round
          case rel => exact ⟨k + 1, by omega, by go_num, fun j hj => by (by_cases e : j = k); (subst e; exact ⟨He.out, H5.out⟩); exact Hall.out j (by omega)⟩
          case measure => simp [intOf]; omega
    · go_wp2
      go_ret
      exact ⟨ret_bool (thing0_yes (fun j hj => Hall.out j (by omega))).symm, rfl⟩

set_option maxRecDepth 100000 in
theorem l3Lowish_calls (p o : Nat) (a : Option Addr) (n cap : Nat) (zs : List Int) (w : World) (hn : n ≤ maxLen) (hpc : w.cell? ⟨p, o, none⟩ = some (.slice a n cap)) (hs : Sl w a n zs) :
    Calls Try.prog 75 #[.pointer (some ⟨p, o, none⟩)] w fun e w' => e = .returned (.bool (lowP zs)) ∧ w' = w := by
  unfold maxLen at hn
  obtain ⟨hlen, hs⟩ := hs
  go_enter Try.func75, Try.ntmps75
  go_wp2
  go_loop [3] (fun i => ∃ k : Nat, k ≤ n ∧ i = .int .i64 k ∧ ∀ j, j < k → gt zs j ≠ 5) (fun i => n - (intOf i).toNat)
  case atStart => exact ⟨0, Nat.zero_le _, rfl, fun j hj => by omega⟩
  case round =>
    obtain ⟨k, hk, rfl, hall⟩ := hrel
    have Hall : Hid (∀ j, j < k → gt zs j ≠ 5) := hall
    clear hall
    by_cases hlt : k < n
    · obtain ⟨b, off, rfl, hb, hc⟩ := hs (by omega)
      have hck := hc k hlt
      by_cases h5 : gt zs k = 5
      · have hq5 : (gt zs k == 5) = true := by simp [h5]
        have HF : Hid (lowP zs = false) := by show lowP zs = false; simp only [lowP]; rw [has_yes (k := k) (by omega) h5]; rfl
        clear h5
        go_wp2
        go_ret
        exact ⟨ret_bool HF.out.symm, rfl⟩
      · have hq5 : (gt zs k == 5) = false := by simp [h5]
        have H5 := hide h5
        clear h5
        go_wp2
        go_round
        case rel => exact ⟨k + 1, by omega, by go_num, fun j hj => by (by_cases e : j = k); (subst e; exact H5.out); exact Hall.out j (by omega)⟩
        case measure => simp [intOf]; omega
    · have HT : Hid (lowP zs = true) := by show lowP zs = true; simp only [lowP]; rw [has_no (fun j hj => Hall.out j (by omega))]; rfl
      go_wp2
      go_ret
      exact ⟨ret_bool HT.out.symm, rfl⟩

set_option maxRecDepth 100000 in
theorem l1BelowO_calls (p o q r : Nat) (a b : Option Addr) (ca cb : Nat) (xs ys : List Int) (w : World) (hp : p < w.heap.size) (hq : q < w.heap.size)
    (hpc : w.cell? ⟨p, o, none⟩ = some (.slice a 4 ca)) (hqc : w.cell? ⟨q, r, none⟩ = some (.slice b 4 cb)) (hx : Sl w a 4 xs) (hy : Sl w b 4 ys) :
    Calls Try.prog 59 #[.pointer (some ⟨p, o, none⟩), .pointer (some ⟨q, r, none⟩)] w fun e w' => e = .returned (.bool (belowB xs ys)) ∧ Below w.heap.size w w' := by
  obtain ⟨hxl, hx⟩ := hx
  obtain ⟨hyl, hy⟩ := hy
  obtain ⟨b1, o1, rfl, hb1, hc1⟩ := hx (by omega)
  obtain ⟨b2, o2, rfl, hb2, hc2⟩ := hy (by omega)
  go_enter Try.func59, Try.ntmps59
  go_wp2
  go_loopw [5] (fun i wr => ∃ k : Nat, k ≤ 4 ∧ i = .int .i64 k ∧ Below w.heap.size w wr ∧ ∀ j, j < k → gt xs j ≤ gt ys j) (fun i _ => 4 - (intOf i).toNat)
  case atStart => exact ⟨0, Nat.zero_le _, rfl, Below.refl _ _, fun j hj => by omega⟩
  case round =>
    obtain ⟨k, hk, rfl, hbel, hall⟩ := hrel
    have Hall : Hid (∀ j, j < k → gt xs j ≤ gt ys j) := hall
    clear hall
    have hpr := (hbel.cell (p := ⟨p, o, none⟩) hp).trans hpc
    have hqr := (hbel.cell (p := ⟨q, r, none⟩) hq).trans hqc
    by_cases hlt : k < 4
    · have hck1 := (hbel.cell (p := ⟨b1, o1 + k, none⟩) hb1).trans (hc1 k hlt)
      have hck2 := (hbel.cell (p := ⟨b2, o2 + k, none⟩) hb2).trans (hc2 k hlt)
      have hki : (k : Int) < 4 := by omega
      by_cases he : gt ys k < gt xs k
      · go_wp2_with fail
        go_quiet (fail)
        go_wp2
        go_ret
        exact ⟨ret_bool (belowB_no hlt he).symm, bdrewN hbel _⟩
      · have hle : gt xs k ≤ gt ys k := by omega
        go_wp2_with fail
        go_quiet (fail)
        go_wp2
        go_roundw
        case rel => exact ⟨k + 1, by omega, by go_num, bdrewN hbel _, fun j hj => by (by_cases e : j = k); (subst e; exact hle); exact Hall.out j (by omega)⟩
        case measure => simp [intOf]; omega
    · go_wp2
      go_ret
      exact ⟨ret_bool (belowB_yes (fun j hj => Hall.out j (by omega))).symm, hbel⟩

set_option maxRecDepth 100000 in
theorem l1OwnsO_calls (p o : Nat) (a : Option Addr) (len cap : Nat) (zs : List Int) (w : World) (hl : len ≤ maxLen) (_hp : p < w.heap.size) (hpc : w.cell? ⟨p, o, none⟩ = some (.slice a len cap)) (hs : Sl w a len zs) :
    Calls Try.prog 76 #[.pointer (some ⟨p, o, none⟩)] w fun e w' => e = .returned (.bool (has zs 0)) ∧ Below w.heap.size w w' := by
  unfold maxLen at hl
  obtain ⟨hlen, hs⟩ := hs
  go_enter Try.func76, Try.ntmps76
  go_wp2
  go_loop [3] (fun i => ∃ k : Nat, k ≤ len ∧ i = .int .i64 k ∧ ∀ j, j < k → gt zs j ≠ 0) (fun i => len - (intOf i).toNat)
  case atStart => exact ⟨0, Nat.zero_le _, rfl, fun j hj => by omega⟩
  case round =>
    obtain ⟨k, hk, rfl, hall⟩ := hrel
    have Hall : Hid (∀ j, j < k → gt zs j ≠ 0) := hall
    clear hall
    by_cases hlt : k < len
    · obtain ⟨b, off, rfl, hb, hc⟩ := hs (by omega)
      have hck := hc k hlt
      by_cases he : gt zs k = 0
      · have hq : (gt zs k == 0) = true := by simp [he]
        have He := hide he
        clear he
        go_wp2
        go_ret
        exact ⟨ret_bool (has_yes (k := k) (by omega) He.out).symm, Below.refl _ _⟩
      · have hq : (gt zs k == 0) = false := by simp [he]
        have He := hide he
        clear he
        go_wp2
        go_round
        case rel => exact ⟨k + 1, by omega, by go_num, fun j hj => by (by_cases e : j = k); (subst e; exact He.out); exact Hall.out j (by omega)⟩
        case measure => simp [intOf]; omega
    · go_wp2
      go_ret
      exact ⟨ret_bool (has_no (fun j hj => Hall.out j (by omega))).symm, Below.refl _ _⟩

set_option maxRecDepth 100000 in
theorem l1BothO_calls (p o q r : Nat) (a b : Option Addr) (la ca lb cb : Nat) (xs ys : List Int) (w : World) (hla : la ≤ maxLen) (hlb : lb ≤ maxLen) (hp : p < w.heap.size) (hq : q < w.heap.size)
    (hpc : w.cell? ⟨p, o, none⟩ = some (.slice a la ca)) (hqc : w.cell? ⟨q, r, none⟩ = some (.slice b lb cb)) (hx : Sl w a la xs) (hy : Sl w b lb ys) :
    Calls Try.prog 50 #[.pointer (some ⟨p, o, none⟩), .pointer (some ⟨q, r, none⟩)] w fun e w' => e = .returned (.int .i64 (both xs ys)) ∧ Below w.heap.size w w' := by
  by_cases hf : fault xs = 0
  · have hz : (fault xs == 0) = true := by simp [hf]
    rw [both_eq hf]
    clear hf
    go_enter Try.func50, Try.ntmps50
    go_wp2_with fail
    refine (l1FaultO_calls p o a la ca xs _ hla hp hpc hx).mono ?_
    rintro e w1 ⟨rfl, hb⟩
    have c1 := (hb.cell (p := ⟨q, r, none⟩) hq).trans hqc
    go_wp2_with fail
    refine (l1FaultO_calls q r b lb cb ys _ hlb (by have := hb.size; omega) c1 (hy.below hb (Nat.le_refl _))).mono ?_
    rintro e w2 ⟨rfl, hb2⟩
    go_wp2
    go_ret
    exact ⟨rfl, hb.trans (hb2.mono hb.size)⟩
  · have hz : (fault xs == 0) = false := by simp [hf]
    rw [both_ne hf]
    clear hf
    go_enter Try.func50, Try.ntmps50
    go_wp2_with fail
    refine (l1FaultO_calls p o a la ca xs _ hla hp hpc hx).mono ?_
    rintro e w1 ⟨rfl, hb⟩
    go_wp2
    go_ret
    exact ⟨rfl, hb⟩

set_option maxRecDepth 100000 in
theorem l13Fault_calls (P : Nat) (a : Option Addr) (n c : Nat) (z : List Int) (b : Option Addr) (m d : Nat) (y : List Int) (w : World) (h0 : w.cell? ⟨P, 0, none⟩ = some (.slice a n c)) (h1 : w.cell? ⟨P, 1, none⟩ = some (.slice b m d)) (hr : PR w a n z b m y) :
    Calls Try.prog 57 #[.pointer (some ⟨P, 0, none⟩)] w fun e w' => e = .returned (.int .i64 (psF z y)) ∧ Below w.heap.size w w' := by
  have hP : P < w.heap.size := World.block_lt_of_cell? _ _ h0
  obtain ⟨hn, hz, hm, hy⟩ := hr
  have HF := hide (l1BothO_calls P 0 P 1 a b n c m d z y w.drew hn hm hP hP h0 h1 (hz.below (Below.refl w.heap.size w).drew (Nat.le_refl _)) (hy.below (Below.refl w.heap.size w).drew (Nat.le_refl _)))
  by_cases hb : both z y = 0
  rotate_left
  · have HV := hide (psF_both hb)
    have e1 : (both z y != 0) = true := by simpa using hb
    clear hb
    go_enter Try.func57, Try.ntmps57
    go_upto_region 1 with fail
    go_cut [3] (fun v wd => v = .int .i64 (both z y) ∧ Below w.heap.size w wd)
    case first =>
      go_region_with (go_at_call 50; refine HF.out.mono ?_; rintro e w1 ⟨rfl, ga⟩; have hb := (Below.refl w.heap.size w).drew.trans ga; clear ga)
      all_goals go_wp2_with fail
      all_goals go_meet
      all_goals exact ⟨rfl, hb⟩
    case rest =>
    obtain ⟨rfl, g1⟩ := hcut
    have HB := hide g1
    clear g1
    go_wp2
    go_ret
    exact ⟨ret_int HV.out.symm, HB.out⟩
  have e1 : (both z y != 0) = false := by simp [hb]
  have HH := hide hb
  clear hb
  go_enter Try.func57, Try.ntmps57
  go_upto_region 1 with fail
  go_cut [3] (fun v wd => v = .int .i64 (both z y) ∧ Below w.heap.size w wd)
  case first =>
    go_region_with (go_at_call 50; refine HF.out.mono ?_; rintro e w1 ⟨rfl, ga⟩; have hb := (Below.refl w.heap.size w).drew.trans ga; clear ga)
    all_goals go_wp2_with fail
    all_goals go_meet
    all_goals exact ⟨rfl, hb⟩
  case rest =>
  obtain ⟨rfl, g1⟩ := hcut
  obtain ⟨w1, rfl⟩ : ∃ x, x = wc := ⟨wc, rfl⟩
  have c0 := (g1.cell (p := ⟨P, 0, none⟩) hP).trans h0
  have c1 := (g1.cell (p := ⟨P, 1, none⟩) hP).trans h1
  have hz1 := hz.below g1 (Nat.le_refl _)
  have hy1 := hy.below g1 (Nat.le_refl _)
  have hP1 : P < w1.heap.size := by have := g1.size; omega
  have HB := hide g1
  clear g1 h0 h1 hz hy
  go_wp2_with fail
  refine (l3Lowish_calls P 0 a n c z _ hn c0 hz1).mono ?_
  rintro e w2 ⟨rfl, rfl⟩
  cases hl : lowP z with
  | false =>
    have HV := hide (psF_form HH.out (by rw [hl]; rfl))
    clear hl
    go_wp2
    go_ret
    exact ⟨ret_int HV.out.symm, HB.out⟩
  | true =>
    have HL := hide hl
    clear hl
    go_wp2_with fail
    refine (l1OwnsO_calls P 1 b m d y _ hm hP1 c1 hy1).mono ?_
    rintro e w3 ⟨rfl, g3⟩
    have HB3 := hide (HB.out.trans (g3.mono HB.out.size))
    clear g3
    cases ho : has y 0 with
    | true =>
      have HV := hide (psF_form HH.out (by rw [ho]; simp))
      clear ho
      go_wp2
      go_ret
      exact ⟨ret_int HV.out.symm, HB3.out⟩
    | false =>
      have HV := hide (psF_ok HH.out (by rw [ho, HL.out]; rfl))
      clear ho
      go_wp2
      go_ret
      exact ⟨ret_int HV.out.symm, HB3.out⟩

set_option maxRecDepth 100000 in
theorem specPassFault_calls (a : Option Addr) (n c : Nat) (z : List Int) (b : Option Addr) (m d : Nat) (y : List Int) (w : World) (hr : PR w a n z b m y) :
    Calls Try.prog 19 #[.agg #[.slice a n c, .slice b m d]] w fun e w' => e = .returned (.int .i64 (psF z y)) ∧ Below w.heap.size w w' := by
  have M0 := (Mm.start w).allocC [.slice a n c, .slice b m d] 28
  have c0 := (M0.get 0 rfl).cell 0 rfl
  have c1 := (M0.get 0 rfl).cell 1 rfl
  have HB0 := hide M0.bel
  have HF := hide (l13Fault_calls _ a n c z b m d y _ c0 c1 (hr.below HB0.out (Nat.le_refl _)))
  clear c0 c1 M0
  go_enter Try.func19, Try.ntmps19
  go_wp2_with fail
  refine HF.out.mono ?_
  rintro e w1 ⟨rfl, g1⟩
  have HB := hide (HB0.out.trans (g1.mono HB0.out.size))
  clear g1 HF
  go_wp2
  go_ret
  exact ⟨rfl, HB.out⟩

theorem fault_len4 {a : Option Addr} {n : Nat} {zs : List Int} {w : World} (h : fault zs = 0) (hs : Sl w a n zs) : n = 4 := by have := fault_len h; have := hs.1; omega

set_option maxRecDepth 100000 in
theorem specMayEnter_calls (a : Option Addr) (n c : Nat) (z : List Int) (b : Option Addr) (m d : Nat) (y : List Int) (q : Option Addr) (l k : Nat) (x : List Int) (w : World) (hr : PR w a n z b m y) (hl : l ≤ maxLen) (hs : Sl w q l x) :
    Calls Try.prog 30 #[.agg #[.slice a n c, .slice b m d], .agg #[.slice q l k]] w fun e w' => e = .returned (.bool (meB z y x)) ∧ Below w.heap.size w w' := by
  have M0 := ((Mm.start w).allocC [.slice a n c, .slice b m d] 28).allocC [.slice q l k] 26
  simp only [World.size_alloc] at M0
  have c0 := (M0.get 1 rfl).cell 0 rfl
  have c1 := (M0.get 1 rfl).cell 1 rfl
  have HB0 := hide M0.bel
  have hr0 := hr.below HB0.out (Nat.le_refl _)
  have hs0 := hs.below HB0.out (Nat.le_refl _)
  have HF := hide (l13Fault_calls _ a n c z b m d y _ c0 c1 hr0)
  clear c0 c1 HB0 hr hs
  go_enter Try.func30, Try.ntmps30
  go_wp2_with fail
  refine HF.out.mono ?_
  rintro e w1 ⟨rfl, g1⟩
  have M1 := M0.below g1
  have hr1 := hr0.below g1 (Nat.le_refl _)
  have hs1 := hs0.below g1 (Nat.le_refl _)
  have lq := M1.bel.size
  have z1 := g1.size
  simp only [World.size_alloc] at z1
  have d0 := (M1.get 0 rfl).cell 0 rfl
  have HB := hide M1.bel
  clear g1 HF M0 hr0 hs0
  by_cases h1 : psF z y = 0
  rotate_left
  · have e1 : (psF z y == 0) = false := by simpa using h1
    have HV : Hid (meB z y x = false) := by show _ = _; unfold meB; rw [e1]; rfl
    clear h1 M1
    go_wp2
    go_ret
    exact ⟨ret_bool HV.out.symm, HB.out⟩
  have e1 : (psF z y == 0) = true := by simp [h1]
  have fz := (psF_zero h1).1
  have fy := (psF_zero h1).2
  have HV1 : Hid (meB z y x = ((fault x == 0) && belowB x y)) := by show _ = _; unfold meB; rw [e1]; rfl
  clear h1
  go_wp2_with fail
  refine (l1FaultO_calls _ 0 q l k x _ hl (by omega) d0 hs1).mono ?_
  rintro e w2 ⟨rfl, g2⟩
  have M2 := M1.below g2
  have hr2 := hr1.below g2 (Nat.le_refl _)
  have hs2 := hs1.below g2 (Nat.le_refl _)
  have z2 := g2.size
  have HB2 := hide M2.bel
  clear g2 M1 HB hr1 hs1 d0
  by_cases h2 : fault x = 0
  rotate_left
  · have e2 : (fault x == 0) = false := by simpa using h2
    have HV : Hid (meB z y x = false) := by show _ = _; rw [HV1.out, e2]; rfl
    clear h2 M2
    go_wp2
    go_ret
    exact ⟨ret_bool HV.out.symm, HB2.out⟩
  have e2 : (fault x == 0) = true := by simp [h2]
  have HV : Hid (meB z y x = belowB x y) := by show _ = _; rw [HV1.out, e2]; rfl
  obtain rfl := fault_len4 h2 hs2
  obtain rfl := fault_len4 fy hr2.hy
  have d0 := (M2.get 0 rfl).cell 0 rfl
  have c1 := (M2.get 1 rfl).cell 1 rfl
  clear h2 fz fy M2 HV1
  go_wp2_with fail
  refine (l1BelowO_calls _ 0 _ 1 q b k d x y _ (by omega) (by omega) d0 c1 hs2 hr2.hy).mono ?_
  rintro e w3 ⟨rfl, g3⟩
  have HB3 := hide (HB2.out.trans (g3.mono HB2.out.size))
  clear g3
  go_wp2
  go_ret
  exact ⟨ret_bool HV.out.symm, HB3.out⟩

end Go.Proofs.Ytdcfdmcooonfkaa
