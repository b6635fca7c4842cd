import Derived.Test.YtnlkigjgloeonaaGreatLabelsAt
import Derived.Test.YtnlkigjgloeonaaGreatSpecReg
import Derived.Test.YtnlkigjgloeonaaGreatQs
import Derived.WalkKit
import Derived.ProofKit
import Derived.OpenShut
import Derived.ShutString
import Derived.ChangeOld
import Derived.Below
import Derived.WalkSpells
import Derived.Deep.QuietTactic
import Derived.BigQuiet
import Derived.Deep.RegionWith
import Derived.Deep.WholeRow
import Derived.Deep.DeepCutAuto
import Derived.Deep.RegionHeld2
import Derived.Deep.AppendLies
import Derived.Deep.RegionLaw
namespace Go.Proofs.YtnlkigjgloeonaaGreat
open Go.ChangeShapes Go.WideShapes Go.ChangeAt Go.RowKit

set_option maxRecDepth 100000 in
theorem l1ThingO_calls (p o : Nat) (a : Option Addr) (n cap : Nat) (zs : List Int) (w : World) (hn : n ≤ maxLen) (hpc : w.cell? ⟨p, o, none⟩ = some (.slice a n cap)) (hs : Sl w a n zs) :
    Calls Tryz.prog 53 #[.pointer (some ⟨p, o, none⟩)] w fun e w' => e = .returned (.bool (thing0 zs)) ∧ w' = w := by
  unfold maxLen at hn
  obtain ⟨hlen, hs⟩ := hs
  go_enter Tryz.func53, Tryz.ntmps53
  go_wp2
  go_loop [3] (fun i => ∃ k : Nat, k ≤ n ∧ i = .int .i64 k ∧ ∀ j, j < k → gt zs j ≠ 0 ∧ gt zs j ≠ 5) (fun i => n - (intOf i).toNat)
  case atStart => exact ⟨0, Nat.zero_le _, rfl, fun j hj => by omega⟩
  case round =>
    obtain ⟨k, hk, rfl, hall⟩ := hrel
    have Hall : Hid (∀ j, j < k → gt zs j ≠ 0 ∧ gt zs j ≠ 5) := hall
    clear hall
    by_cases hlt : k < n
    · obtain ⟨b, off, rfl, hb, hc⟩ := hs (by omega)
      have hck := hc k hlt
      by_cases he : gt zs k = 0
      · have hq : (gt zs k == 0) = true := by simp [he]
        have He := hide he
        clear he
        go_wp2
        go_ret
        exact ⟨ret_bool (thing0_no (k := k) (by omega) (.inl He.out)).symm, rfl⟩
      · have hq : (gt zs k == 0) = false := by simp [he]
        have He := hide he
        clear he
        by_cases h5 : gt zs k = 5
        · have hq5 : (gt zs k == 5) = true := by simp [h5]
          have H5 := hide h5
          clear h5
          go_wp2
          go_ret
          exact ⟨ret_bool (thing0_no (k := k) (by omega) (.inr H5.out)).symm, rfl⟩
        · have hq5 : (gt zs k == 5) = false := by simp [h5]
          have H5 := hide h5
          clear h5
          go_wp2
          go_round
          case rel => exact ⟨k + 1, by omega, by go_num, fun j hj => by (by_cases e : j = k); (subst e; exact ⟨He.out, H5.out⟩); exact Hall.out j (by omega)⟩
          case measure => simp [intOf]; omega
    · go_wp2
      go_ret
      exact ⟨ret_bool (thing0_yes (fun j hj => Hall.out j (by omega))).symm, rfl⟩

set_option maxRecDepth 100000 in
theorem l3Lowish_calls (p o : Nat) (a : Option Addr) (n cap : Nat) (zs : List Int) (w : World) (hn : n ≤ maxLen) (hpc : w.cell? ⟨p, o, none⟩ = some (.slice a n cap)) (hs : Sl w a n zs) :
    Calls Tryz.prog 144 #[.pointer (some ⟨p, o, none⟩)] w fun e w' => e = .returned (.bool (lowB zs)) ∧ w' = w := by
  unfold maxLen at hn
  obtain ⟨hlen, hs⟩ := hs
  go_enter Tryz.func144, Tryz.ntmps144
  go_wp2
  go_loop [3] (fun i => ∃ k : Nat, k ≤ n ∧ i = .int .i64 k ∧ ∀ j, j < k → gt zs j ≠ 5) (fun i => n - (intOf i).toNat)
  case atStart => exact ⟨0, Nat.zero_le _, rfl, fun j hj => by omega⟩
  case round =>
    obtain ⟨k, hk, rfl, hall⟩ := hrel
    have Hall : Hid (∀ j, j < k → gt zs j ≠ 5) := hall
    clear hall
    by_cases hlt : k < n
    · obtain ⟨b, off, rfl, hb, hc⟩ := hs (by omega)
      have hck := hc k hlt
      by_cases h5 : gt zs k = 5
      · have hq5 : (gt zs k == 5) = true := by simp [h5]
        have HF : Hid (lowB zs = false) := by show lowB zs = false; simp only [lowB]; rw [has_yes (k := k) (by omega) h5]; rfl
        clear h5
        go_wp2
        go_ret
        exact ⟨ret_bool HF.out.symm, rfl⟩
      · have hq5 : (gt zs k == 5) = false := by simp [h5]
        have H5 := hide h5
        clear h5
        go_wp2
        go_round
        case rel => exact ⟨k + 1, by omega, by go_num, fun j hj => by (by_cases e : j = k); (subst e; exact H5.out); exact Hall.out j (by omega)⟩
        case measure => simp [intOf]; omega
    · have HT : Hid (lowB zs = true) := by show lowB zs = true; simp only [lowB]; rw [has_no (fun j hj => Hall.out j (by omega))]; rfl
      go_wp2
      go_ret
      exact ⟨ret_bool HT.out.symm, rfl⟩

set_option maxRecDepth 100000 in
theorem l3Count_calls (a : Option Addr) (n cap : Nat) (zs : List Int) (i : Nat) (w : World) (hn : n ≤ 10) (hs : Sl w a n zs) :
    Calls Tryz.prog 117 #[.slice a n cap, .int .i64 (i : Int)] w fun e w' => e = .returned (.int .i64 (cnt zs i)) ∧ w' = w := by
  obtain ⟨hlen, hs⟩ := hs
  go_enter Tryz.func117, Tryz.ntmps117
  go_wp2
  go_loop [6, 5] (fun x y => ∃ k : Nat, k ≤ n ∧ x = .int .i64 k ∧ y = .int .i64 (cnt (zs.take k) i)) (fun x _ => n - (intOf x).toNat)
  case atStart => exact ⟨0, Nat.zero_le _, rfl, by simp [cnt]⟩
  case round =>
    obtain ⟨k, hk, rfl, rfl⟩ := hrel
    have hcl := cnt_le (zs.take k) i
    have hcl2 : cnt (zs.take k) i ≤ 10 := by have := hcl.2; rw [List.length_take] at this; omega
    have hcl1 := hcl.1
    clear hcl
    by_cases hlt : k < n
    · obtain ⟨b, off, rfl, hb, hc⟩ := hs (by omega)
      have hck := hc k hlt
      have Hs := hide (cnt_take zs k i (by omega))
      by_cases he : gt zs k = (i : Int)
      · have hq : (gt zs k == (i : Int)) = true := by simp [he]
        have HE : Hid (cnt (zs.take (k + 1)) i = cnt (zs.take k) i + 1) := by show _ = _; rw [Hs.out, if_pos he]
        clear he
        go_wp2
        go_round
        case rel => exact ⟨k + 1, by omega, by go_num, by rw [HE.out]⟩
        case measure => simp [intOf]; omega
      · have hq : (gt zs k == (i : Int)) = false := by simp [he]
        have HE : Hid (cnt (zs.take (k + 1)) i = cnt (zs.take k) i) := by show _ = _; rw [Hs.out, if_neg he]; omega
        clear he
        go_wp2
        go_round
        case rel => exact ⟨k + 1, by omega, by go_num, by rw [HE.out]⟩
        case measure => simp [intOf]; omega
    · have HE : Hid (cnt (zs.take k) i = cnt zs i) := by show _ = _; rw [List.take_of_length_le (by omega)]
      go_wp2
      go_ret
      exact ⟨ret_int HE.out, rfl⟩

theorem okS_out {ss : List (Int × List Int)} {s : Int} (h : ¬ (0 ≤ s ∧ s ≤ (ss.length : Int) - 1)) : okS ss s = false := by
  unfold okS atC
  rw [if_pos (by omega)]
  rfl

theorem okS_in {ss : List (Int × List Int)} {q : Nat} (h : q < ss.length) (hl : 0 ≤ gc ss q) : okS ss (q : Int) = decide (0 < gc ss q) := by
  unfold okS
  rw [atC_in h]
  by_cases h0 : gc ss q = 0
  · rw [if_pos h0, h0]; rfl
  · rw [if_neg h0]
    simp
    omega

set_option maxRecDepth 100000 in
theorem l3Slot_calls (p : Nat) (a : Option Addr) (n ca : Nat) (ss : List (Int × List Int)) (s : Int) (w : World) (good : Good ss) (hp : p < w.heap.size) (hpc : w.cell? ⟨p, 0, none⟩ = some (.slice a n ca)) (hx : Sls w a n ss) :
    Calls Tryz.prog 143 #[.pointer (some ⟨p, 0, none⟩), .int .i64 s] w fun e w' => e = .returned (.bool (okS ss s)) ∧ Below w.heap.size w w' := by
  have hlen := hx.1
  have few := good.few
  by_cases hin : 0 ≤ s ∧ s ≤ (n : Int) - 1
  · obtain ⟨q, rfl⟩ : ∃ q : Nat, s = (q : Int) := ⟨s.toNat, by omega⟩
    have hq : q < n := by omega
    have hd : (decide ((0 : Int) ≤ (q : Int)) && decide ((q : Int) ≤ (n : Int) - 1)) = true := by simp; omega
    obtain ⟨b1, o1, rfl, hb1, hc1⟩ := hx.2 (by omega)
    have k0 := (hc1 q hq).1
    have HO := hide (okS_in (ss := ss) (q := q) (by omega) (good.low q (by omega)))
    have i1 : (q : Int) < (n : Int) := by omega
    go_enter Tryz.func143, Tryz.ntmps143
    go_wp2_with fail
    refine (in_calls _ _ _ _).mono ?_
    rintro e w1 ⟨rfl, g1⟩
    rw [hd]
    have c1 := (g1.cell (p := ⟨p, 0, none⟩) hp).trans hpc
    have k1 := (g1.cell (p := ⟨b1, o1 + q * 2, none⟩) hb1).trans k0
    clear hx hc1 k0 hpc
    go_wp2
    all_goals go_ret
    all_goals exact ⟨ret_bool (by rw [HO.out]; try (first | (simp; done) | (simp; omega))), g1⟩
  · have hd : (decide ((0 : Int) ≤ s) && decide (s ≤ (n : Int) - 1)) = false := by simp; omega
    have HO := hide (okS_out (ss := ss) (s := s) (by omega))
    clear hin
    go_enter Tryz.func143, Tryz.ntmps143
    go_wp2_with fail
    refine (in_calls _ _ _ _).mono ?_
    rintro e w1 ⟨rfl, g1⟩
    rw [hd]
    go_wp2
    go_ret
    exact ⟨ret_bool HO.out.symm, g1⟩

set_option maxRecDepth 100000 in
theorem l3Slots_calls (p : Nat) (a : Option Addr) (n ca : Nat) (ss : List (Int × List Int)) (ta : Option Addr) (tl tc : Nat) (ts : List Int) (w : World) (good : Good ss) (htl : tl ≤ 10) (hp : p < w.heap.size) (hpc : w.cell? ⟨p, 0, none⟩ = some (.slice a n ca)) (hx : Sls w a n ss) (ht : Sl w ta tl ts) :
    Calls Tryz.prog 115 #[.pointer (some ⟨p, 0, none⟩), .slice ta tl tc] w fun e w' => e = .returned (.bool (allS ss ts)) ∧ Below w.heap.size w w' := by
  obtain ⟨hlen, ht⟩ := ht
  go_enter Tryz.func115, Tryz.ntmps115
  go_wp2
  go_loopw [5] (fun i wr => ∃ k : Nat, k ≤ tl ∧ i = .int .i64 k ∧ Below w.heap.size w wr ∧ ∀ j, j < k → okS ss (gt ts j) = true) (fun i _ => tl - (intOf i).toNat)
  case atStart => exact ⟨0, Nat.zero_le _, rfl, Below.refl _ _, fun j hj => by omega⟩
  case round =>
    obtain ⟨k, hk, rfl, hbel, hall⟩ := hrel
    have Hall := hide hall
    clear hall
    by_cases hlt : k < tl
    · obtain ⟨b, off, rfl, hbb, hc⟩ := ht (by omega)
      have hck := (hbel.cell (p := ⟨b, off + k, none⟩) hbb).trans (hc k hlt)
      have hpr := (hbel.cell (p := ⟨p, 0, none⟩) hp).trans hpc
      have hxr := hx.below hbel (Nat.le_refl _)
      have hpl : p < wr.heap.size := by have := hbel.size; omega
      cases ho : okS ss (gt ts k) with
      | true =>
        have Ho := hide ho
        go_wp2_with fail
        refine (l3Slot_calls p a n ca ss (gt ts k) _ good hpl hpr hxr).mono ?_
        rintro e w1 ⟨rfl, g1⟩
        rw [ho]
        have HE := hide (hbel.trans (g1.mono hbel.size))
        clear g1 ho hpr hxr
        go_wp2
        go_roundw
        case rel => exact ⟨k + 1, by omega, by go_num, HE.out, fun j hj => by (by_cases e : j = k); (subst e; exact Ho.out); exact Hall.out j (by omega)⟩
        case measure => simp [intOf]; omega
      | false =>
        have HF : Hid (allS ss ts = false) := all_hit (d := 0) (j := k) (by omega) ho
        go_wp2_with fail
        refine (l3Slot_calls p a n ca ss (gt ts k) _ good hpl hpr hxr).mono ?_
        rintro e w1 ⟨rfl, g1⟩
        rw [ho]
        have HE := hide (hbel.trans (g1.mono hbel.size))
        clear g1 ho hpr hxr
        go_wp2
        go_ret
        exact ⟨ret_bool HF.out.symm, HE.out⟩
    · have HT : Hid (allS ss ts = true) := all_pre (d := 0) (fun j hj => Hall.out j (by omega))
      go_wp2
      go_ret
      exact ⟨ret_bool HT.out.symm, hbel⟩

theorem allS_at {ss : List (Int × List Int)} (good : Good ss) {l : List Int} (h : allS ss l = true) {j : Nat} (hj : j < l.length) : ∃ q : Nat, gt l j = (q : Int) ∧ q < ss.length ∧ 0 < gc ss q ∧ atL ss (gt l j) = gl ss q := by
  obtain ⟨q, hq, hl⟩ := allS_lt h hj
  have h1 : okS ss (gt l j) = true := by have := all_get (d := 0) h hj; simpa [gt] using this
  have hp : 0 < gc ss q := by
    rw [hq, okS_in hl (good.low q hl)] at h1
    simpa using h1
  refine ⟨q, hq, hl, hp, ?_⟩
  rw [hq]
  refine atL_yes ?_
  rw [atC_in hl, if_neg (by omega)]

theorem thing_eq {zs : List Int} (h : fault zs = 0) : thingB zs = thing0 zs := by
  unfold thingB thing0
  rw [h]
  simp

theorem q3_cell {W X : World} {A0 A1 A2 : Addr} {v0 v1 v2 : Value} (h : X.cell? A0 = some v0 ∧ X.cell? A1 = some v1 ∧ X.cell? A2 = some v2 ∧ Below W.heap.size W X) {k o : Nat} {v : Value} (hk : k < W.heap.size) (hc : W.cell? ⟨k, o, none⟩ = some v) : X.cell? ⟨k, o, none⟩ = some v := ((q3_bel h).cell (p := ⟨k, o, none⟩) hk).trans hc

set_option maxRecDepth 100000 in
set_option maxHeartbeats 2000000 in
theorem l3Labels_calls (p : Nat) (a : Option Addr) (n ca : Nat) (ss : List (Int × List Int)) (ta da : Option Addr) (tl tc dl dc : Nat) (ts ds : List Int) (w : World) (good : Good ss) (htl : tl ≤ 10) (hdl : dl ≤ 10)
    (hp : p < w.heap.size) (hpc : w.cell? ⟨p, 0, none⟩ = some (.slice a n ca)) (hpt : w.cell? ⟨p, 1, none⟩ = some (.slice ta tl tc)) (hpd : w.cell? ⟨p, 2, none⟩ = some (.slice da dl dc)) (hx : Sls w a n ss) (ht : Sl w ta tl ts) (hd : Sl w da dl ds) (h1 : allS ss ts = true) (h2 : allS ss ds = true) :
    Calls Tryz.prog 116 #[.pointer (some ⟨p, 0, none⟩)] w fun e w' => e = .returned (.bool (thingsB (labs ss ts) && lowsB (labs ss ds))) ∧ Below w.heap.size w w' := by
  have hlen := hx.1
  have few := good.few
  have htlen := ht.1
  have hdlen := hd.1
  go_enter Tryz.func116, Tryz.ntmps116
  go_wp2
  go_loopw [3] (fun i wr => ∃ k : Nat, k ≤ tl ∧ i = .int .i64 k ∧ Below w.heap.size w wr ∧ ∀ j, j < k → thingB ((labs ss ts).getD j []) = true) (fun i _ => tl - (intOf i).toNat)
  case atStart => exact ⟨0, Nat.zero_le _, rfl, Below.refl _ _, fun j hj => by omega⟩
  case round =>
    obtain ⟨k, hk, rfl, hbel, hall⟩ := hrel
    have Hall := hide hall
    clear hall
    by_cases hlt : k < tl
    · obtain ⟨b, off, rfl, hbb, hc⟩ := ht.2 (by omega)
      obtain ⟨q, hq, hql, hqp, hql2⟩ := allS_at good h1 (j := k) (by omega)
      have hck0 := hc k hlt
      rw [hq] at hck0
      obtain ⟨b1, o1, rfl, hb1, hc1⟩ := hx.2 (by omega)
      obtain ⟨_, la, ll, lc, k1, kl, ksl⟩ := hc1 q (by omega)
      have i0 : (0 : Int) ≤ (q : Int) := by omega
      have i1 : (q : Int) < (n : Int) := by omega
      have j0 : (0 : Int) ≤ (k : Int) := by omega
      have j1 : (k : Int) < (tl : Int) := by omega
      have hpr := (hbel.cell (p := ⟨p, 0, none⟩) hp).trans hpc
      have hptr := (hbel.cell (p := ⟨p, 1, none⟩) hp).trans hpt
      have hck := (hbel.cell (p := ⟨b, off + k, none⟩) hbb).trans hck0
      have HK := hide ((hbel.cell (p := ⟨b1, o1 + q * 2 + 1, none⟩) hb1).trans k1)
      have HS := hide (ksl.below hbel (Nat.le_refl _))
      have lb1 : b1 < wr.heap.size := by have := hbel.size; omega
      have HS0 : Hid (wr.drew.cell? ⟨p, 0, none⟩ = some (.slice (some ⟨b1, o1, none⟩) n ca) ∧ wr.drew.cell? ⟨p, 1, none⟩ = some (.slice (some ⟨b, off, none⟩) tl tc) ∧ wr.drew.cell? ⟨b, off + k, none⟩ = some (.int .i64 (q : Int)) ∧ Below wr.heap.size wr wr.drew) := ⟨hpr, hptr, hck, (Below.refl _ _).drew⟩
      have Hg : Hid ((labs ss ts).getD k [] = gl ss q) := by show _ = _; rw [getD_labs ss ts k (by omega)]; exact hql2
      have hth := thing_eq (good.right q hql hqp)
      clear k1 ksl hc1 hc hck0
      cases htb : thing0 (gl ss q) with
      | true =>
        have Ht : Hid (thingB ((labs ss ts).getD k []) = true) := by show _ = _; rw [Hg.out, hth, htb]
        go_wp2_with fail
        clear hpr hptr hck
        go_region_held2 (fun w' => w'.cell? ⟨p, 0, none⟩ = some (.slice (some ⟨b1, o1, none⟩) n ca) ∧ w'.cell? ⟨p, 1, none⟩ = some (.slice (some ⟨b, off, none⟩) tl tc) ∧ w'.cell? ⟨b, off + k, none⟩ = some (.int .i64 (q : Int)) ∧ Below wr.heap.size wr w')
          (first | with_reducible exact HS0.out | with_reducible assumption)
          (first
            | (go_at_call 53; refine (l1ThingO_calls b1 _ la ll lc (gl ss q) _ kl ?_ ?_).mono ?_; exact q3_cell (by with_reducible assumption) lb1 HK.out; exact HS.out.below (q3_bel (by with_reducible assumption)) (Nat.le_refl _); rintro e v1 ⟨rfl, rfl⟩; rw [htb]; have hs1 := q3_bel (W := wr) (by with_reducible assumption)))
        have HE := hide (hbel.trans (hs1.mono hbel.size))
        clear hs1 HS0 HS HK hbel
        go_wp2
        go_roundw
        case rel => exact ⟨k + 1, by omega, by go_num, HE.out, fun j hj => by (by_cases e : j = k); (subst e; exact Ht.out); exact Hall.out j (by omega)⟩
        case measure => simp [intOf]; omega
      | false =>
        have HF : Hid (thingsB (labs ss ts) = false) := all_hit (d := []) (j := k) (by simp [labs]; omega) (by rw [Hg.out, hth, htb])
        go_wp2_with fail
        clear hpr hptr hck
        go_region_held2 (fun w' => w'.cell? ⟨p, 0, none⟩ = some (.slice (some ⟨b1, o1, none⟩) n ca) ∧ w'.cell? ⟨p, 1, none⟩ = some (.slice (some ⟨b, off, none⟩) tl tc) ∧ w'.cell? ⟨b, off + k, none⟩ = some (.int .i64 (q : Int)) ∧ Below wr.heap.size wr w')
          (first | with_reducible exact HS0.out | with_reducible assumption)
          (first
            | (go_at_call 53; refine (l1ThingO_calls b1 _ la ll lc (gl ss q) _ kl ?_ ?_).mono ?_; exact q3_cell (by with_reducible assumption) lb1 HK.out; exact HS.out.below (q3_bel (by with_reducible assumption)) (Nat.le_refl _); rintro e v1 ⟨rfl, rfl⟩; rw [htb]; have hs1 := q3_bel (W := wr) (by with_reducible assumption)))
        have HE := hide (hbel.trans (hs1.mono hbel.size))
        clear hs1 HS0 HS HK hbel
        go_wp2
        go_ret
        exact ⟨ret_bool (by rw [HF.out]; simp), HE.out⟩
    · have HT : Hid (thingsB (labs ss ts) = true) := all_pre (d := []) (fun j hj => Hall.out j (by simp [labs] at hj; omega))
      have hpr := (hbel.cell (p := ⟨p, 1, none⟩) hp).trans hpt
      have HB := hide hbel
      clear Hall hbel
      go_wp2
      clear hpr
      go_loopw [4] (fun i wr => ∃ k : Nat, k ≤ dl ∧ i = .int .i64 k ∧ Below w.heap.size w wr ∧ ∀ j, j < k → lowB ((labs ss ds).getD j []) = true) (fun i _ => dl - (intOf i).toNat)
      case atStart => exact ⟨0, Nat.zero_le _, rfl, HB.out, fun j hj => by omega⟩
      case round =>
        clear HB
        obtain ⟨k2, hk2, rfl, hbel, hall⟩ := hrel
        have Hall := hide hall
        clear hall
        by_cases hlt : k2 < dl
        · obtain ⟨b, off, rfl, hbb, hc⟩ := hd.2 (by omega)
          obtain ⟨q, hq, hql, hqp, hql2⟩ := allS_at good h2 (j := k2) (by omega)
          have hck0 := hc k2 hlt
          rw [hq] at hck0
          obtain ⟨b1, o1, rfl, hb1, hc1⟩ := hx.2 (by omega)
          obtain ⟨_, la, ll, lc, k1, kl, ksl⟩ := hc1 q (by omega)
          have i0 : (0 : Int) ≤ (q : Int) := by omega
          have i1 : (q : Int) < (n : Int) := by omega
          have j0 : (0 : Int) ≤ (k2 : Int) := by omega
          have j1 : (k2 : Int) < (dl : Int) := by omega
          have hpr := (hbel.cell (p := ⟨p, 0, none⟩) hp).trans hpc
          have hptr := (hbel.cell (p := ⟨p, 2, none⟩) hp).trans hpd
          have hck := (hbel.cell (p := ⟨b, off + k2, none⟩) hbb).trans hck0
          have HK := hide ((hbel.cell (p := ⟨b1, o1 + q * 2 + 1, none⟩) hb1).trans k1)
          have HS := hide (ksl.below hbel (Nat.le_refl _))
          have lb1 : b1 < wr.heap.size := by have := hbel.size; omega
          have HS0 : Hid (wr.drew.cell? ⟨p, 0, none⟩ = some (.slice (some ⟨b1, o1, none⟩) n ca) ∧ wr.drew.cell? ⟨p, 2, none⟩ = some (.slice (some ⟨b, off, none⟩) dl dc) ∧ wr.drew.cell? ⟨b, off + k2, none⟩ = some (.int .i64 (q : Int)) ∧ Below wr.heap.size wr wr.drew) := ⟨hpr, hptr, hck, (Below.refl _ _).drew⟩
          have Hg : Hid ((labs ss ds).getD k2 [] = gl ss q) := by show _ = _; rw [getD_labs ss ds k2 (by omega)]; exact hql2
          clear k1 ksl hc1 hc hck0
          cases htb : lowB (gl ss q) with
          | true =>
            have Ht : Hid (lowB ((labs ss ds).getD k2 []) = true) := by show _ = _; rw [Hg.out, htb]
            go_wp2_with fail
            clear hpr hptr hck
            go_region_held2 (fun w' => w'.cell? ⟨p, 0, none⟩ = some (.slice (some ⟨b1, o1, none⟩) n ca) ∧ w'.cell? ⟨p, 2, none⟩ = some (.slice (some ⟨b, off, none⟩) dl dc) ∧ w'.cell? ⟨b, off + k2, none⟩ = some (.int .i64 (q : Int)) ∧ Below wr.heap.size wr w')
              (first | with_reducible exact HS0.out | with_reducible assumption)
              (first
                | (go_at_call 144; refine (l3Lowish_calls b1 _ la ll lc (gl ss q) _ kl ?_ ?_).mono ?_; exact q3_cell (by with_reducible assumption) lb1 HK.out; exact HS.out.below (q3_bel (by with_reducible assumption)) (Nat.le_refl _); rintro e v1 ⟨rfl, rfl⟩; rw [htb]; have hs1 := q3_bel (W := wr) (by with_reducible assumption)))
            have HE := hide (hbel.trans (hs1.mono hbel.size))
            clear hs1 HS0 HS HK hbel
            go_wp2
            go_roundw
            case rel => exact ⟨k2 + 1, by omega, by go_num, HE.out, fun j hj => by (by_cases e : j = k2); (subst e; exact Ht.out); exact Hall.out j (by omega)⟩
            case measure => simp [intOf]; omega
          | false =>
            have HF : Hid (lowsB (labs ss ds) = false) := all_hit (d := []) (j := k2) (by simp [labs]; omega) (by rw [Hg.out, htb])
            go_wp2_with fail
            clear hpr hptr hck
            go_region_held2 (fun w' => w'.cell? ⟨p, 0, none⟩ = some (.slice (some ⟨b1, o1, none⟩) n ca) ∧ w'.cell? ⟨p, 2, none⟩ = some (.slice (some ⟨b, off, none⟩) dl dc) ∧ w'.cell? ⟨b, off + k2, none⟩ = some (.int .i64 (q : Int)) ∧ Below wr.heap.size wr w')
              (first | with_reducible exact HS0.out | with_reducible assumption)
              (first
                | (go_at_call 144; refine (l3Lowish_calls b1 _ la ll lc (gl ss q) _ kl ?_ ?_).mono ?_; exact q3_cell (by with_reducible assumption) lb1 HK.out; exact HS.out.below (q3_bel (by with_reducible assumption)) (Nat.le_refl _); rintro e v1 ⟨rfl, rfl⟩; rw [htb]; have hs1 := q3_bel (W := wr) (by with_reducible assumption)))
            have HE := hide (hbel.trans (hs1.mono hbel.size))
            clear hs1 HS0 HS HK hbel
            go_wp2
            go_ret
            exact ⟨ret_bool (by rw [HF.out]; simp), HE.out⟩
        · have HL : Hid (lowsB (labs ss ds) = true) := all_pre (d := []) (fun j hj => Hall.out j (by simp [labs] at hj; omega))
          have hpr := (hbel.cell (p := ⟨p, 2, none⟩) hp).trans hpd
          go_wp2
          go_ret
          exact ⟨ret_bool (by rw [HT.out, HL.out]; rfl), hbel⟩

end Go.Proofs.YtnlkigjgloeonaaGreat
