import Derived.Test.YtnlkigjgloeonaaGreatLabelsAt
import Derived.WalkKit
import Derived.ProofKit
import Derived.OpenShut
import Derived.ShutString
import Derived.ChangeOld
import Derived.Below
import Derived.WalkSpells
import Derived.Deep.QuietTactic
import Derived.BigQuiet
import Derived.Deep.RegionWith
import Derived.Deep.WholeRow
import Derived.Deep.DeepCutAuto
import Derived.Deep.RegionHeld2
import Derived.Deep.AppendLies
import Derived.Deep.RegionLaw
namespace Go.Proofs.YtnlkigjgloeonaaGreat
open Go.ChangeShapes Go.WideShapes Go.ChangeAt Go.RowKit

set_option maxRecDepth 100000 in
set_option maxHeartbeats 1000000 in
theorem isCountedRight_calls (P M n : Nat) (ss : List (Int × List Int)) (D : DataW Unit) (ta da : Option Addr) (tl tc dl dc : Nat) (ts ds : List Int) (w : World) (hb : Bk w P M (ss.length : Int) n D) (good : Good ss) (rep : Rep ss D)
    (ct : w.cell? ⟨P, 2, none⟩ = some (.slice ta tl tc)) (cd : w.cell? ⟨P, 3, none⟩ = some (.slice da dl dc)) (hts : Sl w ta tl ts) (hds : Sl w da dl ds) (htl : tl ≤ 10) (hdl : dl ≤ 10) (at1 : allS ss ts = true) (at2 : allS ss ds = true) :
    Calls Tryz.prog 153 #[.pointer (some ⟨P, 0, none⟩)] w fun e w' => e = .returned (.bool (cntB ss ts ds)) ∧ Below w.heap.size w w' := by
  have few := good.few
  have hP := hb.lt
  have htlen := hts.1
  have hdlen := hds.1
  have hb0 := fun o => (Below.refl w.heap.size w).alloc (Nat.le_refl _) o
  go_enter Tryz.func153, Tryz.ntmps153
  go_wp2
  go_loopw [15] (fun i wr => ∃ k : Nat, k ≤ tl ∧ i = .int .i64 k ∧ Below w.heap.size w wr ∧ TRow wr w.heap.size (fun j => cnt (ts.take k) j)) (fun i _ => tl - (intOf i).toNat)
  case atStart =>
    refine ⟨0, Nat.zero_le _, rfl, hb0 _, by simp, fun j hj => ?_, fun j => by go_simp⟩
    rw [World.cell?_alloc_at _ _ _ _ rfl]
    rcases (by omega : j = 0 ∨ j = 1 ∨ j = 2 ∨ j = 3 ∨ j = 4 ∨ j = 5 ∨ j = 6 ∨ j = 7 ∨ j = 8 ∨ j = 9) with rfl | rfl | rfl | rfl | rfl | rfl | rfl | rfl | rfl | rfl <;> rfl
  case round =>
    obtain ⟨k, hk, rfl, hbel, hrow⟩ := hrel
    by_cases hlt : k < tl
    · obtain ⟨b, off, rfl, hbb, hc⟩ := hts.2 (by omega)
      have hck := (hbel.cell (p := ⟨b, off + k, none⟩) hbb).trans (hc k hlt)
      obtain ⟨q, hq, hql⟩ := allS_lt at1 (j := k) (by omega)
      rw [hq] at hck
      have hq10 : q < 10 := by omega
      have hv := hrow.2.1 q hq10
      have hfz := hrow.2.2 q
      have hcl := cnt_le (ts.take k) q
      have hcl2 : cnt (ts.take k) q ≤ 10 := by have := hcl.2; rw [List.length_take] at this; omega
      have hcl1 := hcl.1
      have i0 : (0 : Int) ≤ (q : Int) := by omega
      have i1 : (q : Int) < 10 := by omega
      have HR := hide (hrow.set hq10 (x := cnt (ts.take k) q + 1) (f' := fun j => cnt (ts.take (k + 1)) j) (fun j hj => by
        rw [cnt_take ts k j (by omega), hq]
        by_cases e : j = q
        · subst e; rw [if_pos rfl, if_pos rfl]
        · rw [if_neg e, if_neg (by omega)]; simp))
      have HB := hide (hbel.setCell (p := ⟨w.heap.size, q, none⟩) (Nat.le_refl _) (.int .i64 (cnt (ts.take k) q + 1)))
      clear hrow hbel hcl
      go_wp2
      go_roundw
      case rel => exact ⟨k + 1, by omega, by go_num, HB.out, HR.out⟩
      case measure => simp [intOf]; omega
    · have hkn : k = tl := by omega
      subst hkn
      rw [show ts.take k = ts from List.take_of_length_le (by omega)] at hrow
      have cdr := (hbel.cell (p := ⟨P, 3, none⟩) hP).trans cd
      have HB := hide hbel
      have HR := hide hrow
      clear hbel hrow
      go_wp2
      clear cdr
      go_loopw [30] (fun i wr => ∃ k : Nat, k ≤ dl ∧ i = .int .i64 k ∧ Below w.heap.size w wr ∧ TRow wr w.heap.size (fun j => cnt ts j + cnt (ds.take k) j)) (fun i _ => dl - (intOf i).toNat)
      case atStart => exact ⟨0, Nat.zero_le _, rfl, HB.out, HR.out.1, fun j hj => by rw [HR.out.2.1 j hj]; simp [cnt], HR.out.2.2⟩
      case round =>
        clear HB HR
        obtain ⟨k2, hk, rfl, hbel, hrow⟩ := hrel
        by_cases hlt : k2 < dl
        · obtain ⟨b, off, rfl, hbb, hc⟩ := hds.2 (by omega)
          have hck := (hbel.cell (p := ⟨b, off + k2, none⟩) hbb).trans (hc k2 hlt)
          obtain ⟨q, hq, hql⟩ := allS_lt at2 (j := k2) (by omega)
          rw [hq] at hck
          have hq10 : q < 10 := by omega
          have hv := hrow.2.1 q hq10
          have hfz := hrow.2.2 q
          have hcl := cnt_le (ds.take k2) q
          have hcl2 : cnt (ds.take k2) q ≤ 10 := by have := hcl.2; rw [List.length_take] at this; omega
          have hcl1 := hcl.1
          have hct := cnt_le ts q
          have hct2 : cnt ts q ≤ 10 := by have := hct.2; omega
          have hct1 := hct.1
          have i0 : (0 : Int) ≤ (q : Int) := by omega
          have i1 : (q : Int) < 10 := by omega
          have HR := hide (hrow.set hq10 (x := cnt ts q + cnt (ds.take k2) q + 1) (f' := fun j => cnt ts j + cnt (ds.take (k2 + 1)) j) (fun j hj => by
            rw [cnt_take ds k2 j (by omega), hq]
            by_cases e : j = q
            · subst e; rw [if_pos rfl, if_pos rfl]; omega
            · rw [if_neg e, if_neg (by omega)]; simp))
          have HB := hide (hbel.setCell (p := ⟨w.heap.size, q, none⟩) (Nat.le_refl _) (.int .i64 (cnt ts q + cnt (ds.take k2) q + 1)))
          clear hrow hbel hcl hct
          go_wp2
          go_roundw
          case rel => exact ⟨k2 + 1, by omega, by go_num, HB.out, HR.out⟩
          case measure => simp [intOf]; omega
        · have hkn : k2 = dl := by omega
          subst hkn
          rw [show ds.take k2 = ds from List.take_of_length_le (by omega)] at hrow
          have cm := (hbel.cell (p := ⟨P, 1, none⟩) hP).trans hb.c1
          have own := (hb.below hbel).own
          have hzw : w.heap.size < wr.heap.size := hrow.1
          have HB := hide hbel
          have HR := hide hrow
          clear hbel hrow
          go_wp2_with (first
            | (at_range; refine wpList_range_own _ rfl _ 150 rfl 232 241 lawK Tryz.underlying150 _ M n _ rfl own ?_; intro w0 hrg0 hg0 hs0)
            | go_in)
          try go_frame
          obtain ⟨R, hR⟩ : ∃ R, wr.heap.size = R := ⟨_, rfl⟩
          rw [hR] at hrg0 hs0 hzw ⊢
          have HB0 := hide (bel_grown0 HB.out hg0 HB.out.size)
          have HR0 := hide (HR.out.below (w' := w0) ⟨hg0.os, hg0.tape, hg0.output, hg0.size, fun k hk => hg0.block k hk (by simp)⟩)
          have HG0 := hide (RngB.start rep hrg0)
          have HZ : Hid (w0.heap.size = R + 1) := hs0
          clear hrg0 hg0 hs0 HB HR cm own hR
          go_loopw [46] (fun _ w3 => ∃ (L : Nat → Bool) (cn : Nat), RngB w3 M R n ss D L cn ∧ (∀ j, j < ss.length → 0 < gc ss j → L j = false → gc ss j = cnt ts j + cnt ds j) ∧ Below w.heap.size w w3 ∧ TRow w3 w.heap.size (fun j => cnt ts j + cnt ds j) ∧ R < w3.heap.size)
            (fun _ w3 => w3.rangeLeft M R)
          case atStart => exact ⟨_, _, HG0.out, fun j _ _ h => (by cases h), HB0.out, HR0.out, by have := HZ.out; omega⟩
          case round =>
            obtain ⟨L, cn, hrg, hok, hbel, hrow, hsz⟩ := hrel
            have HOK := hide hok
            clear hok
            go_wp2_with (first
              | (at_next; refine next_book _ rfl _ rfl M R n good rep rfl hrg ?_ ?_)
              | go_in)
            · intro hc0 hl0
              have HC : Hid (cntB ss ts ds = true) := by
                show cntB ss ts ds = true
                unfold cntB
                rw [List.all_eq_true]
                intro i hi
                have hi := List.mem_range.1 hi
                simp only [decide_eq_true_eq]
                by_cases h0 : gc ss i = 0
                · rw [h0, cnt_zero at1 h0, cnt_zero at2 h0]; rfl
                · have hp : 0 < gc ss i := by have := good.low i hi; omega
                  exact HOK.out i hi hp (hl0 i hi hp)
              have HE := hide hbel
              clear hl0 hbel hrow hrg
              go_wp2
              go_ret
              exact ⟨ret_bool HC.out.symm, HE.out⟩
            · intro j hj hp hLj w1 cnt1 hrg1 hlt1 hg1 hs1 hen
              have hj10 : j < 10 := by omega
              have i0 : (0 : Int) ≤ (j : Int) := by omega
              have i1 : (j : Int) < 10 := by omega
              have al : Below w1.heap.size w1 (w1.alloc (.cells #[.int .i64 (j : Int), .int .i64 (gc ss j)] 241)) := (Below.refl _ _).alloc (Nat.le_refl _) _
              have hrow1 := (hrow.keep hg1 (by omega)).below al
              have hv := hrow1.2.1 j hj10
              have HB1 := hide ((bel_grown hbel hg1 (by omega) hbel.size).trans (al.mono (bel_grown hbel hg1 (by omega) hbel.size).size))
              have HR1 := hide (hrg1.below al)
              have HT1 := hide hrow1
              have HLT := hide hlt1
              have HRG := hide hrg
              have hz1 : R < w1.heap.size := by omega
              clear hrg1 hg1 hlt1 hrg hbel hrow hrow1 al
              by_cases he : cnt ts j + cnt ds j = gc ss j
              · have ee : (cnt ts j + cnt ds j != gc ss j) = false := by simp [he]
                have He := hide he
                clear he
                go_wp2_with fail
                go_quiet (fail)
                go_wp2
                go_roundw
                case rel =>
                  refine ⟨_, cnt1, HR1.out.below (bdrewN (Below.refl _ _) _), fun i hi hpi hLi => ?_, bdrewN HB1.out _, HT1.out.below (bdrewN (Below.refl _ _) _), by simp; omega⟩
                  by_cases e : i = j
                  · subst e; exact He.out.symm
                  · exact HOK.out i hi hpi (by simpa [e] using hLi)
                case measure =>
                  rw [(HR1.out.below (bdrewN (Below.refl _ _) _)).left_eq, HRG.out.left_eq]
                  exact HLT.out
              · have ee : (cnt ts j + cnt ds j != gc ss j) = true := by simp [he]
                have HC : Hid (cntB ss ts ds = false) := by
                  show cntB ss ts ds = false
                  unfold cntB
                  rw [List.all_eq_false]
                  exact ⟨j, List.mem_range.2 hj, by simp; omega⟩
                clear he
                go_wp2_with fail
                go_quiet (fail)
                go_wp2
                go_ret
                exact ⟨ret_bool HC.out.symm, bdrewN HB1.out _⟩

set_option maxRecDepth 100000 in
set_option maxHeartbeats 1000000 in
theorem fault_calls (P M n : Nat) (ss : List (Int × List Int)) (D : DataW Unit) (ta da : Option Addr) (tl tc dl dc : Nat) (ts ds : List Int) (w : World) (hb : Bk w P M (ss.length : Int) n D) (good : Good ss) (rep : Rep ss D)
    (ct : w.cell? ⟨P, 2, none⟩ = some (.slice ta tl tc)) (cd : w.cell? ⟨P, 3, none⟩ = some (.slice da dl dc)) (hts : Sl w ta tl ts) (hds : Sl w da dl ds) (htl : tl ≤ 10) (hdl : dl ≤ 10) :
    Calls Tryz.prog 132 #[.pointer (some ⟨P, 0, none⟩)] w fun e w' => e = .returned (.int .i64 (ledF ss ts ds)) ∧ Below w.heap.size w w' := by
  have hP := hb.lt
  cases h1 : allS ss ts with
  | false =>
    cases h2 : allS ss ds with
    | false =>
      have HF : Hid (ledF ss ts ds = 4) := by show ledF ss ts ds = 4; simp [ledF, h1]
      go_enter Tryz.func132, Tryz.ntmps132
      go_wp2_with fail
      refine (labelsAt_calls P M n ss D ta tl tc ts _ hb good rep hts htl).mono ?_
      rintro e w1 ⟨ra, rn, rc, rfl, hL1, hn1, g1⟩
      rw [h1]
      have cd1 := (g1.cell (p := ⟨P, 3, none⟩) hP).trans cd
      have hb1 := hb.below g1
      have hds1 := hds.below g1 (Nat.le_refl _)
      go_wp2_with fail
      refine (labelsAt_calls P M n ss D da dl dc ds _ hb1 good rep hds1 hdl).mono ?_
      rintro e w2 ⟨rb, rm, rd, rfl, hL2, hn2, g2⟩
      rw [h2]
      have g02 := g1.trans (g2.mono g1.size)
      clear g1 g2 hL1 hL2 cd1 hb1 hds1
      have HE := hide g02
      clear g02
      go_wp2
      go_ret
      exact ⟨ret_int HF.out.symm, HE.out⟩
    | true =>
      have HF : Hid (ledF ss ts ds = 4) := by show ledF ss ts ds = 4; simp [ledF, h1]
      go_enter Tryz.func132, Tryz.ntmps132
      go_wp2_with fail
      refine (labelsAt_calls P M n ss D ta tl tc ts _ hb good rep hts htl).mono ?_
      rintro e w1 ⟨ra, rn, rc, rfl, hL1, hn1, g1⟩
      rw [h1]
      have cd1 := (g1.cell (p := ⟨P, 3, none⟩) hP).trans cd
      have hb1 := hb.below g1
      have hds1 := hds.below g1 (Nat.le_refl _)
      go_wp2_with fail
      refine (labelsAt_calls P M n ss D da dl dc ds _ hb1 good rep hds1 hdl).mono ?_
      rintro e w2 ⟨rb, rm, rd, rfl, hL2, hn2, g2⟩
      rw [h2]
      have g02 := g1.trans (g2.mono g1.size)
      clear g1 g2 hL1 hL2 cd1 hb1 hds1
      have HE := hide g02
      clear g02
      go_wp2
      go_ret
      exact ⟨ret_int HF.out.symm, HE.out⟩
  | true =>
    cases h2 : allS ss ds with
    | false =>
      have HF : Hid (ledF ss ts ds = 4) := by show ledF ss ts ds = 4; simp [ledF, h2]
      go_enter Tryz.func132, Tryz.ntmps132
      go_wp2_with fail
      refine (labelsAt_calls P M n ss D ta tl tc ts _ hb good rep hts htl).mono ?_
      rintro e w1 ⟨ra, rn, rc, rfl, hL1, hn1, g1⟩
      rw [h1]
      have cd1 := (g1.cell (p := ⟨P, 3, none⟩) hP).trans cd
      have hb1 := hb.below g1
      have hds1 := hds.below g1 (Nat.le_refl _)
      go_wp2_with fail
      refine (labelsAt_calls P M n ss D da dl dc ds _ hb1 good rep hds1 hdl).mono ?_
      rintro e w2 ⟨rb, rm, rd, rfl, hL2, hn2, g2⟩
      rw [h2]
      have g02 := g1.trans (g2.mono g1.size)
      have L1 := (hL1 h1).below g2 (Nat.le_refl _)
      clear g1 g2 hL1 hL2 cd1 hb1 hds1
      have HE := hide g02
      clear g02 L1
      go_wp2
      go_ret
      exact ⟨ret_int HF.out.symm, HE.out⟩
    | true =>
      cases h3 : thingsB (labs ss ts) with
      | false =>
        have HF : Hid (ledF ss ts ds = 1) := by show ledF ss ts ds = 1; simp [ledF, h1, h2, h3]
        go_enter Tryz.func132, Tryz.ntmps132
        go_wp2_with fail
        refine (labelsAt_calls P M n ss D ta tl tc ts _ hb good rep hts htl).mono ?_
        rintro e w1 ⟨ra, rn, rc, rfl, hL1, hn1, g1⟩
        rw [h1]
        have cd1 := (g1.cell (p := ⟨P, 3, none⟩) hP).trans cd
        have hb1 := hb.below g1
        have hds1 := hds.below g1 (Nat.le_refl _)
        go_wp2_with fail
        refine (labelsAt_calls P M n ss D da dl dc ds _ hb1 good rep hds1 hdl).mono ?_
        rintro e w2 ⟨rb, rm, rd, rfl, hL2, hn2, g2⟩
        rw [h2]
        have g02 := g1.trans (g2.mono g1.size)
        have L1 := (hL1 h1).below g2 (Nat.le_refl _)
        have L2 := hL2 h2
        clear g1 g2 hL1 hL2 cd1 hb1 hds1
        go_wp2_with fail
        refine (areThings_calls ra rn rc _ _ hn1 L1).mono ?_
        rintro e w3 ⟨rfl, g3⟩
        rw [h3]
        have g03 := g02.trans (g3.mono g02.size)
        have HE := hide g03
        clear g3 g03 g02 L1 L2
        go_wp2
        go_ret
        exact ⟨ret_int HF.out.symm, HE.out⟩
      | true =>
        cases h4 : lowsB (labs ss ds) with
        | false =>
          have HF : Hid (ledF ss ts ds = 1) := by show ledF ss ts ds = 1; simp [ledF, h1, h2, h4]
          go_enter Tryz.func132, Tryz.ntmps132
          go_wp2_with fail
          refine (labelsAt_calls P M n ss D ta tl tc ts _ hb good rep hts htl).mono ?_
          rintro e w1 ⟨ra, rn, rc, rfl, hL1, hn1, g1⟩
          rw [h1]
          have cd1 := (g1.cell (p := ⟨P, 3, none⟩) hP).trans cd
          have hb1 := hb.below g1
          have hds1 := hds.below g1 (Nat.le_refl _)
          go_wp2_with fail
          refine (labelsAt_calls P M n ss D da dl dc ds _ hb1 good rep hds1 hdl).mono ?_
          rintro e w2 ⟨rb, rm, rd, rfl, hL2, hn2, g2⟩
          rw [h2]
          have g02 := g1.trans (g2.mono g1.size)
          have L1 := (hL1 h1).below g2 (Nat.le_refl _)
          have L2 := hL2 h2
          clear g1 g2 hL1 hL2 cd1 hb1 hds1
          go_wp2_with fail
          refine (areThings_calls ra rn rc _ _ hn1 L1).mono ?_
          rintro e w3 ⟨rfl, g3⟩
          rw [h3]
          have g03 := g02.trans (g3.mono g02.size)
          have L3 := L2.below g3 (Nat.le_refl _)
          clear g3 g02 L1 L2
          go_wp2_with fail
          refine (areWithoutTop_calls rb rm rd _ _ hn2 L3).mono ?_
          rintro e w4 ⟨rfl, g4⟩
          rw [h4]
          have g04 := g03.trans (g4.mono g03.size)
          clear g4 g03 L3
          have HE := hide g04
          clear g04
          go_wp2
          go_ret
          exact ⟨ret_int HF.out.symm, HE.out⟩
        | true =>
          cases h5 : cntB ss ts ds with
          | false =>
            have HF : Hid (ledF ss ts ds = 8) := by show ledF ss ts ds = 8; simp [ledF, h1, h2, h3, h4, h5]
            go_enter Tryz.func132, Tryz.ntmps132
            go_wp2_with fail
            refine (labelsAt_calls P M n ss D ta tl tc ts _ hb good rep hts htl).mono ?_
            rintro e w1 ⟨ra, rn, rc, rfl, hL1, hn1, g1⟩
            rw [h1]
            have cd1 := (g1.cell (p := ⟨P, 3, none⟩) hP).trans cd
            have hb1 := hb.below g1
            have hds1 := hds.below g1 (Nat.le_refl _)
            go_wp2_with fail
            refine (labelsAt_calls P M n ss D da dl dc ds _ hb1 good rep hds1 hdl).mono ?_
            rintro e w2 ⟨rb, rm, rd, rfl, hL2, hn2, g2⟩
            rw [h2]
            have g02 := g1.trans (g2.mono g1.size)
            have L1 := (hL1 h1).below g2 (Nat.le_refl _)
            have L2 := hL2 h2
            clear g1 g2 hL1 hL2 cd1 hb1 hds1
            go_wp2_with fail
            refine (areThings_calls ra rn rc _ _ hn1 L1).mono ?_
            rintro e w3 ⟨rfl, g3⟩
            rw [h3]
            have g03 := g02.trans (g3.mono g02.size)
            have L3 := L2.below g3 (Nat.le_refl _)
            clear g3 g02 L1 L2
            go_wp2_with fail
            refine (areWithoutTop_calls rb rm rd _ _ hn2 L3).mono ?_
            rintro e w4 ⟨rfl, g4⟩
            rw [h4]
            have g04 := g03.trans (g4.mono g03.size)
            clear g4 g03 L3
            have ct4 := (g04.cell (p := ⟨P, 2, none⟩) hP).trans ct
            have cd4 := (g04.cell (p := ⟨P, 3, none⟩) hP).trans cd
            go_wp2_with fail
            refine (isCountedRight_calls P M n ss D ta da tl tc dl dc ts ds _ (hb.below g04) good rep ct4 cd4 (hts.below g04 (Nat.le_refl _)) (hds.below g04 (Nat.le_refl _)) htl hdl h1 h2).mono ?_
            rintro e w5 ⟨rfl, g5⟩
            rw [h5]
            have HE := hide (g04.trans (g5.mono g04.size))
            clear g5 g04 ct4 cd4
            go_wp2
            go_ret
            exact ⟨ret_int HF.out.symm, HE.out⟩
          | true =>
            have HF : Hid (ledF ss ts ds = 0) := by show ledF ss ts ds = 0; simp [ledF, h1, h2, h3, h4, h5]
            go_enter Tryz.func132, Tryz.ntmps132
            go_wp2_with fail
            refine (labelsAt_calls P M n ss D ta tl tc ts _ hb good rep hts htl).mono ?_
            rintro e w1 ⟨ra, rn, rc, rfl, hL1, hn1, g1⟩
            rw [h1]
            have cd1 := (g1.cell (p := ⟨P, 3, none⟩) hP).trans cd
            have hb1 := hb.below g1
            have hds1 := hds.below g1 (Nat.le_refl _)
            go_wp2_with fail
            refine (labelsAt_calls P M n ss D da dl dc ds _ hb1 good rep hds1 hdl).mono ?_
            rintro e w2 ⟨rb, rm, rd, rfl, hL2, hn2, g2⟩
            rw [h2]
            have g02 := g1.trans (g2.mono g1.size)
            have L1 := (hL1 h1).below g2 (Nat.le_refl _)
            have L2 := hL2 h2
            clear g1 g2 hL1 hL2 cd1 hb1 hds1
            go_wp2_with fail
            refine (areThings_calls ra rn rc _ _ hn1 L1).mono ?_
            rintro e w3 ⟨rfl, g3⟩
            rw [h3]
            have g03 := g02.trans (g3.mono g02.size)
            have L3 := L2.below g3 (Nat.le_refl _)
            clear g3 g02 L1 L2
            go_wp2_with fail
            refine (areWithoutTop_calls rb rm rd _ _ hn2 L3).mono ?_
            rintro e w4 ⟨rfl, g4⟩
            rw [h4]
            have g04 := g03.trans (g4.mono g03.size)
            clear g4 g03 L3
            have ct4 := (g04.cell (p := ⟨P, 2, none⟩) hP).trans ct
            have cd4 := (g04.cell (p := ⟨P, 3, none⟩) hP).trans cd
            go_wp2_with fail
            refine (isCountedRight_calls P M n ss D ta da tl tc dl dc ts ds _ (hb.below g04) good rep ct4 cd4 (hts.below g04 (Nat.le_refl _)) (hds.below g04 (Nat.le_refl _)) htl hdl h1 h2).mono ?_
            rintro e w5 ⟨rfl, g5⟩
            rw [h5]
            have HE := hide (g04.trans (g5.mono g04.size))
            clear g5 g04 ct4 cd4
            go_wp2
            go_ret
            exact ⟨ret_int HF.out.symm, HE.out⟩

end Go.Proofs.YtnlkigjgloeonaaGreat
