import Derived.Test.YtainblfjfmjclajCounted
import Derived.WalkKit
import Derived.ProofKit
import Derived.OpenShut
import Derived.ShutString
import Derived.ChangeOld
import Derived.Below
import Derived.WalkSpells
import Derived.Deep.QuietTactic
import Derived.BigQuiet
import Derived.Deep.RegionWith
import Derived.Deep.WholeRow
import Derived.Deep.DeepCutAuto
import Derived.Deep.RegionHeld2
import Derived.Deep.AppendLies
import Derived.Deep.RegionLaw
namespace Go.Proofs.Ytainblfjfmjclaj
open Go.ChangeShapes Go.WideShapes Go.ChangeAt Go.RowKit

set_option maxRecDepth 100000 in
set_option maxHeartbeats 1000000 in
theorem fault_calls (P M n : Nat) (ss : List (Int × List Int)) (D : DataW Unit) (ta da : Option Addr) (tl tc dl dc : Nat) (ts ds : List Int) (w : World) (hb : Bk w P M (ss.length : Int) n D) (good : Good ss) (rep : Rep ss D)
    (ct : w.cell? ⟨P, 2, none⟩ = some (.slice ta tl tc)) (cd : w.cell? ⟨P, 3, none⟩ = some (.slice da dl dc)) (hts : Sl w ta tl ts) (hds : Sl w da dl ds) (htl : tl ≤ 10) (hdl : dl ≤ 10) :
    Calls Try.prog 93 #[.pointer (some ⟨P, 0, none⟩)] w fun e w' => e = .returned (.int .i64 (ledF ss ts ds)) ∧ Below w.heap.size w w' := by
  have hP := hb.lt
  cases h1 : allS ss ts with
  | false =>
    cases h2 : allS ss ds with
    | false =>
      have HF : Hid (ledF ss ts ds = 4) := by show ledF ss ts ds = 4; simp [ledF, h1]
      go_enter Try.func93, Try.ntmps93
      go_wp2_with fail
      refine (labelsAt_calls P M n ss D ta tl tc ts _ hb good rep hts htl).mono ?_
      rintro e w1 ⟨ra, rn, rc, rfl, hL1, hn1, g1⟩
      rw [h1]
      have cd1 := (g1.cell (p := ⟨P, 3, none⟩) hP).trans cd
      have hb1 := hb.below g1
      have hds1 := hds.below g1 (Nat.le_refl _)
      go_wp2_with fail
      refine (labelsAt_calls P M n ss D da dl dc ds _ hb1 good rep hds1 hdl).mono ?_
      rintro e w2 ⟨rb, rm, rd, rfl, hL2, hn2, g2⟩
      rw [h2]
      have g02 := g1.trans (g2.mono g1.size)
      clear g1 g2 hL1 hL2 cd1 hb1 hds1
      have HE := hide g02
      clear g02
      go_wp2
      go_ret
      exact ⟨ret_int HF.out.symm, HE.out⟩
    | true =>
      have HF : Hid (ledF ss ts ds = 4) := by show ledF ss ts ds = 4; simp [ledF, h1]
      go_enter Try.func93, Try.ntmps93
      go_wp2_with fail
      refine (labelsAt_calls P M n ss D ta tl tc ts _ hb good rep hts htl).mono ?_
      rintro e w1 ⟨ra, rn, rc, rfl, hL1, hn1, g1⟩
      rw [h1]
      have cd1 := (g1.cell (p := ⟨P, 3, none⟩) hP).trans cd
      have hb1 := hb.below g1
      have hds1 := hds.below g1 (Nat.le_refl _)
      go_wp2_with fail
      refine (labelsAt_calls P M n ss D da dl dc ds _ hb1 good rep hds1 hdl).mono ?_
      rintro e w2 ⟨rb, rm, rd, rfl, hL2, hn2, g2⟩
      rw [h2]
      have g02 := g1.trans (g2.mono g1.size)
      clear g1 g2 hL1 hL2 cd1 hb1 hds1
      have HE := hide g02
      clear g02
      go_wp2
      go_ret
      exact ⟨ret_int HF.out.symm, HE.out⟩
  | true =>
    cases h2 : allS ss ds with
    | false =>
      have HF : Hid (ledF ss ts ds = 4) := by show ledF ss ts ds = 4; simp [ledF, h2]
      go_enter Try.func93, Try.ntmps93
      go_wp2_with fail
      refine (labelsAt_calls P M n ss D ta tl tc ts _ hb good rep hts htl).mono ?_
      rintro e w1 ⟨ra, rn, rc, rfl, hL1, hn1, g1⟩
      rw [h1]
      have cd1 := (g1.cell (p := ⟨P, 3, none⟩) hP).trans cd
      have hb1 := hb.below g1
      have hds1 := hds.below g1 (Nat.le_refl _)
      go_wp2_with fail
      refine (labelsAt_calls P M n ss D da dl dc ds _ hb1 good rep hds1 hdl).mono ?_
      rintro e w2 ⟨rb, rm, rd, rfl, hL2, hn2, g2⟩
      rw [h2]
      have g02 := g1.trans (g2.mono g1.size)
      have L1 := (hL1 h1).below g2 (Nat.le_refl _)
      clear g1 g2 hL1 hL2 cd1 hb1 hds1
      have HE := hide g02
      clear g02 L1
      go_wp2
      go_ret
      exact ⟨ret_int HF.out.symm, HE.out⟩
    | true =>
      cases h3 : thingsB (labs ss ts) with
      | false =>
        have HF : Hid (ledF ss ts ds = 1) := by show ledF ss ts ds = 1; simp [ledF, h1, h2, h3]
        go_enter Try.func93, Try.ntmps93
        go_wp2_with fail
        refine (labelsAt_calls P M n ss D ta tl tc ts _ hb good rep hts htl).mono ?_
        rintro e w1 ⟨ra, rn, rc, rfl, hL1, hn1, g1⟩
        rw [h1]
        have cd1 := (g1.cell (p := ⟨P, 3, none⟩) hP).trans cd
        have hb1 := hb.below g1
        have hds1 := hds.below g1 (Nat.le_refl _)
        go_wp2_with fail
        refine (labelsAt_calls P M n ss D da dl dc ds _ hb1 good rep hds1 hdl).mono ?_
        rintro e w2 ⟨rb, rm, rd, rfl, hL2, hn2, g2⟩
        rw [h2]
        have g02 := g1.trans (g2.mono g1.size)
        have L1 := (hL1 h1).below g2 (Nat.le_refl _)
        have L2 := hL2 h2
        clear g1 g2 hL1 hL2 cd1 hb1 hds1
        go_wp2_with fail
        refine (areThings_calls ra rn rc _ _ hn1 L1).mono ?_
        rintro e w3 ⟨rfl, g3⟩
        rw [h3]
        have g03 := g02.trans (g3.mono g02.size)
        have HE := hide g03
        clear g3 g03 g02 L1 L2
        go_wp2
        go_ret
        exact ⟨ret_int HF.out.symm, HE.out⟩
      | true =>
        cases h4 : lowsB (labs ss ds) with
        | false =>
          have HF : Hid (ledF ss ts ds = 1) := by show ledF ss ts ds = 1; simp [ledF, h1, h2, h4]
          go_enter Try.func93, Try.ntmps93
          go_wp2_with fail
          refine (labelsAt_calls P M n ss D ta tl tc ts _ hb good rep hts htl).mono ?_
          rintro e w1 ⟨ra, rn, rc, rfl, hL1, hn1, g1⟩
          rw [h1]
          have cd1 := (g1.cell (p := ⟨P, 3, none⟩) hP).trans cd
          have hb1 := hb.below g1
          have hds1 := hds.below g1 (Nat.le_refl _)
          go_wp2_with fail
          refine (labelsAt_calls P M n ss D da dl dc ds _ hb1 good rep hds1 hdl).mono ?_
          rintro e w2 ⟨rb, rm, rd, rfl, hL2, hn2, g2⟩
          rw [h2]
          have g02 := g1.trans (g2.mono g1.size)
          have L1 := (hL1 h1).below g2 (Nat.le_refl _)
          have L2 := hL2 h2
          clear g1 g2 hL1 hL2 cd1 hb1 hds1
          go_wp2_with fail
          refine (areThings_calls ra rn rc _ _ hn1 L1).mono ?_
          rintro e w3 ⟨rfl, g3⟩
          rw [h3]
          have g03 := g02.trans (g3.mono g02.size)
          have L3 := L2.below g3 (Nat.le_refl _)
          clear g3 g02 L1 L2
          go_wp2_with fail
          refine (areWithoutTop_calls rb rm rd _ _ hn2 L3).mono ?_
          rintro e w4 ⟨rfl, g4⟩
          rw [h4]
          have g04 := g03.trans (g4.mono g03.size)
          clear g4 g03 L3
          have HE := hide g04
          clear g04
          go_wp2
          go_ret
          exact ⟨ret_int HF.out.symm, HE.out⟩
        | true =>
          cases h5 : cntB ss ts ds with
          | false =>
            have HF : Hid (ledF ss ts ds = 8) := by show ledF ss ts ds = 8; simp [ledF, h1, h2, h3, h4, h5]
            go_enter Try.func93, Try.ntmps93
            go_wp2_with fail
            refine (labelsAt_calls P M n ss D ta tl tc ts _ hb good rep hts htl).mono ?_
            rintro e w1 ⟨ra, rn, rc, rfl, hL1, hn1, g1⟩
            rw [h1]
            have cd1 := (g1.cell (p := ⟨P, 3, none⟩) hP).trans cd
            have hb1 := hb.below g1
            have hds1 := hds.below g1 (Nat.le_refl _)
            go_wp2_with fail
            refine (labelsAt_calls P M n ss D da dl dc ds _ hb1 good rep hds1 hdl).mono ?_
            rintro e w2 ⟨rb, rm, rd, rfl, hL2, hn2, g2⟩
            rw [h2]
            have g02 := g1.trans (g2.mono g1.size)
            have L1 := (hL1 h1).below g2 (Nat.le_refl _)
            have L2 := hL2 h2
            clear g1 g2 hL1 hL2 cd1 hb1 hds1
            go_wp2_with fail
            refine (areThings_calls ra rn rc _ _ hn1 L1).mono ?_
            rintro e w3 ⟨rfl, g3⟩
            rw [h3]
            have g03 := g02.trans (g3.mono g02.size)
            have L3 := L2.below g3 (Nat.le_refl _)
            clear g3 g02 L1 L2
            go_wp2_with fail
            refine (areWithoutTop_calls rb rm rd _ _ hn2 L3).mono ?_
            rintro e w4 ⟨rfl, g4⟩
            rw [h4]
            have g04 := g03.trans (g4.mono g03.size)
            clear g4 g03 L3
            have ct4 := (g04.cell (p := ⟨P, 2, none⟩) hP).trans ct
            have cd4 := (g04.cell (p := ⟨P, 3, none⟩) hP).trans cd
            go_wp2_with fail
            refine (isCountedRight_calls P M n ss D ta da tl tc dl dc ts ds _ (hb.below g04) good rep ct4 cd4 (hts.below g04 (Nat.le_refl _)) (hds.below g04 (Nat.le_refl _)) htl hdl h1 h2).mono ?_
            rintro e w5 ⟨rfl, g5⟩
            rw [h5]
            have HE := hide (g04.trans (g5.mono g04.size))
            clear g5 g04 ct4 cd4
            go_wp2
            go_ret
            exact ⟨ret_int HF.out.symm, HE.out⟩
          | true =>
            have HF : Hid (ledF ss ts ds = 0) := by show ledF ss ts ds = 0; simp [ledF, h1, h2, h3, h4, h5]
            go_enter Try.func93, Try.ntmps93
            go_wp2_with fail
            refine (labelsAt_calls P M n ss D ta tl tc ts _ hb good rep hts htl).mono ?_
            rintro e w1 ⟨ra, rn, rc, rfl, hL1, hn1, g1⟩
            rw [h1]
            have cd1 := (g1.cell (p := ⟨P, 3, none⟩) hP).trans cd
            have hb1 := hb.below g1
            have hds1 := hds.below g1 (Nat.le_refl _)
            go_wp2_with fail
            refine (labelsAt_calls P M n ss D da dl dc ds _ hb1 good rep hds1 hdl).mono ?_
            rintro e w2 ⟨rb, rm, rd, rfl, hL2, hn2, g2⟩
            rw [h2]
            have g02 := g1.trans (g2.mono g1.size)
            have L1 := (hL1 h1).below g2 (Nat.le_refl _)
            have L2 := hL2 h2
            clear g1 g2 hL1 hL2 cd1 hb1 hds1
            go_wp2_with fail
            refine (areThings_calls ra rn rc _ _ hn1 L1).mono ?_
            rintro e w3 ⟨rfl, g3⟩
            rw [h3]
            have g03 := g02.trans (g3.mono g02.size)
            have L3 := L2.below g3 (Nat.le_refl _)
            clear g3 g02 L1 L2
            go_wp2_with fail
            refine (areWithoutTop_calls rb rm rd _ _ hn2 L3).mono ?_
            rintro e w4 ⟨rfl, g4⟩
            rw [h4]
            have g04 := g03.trans (g4.mono g03.size)
            clear g4 g03 L3
            have ct4 := (g04.cell (p := ⟨P, 2, none⟩) hP).trans ct
            have cd4 := (g04.cell (p := ⟨P, 3, none⟩) hP).trans cd
            go_wp2_with fail
            refine (isCountedRight_calls P M n ss D ta da tl tc dl dc ts ds _ (hb.below g04) good rep ct4 cd4 (hts.below g04 (Nat.le_refl _)) (hds.below g04 (Nat.le_refl _)) htl hdl h1 h2).mono ?_
            rintro e w5 ⟨rfl, g5⟩
            rw [h5]
            have HE := hide (g04.trans (g5.mono g04.size))
            clear g5 g04 ct4 cd4
            go_wp2
            go_ret
            exact ⟨ret_int HF.out.symm, HE.out⟩

end Go.Proofs.Ytainblfjfmjclaj
