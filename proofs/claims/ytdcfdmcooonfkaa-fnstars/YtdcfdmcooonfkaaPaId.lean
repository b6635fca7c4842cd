import Derived.Test.YtdcfdmcooonfkaaPaIp
import Derived.Test.YtdcfdmcooonfkaaPaS3
import Derived.WalkKit
import Derived.ProofKit
import Derived.OpenShut
import Derived.ShutString
import Derived.ChangeOld
import Derived.Below
import Derived.WalkSpells
import Derived.Deep.QuietTactic
import Derived.BigQuiet
import Derived.Deep.RegionWith
import Derived.Deep.WholeRow
import Derived.Deep.DeepCutAuto
import Derived.Deep.RegionHeld2
import Derived.Deep.AppendLies
import Derived.Deep.RegionLaw
namespace Go.Proofs.Ytdcfdmcooonfkaa
open Go.ChangeShapes Go.WideShapes Go.ChangeAt Go.RowKit

theorem idxK (zs : List Int) {j : Nat} (h : j < 4) (W : World) : (Instr.index 68 (.agg (ints4 zs)) (.int .i64 (j : Int))).run Try.prog W = .ok (.int .i64 (gt zs j)) W := by
  rcases (by omega : j = 0 ∨ j = 1 ∨ j = 2 ∨ j = 3) with rfl | rfl | rfl | rfl <;> kernel_rfl

set_option maxRecDepth 100000 in
set_option maxHeartbeats 4000000 in
theorem implStarsOf_calls (q : Option Addr) (l k : Nat) (x : List Int) (w : World) (hl : l ≤ maxLen) (hs : Sl w q l x) :
    Calls Try.prog 26 #[.agg #[.slice q l k]] w fun e w' => ∃ ra rn rc, e = .returned (.agg #[.int .i64 (fault x), .slice ra rn rc]) ∧ OS (InR w.heap.size w'.heap.size) ra rn (stL x) w' ∧ Below w.heap.size w w' := by
  have M0 := ((Mm.start w).allocC [.slice q l k] 26).allocC [.int .i64 0, .slice none 0 0] 47
  simp only [World.size_alloc] at M0
  have hs0 := hs.below M0.bel (Nat.le_refl _)
  obtain ⟨i0, hi, hz0, hz1, hz2⟩ := info_parts info2
  have hmk : ∀ W : World, (Instr.makeSlice 24 (.int .i64 0) (.int .i64 4)).run Try.prog W = .ok (.slice (some ⟨W.heap.size, 0, none⟩) 0 4) (W.alloc (.cells (madeCells #[.int .i64 0] 4) 2)) := fun W => by
    have h := run_make (P := Try.prog) W 24 2 i0 (.int .i64 0) Try.underlying24 hi hz0 .i64 .i64 0 4 (Int.le_refl _) (by omega) (by rw [hz2]; omega) (by omega)
    simpa [hz1, Value.cells] using h
  go_enter Try.func26, Try.ntmps26
  go_wp2_with fail
  refine (implLabelFault_calls q l k x _ hl hs0).mono ?_
  rintro e w1 ⟨rfl, g1⟩
  have z1 : w.heap.size + 2 ≤ w1.heap.size := by have := g1.size; simpa using this
  have M1 := M0.below g1
  clear g1 M0 hs0
  by_cases h1 : fault x = 0
  rotate_left
  · have HC : Hid (fault x = fault x) := rfl
    have HN : Hid (stL x = []) := if_neg h1
    have e1 : (fault x != 0) = true := by simpa using h1
    clear h1 hmk
    have r0 := (M1.get 0 rfl).cell 0 rfl
    have r1 := (M1.get 0 rfl).cell 1 rfl
    have f0 := (M1.get 0 rfl).fz 0 (by simp)
    have f1 := (M1.get 0 rfl).fz 1 (by simp)
    have HB := hide M1.bel
    clear M1
    go_wp2
    refine bodyPost_ret (v := .agg #[.int .i64 (fault x), .slice none 0 0]) (by simp [results, Try.results26, go_sem, r0, r1]) rfl ⟨none, 0, 0, rfl, ?_, (HB.out.setCell (by simp <;> omega) _).setCell (by simp <;> omega) _⟩
    rw [HN.out]
    exact osNil _ _
  have e1 : (fault x != 0) = false := by simp [h1]
  obtain rfl := fault_len4 h1 hs
  have hxl0 := hs.1
  have HC : Hid (fault x = 0) := h1
  have HN : Hid (stL x = stK x 4) := by show _ = _; unfold stL; rw [resOf_ok h1, hxl0]
  have hs1 := hs.below M1.bel (Nat.le_refl _)
  clear h1
  have HOW0 := hide (World.ownsRow_made (base := w1.heap.size) (e := 2) (size := 1) w1 (madeCells #[.int .i64 0] 4) 4 (Nat.le_refl _) (by unfold maxLen; omega) (by rw [size_madeCells]; try omega))
  obtain ⟨u, hu⟩ : ∃ y, y = w1.alloc (.cells (madeCells #[.int .i64 0] 4) 2) := ⟨_, rfl⟩
  have hB0 : Below w1.heap.size w1 u := by rw [hu]; exact (Below.refl _ _).alloc (Nat.le_refl _) _
  rw [← hu] at HOW0
  have zu : u.heap.size = w1.heap.size + 1 := by rw [hu]; simp
  have hsu := hs1.below hB0 (Nat.le_refl _)
  have MU := M1.below hB0
  have q0 := (M1.get 1 rfl).cell 0 rfl
  have q1 := (MU.get 1 rfl).cell 0 rfl
  have Hu := hide hu
  clear M1 hu hB0 hs hs1
  go_upto_region 5 with fail
  rw [← Hu.out]
  clear Hu hmk
  go_wp2_with fail
  refine (levelsOf_calls q k x _ hsu).mono ?_
  rintro e w2 ⟨rfl, g2⟩
  have HM2 := hide (MU.below g2)
  have HOW := hide (ownR_below HOW0.out (g2.mono (by omega)))
  have z2 := g2.size
  clear MU g2 HOW0 hsu q0 q1
  go_wp2
  go_loopw [16, 4] (fun i v wr => ∃ j : Nat, j ≤ 4 ∧ i = .int .i64 j ∧ wr.ownsRow w1.heap.size 2 1 v (stK x j).length ((stK x j).map (Value.int .i64)) ∧ Mm w wr [] [(w.heap.size + 1, w.heap.size + 1 + 1, Cs (w.heap.size + 1) [.int .i64 0, .slice none 0 0]), (w.heap.size, w.heap.size + 1, Cs w.heap.size [.slice q 4 k])] ∧ w1.heap.size ≤ wr.heap.size) (fun i _ _ => 4 - (intOf i).toNat)
  case atStart => exact ⟨0, Nat.zero_le _, rfl, HOW.out, HM2.out, by omega⟩
  case round =>
    clear HM2 HOW
    obtain ⟨j, hj4, rfl, own, M, hB⟩ := hrel
    have hkl := stK_le x j
    by_cases hlt : j < 4
    · have k0 : (0 : Int) ≤ (j : Int) := by omega
      have k1 : (j : Int) < 4 := by omega
      have ix := fun W => idxK x hlt W
      have HM := hide M
      clear M
      by_cases h2 : gt x j = 0
      · have e2 : (gt x j == 0) = true := by simpa using h2
        have HK := hide (stK_y h2)
        have HC1 : Hid (Below wr.heap.size wr (wr.alloc (.cells #[.int .i64 (j : Int)] 2))) := (Below.refl wr.heap.size wr).alloc (Nat.le_refl _) _
        have HW := hide own
        clear h2 own
        go_wp2_with (first
          | (at_builtin; go_loud (refine wpList_append_lies _ rfl _ _ 24 rfl w1.heap.size 2 i0 (.int .i64 0) 1 8 Try.underlying24 hi hz0 hz1 hz2 rfl (by decide) _ _ _ rfl (ownR_below HW.out HC1.out) ⟨wr.heap.size, 0, none⟩ 1 1 [.int .i64 (j : Int)] rfl rfl (one_new (by go_simp)) (by simp [Value.oneCell']) (by omega) (by unfold maxLen; omega) (by omega) (by simp; omega) (wr.heap.size + 1) (by simp) ?_))
          | go_in)
        intro g cp w5 hown1 hgrow hat hlt1
        have hz3 := hgrow.size
        have HMG := hide (HM.out.grownN HC1.out hgrow (B := w1.heap.size) (by omega) hB (fun q e => (HW.out.lt q e).1) (by simp) (by simp <;> omega))
        have HOW2 := hide hown1
        clear hown1 hgrow hat
        go_wp2
        go_roundw
        case rel => exact ⟨j + 1, by omega, by go_num, by rw [HK.out, List.length_append, List.map_append]; exact HOW2.out, HMG.out, by simp at hz3; omega⟩
        case measure => simp [intOf]; omega
      · have e2 : (gt x j == 0) = false := by simpa using h2
        have HK := hide (stK_n h2)
        have HW := hide own
        clear h2 own
        go_wp2
        go_roundw
        case rel => exact ⟨j + 1, by omega, by go_num, by rw [HK.out]; exact HW.out, HM.out, hB⟩
        case measure => simp [intOf]; omega
    · obtain rfl : j = 4 := by omega
      obtain ⟨ra, rc, rfl, fr⟩ := owns_osl (by omega) own
      have M5 := M.fact OS.loc (OS.ofOSl fr)
      have c0_ := (M5.get 1 rfl).cell 0 rfl
      have c1_ := (M5.get 1 rfl).cell 1 rfl
      have f0_ := (M5.get 1 rfl).fz 0 (by simp)
      have f1_ := (M5.get 1 rfl).fz 1 (by simp)
      have HB := hide M5.bel
      have HO := hide (M5.get 0 rfl)
      clear M M5 own fr hlt
      go_wp2
      refine bodyPost_ret (v := .agg #[.int .i64 0, .slice ra (stK x 4).length rc]) (by simp [results, Try.results26, go_sem, c0_, c1_]) rfl ⟨ra, _, rc, by rw [HC.out], ?_, (HB.out.setCell (by simp <;> omega) _).setCell (by simp <;> omega) _⟩
      rw [HN.out]
      exact (OS.loc.setC (OS.loc.setC HO.out (fun h => by have := h.1; simp at this; omega) _) (fun h => by have := h.1; simp at this; omega) _).mono (fun q e => ⟨by have := e.1; omega, by have := e.2; simp; omega⟩)

theorem set4e {x : List Int} (v : Int) (h : x.length = 4) : x.set 0 v = [v, gt x 1, gt x 2, gt x 3] ∧ x.set 1 v = [gt x 0, v, gt x 2, gt x 3] ∧ x.set 2 v = [gt x 0, gt x 1, v, gt x 3] ∧ x.set 3 v = [gt x 0, gt x 1, gt x 2, v] := by
  match x, h with
  | [a, b, c, d], _ => exact ⟨rfl, rfl, rfl, rfl⟩

theorem dsB_no {c l : Int} (h : c < 0 ∨ 4 ≤ c ∨ l ≤ 0 ∨ 5 ≤ l) : dsB c l = false := by
  unfold dsB
  simp only [Bool.and_eq_false_iff, decide_eq_false_iff_not]
  omega

theorem dsB_yes {c l : Int} (h1 : ¬ c < 0) (h2 : ¬ 4 ≤ c) (h3 : ¬ l ≤ 0) (h4 : ¬ 5 ≤ l) : dsB c l = true := by
  unfold dsB
  simp only [Bool.and_eq_true, decide_eq_true_eq]
  omega

set_option maxRecDepth 100000 in
set_option maxHeartbeats 4000000 in
theorem implDropStar_calls (q : Option Addr) (l k : Nat) (x : List Int) (ct lv : Int) (w : World) (hl : l ≤ maxLen) (hs : Sl w q l x) :
    Calls Try.prog 24 #[.agg #[.slice q l k], .int .i64 ct, .int .i64 lv] w fun e w' => ∃ ra rn rc, e = .returned (.agg #[.int .i64 (dsC x ct lv), .slice ra rn rc]) ∧ OS (InR w.heap.size w'.heap.size) ra rn (dsL x ct lv) w' ∧ Below w.heap.size w w' := by
  have M0 := ((Mm.start w).allocC [.slice q l k] 26).allocC [.int .i64 0, .slice none 0 0] 32
  simp only [World.size_alloc] at M0
  have hs0 := hs.below M0.bel (Nat.le_refl _)
  go_enter Try.func24, Try.ntmps24
  go_wp2_with fail
  refine (implLabelFault_calls q l k x _ hl hs0).mono ?_
  rintro e w1 ⟨rfl, g1⟩
  have M1 := M0.below g1
  have z1 := g1.size
  simp only [World.size_alloc] at z1
  have hs1 := hs0.below g1 (Nat.le_refl _)
  clear g1 M0 hs0
  by_cases h1 : fault x = 0
  rotate_left
  · have HC := hide (dsC_who (c := ct) (l := lv) h1)
    have HN : Hid (dsL x ct lv = []) := dsL_no (by rw [HC.out]; exact h1)
    have e1 : (fault x != 0) = true := by simpa using h1
    clear h1 hs1
    have r0 := (M1.get 0 rfl).cell 0 rfl
    have r1 := (M1.get 0 rfl).cell 1 rfl
    have f0 := (M1.get 0 rfl).fz 0 (by simp)
    have f1 := (M1.get 0 rfl).fz 1 (by simp)
    have HB := hide M1.bel
    clear M1
    go_wp2
    refine bodyPost_ret (v := .agg #[.int .i64 (fault x), .slice none 0 0]) (by simp [results, Try.results24, go_sem, r0, r1]) rfl ⟨none, 0, 0, by rw [HC.out], ?_, (HB.out.setCell (by simp <;> omega) _).setCell (by simp <;> omega) _⟩
    rw [HN.out]
    exact osNil _ _
  have e1 : (fault x != 0) = false := by simp [h1]
  obtain rfl := fault_len4 h1 hs
  have H1 := hide h1
  have hxl0 := hs.1
  clear h1 hs
  by_cases a1 : ct < 0
  · have HC := hide (dsC_rng (l := lv) H1.out (dsB_no (.inl a1)))
    have HN : Hid (dsL x ct lv = []) := dsL_no (by rw [HC.out]; decide)
    have r0 := (M1.get 0 rfl).cell 0 rfl
    have r1 := (M1.get 0 rfl).cell 1 rfl
    have f0 := (M1.get 0 rfl).fz 0 (by simp)
    have f1 := (M1.get 0 rfl).fz 1 (by simp)
    have HB := hide M1.bel
    clear M1
    go_wp2
    refine bodyPost_ret (v := .agg #[.int .i64 (3), .slice none 0 0]) (by simp [results, Try.results24, go_sem, r0, r1]) rfl ⟨none, 0, 0, by rw [HC.out], ?_, (HB.out.setCell (by simp <;> omega) _).setCell (by simp <;> omega) _⟩
    rw [HN.out]
    exact osNil _ _
  by_cases a2 : 4 ≤ ct
  · have HC := hide (dsC_rng (l := lv) H1.out (dsB_no (.inr (.inl a2))))
    have HN : Hid (dsL x ct lv = []) := dsL_no (by rw [HC.out]; decide)
    have r0 := (M1.get 0 rfl).cell 0 rfl
    have r1 := (M1.get 0 rfl).cell 1 rfl
    have f0 := (M1.get 0 rfl).fz 0 (by simp)
    have f1 := (M1.get 0 rfl).fz 1 (by simp)
    have HB := hide M1.bel
    clear M1
    go_wp2
    refine bodyPost_ret (v := .agg #[.int .i64 (3), .slice none 0 0]) (by simp [results, Try.results24, go_sem, r0, r1]) rfl ⟨none, 0, 0, by rw [HC.out], ?_, (HB.out.setCell (by simp <;> omega) _).setCell (by simp <;> omega) _⟩
    rw [HN.out]
    exact osNil _ _
  by_cases a3 : lv ≤ 0
  · have HC := hide (dsC_rng (c := ct) H1.out (dsB_no (.inr (.inr (.inl a3)))))
    have HN : Hid (dsL x ct lv = []) := dsL_no (by rw [HC.out]; decide)
    have r0 := (M1.get 0 rfl).cell 0 rfl
    have r1 := (M1.get 0 rfl).cell 1 rfl
    have f0 := (M1.get 0 rfl).fz 0 (by simp)
    have f1 := (M1.get 0 rfl).fz 1 (by simp)
    have HB := hide M1.bel
    clear M1
    go_wp2
    refine bodyPost_ret (v := .agg #[.int .i64 (3), .slice none 0 0]) (by simp [results, Try.results24, go_sem, r0, r1]) rfl ⟨none, 0, 0, by rw [HC.out], ?_, (HB.out.setCell (by simp <;> omega) _).setCell (by simp <;> omega) _⟩
    rw [HN.out]
    exact osNil _ _
  by_cases a4 : 5 ≤ lv
  · have HC := hide (dsC_rng (c := ct) H1.out (dsB_no (.inr (.inr (.inr a4)))))
    have HN : Hid (dsL x ct lv = []) := dsL_no (by rw [HC.out]; decide)
    have r0 := (M1.get 0 rfl).cell 0 rfl
    have r1 := (M1.get 0 rfl).cell 1 rfl
    have f0 := (M1.get 0 rfl).fz 0 (by simp)
    have f1 := (M1.get 0 rfl).fz 1 (by simp)
    have HB := hide M1.bel
    clear M1
    go_wp2
    refine bodyPost_ret (v := .agg #[.int .i64 (3), .slice none 0 0]) (by simp [results, Try.results24, go_sem, r0, r1]) rfl ⟨none, 0, 0, by rw [HC.out], ?_, (HB.out.setCell (by simp <;> omega) _).setCell (by simp <;> omega) _⟩
    rw [HN.out]
    exact osNil _ _
  have HD := hide (dsB_yes a1 a2 a3 a4)
  have d0 := (M1.get 1 rfl).cell 0 rfl
  obtain ⟨j, rfl⟩ := Int.eq_ofNat_of_zero_le (by omega : 0 ≤ ct)
  have hj : j < 4 := by omega
  go_wp2_with fail
  refine (levelsOf_calls q k x _ hs1).mono ?_
  rintro e w2 ⟨rfl, g2⟩
  unfold ints4
  have z2 := g2.size
  have HM1 := hide (M1.below g2)
  have M2 := (M1.below g2).allocC [.int .i64 (gt x 0), .int .i64 (gt x 1), .int .i64 (gt x 2), .int .i64 (gt x 3)] 68
  have HE := hide (set4e lv hxl0)
  clear M1 g2 hs1 d0
  obtain rfl | rfl | rfl | rfl : j = 0 ∨ j = 1 ∨ j = 2 ∨ j = 3 := by omega
  · have b0 := (M2.get 0 rfl).cell 0 rfl
    by_cases h4 : gt x 0 = 0
    rotate_left
    · have e4 : (gt x 0 != 0) = true := by simpa using h4
      have HC := hide (dsC_non (j := 0) H1.out HD.out h4)
      have HN : Hid (dsL x ((0 : Nat) : Int) lv = []) := dsL_no (by rw [HC.out]; decide)
      clear h4
      have r0 := (M2.get 1 rfl).cell 0 rfl
      have r1 := (M2.get 1 rfl).cell 1 rfl
      have f0 := (M2.get 1 rfl).fz 0 (by simp)
      have f1 := (M2.get 1 rfl).fz 1 (by simp)
      have HB := hide M2.bel
      clear M2
      go_wp2
      refine bodyPost_ret (v := .agg #[.int .i64 (4), .slice none 0 0]) (by simp [results, Try.results24, go_sem, r0, r1]) rfl ⟨none, 0, 0, by rw [HC.out], ?_, (HB.out.setCell (by simp <;> omega) _).setCell (by simp <;> omega) _⟩
      rw [HN.out]
      exact osNil _ _
    have e4 : (gt x 0 != 0) = false := by simp [h4]
    have HC := hide (dsC_ok (j := 0) H1.out HD.out h4)
    have HN := hide ((dsL_ok (j := 0) HC.out).trans HE.out.1)
    have M3 := HM1.out.allocC [.int .i64 lv, .int .i64 (gt x 1), .int .i64 (gt x 2), .int .i64 (gt x 3)] 68
    clear h4
    go_wp2_with fail
    refine (labelOf_calls _ _ _ _ _).mono ?_
    rintro e w4 ⟨bb, rfl, hb1, blk, g4⟩
    have M4 := M3.below g4
    have z4 := g4.size
    simp only [World.size_alloc] at hb1 z4
    have lb := blk.1
    have r0 := (M4.get 1 rfl).cell 0 rfl
    have r1 := (M4.get 1 rfl).cell 1 rfl
    have f0 := (M4.get 1 rfl).fz 0 (by simp)
    have f1 := (M4.get 1 rfl).fz 1 (by simp)
    have HB := hide M4.bel
    have HBk := hide blk
    clear M2 M3 M4 g4 blk b0
    go_wp2
    refine bodyPost_ret (v := .agg #[.int .i64 0, .slice (some ⟨bb, 0, none⟩) 4 4]) (by simp [results, Try.results24, go_sem, r0, r1]) rfl ⟨_, _, _, by rw [HC.out], ?_, (HB.out.setCell (by simp <;> omega) _).setCell (by simp <;> omega) _⟩
    rw [HN.out]
    exact OS.ofBlk ((HBk.out.setCell (by show w.heap.size + 1 ≠ _; omega) _).setCell (by show w.heap.size + 1 ≠ _; omega) _) ⟨by omega, by simpa using lb⟩ rfl (by omega)
  · have b1 := (M2.get 0 rfl).cell 1 rfl
    by_cases h4 : gt x 1 = 0
    rotate_left
    · have e4 : (gt x 1 != 0) = true := by simpa using h4
      have HC := hide (dsC_non (j := 1) H1.out HD.out h4)
      have HN : Hid (dsL x ((1 : Nat) : Int) lv = []) := dsL_no (by rw [HC.out]; decide)
      clear h4
      have r0 := (M2.get 1 rfl).cell 0 rfl
      have r1 := (M2.get 1 rfl).cell 1 rfl
      have f0 := (M2.get 1 rfl).fz 0 (by simp)
      have f1 := (M2.get 1 rfl).fz 1 (by simp)
      have HB := hide M2.bel
      clear M2
      go_wp2
      refine bodyPost_ret (v := .agg #[.int .i64 (4), .slice none 0 0]) (by simp [results, Try.results24, go_sem, r0, r1]) rfl ⟨none, 0, 0, by rw [HC.out], ?_, (HB.out.setCell (by simp <;> omega) _).setCell (by simp <;> omega) _⟩
      rw [HN.out]
      exact osNil _ _
    have e4 : (gt x 1 != 0) = false := by simp [h4]
    have HC := hide (dsC_ok (j := 1) H1.out HD.out h4)
    have HN := hide ((dsL_ok (j := 1) HC.out).trans HE.out.2.1)
    have M3 := HM1.out.allocC [.int .i64 (gt x 0), .int .i64 lv, .int .i64 (gt x 2), .int .i64 (gt x 3)] 68
    clear h4
    go_wp2_with fail
    refine (labelOf_calls _ _ _ _ _).mono ?_
    rintro e w4 ⟨bb, rfl, hb1, blk, g4⟩
    have M4 := M3.below g4
    have z4 := g4.size
    simp only [World.size_alloc] at hb1 z4
    have lb := blk.1
    have r0 := (M4.get 1 rfl).cell 0 rfl
    have r1 := (M4.get 1 rfl).cell 1 rfl
    have f0 := (M4.get 1 rfl).fz 0 (by simp)
    have f1 := (M4.get 1 rfl).fz 1 (by simp)
    have HB := hide M4.bel
    have HBk := hide blk
    clear M2 M3 M4 g4 blk b1
    go_wp2
    refine bodyPost_ret (v := .agg #[.int .i64 0, .slice (some ⟨bb, 0, none⟩) 4 4]) (by simp [results, Try.results24, go_sem, r0, r1]) rfl ⟨_, _, _, by rw [HC.out], ?_, (HB.out.setCell (by simp <;> omega) _).setCell (by simp <;> omega) _⟩
    rw [HN.out]
    exact OS.ofBlk ((HBk.out.setCell (by show w.heap.size + 1 ≠ _; omega) _).setCell (by show w.heap.size + 1 ≠ _; omega) _) ⟨by omega, by simpa using lb⟩ rfl (by omega)
  · have b2 := (M2.get 0 rfl).cell 2 rfl
    by_cases h4 : gt x 2 = 0
    rotate_left
    · have e4 : (gt x 2 != 0) = true := by simpa using h4
      have HC := hide (dsC_non (j := 2) H1.out HD.out h4)
      have HN : Hid (dsL x ((2 : Nat) : Int) lv = []) := dsL_no (by rw [HC.out]; decide)
      clear h4
      have r0 := (M2.get 1 rfl).cell 0 rfl
      have r1 := (M2.get 1 rfl).cell 1 rfl
      have f0 := (M2.get 1 rfl).fz 0 (by simp)
      have f1 := (M2.get 1 rfl).fz 1 (by simp)
      have HB := hide M2.bel
      clear M2
      go_wp2
      refine bodyPost_ret (v := .agg #[.int .i64 (4), .slice none 0 0]) (by simp [results, Try.results24, go_sem, r0, r1]) rfl ⟨none, 0, 0, by rw [HC.out], ?_, (HB.out.setCell (by simp <;> omega) _).setCell (by simp <;> omega) _⟩
      rw [HN.out]
      exact osNil _ _
    have e4 : (gt x 2 != 0) = false := by simp [h4]
    have HC := hide (dsC_ok (j := 2) H1.out HD.out h4)
    have HN := hide ((dsL_ok (j := 2) HC.out).trans HE.out.2.2.1)
    have M3 := HM1.out.allocC [.int .i64 (gt x 0), .int .i64 (gt x 1), .int .i64 lv, .int .i64 (gt x 3)] 68
    clear h4
    go_wp2_with fail
    refine (labelOf_calls _ _ _ _ _).mono ?_
    rintro e w4 ⟨bb, rfl, hb1, blk, g4⟩
    have M4 := M3.below g4
    have z4 := g4.size
    simp only [World.size_alloc] at hb1 z4
    have lb := blk.1
    have r0 := (M4.get 1 rfl).cell 0 rfl
    have r1 := (M4.get 1 rfl).cell 1 rfl
    have f0 := (M4.get 1 rfl).fz 0 (by simp)
    have f1 := (M4.get 1 rfl).fz 1 (by simp)
    have HB := hide M4.bel
    have HBk := hide blk
    clear M2 M3 M4 g4 blk b2
    go_wp2
    refine bodyPost_ret (v := .agg #[.int .i64 0, .slice (some ⟨bb, 0, none⟩) 4 4]) (by simp [results, Try.results24, go_sem, r0, r1]) rfl ⟨_, _, _, by rw [HC.out], ?_, (HB.out.setCell (by simp <;> omega) _).setCell (by simp <;> omega) _⟩
    rw [HN.out]
    exact OS.ofBlk ((HBk.out.setCell (by show w.heap.size + 1 ≠ _; omega) _).setCell (by show w.heap.size + 1 ≠ _; omega) _) ⟨by omega, by simpa using lb⟩ rfl (by omega)
  · have b3 := (M2.get 0 rfl).cell 3 rfl
    by_cases h4 : gt x 3 = 0
    rotate_left
    · have e4 : (gt x 3 != 0) = true := by simpa using h4
      have HC := hide (dsC_non (j := 3) H1.out HD.out h4)
      have HN : Hid (dsL x ((3 : Nat) : Int) lv = []) := dsL_no (by rw [HC.out]; decide)
      clear h4
      have r0 := (M2.get 1 rfl).cell 0 rfl
      have r1 := (M2.get 1 rfl).cell 1 rfl
      have f0 := (M2.get 1 rfl).fz 0 (by simp)
      have f1 := (M2.get 1 rfl).fz 1 (by simp)
      have HB := hide M2.bel
      clear M2
      go_wp2
      refine bodyPost_ret (v := .agg #[.int .i64 (4), .slice none 0 0]) (by simp [results, Try.results24, go_sem, r0, r1]) rfl ⟨none, 0, 0, by rw [HC.out], ?_, (HB.out.setCell (by simp <;> omega) _).setCell (by simp <;> omega) _⟩
      rw [HN.out]
      exact osNil _ _
    have e4 : (gt x 3 != 0) = false := by simp [h4]
    have HC := hide (dsC_ok (j := 3) H1.out HD.out h4)
    have HN := hide ((dsL_ok (j := 3) HC.out).trans HE.out.2.2.2)
    have M3 := HM1.out.allocC [.int .i64 (gt x 0), .int .i64 (gt x 1), .int .i64 (gt x 2), .int .i64 lv] 68
    clear h4
    go_wp2_with fail
    refine (labelOf_calls _ _ _ _ _).mono ?_
    rintro e w4 ⟨bb, rfl, hb1, blk, g4⟩
    have M4 := M3.below g4
    have z4 := g4.size
    simp only [World.size_alloc] at hb1 z4
    have lb := blk.1
    have r0 := (M4.get 1 rfl).cell 0 rfl
    have r1 := (M4.get 1 rfl).cell 1 rfl
    have f0 := (M4.get 1 rfl).fz 0 (by simp)
    have f1 := (M4.get 1 rfl).fz 1 (by simp)
    have HB := hide M4.bel
    have HBk := hide blk
    clear M2 M3 M4 g4 blk b3
    go_wp2
    refine bodyPost_ret (v := .agg #[.int .i64 0, .slice (some ⟨bb, 0, none⟩) 4 4]) (by simp [results, Try.results24, go_sem, r0, r1]) rfl ⟨_, _, _, by rw [HC.out], ?_, (HB.out.setCell (by simp <;> omega) _).setCell (by simp <;> omega) _⟩
    rw [HN.out]
    exact OS.ofBlk ((HBk.out.setCell (by show w.heap.size + 1 ≠ _; omega) _).setCell (by show w.heap.size + 1 ≠ _; omega) _) ⟨by omega, by simpa using lb⟩ rfl (by omega)

end Go.Proofs.Ytdcfdmcooonfkaa
