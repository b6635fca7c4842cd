import Derived.Test.YtdcfdmcooonfkaaPaS2
import Derived.Test.YtdcfdmcooonfkaaL1Copy
import Derived.Test.YtdcfdmcooonfkaaKgG
import Derived.WalkKit
import Derived.ProofKit
import Derived.OpenShut
import Derived.ShutString
import Derived.ChangeOld
import Derived.Below
import Derived.WalkSpells
import Derived.Deep.QuietTactic
import Derived.BigQuiet
import Derived.Deep.RegionWith
import Derived.Deep.WholeRow
import Derived.Deep.DeepCutAuto
import Derived.Deep.RegionHeld2
import Derived.Deep.AppendLies
import Derived.Deep.RegionLaw
namespace Go.Proofs.Ytdcfdmcooonfkaa
open Go.ChangeShapes Go.WideShapes Go.ChangeAt Go.RowKit

theorem dsC_who {x : List Int} {c l : Int} (h : fault x ≠ 0) : dsC x c l = fault x := if_neg h

theorem dsC_rng {x : List Int} {c l : Int} (h : fault x = 0) (hb : dsB c l = false) : dsC x c l = 3 := by unfold dsC; rw [if_pos h, hb]; rfl

theorem dsC_non {x : List Int} {j : Nat} {l : Int} (h : fault x = 0) (hb : dsB (j : Int) l = true) (hg : gt x j ≠ 0) : dsC x (j : Int) l = 4 := by unfold dsC; rw [if_pos h, hb, Int.toNat_natCast, if_neg hg]; rfl

theorem dsC_ok {x : List Int} {j : Nat} {l : Int} (h : fault x = 0) (hb : dsB (j : Int) l = true) (hg : gt x j = 0) : dsC x (j : Int) l = 0 := by unfold dsC; rw [if_pos h, hb, Int.toNat_natCast, if_pos hg]; rfl

theorem dsL_no {x : List Int} {c l : Int} (h : dsC x c l ≠ 0) : dsL x c l = [] := if_neg h

theorem dsL_ok {x : List Int} {j : Nat} {l : Int} (h : dsC x (j : Int) l = 0) : dsL x (j : Int) l = x.set j l := by unfold dsL; rw [resOf_ok h, Int.toNat_natCast]

set_option maxRecDepth 100000 in
set_option maxHeartbeats 2000000 in
theorem specDropStar_calls (q : Option Addr) (l k : Nat) (x : List Int) (ct lv : Int) (w : World) (hl : l ≤ maxLen) (hs : Sl w q l x) :
    Calls Try.prog 31 #[.agg #[.slice q l k], .int .i64 ct, .int .i64 lv] w fun e w' => ∃ ra rn rc, e = .returned (.agg #[.int .i64 (dsC x ct lv), .slice ra rn rc]) ∧ OS (InR w.heap.size w'.heap.size) ra rn (dsL x ct lv) w' ∧ Below w.heap.size w w' := by
  have M0 := ((Mm.start w).allocC [.slice q l k] 26).allocC [.int .i64 0, .slice none 0 0] 32
  simp only [World.size_alloc] at M0
  have c0 := (M0.get 1 rfl).cell 0 rfl
  have hs0 := hs.below M0.bel (Nat.le_refl _)
  go_enter Try.func31, Try.ntmps31
  go_wp2_with fail
  refine (l1FaultO_calls _ 0 q l k x _ hl (by simp; omega) c0 hs0).mono ?_
  rintro e w1 ⟨rfl, g1⟩
  have M1 := M0.below g1
  have z1 := g1.size
  simp only [World.size_alloc] at z1
  clear g1 M0 hs0 c0
  by_cases h1 : fault x = 0
  rotate_left
  · have HC := hide (dsC_who (c := ct) (l := lv) h1)
    have HN : Hid (dsL x ct lv = []) := dsL_no (by rw [HC.out]; exact h1)
    have e1 : (fault x != 0) = true := by simpa using h1
    clear h1
    have r0 := (M1.get 0 rfl).cell 0 rfl
    have r1 := (M1.get 0 rfl).cell 1 rfl
    have f0 := (M1.get 0 rfl).fz 0 (by simp)
    have f1 := (M1.get 0 rfl).fz 1 (by simp)
    have HB := hide M1.bel
    clear M1
    go_wp2
    refine bodyPost_ret (v := .agg #[.int .i64 (fault x), .slice none 0 0]) (by simp [results, Try.results31, go_sem, r0, r1]) rfl ⟨none, 0, 0, by rw [HC.out], ?_, (HB.out.setCell (by simp <;> omega) _).setCell (by simp <;> omega) _⟩
    rw [HN.out]
    exact osNil _ _
  have e1 : (fault x != 0) = false := by simp [h1]
  obtain rfl := fault_len4 h1 hs
  have H1 := hide h1
  clear h1
  cases h2 : (decide (0 ≤ ct) && decide (ct ≤ 3)) with
  | false =>
    have HC := hide (dsC_rng (l := lv) H1.out (by unfold dsB; rw [h2]; rfl))
    have HN : Hid (dsL x ct lv = []) := dsL_no (by rw [HC.out]; decide)
    go_wp2_with fail
    refine (in_calls ct 0 3 _).mono ?_
    rintro e w2 ⟨rfl, g2⟩
    rw [h2]
    have M2 := M1.below g2
    clear h2 g2 M1
    have r0 := (M2.get 0 rfl).cell 0 rfl
    have r1 := (M2.get 0 rfl).cell 1 rfl
    have f0 := (M2.get 0 rfl).fz 0 (by simp)
    have f1 := (M2.get 0 rfl).fz 1 (by simp)
    have HB := hide M2.bel
    clear M2
    go_wp2
    refine bodyPost_ret (v := .agg #[.int .i64 (3), .slice none 0 0]) (by simp [results, Try.results31, go_sem, r0, r1]) rfl ⟨none, 0, 0, by rw [HC.out], ?_, (HB.out.setCell (by simp <;> omega) _).setCell (by simp <;> omega) _⟩
    rw [HN.out]
    exact osNil _ _
  | true =>
  have H2 := hide h2
  go_wp2_with fail
  refine (in_calls ct 0 3 _).mono ?_
  rintro e w2 ⟨rfl, g2⟩
  rw [h2]
  have M2 := M1.below g2
  have z2 := g2.size
  clear h2 g2 M1
  go_wp2_with fail
  refine (in_calls lv 1 4 _).mono ?_
  rintro e w3 ⟨rfl, g3⟩
  have M3 := M2.below g3
  have z3 := g3.size
  clear g3 M2
  cases h3 : (decide (1 ≤ lv) && decide (lv ≤ 4)) with
  | false =>
    have HC := hide (dsC_rng H1.out (by unfold dsB; rw [h3, H2.out]; rfl))
    have HN : Hid (dsL x ct lv = []) := dsL_no (by rw [HC.out]; decide)
    clear h3
    have r0 := (M3.get 0 rfl).cell 0 rfl
    have r1 := (M3.get 0 rfl).cell 1 rfl
    have f0 := (M3.get 0 rfl).fz 0 (by simp)
    have f1 := (M3.get 0 rfl).fz 1 (by simp)
    have HB := hide M3.bel
    clear M3
    go_wp2
    refine bodyPost_ret (v := .agg #[.int .i64 (3), .slice none 0 0]) (by simp [results, Try.results31, go_sem, r0, r1]) rfl ⟨none, 0, 0, by rw [HC.out], ?_, (HB.out.setCell (by simp <;> omega) _).setCell (by simp <;> omega) _⟩
    rw [HN.out]
    exact osNil _ _
  | true =>
  have HD : Hid (dsB ct lv = true) := by show _ = _; unfold dsB; rw [h3, H2.out]; rfl
  obtain ⟨j, rfl⟩ : ∃ j : Nat, ct = (j : Int) := ⟨ct.toNat, by have := H2.out; simp at this; omega⟩
  have hj : j < 4 := by have := H2.out; simp at this; omega
  have hji : (j : Int) < 4 := by omega
  have hj0 : (0 : Int) ≤ (j : Int) := by omega
  have hs3 := hs.below M3.bel (Nat.le_refl _)
  have HS3 := hide hs3
  have hxl0 := hs.1
  obtain ⟨_, hxc⟩ := hs
  obtain ⟨xb, xo, rfl, hxb, hxc⟩ := hxc (by omega)
  have cx := (M3.bel.cell (p := ⟨xb, xo + j, none⟩) hxb).trans (hxc j hj)
  have d0 := (M3.get 1 rfl).cell 0 rfl
  clear h3 H2 hs3
  by_cases h4 : gt x j = 0
  rotate_left
  · have e4 : (gt x j != 0) = true := by simpa using h4
    have HC := hide (dsC_non (j := j) H1.out HD.out h4)
    have HN : Hid (dsL x (j : Int) lv = []) := dsL_no (by rw [HC.out]; decide)
    clear h4
    have r0 := (M3.get 0 rfl).cell 0 rfl
    have r1 := (M3.get 0 rfl).cell 1 rfl
    have f0 := (M3.get 0 rfl).fz 0 (by simp)
    have f1 := (M3.get 0 rfl).fz 1 (by simp)
    have HB := hide M3.bel
    clear M3
    go_wp2
    refine bodyPost_ret (v := .agg #[.int .i64 (4), .slice none 0 0]) (by simp [results, Try.results31, go_sem, r0, r1]) rfl ⟨none, 0, 0, by rw [HC.out], ?_, (HB.out.setCell (by simp <;> omega) _).setCell (by simp <;> omega) _⟩
    rw [HN.out]
    exact osNil _ _
  have e4 : (gt x j != 0) = false := by simp [h4]
  have HC := hide (dsC_ok (j := j) H1.out HD.out h4)
  have HN := hide (dsL_ok (j := j) HC.out)
  clear h4
  go_wp2_with fail
  refine (l1Copy_O _ 4 k x _ (by omega) HS3.out).mono ?_
  rintro e w4 ⟨ra, rc, rfl, o4, g4⟩
  have hlx : x.length = 4 := hxl0
  obtain ⟨_, _, h4 | ⟨bb, rfl, hbb, blk⟩⟩ := o4
  · omega
  have z4 := g4.size
  have hb1 := hbb.1
  have hb2 := hbb.2
  have M4 := (M3.below g4).allocC [.slice (some ⟨bb, 0, none⟩) 4 rc] 26
  have blk1 := blk.below ((Below.refl w4.heap.size w4).alloc (Nat.le_refl _) (.cells #[.slice (some ⟨bb, 0, none⟩) 4 rc] 26))
  have M5 := ((M3.below g4).out (B := bb) (T := bb + 1) ((OutS.refl (InR bb (bb + 1)) _).setCell (p := ⟨bb, j, none⟩) ⟨Nat.le_refl _, Nat.lt_succ_self _⟩ (.int .i64 lv)) (by omega) (by simp) (by simp <;> omega)).allocC [.slice (some ⟨bb, 0, none⟩) 4 rc] 26
  simp only [World.size_setCell] at M5
  have HBs := hide ((blk_store (x := lv) blk (by omega : j < x.length)).below ((Below.refl _ _).alloc (Nat.le_refl _) (.cells #[.slice (some ⟨bb, 0, none⟩) 4 rc] 26)))
  have v0 := (M4.get 0 rfl).cell 0 rfl
  have v1 := (M5.get 0 rfl).cell 0 rfl
  have r0 := (M5.get 1 rfl).cell 0 rfl
  have r1 := (M5.get 1 rfl).cell 1 rfl
  have f0 := (M5.get 1 rfl).fz 0 (by simp)
  have f1 := (M5.get 1 rfl).fz 1 (by simp)
  have HB5 := hide M5.bel
  have bc := blk1.2.1 j (by omega)
  have bf := blk1.2.2 j
  have HLn : Hid ((x.set j lv).length = 4) := by show _ = _; rw [List.length_set]; exact hxl0
  clear M3 M4 M5 g4 blk blk1 hbb HS3 d0 cx hxc
  go_wp2
  refine bodyPost_ret (v := .agg #[.int .i64 0, .slice (some ⟨bb, 0, none⟩) 4 rc]) (by simp [results, Try.results31, go_sem, r0, r1]) rfl ⟨_, _, _, by rw [HC.out], ?_, (HB5.out.setCell (by simp <;> omega) _).setCell (by simp <;> omega) _⟩
  rw [HN.out]
  exact OS.ofBlk ((HBs.out.setCell (by show w.heap.size + 1 ≠ _; omega) _).setCell (by show w.heap.size + 1 ≠ _; omega) _) ⟨by omega, by simp; omega⟩ HLn.out (by omega)

set_option maxRecDepth 100000 in
set_option maxHeartbeats 4000000 in
theorem specStarsOf_calls (q : Option Addr) (l k : Nat) (x : List Int) (w : World) (hl : l ≤ maxLen) (hs : Sl w q l x) :
    Calls Try.prog 28 #[.agg #[.slice q l k]] w fun e w' => ∃ ra rn rc, e = .returned (.agg #[.int .i64 (fault x), .slice ra rn rc]) ∧ OS (InR w.heap.size w'.heap.size) ra rn (stL x) w' ∧ Below w.heap.size w w' := by
  have M0 := ((Mm.start w).allocC [.slice q l k] 26).allocC [.int .i64 0, .slice none 0 0] 47
  simp only [World.size_alloc] at M0
  have c0 := (M0.get 1 rfl).cell 0 rfl
  have hs0 := hs.below M0.bel (Nat.le_refl _)
  obtain ⟨i0, hi, hz0, hz1, hz2⟩ := info_parts info2
  go_enter Try.func28, Try.ntmps28
  go_wp2_with fail
  refine (l1FaultO_calls _ 0 q l k x _ hl (by simp; omega) c0 hs0).mono ?_
  rintro e w1 ⟨rfl, g1⟩
  have z1 : w.heap.size + 2 ≤ w1.heap.size := by have := g1.size; simpa using this
  have M1 := M0.below g1
  clear g1 M0 hs0 c0
  by_cases h1 : fault x = 0
  rotate_left
  · have HC : Hid (fault x = fault x) := rfl
    have HN : Hid (stL x = []) := if_neg h1
    have e1 : (fault x != 0) = true := by simpa using h1
    clear h1
    have r0 := (M1.get 0 rfl).cell 0 rfl
    have r1 := (M1.get 0 rfl).cell 1 rfl
    have f0 := (M1.get 0 rfl).fz 0 (by simp)
    have f1 := (M1.get 0 rfl).fz 1 (by simp)
    have HB := hide M1.bel
    clear M1
    go_wp2
    refine bodyPost_ret (v := .agg #[.int .i64 (fault x), .slice none 0 0]) (by simp [results, Try.results28, go_sem, r0, r1]) rfl ⟨none, 0, 0, rfl, ?_, (HB.out.setCell (by simp <;> omega) _).setCell (by simp <;> omega) _⟩
    rw [HN.out]
    exact osNil _ _
  have e1 : (fault x != 0) = false := by simp [h1]
  obtain rfl := fault_len4 h1 hs
  have hxl0 := hs.1
  have HC : Hid (fault x = 0) := h1
  have HN : Hid (stL x = stK x 4) := by show _ = _; unfold stL; rw [resOf_ok h1, hxl0]
  obtain ⟨_, hxc⟩ := hs
  obtain ⟨xb, xo, rfl, hxb, hxc⟩ := hxc (by omega)
  clear h1
  obtain ⟨u, hu⟩ : ∃ y, y = w1.alloc (.cells #[.int .i64 0, .slice none 0 0] 47) := ⟨_, rfl⟩
  have N2 := M1.allocC [.int .i64 0, .slice none 0 0] 47
  rw [← hu] at N2
  have zu : u.heap.size = w1.heap.size + 1 := by rw [hu]; simp
  have HN2 := hide N2
  have Hu := hide hu
  clear N2 M1 hu
  go_upto_region 5 with fail
  rw [← Hu.out]
  clear Hu
  go_wp2
  go_loopw [5] (fun i wr => ∃ (j : Nat) (v : Value), j ≤ 4 ∧ i = .int .i64 j ∧ wr.ownsRow u.heap.size 2 1 v (stK x j).length ((stK x j).map (Value.int .i64)) ∧ Mm w wr [] [(w1.heap.size, w1.heap.size + 1, Cs w1.heap.size [.int .i64 0, v]), (w.heap.size + 1, w.heap.size + 1 + 1, Cs (w.heap.size + 1) [.int .i64 0, .slice none 0 0]), (w.heap.size, w.heap.size + 1, Cs w.heap.size [.slice (some ⟨xb, xo, none⟩) 4 k])] ∧ u.heap.size ≤ wr.heap.size) (fun i _ => 4 - (intOf i).toNat)
  case atStart => exact ⟨0, _, Nat.zero_le _, rfl, by simp [stK]; exact World.ownsRow_nil _ _ _ _, HN2.out, Nat.le_refl _⟩
  case round =>
    clear HN2
    obtain ⟨j, v, hj4, rfl, own, M, hB⟩ := hrel
    have d0 := (M.get 2 rfl).cell 0 rfl
    have o1 := (M.get 0 rfl).cell 1 rfl
    have o0 := (M.get 0 rfl).cell 0 rfl
    have p1 := (M.get 0 rfl).fz 1 (by simp)
    have HM := hide M
    have hbel := M.bel
    have hkl := stK_le x j
    have l1 : w1.heap.size < wr.heap.size := by omega
    have l0 : w.heap.size < wr.heap.size := by omega
    have lb : xb < wr.heap.size := by omega
    by_cases hlt : j < 4
    · have u0 := (hbel.cell (p := ⟨xb, xo + j, none⟩) hxb).trans (hxc j hlt)
      have k0 : (0 : Int) ≤ (j : Int) := by omega
      have k1 : (j : Int) < 4 := by omega
      clear hbel M
      by_cases h2 : gt x j = 0
      · have e2 : (gt x j == 0) = true := by simpa using h2
        have HK := hide (stK_y h2)
        have HC1 : Hid (Below wr.heap.size wr (wr.alloc (.cells #[.int .i64 (j : Int)] 2))) := (Below.refl wr.heap.size wr).alloc (Nat.le_refl _) _
        have HW := hide own
        clear h2 own
        go_wp2_with (first
          | (at_builtin; go_loud (refine wpList_append_lies _ rfl _ _ 24 rfl u.heap.size 2 i0 (.int .i64 0) 1 8 Try.underlying24 hi hz0 hz1 hz2 rfl (by decide) v _ _ rfl (ownR_below HW.out HC1.out) ⟨wr.heap.size, 0, none⟩ 1 1 [.int .i64 (j : Int)] rfl rfl (one_new (by go_simp)) (by simp [Value.oneCell']) (by omega) (by unfold maxLen; omega) (by omega) (by simp; omega) (wr.heap.size + 1) (by simp) ?_))
          | go_in)
        intro g cp w5 hown1 hgrow hat hlt1
        have MG := HM.out.grownN HC1.out hgrow (B := u.heap.size) (by omega) hB (fun q e => (HW.out.lt q e).1) (by simp) (by simp <;> omega)
        have s1 := (MG.get 0 rfl).cell 1 rfl
        have x1 := (MG.get 0 rfl).fz 1 (by simp)
        have hz3 := hgrow.size
        have MP := MG.put 0 rfl 1 (by simp) (.slice (some ⟨g, 0, none⟩) ((stK x j).length + 1) cp) (by omega) (by simp) (by simp <;> omega)
        simp only [List.set] at MP
        have HMP := hide MP
        have HOW2 := hide (ownR_set hown1 (P := w1.heap.size) (o := 1) (by omega) (.slice (some ⟨g, 0, none⟩) ((stK x j).length + 1) cp))
        clear MP MG hown1 hgrow hat
        go_wp2
        go_roundw
        case rel => exact ⟨j + 1, _, by omega, by go_num, by rw [HK.out, List.length_append, List.map_append, zu]; exact HOW2.out, HMP.out, by simp; simp at hz3; omega⟩
        case measure => simp [intOf]; omega
      · have e2 : (gt x j == 0) = false := by simpa using h2
        have HK := hide (stK_n h2)
        have HW := hide own
        clear h2 own
        go_wp2
        go_roundw
        case rel => exact ⟨j + 1, v, by omega, by go_num, by rw [HK.out]; exact HW.out, HM.out, hB⟩
        case measure => simp [intOf]; omega
    · obtain rfl : j = 4 := by omega
      obtain ⟨ra, rc, rfl, fr⟩ := owns_osl (by omega) own
      have M5 := M.fact OS.loc (OS.ofOSl fr)
      have c0_ := (M5.get 2 rfl).cell 0 rfl
      have c1_ := (M5.get 2 rfl).cell 1 rfl
      have f0_ := (M5.get 2 rfl).fz 0 (by simp)
      have f1_ := (M5.get 2 rfl).fz 1 (by simp)
      have HB := hide M5.bel
      have HO := hide (M5.get 0 rfl)
      clear M M5 own fr HM hbel hlt hxc
      go_wp2
      refine bodyPost_ret (v := .agg #[.int .i64 0, .slice ra (stK x 4).length rc]) (by simp [results, Try.results28, go_sem, c0_, c1_]) rfl ⟨ra, _, rc, by rw [HC.out], ?_, (HB.out.setCell (by simp <;> omega) _).setCell (by simp <;> omega) _⟩
      rw [HN.out]
      exact (OS.loc.setC (OS.loc.setC HO.out (fun h => by have := h.1; simp at this; omega) _) (fun h => by have := h.1; simp at this; omega) _).mono (fun q e => ⟨by have := e.1; omega, by have := e.2; simp; omega⟩)

end Go.Proofs.Ytdcfdmcooonfkaa
