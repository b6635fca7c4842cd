import Derived.Test.YtpelhkailpdhoagMeetI
import Derived.Test.YtpelhkailpdhoagMeet2
import Derived.Test.YtpelhkailpdhoagMarks
import Derived.Test.YtpelhkailpdhoagSj2
import Derived.WalkKit
import Derived.ProofKit
import Derived.OpenShut
import Derived.ShutString
import Derived.ChangeOld
import Derived.Below
import Derived.WalkSpells
import Derived.Deep.QuietTactic
import Derived.BigQuiet
import Derived.Deep.RegionWith
import Derived.Deep.WholeRow
import Derived.Deep.DeepCutAuto
import Derived.Deep.RegionHeld2
import Derived.Deep.AppendLies
import Derived.Deep.RegionLaw
namespace Go.Proofs.Ytpelhkailpdhoag
open Go.ChangeShapes Go.WideShapes Go.ChangeAt Go.RowKit

theorem law_bigA_MeetLabels (a0 a1 : Option Addr) (l0 c0 l1 c1 : Nat) (w : World) (hm0 : l0 ≤ maxLen) (hbig : 1048576 < l0) :
    Calls Try.prog 5 #[.agg #[.slice a0 l0 c0], .agg #[.slice a1 l1 c1]] w fun e w' => e = .returned (.bool true) ∧ Below w.heap.size w w' := by
  have hb0 := fun o1 o2 => ((Below.refl w.heap.size w).alloc (Nat.le_refl _) o1).alloc (by simp) o2
  go_enter Try.func5, Try.ntmps5
  go_wp2_with fail
  refine (szLabel_calls a0 l0 c0 1048576 _ (by omega) (by omega) hm0).mono ?_
  rintro e w1 ⟨rfl, hb⟩
  have hbw : Below w.heap.size w w1 := (hb0 _ _).trans (hb.mono (by simp; omega))
  rw [szI_neg (by omega)]
  go_wp2
  go_ret
  exact ⟨rfl, hbw⟩

theorem law_bigB_MeetLabels (a0 a1 : Option Addr) (l0 c0 l1 c1 : Nat) (w : World) (hm0 : l0 ≤ maxLen) (hm1 : l1 ≤ maxLen) (h0 : l0 ≤ 1048576) (hbig : 1048576 < l0 + l1) :
    Calls Try.prog 5 #[.agg #[.slice a0 l0 c0], .agg #[.slice a1 l1 c1]] w fun e w' => e = .returned (.bool true) ∧ Below w.heap.size w w' := by
  have hb0 := fun o1 o2 => ((Below.refl w.heap.size w).alloc (Nat.le_refl _) o1).alloc (by simp) o2
  go_enter Try.func5, Try.ntmps5
  go_wp2_with fail
  refine (szLabel_calls a0 l0 c0 1048576 _ (by omega) (by omega) hm0).mono ?_
  rintro e w1 ⟨rfl, hb⟩
  have h1 : Below w.heap.size w w1 := (hb0 _ _).trans (hb.mono (by simp; omega))
  have cB1 : w1.cell? ⟨w.heap.size + 1, 0, none⟩ = some (.slice a1 l1 c1) := (hb.cell (p := ⟨w.heap.size + 1, 0, none⟩) (by simp)).trans (by go_simp)
  rw [szI_pos (by omega)]
  have hge : 0 ≤ 1048576 - (l0 : Int) := by omega
  clear hb hb0
  go_wp2_with fail
  refine (szLabel_calls a1 l1 c1 _ _ (by omega) (by omega) hm1).mono ?_
  rintro e w2 ⟨rfl, hb⟩
  have hbw : Below w.heap.size w w2 := h1.trans (hb.mono h1.size)
  rw [szI_neg (by omega)]
  go_wp2
  go_ret
  exact ⟨rfl, hbw⟩

set_option maxRecDepth 100000 in
set_option maxHeartbeats 4000000 in
theorem law_small_MeetLabels (a0 a1 : Option Addr) (l0 c0 l1 c1 : Nat) (z0 z1 : List Int) (w : World) (h0 : l0 + l1 ≤ 1048576) (hs0 : Sl w a0 l0 z0) (hs1 : Sl w a1 l1 z1) :
    Calls Try.prog 5 #[.agg #[.slice a0 l0 c0], .agg #[.slice a1 l1 c1]] w fun e w' => e = .returned (.bool true) ∧ Below w.heap.size w w' := by
  have hl0 : l0 ≤ 1048576 := by omega
  have hl1 : l1 ≤ 1048576 := by omega
  have hm0 : l0 ≤ maxLen := by unfold maxLen; omega
  have hm1 : l1 ≤ maxLen := by unfold maxLen; omega
  have hb0 := fun o1 o2 => ((Below.refl w.heap.size w).alloc (Nat.le_refl _) o1).alloc (by simp) o2
  go_enter Try.func5, Try.ntmps5
  go_wp2_with fail
  refine (szLabel_calls a0 l0 c0 1048576 _ (by omega) (by omega) hm0).mono ?_
  rintro e w1 ⟨rfl, hb⟩
  have h1 : Below w.heap.size w w1 := (hb0 _ _).trans (hb.mono (by simp; omega))
  have cA1 : w1.cell? ⟨w.heap.size, 0, none⟩ = some (.slice a0 l0 c0) := (hb.cell (p := ⟨w.heap.size, 0, none⟩) (by simp; omega)).trans (by go_simp)
  have cB1 : w1.cell? ⟨w.heap.size + 1, 0, none⟩ = some (.slice a1 l1 c1) := (hb.cell (p := ⟨w.heap.size + 1, 0, none⟩) (by simp)).trans (by go_simp)
  have hN1 : w.heap.size + 1 < w1.heap.size := by have := hb.size; simp at this; omega
  rw [szI_pos (by omega)]
  have hge : 0 ≤ 1048576 - (l0 : Int) := by omega
  clear hb hb0
  go_wp2_with fail
  refine (szLabel_calls a1 l1 c1 _ _ (by omega) (by omega) hm1).mono ?_
  rintro e w2 ⟨rfl, hb⟩
  have h2 : Below w.heap.size w w2 := h1.trans (hb.mono h1.size)
  have cA2 := (hb.cell (p := ⟨w.heap.size, 0, none⟩) (by show w.heap.size < _; omega)).trans cA1
  have cB2 := (hb.cell (p := ⟨w.heap.size + 1, 0, none⟩) (by show w.heap.size + 1 < _; omega)).trans cB1
  have hNA : w.heap.size < w2.heap.size := by have := hb.size; omega
  have hNB : w.heap.size + 1 < w2.heap.size := by have := hb.size; omega
  have s0 : Sl w2 a0 l0 z0 := hs0.below h2 (Nat.le_refl _)
  have s1 : Sl w2 a1 l1 z1 := hs1.below h2 (Nat.le_refl _)
  rw [szI_pos (by omega)]
  have hge2 : 0 ≤ 1048576 - (l0 : Int) - (l1 : Int) := by omega
  have e0 : z0.length = l0 := hs0.1
  have e1 : z1.length = l1 := hs1.1
  subst e0 e1
  have hl1' := hl1
  clear hb cA1 cB1 h1 hN1 hl1 s0 s1
  go_upto_region 8 with fail
  go_cut [6] (fun v6 wc => ∃ P ra rn rc, v6 = .pointer (some ⟨P, 0, none⟩) ∧ w2.heap.size ≤ P ∧ P < wc.heap.size ∧ wc.cell? ⟨P, 0, none⟩ = some (.int .i64 (both z0 z1)) ∧ wc.cell? ⟨P, 1, none⟩ = some (.slice ra rn rc) ∧ OSl wc w2.heap.size wc.heap.size ra rn (resOf (both z0 z1) (mix min z0 z1)) ∧ Below w2.heap.size w2 wc)
  case first =>
    have HS0 := hide (sj_start cA2 cB2)
    go_region_held2 (fun w' => w'.cell? ⟨w.heap.size, 0, none⟩ = some (.slice a0 z0.length c0) ∧ w'.cell? ⟨w.heap.size + 1, 0, none⟩ = some (.slice a1 z1.length c1) ∧ Below w2.heap.size w2 w') (first | with_reducible exact HS0.out | (repeat (first | with_reducible assumption | with_reducible refine sj_allocd ?_ _ | with_reducible refine sj_alloc ?_ _ | with_reducible refine sj_set hNA hNB ?_ ?_ _ | (show (_ : Nat) ≤ _; exact Nat.le_refl _) | (show (_ : Nat) ≤ _; dsimp only; omega))))
      (first
        | (go_at_call_of 11 (Value.slice a0 z0.length c0); refine (toLabel_calls a0 z0.length c0 z0 _ hl0 ?_).mono ?_; exact sj_sl (by with_reducible assumption) h2 hs0; rintro e wa ⟨ba, rfl, hbaN, blka, hba⟩; have hsa := sj_below (by with_reducible assumption) hba; have hza := hba.size; (try simp only [World.size_alloc, World.size_drew] at hza); (try have hl1 := Nat.lt_of_succ_le hza); obtain ⟨bca, bfa⟩ := bcell hba; (try simp only [World.size_alloc, World.size_drew] at bca bfa); clear hba)
        | (go_at_call_of 11 (Value.slice a1 z1.length c1); refine (toLabel_calls a1 z1.length c1 z1 _ hl1' ?_).mono ?_; exact sj_sl (by with_reducible assumption) h2 hs1; rintro e wb ⟨bb, rfl, hbbN, blkb, hbb⟩; have hsb := sj_below (by with_reducible assumption) hbb; have hzb := hbb.size; have blkab := Blk.belowA blka hbb (by first | exact Below.refl _ _ | exact (Below.refl _ _).alloc (Nat.le_refl _) _); (try simp only [World.size_alloc] at hzb); (try have hl2 := Nat.lt_of_succ_le hzb); (try have hl3 := Nat.lt_of_lt_of_le hl1 hzb); obtain ⟨bcb, bfb⟩ := bcell hbb; obtain ⟨bcn, bfn⟩ := bcell_lt (n := wa.heap.size) hbb (by first | exact Nat.le_refl _ | (simp only [World.size_alloc]; omega)); (try simp only [World.size_alloc] at bcb bfb); clear hbb)
        | (go_at_call 20; refine (specMeetLabels_calls _ _ _ _ _ _ z0 z1 _ hm0 hm1 ?_ ?_).mono ?_; exact Blk.slA blkab (by first | exact Below.refl _ _ | exact (Below.refl _ _).alloc (Nat.le_refl _) _); exact Blk.slA blkb (by first | exact Below.refl _ _ | exact (Below.refl _ _).alloc (Nat.le_refl _) _); rintro e ws ⟨ra, rn, rc, rfl, hr, hbs⟩; have hss := sj_below (by with_reducible assumption) hbs; have hzs := hbs.size; obtain ⟨bcs, bfs⟩ := bcell hbs; obtain ⟨bcm, bfm⟩ := bcell_lt (n := wb.heap.size) hbs (by first | exact Nat.le_refl _ | (simp only [World.size_alloc]; omega)); (try simp only [World.size_alloc] at hr hzs bcs bfs); (try have hl4 := Nat.lt_of_succ_le hzs); (try have hl5 := Nat.lt_of_lt_of_le hl2 hzs); (try have hl6 := Nat.lt_of_lt_of_le hl3 hzs); clear hbs))
    all_goals go_wp2_with fail
    all_goals go_meet
    all_goals refine ⟨_, ra, rn, rc, rfl, ?_, ?_, ?_, ?_, ?_, ?_⟩
    all_goals first | (go_simp; done) | omega | (simp; omega) | (exact And.right (And.right (by with_reducible assumption))) | (with_reducible refine set2_at0 _ _ _ _ ?_; go_simp; done) | (with_reducible refine set2_at1 _ _ _ _ ?_; go_simp; done) | (refine OSl.mono (OSl.alloc hr _) ?_ ?_; omega; simp; done) | (refine OSl.mono (OSl.set2 hr ?_ _ _) ?_ ?_; omega; omega; simp; done)
  case rest =>
    obtain ⟨P, ra, rn, rc, rfl, hP2, hPc, cP0, cP1, hr, h2c⟩ := hcut
    obtain ⟨wq, rfl⟩ : ∃ x, x = wc := ⟨wc, rfl⟩
    have M2 : Mem w w2 [(w.heap.size + 1, 0, .slice a1 z1.length c1), (w.heap.size, 0, .slice a0 z0.length c0)] [] := ⟨h2, by simp [hNA, hNB, cA2, cB2], by simp⟩
    have Mc : Mem w wq [(P, 0, .int .i64 (both z0 z1)), (P, 1, .slice ra rn rc), (w.heap.size + 1, 0, .slice a1 z1.length c1), (w.heap.size, 0, .slice a0 z0.length c0)] [(w2.heap.size, wq.heap.size, ra, rn, resOf (both z0 z1) (mix min z0 z1))] :=
      (Mem.cons (Mem.cons (M2.below h2c) cP1 hPc) cP0 hPc).slice hr
    have z2c := h2c.size
    have cAc := Mc.cell 3 rfl
    clear h2 cA2 cB2 cP0 cP1 hr h2c M2
    go_wp2_with fail
    refine (toLabel_calls a0 z0.length c0 z0 _ hl0 (hs0.below Mc.bel (Nat.le_refl _))).mono ?_
    rintro e w3 ⟨b3, rfl, hb3N, blk3, hb3⟩
    have zc3 := hb3.size
    have M3 := (Mc.below hb3).slice (OSl.ofBlk blk3 hb3N rfl hl0)
    have MQ := M3.alloc1 (.slice (some ⟨b3, 0, none⟩) z0.length z0.length) 27
    have cB3 := M3.cell 2 rfl
    have nB3 := M3.lt 2 rfl
    clear cAc Mc hb3 blk3 hb3N M3
    go_wp2_with fail
    refine (toLabel_calls a1 z1.length c1 z1 _ hl1' (hs1.below MQ.bel (Nat.le_refl _))).mono ?_
    rintro e w4 ⟨b4, rfl, hb4N, blk4, hb4⟩
    simp only [World.size_alloc] at hb4N
    have z34 : w3.heap.size + 1 ≤ w4.heap.size := by have := hb4.size; simp at this; omega
    have M4 := (MQ.below hb4).slice (OSl.ofBlk blk4 hb4N rfl hl1')
    have MR := M4.alloc1 (.slice (some ⟨b4, 0, none⟩) z1.length z1.length) 27
    have x4 := M4.cell 0 rfl
    have nx4 := M4.lt 0 rfl
    clear cB3 nB3 MQ hb4 blk4 hb4N M4
    go_wp2_with fail
    refine (implMeetLabels_calls _ _ _ _ _ _ z0 z1 _ hm0 hm1 (MR.osl 1 rfl).sl (MR.osl 0 rfl).sl).mono ?_
    rintro e w5 ⟨ga, gn, gc, rfl, hg, hb5⟩
    have z45 : w4.heap.size + 1 ≤ w5.heap.size := by have := hb5.size; simp at this; omega
    simp only [World.size_alloc] at hg
    have hrn : (resOf (both z0 z1) (mix min z0 z1)).length = rn := (MR.osl 2 rfl).1
    have hgn : (resOf (both z0 z1) (mix min z0 z1)).length = gn := hg.1
    have egr : gn = rn := by omega
    subst egr
    have M5 := (MR.below hb5).slice hg
    have MG := M5.alloc2 (.int .i64 (both z0 z1)) (.slice ga gn gc) 31
    have p50 := M5.cell 2 rfl
    have p51 := M5.cell 3 rfl
    have np5 := M5.lt 2 rfl
    have hgm : gn ≤ 1048576 := hg.2.1
    have hgl : gn ≤ maxLen := by unfold maxLen; omega
    clear hb5 hg MR M5 hrn hgn x4 nx4
    go_wp2_with fail
    refine (eqLabelResult_calls _ _ _ gn gc rc (resOf (both z0 z1) (mix min z0 z1)) _ hgl (MG.osl 0 rfl).sl (MG.osl 3 rfl).sl).mono ?_
    rintro e w6 ⟨rfl, hb6⟩
    have z56 : w5.heap.size + 1 ≤ w6.heap.size := by have := hb6.size; simp at this; omega
    have M6 := MG.below hb6
    have x6 := M6.cell 3 rfl
    have c6 := M6.cell 7 rfl
    clear MG hb6 p50 p51 np5
    go_upto_region 14 with fail
    go_cut [44] (fun v wd => v = .bool false ∧ Below w6.heap.size w6 wd)
    case first =>
      go_region_with (first
        | (go_at_call 11; refine (toLabel_calls a0 z0.length c0 z0 _ hl0 ?_).mono ?_; exact hs0.below M6.drew.bel (Nat.le_refl _); rintro e w7 ⟨b7, rfl, hb7N, blk7, hb7⟩; have h67 : Below w6.heap.size w6 w7 := ((Below.refl w6.heap.size w6).drew).trans hb7; have M6a := M6.below h67; have x7 := M6a.cell 3 rfl; clear hb7)
        | (go_at_call 13; refine (eqLabel_calls _ _ _ _ _ _ z0 z0 _ hm0 hm0 ?_ ?_).mono ?_; exact (M6a.osl 2 rfl).sl; exact Blk.sl blk7; rintro e w8 ⟨rfl, hb8⟩; rw [decide_eq_true rfl]; have h68 : Below w6.heap.size w6 w8 := h67.trans (hb8.mono h67.size); clear hb8))
      all_goals go_wp2_with fail
      all_goals go_meet
      all_goals exact ⟨rfl, h68⟩
    case rest =>
      obtain ⟨rfl, h6d⟩ := hcut
      obtain ⟨wd, rfl⟩ : ∃ x, x = wc := ⟨wc, rfl⟩
      have z6d := h6d.size
      have Md := M6.below h6d
      have yd := Md.cell 2 rfl
      have cBd := Md.cell 6 rfl
      clear x6 c6 M6 h6d
      go_upto_region 16 with fail
      go_cut [49] (fun v we => v = .bool false ∧ Below wd.heap.size wd we)
      case first =>
        go_region_with (first
          | (go_at_call 11; refine (toLabel_calls a1 z1.length c1 z1 _ hl1' ?_).mono ?_; exact hs1.below Md.drew.bel (Nat.le_refl _); rintro e w7 ⟨b7, rfl, hb7N, blk7, hb7⟩; have h67 : Below wd.heap.size wd w7 := ((Below.refl wd.heap.size wd).drew).trans hb7; have M6a := Md.below h67; have x7 := M6a.cell 2 rfl; clear hb7)
          | (go_at_call 13; refine (eqLabel_calls _ _ _ _ _ _ z1 z1 _ hm1 hm1 ?_ ?_).mono ?_; exact (M6a.osl 1 rfl).sl; exact Blk.sl blk7; rintro e w8 ⟨rfl, hb8⟩; rw [decide_eq_true rfl]; have h68 : Below wd.heap.size wd w8 := h67.trans (hb8.mono h67.size); clear hb8))
        all_goals go_wp2_with fail
        all_goals go_meet
        all_goals exact ⟨rfl, h68⟩
      case rest =>
        obtain ⟨rfl, hde⟩ := hcut
        obtain ⟨we, rfl⟩ : ∃ x, x = wc := ⟨wc, rfl⟩
        have zde := hde.size
        have Me := Md.below hde
        have xe := Me.cell 3 rfl
        clear yd cBd Md hde
        go_wp2_with fail
        refine (markLabel_calls _ _ _ _ _ _ 1 _ (by omega) (by omega) (Me.osl 2 rfl)).mono ?_
        rintro e w7 ⟨rfl, _, ho7⟩
        have z7 := ho7.size
        have M7 : Mem w w7 [(w5.heap.size, 0, .int .i64 (both z0 z1)), (w5.heap.size, 1, .slice ga gn gc), (w4.heap.size, 0, .slice (some ⟨b4, 0, none⟩) z1.length z1.length), (P, 0, .int .i64 (both z0 z1)), (P, 1, .slice ra gn rc), (w.heap.size + 1, 0, .slice a1 z1.length c1), (w.heap.size, 0, .slice a0 z0.length c0)]
            [(w4.heap.size + 1, w5.heap.size, ga, gn, resOf (both z0 z1) (mix min z0 z1)), (w3.heap.size + 1, w4.heap.size, some ⟨b4, 0, none⟩, z1.length, z1), (w2.heap.size, wq.heap.size, ra, gn, resOf (both z0 z1) (mix min z0 z1))] :=
          (Me.sub (by simp) (by simp)).outside ho7 (by omega) (by simp <;> omega) (by simp <;> omega)
        have y7 := M7.cell 2 rfl
        clear xe Me ho7
        go_wp2_with fail
        refine (markLabel_calls _ _ _ _ _ _ _ _ (by omega) (by omega) (M7.osl 1 rfl)).mono ?_
        rintro e w8 ⟨rfl, _, ho8⟩
        have z8 := ho8.size
        have M8 : Mem w w8 [(w5.heap.size, 0, .int .i64 (both z0 z1)), (w5.heap.size, 1, .slice ga gn gc), (P, 0, .int .i64 (both z0 z1)), (P, 1, .slice ra gn rc), (w.heap.size + 1, 0, .slice a1 z1.length c1), (w.heap.size, 0, .slice a0 z0.length c0)] [(w4.heap.size + 1, w5.heap.size, ga, gn, resOf (both z0 z1) (mix min z0 z1)), (w2.heap.size, wq.heap.size, ra, gn, resOf (both z0 z1) (mix min z0 z1))] :=
          (M7.sub (by simp) (by simp)).outside ho8 (by omega) (by simp <;> omega) (by simp <;> omega)
        have g80 := M8.cell 0 rfl
        have g81 := M8.cell 1 rfl
        have p80 := M8.cell 2 rfl
        have p81 := M8.cell 3 rfl
        clear y7 M7 ho8
        have hlt1 : decide ((1 : Int) + (z0.length : Int) + (z1.length : Int) < 0) = false := by simp; omega
        go_wp2_with fail
        refine (eqLabelResult_calls _ _ _ gn gc rc (resOf (both z0 z1) (mix min z0 z1)) _ hgl (M8.osl 0 rfl).sl (M8.osl 1 rfl).sl).mono ?_
        rintro e w9 ⟨rfl, hb9⟩
        have z9 := hb9.size
        have M9 := M8.below hb9
        have g90 := M9.cell 0 rfl
        have g91 := M9.cell 1 rfl
        clear g80 g81 p80 p81 M8 hb9
        go_wp2_with fail
        refine (markLabelResult_calls _ _ _ _ _ _ _ 1 _ (by omega) (by omega) (M9.osl 0 rfl)).mono ?_
        rintro e w10 ⟨rfl, hg10, ho10⟩
        have z10 := ho10.size
        have M10 : Mem w w10 [(w5.heap.size, 0, .int .i64 (both z0 z1)), (w5.heap.size, 1, .slice ga gn gc), (P, 0, .int .i64 (both z0 z1)), (P, 1, .slice ra gn rc), (w.heap.size + 1, 0, .slice a1 z1.length c1), (w.heap.size, 0, .slice a0 z0.length c0)] [(w4.heap.size + 1, w5.heap.size, ga, gn, marksFrom 1 gn), (w2.heap.size, wq.heap.size, ra, gn, resOf (both z0 z1) (mix min z0 z1))] :=
          ((M9.sub (cs' := [(w5.heap.size, 0, .int .i64 (both z0 z1)), (w5.heap.size, 1, .slice ga gn gc), (P, 0, .int .i64 (both z0 z1)), (P, 1, .slice ra gn rc), (w.heap.size + 1, 0, .slice a1 z1.length c1), (w.heap.size, 0, .slice a0 z0.length c0)]) (ss' := [(w2.heap.size, wq.heap.size, ra, gn, resOf (both z0 z1) (mix min z0 z1))]) (by simp) (by simp)).outside ho10 (by omega) (by simp <;> omega) (by simp <;> omega)).slice hg10
        have g100 := M10.cell 0 rfl
        have g101 := M10.cell 1 rfl
        clear g90 g91 M9 ho10 hg10
        go_wp2_with fail
        refine (heldLabelResult_calls _ _ gn _ 1 _ (by omega) (by omega) hgm (M10.osl 0 rfl).sl).mono ?_
        rintro e w11 ⟨rfl, hb11⟩
        have z11 := hb11.size
        have M11 := M10.below hb11
        have hB11 := M11.bel
        have cA11 := M11.cell 5 rfl
        have cB11 := M11.cell 4 rfl
        have nA11 := M11.lt 5 rfl
        have nB11 := M11.lt 4 rfl
        have hlt2 : decide ((1 : Int) + (gn : Int) < 0) = false := by simp; omega
        clear g100 g101 M10 hb11
        go_upto_region 31 with fail
        go_cut [13] (fun v6 wc => ∃ P ra rn rc, v6 = .pointer (some ⟨P, 0, none⟩) ∧ w11.heap.size ≤ P ∧ P < wc.heap.size ∧ wc.cell? ⟨P, 0, none⟩ = some (.int .i64 (both z0 z1)) ∧ wc.cell? ⟨P, 1, none⟩ = some (.slice ra rn rc) ∧ OSl wc w11.heap.size wc.heap.size ra rn (resOf (both z0 z1) (mix min z0 z1)) ∧ Below w11.heap.size w11 wc)
        case first =>
          have HS0 := hide (sj_start cA11 cB11)
          go_region_held2 (fun w' => w'.cell? ⟨w.heap.size, 0, none⟩ = some (.slice a0 z0.length c0) ∧ w'.cell? ⟨w.heap.size + 1, 0, none⟩ = some (.slice a1 z1.length c1) ∧ Below w11.heap.size w11 w') (first | with_reducible exact HS0.out | (repeat (first | with_reducible assumption | with_reducible refine sj_allocd ?_ _ | with_reducible refine sj_alloc ?_ _ | with_reducible refine sj_set nA11 nB11 ?_ ?_ _ | (show (_ : Nat) ≤ _; exact Nat.le_refl _) | (show (_ : Nat) ≤ _; dsimp only; omega))))
            (first
              | (go_at_call_of 11 (Value.slice a0 z0.length c0); refine (toLabel_calls a0 z0.length c0 z0 _ hl0 ?_).mono ?_; exact sj_sl (by with_reducible assumption) hB11 hs0; rintro e wa ⟨ba, rfl, hbaN, blka, hba⟩; have hsa := sj_below (by with_reducible assumption) hba; have hza := hba.size; (try simp only [World.size_alloc, World.size_drew] at hza); (try have hl1 := Nat.lt_of_succ_le hza); obtain ⟨bca, bfa⟩ := bcell hba; (try simp only [World.size_alloc, World.size_drew] at bca bfa); clear hba)
              | (go_at_call_of 11 (Value.slice a1 z1.length c1); refine (toLabel_calls a1 z1.length c1 z1 _ hl1' ?_).mono ?_; exact sj_sl (by with_reducible assumption) hB11 hs1; rintro e wb ⟨bb, rfl, hbbN, blkb, hbb⟩; have hsb := sj_below (by with_reducible assumption) hbb; have hzb := hbb.size; have blkab := Blk.belowA blka hbb (by first | exact Below.refl _ _ | exact (Below.refl _ _).alloc (Nat.le_refl _) _); (try simp only [World.size_alloc] at hzb); (try have hl2 := Nat.lt_of_succ_le hzb); (try have hl3 := Nat.lt_of_lt_of_le hl1 hzb); obtain ⟨bcb, bfb⟩ := bcell hbb; obtain ⟨bcn, bfn⟩ := bcell_lt (n := wa.heap.size) hbb (by first | exact Nat.le_refl _ | (simp only [World.size_alloc]; omega)); (try simp only [World.size_alloc] at bcb bfb); clear hbb)
              | (go_at_call 21; refine (implMeetLabels_calls _ _ _ _ _ _ z0 z1 _ hm0 hm1 ?_ ?_).mono ?_; exact Blk.slA blkab (by first | exact Below.refl _ _ | exact (Below.refl _ _).alloc (Nat.le_refl _) _); exact Blk.slA blkb (by first | exact Below.refl _ _ | exact (Below.refl _ _).alloc (Nat.le_refl _) _); rintro e ws ⟨ra, rn, rc, rfl, hr, hbs⟩; have hss := sj_below (by with_reducible assumption) hbs; have hzs := hbs.size; obtain ⟨bcs, bfs⟩ := bcell hbs; obtain ⟨bcm, bfm⟩ := bcell_lt (n := wb.heap.size) hbs (by first | exact Nat.le_refl _ | (simp only [World.size_alloc]; omega)); (try simp only [World.size_alloc] at hr hzs bcs bfs); (try have hl4 := Nat.lt_of_succ_le hzs); (try have hl5 := Nat.lt_of_lt_of_le hl2 hzs); (try have hl6 := Nat.lt_of_lt_of_le hl3 hzs); clear hbs))
          all_goals go_wp2_with fail
          all_goals go_meet
          all_goals refine ⟨_, ra, rn, rc, rfl, ?_, ?_, ?_, ?_, ?_, ?_⟩
          all_goals first | (go_simp; done) | omega | (simp; omega) | (exact And.right (And.right (by with_reducible assumption))) | (with_reducible refine set2_at0 _ _ _ _ ?_; go_simp; done) | (with_reducible refine set2_at1 _ _ _ _ ?_; go_simp; done) | (refine OSl.mono (OSl.alloc hr _) ?_ ?_; omega; simp; done) | (refine OSl.mono (OSl.set2 hr ?_ _ _) ?_ ?_; omega; omega; simp; done)
        case rest =>
          obtain ⟨S, ka, kn, kc, rfl, hS11, hSc, cS0, cS1, hk, h11c⟩ := hcut
          obtain ⟨wf, rfl⟩ : ∃ x, x = wc := ⟨wc, rfl⟩
          have hkn : (resOf (both z0 z1) (mix min z0 z1)).length = kn := hk.1
          have hgn2 : (resOf (both z0 z1) (mix min z0 z1)).length = gn := (M11.osl 1 rfl).1
          have ekg : kn = gn := by omega
          subst ekg
          have Mf := M11.below h11c
          have p0f := Mf.cell 2 rfl
          have p1f := Mf.cell 3 rfl
          clear cA11 cB11 nA11 nB11 hB11 M11 h11c hkn hgn2
          go_wp2_with fail
          refine (eqLabelResult_calls _ _ _ kn kc rc (resOf (both z0 z1) (mix min z0 z1)) _ hgl hk.sl (Mf.osl 1 rfl).sl).mono ?_
          rintro e w13 ⟨rfl, hb13⟩
          have M13 := Mf.below hb13
          have g130 := M13.cell 0 rfl
          have g131 := M13.cell 1 rfl
          clear p0f p1f Mf hb13 cS0 cS1 hk
          go_wp2_with fail
          refine (heldLabelResult_calls _ _ kn _ 1 _ (by omega) (by omega) hgm (M13.osl 0 rfl).sl).mono ?_
          rintro e w14 ⟨rfl, hb14⟩
          have M14 := M13.below hb14
          clear g130 g131 M13 hb14
          go_wp2
          go_ret
          exact ⟨rfl, M14.bel⟩

theorem walk_MeetLabels (a0 : Option Addr) (l0 c0 : Nat) (z0 : List Int) (a1 : Option Addr) (l1 c1 : Nat) (z1 : List Int) (w : World) (hm0 : l0 ≤ maxLen) (hm1 : l1 ≤ maxLen) (hs0 : Sl w a0 l0 z0) (hs1 : Sl w a1 l1 z1) :
    Calls Try.prog 5 #[.agg #[.slice a0 l0 c0], .agg #[.slice a1 l1 c1]] w fun e w' => e = .returned (.bool true) ∧ Below w.heap.size w w' := by
  by_cases h : l0 ≤ 1048576
  · by_cases h2 : l0 + l1 ≤ 1048576
    · exact law_small_MeetLabels a0 a1 l0 c0 l1 c1 z0 z1 w h2 hs0 hs1
    · exact law_bigB_MeetLabels a0 a1 l0 c0 l1 c1 w hm0 hm1 h (by omega)
  · exact law_bigA_MeetLabels a0 a1 l0 c0 l1 c1 w hm0 (by omega)

end Go.Proofs.Ytpelhkailpdhoag
