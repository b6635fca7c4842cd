import Derived.Test.YtpelhkailpdhoagHighC
import Derived.Test.YtpelhkailpdhoagMarks
import Derived.WalkKit
import Derived.ProofKit
import Derived.OpenShut
import Derived.ShutString
import Derived.ChangeOld
import Derived.Below
import Derived.WalkSpells
import Derived.Deep.QuietTactic
import Derived.BigQuiet
import Derived.Deep.RegionWith
import Derived.Deep.WholeRow
import Derived.Deep.DeepCutAuto
namespace Go.Proofs.Ytpelhkailpdhoag
open Go.ChangeShapes Go.WideShapes Go.ChangeAt Go.RowKit

theorem law_big_HighLabel (a : Option Addr) (len cap : Nat) (w : World) (hl : len ≤ maxLen) (hbig : 1048576 < len) :
    Calls Try.prog 6 #[.agg #[.slice a len cap]] w fun e w' => e = .returned (.bool true) ∧ Below w.heap.size w w' := by
  go_enter Try.func6, Try.ntmps6
  go_wp2_with fail
  refine (szLabel_calls a len cap 1048576 _ (by omega) (by omega) hl).mono ?_
  rintro e w1 ⟨rfl, hb⟩
  have hbw : Below w.heap.size w w1 := ((Below.refl _ _).alloc (Nat.le_refl _) _).trans (hb.mono (by simp))
  rw [szI_neg (by omega)]
  go_wp2
  go_ret
  exact ⟨rfl, hbw⟩

set_option maxHeartbeats 4000000 in
theorem law_small_HighLabel (a : Option Addr) (len cap : Nat) (zs : List Int) (w : World) (hl : len ≤ 1048576) (hs : Sl w a len zs) :
    Calls Try.prog 6 #[.agg #[.slice a len cap]] w fun e w' => e = .returned (.bool true) ∧ Below w.heap.size w w' := by
  have hlm : len ≤ maxLen := by unfold maxLen; omega
  have hlen : zs.length = len := hs.1
  have M0 := (Mem.start w).alloc1 (.slice a len cap) 24
  go_enter Try.func6, Try.ntmps6
  go_wp2_with fail
  refine (szLabel_calls a len cap 1048576 _ (by omega) (by omega) hlm).mono ?_
  rintro e w1 ⟨rfl, hb⟩
  have M1 := M0.below hb
  have c1 := M1.cell 0 rfl
  have n1 := M1.lt 0 rfl
  rw [szI_pos (by omega)]
  have hge : 0 ≤ 1048576 - (len : Int) := by omega
  clear hb M0
  go_wp2_with fail
  refine (toLabel_calls a len cap zs _ hl (hs.below M1.bel (Nat.le_refl _))).mono ?_
  rintro e w2 ⟨b2, rfl, hb2N, blk2, hb2⟩
  go_wp2_with fail
  subst hlen
  refine (specHighLabel_calls _ _ _ zs _ hlm blk2.sl).mono ?_
  rintro e w3 ⟨ra, rn, rc, rfl, hr, hb3⟩
  have z12 := hb2.size
  have z23 := hb3.size
  have M3 := (M1.below (hb2.trans (hb3.mono hb2.size))).slice hr
  have c3 := M3.cell 0 rfl
  have n3 := M3.lt 0 rfl
  have MP := M3.alloc2 (.int .i64 (fault zs)) (.slice ra rn rc) 31
  clear c1 M1 hb2 hb3 blk2 hb2N hr M3
  go_wp2_with fail
  refine (toLabel_calls a _ cap zs _ hl (hs.below MP.bel (Nat.le_refl _))).mono ?_
  rintro e w4 ⟨b4, rfl, hb4N, blk4, hb4⟩
  simp only [World.size_alloc] at hb4N
  have z34 : w3.heap.size + 1 ≤ w4.heap.size := by have := hb4.size; simp at this; omega
  have M4 := (MP.below hb4).slice (OSl.ofBlk blk4 hb4N rfl hl)
  have MQ := M4.alloc1 (.slice (some ⟨b4, 0, none⟩) zs.length zs.length) 27
  have sx := (M4.osl 0 rfl).sl
  clear c3 MP hb4 blk4 hb4N M4
  go_wp2_with fail
  refine (implHighLabel_calls _ _ _ zs _ hlm (sx.below ((Below.refl _ _).alloc (Nat.le_refl _) _) (Nat.le_refl _))).mono ?_
  rintro e w5 ⟨ga, gn, gc, rfl, hg, hb5⟩
  have z45 : w4.heap.size + 1 ≤ w5.heap.size := by have := hb5.size; simp at this; omega
  simp only [World.size_alloc] at hg
  have hrn : (resOf (fault zs) (highL zs)).length = rn := (MQ.osl 1 rfl).1
  have hgn : (resOf (fault zs) (highL zs)).length = gn := hg.1
  have egr : gn = rn := by omega
  subst egr
  have M5 := (MQ.below hb5).slice hg
  have MR := M5.alloc2 (.int .i64 (fault zs)) (.slice ga gn gc) 31
  have p50 := M5.cell 1 rfl
  have p51 := M5.cell 2 rfl
  have np5 := M5.lt 1 rfl
  have hgm : gn ≤ 1048576 := hg.2.1
  have hgl : gn ≤ maxLen := by unfold maxLen; omega
  clear sx hb5 hg MQ M5 hrn hgn
  go_wp2_with fail
  refine (eqLabelResult_calls _ _ _ gn gc rc (resOf (fault zs) (highL zs)) _ hgl (MR.osl 0 rfl).sl (MR.osl 2 rfl).sl).mono ?_
  rintro e w6 ⟨rfl, hb6⟩
  have z56 : w5.heap.size + 1 ≤ w6.heap.size := by have := hb6.size; simp at this; omega
  have M6 := MR.below hb6
  have x6 := M6.cell 2 rfl
  have nx6 := M6.lt 2 rfl
  have c6 := M6.cell 5 rfl
  clear MR hb6 p50 p51 np5
  go_upto_region 10 with fail
  go_cut [31] (fun v wc => v = .bool false ∧ Below w6.heap.size w6 wc)
  case first =>
    go_region_with (first
      | (go_at_call 11; refine (toLabel_calls a zs.length cap zs _ hl ?_).mono ?_; exact hs.below M6.drew.bel (Nat.le_refl _); rintro e w7 ⟨b7, rfl, hb7N, blk7, hb7⟩; have h67 : Below w6.heap.size w6 w7 := ((Below.refl w6.heap.size w6).drew).trans hb7; have M6a := M6.below h67; have x7 := M6a.cell 2 rfl; clear hb7)
      | (go_at_call 13; refine (eqLabel_calls _ _ _ _ _ _ zs zs _ hlm hlm ?_ ?_).mono ?_; exact (M6a.osl 1 rfl).sl; exact Blk.sl blk7; rintro e w8 ⟨rfl, hb8⟩; rw [decide_eq_true rfl]; have h68 : Below w6.heap.size w6 w8 := h67.trans (hb8.mono h67.size); clear hb8))
    all_goals go_wp2_with fail
    all_goals go_meet
    all_goals exact ⟨rfl, h68⟩
  case rest =>
    obtain ⟨rfl, h6c⟩ := hcut
    have z6c := h6c.size
    have Mc := M6.below h6c
    have xc := Mc.cell 2 rfl
    clear x6 c6 M6 h6c nx6
    go_wp2_with fail
    refine (markLabel_calls _ _ _ _ _ _ 1 _ (by omega) (by omega) (Mc.osl 1 rfl)).mono ?_
    rintro e w7 ⟨rfl, _, ho7⟩
    have z7 := ho7.size
    have M7 : Mem w w7 [(w5.heap.size, 0, .int .i64 (fault zs)), (w5.heap.size, 1, .slice ga gn gc), (w3.heap.size, 0, .int .i64 (fault zs)), (w3.heap.size, 1, .slice ra gn rc), (w.heap.size, 0, .slice a zs.length cap)]
        [(w4.heap.size + 1, w5.heap.size, ga, gn, resOf (fault zs) (highL zs)), (w2.heap.size, w3.heap.size, ra, gn, resOf (fault zs) (highL zs))] :=
      (Mc.sub (by simp) (by simp)).outside ho7 (by omega) (by simp <;> omega) (by simp <;> omega)
    have g70 := M7.cell 0 rfl
    have g71 := M7.cell 1 rfl
    have p70 := M7.cell 2 rfl
    have p71 := M7.cell 3 rfl
    clear xc Mc ho7
    have hlt1 : decide ((1 : Int) + (zs.length : Int) < 0) = false := by simp; omega
    go_wp2_with fail
    refine (eqLabelResult_calls _ _ _ gn gc rc (resOf (fault zs) (highL zs)) _ hgl (M7.osl 0 rfl).sl (M7.osl 1 rfl).sl).mono ?_
    rintro e w8 ⟨rfl, hb8⟩
    have z78 := hb8.size
    have M8 := M7.below hb8
    have g80 := M8.cell 0 rfl
    have g81 := M8.cell 1 rfl
    clear g70 g71 p70 p71 M7 hb8
    go_wp2_with fail
    refine (markLabelResult_calls _ _ _ _ _ _ _ 1 _ (by omega) (by omega) (M8.osl 0 rfl)).mono ?_
    rintro e w9 ⟨rfl, hg9, ho9⟩
    have z89 := ho9.size
    have M9 : Mem w w9 [(w5.heap.size, 0, .int .i64 (fault zs)), (w5.heap.size, 1, .slice ga gn gc), (w3.heap.size, 0, .int .i64 (fault zs)), (w3.heap.size, 1, .slice ra gn rc), (w.heap.size, 0, .slice a zs.length cap)]
        [(w4.heap.size + 1, w5.heap.size, ga, gn, marksFrom 1 gn), (w2.heap.size, w3.heap.size, ra, gn, resOf (fault zs) (highL zs))] :=
      ((M8.sub (cs' := [(w5.heap.size, 0, .int .i64 (fault zs)), (w5.heap.size, 1, .slice ga gn gc), (w3.heap.size, 0, .int .i64 (fault zs)), (w3.heap.size, 1, .slice ra gn rc), (w.heap.size, 0, .slice a zs.length cap)])
        (ss' := [(w2.heap.size, w3.heap.size, ra, gn, resOf (fault zs) (highL zs))]) (by simp) (by simp)).outside ho9 (by omega) (by simp <;> omega) (by simp <;> omega)).slice hg9
    have g90 := M9.cell 0 rfl
    have g91 := M9.cell 1 rfl
    clear g80 g81 M8 ho9 hg9
    go_wp2_with fail
    refine (heldLabelResult_calls _ _ gn _ 1 _ (by omega) (by omega) hgm (M9.osl 0 rfl).sl).mono ?_
    rintro e w10 ⟨rfl, hb10⟩
    have z910 := hb10.size
    have M10 := M9.below hb10
    have c10 := M10.cell 4 rfl
    have hlt2 : decide ((1 : Int) + (gn : Int) < 0) = false := by simp; omega
    clear g90 g91 M9 hb10
    go_wp2_with fail
    refine (toLabel_calls a _ cap zs _ hl (hs.below M10.bel (Nat.le_refl _))).mono ?_
    rintro e w11 ⟨b11, rfl, hb11N, blk11, hb11⟩
    go_wp2_with fail
    refine (implHighLabel_calls _ _ _ zs _ hlm blk11.sl).mono ?_
    rintro e w12 ⟨ka, kn, kc, rfl, hk, hb12⟩
    have hkn : (resOf (fault zs) (highL zs)).length = kn := hk.1
    have hgn2 : (resOf (fault zs) (highL zs)).length = gn := (M10.osl 1 rfl).1
    have ekg : kn = gn := by omega
    subst ekg
    have M12 := (M10.below (hb11.trans (hb12.mono hb11.size))).slice hk
    have MS := M12.alloc2 (.int .i64 (fault zs)) (.slice ka kn kc) 31
    have p120 := M12.cell 2 rfl
    have p121 := M12.cell 3 rfl
    have np12 := M12.lt 2 rfl
    clear c10 M10 hb11 hb12 hk M12 blk11 hkn hgn2 hb11N
    go_wp2_with fail
    refine (eqLabelResult_calls _ _ _ kn kc rc (resOf (fault zs) (highL zs)) _ hgl (MS.osl 0 rfl).sl (MS.osl 2 rfl).sl).mono ?_
    rintro e w13 ⟨rfl, hb13⟩
    have M13 := MS.below hb13
    have g130 := M13.cell 2 rfl
    have g131 := M13.cell 3 rfl
    clear p120 p121 np12 MS hb13
    go_wp2_with fail
    refine (heldLabelResult_calls _ _ kn _ 1 _ (by omega) (by omega) hgm (M13.osl 1 rfl).sl).mono ?_
    rintro e w14 ⟨rfl, hb14⟩
    have M14 := M13.below hb14
    clear g130 g131 M13 hb14
    go_wp2
    go_ret
    exact ⟨rfl, M14.bel⟩

theorem walk_HighLabel (a : Option Addr) (len cap : Nat) (zs : List Int) (w : World) (hl : len ≤ maxLen) (hs : Sl w a len zs) :
    Calls Try.prog 6 #[.agg #[.slice a len cap]] w fun e w' => e = .returned (.bool true) ∧ Below w.heap.size w w' := by
  by_cases h : len ≤ 1048576
  · exact law_small_HighLabel a len cap zs w h hs
  · exact law_big_HighLabel a len cap w hl (by omega)

end Go.Proofs.Ytpelhkailpdhoag
