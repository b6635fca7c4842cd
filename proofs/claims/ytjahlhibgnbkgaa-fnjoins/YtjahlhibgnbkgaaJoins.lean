import Derived.Test.YtjahlhibgnbkgaaDrawM
import Derived.Test.YtjahlhibgnbkgaaBig
import Derived.Test.YtjahlhibgnbkgaaJoinI
import Derived.Test.YtjahlhibgnbkgaaMeetI
import Derived.Test.YtjahlhibgnbkgaaJoin2
import Derived.Test.YtjahlhibgnbkgaaHighC
import Derived.Test.YtjahlhibgnbkgaaOwns
import Derived.Test.YtjahlhibgnbkgaaJoins1
import Derived.WalkKit
import Derived.ProofKit
import Derived.OpenShut
import Derived.ShutString
import Derived.ChangeOld
import Derived.Below
import Derived.WalkSpells
import Derived.Deep.QuietTactic
import Derived.BigQuiet
import Derived.Deep.RegionWith
import Derived.Deep.WholeRow
import Derived.Deep.DeepCutAuto
import Derived.Deep.RegionHeld2
import Derived.Deep.AppendLies
import Derived.Deep.RegionLaw
namespace Go.Proofs.Ytjahlhibgnbkgaa
open Go.ChangeShapes Go.WideShapes Go.ChangeAt Go.RowKit

set_option maxRecDepth 100000 in
theorem drawJoinLabels_calls (a : Option Addr) (len cap : Nat) (w : World) (hc : Cd w a len) :
    Calls Try.prog 15 #[.slice a len cap] w fun e w' => ∃ ra n rc xs rb m rd ys, e = .returned (.tuple #[.agg #[.slice ra n rc], .agg #[.slice rb m rd]]) ∧ Fr w' w.heap.size ra n xs ∧ Fr w' w.heap.size rb m ys ∧ Below w.heap.size w w' := by
  have hb0 := fun o1 o2 => ((Below.refl w.heap.size w).alloc (Nat.le_refl _) o1).alloc (by simp) o2
  go_enter Try.func15, Try.ntmps15
  go_wp2_with fail
  refine (l1Two_calls a len cap _ (hc.below (hb0 _ _))).mono ?_
  rintro e w1 ⟨ra, n, rc, xs, rb, m, rd, ys, rfl, sa, sb, hb⟩
  simp only [World.size_alloc] at sa sb
  have r0 : w1.cell? ⟨w.heap.size, 0, none⟩ = some (.slice none 0 0) := (hb.cell (p := ⟨w.heap.size, 0, none⟩) (by simp; omega)).trans (by go_simp)
  have r1 : w1.cell? ⟨w.heap.size + 1, 0, none⟩ = some (.slice none 0 0) := (hb.cell (p := ⟨w.heap.size + 1, 0, none⟩) (by simp)).trans (by go_simp)
  have f0 : w1.frozen? ⟨w.heap.size, 0, none⟩ = false := (hb.frozen (p := ⟨w.heap.size, 0, none⟩) (by simp; omega)).trans (by go_simp)
  have f1 : w1.frozen? ⟨w.heap.size + 1, 0, none⟩ = false := (hb.frozen (p := ⟨w.heap.size + 1, 0, none⟩) (by simp)).trans (by go_simp)
  have hbw : Below w.heap.size w w1 := (hb0 _ _).trans (hb.mono (by simp; omega))
  have HSA := hide sa
  have HSB := hide sb
  have HBW := hide hbw
  clear sa sb hb hbw hb0
  go_wp2
  refine bodyPost_ret (v := .tuple #[.agg #[.slice ra n rc], .agg #[.slice rb m rd]]) (by simp [results, Try.results15, go_sem, r0, r1]) rfl ⟨ra, n, rc, xs, rb, m, rd, ys, rfl, ?_, ?_, ?_⟩
  · exact ((HSA.out.setCell (by show w.heap.size < _; omega) _).setCell (by show w.heap.size + 1 < _; omega) _).lo (by omega)
  · exact ((HSB.out.setCell (by show w.heap.size < _; omega) _).setCell (by show w.heap.size + 1 < _; omega) _).lo (by omega)
  · exact (HBW.out.setCell (Nat.le_refl _) _).setCell (by show w.heap.size ≤ w.heap.size + 1; omega) _

set_option maxRecDepth 100000 in
theorem drawMeetLabels_calls (a : Option Addr) (len cap : Nat) (w : World) (hc : Cd w a len) :
    Calls Try.prog 19 #[.slice a len cap] w fun e w' => ∃ ra n rc xs rb m rd ys, e = .returned (.tuple #[.agg #[.slice ra n rc], .agg #[.slice rb m rd]]) ∧ Fr w' w.heap.size ra n xs ∧ Fr w' w.heap.size rb m ys ∧ Below w.heap.size w w' := by
  have hb0 := fun o1 o2 => ((Below.refl w.heap.size w).alloc (Nat.le_refl _) o1).alloc (by simp) o2
  go_enter Try.func19, Try.ntmps19
  go_wp2_with fail
  refine (l1Two_calls a len cap _ (hc.below (hb0 _ _))).mono ?_
  rintro e w1 ⟨ra, n, rc, xs, rb, m, rd, ys, rfl, sa, sb, hb⟩
  simp only [World.size_alloc] at sa sb
  have r0 : w1.cell? ⟨w.heap.size, 0, none⟩ = some (.slice none 0 0) := (hb.cell (p := ⟨w.heap.size, 0, none⟩) (by simp; omega)).trans (by go_simp)
  have r1 : w1.cell? ⟨w.heap.size + 1, 0, none⟩ = some (.slice none 0 0) := (hb.cell (p := ⟨w.heap.size + 1, 0, none⟩) (by simp)).trans (by go_simp)
  have f0 : w1.frozen? ⟨w.heap.size, 0, none⟩ = false := (hb.frozen (p := ⟨w.heap.size, 0, none⟩) (by simp; omega)).trans (by go_simp)
  have f1 : w1.frozen? ⟨w.heap.size + 1, 0, none⟩ = false := (hb.frozen (p := ⟨w.heap.size + 1, 0, none⟩) (by simp)).trans (by go_simp)
  have hbw : Below w.heap.size w w1 := (hb0 _ _).trans (hb.mono (by simp; omega))
  have HSA := hide sa
  have HSB := hide sb
  have HBW := hide hbw
  clear sa sb hb hbw hb0
  go_wp2
  refine bodyPost_ret (v := .tuple #[.agg #[.slice ra n rc], .agg #[.slice rb m rd]]) (by simp [results, Try.results19, go_sem, r0, r1]) rfl ⟨ra, n, rc, xs, rb, m, rd, ys, rfl, ?_, ?_, ?_⟩
  · exact ((HSA.out.setCell (by show w.heap.size < _; omega) _).setCell (by show w.heap.size + 1 < _; omega) _).lo (by omega)
  · exact ((HSB.out.setCell (by show w.heap.size < _; omega) _).setCell (by show w.heap.size + 1 < _; omega) _).lo (by omega)
  · exact (HBW.out.setCell (Nat.le_refl _) _).setCell (by show w.heap.size ≤ w.heap.size + 1; omega) _

/-- four cells of a world that later worlds keep: for a region's loads. -/
theorem held4 {W X Y : World} {A B C D : Addr} {a b c d : Value} (hA : A.block < W.heap.size) (hB : B.block < W.heap.size) (hC : C.block < W.heap.size) (hD : D.block < W.heap.size)
    (h : X.cell? A = some a ∧ X.cell? B = some b ∧ X.cell? C = some c ∧ X.cell? D = some d ∧ Below W.heap.size W X) (g : Below X.heap.size X Y) :
    Y.cell? A = some a ∧ Y.cell? B = some b ∧ Y.cell? C = some c ∧ Y.cell? D = some d ∧ Below W.heap.size W Y := by
  obtain ⟨h1, h2, h3, h4, hb⟩ := h
  have hz := hb.size
  exact ⟨(g.cell (by omega)).trans h1, (g.cell (by omega)).trans h2, (g.cell (by omega)).trans h3, (g.cell (by omega)).trans h4, hb.trans (g.mono hz)⟩

set_option maxRecDepth 100000 in
theorem joins_big (a : Option Addr) (len cap : Nat) (w : World) (hl : len ≤ maxLen) (hbig : 1048576 < len) :
    Calls Try.prog 4 #[.slice a len cap] w fun e w' => e = .returned (.bool true) ∧ Below w.heap.size w w' := by
  go_enter Try.func4, Try.ntmps4
  go_wp2_with fail
  refine (lwBig_calls a len cap _ hl).mono ?_
  rintro e w1 ⟨rfl, hw⟩
  obtain rfl : w = w1 := hw.symm
  clear hw
  rw [decide_eq_true (by omega)]
  go_wp2
  go_ret
  exact ⟨rfl, Below.refl _ _⟩

theorem field0 (c v : Value) (w : World) : (Instr.field 33 (.agg #[c, v]) 0).run Try.prog w = .ok c w := by kernel_rfl

set_option maxRecDepth 100000 in
set_option linter.unusedSimpArgs false in
set_option maxHeartbeats 4000000 in
theorem joins_small (a : Option Addr) (len cap : Nat) (w : World) (hc : Cd w a len) :
    Calls Try.prog 4 #[.slice a len cap] w fun e w' => e = .returned (.bool true) ∧ Below w.heap.size w w' := by
  have hlm : len ≤ maxLen := by have := hc.1; unfold maxLen; omega
  have hlb : ¬ (1048576 < (len : Int)) := by have := hc.1; omega
  go_enter Try.func4, Try.ntmps4
  go_wp2_with fail
  refine (lwBig_calls a len cap _ hlm).mono ?_
  rintro e w0 ⟨rfl, hw⟩
  obtain rfl : w = w0 := hw.symm
  rw [decide_eq_false (by omega)]
  clear hw
  go_wp2_with fail
  refine (drawJoinLabels_calls a len cap _ hc).mono ?_
  rintro e w1 ⟨ra, n, rc, xs, rb, m, rd, ys, rfl, fa, fb, hb1⟩
  have ha1 := ((Below.refl w1.heap.size w1).alloc (Nat.le_refl _) (.cells #[.slice ra n rc] 26)).alloc (by simp) (.cells #[.slice rb m rd] 26)
  have hn : n ≤ maxLen := by have := fa.2.1; unfold maxLen; omega
  have hm : m ≤ maxLen := by have := fb.2.1; unfold maxLen; omega
  have SA := fa.sl.below ha1 (Nat.le_refl _)
  have SB := fb.sl.below ha1 (Nat.le_refl _)
  have M0 : Mem w1 ((w1.alloc (.cells #[.slice ra n rc] 26)).alloc (.cells #[.slice rb m rd] 26)) [(w1.heap.size + 1, 0, .slice rb m rd), (w1.heap.size, 0, .slice ra n rc)] [] := by
    have := ((Mem.start w1).alloc1 (.slice ra n rc) 26).alloc1 (.slice rb m rd) 26
    simpa only [World.size_alloc] using this
  have hcW := hc.below hb1
  clear ha1
  go_wp2_with fail
  refine (implJoinLabels_calls ra rb n rc m rd xs ys _ hn hm SA SB).mono ?_
  rintro e w2 ⟨rj, jn, jc, rfl, oj, g2⟩
  have al2 := (Below.refl w2.heap.size w2).alloc (Nat.le_refl _) (.cells #[.int .i64 (both xs ys), .slice rj jn jc] 33)
  have M2 := (M0.below g2).alloc2 (.int .i64 (both xs ys)) (.slice rj jn jc) 33
  have a2 := M2.cell 3 rfl
  have b2 := M2.cell 2 rfl
  have SA2 := (SA.below g2 (Nat.le_refl _)).below al2 (Nat.le_refl _)
  have SB2 := (SB.below g2 (Nat.le_refl _)).below al2 (Nat.le_refl _)
  have SJ2 := oj.sl.below al2 (Nat.le_refl _)
  have hjn : jn ≤ maxLen := by have := oj.2.1; unfold maxLen; omega
  clear g2 oj al2 M0 SA SB fa fb
  go_wp2_with fail
  refine (implMeetLabels_calls ra rb n rc m rd xs ys _ hn hm SA2 SB2).mono ?_
  rintro e w3 ⟨rm, mn, mc, rfl, om, g3⟩
  have al3 := (Below.refl w3.heap.size w3).alloc (Nat.le_refl _) (.cells #[.int .i64 (both xs ys), .slice rm mn mc] 33)
  have M3 := (M2.below g3).alloc2 (.int .i64 (both xs ys)) (.slice rm mn mc) 33
  have SA3 := (SA2.below g3 (Nat.le_refl _)).below al3 (Nat.le_refl _)
  have SB3 := (SB2.below g3 (Nat.le_refl _)).below al3 (Nat.le_refl _)
  have SJ3 := (SJ2.below g3 (Nat.le_refl _)).below al3 (Nat.le_refl _)
  have SM3 := om.sl.below al3 (Nat.le_refl _)
  have hmn : mn ≤ maxLen := by have := om.2.1; unfold maxLen; omega
  have a3 := M3.cell 5 rfl
  have b3 := M3.cell 4 rfl
  have j30 := M3.cell 2 rfl
  have j31 := M3.cell 3 rfl
  have m30 := M3.cell 0 rfl
  have m31 := M3.cell 1 rfl
  clear g3 om al3 M2 SA2 SB2 SJ2 a2 b2
  by_cases hf : both xs ys = 0
  · have ef : (both xs ys != 0) = false := by simp [hf]
    have Hf := hide hf
    clear hf
    have hc3 := hcW.below M3.bel
    go_wp2_with fail
    refine (drawMeetLabels_calls a len cap _ hc3).mono ?_
    rintro e w4 ⟨rp, i, rpc, zs, ro, k, roc, us, rfl, fc, fd, g4⟩
    have al4 := ((Below.refl w4.heap.size w4).alloc (Nat.le_refl _) (.cells #[.slice rp i rpc] 26)).alloc (by simp) (.cells #[.slice ro k roc] 26)
    have M4 := ((M3.below g4).alloc1 (.slice rp i rpc) 26).alloc1 (.slice ro k roc) 26
    have SA4 := (SA3.below g4 (Nat.le_refl _)).below al4 (Nat.le_refl _)
    have SB4 := (SB3.below g4 (Nat.le_refl _)).below al4 (Nat.le_refl _)
    have SJ4 := (SJ3.below g4 (Nat.le_refl _)).below al4 (Nat.le_refl _)
    have SM4 := (SM3.below g4 (Nat.le_refl _)).below al4 (Nat.le_refl _)
    have SC4 := fc.sl.below al4 (Nat.le_refl _)
    have hi : i ≤ maxLen := by have := fc.2.1; unfold maxLen; omega
    have hc4 := hcW.below M4.bel
    clear g4 al4 fc fd hc3 M3 SA3 SB3 SJ3 SM3 a3 b3 j30 j31 m30 m31
    go_wp2_with fail
    refine (drawCanModify_calls a len cap _ hc4).mono ?_
    rintro e w5 ⟨rq, l, rqc, ds, rv, q, rvc, es, rfl, fc, fd, g5⟩
    have al5 := ((Below.refl w5.heap.size w5).alloc (Nat.le_refl _) (.cells #[.slice rq l rqc] 26)).alloc (by simp) (.cells #[.slice rv q rvc] 26)
    have M5 := ((M4.below g5).alloc1 (.slice rq l rqc) 26).alloc1 (.slice rv q rvc) 26
    simp only [World.size_alloc] at M5
    have SA5 := (SA4.below g5 (Nat.le_refl _)).below al5 (Nat.le_refl _)
    have SB5 := (SB4.below g5 (Nat.le_refl _)).below al5 (Nat.le_refl _)
    have SJ5 := (SJ4.below g5 (Nat.le_refl _)).below al5 (Nat.le_refl _)
    have SM5 := (SM4.below g5 (Nat.le_refl _)).below al5 (Nat.le_refl _)
    have SC5 := (SC4.below g5 (Nat.le_refl _)).below al5 (Nat.le_refl _)
    have SD5 := fc.sl.below al5 (Nat.le_refl _)
    have hl : l ≤ maxLen := by have := fc.2.1; unfold maxLen; omega
    clear g5 al5 fc fd hc4 M4 SA4 SB4 SJ4 SM4 SC4 hc hcW
    rw [resOf_ok Hf.out] at SJ5 SM5
    obtain ⟨hfx, hfy⟩ := both_zero (xs := xs) (ys := ys) (by rw [Hf.out]; rfl)
    have EJA := hide (join_upA hfx hfy)
    have EJB := hide (join_upB hfx hfy)
    have EMA := hide (meet_dnA hfx hfy)
    have EMB := hide (meet_dnB hfx hfy)
    clear hfx hfy
    have cA := M5.cell 9 rfl
    have cB := M5.cell 8 rfl
    have cJ := M5.cell 7 rfl
    have cM := M5.cell 5 rfl
    have cC := M5.cell 3 rfl
    have cD := M5.cell 1 rfl
    have lA := M5.lt 9 rfl
    have lB := M5.lt 8 rfl
    have lJ := M5.lt 7 rfl
    have lM := M5.lt 5 rfl
    have lC := M5.lt 3 rfl
    have lD := M5.lt 1 rfl
    have hbM := hb1.trans (M5.bel.mono hb1.size)
    clear M5 hb1
    go_upto_region 10 with fail
    generalize hW : ((w5.alloc (.cells #[.slice rq l rqc] 26)).alloc (.cells #[.slice rv q rvc] 26)) = W at cA cB cJ cM cC cD lA lB lJ lM lC lD SA5 SB5 SJ5 SM5 SC5 SD5 hbM ⊢
    clear hW
    have HA := hide SA5
    have HB := hide SB5
    have HJ := hide SJ5
    have HM := hide SM5
    have HC := hide SC5
    have HD := hide SD5
    clear SA5 SB5 SJ5 SM5 SC5 SD5
    go_cut [11] (fun v wc => v = .bool true ∧ Below W.heap.size W wc)
    case first =>
      have T0 := Below.refl W.heap.size W
      cases h1 : isBelowB xs ds with
      | false =>
        have H1 := hide h1
        clear h1
        go_wp2_with fail
        refine (implIsBelow_calls ra rq n rc l rqc xs ds _ hn hl (HA.out.below T0 (Nat.le_refl _)) (HD.out.below T0 (Nat.le_refl _))).mono ?_
        rintro e y1 ⟨rfl, g1⟩
        rw [H1.out]
        have T1 := T0.trans (g1.mono T0.size)
        have qA1 := (T1.cell (p := ⟨w1.heap.size, 0, none⟩) lA).trans cA
        have qD1 := (T1.cell (p := ⟨w5.heap.size, 0, none⟩) lD).trans cD
        clear g1 
        go_wp2_with fail
        go_meet
        exact ⟨rfl, T1⟩
      | true =>
        have H1 := hide h1
        cases h2 : isBelowB ys ds with
        | false =>
          have H2 := hide h2
          clear h1 h2
          go_wp2_with fail
          refine (implIsBelow_calls ra rq n rc l rqc xs ds _ hn hl (HA.out.below T0 (Nat.le_refl _)) (HD.out.below T0 (Nat.le_refl _))).mono ?_
          rintro e y1 ⟨rfl, g1⟩
          rw [H1.out]
          have T1 := T0.trans (g1.mono T0.size)
          have qA1 := (T1.cell (p := ⟨w1.heap.size, 0, none⟩) lA).trans cA
          have qB1 := (T1.cell (p := ⟨w1.heap.size + 1, 0, none⟩) lB).trans cB
          have qD1 := (T1.cell (p := ⟨w5.heap.size, 0, none⟩) lD).trans cD
          clear g1 
          go_wp2_with fail
          refine (implIsBelow_calls rb rq m rd l rqc ys ds _ hm hl (HB.out.below T1 (Nat.le_refl _)) (HD.out.below T1 (Nat.le_refl _))).mono ?_
          rintro e y2 ⟨rfl, g2⟩
          rw [H2.out]
          have T2 := T1.trans (g2.mono T1.size)
          have qA2 := (T2.cell (p := ⟨w1.heap.size, 0, none⟩) lA).trans cA
          have qB2 := (T2.cell (p := ⟨w1.heap.size + 1, 0, none⟩) lB).trans cB
          have qD2 := (T2.cell (p := ⟨w5.heap.size, 0, none⟩) lD).trans cD
          clear g2 qA1 qB1 qD1
          go_wp2_with fail
          go_meet
          exact ⟨rfl, T2⟩
        | true =>
          have H2 := hide h2
          have H3 := hide (join_least h1 h2)
          clear h1 h2
          go_wp2_with fail
          refine (implIsBelow_calls ra rq n rc l rqc xs ds _ hn hl (HA.out.below T0 (Nat.le_refl _)) (HD.out.below T0 (Nat.le_refl _))).mono ?_
          rintro e y1 ⟨rfl, g1⟩
          rw [H1.out]
          have T1 := T0.trans (g1.mono T0.size)
          have qA1 := (T1.cell (p := ⟨w1.heap.size, 0, none⟩) lA).trans cA
          have qB1 := (T1.cell (p := ⟨w1.heap.size + 1, 0, none⟩) lB).trans cB
          have qD1 := (T1.cell (p := ⟨w5.heap.size, 0, none⟩) lD).trans cD
          have qJ1 := (T1.cell (p := ⟨w2.heap.size, 1, none⟩) lJ).trans cJ
          clear g1 
          go_wp2_with fail
          refine (implIsBelow_calls rb rq m rd l rqc ys ds _ hm hl (HB.out.below T1 (Nat.le_refl _)) (HD.out.below T1 (Nat.le_refl _))).mono ?_
          rintro e y2 ⟨rfl, g2⟩
          rw [H2.out]
          have T2 := T1.trans (g2.mono T1.size)
          have qA2 := (T2.cell (p := ⟨w1.heap.size, 0, none⟩) lA).trans cA
          have qB2 := (T2.cell (p := ⟨w1.heap.size + 1, 0, none⟩) lB).trans cB
          have qD2 := (T2.cell (p := ⟨w5.heap.size, 0, none⟩) lD).trans cD
          have qJ2 := (T2.cell (p := ⟨w2.heap.size, 1, none⟩) lJ).trans cJ
          clear g2 qA1 qB1 qD1 qJ1
          go_wp2_with fail
          refine (implIsBelow_calls rj rq jn jc l rqc (mix max xs ys) ds _ hjn hl (HJ.out.below T2 (Nat.le_refl _)) (HD.out.below T2 (Nat.le_refl _))).mono ?_
          rintro e y3 ⟨rfl, g3⟩
          rw [H3.out]
          have T3 := T2.trans (g3.mono T2.size)
          have qA3 := (T3.cell (p := ⟨w1.heap.size, 0, none⟩) lA).trans cA
          have qB3 := (T3.cell (p := ⟨w1.heap.size + 1, 0, none⟩) lB).trans cB
          have qD3 := (T3.cell (p := ⟨w5.heap.size, 0, none⟩) lD).trans cD
          have qJ3 := (T3.cell (p := ⟨w2.heap.size, 1, none⟩) lJ).trans cJ
          clear g3 qA2 qB2 qD2 qJ2
          go_wp2_with fail
          go_meet
          exact ⟨rfl, T3⟩
    case rest =>
      obtain ⟨rfl, T0⟩ := hcut
      have dA := (T0.cell (p := ⟨w1.heap.size, 0, none⟩) lA).trans cA
      have dB := (T0.cell (p := ⟨w1.heap.size + 1, 0, none⟩) lB).trans cB
      have dM := (T0.cell (p := ⟨w3.heap.size, 1, none⟩) lM).trans cM
      have dD := (T0.cell (p := ⟨w5.heap.size, 0, none⟩) lD).trans cD
      go_upto_region 11 with fail
      go_cut [12] (fun v wd => v = .bool true ∧ Below W.heap.size W wd)
      case first =>
        cases h1 : isBelowB ds xs with
        | false =>
          have H1 := hide h1
          clear h1
          go_wp2_with fail
          refine (implIsBelow_calls rq ra l rqc n rc ds xs _ hl hn (HD.out.below T0 (Nat.le_refl _)) (HA.out.below T0 (Nat.le_refl _))).mono ?_
          rintro e y1 ⟨rfl, g1⟩
          rw [H1.out]
          have T1 := T0.trans (g1.mono T0.size)
          have qA1 := (T1.cell (p := ⟨w1.heap.size, 0, none⟩) lA).trans cA
          have qD1 := (T1.cell (p := ⟨w5.heap.size, 0, none⟩) lD).trans cD
          clear g1 
          go_wp2_with fail
          go_meet
          exact ⟨rfl, T1⟩
        | true =>
          have H1 := hide h1
          cases h2 : isBelowB ds ys with
          | false =>
            have H2 := hide h2
            clear h1 h2
            go_wp2_with fail
            refine (implIsBelow_calls rq ra l rqc n rc ds xs _ hl hn (HD.out.below T0 (Nat.le_refl _)) (HA.out.below T0 (Nat.le_refl _))).mono ?_
            rintro e y1 ⟨rfl, g1⟩
            rw [H1.out]
            have T1 := T0.trans (g1.mono T0.size)
            have qA1 := (T1.cell (p := ⟨w1.heap.size, 0, none⟩) lA).trans cA
            have qB1 := (T1.cell (p := ⟨w1.heap.size + 1, 0, none⟩) lB).trans cB
            have qD1 := (T1.cell (p := ⟨w5.heap.size, 0, none⟩) lD).trans cD
            clear g1 
            go_wp2_with fail
            refine (implIsBelow_calls rq rb l rqc m rd ds ys _ hl hm (HD.out.below T1 (Nat.le_refl _)) (HB.out.below T1 (Nat.le_refl _))).mono ?_
            rintro e y2 ⟨rfl, g2⟩
            rw [H2.out]
            have T2 := T1.trans (g2.mono T1.size)
            have qA2 := (T2.cell (p := ⟨w1.heap.size, 0, none⟩) lA).trans cA
            have qB2 := (T2.cell (p := ⟨w1.heap.size + 1, 0, none⟩) lB).trans cB
            have qD2 := (T2.cell (p := ⟨w5.heap.size, 0, none⟩) lD).trans cD
            clear g2 qA1 qB1 qD1
            go_wp2_with fail
            go_meet
            exact ⟨rfl, T2⟩
          | true =>
            have H2 := hide h2
            have H3 := hide (meet_great h1 h2)
            clear h1 h2
            go_wp2_with fail
            refine (implIsBelow_calls rq ra l rqc n rc ds xs _ hl hn (HD.out.below T0 (Nat.le_refl _)) (HA.out.below T0 (Nat.le_refl _))).mono ?_
            rintro e y1 ⟨rfl, g1⟩
            rw [H1.out]
            have T1 := T0.trans (g1.mono T0.size)
            have qA1 := (T1.cell (p := ⟨w1.heap.size, 0, none⟩) lA).trans cA
            have qB1 := (T1.cell (p := ⟨w1.heap.size + 1, 0, none⟩) lB).trans cB
            have qD1 := (T1.cell (p := ⟨w5.heap.size, 0, none⟩) lD).trans cD
            have qM1 := (T1.cell (p := ⟨w3.heap.size, 1, none⟩) lM).trans cM
            clear g1 
            go_wp2_with fail
            refine (implIsBelow_calls rq rb l rqc m rd ds ys _ hl hm (HD.out.below T1 (Nat.le_refl _)) (HB.out.below T1 (Nat.le_refl _))).mono ?_
            rintro e y2 ⟨rfl, g2⟩
            rw [H2.out]
            have T2 := T1.trans (g2.mono T1.size)
            have qA2 := (T2.cell (p := ⟨w1.heap.size, 0, none⟩) lA).trans cA
            have qB2 := (T2.cell (p := ⟨w1.heap.size + 1, 0, none⟩) lB).trans cB
            have qD2 := (T2.cell (p := ⟨w5.heap.size, 0, none⟩) lD).trans cD
            have qM2 := (T2.cell (p := ⟨w3.heap.size, 1, none⟩) lM).trans cM
            clear g2 qA1 qB1 qD1 qM1
            go_wp2_with fail
            refine (implIsBelow_calls rq rm l rqc mn mc ds (mix min xs ys) _ hl hmn (HD.out.below T2 (Nat.le_refl _)) (HM.out.below T2 (Nat.le_refl _))).mono ?_
            rintro e y3 ⟨rfl, g3⟩
            rw [H3.out]
            have T3 := T2.trans (g3.mono T2.size)
            have qA3 := (T3.cell (p := ⟨w1.heap.size, 0, none⟩) lA).trans cA
            have qB3 := (T3.cell (p := ⟨w1.heap.size + 1, 0, none⟩) lB).trans cB
            have qD3 := (T3.cell (p := ⟨w5.heap.size, 0, none⟩) lD).trans cD
            have qM3 := (T3.cell (p := ⟨w3.heap.size, 1, none⟩) lM).trans cM
            clear g3 qA2 qB2 qD2 qM2
            go_wp2_with fail
            go_meet
            exact ⟨rfl, T3⟩
      case rest =>
        obtain ⟨rfl, T1⟩ := hcut
        clear dA dB dM dD T0
        have dC := (T1.cell (p := ⟨w4.heap.size, 0, none⟩) lC).trans cC
        go_wp2_with fail
        refine (implHighLabel_calls rp i rpc zs _ hi (HC.out.below T1 (Nat.le_refl _))).mono ?_
        rintro e w6 ⟨rh, kn, kc, rfl, oh, g6⟩
        have al6 := (Below.refl w6.heap.size w6).alloc (Nat.le_refl _) (.cells #[.int .i64 (fault zs), .slice rh kn kc] 33)
        have T6 : Below W.heap.size W (w6.alloc (.cells #[.int .i64 (fault zs), .slice rh kn kc] 33)) := (T1.trans (g6.mono T1.size)).trans (al6.mono (by have := T1.size; have := g6.size; omega))
        have z6 : W.heap.size ≤ w6.heap.size := by have := T1.size; have := g6.size; omega
        have fA := (T6.cell (p := ⟨w1.heap.size, 0, none⟩) lA).trans cA
        have fB := (T6.cell (p := ⟨w1.heap.size + 1, 0, none⟩) lB).trans cB
        have fJ := (T6.cell (p := ⟨w2.heap.size, 1, none⟩) lJ).trans cJ
        have fM := (T6.cell (p := ⟨w3.heap.size, 1, none⟩) lM).trans cM
        have fC := (T6.cell (p := ⟨w4.heap.size, 0, none⟩) lC).trans cC
        have fH0 : (w6.alloc (.cells #[.int .i64 (fault zs), .slice rh kn kc] 33)).cell? ⟨w6.heap.size, 0, none⟩ = some (.int .i64 (fault zs)) := by go_simp
        have fH1 : (w6.alloc (.cells #[.int .i64 (fault zs), .slice rh kn kc] 33)).cell? ⟨w6.heap.size, 1, none⟩ = some (.slice rh kn kc) := by go_simp
        have SH6 := oh.sl.below al6 (Nat.le_refl _)
        have hkn : kn ≤ maxLen := by have := oh.2.1; unfold maxLen; omega
        have GA := hide (HA.out.below T6 (Nat.le_refl _))
        have GB := hide (HB.out.below T6 (Nat.le_refl _))
        have GJ := hide (HJ.out.below T6 (Nat.le_refl _))
        have GM := hide (HM.out.below T6 (Nat.le_refl _))
        have GC := hide (HC.out.below T6 (Nat.le_refl _))
        have hbV := hbM.trans (T6.mono hbM.size)
        have zV : w6.heap.size < (w6.alloc (.cells #[.int .i64 (fault zs), .slice rh kn kc] 33)).heap.size := by simp
        have F0 := fun (u v : Value) (X : World) => field0 u v X
        have eqO : (ownsB zs == ownsB zs) = true := by simp
        have eqF : (fault zs == fault zs) = true := by simp
        clear dC cA cB cJ cM cC cD T1 g6 oh al6 HA HB HJ HM HC HD T6 hbM
        go_wp2_with fail
        generalize hV : (w6.alloc (.cells #[.int .i64 (fault zs), .slice rh kn kc] 33)) = V at fA fB fJ fM fC fH0 fH1 SH6 GA GB GJ GM GC hbV zV ⊢
        clear hV
        have kA : w1.heap.size < V.heap.size := by omega
        have kB : w1.heap.size + 1 < V.heap.size := by omega
        have kJ : w2.heap.size < V.heap.size := Nat.lt_trans (Nat.lt_of_lt_of_le lJ z6) zV
        have kM : w3.heap.size < V.heap.size := Nat.lt_trans (Nat.lt_of_lt_of_le lM z6) zV
        have kC : w4.heap.size < V.heap.size := Nat.lt_trans (Nat.lt_of_lt_of_le lC z6) zV
        have kH := zV
        clear lA lB lJ lM lC lD z6 zV
        have hund : undef = Value.tuple #[] := rfl
        by_cases hz : fault zs = 0
        · have ez : (fault zs != 0) = false := by simp [hz]
          have EHN := hide (high_none zs)
          have EHU := hide (high_up hz)
          rw [resOf_ok hz] at SH6
          have GH := hide SH6
          clear SH6 hz
          have HS0 : Hid (V.drew.cell? ⟨w1.heap.size, 0, none⟩ = some (.slice ra n rc) ∧ V.drew.cell? ⟨w1.heap.size + 1, 0, none⟩ = some (.slice rb m rd) ∧ V.drew.cell? ⟨w2.heap.size, 1, none⟩ = some (.slice rj jn jc) ∧ V.drew.cell? ⟨w3.heap.size, 1, none⟩ = some (.slice rm mn mc) ∧ V.drew.cell? ⟨w4.heap.size, 0, none⟩ = some (.slice rp i rpc) ∧ V.drew.cell? ⟨w6.heap.size, 0, none⟩ = some (.int .i64 (fault zs)) ∧ V.drew.cell? ⟨w6.heap.size, 1, none⟩ = some (.slice rh kn kc) ∧ Below V.heap.size V V.drew) := ⟨fA, fB, fJ, fM, fC, fH0, fH1, (Below.refl _ _).drew⟩
          clear fA fB fJ fM fC fH0 fH1
          first | (go_region_held2 (fun w' => w'.cell? ⟨w1.heap.size, 0, none⟩ = some (.slice ra n rc) ∧ w'.cell? ⟨w1.heap.size + 1, 0, none⟩ = some (.slice rb m rd) ∧ w'.cell? ⟨w2.heap.size, 1, none⟩ = some (.slice rj jn jc) ∧ w'.cell? ⟨w3.heap.size, 1, none⟩ = some (.slice rm mn mc) ∧ w'.cell? ⟨w4.heap.size, 0, none⟩ = some (.slice rp i rpc) ∧ w'.cell? ⟨w6.heap.size, 0, none⟩ = some (.int .i64 (fault zs)) ∧ w'.cell? ⟨w6.heap.size, 1, none⟩ = some (.slice rh kn kc) ∧ Below V.heap.size V w')
            (first | with_reducible exact HS0.out | with_reducible assumption)
            (first
              | (go_at_call_of 11 #[Value.agg #[Value.slice ra n rc], Value.agg #[Value.slice rj jn jc]]; refine (implIsBelow_calls ra rj n rc jn jc xs (mix max xs ys) _ hn hjn ?_ ?_).mono ?_; exact GA.out.below (And.right (And.right (And.right (And.right (And.right (And.right (And.right (by with_reducible assumption)))))))) (Nat.le_refl _); exact GJ.out.below (And.right (And.right (And.right (And.right (And.right (And.right (And.right (by with_reducible assumption)))))))) (Nat.le_refl _); rintro e v1 ⟨rfl, g1⟩; rw [EJA.out]; have hs1 := held7 (W := V) kA kB kJ kM kC kH kH (by with_reducible assumption) g1; clear g1)
              | (go_at_call_of 11 #[Value.agg #[Value.slice rb m rd], Value.agg #[Value.slice rj jn jc]]; refine (implIsBelow_calls rb rj m rd jn jc ys (mix max xs ys) _ hm hjn ?_ ?_).mono ?_; exact GB.out.below (And.right (And.right (And.right (And.right (And.right (And.right (And.right (by with_reducible assumption)))))))) (Nat.le_refl _); exact GJ.out.below (And.right (And.right (And.right (And.right (And.right (And.right (And.right (by with_reducible assumption)))))))) (Nat.le_refl _); rintro e v2 ⟨rfl, g2⟩; rw [EJB.out]; have hs2 := held7 (W := V) kA kB kJ kM kC kH kH (by with_reducible assumption) g2; clear g2)
              | (go_at_call_of 11 #[Value.agg #[Value.slice rm mn mc], Value.agg #[Value.slice ra n rc]]; refine (implIsBelow_calls rm ra mn mc n rc (mix min xs ys) xs _ hmn hn ?_ ?_).mono ?_; exact GM.out.below (And.right (And.right (And.right (And.right (And.right (And.right (And.right (by with_reducible assumption)))))))) (Nat.le_refl _); exact GA.out.below (And.right (And.right (And.right (And.right (And.right (And.right (And.right (by with_reducible assumption)))))))) (Nat.le_refl _); rintro e v3 ⟨rfl, g3⟩; rw [EMA.out]; have hs3 := held7 (W := V) kA kB kJ kM kC kH kH (by with_reducible assumption) g3; clear g3)
              | (go_at_call_of 11 #[Value.agg #[Value.slice rm mn mc], Value.agg #[Value.slice rb m rd]]; refine (implIsBelow_calls rm rb mn mc m rd (mix min xs ys) ys _ hmn hm ?_ ?_).mono ?_; exact GM.out.below (And.right (And.right (And.right (And.right (And.right (And.right (And.right (by with_reducible assumption)))))))) (Nat.le_refl _); exact GB.out.below (And.right (And.right (And.right (And.right (And.right (And.right (And.right (by with_reducible assumption)))))))) (Nat.le_refl _); rintro e v4 ⟨rfl, g4⟩; rw [EMB.out]; have hs4 := held7 (W := V) kA kB kJ kM kC kH kH (by with_reducible assumption) g4; clear g4)
              | (go_at_call 21; refine (specHighLabel_calls rp i rpc zs _ hi ?_).mono ?_; exact GC.out.below (And.right (And.right (And.right (And.right (And.right (And.right (And.right (by with_reducible assumption)))))))) (Nat.le_refl _); rintro e v5 ⟨rx, xn, xc, rfl, _, g5⟩; have hs5 := held7 (W := V) kA kB kJ kM kC kH kH (by with_reducible assumption) g5; clear g5)
              | (go_at_call_of 22 (Value.slice rh kn kc); refine (implOwnsAny_calls rh kn kc (highL zs) _ hkn ?_).mono ?_; exact GH.out.below (And.right (And.right (And.right (And.right (And.right (And.right (And.right (by with_reducible assumption)))))))) (Nat.le_refl _); rintro e v6 ⟨rfl, g6⟩; rw [EHN.out]; have hs6 := held7 (W := V) kA kB kJ kM kC kH kH (by with_reducible assumption) g6; clear g6)
              | (go_at_call_of 11 #[Value.agg #[Value.slice rp i rpc], Value.agg #[Value.slice rh kn kc]]; refine (implIsBelow_calls rp rh i rpc kn kc zs (highL zs) _ hi hkn ?_ ?_).mono ?_; exact GC.out.below (And.right (And.right (And.right (And.right (And.right (And.right (And.right (by with_reducible assumption)))))))) (Nat.le_refl _); exact GH.out.below (And.right (And.right (And.right (And.right (And.right (And.right (And.right (by with_reducible assumption)))))))) (Nat.le_refl _); rintro e v7 ⟨rfl, g7⟩; rw [EHU.out]; have hs7 := held7 (W := V) kA kB kJ kM kC kH kH (by with_reducible assumption) g7; clear g7)
              | (go_at_call_of 22 (Value.slice rp i rpc); refine (implOwnsAny_calls rp i rpc zs _ hi ?_).mono ?_; exact GC.out.below (And.right (And.right (And.right (And.right (And.right (And.right (And.right (by with_reducible assumption)))))))) (Nat.le_refl _); rintro e v8 ⟨rfl, g8⟩; have hs8 := held7 (W := V) kA kB kJ kM kC kH kH (by with_reducible assumption) g8; clear g8)
              | (go_at_call 23; refine (specOwnsAny_calls rp i rpc zs _ hi ?_).mono ?_; exact GC.out.below (And.right (And.right (And.right (And.right (And.right (And.right (And.right (by with_reducible assumption)))))))) (Nat.le_refl _); rintro e v9 ⟨rfl, g9⟩; have hs9 := held7 (W := V) kA kB kJ kM kC kH kH (by with_reducible assumption) g9; clear g9))) | fail
          have HE := hide (hbV.trans (hs9.2.2.2.2.2.2.2.mono hbV.size))
          go_wp2
          go_ret
          exact ⟨rfl, HE.out⟩
        · have ez : (fault zs != 0) = true := by simp [hz]
          clear SH6 hz
          have HS0 : Hid (V.drew.cell? ⟨w1.heap.size, 0, none⟩ = some (.slice ra n rc) ∧ V.drew.cell? ⟨w1.heap.size + 1, 0, none⟩ = some (.slice rb m rd) ∧ V.drew.cell? ⟨w2.heap.size, 1, none⟩ = some (.slice rj jn jc) ∧ V.drew.cell? ⟨w3.heap.size, 1, none⟩ = some (.slice rm mn mc) ∧ V.drew.cell? ⟨w4.heap.size, 0, none⟩ = some (.slice rp i rpc) ∧ V.drew.cell? ⟨w6.heap.size, 0, none⟩ = some (.int .i64 (fault zs)) ∧ V.drew.cell? ⟨w6.heap.size, 1, none⟩ = some (.slice rh kn kc) ∧ Below V.heap.size V V.drew) := ⟨fA, fB, fJ, fM, fC, fH0, fH1, (Below.refl _ _).drew⟩
          clear fA fB fJ fM fC fH0 fH1
          refine wp_region_held_drew (S := (fun w' => w'.cell? ⟨w1.heap.size, 0, none⟩ = some (.slice ra n rc) ∧ w'.cell? ⟨w1.heap.size + 1, 0, none⟩ = some (.slice rb m rd) ∧ w'.cell? ⟨w2.heap.size, 1, none⟩ = some (.slice rj jn jc) ∧ w'.cell? ⟨w3.heap.size, 1, none⟩ = some (.slice rm mn mc) ∧ w'.cell? ⟨w4.heap.size, 0, none⟩ = some (.slice rp i rpc) ∧ w'.cell? ⟨w6.heap.size, 0, none⟩ = some (.int .i64 (fault zs)) ∧ w'.cell? ⟨w6.heap.size, 1, none⟩ = some (.slice rh kn kc) ∧ Below V.heap.size V w')) (by kernel_rfl) HS0.out (fun hHeld => ?_)
          refine wpAnyH_take (i := 0) (oi := { dst := some 88, op := Go.Op.load 26 (Go.Operand.tmp 3), type := 26, pos := "laws.go:71", after := #[], guard := none }) (v := ?_) rfl (by kernel_rfl) (by kernel_rfl) (by kernel_rfl) (fun _ _ _ h => h) (Or.inl ⟨by rfl, ?_⟩) (by assumption) ?_
          rotate_left
          · (intro w hSw; (try dsimp only at hSw); go_simp; (try with_reducible rfl))
          (try simp only [Act.put, List.setIfInBounds_toArray, List.set_cons_zero, List.set_cons_succ])
          refine wpAnyH_take (i := 1) (oi := { dst := some 89, op := Go.Op.fieldAddr 33 (Go.Operand.tmp 5) 1, type := 0, pos := "laws.go:71", after := #[], guard := none }) (v := ?_) rfl (by kernel_rfl) (by kernel_rfl) (by kernel_rfl) (fun _ _ _ h => h) (Or.inl ⟨by rfl, ?_⟩) (by assumption) ?_
          rotate_left
          · (intro w hSw; (try dsimp only at hSw); go_simp; (try with_reducible rfl))
          (try simp only [Act.put, List.setIfInBounds_toArray, List.set_cons_zero, List.set_cons_succ])
          refine wpAnyH_take (i := 2) (oi := { dst := some 90, op := Go.Op.load 26 (Go.Operand.tmp 89), type := 26, pos := "laws.go:71", after := #[{ on := 1, ground := Go.Ground.data }], guard := none }) (v := ?_) rfl (by kernel_rfl) (by kernel_rfl) (by kernel_rfl) (fun _ _ _ h => h) (Or.inl ⟨by rfl, ?_⟩) (by assumption) ?_
          rotate_left
          · (intro w hSw; (try dsimp only at hSw); go_simp; (try with_reducible rfl))
          (try simp only [Act.put, List.setIfInBounds_toArray, List.set_cons_zero, List.set_cons_succ])
          refine wpAnyH_ready (rs := [3]) (by kernel_rfl) (by simp) ?_
          refine AllReadyH.cons (o := { dst := some 91, op := Go.Op.call { callee := Go.Callee.value (Go.Operand.func 11), args := #[Go.Operand.tmp 88, Go.Operand.tmp 90], argTypes := #[26, 26] }, type := 4, pos := "laws.go:71", after := #[{ on := 0, ground := Go.Ground.data }, { on := 2, ground := Go.Ground.data }], guard := none }) rfl (fun K hK => ?_) AllReadyH.nil
          go_simp
          go_wp2_with (go_at_call_of 11 #[Value.agg #[Value.slice ra n rc], Value.agg #[Value.slice rj jn jc]]; refine (implIsBelow_calls ra rj n rc jn jc xs (mix max xs ys) _ hn hjn ?_ ?_).mono ?_; exact GA.out.below (And.right (And.right (And.right (And.right (And.right (And.right (And.right (by with_reducible assumption)))))))) (Nat.le_refl _); exact GJ.out.below (And.right (And.right (And.right (And.right (And.right (And.right (And.right (by with_reducible assumption)))))))) (Nat.le_refl _); rintro e v1 ⟨rfl, g1⟩; rw [EJA.out]; have hs1 := held7 (W := V) kA kB kJ kM kC kH kH (by with_reducible assumption) g1; clear g1)
          refine hK.out _ _ hs1 (fun hHeld => ?_)
          clear hK K
          (try simp only [Act.put, List.setIfInBounds_toArray, List.set_cons_zero, List.set_cons_succ])
          refine wpAnyH_take (i := 4) (oi := { dst := some 92, op := Go.Op.move (Go.Operand.tmp 91), type := 4, pos := "laws.go:71", after := #[{ on := 3, ground := Go.Ground.data }, { on := 3, ground := Go.Ground.chain }], guard := none }) (v := ?_) rfl (by kernel_rfl) (by kernel_rfl) (by kernel_rfl) (fun _ _ _ h => h) (Or.inl ⟨by rfl, ?_⟩) (by assumption) ?_
          rotate_left
          · (intro w hSw; (try dsimp only at hSw); go_simp; (try with_reducible rfl))
          (try simp only [Act.put, List.setIfInBounds_toArray, List.set_cons_zero, List.set_cons_succ])
          refine wpAnyH_take (i := 5) (oi := { dst := some 93, op := Go.Op.load 26 (Go.Operand.tmp 4), type := 26, pos := "laws.go:71", after := #[{ on := 4, ground := Go.Ground.guard }], guard := some (4, true) }) (v := ?_) rfl (by kernel_rfl) (by kernel_rfl) (by kernel_rfl) (fun _ _ _ h => h) (Or.inl ⟨by rfl, ?_⟩) (by assumption) ?_
          rotate_left
          · (intro w hSw; (try dsimp only at hSw); go_simp; (try with_reducible rfl))
          (try simp only [Act.put, List.setIfInBounds_toArray, List.set_cons_zero, List.set_cons_succ])
          refine wpAnyH_take (i := 6) (oi := { dst := some 94, op := Go.Op.fieldAddr 33 (Go.Operand.tmp 5) 1, type := 0, pos := "laws.go:71", after := #[{ on := 4, ground := Go.Ground.guard }], guard := some (4, true) }) (v := ?_) rfl (by kernel_rfl) (by kernel_rfl) (by kernel_rfl) (fun _ _ _ h => h) (Or.inl ⟨by rfl, ?_⟩) (by assumption) ?_
          rotate_left
          · (intro w hSw; (try dsimp only at hSw); go_simp; (try with_reducible rfl))
          (try simp only [Act.put, List.setIfInBounds_toArray, List.set_cons_zero, List.set_cons_succ])
          refine wpAnyH_take (i := 7) (oi := { dst := some 95, op := Go.Op.load 26 (Go.Operand.tmp 94), type := 26, pos := "laws.go:71", after := #[{ on := 6, ground := Go.Ground.data }, { on := 4, ground := Go.Ground.guard }], guard := some (4, true) }) (v := ?_) rfl (by kernel_rfl) (by kernel_rfl) (by kernel_rfl) (fun _ _ _ h => h) (Or.inl ⟨by rfl, ?_⟩) (by assumption) ?_
          rotate_left
          · (intro w hSw; (try dsimp only at hSw); go_simp; (try with_reducible rfl))
          (try simp only [Act.put, List.setIfInBounds_toArray, List.set_cons_zero, List.set_cons_succ])
          refine wpAnyH_ready (rs := [8]) (by kernel_rfl) (by simp) ?_
          refine AllReadyH.cons (o := { dst := some 96, op := Go.Op.call { callee := Go.Callee.value (Go.Operand.func 11), args := #[Go.Operand.tmp 93, Go.Operand.tmp 95], argTypes := #[26, 26] }, type := 4, pos := "laws.go:71", after := #[{ on := 5, ground := Go.Ground.data }, { on := 7, ground := Go.Ground.data }, { on := 4, ground := Go.Ground.chain }, { on := 4, ground := Go.Ground.guard }], guard := some (4, true) }) rfl (fun K hK => ?_) AllReadyH.nil
          go_simp
          go_wp2_with (go_at_call_of 11 #[Value.agg #[Value.slice rb m rd], Value.agg #[Value.slice rj jn jc]]; refine (implIsBelow_calls rb rj m rd jn jc ys (mix max xs ys) _ hm hjn ?_ ?_).mono ?_; exact GB.out.below (And.right (And.right (And.right (And.right (And.right (And.right (And.right (by with_reducible assumption)))))))) (Nat.le_refl _); exact GJ.out.below (And.right (And.right (And.right (And.right (And.right (And.right (And.right (by with_reducible assumption)))))))) (Nat.le_refl _); rintro e v2 ⟨rfl, g2⟩; rw [EJB.out]; have hs2 := held7 (W := V) kA kB kJ kM kC kH kH (by with_reducible assumption) g2; clear g2)
          refine hK.out _ _ hs2 (fun hHeld => ?_)
          clear hK K
          (try simp only [Act.put, List.setIfInBounds_toArray, List.set_cons_zero, List.set_cons_succ])
          refine wpAnyH_take (i := 9) (oi := { dst := some 97, op := Go.Op.pick (Go.Operand.tmp 92) (Go.Operand.tmp 96) (Go.Operand.const (Go.Value.bool false)), type := 4, pos := "laws.go:71", after := #[{ on := 4, ground := Go.Ground.data }, { on := 8, ground := Go.Ground.data }], guard := none }) (v := ?_) rfl (by kernel_rfl) (by kernel_rfl) (by kernel_rfl) (fun _ _ _ h => h) (Or.inl ⟨by rfl, ?_⟩) (by assumption) ?_
          rotate_left
          · (intro w hSw; (try dsimp only at hSw); go_simp; (try with_reducible rfl))
          (try simp only [Act.put, List.setIfInBounds_toArray, List.set_cons_zero, List.set_cons_succ])
          refine wpAnyH_take (i := 10) (oi := { dst := some 98, op := Go.Op.move (Go.Operand.tmp 97), type := 4, pos := "laws.go:71", after := #[{ on := 9, ground := Go.Ground.data }, { on := 8, ground := Go.Ground.chain }], guard := none }) (v := ?_) rfl (by kernel_rfl) (by kernel_rfl) (by kernel_rfl) (fun _ _ _ h => h) (Or.inl ⟨by rfl, ?_⟩) (by assumption) ?_
          rotate_left
          · (intro w hSw; (try dsimp only at hSw); go_simp; (try with_reducible rfl))
          (try simp only [Act.put, List.setIfInBounds_toArray, List.set_cons_zero, List.set_cons_succ])
          refine wpAnyH_take (i := 11) (oi := { dst := some 99, op := Go.Op.fieldAddr 33 (Go.Operand.tmp 6) 1, type := 0, pos := "laws.go:71", after := #[{ on := 10, ground := Go.Ground.guard }], guard := some (10, true) }) (v := ?_) rfl (by kernel_rfl) (by kernel_rfl) (by kernel_rfl) (fun _ _ _ h => h) (Or.inl ⟨by rfl, ?_⟩) (by assumption) ?_
          rotate_left
          · (intro w hSw; (try dsimp only at hSw); go_simp; (try with_reducible rfl))
          (try simp only [Act.put, List.setIfInBounds_toArray, List.set_cons_zero, List.set_cons_succ])
          refine wpAnyH_take (i := 12) (oi := { dst := some 100, op := Go.Op.load 26 (Go.Operand.tmp 99), type := 26, pos := "laws.go:71", after := #[{ on := 11, ground := Go.Ground.data }, { on := 10, ground := Go.Ground.guard }], guard := some (10, true) }) (v := ?_) rfl (by kernel_rfl) (by kernel_rfl) (by kernel_rfl) (fun _ _ _ h => h) (Or.inl ⟨by rfl, ?_⟩) (by assumption) ?_
          rotate_left
          · (intro w hSw; (try dsimp only at hSw); go_simp; (try with_reducible rfl))
          (try simp only [Act.put, List.setIfInBounds_toArray, List.set_cons_zero, List.set_cons_succ])
          refine wpAnyH_take (i := 13) (oi := { dst := some 101, op := Go.Op.load 26 (Go.Operand.tmp 3), type := 26, pos := "laws.go:71", after := #[{ on := 10, ground := Go.Ground.guard }], guard := some (10, true) }) (v := ?_) rfl (by kernel_rfl) (by kernel_rfl) (by kernel_rfl) (fun _ _ _ h => h) (Or.inl ⟨by rfl, ?_⟩) (by assumption) ?_
          rotate_left
          · (intro w hSw; (try dsimp only at hSw); go_simp; (try with_reducible rfl))
          (try simp only [Act.put, List.setIfInBounds_toArray, List.set_cons_zero, List.set_cons_succ])
          refine wpAnyH_ready (rs := [14]) (by kernel_rfl) (by simp) ?_
          refine AllReadyH.cons (o := { dst := some 102, op := Go.Op.call { callee := Go.Callee.value (Go.Operand.func 11), args := #[Go.Operand.tmp 100, Go.Operand.tmp 101], argTypes := #[26, 26] }, type := 4, pos := "laws.go:71", after := #[{ on := 12, ground := Go.Ground.data }, { on := 13, ground := Go.Ground.data }, { on := 10, ground := Go.Ground.chain }, { on := 10, ground := Go.Ground.guard }], guard := some (10, true) }) rfl (fun K hK => ?_) AllReadyH.nil
          go_simp
          go_wp2_with (go_at_call_of 11 #[Value.agg #[Value.slice rm mn mc], Value.agg #[Value.slice ra n rc]]; refine (implIsBelow_calls rm ra mn mc n rc (mix min xs ys) xs _ hmn hn ?_ ?_).mono ?_; exact GM.out.below (And.right (And.right (And.right (And.right (And.right (And.right (And.right (by with_reducible assumption)))))))) (Nat.le_refl _); exact GA.out.below (And.right (And.right (And.right (And.right (And.right (And.right (And.right (by with_reducible assumption)))))))) (Nat.le_refl _); rintro e v3 ⟨rfl, g3⟩; rw [EMA.out]; have hs3 := held7 (W := V) kA kB kJ kM kC kH kH (by with_reducible assumption) g3; clear g3)
          refine hK.out _ _ hs3 (fun hHeld => ?_)
          clear hK K
          (try simp only [Act.put, List.setIfInBounds_toArray, List.set_cons_zero, List.set_cons_succ])
          refine wpAnyH_take (i := 15) (oi := { dst := some 103, op := Go.Op.pick (Go.Operand.tmp 98) (Go.Operand.tmp 102) (Go.Operand.const (Go.Value.bool false)), type := 4, pos := "laws.go:71", after := #[{ on := 10, ground := Go.Ground.data }, { on := 14, ground := Go.Ground.data }], guard := none }) (v := ?_) rfl (by kernel_rfl) (by kernel_rfl) (by kernel_rfl) (fun _ _ _ h => h) (Or.inl ⟨by rfl, ?_⟩) (by assumption) ?_
          rotate_left
          · (intro w hSw; (try dsimp only at hSw); go_simp; (try with_reducible rfl))
          (try simp only [Act.put, List.setIfInBounds_toArray, List.set_cons_zero, List.set_cons_succ])
          refine wpAnyH_take (i := 16) (oi := { dst := some 104, op := Go.Op.move (Go.Operand.tmp 103), type := 4, pos := "laws.go:71", after := #[{ on := 15, ground := Go.Ground.data }, { on := 14, ground := Go.Ground.chain }], guard := none }) (v := ?_) rfl (by kernel_rfl) (by kernel_rfl) (by kernel_rfl) (fun _ _ _ h => h) (Or.inl ⟨by rfl, ?_⟩) (by assumption) ?_
          rotate_left
          · (intro w hSw; (try dsimp only at hSw); go_simp; (try with_reducible rfl))
          (try simp only [Act.put, List.setIfInBounds_toArray, List.set_cons_zero, List.set_cons_succ])
          refine wpAnyH_take (i := 17) (oi := { dst := some 105, op := Go.Op.fieldAddr 33 (Go.Operand.tmp 6) 1, type := 0, pos := "laws.go:71", after := #[{ on := 16, ground := Go.Ground.guard }], guard := some (16, true) }) (v := ?_) rfl (by kernel_rfl) (by kernel_rfl) (by kernel_rfl) (fun _ _ _ h => h) (Or.inl ⟨by rfl, ?_⟩) (by assumption) ?_
          rotate_left
          · (intro w hSw; (try dsimp only at hSw); go_simp; (try with_reducible rfl))
          (try simp only [Act.put, List.setIfInBounds_toArray, List.set_cons_zero, List.set_cons_succ])
          refine wpAnyH_take (i := 18) (oi := { dst := some 106, op := Go.Op.load 26 (Go.Operand.tmp 105), type := 26, pos := "laws.go:71", after := #[{ on := 17, ground := Go.Ground.data }, { on := 16, ground := Go.Ground.guard }], guard := some (16, true) }) (v := ?_) rfl (by kernel_rfl) (by kernel_rfl) (by kernel_rfl) (fun _ _ _ h => h) (Or.inl ⟨by rfl, ?_⟩) (by assumption) ?_
          rotate_left
          · (intro w hSw; (try dsimp only at hSw); go_simp; (try with_reducible rfl))
          (try simp only [Act.put, List.setIfInBounds_toArray, List.set_cons_zero, List.set_cons_succ])
          refine wpAnyH_take (i := 19) (oi := { dst := some 107, op := Go.Op.load 26 (Go.Operand.tmp 4), type := 26, pos := "laws.go:71", after := #[{ on := 16, ground := Go.Ground.guard }], guard := some (16, true) }) (v := ?_) rfl (by kernel_rfl) (by kernel_rfl) (by kernel_rfl) (fun _ _ _ h => h) (Or.inl ⟨by rfl, ?_⟩) (by assumption) ?_
          rotate_left
          · (intro w hSw; (try dsimp only at hSw); go_simp; (try with_reducible rfl))
          (try simp only [Act.put, List.setIfInBounds_toArray, List.set_cons_zero, List.set_cons_succ])
          refine wpAnyH_ready (rs := [20]) (by kernel_rfl) (by simp) ?_
          refine AllReadyH.cons (o := { dst := some 108, op := Go.Op.call { callee := Go.Callee.value (Go.Operand.func 11), args := #[Go.Operand.tmp 106, Go.Operand.tmp 107], argTypes := #[26, 26] }, type := 4, pos := "laws.go:71", after := #[{ on := 18, ground := Go.Ground.data }, { on := 19, ground := Go.Ground.data }, { on := 16, ground := Go.Ground.chain }, { on := 16, ground := Go.Ground.guard }], guard := some (16, true) }) rfl (fun K hK => ?_) AllReadyH.nil
          go_simp
          go_wp2_with (go_at_call_of 11 #[Value.agg #[Value.slice rm mn mc], Value.agg #[Value.slice rb m rd]]; refine (implIsBelow_calls rm rb mn mc m rd (mix min xs ys) ys _ hmn hm ?_ ?_).mono ?_; exact GM.out.below (And.right (And.right (And.right (And.right (And.right (And.right (And.right (by with_reducible assumption)))))))) (Nat.le_refl _); exact GB.out.below (And.right (And.right (And.right (And.right (And.right (And.right (And.right (by with_reducible assumption)))))))) (Nat.le_refl _); rintro e v4 ⟨rfl, g4⟩; rw [EMB.out]; have hs4 := held7 (W := V) kA kB kJ kM kC kH kH (by with_reducible assumption) g4; clear g4)
          refine hK.out _ _ hs4 (fun hHeld => ?_)
          clear hK K
          (try simp only [Act.put, List.setIfInBounds_toArray, List.set_cons_zero, List.set_cons_succ])
          refine wpAnyH_take (i := 21) (oi := { dst := some 109, op := Go.Op.pick (Go.Operand.tmp 104) (Go.Operand.tmp 108) (Go.Operand.const (Go.Value.bool false)), type := 4, pos := "laws.go:71", after := #[{ on := 16, ground := Go.Ground.data }, { on := 20, ground := Go.Ground.data }], guard := none }) (v := ?_) rfl (by kernel_rfl) (by kernel_rfl) (by kernel_rfl) (fun _ _ _ h => h) (Or.inl ⟨by rfl, ?_⟩) (by assumption) ?_
          rotate_left
          · (intro w hSw; (try dsimp only at hSw); go_simp; (try with_reducible rfl))
          (try simp only [Act.put, List.setIfInBounds_toArray, List.set_cons_zero, List.set_cons_succ])
          refine wpAnyH_take (i := 22) (oi := { dst := some 110, op := Go.Op.move (Go.Operand.tmp 109), type := 4, pos := "laws.go:71", after := #[{ on := 21, ground := Go.Ground.data }, { on := 20, ground := Go.Ground.chain }], guard := none }) (v := ?_) rfl (by kernel_rfl) (by kernel_rfl) (by kernel_rfl) (fun _ _ _ h => h) (Or.inl ⟨by rfl, ?_⟩) (by assumption) ?_
          rotate_left
          · (intro w hSw; (try dsimp only at hSw); go_simp; (try with_reducible rfl))
          (try simp only [Act.put, List.setIfInBounds_toArray, List.set_cons_zero, List.set_cons_succ])
          refine wpAnyH_take (i := 23) (oi := { dst := some 111, op := Go.Op.move (Go.Operand.tmp 11), type := 4, pos := "laws.go:71", after := #[{ on := 22, ground := Go.Ground.guard }], guard := some (22, true) }) (v := ?_) rfl (by kernel_rfl) (by kernel_rfl) (by kernel_rfl) (fun _ _ _ h => h) (Or.inl ⟨by rfl, ?_⟩) (by assumption) ?_
          rotate_left
          · (intro w hSw; (try dsimp only at hSw); go_simp; (try with_reducible rfl))
          (try simp only [Act.put, List.setIfInBounds_toArray, List.set_cons_zero, List.set_cons_succ])
          refine wpAnyH_take (i := 24) (oi := { dst := some 112, op := Go.Op.pick (Go.Operand.tmp 110) (Go.Operand.tmp 111) (Go.Operand.const (Go.Value.bool false)), type := 4, pos := "laws.go:71", after := #[{ on := 22, ground := Go.Ground.data }, { on := 23, ground := Go.Ground.data }], guard := none }) (v := ?_) rfl (by kernel_rfl) (by kernel_rfl) (by kernel_rfl) (fun _ _ _ h => h) (Or.inl ⟨by rfl, ?_⟩) (by assumption) ?_
          rotate_left
          · (intro w hSw; (try dsimp only at hSw); go_simp; (try with_reducible rfl))
          (try simp only [Act.put, List.setIfInBounds_toArray, List.set_cons_zero, List.set_cons_succ])
          refine wpAnyH_take (i := 25) (oi := { dst := some 113, op := Go.Op.move (Go.Operand.tmp 112), type := 4, pos := "laws.go:71", after := #[{ on := 24, ground := Go.Ground.data }, { on := 22, ground := Go.Ground.chain }], guard := none }) (v := ?_) rfl (by kernel_rfl) (by kernel_rfl) (by kernel_rfl) (fun _ _ _ h => h) (Or.inl ⟨by rfl, ?_⟩) (by assumption) ?_
          rotate_left
          · (intro w hSw; (try dsimp only at hSw); go_simp; (try with_reducible rfl))
          (try simp only [Act.put, List.setIfInBounds_toArray, List.set_cons_zero, List.set_cons_succ])
          refine wpAnyH_take (i := 26) (oi := { dst := some 114, op := Go.Op.move (Go.Operand.tmp 12), type := 4, pos := "laws.go:71", after := #[{ on := 25, ground := Go.Ground.guard }], guard := some (25, true) }) (v := ?_) rfl (by kernel_rfl) (by kernel_rfl) (by kernel_rfl) (fun _ _ _ h => h) (Or.inl ⟨by rfl, ?_⟩) (by assumption) ?_
          rotate_left
          · (intro w hSw; (try dsimp only at hSw); go_simp; (try with_reducible rfl))
          (try simp only [Act.put, List.setIfInBounds_toArray, List.set_cons_zero, List.set_cons_succ])
          refine wpAnyH_take (i := 27) (oi := { dst := some 115, op := Go.Op.pick (Go.Operand.tmp 113) (Go.Operand.tmp 114) (Go.Operand.const (Go.Value.bool false)), type := 4, pos := "laws.go:71", after := #[{ on := 25, ground := Go.Ground.data }, { on := 26, ground := Go.Ground.data }], guard := none }) (v := ?_) rfl (by kernel_rfl) (by kernel_rfl) (by kernel_rfl) (fun _ _ _ h => h) (Or.inl ⟨by rfl, ?_⟩) (by assumption) ?_
          rotate_left
          · (intro w hSw; (try dsimp only at hSw); go_simp; (try with_reducible rfl))
          (try simp only [Act.put, List.setIfInBounds_toArray, List.set_cons_zero, List.set_cons_succ])
          refine wpAnyH_take (i := 28) (oi := { dst := some 116, op := Go.Op.move (Go.Operand.tmp 115), type := 4, pos := "laws.go:71", after := #[{ on := 27, ground := Go.Ground.data }, { on := 25, ground := Go.Ground.chain }], guard := none }) (v := ?_) rfl (by kernel_rfl) (by kernel_rfl) (by kernel_rfl) (fun _ _ _ h => h) (Or.inl ⟨by rfl, ?_⟩) (by assumption) ?_
          rotate_left
          · (intro w hSw; (try dsimp only at hSw); go_simp; (try with_reducible rfl))
          (try simp only [Act.put, List.setIfInBounds_toArray, List.set_cons_zero, List.set_cons_succ])
          refine wpAnyH_take (i := 29) (oi := { dst := some 117, op := Go.Op.fieldAddr 33 (Go.Operand.tmp 13) 0, type := 0, pos := "laws.go:71", after := #[{ on := 28, ground := Go.Ground.guard }], guard := some (28, true) }) (v := ?_) rfl (by kernel_rfl) (by kernel_rfl) (by kernel_rfl) (fun _ _ _ h => h) (Or.inl ⟨by rfl, ?_⟩) (by assumption) ?_
          rotate_left
          · (intro w hSw; (try dsimp only at hSw); go_simp; (try with_reducible rfl))
          (try simp only [Act.put, List.setIfInBounds_toArray, List.set_cons_zero, List.set_cons_succ])
          refine wpAnyH_take (i := 30) (oi := { dst := some 118, op := Go.Op.load 2 (Go.Operand.tmp 117), type := 2, pos := "laws.go:71", after := #[{ on := 29, ground := Go.Ground.data }, { on := 28, ground := Go.Ground.guard }], guard := some (28, true) }) (v := ?_) rfl (by kernel_rfl) (by kernel_rfl) (by kernel_rfl) (fun _ _ _ h => h) (Or.inl ⟨by rfl, ?_⟩) (by assumption) ?_
          rotate_left
          · (intro w hSw; (try dsimp only at hSw); go_simp; (try with_reducible rfl))
          (try simp only [Act.put, List.setIfInBounds_toArray, List.set_cons_zero, List.set_cons_succ])
          refine wpAnyH_take (i := 31) (oi := { dst := some 119, op := Go.Op.load 26 (Go.Operand.tmp 7), type := 26, pos := "laws.go:71", after := #[{ on := 28, ground := Go.Ground.guard }], guard := some (28, true) }) (v := ?_) rfl (by kernel_rfl) (by kernel_rfl) (by kernel_rfl) (fun _ _ _ h => h) (Or.inl ⟨by rfl, ?_⟩) (by assumption) ?_
          rotate_left
          · (intro w hSw; (try dsimp only at hSw); go_simp; (try with_reducible rfl))
          (try simp only [Act.put, List.setIfInBounds_toArray, List.set_cons_zero, List.set_cons_succ])
          refine wpAnyH_ready (rs := [32]) (by kernel_rfl) (by simp) ?_
          refine AllReadyH.cons (o := { dst := some 120, op := Go.Op.call { callee := Go.Callee.value (Go.Operand.func 21), args := #[Go.Operand.tmp 119], argTypes := #[26] }, type := 33, pos := "laws.go:71", after := #[{ on := 31, ground := Go.Ground.data }, { on := 28, ground := Go.Ground.chain }, { on := 28, ground := Go.Ground.guard }], guard := some (28, true) }) rfl (fun K hK => ?_) AllReadyH.nil
          go_simp
          go_wp2_with (go_at_call 21; refine (specHighLabel_calls rp i rpc zs _ hi ?_).mono ?_; exact GC.out.below (And.right (And.right (And.right (And.right (And.right (And.right (And.right (by with_reducible assumption)))))))) (Nat.le_refl _); rintro e v5 ⟨rx, xn, xc, rfl, _, g5⟩; have hs5 := held7 (W := V) kA kB kJ kM kC kH kH (by with_reducible assumption) g5; clear g5)
          refine hK.out _ _ hs5 (fun hHeld => ?_)
          clear hK K
          (try simp only [Act.put, List.setIfInBounds_toArray, List.set_cons_zero, List.set_cons_succ])
          refine wpAnyH_take (i := 33) (oi := { dst := some 121, op := Go.Op.field 33 (Go.Operand.tmp 120) 0, type := 2, pos := "laws.go:71", after := #[{ on := 32, ground := Go.Ground.data }, { on := 28, ground := Go.Ground.guard }], guard := some (28, true) }) (v := ?_) rfl (by kernel_rfl) (by kernel_rfl) (by kernel_rfl) (fun _ _ _ h => h) (Or.inl ⟨by rfl, ?_⟩) (by assumption) ?_
          rotate_left
          · (intro w hSw; (try dsimp only at hSw); go_simp; (try with_reducible rfl))
          (try simp only [Act.put, List.setIfInBounds_toArray, List.set_cons_zero, List.set_cons_succ])
          refine wpAnyH_take (i := 34) (oi := { dst := some 122, op := Go.Op.binOp Go.BinOp.eql 2 (Go.Operand.tmp 118) (Go.Operand.tmp 121) 2, type := 4, pos := "laws.go:71", after := #[{ on := 30, ground := Go.Ground.data }, { on := 33, ground := Go.Ground.data }, { on := 28, ground := Go.Ground.guard }], guard := some (28, true) }) (v := ?_) rfl (by kernel_rfl) (by kernel_rfl) (by kernel_rfl) (fun _ _ _ h => h) (Or.inl ⟨by rfl, ?_⟩) (by assumption) ?_
          rotate_left
          · (intro w hSw; (try dsimp only at hSw); go_simp; (try with_reducible rfl))
          (try simp only [Act.put, List.setIfInBounds_toArray, List.set_cons_zero, List.set_cons_succ])
          refine wpAnyH_take (i := 35) (oi := { dst := some 123, op := Go.Op.pick (Go.Operand.tmp 116) (Go.Operand.tmp 122) (Go.Operand.const (Go.Value.bool false)), type := 4, pos := "laws.go:71", after := #[{ on := 28, ground := Go.Ground.data }, { on := 34, ground := Go.Ground.data }], guard := none }) (v := ?_) rfl (by kernel_rfl) (by kernel_rfl) (by kernel_rfl) (fun _ _ _ h => h) (Or.inl ⟨by rfl, ?_⟩) (by assumption) ?_
          rotate_left
          · (intro w hSw; (try dsimp only at hSw); go_simp; (try with_reducible rfl))
          (try simp only [Act.put, List.setIfInBounds_toArray, List.set_cons_zero, List.set_cons_succ])
          refine wpAnyH_take (i := 36) (oi := { dst := some 124, op := Go.Op.move (Go.Operand.tmp 123), type := 4, pos := "laws.go:71", after := #[{ on := 35, ground := Go.Ground.data }, { on := 32, ground := Go.Ground.chain }], guard := none }) (v := ?_) rfl (by kernel_rfl) (by kernel_rfl) (by kernel_rfl) (fun _ _ _ h => h) (Or.inl ⟨by rfl, ?_⟩) (by assumption) ?_
          rotate_left
          · (intro w hSw; (try dsimp only at hSw); go_simp; (try with_reducible rfl))
          (try simp only [Act.put, List.setIfInBounds_toArray, List.set_cons_zero, List.set_cons_succ])
          refine wpAnyH_take (i := 37) (oi := { dst := some 125, op := Go.Op.fieldAddr 33 (Go.Operand.tmp 13) 0, type := 0, pos := "laws.go:71", after := #[{ on := 36, ground := Go.Ground.guard }], guard := some (36, true) }) (v := ?_) rfl (by kernel_rfl) (by kernel_rfl) (by kernel_rfl) (fun _ _ _ h => h) (Or.inl ⟨by rfl, ?_⟩) (by assumption) ?_
          rotate_left
          · (intro w hSw; (try dsimp only at hSw); go_simp; (try with_reducible rfl))
          (try simp only [Act.put, List.setIfInBounds_toArray, List.set_cons_zero, List.set_cons_succ])
          refine wpAnyH_take (i := 38) (oi := { dst := some 126, op := Go.Op.load 2 (Go.Operand.tmp 125), type := 2, pos := "laws.go:71", after := #[{ on := 37, ground := Go.Ground.data }, { on := 36, ground := Go.Ground.guard }], guard := some (36, true) }) (v := ?_) rfl (by kernel_rfl) (by kernel_rfl) (by kernel_rfl) (fun _ _ _ h => h) (Or.inl ⟨by rfl, ?_⟩) (by assumption) ?_
          rotate_left
          · (intro w hSw; (try dsimp only at hSw); go_simp; (try with_reducible rfl))
          (try simp only [Act.put, List.setIfInBounds_toArray, List.set_cons_zero, List.set_cons_succ])
          refine wpAnyH_take (i := 39) (oi := { dst := some 127, op := Go.Op.binOp Go.BinOp.neq 2 (Go.Operand.tmp 126) (Go.Operand.const (Go.Value.int Go.IntKind.i64 0)) 2, type := 4, pos := "laws.go:71", after := #[{ on := 38, ground := Go.Ground.data }, { on := 36, ground := Go.Ground.guard }], guard := some (36, true) }) (v := ?_) rfl (by kernel_rfl) (by kernel_rfl) (by kernel_rfl) (fun _ _ _ h => h) (Or.inl ⟨by rfl, ?_⟩) (by assumption) ?_
          rotate_left
          · (intro w hSw; (try dsimp only at hSw); go_simp; (try with_reducible rfl))
          (try simp only [Act.put, List.setIfInBounds_toArray, List.set_cons_zero, List.set_cons_succ])
          refine wpAnyH_take (i := 40) (oi := { dst := some 128, op := Go.Op.move (Go.Operand.tmp 127), type := 4, pos := "laws.go:71", after := #[{ on := 39, ground := Go.Ground.data }, { on := 36, ground := Go.Ground.chain }, { on := 36, ground := Go.Ground.guard }], guard := some (36, true) }) (v := ?_) rfl (by kernel_rfl) (by kernel_rfl) (by kernel_rfl) (fun _ _ _ h => h) (Or.inl ⟨by rfl, ?_⟩) (by assumption) ?_
          rotate_left
          · (intro w hSw; (try dsimp only at hSw); go_simp; (try with_reducible rfl))
          (try simp only [Act.put, List.setIfInBounds_toArray, List.set_cons_zero, List.set_cons_succ])
          refine wpAnyH_take (i := 41) (oi := { dst := some 129, op := Go.Op.fieldAddr 33 (Go.Operand.tmp 13) 1, type := 0, pos := "laws.go:71", after := #[{ on := 40, ground := Go.Ground.guard }], guard := some (40, false) }) (v := undef) rfl (by kernel_rfl) (by kernel_rfl) (by kernel_rfl) (fun _ _ _ h => h) (Or.inr ⟨by rfl, rfl⟩) (by assumption) ?_
          (try simp only [Act.put, List.setIfInBounds_toArray, List.set_cons_zero, List.set_cons_succ])
          refine wpAnyH_take (i := 42) (oi := { dst := some 130, op := Go.Op.load 26 (Go.Operand.tmp 129), type := 26, pos := "laws.go:71", after := #[{ on := 41, ground := Go.Ground.data }, { on := 40, ground := Go.Ground.guard }], guard := some (40, false) }) (v := undef) rfl (by kernel_rfl) (by kernel_rfl) (by kernel_rfl) (fun _ _ _ h => h) (Or.inr ⟨by rfl, rfl⟩) (by assumption) ?_
          (try simp only [Act.put, List.setIfInBounds_toArray, List.set_cons_zero, List.set_cons_succ])
          refine wpAnyH_take (i := 43) (oi := { dst := some 131, op := Go.Op.call { callee := Go.Callee.value (Go.Operand.func 22), args := #[Go.Operand.tmp 130], argTypes := #[26] }, type := 4, pos := "laws.go:71", after := #[{ on := 42, ground := Go.Ground.data }, { on := 40, ground := Go.Ground.chain }, { on := 40, ground := Go.Ground.guard }], guard := some (40, false) }) (v := undef) rfl (by kernel_rfl) (by kernel_rfl) (by kernel_rfl) (fun _ _ _ h => h) (Or.inr ⟨by rfl, rfl⟩) (by assumption) ?_
          (try simp only [Act.put, List.setIfInBounds_toArray, List.set_cons_zero, List.set_cons_succ])
          refine wpAnyH_take (i := 44) (oi := { dst := some 132, op := Go.Op.unOp Go.UnOp.not 4 (Go.Operand.tmp 131), type := 4, pos := "laws.go:71", after := #[{ on := 43, ground := Go.Ground.data }, { on := 40, ground := Go.Ground.guard }], guard := some (40, false) }) (v := undef) rfl (by kernel_rfl) (by kernel_rfl) (by kernel_rfl) (fun _ _ _ h => h) (Or.inr ⟨by rfl, rfl⟩) (by assumption) ?_
          (try simp only [Act.put, List.setIfInBounds_toArray, List.set_cons_zero, List.set_cons_succ])
          refine wpAnyH_take (i := 45) (oi := { dst := some 133, op := Go.Op.move (Go.Operand.tmp 132), type := 4, pos := "laws.go:71", after := #[{ on := 44, ground := Go.Ground.data }, { on := 43, ground := Go.Ground.chain }, { on := 40, ground := Go.Ground.guard }], guard := some (40, false) }) (v := undef) rfl (by kernel_rfl) (by kernel_rfl) (by kernel_rfl) (fun _ _ _ h => h) (Or.inr ⟨by rfl, rfl⟩) (by assumption) ?_
          (try simp only [Act.put, List.setIfInBounds_toArray, List.set_cons_zero, List.set_cons_succ])
          refine wpAnyH_take (i := 46) (oi := { dst := some 134, op := Go.Op.load 26 (Go.Operand.tmp 7), type := 26, pos := "laws.go:71", after := #[{ on := 45, ground := Go.Ground.guard }], guard := some (45, true) }) (v := undef) rfl (by kernel_rfl) (by kernel_rfl) (by kernel_rfl) (fun _ _ _ h => h) (Or.inr ⟨by rfl, rfl⟩) (by assumption) ?_
          (try simp only [Act.put, List.setIfInBounds_toArray, List.set_cons_zero, List.set_cons_succ])
          refine wpAnyH_take (i := 47) (oi := { dst := some 135, op := Go.Op.fieldAddr 33 (Go.Operand.tmp 13) 1, type := 0, pos := "laws.go:71", after := #[{ on := 45, ground := Go.Ground.guard }], guard := some (45, true) }) (v := undef) rfl (by kernel_rfl) (by kernel_rfl) (by kernel_rfl) (fun _ _ _ h => h) (Or.inr ⟨by rfl, rfl⟩) (by assumption) ?_
          (try simp only [Act.put, List.setIfInBounds_toArray, List.set_cons_zero, List.set_cons_succ])
          refine wpAnyH_take (i := 48) (oi := { dst := some 136, op := Go.Op.load 26 (Go.Operand.tmp 135), type := 26, pos := "laws.go:71", after := #[{ on := 47, ground := Go.Ground.data }, { on := 45, ground := Go.Ground.guard }], guard := some (45, true) }) (v := undef) rfl (by kernel_rfl) (by kernel_rfl) (by kernel_rfl) (fun _ _ _ h => h) (Or.inr ⟨by rfl, rfl⟩) (by assumption) ?_
          (try simp only [Act.put, List.setIfInBounds_toArray, List.set_cons_zero, List.set_cons_succ])
          refine wpAnyH_take (i := 49) (oi := { dst := some 137, op := Go.Op.call { callee := Go.Callee.value (Go.Operand.func 11), args := #[Go.Operand.tmp 134, Go.Operand.tmp 136], argTypes := #[26, 26] }, type := 4, pos := "laws.go:71", after := #[{ on := 46, ground := Go.Ground.data }, { on := 48, ground := Go.Ground.data }, { on := 45, ground := Go.Ground.chain }, { on := 45, ground := Go.Ground.guard }], guard := some (45, true) }) (v := undef) rfl (by kernel_rfl) (by kernel_rfl) (by kernel_rfl) (fun _ _ _ h => h) (Or.inr ⟨by rfl, rfl⟩) (by assumption) ?_
          (try simp only [Act.put, List.setIfInBounds_toArray, List.set_cons_zero, List.set_cons_succ])
          refine wpAnyH_take (i := 50) (oi := { dst := some 138, op := Go.Op.pick (Go.Operand.tmp 133) (Go.Operand.tmp 137) (Go.Operand.const (Go.Value.bool false)), type := 4, pos := "laws.go:71", after := #[{ on := 45, ground := Go.Ground.data }, { on := 49, ground := Go.Ground.data }, { on := 40, ground := Go.Ground.guard }], guard := some (40, false) }) (v := undef) rfl (by kernel_rfl) (by kernel_rfl) (by kernel_rfl) (fun _ _ _ h => h) (Or.inr ⟨by rfl, rfl⟩) (by assumption) ?_
          (try simp only [Act.put, List.setIfInBounds_toArray, List.set_cons_zero, List.set_cons_succ])
          refine wpAnyH_take (i := 51) (oi := { dst := some 139, op := Go.Op.pick (Go.Operand.tmp 128) (Go.Operand.const (Go.Value.bool true)) (Go.Operand.tmp 138), type := 4, pos := "laws.go:71", after := #[{ on := 40, ground := Go.Ground.data }, { on := 50, ground := Go.Ground.data }, { on := 36, ground := Go.Ground.guard }], guard := some (36, true) }) (v := ?_) rfl (by kernel_rfl) (by kernel_rfl) (by kernel_rfl) (fun _ _ _ h => h) (Or.inl ⟨by rfl, ?_⟩) (by assumption) ?_
          rotate_left
          · (intro w hSw; (try dsimp only at hSw); go_simp; (try with_reducible rfl))
          (try simp only [Act.put, List.setIfInBounds_toArray, List.set_cons_zero, List.set_cons_succ])
          refine wpAnyH_take (i := 52) (oi := { dst := some 140, op := Go.Op.pick (Go.Operand.tmp 124) (Go.Operand.tmp 139) (Go.Operand.const (Go.Value.bool false)), type := 4, pos := "laws.go:71", after := #[{ on := 36, ground := Go.Ground.data }, { on := 51, ground := Go.Ground.data }], guard := none }) (v := ?_) rfl (by kernel_rfl) (by kernel_rfl) (by kernel_rfl) (fun _ _ _ h => h) (Or.inl ⟨by rfl, ?_⟩) (by assumption) ?_
          rotate_left
          · (intro w hSw; (try dsimp only at hSw); go_simp; (try with_reducible rfl))
          (try simp only [Act.put, List.setIfInBounds_toArray, List.set_cons_zero, List.set_cons_succ])
          refine wpAnyH_take (i := 53) (oi := { dst := some 141, op := Go.Op.move (Go.Operand.tmp 140), type := 4, pos := "laws.go:71", after := #[{ on := 52, ground := Go.Ground.data }, { on := 49, ground := Go.Ground.chain }], guard := none }) (v := ?_) rfl (by kernel_rfl) (by kernel_rfl) (by kernel_rfl) (fun _ _ _ h => h) (Or.inl ⟨by rfl, ?_⟩) (by assumption) ?_
          rotate_left
          · (intro w hSw; (try dsimp only at hSw); go_simp; (try with_reducible rfl))
          (try simp only [Act.put, List.setIfInBounds_toArray, List.set_cons_zero, List.set_cons_succ])
          refine wpAnyH_take (i := 54) (oi := { dst := some 142, op := Go.Op.load 26 (Go.Operand.tmp 7), type := 26, pos := "laws.go:71", after := #[{ on := 53, ground := Go.Ground.guard }], guard := some (53, true) }) (v := ?_) rfl (by kernel_rfl) (by kernel_rfl) (by kernel_rfl) (fun _ _ _ h => h) (Or.inl ⟨by rfl, ?_⟩) (by assumption) ?_
          rotate_left
          · (intro w hSw; (try dsimp only at hSw); go_simp; (try with_reducible rfl))
          (try simp only [Act.put, List.setIfInBounds_toArray, List.set_cons_zero, List.set_cons_succ])
          refine wpAnyH_take (i := 56) (oi := { dst := some 144, op := Go.Op.load 26 (Go.Operand.tmp 7), type := 26, pos := "laws.go:71", after := #[{ on := 53, ground := Go.Ground.guard }], guard := some (53, true) }) (v := ?_) rfl (by kernel_rfl) (by kernel_rfl) (by kernel_rfl) (fun _ _ _ h => h) (Or.inl ⟨by rfl, ?_⟩) (by assumption) ?_
          rotate_left
          · (intro w hSw; (try dsimp only at hSw); go_simp; (try with_reducible rfl))
          (try simp only [Act.put, List.setIfInBounds_toArray, List.set_cons_zero, List.set_cons_succ])
          refine wpAnyH_ready (rs := [55]) (by kernel_rfl) (by simp) ?_
          refine AllReadyH.cons (o := { dst := some 143, op := Go.Op.call { callee := Go.Callee.value (Go.Operand.func 22), args := #[Go.Operand.tmp 142], argTypes := #[26] }, type := 4, pos := "laws.go:71", after := #[{ on := 54, ground := Go.Ground.data }, { on := 53, ground := Go.Ground.chain }, { on := 53, ground := Go.Ground.guard }], guard := some (53, true) }) rfl (fun K hK => ?_) AllReadyH.nil
          go_simp
          go_wp2_with (go_at_call_of 22 (Value.slice rp i rpc); refine (implOwnsAny_calls rp i rpc zs _ hi ?_).mono ?_; exact GC.out.below (And.right (And.right (And.right (And.right (And.right (And.right (And.right (by with_reducible assumption)))))))) (Nat.le_refl _); rintro e v8 ⟨rfl, g8⟩; have hs8 := held7 (W := V) kA kB kJ kM kC kH kH (by with_reducible assumption) g8; clear g8)
          refine hK.out _ _ hs8 (fun hHeld => ?_)
          clear hK K
          (try simp only [Act.put, List.setIfInBounds_toArray, List.set_cons_zero, List.set_cons_succ])
          refine wpAnyH_ready (rs := [57]) (by kernel_rfl) (by simp) ?_
          refine AllReadyH.cons (o := { dst := some 145, op := Go.Op.call { callee := Go.Callee.value (Go.Operand.func 23), args := #[Go.Operand.tmp 144], argTypes := #[26] }, type := 4, pos := "laws.go:71", after := #[{ on := 56, ground := Go.Ground.data }, { on := 55, ground := Go.Ground.chain }, { on := 53, ground := Go.Ground.guard }], guard := some (53, true) }) rfl (fun K hK => ?_) AllReadyH.nil
          go_simp
          go_wp2_with (go_at_call 23; refine (specOwnsAny_calls rp i rpc zs _ hi ?_).mono ?_; exact GC.out.below (And.right (And.right (And.right (And.right (And.right (And.right (And.right (by with_reducible assumption)))))))) (Nat.le_refl _); rintro e v9 ⟨rfl, g9⟩; have hs9 := held7 (W := V) kA kB kJ kM kC kH kH (by with_reducible assumption) g9; clear g9)
          refine hK.out _ _ hs9 (fun hHeld => ?_)
          clear hK K
          (try simp only [Act.put, List.setIfInBounds_toArray, List.set_cons_zero, List.set_cons_succ])
          refine wpAnyH_take (i := 58) (oi := { dst := some 146, op := Go.Op.binOp Go.BinOp.eql 4 (Go.Operand.tmp 143) (Go.Operand.tmp 145) 4, type := 4, pos := "laws.go:71", after := #[{ on := 55, ground := Go.Ground.data }, { on := 57, ground := Go.Ground.data }, { on := 53, ground := Go.Ground.guard }], guard := some (53, true) }) (v := ?_) rfl (by kernel_rfl) (by kernel_rfl) (by kernel_rfl) (fun _ _ _ h => h) (Or.inl ⟨by rfl, ?_⟩) (by assumption) ?_
          rotate_left
          · (intro w hSw; (try dsimp only at hSw); go_simp; (try with_reducible rfl))
          (try simp only [Act.put, List.setIfInBounds_toArray, List.set_cons_zero, List.set_cons_succ])
          refine wpAnyH_take (i := 59) (oi := { dst := some 147, op := Go.Op.pick (Go.Operand.tmp 141) (Go.Operand.tmp 146) (Go.Operand.const (Go.Value.bool false)), type := 4, pos := "laws.go:71", after := #[{ on := 53, ground := Go.Ground.data }, { on := 58, ground := Go.Ground.data }], guard := none }) (v := ?_) rfl (by kernel_rfl) (by kernel_rfl) (by kernel_rfl) (fun _ _ _ h => h) (Or.inl ⟨by rfl, ?_⟩) (by assumption) ?_
          rotate_left
          · (intro w hSw; (try dsimp only at hSw); go_simp; (try with_reducible rfl))
          (try simp only [Act.put, List.setIfInBounds_toArray, List.set_cons_zero, List.set_cons_succ])
          refine wpAnyH_take (i := 60) (oi := { dst := some 2, op := Go.Op.assign (Go.Operand.tmp 147), type := 4, pos := "laws.go:71", after := #[{ on := 59, ground := Go.Ground.data }, { on := 57, ground := Go.Ground.chain }, { on := 0, ground := Go.Ground.phase }, { on := 1, ground := Go.Ground.phase }, { on := 2, ground := Go.Ground.phase }, { on := 3, ground := Go.Ground.phase }, { on := 4, ground := Go.Ground.phase }, { on := 5, ground := Go.Ground.phase }, { on := 6, ground := Go.Ground.phase }, { on := 7, ground := Go.Ground.phase }, { on := 8, ground := Go.Ground.phase }, { on := 9, ground := Go.Ground.phase }, { on := 10, ground := Go.Ground.phase }, { on := 11, ground := Go.Ground.phase }, { on := 12, ground := Go.Ground.phase }, { on := 13, ground := Go.Ground.phase }, { on := 14, ground := Go.Ground.phase }, { on := 15, ground := Go.Ground.phase }, { on := 16, ground := Go.Ground.phase }, { on := 17, ground := Go.Ground.phase }, { on := 18, ground := Go.Ground.phase }, { on := 19, ground := Go.Ground.phase }, { on := 20, ground := Go.Ground.phase }, { on := 21, ground := Go.Ground.phase }, { on := 22, ground := Go.Ground.phase }, { on := 23, ground := Go.Ground.phase }, { on := 24, ground := Go.Ground.phase }, { on := 25, ground := Go.Ground.phase }, { on := 26, ground := Go.Ground.phase }, { on := 27, ground := Go.Ground.phase }, { on := 28, ground := Go.Ground.phase }, { on := 29, ground := Go.Ground.phase }, { on := 30, ground := Go.Ground.phase }, { on := 31, ground := Go.Ground.phase }, { on := 32, ground := Go.Ground.phase }, { on := 33, ground := Go.Ground.phase }, { on := 34, ground := Go.Ground.phase }, { on := 35, ground := Go.Ground.phase }, { on := 36, ground := Go.Ground.phase }, { on := 37, ground := Go.Ground.phase }, { on := 38, ground := Go.Ground.phase }, { on := 39, ground := Go.Ground.phase }, { on := 40, ground := Go.Ground.phase }, { on := 41, ground := Go.Ground.phase }, { on := 42, ground := Go.Ground.phase }, { on := 43, ground := Go.Ground.phase }, { on := 44, ground := Go.Ground.phase }, { on := 45, ground := Go.Ground.phase }, { on := 46, ground := Go.Ground.phase }, { on := 47, ground := Go.Ground.phase }, { on := 48, ground := Go.Ground.phase }, { on := 49, ground := Go.Ground.phase }, { on := 50, ground := Go.Ground.phase }, { on := 51, ground := Go.Ground.phase }, { on := 52, ground := Go.Ground.phase }, { on := 53, ground := Go.Ground.phase }, { on := 54, ground := Go.Ground.phase }, { on := 55, ground := Go.Ground.phase }, { on := 56, ground := Go.Ground.phase }, { on := 57, ground := Go.Ground.phase }, { on := 58, ground := Go.Ground.phase }, { on := 59, ground := Go.Ground.phase }], guard := none }) (v := ?_) rfl (by kernel_rfl) (by kernel_rfl) (by kernel_rfl) (fun _ _ _ h => h) (Or.inl ⟨by rfl, ?_⟩) (by assumption) ?_
          rotate_left
          · (intro w hSw; (try dsimp only at hSw); go_simp; (try with_reducible rfl))
          (try simp only [Act.put, List.setIfInBounds_toArray, List.set_cons_zero, List.set_cons_succ])
          refine wpAnyH_done (by kernel_rfl) ?_ _
          have HE := hide (hbV.trans (hs9.2.2.2.2.2.2.2.mono hbV.size))
          go_wp2
          go_ret
          exact ⟨rfl, HE.out⟩
  · have ef : (both xs ys != 0) = true := by simp [hf]
    have eq1 : (both xs ys == both xs ys) = true := by simp
    clear hf
    have hbM := hb1.trans (M3.bel.mono hb1.size)
    have lA := M3.lt 5 rfl
    have lB := M3.lt 4 rfl
    have lJ := M3.lt 2 rfl
    have lM := M3.lt 0 rfl
    have F0 := fun (u v : Value) (X : World) => field0 u v X
    clear M3
    go_wp2_with fail
    generalize hW : (w3.alloc (.cells #[.int .i64 (both xs ys), .slice rm mn mc] 33)) = W at a3 b3 j30 j31 m30 m31 lA lB lJ lM SA3 SB3 SJ3 SM3 hbM ⊢
    clear hW
    have HS0 : Hid (W.drew.cell? ⟨w1.heap.size, 0, none⟩ = some (.slice ra n rc) ∧ W.drew.cell? ⟨w1.heap.size + 1, 0, none⟩ = some (.slice rb m rd) ∧ W.drew.cell? ⟨w2.heap.size, 0, none⟩ = some (.int .i64 (both xs ys)) ∧ W.drew.cell? ⟨w3.heap.size, 0, none⟩ = some (.int .i64 (both xs ys)) ∧ Below W.heap.size W W.drew) := ⟨a3, b3, j30, m30, (Below.refl _ _).drew⟩
    have HA := hide SA3
    have HB := hide SB3
    clear SA3 SB3 SJ3 SM3 hc hcW
    have hund : undef = Value.tuple #[] := rfl
    go_region_held2 (fun w' => w'.cell? ⟨w1.heap.size, 0, none⟩ = some (.slice ra n rc) ∧ w'.cell? ⟨w1.heap.size + 1, 0, none⟩ = some (.slice rb m rd) ∧ w'.cell? ⟨w2.heap.size, 0, none⟩ = some (.int .i64 (both xs ys)) ∧ w'.cell? ⟨w3.heap.size, 0, none⟩ = some (.int .i64 (both xs ys)) ∧ Below W.heap.size W w')
      (first | with_reducible exact HS0.out | with_reducible assumption)
      (first
        | (go_at_call 18; refine (specJoinLabels_calls ra rb n rc m rd xs ys _ hn hm ?_ ?_).mono ?_; exact HA.out.below (And.right (And.right (And.right (And.right (by with_reducible assumption))))) (Nat.le_refl _); exact HB.out.below (And.right (And.right (And.right (And.right (by with_reducible assumption))))) (Nat.le_refl _); rintro e v1 ⟨rx, xn, xc, rfl, _, g1⟩; have hs1 := held4 (W := W) lA lB lJ lM (by with_reducible assumption) g1; clear g1))
    have HE := hide (hbM.trans (hs1.2.2.2.2.mono hbM.size))
    go_wp2
    go_ret
    exact ⟨rfl, HE.out⟩

end Go.Proofs.Ytjahlhibgnbkgaa
