import Derived.Test.YtpcdfeccmiiglaaAkP
import Derived.Test.YtpcdfeccmiiglaaBase
import Derived.Test.YtpcdfeccmiiglaaCsK
import Derived.Test.YtpcdfeccmiiglaaW8
import Derived.WalkKit
import Derived.ProofKit
import Derived.OpenShut
import Derived.ShutString
import Derived.ChangeOld
import Derived.Below
import Derived.WalkSpells
import Derived.Deep.QuietTactic
import Derived.BigQuiet
import Derived.Deep.RegionWith
import Derived.Deep.WholeRow
import Derived.Deep.DeepCutAuto
import Derived.Deep.RegionHeld2
import Derived.Deep.AppendLies
import Derived.Deep.RegionLaw
namespace Go.Proofs.Ytpcdfeccmiiglaa
open Go.ChangeShapes Go.WideShapes Go.ChangeAt Go.RowKit

set_option maxRecDepth 100000 in
theorem szAsk_calls (A : AkA) (D : AkD) (left : Int) (w : World) (h0 : 0 ≤ left) (h1 : left ≤ 1048576) (hr : RK w A D) :
    Calls Try.prog 20 #[.agg #[.int .i64 D.kd, .slice A.pa A.pn A.pc, .int .i64 D.wh, .slice A.la A.ln A.lc, .int .i64 D.qu, .int .i64 D.po, .int .i64 D.nn, .slice A.da A.dn A.dc], .int .i64 left] w fun e w' => e = .returned (.int .i64 (szI (szK A) left)) ∧ Below w.heap.size w w' := by
  have M0 := (Mm.start w).allocC [.int .i64 D.kd, .slice A.pa A.pn A.pc, .int .i64 D.wh, .slice A.la A.ln A.lc, .int .i64 D.qu, .int .i64 D.po, .int .i64 D.nn, .slice A.da A.dn A.dc] 44
  have hpm := hr.pm
  have hlm := hr.lm
  have hdm := hr.dm
  clear hr
  unfold szK
  by_cases h : left - A.pn < 0
  · have HR := hide (szI_neg (len := A.pn + A.ln + A.dn) (left := left) (by omega))
    go_enter Try.func20, Try.ntmps20
    go_wp2_with fail
    refine (sz_calls A.pa _ A.pc left _ h0 h1 hpm).mono ?_
    rintro e w1 ⟨rfl, g1⟩
    rw [szI_neg h]
    have HB := hide (M0.below g1).bel
    clear g1 M0
    go_wp2
    go_ret
    exact ⟨ret_int HR.out.symm, HB.out⟩
  have hp : 0 ≤ left - A.pn := by omega
  have hge : ¬ (left - (A.pn : Int) < 0) := by omega
  by_cases h2 : left - A.pn - A.ln < 0
  · have HR := hide (szI_neg (len := A.pn + A.ln + A.dn) (left := left) (by omega))
    go_enter Try.func20, Try.ntmps20
    go_wp2_with fail
    refine (sz_calls A.pa _ A.pc left _ h0 h1 hpm).mono ?_
    rintro e w1 ⟨rfl, g1⟩
    rw [szI_pos hp]
    have M1 := M0.below g1
    have c3 := (M1.get 0 rfl).cell 3 rfl
    clear g1 M0
    go_wp2_with fail
    refine (szLabel_calls A.la _ A.lc _ _ hp (by omega) hlm).mono ?_
    rintro e w2 ⟨rfl, g2⟩
    rw [szI_neg h2]
    have HB := hide (M1.below g2).bel
    clear g2 M1 c3
    go_wp2
    go_ret
    exact ⟨ret_int HR.out.symm, HB.out⟩
  have hp2 : 0 ≤ left - A.pn - A.ln := by omega
  have hge2 : ¬ (left - (A.pn : Int) - (A.ln : Int) < 0) := by omega
  by_cases h3 : left - A.pn - A.ln - A.dn < 0
  all_goals (
    go_enter Try.func20, Try.ntmps20
    go_wp2_with fail
    refine (sz_calls A.pa _ A.pc left _ h0 h1 hpm).mono ?_
    rintro e w1 ⟨rfl, g1⟩
    rw [szI_pos hp]
    have M1 := M0.below g1
    have c3 := (M1.get 0 rfl).cell 3 rfl
    clear g1 M0
    go_wp2_with fail
    refine (szLabel_calls A.la _ A.lc _ _ hp (by omega) hlm).mono ?_
    rintro e w2 ⟨rfl, g2⟩
    rw [szI_pos hp2]
    have M2 := M1.below g2
    have c7 := (M2.get 0 rfl).cell 7 rfl
    clear g2 M1 c3
    go_wp2_with fail
    refine (sz_calls A.da _ A.dc _ _ hp2 (by omega) hdm).mono ?_
    rintro e w3 ⟨rfl, g3⟩
    have HB := hide (M2.below g3).bel
    clear g3 M2 c7)
  · rw [szI_neg h3]
    have HR := hide (szI_neg (len := A.pn + A.ln + A.dn) (left := left) (by omega))
    go_wp2
    go_ret
    exact ⟨ret_int HR.out.symm, HB.out⟩
  · have hp3 : 0 ≤ left - A.pn - A.ln - A.dn := by omega
    rw [szI_pos hp3]
    have hge3 : ¬ (left - (A.pn : Int) - (A.ln : Int) - (A.dn : Int) < 0) := by omega
    have HR : Hid (szI (A.pn + A.ln + A.dn) left = left - A.pn - A.ln - A.dn) := by show _ = _; rw [szI_pos (by omega)]; omega
    go_wp2
    go_ret
    exact ⟨ret_int HR.out.symm, HB.out⟩

set_option maxRecDepth 100000 in
set_option maxHeartbeats 2000000 in
theorem toAsk_O (A : AkA) (D : AkD) (w : World) (hm : szK A ≤ 1048576) (hr : RK w A D) :
    Calls Try.prog 22 #[.agg #[.int .i64 D.kd, .slice A.pa A.pn A.pc, .int .i64 D.wh, .slice A.la A.ln A.lc, .int .i64 D.qu, .int .i64 D.po, .int .i64 D.nn, .slice A.da A.dn A.dc]] w fun e w' => ∃ B : AkA, e = .returned (.agg #[.int .i64 D.kd, .slice B.pa B.pn B.pc, .int .i64 D.wh, .slice B.la B.ln B.lc, .int .i64 D.qu, .int .i64 D.po, .int .i64 D.nn, .slice B.da B.dn B.dc]) ∧ OAk (InR w.heap.size w'.heap.size) B D w' ∧ Below w.heap.size w w' := by
  unfold szK at hm
  have M0 := (((Mm.start w).allocC [.int .i64 D.kd, .slice A.pa A.pn A.pc, .int .i64 D.wh, .slice A.la A.ln A.lc, .int .i64 D.qu, .int .i64 D.po, .int .i64 D.nn, .slice A.da A.dn A.dc] 44).allocC [.int .i64 0, .slice none 0 0, .int .i64 0, .slice none 0 0, .int .i64 0, .int .i64 0, .int .i64 0, .slice none 0 0] 49).allocC [.int .i64 D.kd, .slice none 0 0, .int .i64 0, .slice none 0 0, .int .i64 0, .int .i64 0, .int .i64 0, .slice none 0 0] 49
  simp only [World.size_alloc] at M0
  obtain ⟨_, hps, _, hls, _, hds⟩ := hr
  go_enter Try.func22, Try.ntmps22
  go_wp2_with fail
  refine (toInts_calls A.pa _ A.pc D.ps _ (by omega) (hps.below M0.bel (Nat.le_refl _))).mono ?_
  rintro e w1 ⟨b1, rfl, hb1, blk1, g1⟩
  have z1 := g1.size
  simp only [World.size_alloc] at hb1 z1
  have lb1 := blk1.1
  have M1 := (M0.below g1).fact (B := b1) (T := b1 + 1) (P := fun u => Blk u b1 D.ps) (Blk.loc ⟨Nat.le_refl _, by omega⟩) blk1
  have P1 := M1.put 1 rfl 1 (by simp) (.slice (some ⟨b1, 0, none⟩) A.pn A.pn) (by omega) (by simp) (by simp <;> omega)
  have P2 := P1.put 1 rfl 2 (by simp) (.int .i64 D.wh) (by omega) (by simp) (by simp <;> omega)
  simp only [List.set] at P2
  have a1 := (M1.get 3 rfl).cell 1 rfl
  have o1 := (M1.get 1 rfl).cell 1 rfl
  have f1 := (M1.get 1 rfl).fz 1 (by simp)
  have a2 := (M1.get 3 rfl).cell 2 rfl
  have o2 := (M1.get 1 rfl).cell 2 rfl
  have f2 := (M1.get 1 rfl).fz 2 (by simp)
  have a3 := (M1.get 3 rfl).cell 3 rfl
  have HM := hide P2
  have HS := hide (hls.below P2.bel (Nat.le_refl _))
  clear M1 P1 P2 M0 g1 blk1
  go_wp2_with fail
  refine (toLabel_calls A.la _ A.lc D.ls _ (by omega) HS.out).mono ?_
  rintro e w2 ⟨b2, rfl, hb2, blk2, g2⟩
  have z2 := g2.size
  simp only [World.size_setCell] at hb2 z2
  have lb2 := blk2.1
  have M2 := (HM.out.below g2).fact (B := b2) (T := b2 + 1) (P := fun u => Blk u b2 D.ls) (Blk.loc ⟨Nat.le_refl _, by omega⟩) blk2
  clear g2 blk2 HM HS a1 a2 a3 o1 o2 f1 f2
  have Q3 := M2.put 2 rfl 3 (by simp) (.slice (some ⟨b2, 0, none⟩) A.ln A.ln) (by omega) (by simp) (by simp <;> omega)
  have Q4 := Q3.put 2 rfl 4 (by simp) (.int .i64 D.qu) (by omega) (by simp) (by simp <;> omega)
  have Q5 := Q4.put 2 rfl 5 (by simp) (.int .i64 D.po) (by omega) (by simp) (by simp <;> omega)
  have Q6 := Q5.put 2 rfl 6 (by simp) (.int .i64 D.nn) (by omega) (by simp) (by simp <;> omega)
  simp only [List.set] at Q6
  have a3 := (M2.get 4 rfl).cell 3 rfl
  have o3 := (M2.get 2 rfl).cell 3 rfl
  have f3 := (M2.get 2 rfl).fz 3 (by simp)
  have a4 := (M2.get 4 rfl).cell 4 rfl
  have o4 := (M2.get 2 rfl).cell 4 rfl
  have f4 := (M2.get 2 rfl).fz 4 (by simp)
  have a5 := (M2.get 4 rfl).cell 5 rfl
  have o5 := (M2.get 2 rfl).cell 5 rfl
  have f5 := (M2.get 2 rfl).fz 5 (by simp)
  have a6 := (M2.get 4 rfl).cell 6 rfl
  have o6 := (M2.get 2 rfl).cell 6 rfl
  have f6 := (M2.get 2 rfl).fz 6 (by simp)
  have a7 := (M2.get 4 rfl).cell 7 rfl
  have HM := hide Q6
  have HS := hide (hds.below Q6.bel (Nat.le_refl _))
  clear M2 Q3 Q4 Q5 Q6
  go_wp2_with fail
  refine (toInts_calls A.da _ A.dc D.ds _ (by omega) HS.out).mono ?_
  rintro e w3 ⟨b3, rfl, hb3, blk3, g3⟩
  have z3 := g3.size
  simp only [World.size_setCell] at hb3 z3
  have M3 := (HM.out.below g3).fact (B := b3) (T := b3 + 1) (P := fun u => Blk u b3 D.ds) (Blk.loc ⟨Nat.le_refl _, by omega⟩) blk3
  clear g3 blk3 HM HS a3 a4 a5 a6 a7 o3 o4 o5 o6 f3 f4 f5 f6
  have o0 := (M3.get 3 rfl).cell 0 rfl
  have c0_ := (M3.get 4 rfl).cell 0 rfl
  have f0_ := (M3.get 4 rfl).fz 0 (by simp)
  have o1 := (M3.get 3 rfl).cell 1 rfl
  have c1_ := (M3.get 4 rfl).cell 1 rfl
  have f1_ := (M3.get 4 rfl).fz 1 (by simp)
  have o2 := (M3.get 3 rfl).cell 2 rfl
  have c2_ := (M3.get 4 rfl).cell 2 rfl
  have f2_ := (M3.get 4 rfl).fz 2 (by simp)
  have o3 := (M3.get 3 rfl).cell 3 rfl
  have c3_ := (M3.get 4 rfl).cell 3 rfl
  have f3_ := (M3.get 4 rfl).fz 3 (by simp)
  have o4 := (M3.get 3 rfl).cell 4 rfl
  have c4_ := (M3.get 4 rfl).cell 4 rfl
  have f4_ := (M3.get 4 rfl).fz 4 (by simp)
  have o5 := (M3.get 3 rfl).cell 5 rfl
  have c5_ := (M3.get 4 rfl).cell 5 rfl
  have f5_ := (M3.get 4 rfl).fz 5 (by simp)
  have o6 := (M3.get 3 rfl).cell 6 rfl
  have c6_ := (M3.get 4 rfl).cell 6 rfl
  have f6_ := (M3.get 4 rfl).fz 6 (by simp)
  have o7 := (M3.get 3 rfl).cell 7 rfl
  have c7_ := (M3.get 4 rfl).cell 7 rfl
  have f7_ := (M3.get 4 rfl).fz 7 (by simp)
  have f7 := (M3.get 3 rfl).fz 7 (by simp)
  have P8 := M3.put 3 rfl 7 (by simp) (.slice (some ⟨b3, 0, none⟩) A.dn A.dn) (by omega) (by simp) (by simp <;> omega)
  have HB := hide (below_set8 P8.bel (P := w.heap.size + 1) (by omega) (.int .i64 D.kd) (.slice (some ⟨b1, 0, none⟩) A.pn A.pn) (.int .i64 D.wh) (.slice (some ⟨b2, 0, none⟩) A.ln A.ln) (.int .i64 D.qu) (.int .i64 D.po) (.int .i64 D.nn) (.slice (some ⟨b3, 0, none⟩) A.dn A.dn))
  have HK1 := hide (loc_set8 (Blk.loc (S := InR b1 (b1 + 1)) ⟨Nat.le_refl _, by omega⟩) (P8.get 2 rfl) (P := w.heap.size + 1) (fun h => by have := h.1; omega) (.int .i64 D.kd) (.slice (some ⟨b1, 0, none⟩) A.pn A.pn) (.int .i64 D.wh) (.slice (some ⟨b2, 0, none⟩) A.ln A.ln) (.int .i64 D.qu) (.int .i64 D.po) (.int .i64 D.nn) (.slice (some ⟨b3, 0, none⟩) A.dn A.dn))
  have HK2 := hide (loc_set8 (Blk.loc (S := InR b2 (b2 + 1)) ⟨Nat.le_refl _, by omega⟩) (P8.get 1 rfl) (P := w.heap.size + 1) (fun h => by have := h.1; omega) (.int .i64 D.kd) (.slice (some ⟨b1, 0, none⟩) A.pn A.pn) (.int .i64 D.wh) (.slice (some ⟨b2, 0, none⟩) A.ln A.ln) (.int .i64 D.qu) (.int .i64 D.po) (.int .i64 D.nn) (.slice (some ⟨b3, 0, none⟩) A.dn A.dn))
  have HK3 := hide (loc_set8 (Blk.loc (S := InR b3 (b3 + 1)) ⟨Nat.le_refl _, by omega⟩) (P8.get 0 rfl) (P := w.heap.size + 1) (fun h => by have := h.1; omega) (.int .i64 D.kd) (.slice (some ⟨b1, 0, none⟩) A.pn A.pn) (.int .i64 D.wh) (.slice (some ⟨b2, 0, none⟩) A.ln A.ln) (.int .i64 D.qu) (.int .i64 D.po) (.int .i64 D.nn) (.slice (some ⟨b3, 0, none⟩) A.dn A.dn))
  have d0_ := (P8.get 4 rfl).cell 0 rfl
  have d1_ := (P8.get 4 rfl).cell 1 rfl
  have d2_ := (P8.get 4 rfl).cell 2 rfl
  have d3_ := (P8.get 4 rfl).cell 3 rfl
  have d4_ := (P8.get 4 rfl).cell 4 rfl
  have d5_ := (P8.get 4 rfl).cell 5 rfl
  have d6_ := (P8.get 4 rfl).cell 6 rfl
  have d7_ := (P8.get 4 rfl).cell 7 rfl
  have hl1 : D.ps.length = A.pn := hps.1
  have hl2 : D.ls.length = A.ln := hls.1
  have hl3 : D.ds.length = A.dn := hds.1
  have lb3 := (P8.get 0 rfl).1
  clear M3 P8 hps hls hds
  go_wp2
  have r0 := set8_at0 _ _ (.int .i64 D.kd) (.slice (some ⟨b1, 0, none⟩) A.pn A.pn) (.int .i64 D.wh) (.slice (some ⟨b2, 0, none⟩) A.ln A.ln) (.int .i64 D.qu) (.int .i64 D.po) (.int .i64 D.nn) (.slice (some ⟨b3, 0, none⟩) A.dn A.dn) ⟨_, d0_⟩
  have r1 := set8_at1 _ _ (.int .i64 D.kd) (.slice (some ⟨b1, 0, none⟩) A.pn A.pn) (.int .i64 D.wh) (.slice (some ⟨b2, 0, none⟩) A.ln A.ln) (.int .i64 D.qu) (.int .i64 D.po) (.int .i64 D.nn) (.slice (some ⟨b3, 0, none⟩) A.dn A.dn) ⟨_, d1_⟩
  have r2 := set8_at2 _ _ (.int .i64 D.kd) (.slice (some ⟨b1, 0, none⟩) A.pn A.pn) (.int .i64 D.wh) (.slice (some ⟨b2, 0, none⟩) A.ln A.ln) (.int .i64 D.qu) (.int .i64 D.po) (.int .i64 D.nn) (.slice (some ⟨b3, 0, none⟩) A.dn A.dn) ⟨_, d2_⟩
  have r3 := set8_at3 _ _ (.int .i64 D.kd) (.slice (some ⟨b1, 0, none⟩) A.pn A.pn) (.int .i64 D.wh) (.slice (some ⟨b2, 0, none⟩) A.ln A.ln) (.int .i64 D.qu) (.int .i64 D.po) (.int .i64 D.nn) (.slice (some ⟨b3, 0, none⟩) A.dn A.dn) ⟨_, d3_⟩
  have r4 := set8_at4 _ _ (.int .i64 D.kd) (.slice (some ⟨b1, 0, none⟩) A.pn A.pn) (.int .i64 D.wh) (.slice (some ⟨b2, 0, none⟩) A.ln A.ln) (.int .i64 D.qu) (.int .i64 D.po) (.int .i64 D.nn) (.slice (some ⟨b3, 0, none⟩) A.dn A.dn) ⟨_, d4_⟩
  have r5 := set8_at5 _ _ (.int .i64 D.kd) (.slice (some ⟨b1, 0, none⟩) A.pn A.pn) (.int .i64 D.wh) (.slice (some ⟨b2, 0, none⟩) A.ln A.ln) (.int .i64 D.qu) (.int .i64 D.po) (.int .i64 D.nn) (.slice (some ⟨b3, 0, none⟩) A.dn A.dn) ⟨_, d5_⟩
  have r6 := set8_at6 _ _ (.int .i64 D.kd) (.slice (some ⟨b1, 0, none⟩) A.pn A.pn) (.int .i64 D.wh) (.slice (some ⟨b2, 0, none⟩) A.ln A.ln) (.int .i64 D.qu) (.int .i64 D.po) (.int .i64 D.nn) (.slice (some ⟨b3, 0, none⟩) A.dn A.dn) ⟨_, d6_⟩
  have r7 := set8_at7 _ _ (.int .i64 D.kd) (.slice (some ⟨b1, 0, none⟩) A.pn A.pn) (.int .i64 D.wh) (.slice (some ⟨b2, 0, none⟩) A.ln A.ln) (.int .i64 D.qu) (.int .i64 D.po) (.int .i64 D.nn) (.slice (some ⟨b3, 0, none⟩) A.dn A.dn) ⟨_, d7_⟩
  refine bodyPost_ret (v := .agg #[.int .i64 D.kd, .slice (some ⟨b1, 0, none⟩) A.pn A.pn, .int .i64 D.wh, .slice (some ⟨b2, 0, none⟩) A.ln A.ln, .int .i64 D.qu, .int .i64 D.po, .int .i64 D.nn, .slice (some ⟨b3, 0, none⟩) A.dn A.dn]) (by simp [results, Try.results22, go_sem, r0, r1, r2, r3, r4, r5, r6, r7]) rfl ⟨⟨some ⟨b1, 0, none⟩, A.pn, A.pn, some ⟨b2, 0, none⟩, A.ln, A.ln, some ⟨b3, 0, none⟩, A.dn, A.dn⟩, rfl, ⟨hm, OS.ofBlk HK1.out ⟨by omega, by simp; omega⟩ hl1 (show A.pn ≤ 1048576 by omega), OS.ofBlk HK2.out ⟨by omega, by simp; omega⟩ hl2 (show A.ln ≤ 1048576 by omega), OS.ofBlk HK3.out ⟨by omega, by simp at lb3 ⊢; omega⟩ hl3 (show A.dn ≤ 1048576 by omega)⟩, HB.out⟩

set_option maxRecDepth 100000 in
set_option maxHeartbeats 1000000 in
theorem eqAsk_O (S S' : Nat → Prop) (A B : AkA) (D : AkD) (w : World) (hx : OAk S A D w) (hy : OAk S' B D w) :
    Calls Try.prog 24 #[.agg #[.int .i64 D.kd, .slice A.pa A.pn A.pc, .int .i64 D.wh, .slice A.la A.ln A.lc, .int .i64 D.qu, .int .i64 D.po, .int .i64 D.nn, .slice A.da A.dn A.dc], .agg #[.int .i64 D.kd, .slice B.pa B.pn B.pc, .int .i64 D.wh, .slice B.la B.ln B.lc, .int .i64 D.qu, .int .i64 D.po, .int .i64 D.nn, .slice B.da B.dn B.dc]] w fun e w' => e = .returned (.bool true) ∧ Below w.heap.size w w' := by
  have M0 := ((Mm.start w).allocC [.int .i64 D.kd, .slice A.pa A.pn A.pc, .int .i64 D.wh, .slice A.la A.ln A.lc, .int .i64 D.qu, .int .i64 D.po, .int .i64 D.nn, .slice A.da A.dn A.dc] 49).allocC [.int .i64 D.kd, .slice B.pa B.pn B.pc, .int .i64 D.wh, .slice B.la B.ln B.lc, .int .i64 D.qu, .int .i64 D.po, .int .i64 D.nn, .slice B.da B.dn B.dc] 49
  simp only [World.size_alloc] at M0
  obtain ⟨xm, xs, xl, xlm, xd, xdm⟩ := hx.rk
  obtain ⟨ym, ys, yl, ylm, yd, ydm⟩ := hy.rk
  clear hx hy
  have n0 : (D.kd != D.kd) = false := by simp
  have n2 : (D.wh != D.wh) = false := by simp
  have n4 : (D.qu != D.qu) = false := by simp
  have n5 : (D.po != D.po) = false := by simp
  have n6 : (D.nn != D.nn) = false := by simp
  go_enter Try.func24, Try.ntmps24
  go_wp2_with fail
  refine (eqInts_calls A.pa B.pa _ A.pc _ B.pc D.ps D.ps _ xm ym (xs.below M0.bel (Nat.le_refl _)) (ys.below M0.bel (Nat.le_refl _))).mono ?_
  rintro e w1 ⟨rfl, g1⟩
  rw [decide_eq_true rfl]
  have M1 := M0.below g1
  have a2 := (M1.get 1 rfl).cell 2 rfl
  have b2 := (M1.get 0 rfl).cell 2 rfl
  have a3 := (M1.get 1 rfl).cell 3 rfl
  have b3 := (M1.get 0 rfl).cell 3 rfl
  clear M0 g1
  go_wp2_with fail
  refine (eqLabel_calls A.la B.la _ A.lc _ B.lc D.ls D.ls _ xl yl (xlm.below M1.bel (Nat.le_refl _)) (ylm.below M1.bel (Nat.le_refl _))).mono ?_
  rintro e w2 ⟨rfl, g2⟩
  rw [decide_eq_true rfl]
  have M2 := M1.below g2
  clear a2 a3 b2 b3
  have a4 := (M2.get 1 rfl).cell 4 rfl
  have b4 := (M2.get 0 rfl).cell 4 rfl
  have a5 := (M2.get 1 rfl).cell 5 rfl
  have b5 := (M2.get 0 rfl).cell 5 rfl
  have a6 := (M2.get 1 rfl).cell 6 rfl
  have b6 := (M2.get 0 rfl).cell 6 rfl
  have a7 := (M2.get 1 rfl).cell 7 rfl
  have b7 := (M2.get 0 rfl).cell 7 rfl
  clear M1 g2
  go_wp2_with fail
  refine (eqInts_calls A.da B.da _ A.dc _ B.dc D.ds D.ds _ xd yd (xdm.below M2.bel (Nat.le_refl _)) (ydm.below M2.bel (Nat.le_refl _))).mono ?_
  rintro e w3 ⟨rfl, g3⟩
  rw [decide_eq_true rfl]
  have HB := hide (M2.below g3).bel
  clear M2 g3 a4 a5 a6 a7 b4 b5 b6 b7
  go_wp2
  go_ret
  exact ⟨rfl, HB.out⟩

end Go.Proofs.Ytpcdfeccmiiglaa
