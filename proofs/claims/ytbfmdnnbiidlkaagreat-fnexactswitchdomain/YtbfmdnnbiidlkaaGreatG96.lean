import Derived.Test.YtbfmdnnbiidlkaaGreatG95
import Derived.Test.YtbfmdnnbiidlkaaGreatG25
import Derived.Test.YtbfmdnnbiidlkaaGreatG16
import Derived.Test.YtbfmdnnbiidlkaaGreatG27
import Derived.WalkKit
import Derived.ProofKit
import Derived.OpenShut
import Derived.ShutString
import Derived.ChangeOld
import Derived.Below
import Derived.WalkSpells
import Derived.Deep.QuietTactic
import Derived.BigQuiet
import Derived.Deep.RegionWith
import Derived.Deep.WholeRow
import Derived.Deep.DeepCutAuto
import Derived.Deep.RegionHeld2
import Derived.Deep.AppendLies
import Derived.Deep.RegionLaw
namespace Go.Proofs.YtbfmdnnbiidlkaaGreat
open Go.ChangeShapes Go.WideShapes Go.ChangeAt Go.RowKit

set_option maxRecDepth 100000 in
theorem switchTo_yes (P : Nat) (xa : Option Addr) (xn xc : Nat) (k x : Int) (w : World) (hn : xn ≤ maxLen) (c4 : w.cell? ⟨P, 4, none⟩ = some (.slice xa xn xc)) (c5 : w.cell? ⟨P, 5, none⟩ = some (.int .i64 k)) (f5 : w.frozen? ⟨P, 5, none⟩ = false) (hu : up x ((xn : Int) - 1) = true) :
    Calls Tryz.prog 83 #[.pointer (some ⟨P, 0, none⟩), .int .i64 x] w fun e w' => e = .returned (.int .i64 0) ∧ w' = w.setCell ⟨P, 5, none⟩ (.int .i64 x) := by
  unfold maxLen at hn
  have hw : IntKind.i64.wrap ((xn : Int) - 1) = (xn : Int) - 1 := by rw [IntKind.wrap_i64] <;> omega
  go_enter Tryz.func83, Tryz.ntmps83
  go_wp2_with (go_at_call 52; with_reducible refine (isUpTo_is _ _ _ _ hu).mono ?_; rintro e w' ⟨rfl, hw'⟩; rw [hw']; clear hw' w')
  go_ret
  exact ⟨rfl, rfl⟩

set_option maxRecDepth 100000 in
theorem switchTo_no (P : Nat) (xa : Option Addr) (xn xc : Nat) (x : Int) (w : World) (hn : xn ≤ maxLen) (c4 : w.cell? ⟨P, 4, none⟩ = some (.slice xa xn xc)) (hu : up x ((xn : Int) - 1) = false) :
    Calls Tryz.prog 83 #[.pointer (some ⟨P, 0, none⟩), .int .i64 x] w fun e w' => e = .returned (.int .i64 4) ∧ w' = w := by
  unfold maxLen at hn
  have hw : IntKind.i64.wrap ((xn : Int) - 1) = (xn : Int) - 1 := by rw [IntKind.wrap_i64] <;> omega
  go_enter Tryz.func83, Tryz.ntmps83
  go_wp2_with (go_at_call 52; with_reducible refine (isUpTo_is _ _ _ _ hu).mono ?_; rintro e w' ⟨rfl, hw'⟩; rw [hw']; clear hw' w')
  go_ret
  exact ⟨rfl, rfl⟩

set_option maxRecDepth 100000 in
set_option maxHeartbeats 4000000 in
theorem implSwitchDomain_calls (A : SA) (D : SD) (x : Int) (w : World) (hr : RS w A D) (hk : A.ln ≤ A.lc) (hz : szY A D ≤ 1048576) :
    Calls Tryz.prog 34 #[.agg #[.slice A.a A.n A.c, .slice A.ta A.tn A.tc, .slice A.da A.dn A.dc, .slice A.wa A.wn A.wc, .slice A.xa A.xn A.xc, .int .i64 D.ac, .int .i64 D.cz, .slice A.la A.ln A.lc, .int .i64 D.dv, .slice A.oa A.on A.oc, .slice A.ga A.gn A.gc], .int .i64 x] w fun e w' => ∃ B : SA, e = .returned (.agg #[.int .i64 (wcC D x), .int .i64 (wcV D x), .slice B.a B.n B.c, .slice B.ta B.tn B.tc, .slice B.da B.dn B.dc, .slice B.wa B.wn B.wc, .slice B.xa B.xn B.xc, .int .i64 (wcD D x).ac, .int .i64 (wcD D x).cz, .slice B.la B.ln B.lc, .int .i64 (wcD D x).dv, .slice B.oa B.on B.oc, .slice B.ga B.gn B.gc]) ∧ OY (InR w.heap.size w'.heap.size) B (wcD D x) w' ∧ Below w.heap.size w w' := by
  have M0 := ((Mm.start w).allocC [.slice A.a A.n A.c, .slice A.ta A.tn A.tc, .slice A.da A.dn A.dc, .slice A.wa A.wn A.wc, .slice A.xa A.xn A.xc, .int .i64 D.ac, .int .i64 D.cz, .slice A.la A.ln A.lc, .int .i64 D.dv, .slice A.oa A.on A.oc, .slice A.ga A.gn A.gc] 47).allocC [.int .i64 0, .int .i64 0, .slice none 0 0, .slice none 0 0, .slice none 0 0, .slice none 0 0, .slice none 0 0, .int .i64 0, .int .i64 0, .slice none 0 0, .int .i64 0, .slice none 0 0, .slice none 0 0] 83
  simp only [World.size_alloc] at M0
  go_enter Tryz.func34, Tryz.ntmps34
  go_wp2_with fail
  refine (implSystemFault_calls A D _ (hr.below M0.bel (Nat.le_refl _)) hk).mono ?_
  rintro e w1 ⟨rfl, g1⟩
  have M1 := M0.below g1
  have z1 : w.heap.size + 2 ≤ w1.heap.size := by have := g1.size; simpa using this
  clear g1 M0
  by_cases hf : sysF D = 0
  rotate_left
  · have HC := hide (wc_f (x := x) hf)
    have HX := hide (wc_bad (D := D) (x := x) (by rw [HC.out]; exact hf))
    have hne : (sysF D != 0) = true := by simpa using hf
    clear hf
    have c0_ := (M1.get 0 rfl).cell 0 rfl
    have f0_ := (M1.get 0 rfl).fz 0 (by simp)
    have c1_ := (M1.get 0 rfl).cell 1 rfl
    have f1_ := (M1.get 0 rfl).fz 1 (by simp)
    have c2_ := (M1.get 0 rfl).cell 2 rfl
    have f2_ := (M1.get 0 rfl).fz 2 (by simp)
    have c3_ := (M1.get 0 rfl).cell 3 rfl
    have f3_ := (M1.get 0 rfl).fz 3 (by simp)
    have c4_ := (M1.get 0 rfl).cell 4 rfl
    have f4_ := (M1.get 0 rfl).fz 4 (by simp)
    have c5_ := (M1.get 0 rfl).cell 5 rfl
    have f5_ := (M1.get 0 rfl).fz 5 (by simp)
    have c6_ := (M1.get 0 rfl).cell 6 rfl
    have f6_ := (M1.get 0 rfl).fz 6 (by simp)
    have c7_ := (M1.get 0 rfl).cell 7 rfl
    have f7_ := (M1.get 0 rfl).fz 7 (by simp)
    have c8_ := (M1.get 0 rfl).cell 8 rfl
    have f8_ := (M1.get 0 rfl).fz 8 (by simp)
    have c9_ := (M1.get 0 rfl).cell 9 rfl
    have f9_ := (M1.get 0 rfl).fz 9 (by simp)
    have c10_ := (M1.get 0 rfl).cell 10 rfl
    have f10_ := (M1.get 0 rfl).fz 10 (by simp)
    have c11_ := (M1.get 0 rfl).cell 11 rfl
    have f11_ := (M1.get 0 rfl).fz 11 (by simp)
    have c12_ := (M1.get 0 rfl).cell 12 rfl
    have f12_ := (M1.get 0 rfl).fz 12 (by simp)
    have HB := hide (below_set13 M1.bel (P := w.heap.size + 1) (by omega) (.int .i64 (sysF D)) (.int .i64 0) (.slice none 0 0) (.slice none 0 0) (.slice none 0 0) (.slice none 0 0) (.slice none 0 0) (.int .i64 0) (.int .i64 0) (.slice none 0 0) (.int .i64 0) (.slice none 0 0) (.slice none 0 0))
    clear M1
    go_wp2
    have r0 := set13_at0 _ _ (.int .i64 (sysF D)) (.int .i64 0) (.slice none 0 0) (.slice none 0 0) (.slice none 0 0) (.slice none 0 0) (.slice none 0 0) (.int .i64 0) (.int .i64 0) (.slice none 0 0) (.int .i64 0) (.slice none 0 0) (.slice none 0 0) ⟨_, c0_⟩
    have r1 := set13_at1 _ _ (.int .i64 (sysF D)) (.int .i64 0) (.slice none 0 0) (.slice none 0 0) (.slice none 0 0) (.slice none 0 0) (.slice none 0 0) (.int .i64 0) (.int .i64 0) (.slice none 0 0) (.int .i64 0) (.slice none 0 0) (.slice none 0 0) ⟨_, c1_⟩
    have r2 := set13_at2 _ _ (.int .i64 (sysF D)) (.int .i64 0) (.slice none 0 0) (.slice none 0 0) (.slice none 0 0) (.slice none 0 0) (.slice none 0 0) (.int .i64 0) (.int .i64 0) (.slice none 0 0) (.int .i64 0) (.slice none 0 0) (.slice none 0 0) ⟨_, c2_⟩
    have r3 := set13_at3 _ _ (.int .i64 (sysF D)) (.int .i64 0) (.slice none 0 0) (.slice none 0 0) (.slice none 0 0) (.slice none 0 0) (.slice none 0 0) (.int .i64 0) (.int .i64 0) (.slice none 0 0) (.int .i64 0) (.slice none 0 0) (.slice none 0 0) ⟨_, c3_⟩
    have r4 := set13_at4 _ _ (.int .i64 (sysF D)) (.int .i64 0) (.slice none 0 0) (.slice none 0 0) (.slice none 0 0) (.slice none 0 0) (.slice none 0 0) (.int .i64 0) (.int .i64 0) (.slice none 0 0) (.int .i64 0) (.slice none 0 0) (.slice none 0 0) ⟨_, c4_⟩
    have r5 := set13_at5 _ _ (.int .i64 (sysF D)) (.int .i64 0) (.slice none 0 0) (.slice none 0 0) (.slice none 0 0) (.slice none 0 0) (.slice none 0 0) (.int .i64 0) (.int .i64 0) (.slice none 0 0) (.int .i64 0) (.slice none 0 0) (.slice none 0 0) ⟨_, c5_⟩
    have r6 := set13_at6 _ _ (.int .i64 (sysF D)) (.int .i64 0) (.slice none 0 0) (.slice none 0 0) (.slice none 0 0) (.slice none 0 0) (.slice none 0 0) (.int .i64 0) (.int .i64 0) (.slice none 0 0) (.int .i64 0) (.slice none 0 0) (.slice none 0 0) ⟨_, c6_⟩
    have r7 := set13_at7 _ _ (.int .i64 (sysF D)) (.int .i64 0) (.slice none 0 0) (.slice none 0 0) (.slice none 0 0) (.slice none 0 0) (.slice none 0 0) (.int .i64 0) (.int .i64 0) (.slice none 0 0) (.int .i64 0) (.slice none 0 0) (.slice none 0 0) ⟨_, c7_⟩
    have r8 := set13_at8 _ _ (.int .i64 (sysF D)) (.int .i64 0) (.slice none 0 0) (.slice none 0 0) (.slice none 0 0) (.slice none 0 0) (.slice none 0 0) (.int .i64 0) (.int .i64 0) (.slice none 0 0) (.int .i64 0) (.slice none 0 0) (.slice none 0 0) ⟨_, c8_⟩
    have r9 := set13_at9 _ _ (.int .i64 (sysF D)) (.int .i64 0) (.slice none 0 0) (.slice none 0 0) (.slice none 0 0) (.slice none 0 0) (.slice none 0 0) (.int .i64 0) (.int .i64 0) (.slice none 0 0) (.int .i64 0) (.slice none 0 0) (.slice none 0 0) ⟨_, c9_⟩
    have r10 := set13_at10 _ _ (.int .i64 (sysF D)) (.int .i64 0) (.slice none 0 0) (.slice none 0 0) (.slice none 0 0) (.slice none 0 0) (.slice none 0 0) (.int .i64 0) (.int .i64 0) (.slice none 0 0) (.int .i64 0) (.slice none 0 0) (.slice none 0 0) ⟨_, c10_⟩
    have r11 := set13_at11 _ _ (.int .i64 (sysF D)) (.int .i64 0) (.slice none 0 0) (.slice none 0 0) (.slice none 0 0) (.slice none 0 0) (.slice none 0 0) (.int .i64 0) (.int .i64 0) (.slice none 0 0) (.int .i64 0) (.slice none 0 0) (.slice none 0 0) ⟨_, c11_⟩
    have r12 := set13_at12 _ _ (.int .i64 (sysF D)) (.int .i64 0) (.slice none 0 0) (.slice none 0 0) (.slice none 0 0) (.slice none 0 0) (.slice none 0 0) (.int .i64 0) (.int .i64 0) (.slice none 0 0) (.int .i64 0) (.slice none 0 0) (.slice none 0 0) ⟨_, c12_⟩
    refine bodyPost_ret (v := .agg #[.int .i64 (sysF D), .int .i64 0, .slice none 0 0, .slice none 0 0, .slice none 0 0, .slice none 0 0, .slice none 0 0, .int .i64 0, .int .i64 0, .slice none 0 0, .int .i64 0, .slice none 0 0, .slice none 0 0]) (by simp [results, Tryz.results34, go_sem, r0, r1, r2, r3, r4, r5, r6, r7, r8, r9, r10, r11, r12]) rfl ⟨zeroA, ?_, ?_, HB.out⟩
    · rw [HC.out, HX.out.1, HX.out.2]; rfl
    · rw [HX.out.2]; exact OY.zero _ _
  have hne : (sysF D != 0) = false := by simp [hf]
  have hdl : D.ds.length = A.dn := hr.len.2.2.1
  obtain ⟨k, H⟩ := hr.right hf
  have HXD := hide H.xd
  have H4 := hide H.d4
  have Hf := hide hf
  have HR := hide hr
  have HD := hide hdl
  clear hf hr H hdl
  have a0 := (M1.get 1 rfl).cell 0 rfl
  have a1 := (M1.get 1 rfl).cell 1 rfl
  have a2 := (M1.get 1 rfl).cell 2 rfl
  have a3 := (M1.get 1 rfl).cell 3 rfl
  have a4 := (M1.get 1 rfl).cell 4 rfl
  have a5 := (M1.get 1 rfl).cell 5 rfl
  have a6 := (M1.get 1 rfl).cell 6 rfl
  have a7 := (M1.get 1 rfl).cell 7 rfl
  have a8 := (M1.get 1 rfl).cell 8 rfl
  have a9 := (M1.get 1 rfl).cell 9 rfl
  have a10 := (M1.get 1 rfl).cell 10 rfl
  go_wp2_with fail
  refine (copiedSystem_O A D _ hz (HR.out.below M1.bel (Nat.le_refl _))).mono ?_
  rintro e w2 ⟨B, rfl, oy, g2⟩
  have z2 := g2.size
  have M2 := M1.below g2
  have hBx : B.xn = A.xn := by have h1 := oy.oy.rs.len; have h2 := HR.out.len; omega
  have hbn : B.xn ≤ maxLen := by have h1 := HXD.out; have h2 := H4.out; unfold maxLen; omega
  have HBx := hide hBx
  clear hBx
  obtain ⟨u, hu⟩ : ∃ y, y = w2.alloc (.cells #[.slice B.a B.n B.c, .slice B.ta B.tn B.tc, .slice B.da B.dn B.dc, .slice B.wa B.wn B.wc, .slice B.xa B.xn B.xc, .int .i64 D.ac, .int .i64 D.cz, .slice B.la B.ln B.lc, .int .i64 D.dv, .slice B.oa B.on B.oc, .slice B.ga B.gn B.gc, .int .i64 0, .int .i64 0] 132) := ⟨_, rfl⟩
  have al : Below w2.heap.size w2 u := by rw [hu]; exact (Below.refl _ _).alloc (Nat.le_refl _) _
  have zu : u.heap.size = w2.heap.size + 1 := by rw [hu]; simp
  have M3 := ((M2.below al).fact OY.loc (B := w1.heap.size) (T := w2.heap.size) ((OYR.loc.below al oy).oy.act x)).fact Cs.loc (show Cs w2.heap.size [.slice B.a B.n B.c, .slice B.ta B.tn B.tc, .slice B.da B.dn B.dc, .slice B.wa B.wn B.wc, .slice B.xa B.xn B.xc, .int .i64 D.ac, .int .i64 D.cz, .slice B.la B.ln B.lc, .int .i64 D.dv, .slice B.oa B.on B.oc, .slice B.ga B.gn B.gc, .int .i64 0, .int .i64 0] u by rw [hu]; exact Cs.alloc w2 [.slice B.a B.n B.c, .slice B.ta B.tn B.tc, .slice B.da B.dn B.dc, .slice B.wa B.wn B.wc, .slice B.xa B.xn B.xc, .int .i64 D.ac, .int .i64 D.cz, .slice B.la B.ln B.lc, .int .i64 D.dv, .slice B.oa B.on B.oc, .slice B.ga B.gn B.gc, .int .i64 0, .int .i64 0] _)
  have Hu := hide hu
  have b4 := (M3.get 0 rfl).cell 4 rfl
  have b5 := (M3.get 0 rfl).cell 5 rfl
  have b5f := (M3.get 0 rfl).fz 5 (by simp)
  clear M1 M2 g2 oy hu al a0 a1 a2 a3 a4 a5 a6 a7 a8 a9 a10
  cases hup : up x ((B.xn : Int) - 1) with
  | false =>
    have HC := hide (wc_n Hf.out (by rw [HD.out, ← HXD.out, ← HBx.out]; exact hup))
    have HX := hide (wc_bad (D := D) (x := x) (by rw [HC.out]; decide))
    go_upto_region 5 with fail
    rw [← Hu.out]
    go_wp2_with fail
    refine (switchTo_no w2.heap.size B.xa B.xn B.xc x _ hbn b4 hup).mono ?_
    rintro e w' ⟨rfl, hw'⟩
    rw [hw']
    clear hw' w' b4 b5 b5f hup hbn
    have c0_ := (M3.get 2 rfl).cell 0 rfl
    have f0_ := (M3.get 2 rfl).fz 0 (by simp)
    have c1_ := (M3.get 2 rfl).cell 1 rfl
    have f1_ := (M3.get 2 rfl).fz 1 (by simp)
    have c2_ := (M3.get 2 rfl).cell 2 rfl
    have f2_ := (M3.get 2 rfl).fz 2 (by simp)
    have c3_ := (M3.get 2 rfl).cell 3 rfl
    have f3_ := (M3.get 2 rfl).fz 3 (by simp)
    have c4_ := (M3.get 2 rfl).cell 4 rfl
    have f4_ := (M3.get 2 rfl).fz 4 (by simp)
    have c5_ := (M3.get 2 rfl).cell 5 rfl
    have f5_ := (M3.get 2 rfl).fz 5 (by simp)
    have c6_ := (M3.get 2 rfl).cell 6 rfl
    have f6_ := (M3.get 2 rfl).fz 6 (by simp)
    have c7_ := (M3.get 2 rfl).cell 7 rfl
    have f7_ := (M3.get 2 rfl).fz 7 (by simp)
    have c8_ := (M3.get 2 rfl).cell 8 rfl
    have f8_ := (M3.get 2 rfl).fz 8 (by simp)
    have c9_ := (M3.get 2 rfl).cell 9 rfl
    have f9_ := (M3.get 2 rfl).fz 9 (by simp)
    have c10_ := (M3.get 2 rfl).cell 10 rfl
    have f10_ := (M3.get 2 rfl).fz 10 (by simp)
    have c11_ := (M3.get 2 rfl).cell 11 rfl
    have f11_ := (M3.get 2 rfl).fz 11 (by simp)
    have c12_ := (M3.get 2 rfl).cell 12 rfl
    have f12_ := (M3.get 2 rfl).fz 12 (by simp)
    have HB := hide (below_set13 M3.bel (P := w.heap.size + 1) (by omega) (.int .i64 4) (.int .i64 0) (.slice none 0 0) (.slice none 0 0) (.slice none 0 0) (.slice none 0 0) (.slice none 0 0) (.int .i64 0) (.int .i64 0) (.slice none 0 0) (.int .i64 0) (.slice none 0 0) (.slice none 0 0))
    clear M3
    go_wp2
    have r0 := set13_at0 _ _ (.int .i64 4) (.int .i64 0) (.slice none 0 0) (.slice none 0 0) (.slice none 0 0) (.slice none 0 0) (.slice none 0 0) (.int .i64 0) (.int .i64 0) (.slice none 0 0) (.int .i64 0) (.slice none 0 0) (.slice none 0 0) ⟨_, c0_⟩
    have r1 := set13_at1 _ _ (.int .i64 4) (.int .i64 0) (.slice none 0 0) (.slice none 0 0) (.slice none 0 0) (.slice none 0 0) (.slice none 0 0) (.int .i64 0) (.int .i64 0) (.slice none 0 0) (.int .i64 0) (.slice none 0 0) (.slice none 0 0) ⟨_, c1_⟩
    have r2 := set13_at2 _ _ (.int .i64 4) (.int .i64 0) (.slice none 0 0) (.slice none 0 0) (.slice none 0 0) (.slice none 0 0) (.slice none 0 0) (.int .i64 0) (.int .i64 0) (.slice none 0 0) (.int .i64 0) (.slice none 0 0) (.slice none 0 0) ⟨_, c2_⟩
    have r3 := set13_at3 _ _ (.int .i64 4) (.int .i64 0) (.slice none 0 0) (.slice none 0 0) (.slice none 0 0) (.slice none 0 0) (.slice none 0 0) (.int .i64 0) (.int .i64 0) (.slice none 0 0) (.int .i64 0) (.slice none 0 0) (.slice none 0 0) ⟨_, c3_⟩
    have r4 := set13_at4 _ _ (.int .i64 4) (.int .i64 0) (.slice none 0 0) (.slice none 0 0) (.slice none 0 0) (.slice none 0 0) (.slice none 0 0) (.int .i64 0) (.int .i64 0) (.slice none 0 0) (.int .i64 0) (.slice none 0 0) (.slice none 0 0) ⟨_, c4_⟩
    have r5 := set13_at5 _ _ (.int .i64 4) (.int .i64 0) (.slice none 0 0) (.slice none 0 0) (.slice none 0 0) (.slice none 0 0) (.slice none 0 0) (.int .i64 0) (.int .i64 0) (.slice none 0 0) (.int .i64 0) (.slice none 0 0) (.slice none 0 0) ⟨_, c5_⟩
    have r6 := set13_at6 _ _ (.int .i64 4) (.int .i64 0) (.slice none 0 0) (.slice none 0 0) (.slice none 0 0) (.slice none 0 0) (.slice none 0 0) (.int .i64 0) (.int .i64 0) (.slice none 0 0) (.int .i64 0) (.slice none 0 0) (.slice none 0 0) ⟨_, c6_⟩
    have r7 := set13_at7 _ _ (.int .i64 4) (.int .i64 0) (.slice none 0 0) (.slice none 0 0) (.slice none 0 0) (.slice none 0 0) (.slice none 0 0) (.int .i64 0) (.int .i64 0) (.slice none 0 0) (.int .i64 0) (.slice none 0 0) (.slice none 0 0) ⟨_, c7_⟩
    have r8 := set13_at8 _ _ (.int .i64 4) (.int .i64 0) (.slice none 0 0) (.slice none 0 0) (.slice none 0 0) (.slice none 0 0) (.slice none 0 0) (.int .i64 0) (.int .i64 0) (.slice none 0 0) (.int .i64 0) (.slice none 0 0) (.slice none 0 0) ⟨_, c8_⟩
    have r9 := set13_at9 _ _ (.int .i64 4) (.int .i64 0) (.slice none 0 0) (.slice none 0 0) (.slice none 0 0) (.slice none 0 0) (.slice none 0 0) (.int .i64 0) (.int .i64 0) (.slice none 0 0) (.int .i64 0) (.slice none 0 0) (.slice none 0 0) ⟨_, c9_⟩
    have r10 := set13_at10 _ _ (.int .i64 4) (.int .i64 0) (.slice none 0 0) (.slice none 0 0) (.slice none 0 0) (.slice none 0 0) (.slice none 0 0) (.int .i64 0) (.int .i64 0) (.slice none 0 0) (.int .i64 0) (.slice none 0 0) (.slice none 0 0) ⟨_, c10_⟩
    have r11 := set13_at11 _ _ (.int .i64 4) (.int .i64 0) (.slice none 0 0) (.slice none 0 0) (.slice none 0 0) (.slice none 0 0) (.slice none 0 0) (.int .i64 0) (.int .i64 0) (.slice none 0 0) (.int .i64 0) (.slice none 0 0) (.slice none 0 0) ⟨_, c11_⟩
    have r12 := set13_at12 _ _ (.int .i64 4) (.int .i64 0) (.slice none 0 0) (.slice none 0 0) (.slice none 0 0) (.slice none 0 0) (.slice none 0 0) (.int .i64 0) (.int .i64 0) (.slice none 0 0) (.int .i64 0) (.slice none 0 0) (.slice none 0 0) ⟨_, c12_⟩
    refine bodyPost_ret (v := .agg #[.int .i64 4, .int .i64 0, .slice none 0 0, .slice none 0 0, .slice none 0 0, .slice none 0 0, .slice none 0 0, .int .i64 0, .int .i64 0, .slice none 0 0, .int .i64 0, .slice none 0 0, .slice none 0 0]) (by simp [results, Tryz.results34, go_sem, r0, r1, r2, r3, r4, r5, r6, r7, r8, r9, r10, r11, r12]) rfl ⟨zeroA, ?_, ?_, HB.out⟩
    · rw [HC.out, HX.out.1, HX.out.2]; rfl
    · rw [HX.out.2]; exact OY.zero _ _
  | true =>
    have HC := hide (wc_y Hf.out (by rw [HD.out, ← HXD.out, ← HBx.out]; exact hup))
    have HX := hide (wc_ok HC.out)
    go_upto_region 5 with fail
    rw [← Hu.out]
    go_wp2_with fail
    refine (switchTo_yes w2.heap.size B.xa B.xn B.xc D.ac x _ hbn b4 b5 b5f hup).mono ?_
    rintro e w' ⟨rfl, hw'⟩
    rw [hw']
    have M4 := M3.put 0 rfl 5 (by simp) (.int .i64 x) (by omega) (by simp) (by simp; omega)
    obtain ⟨v, hv⟩ : ∃ y, y = u.setCell ⟨w2.heap.size, 5, none⟩ (.int .i64 x) := ⟨_, rfl⟩
    rw [← hv] at M4 ⊢
    have zv : v.heap.size = u.heap.size := by rw [hv]; simp
    have a5 := (M4.get 3 rfl).cell 5 rfl
    clear hw' w' b4 b5 b5f hup hbn M3 hv Hu
    have e0 := (M4.get 0 rfl).cell 0 rfl
    have e1 := (M4.get 0 rfl).cell 1 rfl
    have e2 := (M4.get 0 rfl).cell 2 rfl
    have e3 := (M4.get 0 rfl).cell 3 rfl
    have e4 := (M4.get 0 rfl).cell 4 rfl
    have e5 := (M4.get 0 rfl).cell 5 rfl
    have e6 := (M4.get 0 rfl).cell 6 rfl
    have e7 := (M4.get 0 rfl).cell 7 rfl
    have e8 := (M4.get 0 rfl).cell 8 rfl
    have e9 := (M4.get 0 rfl).cell 9 rfl
    have e10 := (M4.get 0 rfl).cell 10 rfl
    have c0_ := (M4.get 2 rfl).cell 0 rfl
    have f0_ := (M4.get 2 rfl).fz 0 (by simp)
    have c1_ := (M4.get 2 rfl).cell 1 rfl
    have f1_ := (M4.get 2 rfl).fz 1 (by simp)
    have c2_ := (M4.get 2 rfl).cell 2 rfl
    have f2_ := (M4.get 2 rfl).fz 2 (by simp)
    have c3_ := (M4.get 2 rfl).cell 3 rfl
    have f3_ := (M4.get 2 rfl).fz 3 (by simp)
    have c4_ := (M4.get 2 rfl).cell 4 rfl
    have f4_ := (M4.get 2 rfl).fz 4 (by simp)
    have c5_ := (M4.get 2 rfl).cell 5 rfl
    have f5_ := (M4.get 2 rfl).fz 5 (by simp)
    have c6_ := (M4.get 2 rfl).cell 6 rfl
    have f6_ := (M4.get 2 rfl).fz 6 (by simp)
    have c7_ := (M4.get 2 rfl).cell 7 rfl
    have f7_ := (M4.get 2 rfl).fz 7 (by simp)
    have c8_ := (M4.get 2 rfl).cell 8 rfl
    have f8_ := (M4.get 2 rfl).fz 8 (by simp)
    have c9_ := (M4.get 2 rfl).cell 9 rfl
    have f9_ := (M4.get 2 rfl).fz 9 (by simp)
    have c10_ := (M4.get 2 rfl).cell 10 rfl
    have f10_ := (M4.get 2 rfl).fz 10 (by simp)
    have c11_ := (M4.get 2 rfl).cell 11 rfl
    have f11_ := (M4.get 2 rfl).fz 11 (by simp)
    have c12_ := (M4.get 2 rfl).cell 12 rfl
    have f12_ := (M4.get 2 rfl).fz 12 (by simp)
    have HB := hide (below_set13 M4.bel (P := w.heap.size + 1) (by omega) (.int .i64 0) (.int .i64 D.ac) (.slice B.a B.n B.c) (.slice B.ta B.tn B.tc) (.slice B.da B.dn B.dc) (.slice B.wa B.wn B.wc) (.slice B.xa B.xn B.xc) (.int .i64 x) (.int .i64 D.cz) (.slice B.la B.ln B.lc) (.int .i64 D.dv) (.slice B.oa B.on B.oc) (.slice B.ga B.gn B.gc))
    have HO := hide (loc_set13 OY.loc (M4.get 1 rfl) (P := w.heap.size + 1) (fun h => by have := h.1; omega) (.int .i64 0) (.int .i64 D.ac) (.slice B.a B.n B.c) (.slice B.ta B.tn B.tc) (.slice B.da B.dn B.dc) (.slice B.wa B.wn B.wc) (.slice B.xa B.xn B.xc) (.int .i64 x) (.int .i64 D.cz) (.slice B.la B.ln B.lc) (.int .i64 D.dv) (.slice B.oa B.on B.oc) (.slice B.ga B.gn B.gc))
    clear M4
    skip
    go_wp2
    have r0 := set13_at0 _ _ (.int .i64 0) (.int .i64 D.ac) (.slice B.a B.n B.c) (.slice B.ta B.tn B.tc) (.slice B.da B.dn B.dc) (.slice B.wa B.wn B.wc) (.slice B.xa B.xn B.xc) (.int .i64 x) (.int .i64 D.cz) (.slice B.la B.ln B.lc) (.int .i64 D.dv) (.slice B.oa B.on B.oc) (.slice B.ga B.gn B.gc) ⟨_, c0_⟩
    have r1 := set13_at1 _ _ (.int .i64 0) (.int .i64 D.ac) (.slice B.a B.n B.c) (.slice B.ta B.tn B.tc) (.slice B.da B.dn B.dc) (.slice B.wa B.wn B.wc) (.slice B.xa B.xn B.xc) (.int .i64 x) (.int .i64 D.cz) (.slice B.la B.ln B.lc) (.int .i64 D.dv) (.slice B.oa B.on B.oc) (.slice B.ga B.gn B.gc) ⟨_, c1_⟩
    have r2 := set13_at2 _ _ (.int .i64 0) (.int .i64 D.ac) (.slice B.a B.n B.c) (.slice B.ta B.tn B.tc) (.slice B.da B.dn B.dc) (.slice B.wa B.wn B.wc) (.slice B.xa B.xn B.xc) (.int .i64 x) (.int .i64 D.cz) (.slice B.la B.ln B.lc) (.int .i64 D.dv) (.slice B.oa B.on B.oc) (.slice B.ga B.gn B.gc) ⟨_, c2_⟩
    have r3 := set13_at3 _ _ (.int .i64 0) (.int .i64 D.ac) (.slice B.a B.n B.c) (.slice B.ta B.tn B.tc) (.slice B.da B.dn B.dc) (.slice B.wa B.wn B.wc) (.slice B.xa B.xn B.xc) (.int .i64 x) (.int .i64 D.cz) (.slice B.la B.ln B.lc) (.int .i64 D.dv) (.slice B.oa B.on B.oc) (.slice B.ga B.gn B.gc) ⟨_, c3_⟩
    have r4 := set13_at4 _ _ (.int .i64 0) (.int .i64 D.ac) (.slice B.a B.n B.c) (.slice B.ta B.tn B.tc) (.slice B.da B.dn B.dc) (.slice B.wa B.wn B.wc) (.slice B.xa B.xn B.xc) (.int .i64 x) (.int .i64 D.cz) (.slice B.la B.ln B.lc) (.int .i64 D.dv) (.slice B.oa B.on B.oc) (.slice B.ga B.gn B.gc) ⟨_, c4_⟩
    have r5 := set13_at5 _ _ (.int .i64 0) (.int .i64 D.ac) (.slice B.a B.n B.c) (.slice B.ta B.tn B.tc) (.slice B.da B.dn B.dc) (.slice B.wa B.wn B.wc) (.slice B.xa B.xn B.xc) (.int .i64 x) (.int .i64 D.cz) (.slice B.la B.ln B.lc) (.int .i64 D.dv) (.slice B.oa B.on B.oc) (.slice B.ga B.gn B.gc) ⟨_, c5_⟩
    have r6 := set13_at6 _ _ (.int .i64 0) (.int .i64 D.ac) (.slice B.a B.n B.c) (.slice B.ta B.tn B.tc) (.slice B.da B.dn B.dc) (.slice B.wa B.wn B.wc) (.slice B.xa B.xn B.xc) (.int .i64 x) (.int .i64 D.cz) (.slice B.la B.ln B.lc) (.int .i64 D.dv) (.slice B.oa B.on B.oc) (.slice B.ga B.gn B.gc) ⟨_, c6_⟩
    have r7 := set13_at7 _ _ (.int .i64 0) (.int .i64 D.ac) (.slice B.a B.n B.c) (.slice B.ta B.tn B.tc) (.slice B.da B.dn B.dc) (.slice B.wa B.wn B.wc) (.slice B.xa B.xn B.xc) (.int .i64 x) (.int .i64 D.cz) (.slice B.la B.ln B.lc) (.int .i64 D.dv) (.slice B.oa B.on B.oc) (.slice B.ga B.gn B.gc) ⟨_, c7_⟩
    have r8 := set13_at8 _ _ (.int .i64 0) (.int .i64 D.ac) (.slice B.a B.n B.c) (.slice B.ta B.tn B.tc) (.slice B.da B.dn B.dc) (.slice B.wa B.wn B.wc) (.slice B.xa B.xn B.xc) (.int .i64 x) (.int .i64 D.cz) (.slice B.la B.ln B.lc) (.int .i64 D.dv) (.slice B.oa B.on B.oc) (.slice B.ga B.gn B.gc) ⟨_, c8_⟩
    have r9 := set13_at9 _ _ (.int .i64 0) (.int .i64 D.ac) (.slice B.a B.n B.c) (.slice B.ta B.tn B.tc) (.slice B.da B.dn B.dc) (.slice B.wa B.wn B.wc) (.slice B.xa B.xn B.xc) (.int .i64 x) (.int .i64 D.cz) (.slice B.la B.ln B.lc) (.int .i64 D.dv) (.slice B.oa B.on B.oc) (.slice B.ga B.gn B.gc) ⟨_, c9_⟩
    have r10 := set13_at10 _ _ (.int .i64 0) (.int .i64 D.ac) (.slice B.a B.n B.c) (.slice B.ta B.tn B.tc) (.slice B.da B.dn B.dc) (.slice B.wa B.wn B.wc) (.slice B.xa B.xn B.xc) (.int .i64 x) (.int .i64 D.cz) (.slice B.la B.ln B.lc) (.int .i64 D.dv) (.slice B.oa B.on B.oc) (.slice B.ga B.gn B.gc) ⟨_, c10_⟩
    have r11 := set13_at11 _ _ (.int .i64 0) (.int .i64 D.ac) (.slice B.a B.n B.c) (.slice B.ta B.tn B.tc) (.slice B.da B.dn B.dc) (.slice B.wa B.wn B.wc) (.slice B.xa B.xn B.xc) (.int .i64 x) (.int .i64 D.cz) (.slice B.la B.ln B.lc) (.int .i64 D.dv) (.slice B.oa B.on B.oc) (.slice B.ga B.gn B.gc) ⟨_, c11_⟩
    have r12 := set13_at12 _ _ (.int .i64 0) (.int .i64 D.ac) (.slice B.a B.n B.c) (.slice B.ta B.tn B.tc) (.slice B.da B.dn B.dc) (.slice B.wa B.wn B.wc) (.slice B.xa B.xn B.xc) (.int .i64 x) (.int .i64 D.cz) (.slice B.la B.ln B.lc) (.int .i64 D.dv) (.slice B.oa B.on B.oc) (.slice B.ga B.gn B.gc) ⟨_, c12_⟩
    refine bodyPost_ret (v := .agg #[.int .i64 0, .int .i64 D.ac, .slice B.a B.n B.c, .slice B.ta B.tn B.tc, .slice B.da B.dn B.dc, .slice B.wa B.wn B.wc, .slice B.xa B.xn B.xc, .int .i64 x, .int .i64 D.cz, .slice B.la B.ln B.lc, .int .i64 D.dv, .slice B.oa B.on B.oc, .slice B.ga B.gn B.gc]) (by simp [results, Tryz.results34, go_sem, r0, r1, r2, r3, r4, r5, r6, r7, r8, r9, r10, r11, r12]) rfl ⟨B, ?_, ?_, HB.out⟩
    · rw [HC.out, HX.out.1, HX.out.2]
    · rw [HX.out.2]; exact HO.out.mono (fun q hq => ⟨by have := hq.1; omega, by have := hq.2; simp; omega⟩)

end Go.Proofs.YtbfmdnnbiidlkaaGreat
