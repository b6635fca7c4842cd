import Derived.Test.YtgkjmeogdomgmaaGreatG29
import Derived.Test.YtgkjmeogdomgmaaGreatG71
import Derived.Test.YtgkjmeogdomgmaaGreatG27
import Derived.Test.YtgkjmeogdomgmaaGreatG70
import Derived.Test.YtgkjmeogdomgmaaGreatG28
import Derived.WalkLawsBesides
import Derived.Recover
import Derived.WalkKit
import Derived.ProofKit
import Derived.OpenShut
import Derived.ShutString
import Derived.ChangeOld
import Derived.Below
import Derived.WalkSpells
import Derived.Deep.QuietTactic
import Derived.BigQuiet
import Derived.Deep.RegionWith
import Derived.Deep.WholeRow
import Derived.Deep.DeepCutAuto
import Derived.Deep.RegionHeld2
import Derived.Deep.AppendLies
import Derived.Deep.RegionLaw
namespace Go.Proofs.YtgkjmeogdomgmaaGreat
open Go.ChangeShapes Go.WideShapes Go.ChangeAt Go.RowKit

set_option maxRecDepth 100000 in
set_option maxHeartbeats 4000000 in
theorem serveTaintV_yes (A : SA) (D : SD) (rf : Int) (c0 : Addr) (E : SD) (w : World) (hr : RS w A D) (hz : szY A D ≤ 1048576) (hdo : ∀ (P : Nat) (S : Nat → Prop) (B : SA) (W : World), Below w.heap.size w W → w.heap.size ≤ P → YM P 0 S B D W → (∀ q, S q → q < W.heap.size) → Calls Tryz.prog 78 #[.pointer (some ⟨P, 0, none⟩), .pointer (some c0)] W fun e w' => e = .returned (.tuple #[]) ∧ (∃ B', YC P (fun q => S q ∨ (W.heap.size ≤ q ∧ q < w'.heap.size)) B' E w') ∧ OutS (fun q => S q ∨ q = P) W w') :
    Calls Tryz.prog 77 #[.agg #[.slice A.a A.n A.c, .slice A.ta A.tn A.tc, .slice A.da A.dn A.dc, .slice A.wa A.wn A.wc, .slice A.xa A.xn A.xc, .int .i64 D.ac, .int .i64 D.cz, .slice A.la A.ln A.lc, .int .i64 D.dv, .slice A.oa A.on A.oc, .slice A.ga A.gn A.gc], .int .i64 rf, .func (.func 78) #[] #[.pointer (some c0)]] w fun e w' => ∃ B : SA, e = .returned (.agg #[.int .i64 0, .int .i64 0, .slice B.a B.n B.c, .slice B.ta B.tn B.tc, .slice B.da B.dn B.dc, .slice B.wa B.wn B.wc, .slice B.xa B.xn B.xc, .int .i64 E.ac, .int .i64 E.cz, .slice B.la B.ln B.lc, .int .i64 E.dv, .slice B.oa B.on B.oc, .slice B.ga B.gn B.gc]) ∧ OY (InR w.heap.size w'.heap.size) B E w' ∧ Below w.heap.size w w' := by
  have hmf : ∀ (fn : Fn) (first cap : Array Value) (w : World), (Instr.makeFunc fn first cap).run Tryz.prog w = .ok (.func fn first cap) w := fun _ _ _ _ => rfl
  have M1 := (((Mm.start w).allocC [.slice A.a A.n A.c, .slice A.ta A.tn A.tc, .slice A.da A.dn A.dc, .slice A.wa A.wn A.wc, .slice A.xa A.xn A.xc, .int .i64 D.ac, .int .i64 D.cz, .slice A.la A.ln A.lc, .int .i64 D.dv, .slice A.oa A.on A.oc, .slice A.ga A.gn A.gc] 53).allocC [.int .i64 rf] 2).allocC [.int .i64 0, .int .i64 0, .slice none 0 0, .slice none 0 0, .slice none 0 0, .slice none 0 0, .slice none 0 0, .int .i64 0, .int .i64 0, .slice none 0 0, .int .i64 0, .slice none 0 0, .slice none 0 0] 55
  simp only [World.size_alloc] at M1
  obtain ⟨w1, hw1⟩ : ∃ x, x = ((w.alloc (.cells #[.slice A.a A.n A.c, .slice A.ta A.tn A.tc, .slice A.da A.dn A.dc, .slice A.wa A.wn A.wc, .slice A.xa A.xn A.xc, .int .i64 D.ac, .int .i64 D.cz, .slice A.la A.ln A.lc, .int .i64 D.dv, .slice A.oa A.on A.oc, .slice A.ga A.gn A.gc] 53)).alloc (.cells #[.int .i64 rf] 2)).alloc (.cells #[.int .i64 0, .int .i64 0, .slice none 0 0, .slice none 0 0, .slice none 0 0, .slice none 0 0, .slice none 0 0, .int .i64 0, .int .i64 0, .slice none 0 0, .int .i64 0, .slice none 0 0, .slice none 0 0] 55) := ⟨_, rfl⟩
  have z1 : w.heap.size + 3 ≤ w1.heap.size := by rw [hw1]; simp
  rw [← hw1] at M1
  have Hw1 := hide hw1
  clear hw1
  go_enter_defers Tryz.func77, Tryz.ntmps77
  go_wp2_with fail
  rw [← Hw1.out]
  clear Hw1
  refine (copiedSystem_O A D _ hz (hr.below M1.bel (Nat.le_refl _))).mono ?_
  rintro e w2 ⟨B, rfl, oy, g2⟩
  have z2 := g2.size
  have M2 := M1.below g2
  obtain ⟨u, hu⟩ : ∃ x, x = w2.alloc (.cells #[.slice B.a B.n B.c, .slice B.ta B.tn B.tc, .slice B.da B.dn B.dc, .slice B.wa B.wn B.wc, .slice B.xa B.xn B.xc, .int .i64 D.ac, .int .i64 D.cz, .slice B.la B.ln B.lc, .int .i64 D.dv, .slice B.oa B.on B.oc, .slice B.ga B.gn B.gc] 53) := ⟨_, rfl⟩
  have al : Below w2.heap.size w2 u := by rw [hu]; exact (Below.refl _ _).alloc (Nat.le_refl _) _
  have zu : u.heap.size = w2.heap.size + 1 := by rw [hu]; simp
  have Y0 : YM w2.heap.size 0 (InR w1.heap.size w2.heap.size) B D u := ⟨CsO.ofCs (by rw [hu]; exact Cs.alloc w2 [.slice B.a B.n B.c, .slice B.ta B.tn B.tc, .slice B.da B.dn B.dc, .slice B.wa B.wn B.wc, .slice B.xa B.xn B.xc, .int .i64 D.ac, .int .i64 D.cz, .slice B.la B.ln B.lc, .int .i64 D.dv, .slice B.oa B.on B.oc, .slice B.ga B.gn B.gc] _), fun j => by rw [hu]; simp, fun h => by have := h.2; omega, by omega, OYR.loc.below al oy⟩
  have M3 := M2.below al
  have Hu := hide hu
  clear M1 M2 g2 oy hu
  go_wp2_with fail
  rw [← Hu.out]
  refine (hdo _ _ B _ M3.bel (by omega) Y0 (fun q hq => by have := hq.2; omega)).mono ?_
  rintro e w3 ⟨rfl, ⟨B2, y3⟩, ho⟩
  have z3 := ho.size
  have M4 := (M3.out (B := w1.heap.size) (T := w2.heap.size + 1) (ho.mono (fun q hq => by rcases hq with hq | hq; exact ⟨hq.1, by have := hq.2; omega⟩; subst hq; exact ⟨by omega, by omega⟩)) (by omega) (by simp) (by simp; omega)).fact OY.loc (B := w1.heap.size) (T := w3.heap.size) (y3.oy.mono (fun q hq => by rcases hq with hq | hq; exact ⟨hq.1, by have := hq.2; omega⟩; exact ⟨by have := hq.1; omega, hq.2⟩))
  have a0 := y3.cs.cell 0 rfl
  have a1 := y3.cs.cell 1 rfl
  have a2 := y3.cs.cell 2 rfl
  have a3 := y3.cs.cell 3 rfl
  have a4 := y3.cs.cell 4 rfl
  have a5 := y3.cs.cell 5 rfl
  have a6 := y3.cs.cell 6 rfl
  have a7 := y3.cs.cell 7 rfl
  have a8 := y3.cs.cell 8 rfl
  have a9 := y3.cs.cell 9 rfl
  have a10 := y3.cs.cell 10 rfl
  simp only [Nat.zero_add] at a0 a1 a2 a3 a4 a5 a6 a7 a8 a9 a10
  have c0_ := (M4.get 1 rfl).cell 0 rfl
  have f0 := (M4.get 1 rfl).fz 0 (by simp)
  have c1_ := (M4.get 1 rfl).cell 1 rfl
  have f1 := (M4.get 1 rfl).fz 1 (by simp)
  have c2_ := (M4.get 1 rfl).cell 2 rfl
  have f2 := (M4.get 1 rfl).fz 2 (by simp)
  have c3_ := (M4.get 1 rfl).cell 3 rfl
  have f3 := (M4.get 1 rfl).fz 3 (by simp)
  have c4_ := (M4.get 1 rfl).cell 4 rfl
  have f4 := (M4.get 1 rfl).fz 4 (by simp)
  have c5_ := (M4.get 1 rfl).cell 5 rfl
  have f5 := (M4.get 1 rfl).fz 5 (by simp)
  have c6_ := (M4.get 1 rfl).cell 6 rfl
  have f6 := (M4.get 1 rfl).fz 6 (by simp)
  have c7_ := (M4.get 1 rfl).cell 7 rfl
  have f7 := (M4.get 1 rfl).fz 7 (by simp)
  have c8_ := (M4.get 1 rfl).cell 8 rfl
  have f8 := (M4.get 1 rfl).fz 8 (by simp)
  have c9_ := (M4.get 1 rfl).cell 9 rfl
  have f9 := (M4.get 1 rfl).fz 9 (by simp)
  have c10_ := (M4.get 1 rfl).cell 10 rfl
  have f10 := (M4.get 1 rfl).fz 10 (by simp)
  have c11_ := (M4.get 1 rfl).cell 11 rfl
  have f11 := (M4.get 1 rfl).fz 11 (by simp)
  have c12_ := (M4.get 1 rfl).cell 12 rfl
  have f12 := (M4.get 1 rfl).fz 12 (by simp)
  have HB := hide (below_set13 M4.bel (P := w.heap.size + 1 + 1) (by omega) (.int .i64 0) (.int .i64 0) (.slice B2.a B2.n B2.c) (.slice B2.ta B2.tn B2.tc) (.slice B2.da B2.dn B2.dc) (.slice B2.wa B2.wn B2.wc) (.slice B2.xa B2.xn B2.xc) (.int .i64 E.ac) (.int .i64 E.cz) (.slice B2.la B2.ln B2.lc) (.int .i64 E.dv) (.slice B2.oa B2.on B2.oc) (.slice B2.ga B2.gn B2.gc))
  have HO := hide (loc_set13 OY.loc (M4.get 0 rfl) (P := w.heap.size + 1 + 1) (fun h => by have := h.1; omega) (.int .i64 0) (.int .i64 0) (.slice B2.a B2.n B2.c) (.slice B2.ta B2.tn B2.tc) (.slice B2.da B2.dn B2.dc) (.slice B2.wa B2.wn B2.wc) (.slice B2.xa B2.xn B2.xc) (.int .i64 E.ac) (.int .i64 E.cz) (.slice B2.la B2.ln B2.lc) (.int .i64 E.dv) (.slice B2.oa B2.on B2.oc) (.slice B2.ga B2.gn B2.gc))
  clear M3 M4 y3 ho Y0 al Hu
  go_wp2
  refine leaves_cons (f := 118) (args := #[.pointer (some ⟨w.heap.size + 1, 0, none⟩), .pointer (some ⟨w.heap.size, 0, none⟩), .pointer (some ⟨w.heap.size + 1 + 1, 0, none⟩)]) (by simp) (by simp [go_sem]) ?_
  refine (catch_idle _ _ _ _).mono ?_
  rintro e u' w'' ⟨rfl, rfl, rfl⟩
  have r0 := set13_at0 _ _ (.int .i64 0) (.int .i64 0) (.slice B2.a B2.n B2.c) (.slice B2.ta B2.tn B2.tc) (.slice B2.da B2.dn B2.dc) (.slice B2.wa B2.wn B2.wc) (.slice B2.xa B2.xn B2.xc) (.int .i64 E.ac) (.int .i64 E.cz) (.slice B2.la B2.ln B2.lc) (.int .i64 E.dv) (.slice B2.oa B2.on B2.oc) (.slice B2.ga B2.gn B2.gc) ⟨_, c0_⟩
  have r1 := set13_at1 _ _ (.int .i64 0) (.int .i64 0) (.slice B2.a B2.n B2.c) (.slice B2.ta B2.tn B2.tc) (.slice B2.da B2.dn B2.dc) (.slice B2.wa B2.wn B2.wc) (.slice B2.xa B2.xn B2.xc) (.int .i64 E.ac) (.int .i64 E.cz) (.slice B2.la B2.ln B2.lc) (.int .i64 E.dv) (.slice B2.oa B2.on B2.oc) (.slice B2.ga B2.gn B2.gc) ⟨_, c1_⟩
  have r2 := set13_at2 _ _ (.int .i64 0) (.int .i64 0) (.slice B2.a B2.n B2.c) (.slice B2.ta B2.tn B2.tc) (.slice B2.da B2.dn B2.dc) (.slice B2.wa B2.wn B2.wc) (.slice B2.xa B2.xn B2.xc) (.int .i64 E.ac) (.int .i64 E.cz) (.slice B2.la B2.ln B2.lc) (.int .i64 E.dv) (.slice B2.oa B2.on B2.oc) (.slice B2.ga B2.gn B2.gc) ⟨_, c2_⟩
  have r3 := set13_at3 _ _ (.int .i64 0) (.int .i64 0) (.slice B2.a B2.n B2.c) (.slice B2.ta B2.tn B2.tc) (.slice B2.da B2.dn B2.dc) (.slice B2.wa B2.wn B2.wc) (.slice B2.xa B2.xn B2.xc) (.int .i64 E.ac) (.int .i64 E.cz) (.slice B2.la B2.ln B2.lc) (.int .i64 E.dv) (.slice B2.oa B2.on B2.oc) (.slice B2.ga B2.gn B2.gc) ⟨_, c3_⟩
  have r4 := set13_at4 _ _ (.int .i64 0) (.int .i64 0) (.slice B2.a B2.n B2.c) (.slice B2.ta B2.tn B2.tc) (.slice B2.da B2.dn B2.dc) (.slice B2.wa B2.wn B2.wc) (.slice B2.xa B2.xn B2.xc) (.int .i64 E.ac) (.int .i64 E.cz) (.slice B2.la B2.ln B2.lc) (.int .i64 E.dv) (.slice B2.oa B2.on B2.oc) (.slice B2.ga B2.gn B2.gc) ⟨_, c4_⟩
  have r5 := set13_at5 _ _ (.int .i64 0) (.int .i64 0) (.slice B2.a B2.n B2.c) (.slice B2.ta B2.tn B2.tc) (.slice B2.da B2.dn B2.dc) (.slice B2.wa B2.wn B2.wc) (.slice B2.xa B2.xn B2.xc) (.int .i64 E.ac) (.int .i64 E.cz) (.slice B2.la B2.ln B2.lc) (.int .i64 E.dv) (.slice B2.oa B2.on B2.oc) (.slice B2.ga B2.gn B2.gc) ⟨_, c5_⟩
  have r6 := set13_at6 _ _ (.int .i64 0) (.int .i64 0) (.slice B2.a B2.n B2.c) (.slice B2.ta B2.tn B2.tc) (.slice B2.da B2.dn B2.dc) (.slice B2.wa B2.wn B2.wc) (.slice B2.xa B2.xn B2.xc) (.int .i64 E.ac) (.int .i64 E.cz) (.slice B2.la B2.ln B2.lc) (.int .i64 E.dv) (.slice B2.oa B2.on B2.oc) (.slice B2.ga B2.gn B2.gc) ⟨_, c6_⟩
  have r7 := set13_at7 _ _ (.int .i64 0) (.int .i64 0) (.slice B2.a B2.n B2.c) (.slice B2.ta B2.tn B2.tc) (.slice B2.da B2.dn B2.dc) (.slice B2.wa B2.wn B2.wc) (.slice B2.xa B2.xn B2.xc) (.int .i64 E.ac) (.int .i64 E.cz) (.slice B2.la B2.ln B2.lc) (.int .i64 E.dv) (.slice B2.oa B2.on B2.oc) (.slice B2.ga B2.gn B2.gc) ⟨_, c7_⟩
  have r8 := set13_at8 _ _ (.int .i64 0) (.int .i64 0) (.slice B2.a B2.n B2.c) (.slice B2.ta B2.tn B2.tc) (.slice B2.da B2.dn B2.dc) (.slice B2.wa B2.wn B2.wc) (.slice B2.xa B2.xn B2.xc) (.int .i64 E.ac) (.int .i64 E.cz) (.slice B2.la B2.ln B2.lc) (.int .i64 E.dv) (.slice B2.oa B2.on B2.oc) (.slice B2.ga B2.gn B2.gc) ⟨_, c8_⟩
  have r9 := set13_at9 _ _ (.int .i64 0) (.int .i64 0) (.slice B2.a B2.n B2.c) (.slice B2.ta B2.tn B2.tc) (.slice B2.da B2.dn B2.dc) (.slice B2.wa B2.wn B2.wc) (.slice B2.xa B2.xn B2.xc) (.int .i64 E.ac) (.int .i64 E.cz) (.slice B2.la B2.ln B2.lc) (.int .i64 E.dv) (.slice B2.oa B2.on B2.oc) (.slice B2.ga B2.gn B2.gc) ⟨_, c9_⟩
  have r10 := set13_at10 _ _ (.int .i64 0) (.int .i64 0) (.slice B2.a B2.n B2.c) (.slice B2.ta B2.tn B2.tc) (.slice B2.da B2.dn B2.dc) (.slice B2.wa B2.wn B2.wc) (.slice B2.xa B2.xn B2.xc) (.int .i64 E.ac) (.int .i64 E.cz) (.slice B2.la B2.ln B2.lc) (.int .i64 E.dv) (.slice B2.oa B2.on B2.oc) (.slice B2.ga B2.gn B2.gc) ⟨_, c10_⟩
  have r11 := set13_at11 _ _ (.int .i64 0) (.int .i64 0) (.slice B2.a B2.n B2.c) (.slice B2.ta B2.tn B2.tc) (.slice B2.da B2.dn B2.dc) (.slice B2.wa B2.wn B2.wc) (.slice B2.xa B2.xn B2.xc) (.int .i64 E.ac) (.int .i64 E.cz) (.slice B2.la B2.ln B2.lc) (.int .i64 E.dv) (.slice B2.oa B2.on B2.oc) (.slice B2.ga B2.gn B2.gc) ⟨_, c11_⟩
  have r12 := set13_at12 _ _ (.int .i64 0) (.int .i64 0) (.slice B2.a B2.n B2.c) (.slice B2.ta B2.tn B2.tc) (.slice B2.da B2.dn B2.dc) (.slice B2.wa B2.wn B2.wc) (.slice B2.xa B2.xn B2.xc) (.int .i64 E.ac) (.int .i64 E.cz) (.slice B2.la B2.ln B2.lc) (.int .i64 E.dv) (.slice B2.oa B2.on B2.oc) (.slice B2.ga B2.gn B2.gc) ⟨_, c12_⟩
  refine ⟨.agg #[.int .i64 0, .int .i64 0, .slice B2.a B2.n B2.c, .slice B2.ta B2.tn B2.tc, .slice B2.da B2.dn B2.dc, .slice B2.wa B2.wn B2.wc, .slice B2.xa B2.xn B2.xc, .int .i64 E.ac, .int .i64 E.cz, .slice B2.la B2.ln B2.lc, .int .i64 E.dv, .slice B2.oa B2.on B2.oc, .slice B2.ga B2.gn B2.gc], by simp [results, Tryz.results77, go_sem, r0, r1, r2, r3, r4, r5, r6, r7, r8, r9, r10, r11, r12], B2, rfl, ?_, HB.out⟩
  exact HO.out.mono (fun q hq => ⟨by have := hq.1; omega, by simpa using hq.2⟩)

set_option maxRecDepth 100000 in
set_option maxHeartbeats 4000000 in
theorem serveTaintV_no (A : SA) (D : SD) (rf : Int) (c0 : Addr) (w : World) (hr : RS w A D) (hz : szY A D ≤ 1048576) (hdo : ∀ (P : Nat) (S : Nat → Prop) (B : SA) (W : World), Below w.heap.size w W → w.heap.size ≤ P → YM P 0 S B D W → (∀ q, S q → q < W.heap.size) → Calls Tryz.prog 78 #[.pointer (some ⟨P, 0, none⟩), .pointer (some c0)] W fun e w' => (∃ t pv, e = .panicked [{ v := .iface t pv, recovered := false }]) ∧ OutS (fun q => S q ∨ q = P) W w') :
    Calls Tryz.prog 77 #[.agg #[.slice A.a A.n A.c, .slice A.ta A.tn A.tc, .slice A.da A.dn A.dc, .slice A.wa A.wn A.wc, .slice A.xa A.xn A.xc, .int .i64 D.ac, .int .i64 D.cz, .slice A.la A.ln A.lc, .int .i64 D.dv, .slice A.oa A.on A.oc, .slice A.ga A.gn A.gc], .int .i64 rf, .func (.func 78) #[] #[.pointer (some c0)]] w fun e w' => ∃ B : SA, e = .returned (.agg #[.int .i64 0, .int .i64 rf, .slice B.a B.n B.c, .slice B.ta B.tn B.tc, .slice B.da B.dn B.dc, .slice B.wa B.wn B.wc, .slice B.xa B.xn B.xc, .int .i64 D.ac, .int .i64 D.cz, .slice B.la B.ln B.lc, .int .i64 D.dv, .slice B.oa B.on B.oc, .slice B.ga B.gn B.gc]) ∧ OY (InR w.heap.size w'.heap.size) B D w' ∧ Below w.heap.size w w' := by
  have hmf : ∀ (fn : Fn) (first cap : Array Value) (w : World), (Instr.makeFunc fn first cap).run Tryz.prog w = .ok (.func fn first cap) w := fun _ _ _ _ => rfl
  have M1 := (((Mm.start w).allocC [.slice A.a A.n A.c, .slice A.ta A.tn A.tc, .slice A.da A.dn A.dc, .slice A.wa A.wn A.wc, .slice A.xa A.xn A.xc, .int .i64 D.ac, .int .i64 D.cz, .slice A.la A.ln A.lc, .int .i64 D.dv, .slice A.oa A.on A.oc, .slice A.ga A.gn A.gc] 53).allocC [.int .i64 rf] 2).allocC [.int .i64 0, .int .i64 0, .slice none 0 0, .slice none 0 0, .slice none 0 0, .slice none 0 0, .slice none 0 0, .int .i64 0, .int .i64 0, .slice none 0 0, .int .i64 0, .slice none 0 0, .slice none 0 0] 55
  simp only [World.size_alloc] at M1
  obtain ⟨w1, hw1⟩ : ∃ x, x = ((w.alloc (.cells #[.slice A.a A.n A.c, .slice A.ta A.tn A.tc, .slice A.da A.dn A.dc, .slice A.wa A.wn A.wc, .slice A.xa A.xn A.xc, .int .i64 D.ac, .int .i64 D.cz, .slice A.la A.ln A.lc, .int .i64 D.dv, .slice A.oa A.on A.oc, .slice A.ga A.gn A.gc] 53)).alloc (.cells #[.int .i64 rf] 2)).alloc (.cells #[.int .i64 0, .int .i64 0, .slice none 0 0, .slice none 0 0, .slice none 0 0, .slice none 0 0, .slice none 0 0, .int .i64 0, .int .i64 0, .slice none 0 0, .int .i64 0, .slice none 0 0, .slice none 0 0] 55) := ⟨_, rfl⟩
  have z1 : w.heap.size + 3 ≤ w1.heap.size := by rw [hw1]; simp
  rw [← hw1] at M1
  have Hw1 := hide hw1
  clear hw1
  go_enter_defers Tryz.func77, Tryz.ntmps77
  go_wp2_with fail
  rw [← Hw1.out]
  clear Hw1
  refine (copiedSystem_O A D _ hz (hr.below M1.bel (Nat.le_refl _))).mono ?_
  rintro e w2 ⟨B, rfl, oy, g2⟩
  have z2 := g2.size
  have M2 := M1.below g2
  obtain ⟨u, hu⟩ : ∃ x, x = w2.alloc (.cells #[.slice B.a B.n B.c, .slice B.ta B.tn B.tc, .slice B.da B.dn B.dc, .slice B.wa B.wn B.wc, .slice B.xa B.xn B.xc, .int .i64 D.ac, .int .i64 D.cz, .slice B.la B.ln B.lc, .int .i64 D.dv, .slice B.oa B.on B.oc, .slice B.ga B.gn B.gc] 53) := ⟨_, rfl⟩
  have al : Below w2.heap.size w2 u := by rw [hu]; exact (Below.refl _ _).alloc (Nat.le_refl _) _
  have zu : u.heap.size = w2.heap.size + 1 := by rw [hu]; simp
  have Y0 : YM w2.heap.size 0 (InR w1.heap.size w2.heap.size) B D u := ⟨CsO.ofCs (by rw [hu]; exact Cs.alloc w2 [.slice B.a B.n B.c, .slice B.ta B.tn B.tc, .slice B.da B.dn B.dc, .slice B.wa B.wn B.wc, .slice B.xa B.xn B.xc, .int .i64 D.ac, .int .i64 D.cz, .slice B.la B.ln B.lc, .int .i64 D.dv, .slice B.oa B.on B.oc, .slice B.ga B.gn B.gc] _), fun j => by rw [hu]; simp, fun h => by have := h.2; omega, by omega, OYR.loc.below al oy⟩
  have M3 := M2.below al
  have Hu := hide hu
  clear M1 M2 g2 oy hu
  go_wp2_with fail
  rw [← Hu.out]
  refine (hdo _ _ B _ M3.bel (by omega) Y0 (fun q hq => by have := hq.2; omega)).mono ?_
  rintro e w3 ⟨⟨t, pv, rfl⟩, ho⟩
  have z3 := ho.size
  have M4 := M3.out (B := w1.heap.size) (T := w2.heap.size + 1) (ho.mono (fun q hq => by rcases hq with hq | hq; exact ⟨hq.1, by have := hq.2; omega⟩; subst hq; exact ⟨by omega, by omega⟩)) (by omega) (by simp) (by simp; omega)
  clear M3 ho Y0 al Hu
  go_wp2
  refine leaves_cons (f := 118) (args := #[.pointer (some ⟨w.heap.size + 1, 0, none⟩), .pointer (some ⟨w.heap.size, 0, none⟩), .pointer (some ⟨w.heap.size + 1 + 1, 0, none⟩)]) (by simp) (by simp [go_sem]) ?_
  refine (catch_panicking _ _ _ rf A D t pv [] _ ((M4.get 1 rfl).cell 0 rfl) (M4.get 2 rfl) (M4.get 0 rfl) (hr.below M4.bel (Nat.le_refl _)) hz).mono ?_
  rintro e u' w4 ⟨rfl, rfl, B2, hc, oy, ho⟩
  have r0 := hc.cell 0 rfl
  have r1 := hc.cell 1 rfl
  have r2 := hc.cell 2 rfl
  have r3 := hc.cell 3 rfl
  have r4 := hc.cell 4 rfl
  have r5 := hc.cell 5 rfl
  have r6 := hc.cell 6 rfl
  have r7 := hc.cell 7 rfl
  have r8 := hc.cell 8 rfl
  have r9 := hc.cell 9 rfl
  have r10 := hc.cell 10 rfl
  have r11 := hc.cell 11 rfl
  have r12 := hc.cell 12 rfl
  have hb := M4.bel.trans (ho.below (B := w.heap.size) (fun q hq => by subst hq; omega) M4.bel.size)
  refine ⟨.agg #[.int .i64 0, .int .i64 rf, .slice B2.a B2.n B2.c, .slice B2.ta B2.tn B2.tc, .slice B2.da B2.dn B2.dc, .slice B2.wa B2.wn B2.wc, .slice B2.xa B2.xn B2.xc, .int .i64 D.ac, .int .i64 D.cz, .slice B2.la B2.ln B2.lc, .int .i64 D.dv, .slice B2.oa B2.on B2.oc, .slice B2.ga B2.gn B2.gc], by simp [results, Tryz.results77, go_sem, r0, r1, r2, r3, r4, r5, r6, r7, r8, r9, r10, r11, r12], B2, rfl, ?_, hb⟩
  exact oy.mono (fun q hq => ⟨by have := hq.1; omega, hq.2⟩)

set_option maxRecDepth 100000 in
theorem clserveTaint_yes (C0 : Nat) (P : Nat) (S : Nat → Prop) (A : SA) (D : SD) (k : Nat) (t : Int) (w : World) (h0 : w.cell? ⟨C0, 0, none⟩ = some (.int .i64 t)) (hy : YM P 0 S A D w) (H : SysR A D k) (hS : ∀ q, S q → q < w.heap.size) (ho : tnB D t = true) :
    Calls Tryz.prog 78 #[.pointer (some ⟨P, 0, none⟩), .pointer (some ⟨C0, 0, none⟩)] w fun e w' => e = .returned (.tuple #[]) ∧ (∃ B', YC P (fun q => S q ∨ (w.heap.size ≤ q ∧ q < w'.heap.size)) B' (tnD D t) w') ∧ OutS (fun q => S q ∨ q = P) w w' := by
  go_enter Tryz.func78, Tryz.ntmps78
  go_wp2_with fail
  refine (taintActive_yes P S A D k t _ hy H hS ho).mono ?_
  rintro e w' ⟨rfl, hY, hO⟩
  go_wp2
  exact bodyPost_end (v := .tuple #[]) (by simp [results, Tryz.results78, go_sem]) rfl ⟨rfl, hY, hO⟩

set_option maxRecDepth 100000 in
theorem clserveTaint_no (C0 : Nat) (P : Nat) (S : Nat → Prop) (A : SA) (D : SD) (k : Nat) (t : Int) (w : World) (h0 : w.cell? ⟨C0, 0, none⟩ = some (.int .i64 t)) (hy : YM P 0 S A D w) (H : SysR A D k) (ho : tnB D t = false) :
    Calls Tryz.prog 78 #[.pointer (some ⟨P, 0, none⟩), .pointer (some ⟨C0, 0, none⟩)] w fun e w' => (∃ t pv, e = .panicked [{ v := .iface t pv, recovered := false }]) ∧ OutS (fun q => S q ∨ q = P) w w' := by
  go_enter Tryz.func78, Tryz.ntmps78
  go_wp2_with fail
  refine (taintActive_no P S A D k t _ hy H ho).mono ?_
  rintro e w' ⟨⟨t, pv, rfl⟩, hB⟩
  exact ⟨rfl, ⟨t, pv, rfl⟩, OutS.of_below hB⟩

set_option maxRecDepth 100000 in
set_option maxHeartbeats 4000000 in
theorem serveTaint_calls (A : SA) (D : SD) (k : Nat) (t : Int) (w : World) (hr : RS w A D) (H : SysR A D k) (hz : szY A D ≤ 1048576) :
    Calls Tryz.prog 30 #[.agg #[.slice A.a A.n A.c, .slice A.ta A.tn A.tc, .slice A.da A.dn A.dc, .slice A.wa A.wn A.wc, .slice A.xa A.xn A.xc, .int .i64 D.ac, .int .i64 D.cz, .slice A.la A.ln A.lc, .int .i64 D.dv, .slice A.oa A.on A.oc, .slice A.ga A.gn A.gc], .int .i64 t] w fun e w' => ∃ B : SA, e = .returned (.agg #[.int .i64 0, .int .i64 (tnS D t), .slice B.a B.n B.c, .slice B.ta B.tn B.tc, .slice B.da B.dn B.dc, .slice B.wa B.wn B.wc, .slice B.xa B.xn B.xc, .int .i64 (tnD D t).ac, .int .i64 (tnD D t).cz, .slice B.la B.ln B.lc, .int .i64 (tnD D t).dv, .slice B.oa B.on B.oc, .slice B.ga B.gn B.gc]) ∧ OY (InR w.heap.size w'.heap.size) B (tnD D t) w' ∧ Below w.heap.size w w' := by
  have hmf : ∀ (fn : Fn) (first cap : Array Value) (w : World), (Instr.makeFunc fn first cap).run Tryz.prog w = .ok (.func fn first cap) w := fun _ _ _ _ => rfl
  have M0 := ((((Mm.start w).allocC [.slice A.a A.n A.c, .slice A.ta A.tn A.tc, .slice A.da A.dn A.dc, .slice A.wa A.wn A.wc, .slice A.xa A.xn A.xc, .int .i64 D.ac, .int .i64 D.cz, .slice A.la A.ln A.lc, .int .i64 D.dv, .slice A.oa A.on A.oc, .slice A.ga A.gn A.gc] 53).allocC [.int .i64 t] 2).allocC [.int .i64 0, .int .i64 0, .slice none 0 0, .slice none 0 0, .slice none 0 0, .slice none 0 0, .slice none 0 0, .int .i64 0, .int .i64 0, .slice none 0 0, .int .i64 0, .slice none 0 0, .slice none 0 0] 55)
  simp only [World.size_alloc] at M0
  obtain ⟨W, hW⟩ : ∃ x, x = (((w.alloc (.cells #[.slice A.a A.n A.c, .slice A.ta A.tn A.tc, .slice A.da A.dn A.dc, .slice A.wa A.wn A.wc, .slice A.xa A.xn A.xc, .int .i64 D.ac, .int .i64 D.cz, .slice A.la A.ln A.lc, .int .i64 D.dv, .slice A.oa A.on A.oc, .slice A.ga A.gn A.gc] 53)).alloc (.cells #[.int .i64 t] 2)).alloc (.cells #[.int .i64 0, .int .i64 0, .slice none 0 0, .slice none 0 0, .slice none 0 0, .slice none 0 0, .slice none 0 0, .int .i64 0, .int .i64 0, .slice none 0 0, .int .i64 0, .slice none 0 0, .slice none 0 0] 55)) := ⟨_, rfl⟩
  have hWs : W.heap.size = w.heap.size + 3 := by rw [hW]; simp
  rw [← hW] at M0
  have HC : Hid (Calls Tryz.prog 77 #[.agg #[.slice A.a A.n A.c, .slice A.ta A.tn A.tc, .slice A.da A.dn A.dc, .slice A.wa A.wn A.wc, .slice A.xa A.xn A.xc, .int .i64 D.ac, .int .i64 D.cz, .slice A.la A.ln A.lc, .int .i64 D.dv, .slice A.oa A.on A.oc, .slice A.ga A.gn A.gc], .int .i64 1, .func (.func 78) #[] #[.pointer (some ⟨w.heap.size + 1, 0, none⟩)]] W fun e w' => ∃ B : SA, e = .returned (.agg #[.int .i64 0, .int .i64 (tnS D t), .slice B.a B.n B.c, .slice B.ta B.tn B.tc, .slice B.da B.dn B.dc, .slice B.wa B.wn B.wc, .slice B.xa B.xn B.xc, .int .i64 (tnD D t).ac, .int .i64 (tnD D t).cz, .slice B.la B.ln B.lc, .int .i64 (tnD D t).dv, .slice B.oa B.on B.oc, .slice B.ga B.gn B.gc]) ∧ OY (InR W.heap.size w'.heap.size) B (tnD D t) w' ∧ Below W.heap.size W w') := by
    have hrW := hr.below M0.bel (Nat.le_refl _)
    cases ho : tnB D t with
    | true =>
      rw [(tn_yes ho).2]
      exact serveTaintV_yes A D 1 ⟨w.heap.size + 1, 0, none⟩ (tnD D t) W hrW hz (fun P S B X hb hP hy hS => clserveTaint_yes (w.heap.size + 1) P S B D k t X ((hb.cell (p := ⟨w.heap.size + 1, 0, none⟩) (show w.heap.size + 1 < W.heap.size by omega)).trans ((M0.get 1 rfl).cell 0 rfl)) hy (H.move hrW hy.y.oy.rs) hS ho)
    | false =>
      have hD : tnD D t = D := if_neg (by rw [ho]; simp)
      have h1 := serveTaintV_no A D 1 ⟨w.heap.size + 1, 0, none⟩ W hrW hz (fun P S B X hb hP hy hS => clserveTaint_no (w.heap.size + 1) P S B D k t X ((hb.cell (p := ⟨w.heap.size + 1, 0, none⟩) (show w.heap.size + 1 < W.heap.size by omega)).trans ((M0.get 1 rfl).cell 0 rfl)) hy (H.move hrW hy.y.oy.rs) ho)
      rw [(tn_no ho).2]
      rw [hD]
      exact h1
  have HW := hide hW
  clear hW
  go_enter Tryz.func30, Tryz.ntmps30
  go_wp2_with fail
  rw [← HW.out]
  refine HC.out.mono ?_
  rintro e w1 ⟨B, rfl, oy, g1⟩
  have z1 := g1.size
  obtain ⟨E, hE⟩ : ∃ x, x = tnD D t := ⟨_, rfl⟩
  rw [← hE] at oy
  obtain ⟨sd, hsd⟩ : ∃ x, x = (tnS D t) := ⟨_, rfl⟩
  simp only [← hE, ← hsd]
  have HE := hide hE
  clear hE
  have HSD := hide hsd
  clear hsd
  have M1 := M0.below g1
  have c0_ := (M1.get 0 rfl).cell 0 rfl
  have f0 := (M1.get 0 rfl).fz 0 (by simp)
  have c1_ := (M1.get 0 rfl).cell 1 rfl
  have f1 := (M1.get 0 rfl).fz 1 (by simp)
  have c2_ := (M1.get 0 rfl).cell 2 rfl
  have f2 := (M1.get 0 rfl).fz 2 (by simp)
  have c3_ := (M1.get 0 rfl).cell 3 rfl
  have f3 := (M1.get 0 rfl).fz 3 (by simp)
  have c4_ := (M1.get 0 rfl).cell 4 rfl
  have f4 := (M1.get 0 rfl).fz 4 (by simp)
  have c5_ := (M1.get 0 rfl).cell 5 rfl
  have f5 := (M1.get 0 rfl).fz 5 (by simp)
  have c6_ := (M1.get 0 rfl).cell 6 rfl
  have f6 := (M1.get 0 rfl).fz 6 (by simp)
  have c7_ := (M1.get 0 rfl).cell 7 rfl
  have f7 := (M1.get 0 rfl).fz 7 (by simp)
  have c8_ := (M1.get 0 rfl).cell 8 rfl
  have f8 := (M1.get 0 rfl).fz 8 (by simp)
  have c9_ := (M1.get 0 rfl).cell 9 rfl
  have f9 := (M1.get 0 rfl).fz 9 (by simp)
  have c10_ := (M1.get 0 rfl).cell 10 rfl
  have f10 := (M1.get 0 rfl).fz 10 (by simp)
  have c11_ := (M1.get 0 rfl).cell 11 rfl
  have f11 := (M1.get 0 rfl).fz 11 (by simp)
  have c12_ := (M1.get 0 rfl).cell 12 rfl
  have f12 := (M1.get 0 rfl).fz 12 (by simp)
  have HB := hide (below_set13 M1.bel (P := w.heap.size + 1 + 1) (by omega) (.int .i64 0) (.int .i64 sd) (.slice B.a B.n B.c) (.slice B.ta B.tn B.tc) (.slice B.da B.dn B.dc) (.slice B.wa B.wn B.wc) (.slice B.xa B.xn B.xc) (.int .i64 E.ac) (.int .i64 E.cz) (.slice B.la B.ln B.lc) (.int .i64 E.dv) (.slice B.oa B.on B.oc) (.slice B.ga B.gn B.gc))
  have HO := hide (loc_set13 OY.loc oy (P := w.heap.size + 1 + 1) (fun h => by have := h.1; omega) (.int .i64 0) (.int .i64 sd) (.slice B.a B.n B.c) (.slice B.ta B.tn B.tc) (.slice B.da B.dn B.dc) (.slice B.wa B.wn B.wc) (.slice B.xa B.xn B.xc) (.int .i64 E.ac) (.int .i64 E.cz) (.slice B.la B.ln B.lc) (.int .i64 E.dv) (.slice B.oa B.on B.oc) (.slice B.ga B.gn B.gc))
  clear M0 M1 oy g1 HW HC
  go_wp2
  have r0 := set13_at0 _ _ (.int .i64 0) (.int .i64 sd) (.slice B.a B.n B.c) (.slice B.ta B.tn B.tc) (.slice B.da B.dn B.dc) (.slice B.wa B.wn B.wc) (.slice B.xa B.xn B.xc) (.int .i64 E.ac) (.int .i64 E.cz) (.slice B.la B.ln B.lc) (.int .i64 E.dv) (.slice B.oa B.on B.oc) (.slice B.ga B.gn B.gc) ⟨_, c0_⟩
  have r1 := set13_at1 _ _ (.int .i64 0) (.int .i64 sd) (.slice B.a B.n B.c) (.slice B.ta B.tn B.tc) (.slice B.da B.dn B.dc) (.slice B.wa B.wn B.wc) (.slice B.xa B.xn B.xc) (.int .i64 E.ac) (.int .i64 E.cz) (.slice B.la B.ln B.lc) (.int .i64 E.dv) (.slice B.oa B.on B.oc) (.slice B.ga B.gn B.gc) ⟨_, c1_⟩
  have r2 := set13_at2 _ _ (.int .i64 0) (.int .i64 sd) (.slice B.a B.n B.c) (.slice B.ta B.tn B.tc) (.slice B.da B.dn B.dc) (.slice B.wa B.wn B.wc) (.slice B.xa B.xn B.xc) (.int .i64 E.ac) (.int .i64 E.cz) (.slice B.la B.ln B.lc) (.int .i64 E.dv) (.slice B.oa B.on B.oc) (.slice B.ga B.gn B.gc) ⟨_, c2_⟩
  have r3 := set13_at3 _ _ (.int .i64 0) (.int .i64 sd) (.slice B.a B.n B.c) (.slice B.ta B.tn B.tc) (.slice B.da B.dn B.dc) (.slice B.wa B.wn B.wc) (.slice B.xa B.xn B.xc) (.int .i64 E.ac) (.int .i64 E.cz) (.slice B.la B.ln B.lc) (.int .i64 E.dv) (.slice B.oa B.on B.oc) (.slice B.ga B.gn B.gc) ⟨_, c3_⟩
  have r4 := set13_at4 _ _ (.int .i64 0) (.int .i64 sd) (.slice B.a B.n B.c) (.slice B.ta B.tn B.tc) (.slice B.da B.dn B.dc) (.slice B.wa B.wn B.wc) (.slice B.xa B.xn B.xc) (.int .i64 E.ac) (.int .i64 E.cz) (.slice B.la B.ln B.lc) (.int .i64 E.dv) (.slice B.oa B.on B.oc) (.slice B.ga B.gn B.gc) ⟨_, c4_⟩
  have r5 := set13_at5 _ _ (.int .i64 0) (.int .i64 sd) (.slice B.a B.n B.c) (.slice B.ta B.tn B.tc) (.slice B.da B.dn B.dc) (.slice B.wa B.wn B.wc) (.slice B.xa B.xn B.xc) (.int .i64 E.ac) (.int .i64 E.cz) (.slice B.la B.ln B.lc) (.int .i64 E.dv) (.slice B.oa B.on B.oc) (.slice B.ga B.gn B.gc) ⟨_, c5_⟩
  have r6 := set13_at6 _ _ (.int .i64 0) (.int .i64 sd) (.slice B.a B.n B.c) (.slice B.ta B.tn B.tc) (.slice B.da B.dn B.dc) (.slice B.wa B.wn B.wc) (.slice B.xa B.xn B.xc) (.int .i64 E.ac) (.int .i64 E.cz) (.slice B.la B.ln B.lc) (.int .i64 E.dv) (.slice B.oa B.on B.oc) (.slice B.ga B.gn B.gc) ⟨_, c6_⟩
  have r7 := set13_at7 _ _ (.int .i64 0) (.int .i64 sd) (.slice B.a B.n B.c) (.slice B.ta B.tn B.tc) (.slice B.da B.dn B.dc) (.slice B.wa B.wn B.wc) (.slice B.xa B.xn B.xc) (.int .i64 E.ac) (.int .i64 E.cz) (.slice B.la B.ln B.lc) (.int .i64 E.dv) (.slice B.oa B.on B.oc) (.slice B.ga B.gn B.gc) ⟨_, c7_⟩
  have r8 := set13_at8 _ _ (.int .i64 0) (.int .i64 sd) (.slice B.a B.n B.c) (.slice B.ta B.tn B.tc) (.slice B.da B.dn B.dc) (.slice B.wa B.wn B.wc) (.slice B.xa B.xn B.xc) (.int .i64 E.ac) (.int .i64 E.cz) (.slice B.la B.ln B.lc) (.int .i64 E.dv) (.slice B.oa B.on B.oc) (.slice B.ga B.gn B.gc) ⟨_, c8_⟩
  have r9 := set13_at9 _ _ (.int .i64 0) (.int .i64 sd) (.slice B.a B.n B.c) (.slice B.ta B.tn B.tc) (.slice B.da B.dn B.dc) (.slice B.wa B.wn B.wc) (.slice B.xa B.xn B.xc) (.int .i64 E.ac) (.int .i64 E.cz) (.slice B.la B.ln B.lc) (.int .i64 E.dv) (.slice B.oa B.on B.oc) (.slice B.ga B.gn B.gc) ⟨_, c9_⟩
  have r10 := set13_at10 _ _ (.int .i64 0) (.int .i64 sd) (.slice B.a B.n B.c) (.slice B.ta B.tn B.tc) (.slice B.da B.dn B.dc) (.slice B.wa B.wn B.wc) (.slice B.xa B.xn B.xc) (.int .i64 E.ac) (.int .i64 E.cz) (.slice B.la B.ln B.lc) (.int .i64 E.dv) (.slice B.oa B.on B.oc) (.slice B.ga B.gn B.gc) ⟨_, c10_⟩
  have r11 := set13_at11 _ _ (.int .i64 0) (.int .i64 sd) (.slice B.a B.n B.c) (.slice B.ta B.tn B.tc) (.slice B.da B.dn B.dc) (.slice B.wa B.wn B.wc) (.slice B.xa B.xn B.xc) (.int .i64 E.ac) (.int .i64 E.cz) (.slice B.la B.ln B.lc) (.int .i64 E.dv) (.slice B.oa B.on B.oc) (.slice B.ga B.gn B.gc) ⟨_, c11_⟩
  have r12 := set13_at12 _ _ (.int .i64 0) (.int .i64 sd) (.slice B.a B.n B.c) (.slice B.ta B.tn B.tc) (.slice B.da B.dn B.dc) (.slice B.wa B.wn B.wc) (.slice B.xa B.xn B.xc) (.int .i64 E.ac) (.int .i64 E.cz) (.slice B.la B.ln B.lc) (.int .i64 E.dv) (.slice B.oa B.on B.oc) (.slice B.ga B.gn B.gc) ⟨_, c12_⟩
  refine bodyPost_ret (v := .agg #[.int .i64 0, .int .i64 sd, .slice B.a B.n B.c, .slice B.ta B.tn B.tc, .slice B.da B.dn B.dc, .slice B.wa B.wn B.wc, .slice B.xa B.xn B.xc, .int .i64 E.ac, .int .i64 E.cz, .slice B.la B.ln B.lc, .int .i64 E.dv, .slice B.oa B.on B.oc, .slice B.ga B.gn B.gc]) (by simp [results, Tryz.results30, go_sem, r0, r1, r2, r3, r4, r5, r6, r7, r8, r9, r10, r11, r12]) rfl ⟨B, by rw [← HE.out, ← HSD.out], ?_, HB.out⟩
  rw [← HE.out]
  exact HO.out.mono (fun q hq => ⟨by have := hq.1; omega, by simpa using hq.2⟩)

set_option maxRecDepth 100000 in
set_option maxHeartbeats 4000000 in
theorem implTaintSelf_calls (A : SA) (D : SD) (t : Int) (w : World) (hr : RS w A D) (hk : A.ln ≤ A.lc) (hz : szY A D ≤ 1048576) :
    Calls Tryz.prog 7 #[.agg #[.slice A.a A.n A.c, .slice A.ta A.tn A.tc, .slice A.da A.dn A.dc, .slice A.wa A.wn A.wc, .slice A.xa A.xn A.xc, .int .i64 D.ac, .int .i64 D.cz, .slice A.la A.ln A.lc, .int .i64 D.dv, .slice A.oa A.on A.oc, .slice A.ga A.gn A.gc], .int .i64 t] w fun e w' => ∃ B : SA, e = .returned (.agg #[.int .i64 (sysF D), .int .i64 (tmS D t), .slice B.a B.n B.c, .slice B.ta B.tn B.tc, .slice B.da B.dn B.dc, .slice B.wa B.wn B.wc, .slice B.xa B.xn B.xc, .int .i64 (tmD D t).ac, .int .i64 (tmD D t).cz, .slice B.la B.ln B.lc, .int .i64 (tmD D t).dv, .slice B.oa B.on B.oc, .slice B.ga B.gn B.gc]) ∧ OY (InR w.heap.size w'.heap.size) B (tmD D t) w' ∧ Below w.heap.size w w' := by
  have M0 := ((Mm.start w).allocC [.slice A.a A.n A.c, .slice A.ta A.tn A.tc, .slice A.da A.dn A.dc, .slice A.wa A.wn A.wc, .slice A.xa A.xn A.xc, .int .i64 D.ac, .int .i64 D.cz, .slice A.la A.ln A.lc, .int .i64 D.dv, .slice A.oa A.on A.oc, .slice A.ga A.gn A.gc] 53).allocC [.int .i64 0, .int .i64 0, .slice none 0 0, .slice none 0 0, .slice none 0 0, .slice none 0 0, .slice none 0 0, .int .i64 0, .int .i64 0, .slice none 0 0, .int .i64 0, .slice none 0 0, .slice none 0 0] 55
  simp only [World.size_alloc] at M0
  go_enter Tryz.func7, Tryz.ntmps7
  go_wp2_with fail
  refine (implSystemFault_calls A D _ (hr.below M0.bel (Nat.le_refl _)) hk).mono ?_
  rintro e w1 ⟨rfl, g1⟩
  have M1 := M0.below g1
  have z1 : w.heap.size + 2 ≤ w1.heap.size := by have := g1.size; simpa using this
  clear g1 M0
  by_cases hf : sysF D = 0
  rotate_left
  · have hne : (sysF D != 0) = true := by simpa using hf
    have c0_ := (M1.get 0 rfl).cell 0 rfl
    have f0 := (M1.get 0 rfl).fz 0 (by simp)
    have c1_ := (M1.get 0 rfl).cell 1 rfl
    have f1 := (M1.get 0 rfl).fz 1 (by simp)
    have c2_ := (M1.get 0 rfl).cell 2 rfl
    have f2 := (M1.get 0 rfl).fz 2 (by simp)
    have c3_ := (M1.get 0 rfl).cell 3 rfl
    have f3 := (M1.get 0 rfl).fz 3 (by simp)
    have c4_ := (M1.get 0 rfl).cell 4 rfl
    have f4 := (M1.get 0 rfl).fz 4 (by simp)
    have c5_ := (M1.get 0 rfl).cell 5 rfl
    have f5 := (M1.get 0 rfl).fz 5 (by simp)
    have c6_ := (M1.get 0 rfl).cell 6 rfl
    have f6 := (M1.get 0 rfl).fz 6 (by simp)
    have c7_ := (M1.get 0 rfl).cell 7 rfl
    have f7 := (M1.get 0 rfl).fz 7 (by simp)
    have c8_ := (M1.get 0 rfl).cell 8 rfl
    have f8 := (M1.get 0 rfl).fz 8 (by simp)
    have c9_ := (M1.get 0 rfl).cell 9 rfl
    have f9 := (M1.get 0 rfl).fz 9 (by simp)
    have c10_ := (M1.get 0 rfl).cell 10 rfl
    have f10 := (M1.get 0 rfl).fz 10 (by simp)
    have c11_ := (M1.get 0 rfl).cell 11 rfl
    have f11 := (M1.get 0 rfl).fz 11 (by simp)
    have c12_ := (M1.get 0 rfl).cell 12 rfl
    have f12 := (M1.get 0 rfl).fz 12 (by simp)
    have HB := hide (below_set13 M1.bel (P := w.heap.size + 1) (by omega) (.int .i64 (sysF D)) (.int .i64 0) (.slice none 0 0) (.slice none 0 0) (.slice none 0 0) (.slice none 0 0) (.slice none 0 0) (.int .i64 0) (.int .i64 0) (.slice none 0 0) (.int .i64 0) (.slice none 0 0) (.slice none 0 0))
    have HD : Hid (tmD D t = zeroD ∧ tmS D t = 0) := ⟨tmD_bad hf, if_neg hf⟩
    clear M1 hf
    go_wp2
    have r0 := set13_at0 _ _ (.int .i64 (sysF D)) (.int .i64 0) (.slice none 0 0) (.slice none 0 0) (.slice none 0 0) (.slice none 0 0) (.slice none 0 0) (.int .i64 0) (.int .i64 0) (.slice none 0 0) (.int .i64 0) (.slice none 0 0) (.slice none 0 0) ⟨_, c0_⟩
    have r1 := set13_at1 _ _ (.int .i64 (sysF D)) (.int .i64 0) (.slice none 0 0) (.slice none 0 0) (.slice none 0 0) (.slice none 0 0) (.slice none 0 0) (.int .i64 0) (.int .i64 0) (.slice none 0 0) (.int .i64 0) (.slice none 0 0) (.slice none 0 0) ⟨_, c1_⟩
    have r2 := set13_at2 _ _ (.int .i64 (sysF D)) (.int .i64 0) (.slice none 0 0) (.slice none 0 0) (.slice none 0 0) (.slice none 0 0) (.slice none 0 0) (.int .i64 0) (.int .i64 0) (.slice none 0 0) (.int .i64 0) (.slice none 0 0) (.slice none 0 0) ⟨_, c2_⟩
    have r3 := set13_at3 _ _ (.int .i64 (sysF D)) (.int .i64 0) (.slice none 0 0) (.slice none 0 0) (.slice none 0 0) (.slice none 0 0) (.slice none 0 0) (.int .i64 0) (.int .i64 0) (.slice none 0 0) (.int .i64 0) (.slice none 0 0) (.slice none 0 0) ⟨_, c3_⟩
    have r4 := set13_at4 _ _ (.int .i64 (sysF D)) (.int .i64 0) (.slice none 0 0) (.slice none 0 0) (.slice none 0 0) (.slice none 0 0) (.slice none 0 0) (.int .i64 0) (.int .i64 0) (.slice none 0 0) (.int .i64 0) (.slice none 0 0) (.slice none 0 0) ⟨_, c4_⟩
    have r5 := set13_at5 _ _ (.int .i64 (sysF D)) (.int .i64 0) (.slice none 0 0) (.slice none 0 0) (.slice none 0 0) (.slice none 0 0) (.slice none 0 0) (.int .i64 0) (.int .i64 0) (.slice none 0 0) (.int .i64 0) (.slice none 0 0) (.slice none 0 0) ⟨_, c5_⟩
    have r6 := set13_at6 _ _ (.int .i64 (sysF D)) (.int .i64 0) (.slice none 0 0) (.slice none 0 0) (.slice none 0 0) (.slice none 0 0) (.slice none 0 0) (.int .i64 0) (.int .i64 0) (.slice none 0 0) (.int .i64 0) (.slice none 0 0) (.slice none 0 0) ⟨_, c6_⟩
    have r7 := set13_at7 _ _ (.int .i64 (sysF D)) (.int .i64 0) (.slice none 0 0) (.slice none 0 0) (.slice none 0 0) (.slice none 0 0) (.slice none 0 0) (.int .i64 0) (.int .i64 0) (.slice none 0 0) (.int .i64 0) (.slice none 0 0) (.slice none 0 0) ⟨_, c7_⟩
    have r8 := set13_at8 _ _ (.int .i64 (sysF D)) (.int .i64 0) (.slice none 0 0) (.slice none 0 0) (.slice none 0 0) (.slice none 0 0) (.slice none 0 0) (.int .i64 0) (.int .i64 0) (.slice none 0 0) (.int .i64 0) (.slice none 0 0) (.slice none 0 0) ⟨_, c8_⟩
    have r9 := set13_at9 _ _ (.int .i64 (sysF D)) (.int .i64 0) (.slice none 0 0) (.slice none 0 0) (.slice none 0 0) (.slice none 0 0) (.slice none 0 0) (.int .i64 0) (.int .i64 0) (.slice none 0 0) (.int .i64 0) (.slice none 0 0) (.slice none 0 0) ⟨_, c9_⟩
    have r10 := set13_at10 _ _ (.int .i64 (sysF D)) (.int .i64 0) (.slice none 0 0) (.slice none 0 0) (.slice none 0 0) (.slice none 0 0) (.slice none 0 0) (.int .i64 0) (.int .i64 0) (.slice none 0 0) (.int .i64 0) (.slice none 0 0) (.slice none 0 0) ⟨_, c10_⟩
    have r11 := set13_at11 _ _ (.int .i64 (sysF D)) (.int .i64 0) (.slice none 0 0) (.slice none 0 0) (.slice none 0 0) (.slice none 0 0) (.slice none 0 0) (.int .i64 0) (.int .i64 0) (.slice none 0 0) (.int .i64 0) (.slice none 0 0) (.slice none 0 0) ⟨_, c11_⟩
    have r12 := set13_at12 _ _ (.int .i64 (sysF D)) (.int .i64 0) (.slice none 0 0) (.slice none 0 0) (.slice none 0 0) (.slice none 0 0) (.slice none 0 0) (.int .i64 0) (.int .i64 0) (.slice none 0 0) (.int .i64 0) (.slice none 0 0) (.slice none 0 0) ⟨_, c12_⟩
    rw [HD.out.1, HD.out.2]
    refine bodyPost_ret (v := .agg #[.int .i64 (sysF D), .int .i64 0, .slice none 0 0, .slice none 0 0, .slice none 0 0, .slice none 0 0, .slice none 0 0, .int .i64 0, .int .i64 0, .slice none 0 0, .int .i64 0, .slice none 0 0, .slice none 0 0]) (by simp [results, Tryz.results7, go_sem, r0, r1, r2, r3, r4, r5, r6, r7, r8, r9, r10, r11, r12]) rfl ⟨zeroA, rfl, OY.zero _ _, HB.out⟩
  · have hne : (sysF D != 0) = false := by simp [hf]
    obtain ⟨k, H⟩ := hr.right hf
    have a0 := (M1.get 1 rfl).cell 0 rfl
    have a1 := (M1.get 1 rfl).cell 1 rfl
    have a2 := (M1.get 1 rfl).cell 2 rfl
    have a3 := (M1.get 1 rfl).cell 3 rfl
    have a4 := (M1.get 1 rfl).cell 4 rfl
    have a5 := (M1.get 1 rfl).cell 5 rfl
    have a6 := (M1.get 1 rfl).cell 6 rfl
    have a7 := (M1.get 1 rfl).cell 7 rfl
    have a8 := (M1.get 1 rfl).cell 8 rfl
    have a9 := (M1.get 1 rfl).cell 9 rfl
    have a10 := (M1.get 1 rfl).cell 10 rfl
    have HD : Hid (tmD D t = tnD D t ∧ tmS D t = (tnS D t)) := ⟨tmD_ok hf, if_pos hf⟩
    have HF := hide hf
    clear hf
    go_wp2_with fail
    refine (serveTaint_calls A D k t _ (hr.below M1.bel (Nat.le_refl _)) H hz).mono ?_
    rintro e w2 ⟨B, rfl, oy, g2⟩
    have z2 := g2.size
    obtain ⟨E, hE⟩ : ∃ x, x = tnD D t := ⟨_, rfl⟩
    rw [← hE] at oy
    obtain ⟨sd, hsd⟩ : ∃ x, x = (tnS D t) := ⟨_, rfl⟩
    simp only [← hE, ← hsd]
    rw [← hE, ← hsd] at HD
    clear hE hsd
    have M2 := M1.below g2
    have c0_ := (M2.get 0 rfl).cell 0 rfl
    have f0 := (M2.get 0 rfl).fz 0 (by simp)
    have c1_ := (M2.get 0 rfl).cell 1 rfl
    have f1 := (M2.get 0 rfl).fz 1 (by simp)
    have c2_ := (M2.get 0 rfl).cell 2 rfl
    have f2 := (M2.get 0 rfl).fz 2 (by simp)
    have c3_ := (M2.get 0 rfl).cell 3 rfl
    have f3 := (M2.get 0 rfl).fz 3 (by simp)
    have c4_ := (M2.get 0 rfl).cell 4 rfl
    have f4 := (M2.get 0 rfl).fz 4 (by simp)
    have c5_ := (M2.get 0 rfl).cell 5 rfl
    have f5 := (M2.get 0 rfl).fz 5 (by simp)
    have c6_ := (M2.get 0 rfl).cell 6 rfl
    have f6 := (M2.get 0 rfl).fz 6 (by simp)
    have c7_ := (M2.get 0 rfl).cell 7 rfl
    have f7 := (M2.get 0 rfl).fz 7 (by simp)
    have c8_ := (M2.get 0 rfl).cell 8 rfl
    have f8 := (M2.get 0 rfl).fz 8 (by simp)
    have c9_ := (M2.get 0 rfl).cell 9 rfl
    have f9 := (M2.get 0 rfl).fz 9 (by simp)
    have c10_ := (M2.get 0 rfl).cell 10 rfl
    have f10 := (M2.get 0 rfl).fz 10 (by simp)
    have c11_ := (M2.get 0 rfl).cell 11 rfl
    have f11 := (M2.get 0 rfl).fz 11 (by simp)
    have c12_ := (M2.get 0 rfl).cell 12 rfl
    have f12 := (M2.get 0 rfl).fz 12 (by simp)
    have HB := hide (below_set13 M2.bel (P := w.heap.size + 1) (by omega) (.int .i64 0) (.int .i64 sd) (.slice B.a B.n B.c) (.slice B.ta B.tn B.tc) (.slice B.da B.dn B.dc) (.slice B.wa B.wn B.wc) (.slice B.xa B.xn B.xc) (.int .i64 E.ac) (.int .i64 E.cz) (.slice B.la B.ln B.lc) (.int .i64 E.dv) (.slice B.oa B.on B.oc) (.slice B.ga B.gn B.gc))
    have HO := hide (loc_set13 OY.loc oy (P := w.heap.size + 1) (fun h => by have := h.1; omega) (.int .i64 0) (.int .i64 sd) (.slice B.a B.n B.c) (.slice B.ta B.tn B.tc) (.slice B.da B.dn B.dc) (.slice B.wa B.wn B.wc) (.slice B.xa B.xn B.xc) (.int .i64 E.ac) (.int .i64 E.cz) (.slice B.la B.ln B.lc) (.int .i64 E.dv) (.slice B.oa B.on B.oc) (.slice B.ga B.gn B.gc))
    clear M1 M2 oy g2 a0 a1 a2 a3 a4 a5 a6 a7 a8 a9 a10
    go_wp2
    have r0 := set13_at0 _ _ (.int .i64 0) (.int .i64 sd) (.slice B.a B.n B.c) (.slice B.ta B.tn B.tc) (.slice B.da B.dn B.dc) (.slice B.wa B.wn B.wc) (.slice B.xa B.xn B.xc) (.int .i64 E.ac) (.int .i64 E.cz) (.slice B.la B.ln B.lc) (.int .i64 E.dv) (.slice B.oa B.on B.oc) (.slice B.ga B.gn B.gc) ⟨_, c0_⟩
    have r1 := set13_at1 _ _ (.int .i64 0) (.int .i64 sd) (.slice B.a B.n B.c) (.slice B.ta B.tn B.tc) (.slice B.da B.dn B.dc) (.slice B.wa B.wn B.wc) (.slice B.xa B.xn B.xc) (.int .i64 E.ac) (.int .i64 E.cz) (.slice B.la B.ln B.lc) (.int .i64 E.dv) (.slice B.oa B.on B.oc) (.slice B.ga B.gn B.gc) ⟨_, c1_⟩
    have r2 := set13_at2 _ _ (.int .i64 0) (.int .i64 sd) (.slice B.a B.n B.c) (.slice B.ta B.tn B.tc) (.slice B.da B.dn B.dc) (.slice B.wa B.wn B.wc) (.slice B.xa B.xn B.xc) (.int .i64 E.ac) (.int .i64 E.cz) (.slice B.la B.ln B.lc) (.int .i64 E.dv) (.slice B.oa B.on B.oc) (.slice B.ga B.gn B.gc) ⟨_, c2_⟩
    have r3 := set13_at3 _ _ (.int .i64 0) (.int .i64 sd) (.slice B.a B.n B.c) (.slice B.ta B.tn B.tc) (.slice B.da B.dn B.dc) (.slice B.wa B.wn B.wc) (.slice B.xa B.xn B.xc) (.int .i64 E.ac) (.int .i64 E.cz) (.slice B.la B.ln B.lc) (.int .i64 E.dv) (.slice B.oa B.on B.oc) (.slice B.ga B.gn B.gc) ⟨_, c3_⟩
    have r4 := set13_at4 _ _ (.int .i64 0) (.int .i64 sd) (.slice B.a B.n B.c) (.slice B.ta B.tn B.tc) (.slice B.da B.dn B.dc) (.slice B.wa B.wn B.wc) (.slice B.xa B.xn B.xc) (.int .i64 E.ac) (.int .i64 E.cz) (.slice B.la B.ln B.lc) (.int .i64 E.dv) (.slice B.oa B.on B.oc) (.slice B.ga B.gn B.gc) ⟨_, c4_⟩
    have r5 := set13_at5 _ _ (.int .i64 0) (.int .i64 sd) (.slice B.a B.n B.c) (.slice B.ta B.tn B.tc) (.slice B.da B.dn B.dc) (.slice B.wa B.wn B.wc) (.slice B.xa B.xn B.xc) (.int .i64 E.ac) (.int .i64 E.cz) (.slice B.la B.ln B.lc) (.int .i64 E.dv) (.slice B.oa B.on B.oc) (.slice B.ga B.gn B.gc) ⟨_, c5_⟩
    have r6 := set13_at6 _ _ (.int .i64 0) (.int .i64 sd) (.slice B.a B.n B.c) (.slice B.ta B.tn B.tc) (.slice B.da B.dn B.dc) (.slice B.wa B.wn B.wc) (.slice B.xa B.xn B.xc) (.int .i64 E.ac) (.int .i64 E.cz) (.slice B.la B.ln B.lc) (.int .i64 E.dv) (.slice B.oa B.on B.oc) (.slice B.ga B.gn B.gc) ⟨_, c6_⟩
    have r7 := set13_at7 _ _ (.int .i64 0) (.int .i64 sd) (.slice B.a B.n B.c) (.slice B.ta B.tn B.tc) (.slice B.da B.dn B.dc) (.slice B.wa B.wn B.wc) (.slice B.xa B.xn B.xc) (.int .i64 E.ac) (.int .i64 E.cz) (.slice B.la B.ln B.lc) (.int .i64 E.dv) (.slice B.oa B.on B.oc) (.slice B.ga B.gn B.gc) ⟨_, c7_⟩
    have r8 := set13_at8 _ _ (.int .i64 0) (.int .i64 sd) (.slice B.a B.n B.c) (.slice B.ta B.tn B.tc) (.slice B.da B.dn B.dc) (.slice B.wa B.wn B.wc) (.slice B.xa B.xn B.xc) (.int .i64 E.ac) (.int .i64 E.cz) (.slice B.la B.ln B.lc) (.int .i64 E.dv) (.slice B.oa B.on B.oc) (.slice B.ga B.gn B.gc) ⟨_, c8_⟩
    have r9 := set13_at9 _ _ (.int .i64 0) (.int .i64 sd) (.slice B.a B.n B.c) (.slice B.ta B.tn B.tc) (.slice B.da B.dn B.dc) (.slice B.wa B.wn B.wc) (.slice B.xa B.xn B.xc) (.int .i64 E.ac) (.int .i64 E.cz) (.slice B.la B.ln B.lc) (.int .i64 E.dv) (.slice B.oa B.on B.oc) (.slice B.ga B.gn B.gc) ⟨_, c9_⟩
    have r10 := set13_at10 _ _ (.int .i64 0) (.int .i64 sd) (.slice B.a B.n B.c) (.slice B.ta B.tn B.tc) (.slice B.da B.dn B.dc) (.slice B.wa B.wn B.wc) (.slice B.xa B.xn B.xc) (.int .i64 E.ac) (.int .i64 E.cz) (.slice B.la B.ln B.lc) (.int .i64 E.dv) (.slice B.oa B.on B.oc) (.slice B.ga B.gn B.gc) ⟨_, c10_⟩
    have r11 := set13_at11 _ _ (.int .i64 0) (.int .i64 sd) (.slice B.a B.n B.c) (.slice B.ta B.tn B.tc) (.slice B.da B.dn B.dc) (.slice B.wa B.wn B.wc) (.slice B.xa B.xn B.xc) (.int .i64 E.ac) (.int .i64 E.cz) (.slice B.la B.ln B.lc) (.int .i64 E.dv) (.slice B.oa B.on B.oc) (.slice B.ga B.gn B.gc) ⟨_, c11_⟩
    have r12 := set13_at12 _ _ (.int .i64 0) (.int .i64 sd) (.slice B.a B.n B.c) (.slice B.ta B.tn B.tc) (.slice B.da B.dn B.dc) (.slice B.wa B.wn B.wc) (.slice B.xa B.xn B.xc) (.int .i64 E.ac) (.int .i64 E.cz) (.slice B.la B.ln B.lc) (.int .i64 E.dv) (.slice B.oa B.on B.oc) (.slice B.ga B.gn B.gc) ⟨_, c12_⟩
    rw [HF.out, HD.out.1, HD.out.2]
    refine bodyPost_ret (v := .agg #[.int .i64 0, .int .i64 sd, .slice B.a B.n B.c, .slice B.ta B.tn B.tc, .slice B.da B.dn B.dc, .slice B.wa B.wn B.wc, .slice B.xa B.xn B.xc, .int .i64 E.ac, .int .i64 E.cz, .slice B.la B.ln B.lc, .int .i64 E.dv, .slice B.oa B.on B.oc, .slice B.ga B.gn B.gc]) (by simp [results, Tryz.results7, go_sem, r0, r1, r2, r3, r4, r5, r6, r7, r8, r9, r10, r11, r12]) rfl ⟨B, rfl, ?_, HB.out⟩
    exact HO.out.mono (fun q hq => ⟨by have := hq.1; omega, by simpa using hq.2⟩)

set_option maxRecDepth 100000 in
set_option maxHeartbeats 4000000 in
theorem specTaintSelf_calls (A : SA) (D : SD) (t : Int) (w : World) (hr : RS w A D) (_ : A.ln ≤ A.lc) (hz : szY A D ≤ 1048576) :
    Calls Tryz.prog 5 #[.agg #[.slice A.a A.n A.c, .slice A.ta A.tn A.tc, .slice A.da A.dn A.dc, .slice A.wa A.wn A.wc, .slice A.xa A.xn A.xc, .int .i64 D.ac, .int .i64 D.cz, .slice A.la A.ln A.lc, .int .i64 D.dv, .slice A.oa A.on A.oc, .slice A.ga A.gn A.gc], .int .i64 t] w fun e w' => ∃ B : SA, e = .returned (.agg #[.int .i64 (sysF D), .int .i64 (tmS D t), .slice B.a B.n B.c, .slice B.ta B.tn B.tc, .slice B.da B.dn B.dc, .slice B.wa B.wn B.wc, .slice B.xa B.xn B.xc, .int .i64 (tmD D t).ac, .int .i64 (tmD D t).cz, .slice B.la B.ln B.lc, .int .i64 (tmD D t).dv, .slice B.oa B.on B.oc, .slice B.ga B.gn B.gc]) ∧ OY (InR w.heap.size w'.heap.size) B (tmD D t) w' ∧ Below w.heap.size w w' := by
  have M0 := ((Mm.start w).allocC [.slice A.a A.n A.c, .slice A.ta A.tn A.tc, .slice A.da A.dn A.dc, .slice A.wa A.wn A.wc, .slice A.xa A.xn A.xc, .int .i64 D.ac, .int .i64 D.cz, .slice A.la A.ln A.lc, .int .i64 D.dv, .slice A.oa A.on A.oc, .slice A.ga A.gn A.gc] 53).allocC [.int .i64 0, .int .i64 0, .slice none 0 0, .slice none 0 0, .slice none 0 0, .slice none 0 0, .slice none 0 0, .int .i64 0, .int .i64 0, .slice none 0 0, .int .i64 0, .slice none 0 0, .slice none 0 0] 55
  simp only [World.size_alloc] at M0
  go_enter Tryz.func5, Tryz.ntmps5
  go_wp2_with fail
  refine (l7Fault_calls w.heap.size A D _ (M0.get 1 rfl) (hr.below M0.bel (Nat.le_refl _))).mono ?_
  rintro e w1 ⟨rfl, g1⟩
  have M1 := M0.below g1
  have z1 : w.heap.size + 2 ≤ w1.heap.size := by have := g1.size; simpa using this
  clear g1 M0
  by_cases hf : sysF D = 0
  rotate_left
  · have HC := hide (tmD_bad (D := D) (t := t) hf)
    have hne : (sysF D != 0) = true := by simpa using hf
    have HT : Hid (tmS D t = 0) := if_neg hf
    clear hf
    go_wp2_with fail
    refine (l8Bad_calls (sysF D) _).mono ?_
    rintro e w2 ⟨rfl, g2⟩
    have M2 := M1.below g2
    clear g2 M1
    have c0 := (M2.get 0 rfl).cell 0 rfl
    have f0 := (M2.get 0 rfl).fz 0 (by simp)
    have c1 := (M2.get 0 rfl).cell 1 rfl
    have f1 := (M2.get 0 rfl).fz 1 (by simp)
    have c2 := (M2.get 0 rfl).cell 2 rfl
    have f2 := (M2.get 0 rfl).fz 2 (by simp)
    have c3 := (M2.get 0 rfl).cell 3 rfl
    have f3 := (M2.get 0 rfl).fz 3 (by simp)
    have c4 := (M2.get 0 rfl).cell 4 rfl
    have f4 := (M2.get 0 rfl).fz 4 (by simp)
    have c5 := (M2.get 0 rfl).cell 5 rfl
    have f5 := (M2.get 0 rfl).fz 5 (by simp)
    have c6 := (M2.get 0 rfl).cell 6 rfl
    have f6 := (M2.get 0 rfl).fz 6 (by simp)
    have c7 := (M2.get 0 rfl).cell 7 rfl
    have f7 := (M2.get 0 rfl).fz 7 (by simp)
    have c8 := (M2.get 0 rfl).cell 8 rfl
    have f8 := (M2.get 0 rfl).fz 8 (by simp)
    have c9 := (M2.get 0 rfl).cell 9 rfl
    have f9 := (M2.get 0 rfl).fz 9 (by simp)
    have c10 := (M2.get 0 rfl).cell 10 rfl
    have f10 := (M2.get 0 rfl).fz 10 (by simp)
    have c11 := (M2.get 0 rfl).cell 11 rfl
    have f11 := (M2.get 0 rfl).fz 11 (by simp)
    have c12 := (M2.get 0 rfl).cell 12 rfl
    have f12 := (M2.get 0 rfl).fz 12 (by simp)
    have HB := hide (below_set13 M2.bel (P := w.heap.size + 1) (by omega) (.int .i64 (sysF D)) (.int .i64 0) (.slice none 0 0) (.slice none 0 0) (.slice none 0 0) (.slice none 0 0) (.slice none 0 0) (.int .i64 0) (.int .i64 0) (.slice none 0 0) (.int .i64 0) (.slice none 0 0) (.slice none 0 0))
    clear M2
    go_wp2
    have r0 := set13_at0 _ _ (.int .i64 (sysF D)) (.int .i64 0) (.slice none 0 0) (.slice none 0 0) (.slice none 0 0) (.slice none 0 0) (.slice none 0 0) (.int .i64 0) (.int .i64 0) (.slice none 0 0) (.int .i64 0) (.slice none 0 0) (.slice none 0 0) ⟨_, c0⟩
    have r1 := set13_at1 _ _ (.int .i64 (sysF D)) (.int .i64 0) (.slice none 0 0) (.slice none 0 0) (.slice none 0 0) (.slice none 0 0) (.slice none 0 0) (.int .i64 0) (.int .i64 0) (.slice none 0 0) (.int .i64 0) (.slice none 0 0) (.slice none 0 0) ⟨_, c1⟩
    have r2 := set13_at2 _ _ (.int .i64 (sysF D)) (.int .i64 0) (.slice none 0 0) (.slice none 0 0) (.slice none 0 0) (.slice none 0 0) (.slice none 0 0) (.int .i64 0) (.int .i64 0) (.slice none 0 0) (.int .i64 0) (.slice none 0 0) (.slice none 0 0) ⟨_, c2⟩
    have r3 := set13_at3 _ _ (.int .i64 (sysF D)) (.int .i64 0) (.slice none 0 0) (.slice none 0 0) (.slice none 0 0) (.slice none 0 0) (.slice none 0 0) (.int .i64 0) (.int .i64 0) (.slice none 0 0) (.int .i64 0) (.slice none 0 0) (.slice none 0 0) ⟨_, c3⟩
    have r4 := set13_at4 _ _ (.int .i64 (sysF D)) (.int .i64 0) (.slice none 0 0) (.slice none 0 0) (.slice none 0 0) (.slice none 0 0) (.slice none 0 0) (.int .i64 0) (.int .i64 0) (.slice none 0 0) (.int .i64 0) (.slice none 0 0) (.slice none 0 0) ⟨_, c4⟩
    have r5 := set13_at5 _ _ (.int .i64 (sysF D)) (.int .i64 0) (.slice none 0 0) (.slice none 0 0) (.slice none 0 0) (.slice none 0 0) (.slice none 0 0) (.int .i64 0) (.int .i64 0) (.slice none 0 0) (.int .i64 0) (.slice none 0 0) (.slice none 0 0) ⟨_, c5⟩
    have r6 := set13_at6 _ _ (.int .i64 (sysF D)) (.int .i64 0) (.slice none 0 0) (.slice none 0 0) (.slice none 0 0) (.slice none 0 0) (.slice none 0 0) (.int .i64 0) (.int .i64 0) (.slice none 0 0) (.int .i64 0) (.slice none 0 0) (.slice none 0 0) ⟨_, c6⟩
    have r7 := set13_at7 _ _ (.int .i64 (sysF D)) (.int .i64 0) (.slice none 0 0) (.slice none 0 0) (.slice none 0 0) (.slice none 0 0) (.slice none 0 0) (.int .i64 0) (.int .i64 0) (.slice none 0 0) (.int .i64 0) (.slice none 0 0) (.slice none 0 0) ⟨_, c7⟩
    have r8 := set13_at8 _ _ (.int .i64 (sysF D)) (.int .i64 0) (.slice none 0 0) (.slice none 0 0) (.slice none 0 0) (.slice none 0 0) (.slice none 0 0) (.int .i64 0) (.int .i64 0) (.slice none 0 0) (.int .i64 0) (.slice none 0 0) (.slice none 0 0) ⟨_, c8⟩
    have r9 := set13_at9 _ _ (.int .i64 (sysF D)) (.int .i64 0) (.slice none 0 0) (.slice none 0 0) (.slice none 0 0) (.slice none 0 0) (.slice none 0 0) (.int .i64 0) (.int .i64 0) (.slice none 0 0) (.int .i64 0) (.slice none 0 0) (.slice none 0 0) ⟨_, c9⟩
    have r10 := set13_at10 _ _ (.int .i64 (sysF D)) (.int .i64 0) (.slice none 0 0) (.slice none 0 0) (.slice none 0 0) (.slice none 0 0) (.slice none 0 0) (.int .i64 0) (.int .i64 0) (.slice none 0 0) (.int .i64 0) (.slice none 0 0) (.slice none 0 0) ⟨_, c10⟩
    have r11 := set13_at11 _ _ (.int .i64 (sysF D)) (.int .i64 0) (.slice none 0 0) (.slice none 0 0) (.slice none 0 0) (.slice none 0 0) (.slice none 0 0) (.int .i64 0) (.int .i64 0) (.slice none 0 0) (.int .i64 0) (.slice none 0 0) (.slice none 0 0) ⟨_, c11⟩
    have r12 := set13_at12 _ _ (.int .i64 (sysF D)) (.int .i64 0) (.slice none 0 0) (.slice none 0 0) (.slice none 0 0) (.slice none 0 0) (.slice none 0 0) (.int .i64 0) (.int .i64 0) (.slice none 0 0) (.int .i64 0) (.slice none 0 0) (.slice none 0 0) ⟨_, c12⟩
    refine bodyPost_ret (v := .agg #[.int .i64 (sysF D), .int .i64 0, .slice none 0 0, .slice none 0 0, .slice none 0 0, .slice none 0 0, .slice none 0 0, .int .i64 0, .int .i64 0, .slice none 0 0, .int .i64 0, .slice none 0 0, .slice none 0 0]) (by simp [results, Tryz.results5, go_sem, r0, r1, r2, r3, r4, r5, r6, r7, r8, r9, r10, r11, r12]) rfl ⟨zeroA, ?_, ?_, HB.out⟩
    · rw [HC.out, HT.out]; rfl
    · rw [HC.out]; exact OY.zero _ _
  have HC := hide (tmD_ok (D := D) (t := t) hf)
  obtain ⟨k, H⟩ := hr.right hf
  have Hf := hide hf
  have HT : Hid (tmS D t = tnS D t) := if_pos hf
  have hne : (sysF D != 0) = false := by simp [hf]
  have a0 := (M1.get 1 rfl).cell 0 rfl
  have a1 := (M1.get 1 rfl).cell 1 rfl
  have a2 := (M1.get 1 rfl).cell 2 rfl
  have a3 := (M1.get 1 rfl).cell 3 rfl
  have a4 := (M1.get 1 rfl).cell 4 rfl
  have a5 := (M1.get 1 rfl).cell 5 rfl
  have a6 := (M1.get 1 rfl).cell 6 rfl
  have a7 := (M1.get 1 rfl).cell 7 rfl
  have a8 := (M1.get 1 rfl).cell 8 rfl
  have a9 := (M1.get 1 rfl).cell 9 rfl
  have a10 := (M1.get 1 rfl).cell 10 rfl
  have HR := hide hr
  clear hf hr
  go_wp2_with fail
  refine (l7Copy_O A D _ hz (HR.out.below M1.bel (Nat.le_refl _))).mono ?_
  rintro e w2 ⟨B, rfl, oy, g2⟩
  have z2 := g2.size
  have M2 := M1.below g2
  obtain ⟨u, hu⟩ : ∃ x, x = w2.alloc (.cells #[.slice B.a B.n B.c, .slice B.ta B.tn B.tc, .slice B.da B.dn B.dc, .slice B.wa B.wn B.wc, .slice B.xa B.xn B.xc, .int .i64 D.ac, .int .i64 D.cz, .slice B.la B.ln B.lc, .int .i64 D.dv, .slice B.oa B.on B.oc, .slice B.ga B.gn B.gc] 53) := ⟨_, rfl⟩
  have al : Below w2.heap.size w2 u := by rw [hu]; exact (Below.refl _ _).alloc (Nat.le_refl _) _
  have zu : u.heap.size = w2.heap.size + 1 := by rw [hu]; simp
  have Y0 : YM w2.heap.size 0 (InR w1.heap.size w2.heap.size) B D u := ⟨CsO.ofCs (by rw [hu]; exact Cs.alloc w2 [.slice B.a B.n B.c, .slice B.ta B.tn B.tc, .slice B.da B.dn B.dc, .slice B.wa B.wn B.wc, .slice B.xa B.xn B.xc, .int .i64 D.ac, .int .i64 D.cz, .slice B.la B.ln B.lc, .int .i64 D.dv, .slice B.oa B.on B.oc, .slice B.ga B.gn B.gc] _), fun j => by rw [hu]; simp, fun h => by have := h.2; omega, by omega, OYR.loc.below al oy⟩
  have M3 := M2.below al
  have Hu := hide hu
  clear M1 M2 g2 oy hu a0 a1 a2 a3 a4 a5 a6 a7 a8 a9 a10
  go_wp2_with fail
  rw [← Hu.out]
  refine (l8Taint_gen _ _ B D k t _ Y0 (H.move HR.out Y0.y.oy.rs) (fun q hq => by have := hq.2; omega)).mono ?_
  rintro e w3 ⟨rfl, ⟨B2, y3⟩, ho⟩
  have z3 := ho.size
  have M4 := (M3.out (B := w1.heap.size) (T := w2.heap.size + 1) (ho.mono (fun q hq => by rcases hq with hq | hq; exact ⟨hq.1, by have := hq.2; omega⟩; subst hq; exact ⟨by omega, by omega⟩)) (by omega) (by simp) (by simp; omega)).fact OY.loc (B := w1.heap.size) (T := w3.heap.size) (y3.y.oy.mono (fun q hq => by rcases hq with hq | hq; exact ⟨hq.1, by have := hq.2; omega⟩; exact ⟨by have := hq.1; omega, hq.2⟩))
  obtain ⟨E, hE⟩ : ∃ x, x = tnD D t := ⟨_, rfl⟩
  rw [← hE] at y3 M4
  have HE := hide hE
  have a0 := y3.cs.cell 0 rfl
  have a1 := y3.cs.cell 1 rfl
  have a2 := y3.cs.cell 2 rfl
  have a3 := y3.cs.cell 3 rfl
  have a4 := y3.cs.cell 4 rfl
  have a5 := y3.cs.cell 5 rfl
  have a6 := y3.cs.cell 6 rfl
  have a7 := y3.cs.cell 7 rfl
  have a8 := y3.cs.cell 8 rfl
  have a9 := y3.cs.cell 9 rfl
  have a10 := y3.cs.cell 10 rfl
  simp only [Nat.zero_add] at a0 a1 a2 a3 a4 a5 a6 a7 a8 a9 a10
  have c0 := (M4.get 1 rfl).cell 0 rfl
  have f0 := (M4.get 1 rfl).fz 0 (by simp)
  have c1 := (M4.get 1 rfl).cell 1 rfl
  have f1 := (M4.get 1 rfl).fz 1 (by simp)
  have c2 := (M4.get 1 rfl).cell 2 rfl
  have f2 := (M4.get 1 rfl).fz 2 (by simp)
  have c3 := (M4.get 1 rfl).cell 3 rfl
  have f3 := (M4.get 1 rfl).fz 3 (by simp)
  have c4 := (M4.get 1 rfl).cell 4 rfl
  have f4 := (M4.get 1 rfl).fz 4 (by simp)
  have c5 := (M4.get 1 rfl).cell 5 rfl
  have f5 := (M4.get 1 rfl).fz 5 (by simp)
  have c6 := (M4.get 1 rfl).cell 6 rfl
  have f6 := (M4.get 1 rfl).fz 6 (by simp)
  have c7 := (M4.get 1 rfl).cell 7 rfl
  have f7 := (M4.get 1 rfl).fz 7 (by simp)
  have c8 := (M4.get 1 rfl).cell 8 rfl
  have f8 := (M4.get 1 rfl).fz 8 (by simp)
  have c9 := (M4.get 1 rfl).cell 9 rfl
  have f9 := (M4.get 1 rfl).fz 9 (by simp)
  have c10 := (M4.get 1 rfl).cell 10 rfl
  have f10 := (M4.get 1 rfl).fz 10 (by simp)
  have c11 := (M4.get 1 rfl).cell 11 rfl
  have f11 := (M4.get 1 rfl).fz 11 (by simp)
  have c12 := (M4.get 1 rfl).cell 12 rfl
  have f12 := (M4.get 1 rfl).fz 12 (by simp)
  have HB := hide (below_set13 M4.bel (P := w.heap.size + 1) (by omega) (.int .i64 0) (.int .i64 (tnS D t)) (.slice B2.a B2.n B2.c) (.slice B2.ta B2.tn B2.tc) (.slice B2.da B2.dn B2.dc) (.slice B2.wa B2.wn B2.wc) (.slice B2.xa B2.xn B2.xc) (.int .i64 E.ac) (.int .i64 E.cz) (.slice B2.la B2.ln B2.lc) (.int .i64 E.dv) (.slice B2.oa B2.on B2.oc) (.slice B2.ga B2.gn B2.gc))
  have HO := hide (loc_set13 OY.loc (M4.get 0 rfl) (P := w.heap.size + 1) (fun h => by have := h.1; omega) (.int .i64 0) (.int .i64 (tnS D t)) (.slice B2.a B2.n B2.c) (.slice B2.ta B2.tn B2.tc) (.slice B2.da B2.dn B2.dc) (.slice B2.wa B2.wn B2.wc) (.slice B2.xa B2.xn B2.xc) (.int .i64 E.ac) (.int .i64 E.cz) (.slice B2.la B2.ln B2.lc) (.int .i64 E.dv) (.slice B2.oa B2.on B2.oc) (.slice B2.ga B2.gn B2.gc))
  clear M3 M4 y3 ho hE Y0 al Hu
  go_wp2
  have r0 := set13_at0 _ _ (.int .i64 0) (.int .i64 (tnS D t)) (.slice B2.a B2.n B2.c) (.slice B2.ta B2.tn B2.tc) (.slice B2.da B2.dn B2.dc) (.slice B2.wa B2.wn B2.wc) (.slice B2.xa B2.xn B2.xc) (.int .i64 E.ac) (.int .i64 E.cz) (.slice B2.la B2.ln B2.lc) (.int .i64 E.dv) (.slice B2.oa B2.on B2.oc) (.slice B2.ga B2.gn B2.gc) ⟨_, c0⟩
  have r1 := set13_at1 _ _ (.int .i64 0) (.int .i64 (tnS D t)) (.slice B2.a B2.n B2.c) (.slice B2.ta B2.tn B2.tc) (.slice B2.da B2.dn B2.dc) (.slice B2.wa B2.wn B2.wc) (.slice B2.xa B2.xn B2.xc) (.int .i64 E.ac) (.int .i64 E.cz) (.slice B2.la B2.ln B2.lc) (.int .i64 E.dv) (.slice B2.oa B2.on B2.oc) (.slice B2.ga B2.gn B2.gc) ⟨_, c1⟩
  have r2 := set13_at2 _ _ (.int .i64 0) (.int .i64 (tnS D t)) (.slice B2.a B2.n B2.c) (.slice B2.ta B2.tn B2.tc) (.slice B2.da B2.dn B2.dc) (.slice B2.wa B2.wn B2.wc) (.slice B2.xa B2.xn B2.xc) (.int .i64 E.ac) (.int .i64 E.cz) (.slice B2.la B2.ln B2.lc) (.int .i64 E.dv) (.slice B2.oa B2.on B2.oc) (.slice B2.ga B2.gn B2.gc) ⟨_, c2⟩
  have r3 := set13_at3 _ _ (.int .i64 0) (.int .i64 (tnS D t)) (.slice B2.a B2.n B2.c) (.slice B2.ta B2.tn B2.tc) (.slice B2.da B2.dn B2.dc) (.slice B2.wa B2.wn B2.wc) (.slice B2.xa B2.xn B2.xc) (.int .i64 E.ac) (.int .i64 E.cz) (.slice B2.la B2.ln B2.lc) (.int .i64 E.dv) (.slice B2.oa B2.on B2.oc) (.slice B2.ga B2.gn B2.gc) ⟨_, c3⟩
  have r4 := set13_at4 _ _ (.int .i64 0) (.int .i64 (tnS D t)) (.slice B2.a B2.n B2.c) (.slice B2.ta B2.tn B2.tc) (.slice B2.da B2.dn B2.dc) (.slice B2.wa B2.wn B2.wc) (.slice B2.xa B2.xn B2.xc) (.int .i64 E.ac) (.int .i64 E.cz) (.slice B2.la B2.ln B2.lc) (.int .i64 E.dv) (.slice B2.oa B2.on B2.oc) (.slice B2.ga B2.gn B2.gc) ⟨_, c4⟩
  have r5 := set13_at5 _ _ (.int .i64 0) (.int .i64 (tnS D t)) (.slice B2.a B2.n B2.c) (.slice B2.ta B2.tn B2.tc) (.slice B2.da B2.dn B2.dc) (.slice B2.wa B2.wn B2.wc) (.slice B2.xa B2.xn B2.xc) (.int .i64 E.ac) (.int .i64 E.cz) (.slice B2.la B2.ln B2.lc) (.int .i64 E.dv) (.slice B2.oa B2.on B2.oc) (.slice B2.ga B2.gn B2.gc) ⟨_, c5⟩
  have r6 := set13_at6 _ _ (.int .i64 0) (.int .i64 (tnS D t)) (.slice B2.a B2.n B2.c) (.slice B2.ta B2.tn B2.tc) (.slice B2.da B2.dn B2.dc) (.slice B2.wa B2.wn B2.wc) (.slice B2.xa B2.xn B2.xc) (.int .i64 E.ac) (.int .i64 E.cz) (.slice B2.la B2.ln B2.lc) (.int .i64 E.dv) (.slice B2.oa B2.on B2.oc) (.slice B2.ga B2.gn B2.gc) ⟨_, c6⟩
  have r7 := set13_at7 _ _ (.int .i64 0) (.int .i64 (tnS D t)) (.slice B2.a B2.n B2.c) (.slice B2.ta B2.tn B2.tc) (.slice B2.da B2.dn B2.dc) (.slice B2.wa B2.wn B2.wc) (.slice B2.xa B2.xn B2.xc) (.int .i64 E.ac) (.int .i64 E.cz) (.slice B2.la B2.ln B2.lc) (.int .i64 E.dv) (.slice B2.oa B2.on B2.oc) (.slice B2.ga B2.gn B2.gc) ⟨_, c7⟩
  have r8 := set13_at8 _ _ (.int .i64 0) (.int .i64 (tnS D t)) (.slice B2.a B2.n B2.c) (.slice B2.ta B2.tn B2.tc) (.slice B2.da B2.dn B2.dc) (.slice B2.wa B2.wn B2.wc) (.slice B2.xa B2.xn B2.xc) (.int .i64 E.ac) (.int .i64 E.cz) (.slice B2.la B2.ln B2.lc) (.int .i64 E.dv) (.slice B2.oa B2.on B2.oc) (.slice B2.ga B2.gn B2.gc) ⟨_, c8⟩
  have r9 := set13_at9 _ _ (.int .i64 0) (.int .i64 (tnS D t)) (.slice B2.a B2.n B2.c) (.slice B2.ta B2.tn B2.tc) (.slice B2.da B2.dn B2.dc) (.slice B2.wa B2.wn B2.wc) (.slice B2.xa B2.xn B2.xc) (.int .i64 E.ac) (.int .i64 E.cz) (.slice B2.la B2.ln B2.lc) (.int .i64 E.dv) (.slice B2.oa B2.on B2.oc) (.slice B2.ga B2.gn B2.gc) ⟨_, c9⟩
  have r10 := set13_at10 _ _ (.int .i64 0) (.int .i64 (tnS D t)) (.slice B2.a B2.n B2.c) (.slice B2.ta B2.tn B2.tc) (.slice B2.da B2.dn B2.dc) (.slice B2.wa B2.wn B2.wc) (.slice B2.xa B2.xn B2.xc) (.int .i64 E.ac) (.int .i64 E.cz) (.slice B2.la B2.ln B2.lc) (.int .i64 E.dv) (.slice B2.oa B2.on B2.oc) (.slice B2.ga B2.gn B2.gc) ⟨_, c10⟩
  have r11 := set13_at11 _ _ (.int .i64 0) (.int .i64 (tnS D t)) (.slice B2.a B2.n B2.c) (.slice B2.ta B2.tn B2.tc) (.slice B2.da B2.dn B2.dc) (.slice B2.wa B2.wn B2.wc) (.slice B2.xa B2.xn B2.xc) (.int .i64 E.ac) (.int .i64 E.cz) (.slice B2.la B2.ln B2.lc) (.int .i64 E.dv) (.slice B2.oa B2.on B2.oc) (.slice B2.ga B2.gn B2.gc) ⟨_, c11⟩
  have r12 := set13_at12 _ _ (.int .i64 0) (.int .i64 (tnS D t)) (.slice B2.a B2.n B2.c) (.slice B2.ta B2.tn B2.tc) (.slice B2.da B2.dn B2.dc) (.slice B2.wa B2.wn B2.wc) (.slice B2.xa B2.xn B2.xc) (.int .i64 E.ac) (.int .i64 E.cz) (.slice B2.la B2.ln B2.lc) (.int .i64 E.dv) (.slice B2.oa B2.on B2.oc) (.slice B2.ga B2.gn B2.gc) ⟨_, c12⟩
  refine bodyPost_ret (v := .agg #[.int .i64 0, .int .i64 (tnS D t), .slice B2.a B2.n B2.c, .slice B2.ta B2.tn B2.tc, .slice B2.da B2.dn B2.dc, .slice B2.wa B2.wn B2.wc, .slice B2.xa B2.xn B2.xc, .int .i64 E.ac, .int .i64 E.cz, .slice B2.la B2.ln B2.lc, .int .i64 E.dv, .slice B2.oa B2.on B2.oc, .slice B2.ga B2.gn B2.gc]) (by simp [results, Tryz.results5, go_sem, r0, r1, r2, r3, r4, r5, r6, r7, r8, r9, r10, r11, r12]) rfl ⟨B2, ?_, ?_, HB.out⟩
  · rw [HC.out, Hf.out, HT.out, ← HE.out]
  · rw [HC.out, ← HE.out]; exact HO.out.mono (fun q hq => ⟨by have := hq.1; omega, by simpa using hq.2⟩)

end Go.Proofs.YtgkjmeogdomgmaaGreat
