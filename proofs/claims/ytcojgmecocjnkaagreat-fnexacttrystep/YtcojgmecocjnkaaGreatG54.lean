import Derived.Test.YtcojgmecocjnkaaGreatG53
import Derived.Test.YtcojgmecocjnkaaGreatG1
import Derived.StillTailTactics
import Derived.WalkKit
import Derived.ProofKit
import Derived.OpenShut
import Derived.ShutString
import Derived.ChangeOld
import Derived.Below
import Derived.WalkSpells
import Derived.Deep.QuietTactic
import Derived.BigQuiet
import Derived.Deep.RegionWith
import Derived.Deep.WholeRow
import Derived.Deep.DeepCutAuto
import Derived.Deep.RegionHeld2
import Derived.Deep.AppendLies
import Derived.Deep.RegionLaw
namespace Go.Proofs.YtcojgmecocjnkaaGreat
open Go.ChangeShapes Go.WideShapes Go.ChangeAt Go.RowKit

set_option maxRecDepth 100000 in
set_option maxHeartbeats 2000000 in
theorem set_calls (P : Nat) (S : Nat → Prop) (A : SA) (D : SD) (k ia ib : Nat) (ms cl im : Int) (w : World) (h : MC P S A D ms cl w) (H : AcH A D k ia ib im) (hS : ∀ q, S q → q < w.heap.size) :
    Calls Tryz.prog 169 #[.pointer (some ⟨P, 0, none⟩), .agg #[.int .i64 1, .int .i64 (ia : Int), .int .i64 (ib : Int), .int .i64 im]] w (AcP P S (seX D k ((gx D.cs k).1.set ia im) (wrp ((gx D.cs k).2.1 + 1)) (gx D.cs k).2.2) 1 (ms) (cl) w) := by
  have h8 := H.l8
  have hia := H.hia
  have hib := H.hib
  have hk := H.hk
  have hpc := H.pc
  have a0 : (0 : Int) ≤ (ia : Int) := by omega
  have a1 : (ia : Int) < 8 := by omega
  have b0' : (0 : Int) ≤ (ib : Int) := by omega
  have b1' : (ib : Int) < 8 := by omega
  obtain ⟨W, hW⟩ : ∃ x, x = w.alloc (.cells #[.int .i64 1, .int .i64 (ia : Int), .int .i64 (ib : Int), .int .i64 im] 126) := ⟨_, rfl⟩
  have BW : Below w.heap.size w W := by rw [hW]; exact (Below.refl _ _).alloc (Nat.le_refl _) _
  have zW : W.heap.size = w.heap.size + 1 := by rw [hW]; simp
  have hPl := h.y.lt
  have lI : w.heap.size < W.heap.size := by omega
  have i0 : W.cell? ⟨w.heap.size, 0, none⟩ = some (.int .i64 1) := by rw [hW]; simp
  have i1 : W.cell? ⟨w.heap.size, 1, none⟩ = some (.int .i64 (ia : Int)) := by rw [hW]; simp
  have i2 : W.cell? ⟨w.heap.size, 2, none⟩ = some (.int .i64 (ib : Int)) := by rw [hW]; simp
  have i3 : W.cell? ⟨w.heap.size, 3, none⟩ = some (.int .i64 im) := by rw [hW]; simp
  have MW := h.below BW
  obtain ⟨N, b, lc, ea, sN, sb, ne, nP, bP, c0, c1, c2, fz, blk, f1, f2, f3⟩ := MW.y.ctx hk (by omega)
  rw [h8] at c0
  have lN := World.block_lt_of_cell? _ _ c0
  have lb : b < W.heap.size := blk.1
  have HM := hide h
  have HMW := hide MW
  have HH := hide H
  have HW := hide hW
  have HEA := hide ea
  have HC := hide (context_calls P S A D k N W.drew (MW.below (Below.refl _ _).drew).y H.ac hk ea)
  have rA := blk.2.1 ia (by omega)
  have qA := blk.2.2 ia
  have n0 : w.heap.size ≠ b := fun e => by have := hS b sb; omega
  have HS0 : Hid (W.drew.cell? ⟨w.heap.size, 1, none⟩ = some (.int .i64 (ia : Int)) ∧ W.drew.cell? ⟨w.heap.size, 3, none⟩ = some (.int .i64 im) ∧ W.drew.cell? ⟨N, k * 3, none⟩ = some (.slice (some ⟨b, 0, none⟩) 8 lc)) := ⟨i1, i3, c0⟩
  clear h H MW ea hW f1 f2 f3 blk fz i0 i1 i2 i3 c0 c1 c2
  go_enter Tryz.func169, Tryz.ntmps169
  go_wp2_with fail
  rw [← HW.out]
  go_region_held2 (fun X => X.cell? ⟨w.heap.size, 1, none⟩ = some (.int .i64 (ia : Int)) ∧ X.cell? ⟨w.heap.size, 3, none⟩ = some (.int .i64 im) ∧ X.cell? ⟨N, k * 3, none⟩ = some (.slice (some ⟨b, 0, none⟩) 8 lc))
    (first | with_reducible exact HS0.out | with_reducible assumption | exact c3_set (by with_reducible assumption) n0 n0 (Ne.symm ne) _)
    (first | (go_at_call 102; refine HC.out.mono ?_; rintro e w1 ⟨rfl, g1⟩; have hs1 : w1.cell? ⟨w.heap.size, 1, none⟩ = some (.int .i64 (ia : Int)) ∧ w1.cell? ⟨w.heap.size, 3, none⟩ = some (.int .i64 im) ∧ w1.cell? ⟨N, k * 3, none⟩ = some (.slice (some ⟨b, 0, none⟩) 8 lc) := ⟨(g1.cell (p := ⟨w.heap.size, 1, none⟩) lI).trans HS0.out.1, (g1.cell (p := ⟨w.heap.size, 3, none⟩) lI).trans HS0.out.2.1, (g1.cell (p := ⟨N, k * 3, none⟩) lN).trans HS0.out.2.2⟩; have eA := (g1.cell (p := ⟨b, ia, none⟩) lb).trans rA; have gA := (g1.frozen (p := ⟨b, ia, none⟩) lb).trans qA; have HG := hide g1; clear g1))
  all_goals (
    have g1 := HG.out
    have B1 := BW.trans (((Below.refl W.heap.size W).drew.trans g1).mono (by omega))
    have HO := hide ((OutS.of_below (S := S) B1).setCell (p := ⟨b, ia, none⟩) (by exact sb) (.int .i64 im))
    have HYR := hide ((HMW.out.below ((Below.refl W.heap.size W).drew.trans g1)).y.reg hk h8 HEA.out hs1.2.2 hia im).1
    clear g1
    go_wp2_with fail
    refine (onward_se P S A D k ia ib im 1 HH.out ((gx D.cs k).1.set ia im) ((gx D.cs k).2.1) ((gx D.cs k).2.2) _ (by simp; exact h8) (hpc) HYR.out).mono ?_
    rintro e w3 ⟨rfl, hy3, ho3⟩
    have HY3 := hide hy3
    have HO3 := hide (HO.out.trans ho3)
    clear hy3 ho3
    go_wp2
    refine bodyPost_ret (v := .int .i64 1) (by simp [results, Tryz.results169, go_sem]) rfl ?_
    exact AcP.mk HM.out HY3.out HO3.out)

set_option maxRecDepth 100000 in
set_option maxHeartbeats 2000000 in
theorem call_calls (P : Nat) (S : Nat → Prop) (A : SA) (D : SD) (k ia ib : Nat) (ms cl im : Int) (w : World) (h : MC P S A D ms cl w) (H : AcH A D k ia ib im) :
    Calls Tryz.prog 174 #[.pointer (some ⟨P, 0, none⟩), .agg #[.int .i64 8, .int .i64 (ia : Int), .int .i64 (ib : Int), .int .i64 im]] w (AcP P S (seX D k (gx D.cs k).1 (wrp ((gx D.cs k).2.1 + 1)) (gx D.cs k).2.2) 4 (ms) (im) w) := by
  have h8 := H.l8
  have hia := H.hia
  have hib := H.hib
  have hk := H.hk
  have hpc := H.pc
  have a0 : (0 : Int) ≤ (ia : Int) := by omega
  have a1 : (ia : Int) < 8 := by omega
  have b0' : (0 : Int) ≤ (ib : Int) := by omega
  have b1' : (ib : Int) < 8 := by omega
  obtain ⟨W, hW⟩ : ∃ x, x = w.alloc (.cells #[.int .i64 8, .int .i64 (ia : Int), .int .i64 (ib : Int), .int .i64 im] 126) := ⟨_, rfl⟩
  have BW : Below w.heap.size w W := by rw [hW]; exact (Below.refl _ _).alloc (Nat.le_refl _) _
  have zW : W.heap.size = w.heap.size + 1 := by rw [hW]; simp
  have hPl := h.y.lt
  have lI : w.heap.size < W.heap.size := by omega
  have i0 : W.cell? ⟨w.heap.size, 0, none⟩ = some (.int .i64 8) := by rw [hW]; simp
  have i1 : W.cell? ⟨w.heap.size, 1, none⟩ = some (.int .i64 (ia : Int)) := by rw [hW]; simp
  have i2 : W.cell? ⟨w.heap.size, 2, none⟩ = some (.int .i64 (ib : Int)) := by rw [hW]; simp
  have i3 : W.cell? ⟨w.heap.size, 3, none⟩ = some (.int .i64 im) := by rw [hW]; simp
  have MW := h.below BW
  obtain ⟨N, b, lc, ea, sN, sb, ne, nP, bP, c0, c1, c2, fz, blk, f1, f2, f3⟩ := MW.y.ctx hk (by omega)
  rw [h8] at c0
  have lN := World.block_lt_of_cell? _ _ c0
  have lb : b < W.heap.size := blk.1
  have HM := hide h
  have HMW := hide MW
  have HH := hide H
  have HW := hide hW
  have HEA := hide ea
  have p12 := MW.c
  have q12 := MW.y.fz 12
  have M2 := MW.call im
  have HYR : Hid (YM P 0 S A (seX D k (gx D.cs k).1 (gx D.cs k).2.1 (gx D.cs k).2.2) (W.setCell ⟨P, 12, none⟩ (.int .i64 im))) := by
    show YM P 0 S A (seX D k (gx D.cs k).1 (gx D.cs k).2.1 (gx D.cs k).2.2) _
    rw [se_same H.hl]
    exact M2.y
  have HO := hide (OutS.refl S (W.setCell ⟨P, 12, none⟩ (.int .i64 im)))
  have HM2 := hide M2
  have HP2 := hide ((OutS.of_below (S := fun q => S q ∨ q = P) BW).setCell (p := ⟨P, 12, none⟩) (by exact .inr rfl) (.int .i64 im))
  have nI : ¬ P = w.heap.size := by omega
  clear h H MW M2 ea hW f1 f2 f3 blk fz i0 i1 i2 c0 c1 c2
  go_enter Tryz.func174, Tryz.ntmps174
  go_upto_region 1 with fail
  rw [← HW.out]
  go_wp2_with fail
  refine (onward_se P S A D k ia ib im 4 HH.out (gx D.cs k).1 ((gx D.cs k).2.1) ((gx D.cs k).2.2) _ h8 hpc HYR.out).mono ?_
  rintro e w3 ⟨rfl, hy3, ho3⟩
  have HY3 := hide (HM2.out.out hy3 ho3)
  have HO3 := hide (HP2.out.trans (ho3.mono (fun q e => .inl e)))
  have z3 := ho3.size
  clear hy3 ho3
  go_wp2
  refine bodyPost_ret (v := .int .i64 4) (by simp [results, Tryz.results174, go_sem]) rfl ?_
  exact ⟨rfl, ⟨A, HY3.out.y.mono (fun _ e => .inl e) (fun e => by rcases e with e | e; exact HM.out.y.ns e; omega), HY3.out.m, HY3.out.c⟩, HO3.out⟩

set_option maxRecDepth 100000 in
set_option maxHeartbeats 2000000 in
theorem place_calls (P : Nat) (S : Nat → Prop) (A : SA) (D : SD) (k ia ib : Nat) (ms cl op im : Int) (w : World) (h : MC P S A D ms cl w) (H : AcH A D k ia ib im) :
    Calls Tryz.prog 220 #[.pointer (some ⟨P, 0, none⟩), .agg #[.int .i64 op, .int .i64 (ia : Int), .int .i64 (ib : Int), .int .i64 im]] w fun e w' => e = .returned (.int .i64 (wrp (gt (gx D.cs k).1 ib + im))) ∧ Below w.heap.size w w' := by
  have h8 := H.l8
  have hia := H.hia
  have hib := H.hib
  have hk := H.hk
  have hpc := H.pc
  have a0 : (0 : Int) ≤ (ia : Int) := by omega
  have a1 : (ia : Int) < 8 := by omega
  have b0' : (0 : Int) ≤ (ib : Int) := by omega
  have b1' : (ib : Int) < 8 := by omega
  obtain ⟨W, hW⟩ : ∃ x, x = w.alloc (.cells #[.int .i64 op, .int .i64 (ia : Int), .int .i64 (ib : Int), .int .i64 im] 126) := ⟨_, rfl⟩
  have BW : Below w.heap.size w W := by rw [hW]; exact (Below.refl _ _).alloc (Nat.le_refl _) _
  have zW : W.heap.size = w.heap.size + 1 := by rw [hW]; simp
  have hPl := h.y.lt
  have lI : w.heap.size < W.heap.size := by omega
  have i0 : W.cell? ⟨w.heap.size, 0, none⟩ = some (.int .i64 op) := by rw [hW]; simp
  have i1 : W.cell? ⟨w.heap.size, 1, none⟩ = some (.int .i64 (ia : Int)) := by rw [hW]; simp
  have i2 : W.cell? ⟨w.heap.size, 2, none⟩ = some (.int .i64 (ib : Int)) := by rw [hW]; simp
  have i3 : W.cell? ⟨w.heap.size, 3, none⟩ = some (.int .i64 im) := by rw [hW]; simp
  have MW := h.below BW
  obtain ⟨N, b, lc, ea, sN, sb, ne, nP, bP, c0, c1, c2, fz, blk, f1, f2, f3⟩ := MW.y.ctx hk (by omega)
  rw [h8] at c0
  have lN := World.block_lt_of_cell? _ _ c0
  have lb : b < W.heap.size := blk.1
  have HM := hide h
  have HMW := hide MW
  have HH := hide H
  have HW := hide hW
  have HEA := hide ea
  have HC := hide (context_calls P S A D k N W.drew (MW.below (Below.refl _ _).drew).y H.ac hk ea)
  have rB := blk.2.1 ib (by omega)
  have gb := H.rg ib hib
  have him := H.him
  have hwp : IntKind.i64.wrap (gt (gx D.cs k).1 ib + im) = gt (gx D.cs k).1 ib + im := IntWalk.i64_in _ (by omega)
  have HS0 : Hid (W.drew.cell? ⟨w.heap.size, 2, none⟩ = some (.int .i64 (ib : Int)) ∧ W.drew.cell? ⟨w.heap.size, 3, none⟩ = some (.int .i64 im) ∧ W.drew.cell? ⟨N, k * 3, none⟩ = some (.slice (some ⟨b, 0, none⟩) 8 lc) ∧ W.drew.cell? ⟨b, ib, none⟩ = some (.int .i64 (gt (gx D.cs k).1 ib)) ∧ Below W.heap.size W W.drew) := ⟨i2, i3, c0, rB, (Below.refl _ _).drew⟩
  clear h H MW ea hW f1 f2 f3 blk fz i0 i1 i2 i3 c0 c1 c2 HM HMW HH HEA
  go_enter Tryz.func220, Tryz.ntmps220
  go_wp2_with fail
  rw [← HW.out]
  go_region_held2 (fun X => X.cell? ⟨w.heap.size, 2, none⟩ = some (.int .i64 (ib : Int)) ∧ X.cell? ⟨w.heap.size, 3, none⟩ = some (.int .i64 im) ∧ X.cell? ⟨N, k * 3, none⟩ = some (.slice (some ⟨b, 0, none⟩) 8 lc) ∧ X.cell? ⟨b, ib, none⟩ = some (.int .i64 (gt (gx D.cs k).1 ib)) ∧ Below W.heap.size W X)
    (first | with_reducible exact HS0.out | with_reducible assumption)
    (first | (go_at_call 102; refine HC.out.mono ?_; rintro e w1 ⟨rfl, g1⟩; have hs1 := q4_below lI lI lN lb (by with_reducible assumption) g1; clear g1) | (go_at_call 219; refine (wrapped_calls _ _).mono ?_; rintro e w' ⟨rfl, hw'⟩; rw [hw']; clear hw' w'))
  all_goals (
    go_wp2
    go_ret
    exact ⟨rfl, BW.trans ((q4_bel (by with_reducible assumption)).mono (by omega))⟩)

theorem YM.wset {P o : Nat} {S : Nat → Prop} {A : SA} {D : SD} {w : World} (h : YM P o S A D w) {j bw : Nat} (hj : j < A.wn) (ew : A.wa = some ⟨bw, 0, none⟩) (v : Int) :
    YM P o S A { D with ws := D.ws.set j (v, (gw D.ws j).2) } (w.setCell ⟨bw, j * 2, none⟩ (.int .i64 v)) ∧ S bw := by
  obtain ⟨b, eb, sb, nP, lw, r0, r1, rf, rs⟩ := h.word hj
  obtain rfl : bw = b := by have := ew.symm.trans eb; simpa using this
  exact ⟨rs v, sb⟩

/-- a word lies in no context's blocks. -/
theorem YM.apart {P o : Nat} {S : Nat → Prop} {A : SA} {D : SD} {w : World} (h : YM P o S A D w) {i j : Nat} (hi : i < A.xn) (h8 : 0 < (gx D.cs i).1.length) (hj : j < A.wn) {N b n lc bw : Nat} (ea : A.xa = some ⟨N, 0, none⟩) (hc : w.cell? ⟨N, i * 3, none⟩ = some (.slice (some ⟨b, 0, none⟩) n lc)) (ew : A.wa = some ⟨bw, 0, none⟩) : b ≠ bw ∧ N ≠ bw := by
  obtain ⟨Q, q1, q2, q3, q4, q5, q6⟩ := h.y
  obtain ⟨N', b', lc', ea', sN, sb, _, c0, _⟩ := q5.x.at hi h8
  obtain rfl : N = N' := by have := ea.symm.trans ea'; simpa using this
  obtain rfl : b = b' := by have := hc.symm.trans c0; simp at this; exact this.1
  obtain ⟨b2, eb, sw, _⟩ := q5.m.at hj
  obtain rfl : bw = b2 := by have := ew.symm.trans eb; simpa using this
  exact ⟨fun e => q2 2 1 b (by decide) sb (e ▸ sw), fun e => q2 2 1 N (by decide) sN (e ▸ sw)⟩

theorem c4_set {X : World} {A0 A1 A2 A3 : Addr} {v0 v1 v2 v3 : Value} (h : X.cell? A0 = some v0 ∧ X.cell? A1 = some v1 ∧ X.cell? A2 = some v2 ∧ X.cell? A3 = some v3) {p : Addr} (n0 : A0.block ≠ p.block) (n1 : A1.block ≠ p.block) (n2 : A2.block ≠ p.block) (n3 : A3.block ≠ p.block) (y : Value) : (X.setCell p y).cell? A0 = some v0 ∧ (X.setCell p y).cell? A1 = some v1 ∧ (X.setCell p y).cell? A2 = some v2 ∧ (X.setCell p y).cell? A3 = some v3 :=
  ⟨(World.cell?_setCell_other _ _ _ _ (fun e => n0 (by rw [e]))).trans h.1, (World.cell?_setCell_other _ _ _ _ (fun e => n1 (by rw [e]))).trans h.2.1, (World.cell?_setCell_other _ _ _ _ (fun e => n2 (by rw [e]))).trans h.2.2.1, (World.cell?_setCell_other _ _ _ _ (fun e => n3 (by rw [e]))).trans h.2.2.2⟩

theorem AcP.same {P : Nat} {S : Nat → Prop} {A : SA} {D : SD} {kd ms cl ms' : Int} {w w' : World} (h : MC P S A D ms cl w) (hm : MC P S A D ms' cl w') (ho : OutS (fun q => S q ∨ q = P) w w') : AcP P S D kd ms' cl w (.returned (.int .i64 kd)) w' :=
  ⟨rfl, ⟨A, hm.y.mono (fun _ e => .inl e) (fun e => by rcases e with e | e; exact h.y.ns e; have := h.y.lt; omega), hm.m, hm.c⟩, ho⟩

/-- a step behind an asking: the machine's cells were turned first. -/
theorem AcP.two {P : Nat} {S : Nat → Prop} {A : SA} {D E : SD} {kd ms cl : Int} {w w2 w' : World} (h : MC P S A D ms cl w) (h2 : MC P S A D ms cl w2) (hy : YM P 0 S A E w') (ho : OutS S w2 w') (hb : OutS (fun q => S q ∨ q = P) w w2) : AcP P S E kd ms cl w (.returned (.int .i64 kd)) w' :=
  ⟨rfl, ⟨A, (h2.out hy ho).y.mono (fun _ e => .inl e) (fun e => by rcases e with e | e; exact h.y.ns e; have := h.y.lt; omega), (h2.out hy ho).m, (h2.out hy ho).c⟩, hb.trans (ho.mono (fun _ e => .inl e))⟩

set_option maxRecDepth 100000 in
set_option maxHeartbeats 2000000 in
theorem load0_calls (P : Nat) (S : Nat → Prop) (A : SA) (D : SD) (k ia ib : Nat) (ms cl im : Int) (w : World) (h : MC P S A D ms cl w) (H : AcH A D k ia ib im) (hq : plK D (wrp (gt (gx D.cs k).1 ib + im)) 1 ≠ 1) :
    Calls Tryz.prog 171 #[.pointer (some ⟨P, 0, none⟩), .agg #[.int .i64 4, .int .i64 (ia : Int), .int .i64 (ib : Int), .int .i64 im]] w (AcP P S (D) (plK D (wrp (gt (gx D.cs k).1 ib + im)) 1) (msX (plK D (wrp (gt (gx D.cs k).1 ib + im)) 1) (plT D (wrp (gt (gx D.cs k).1 ib + im))) ms) (cl) w) := by
  have h8 := H.l8
  have hia := H.hia
  have hib := H.hib
  have hk := H.hk
  have hpc := H.pc
  have a0 : (0 : Int) ≤ (ia : Int) := by omega
  have a1 : (ia : Int) < 8 := by omega
  have b0' : (0 : Int) ≤ (ib : Int) := by omega
  have b1' : (ib : Int) < 8 := by omega
  obtain ⟨W, hW⟩ : ∃ x, x = w.alloc (.cells #[.int .i64 4, .int .i64 (ia : Int), .int .i64 (ib : Int), .int .i64 im] 126) := ⟨_, rfl⟩
  have BW : Below w.heap.size w W := by rw [hW]; exact (Below.refl _ _).alloc (Nat.le_refl _) _
  have zW : W.heap.size = w.heap.size + 1 := by rw [hW]; simp
  have hPl := h.y.lt
  have lI : w.heap.size < W.heap.size := by omega
  have i0 : W.cell? ⟨w.heap.size, 0, none⟩ = some (.int .i64 4) := by rw [hW]; simp
  have i1 : W.cell? ⟨w.heap.size, 1, none⟩ = some (.int .i64 (ia : Int)) := by rw [hW]; simp
  have i2 : W.cell? ⟨w.heap.size, 2, none⟩ = some (.int .i64 (ib : Int)) := by rw [hW]; simp
  have i3 : W.cell? ⟨w.heap.size, 3, none⟩ = some (.int .i64 im) := by rw [hW]; simp
  have MW := h.below BW
  obtain ⟨N, b, lc, ea, sN, sb, ne, nP, bP, c0, c1, c2, fz, blk, f1, f2, f3⟩ := MW.y.ctx hk (by omega)
  rw [h8] at c0
  have lN := World.block_lt_of_cell? _ _ c0
  have lb : b < W.heap.size := blk.1
  have HM := hide h
  have HMW := hide MW
  have HH := hide H
  have HW := hide hW
  have HEA := hide ea
  have HPL := hide (place_calls P S A D k ia ib ms cl 4 im W MW H)
  have rA := blk.2.1 ia (by omega)
  have qA := blk.2.2 ia
  have hfc := H.fc
  clear h H MW ea hW f1 f2 f3 blk fz i0 i2 i3 c1 c2
  obtain ⟨p, hpp⟩ : ∃ p, p = wrp (gt (gx D.cs k).1 ib + im) := ⟨_, rfl⟩
  rw [← hpp] at HPL hq ⊢
  clear hpp
  go_enter Tryz.func171, Tryz.ntmps171
  go_wp2_with fail
  rw [← HW.out]
  refine HPL.out.mono ?_
  rintro e w1 ⟨rfl, g1⟩
  have B1 := BW.trans (g1.mono (by omega))
  have HA := hide (askWord_calls P S A D ms cl p 1 w1 (HMW.out.below g1) hfc (by omega))
  clear HPL HW
  go_wp2_with fail
  refine HA.out.mono ?_
  rintro e w2 ⟨rfl, hm2, ho2⟩
  obtain ⟨kd, hkd⟩ : ∃ y, y = plK D p 1 := ⟨_, rfl⟩
  rw [← hkd] at hq hm2 ⊢
  have HKD := hide hkd
  clear hkd
  have hne : (kd != 1) = true := by simpa using hq
  have HM2 := hide hm2
  have HO2 := hide ((OutS.of_below (S := fun q => S q ∨ q = P) B1).trans (ho2.mono (fun q e => .inr e)))
  clear hm2 ho2
  go_wp2
  refine bodyPost_ret (v := .int .i64 kd) (by simp [results, Tryz.results171, go_sem]) rfl ?_
  rw [← HKD.out]
  exact AcP.same HM.out HM2.out HO2.out

set_option maxRecDepth 100000 in
set_option maxHeartbeats 2000000 in
theorem load1_calls (P : Nat) (S : Nat → Prop) (A : SA) (D : SD) (k ia ib : Nat) (ms cl im : Int) (w : World) (h : MC P S A D ms cl w) (H : AcH A D k ia ib im) (j : Nat) (hp : wrp (gt (gx D.cs k).1 ib + im) = (j : Int)) (hq : plK D (j : Int) 1 = 1) (hS : ∀ q, S q → q < w.heap.size) :
    Calls Tryz.prog 171 #[.pointer (some ⟨P, 0, none⟩), .agg #[.int .i64 4, .int .i64 (ia : Int), .int .i64 (ib : Int), .int .i64 im]] w (AcP P S (seX D k ((gx D.cs k).1.set ia (gw D.ws j).1) (wrp ((gx D.cs k).2.1 + 1)) (gx D.cs k).2.2) 1 (ms) (cl) w) := by
  have h8 := H.l8
  have hia := H.hia
  have hib := H.hib
  have hk := H.hk
  have hpc := H.pc
  have a0 : (0 : Int) ≤ (ia : Int) := by omega
  have a1 : (ia : Int) < 8 := by omega
  have b0' : (0 : Int) ≤ (ib : Int) := by omega
  have b1' : (ib : Int) < 8 := by omega
  obtain ⟨W, hW⟩ : ∃ x, x = w.alloc (.cells #[.int .i64 4, .int .i64 (ia : Int), .int .i64 (ib : Int), .int .i64 im] 126) := ⟨_, rfl⟩
  have BW : Below w.heap.size w W := by rw [hW]; exact (Below.refl _ _).alloc (Nat.le_refl _) _
  have zW : W.heap.size = w.heap.size + 1 := by rw [hW]; simp
  have hPl := h.y.lt
  have lI : w.heap.size < W.heap.size := by omega
  have i0 : W.cell? ⟨w.heap.size, 0, none⟩ = some (.int .i64 4) := by rw [hW]; simp
  have i1 : W.cell? ⟨w.heap.size, 1, none⟩ = some (.int .i64 (ia : Int)) := by rw [hW]; simp
  have i2 : W.cell? ⟨w.heap.size, 2, none⟩ = some (.int .i64 (ib : Int)) := by rw [hW]; simp
  have i3 : W.cell? ⟨w.heap.size, 3, none⟩ = some (.int .i64 im) := by rw [hW]; simp
  have MW := h.below BW
  obtain ⟨N, b, lc, ea, sN, sb, ne, nP, bP, c0, c1, c2, fz, blk, f1, f2, f3⟩ := MW.y.ctx hk (by omega)
  rw [h8] at c0
  have lN := World.block_lt_of_cell? _ _ c0
  have lb : b < W.heap.size := blk.1
  have HM := hide h
  have HMW := hide MW
  have HH := hide H
  have HW := hide hW
  have HEA := hide ea
  have hlw := MW.y.y.oy.rs.len.2.2.2.1
  have hj : j < A.wn := by have := plK_one hq; omega
  have HP := hide hp
  clear hp
  have HPL := hide (place_calls P S A D k ia ib ms cl 4 im W MW H)
  have rA := blk.2.1 ia (by omega)
  have qA := blk.2.2 ia
  have hfc := H.fc
  clear h H MW ea hW f1 f2 f3 blk fz i0 i2 i3 c1 c2
  obtain ⟨p, hpp⟩ : ∃ p, p = wrp (gt (gx D.cs k).1 ib + im) := ⟨_, rfl⟩
  rw [← hpp] at HPL
  rw [HP.out] at hpp
  subst hpp
  go_enter Tryz.func171, Tryz.ntmps171
  go_wp2_with fail
  rw [← HW.out]
  refine HPL.out.mono ?_
  rintro e w1 ⟨rfl, g1⟩
  have B1 := BW.trans (g1.mono (by omega))
  have HA := hide (askWord_calls P S A D ms cl (j : Int) 1 w1 (HMW.out.below g1) hfc (by omega))
  clear HPL HW
  go_wp2_with fail
  refine HA.out.mono ?_
  rintro e w2 ⟨rfl, hm2, ho2⟩
  rw [hq] at hm2 ⊢
  have hm2 : MC P S A D ms cl w2 := hm2
  have HM2 := hide hm2
  have B12 := (OutS.of_below (S := fun q => q = P) B1).trans ho2
  have z1 := g1.size
  have z2 := ho2.size
  have nN1 : N ≠ P := nP
  have lI2 : w.heap.size < w2.heap.size := by omega
  have lN2 : N < w2.heap.size := by omega
  have lb2 : b < w2.heap.size := by omega
  have lP2 : P < w2.heap.size := by omega
  have k1 := (World.cell?_of_block (a := ⟨w.heap.size, 1, none⟩) (ho2.block w.heap.size (by omega) (fun e => by omega))).trans ((g1.cell (p := ⟨w.heap.size, 1, none⟩) lI).trans i1)
  have d0 := (World.cell?_of_block (a := ⟨N, k * 3, none⟩) (ho2.block N (by omega) nP)).trans ((g1.cell (p := ⟨N, k * 3, none⟩) lN).trans c0)
  have eA := (World.cell?_of_block (a := ⟨b, ia, none⟩) (ho2.block b (by omega) bP)).trans ((g1.cell (p := ⟨b, ia, none⟩) lb).trans rA)
  have gA := (World.frozen?_of_block (a := ⟨b, ia, none⟩) (ho2.block b (by omega) bP)).trans ((g1.frozen (p := ⟨b, ia, none⟩) lb).trans qA)
  obtain ⟨bw, ew, sw, nwP, lw2, r0, r1, rf, _⟩ := hm2.y.word hj
  have nbw := (hm2.y.apart hk (by omega) hj HEA.out d0 ew).1
  have nNw := (hm2.y.apart hk (by omega) hj HEA.out d0 ew).2
  have y3 := hm2.y.cs.cell 3 rfl
  simp only [Nat.zero_add] at y3
  rw [ew] at y3
  have n0 : w.heap.size ≠ b := fun e => by have := hS b sb; omega
  have n1 : w.heap.size ≠ bw := fun e => by have := hS bw sw; omega
  have t0 : (0 : Int) ≤ (j : Int) := by omega
  have t1 : (j : Int) < (A.wn : Int) := by omega
  have HC := hide (context_calls P S A D k N w2.drew (hm2.below (Below.refl _ _).drew).y HH.out.ac hk HEA.out)
  have HS0 : Hid (w2.drew.cell? ⟨w.heap.size, 1, none⟩ = some (.int .i64 (ia : Int)) ∧ w2.drew.cell? ⟨N, k * 3, none⟩ = some (.slice (some ⟨b, 0, none⟩) 8 lc) ∧ w2.drew.cell? ⟨P, 3, none⟩ = some (.slice (some ⟨bw, 0, none⟩) A.wn A.wc) ∧ w2.drew.cell? ⟨bw, j * 2, none⟩ = some (.int .i64 (gw D.ws j).1)) := ⟨k1, d0, y3, r0⟩
  have HB12 := hide (B12.mono (S' := fun q => S q ∨ q = P) (fun q e => .inr e))
  clear hm2 ho2 B12 B1 g1 HA i1 c0 rA qA k1 d0 y3
  go_wp2_with fail
  go_region_held2 (fun X => X.cell? ⟨w.heap.size, 1, none⟩ = some (.int .i64 (ia : Int)) ∧ X.cell? ⟨N, k * 3, none⟩ = some (.slice (some ⟨b, 0, none⟩) 8 lc) ∧ X.cell? ⟨P, 3, none⟩ = some (.slice (some ⟨bw, 0, none⟩) A.wn A.wc) ∧ X.cell? ⟨bw, j * 2, none⟩ = some (.int .i64 (gw D.ws j).1))
    (first | with_reducible exact HS0.out | with_reducible assumption | exact c4_set (by with_reducible assumption) n0 (Ne.symm ne) (Ne.symm bP) (Ne.symm nbw) _)
    (first | (go_at_call 102; refine HC.out.mono ?_; rintro e w3 ⟨rfl, g3⟩; have hs3 : w3.cell? ⟨w.heap.size, 1, none⟩ = some (.int .i64 (ia : Int)) ∧ w3.cell? ⟨N, k * 3, none⟩ = some (.slice (some ⟨b, 0, none⟩) 8 lc) ∧ w3.cell? ⟨P, 3, none⟩ = some (.slice (some ⟨bw, 0, none⟩) A.wn A.wc) ∧ w3.cell? ⟨bw, j * 2, none⟩ = some (.int .i64 (gw D.ws j).1) := ⟨(g3.cell (p := ⟨w.heap.size, 1, none⟩) lI2).trans HS0.out.1, (g3.cell (p := ⟨N, k * 3, none⟩) lN2).trans HS0.out.2.1, (g3.cell (p := ⟨P, 3, none⟩) lP2).trans HS0.out.2.2.1, (g3.cell (p := ⟨bw, j * 2, none⟩) lw2).trans HS0.out.2.2.2⟩; have sA := (g3.cell (p := ⟨b, ia, none⟩) lb2).trans eA; have tA := (g3.frozen (p := ⟨b, ia, none⟩) lb2).trans gA; have HG := hide g3; clear g3))
  all_goals (
    have g3 := HG.out
    have M3 := HM2.out.below ((Below.refl w2.heap.size w2).drew.trans g3)
    have HO := hide ((OutS.of_below (S := S) ((Below.refl w2.heap.size w2).drew.trans g3)).setCell (p := ⟨b, ia, none⟩) (by exact sb) (.int .i64 ((gw D.ws j).1)))
    have HYR := hide (M3.y.reg hk h8 HEA.out hs3.2.1 hia (gw D.ws j).1).1
    clear g3
    go_wp2_with fail
    refine (onward_se P S A D k ia ib im 1 HH.out ((gx D.cs k).1.set ia (gw D.ws j).1) ((gx D.cs k).2.1) ((gx D.cs k).2.2) _ (by simp; exact h8) (hpc) HYR.out).mono ?_
    rintro e w3 ⟨rfl, hy3, ho3⟩
    have HY3 := hide hy3
    have HO3 := hide (HO.out.trans ho3)
    clear hy3 ho3
    go_wp2
    refine bodyPost_ret (v := .int .i64 1) (by simp [results, Tryz.results171, go_sem]) rfl ?_
    exact AcP.two HM.out HM2.out HY3.out HO3.out HB12.out)

set_option maxRecDepth 100000 in
set_option maxHeartbeats 2000000 in
theorem store0_calls (P : Nat) (S : Nat → Prop) (A : SA) (D : SD) (k ia ib : Nat) (ms cl im : Int) (w : World) (h : MC P S A D ms cl w) (H : AcH A D k ia ib im) (hq : plK D (wrp (gt (gx D.cs k).1 ib + im)) 2 ≠ 1) :
    Calls Tryz.prog 172 #[.pointer (some ⟨P, 0, none⟩), .agg #[.int .i64 5, .int .i64 (ia : Int), .int .i64 (ib : Int), .int .i64 im]] w (AcP P S (D) (plK D (wrp (gt (gx D.cs k).1 ib + im)) 2) (msX (plK D (wrp (gt (gx D.cs k).1 ib + im)) 2) (plT D (wrp (gt (gx D.cs k).1 ib + im))) ms) (cl) w) := by
  have h8 := H.l8
  have hia := H.hia
  have hib := H.hib
  have hk := H.hk
  have hpc := H.pc
  have a0 : (0 : Int) ≤ (ia : Int) := by omega
  have a1 : (ia : Int) < 8 := by omega
  have b0' : (0 : Int) ≤ (ib : Int) := by omega
  have b1' : (ib : Int) < 8 := by omega
  obtain ⟨W, hW⟩ : ∃ x, x = w.alloc (.cells #[.int .i64 5, .int .i64 (ia : Int), .int .i64 (ib : Int), .int .i64 im] 126) := ⟨_, rfl⟩
  have BW : Below w.heap.size w W := by rw [hW]; exact (Below.refl _ _).alloc (Nat.le_refl _) _
  have zW : W.heap.size = w.heap.size + 1 := by rw [hW]; simp
  have hPl := h.y.lt
  have lI : w.heap.size < W.heap.size := by omega
  have i0 : W.cell? ⟨w.heap.size, 0, none⟩ = some (.int .i64 5) := by rw [hW]; simp
  have i1 : W.cell? ⟨w.heap.size, 1, none⟩ = some (.int .i64 (ia : Int)) := by rw [hW]; simp
  have i2 : W.cell? ⟨w.heap.size, 2, none⟩ = some (.int .i64 (ib : Int)) := by rw [hW]; simp
  have i3 : W.cell? ⟨w.heap.size, 3, none⟩ = some (.int .i64 im) := by rw [hW]; simp
  have MW := h.below BW
  obtain ⟨N, b, lc, ea, sN, sb, ne, nP, bP, c0, c1, c2, fz, blk, f1, f2, f3⟩ := MW.y.ctx hk (by omega)
  rw [h8] at c0
  have lN := World.block_lt_of_cell? _ _ c0
  have lb : b < W.heap.size := blk.1
  have HM := hide h
  have HMW := hide MW
  have HH := hide H
  have HW := hide hW
  have HEA := hide ea
  have HPL := hide (place_calls P S A D k ia ib ms cl 5 im W MW H)
  have rA := blk.2.1 ia (by omega)
  have qA := blk.2.2 ia
  have hfc := H.fc
  clear h H MW ea hW f1 f2 f3 blk fz i0 i2 i3 c1 c2
  obtain ⟨p, hpp⟩ : ∃ p, p = wrp (gt (gx D.cs k).1 ib + im) := ⟨_, rfl⟩
  rw [← hpp] at HPL hq ⊢
  clear hpp
  go_enter Tryz.func172, Tryz.ntmps172
  go_wp2_with fail
  rw [← HW.out]
  refine HPL.out.mono ?_
  rintro e w1 ⟨rfl, g1⟩
  have B1 := BW.trans (g1.mono (by omega))
  have HA := hide (askWord_calls P S A D ms cl p 2 w1 (HMW.out.below g1) hfc (by omega))
  clear HPL HW
  go_wp2_with fail
  refine HA.out.mono ?_
  rintro e w2 ⟨rfl, hm2, ho2⟩
  obtain ⟨kd, hkd⟩ : ∃ y, y = plK D p 2 := ⟨_, rfl⟩
  rw [← hkd] at hq hm2 ⊢
  have HKD := hide hkd
  clear hkd
  have hne : (kd != 1) = true := by simpa using hq
  have HM2 := hide hm2
  have HO2 := hide ((OutS.of_below (S := fun q => S q ∨ q = P) B1).trans (ho2.mono (fun q e => .inr e)))
  clear hm2 ho2
  go_wp2
  refine bodyPost_ret (v := .int .i64 kd) (by simp [results, Tryz.results172, go_sem]) rfl ?_
  rw [← HKD.out]
  exact AcP.same HM.out HM2.out HO2.out

set_option maxRecDepth 100000 in
set_option maxHeartbeats 2000000 in
theorem store1_calls (P : Nat) (S : Nat → Prop) (A : SA) (D : SD) (k ia ib : Nat) (ms cl im : Int) (w : World) (h : MC P S A D ms cl w) (H : AcH A D k ia ib im) (j : Nat) (hp : wrp (gt (gx D.cs k).1 ib + im) = (j : Int)) (hq : plK D (j : Int) 2 = 1) (hS : ∀ q, S q → q < w.heap.size) :
    Calls Tryz.prog 172 #[.pointer (some ⟨P, 0, none⟩), .agg #[.int .i64 5, .int .i64 (ia : Int), .int .i64 (ib : Int), .int .i64 im]] w (AcP P S (seX { D with ws := D.ws.set j (gt (gx D.cs k).1 ia, (gw D.ws j).2) } k (gx D.cs k).1 (wrp ((gx D.cs k).2.1 + 1)) (gx D.cs k).2.2) 1 (ms) (cl) w) := by
  have h8 := H.l8
  have hia := H.hia
  have hib := H.hib
  have hk := H.hk
  have hpc := H.pc
  have a0 : (0 : Int) ≤ (ia : Int) := by omega
  have a1 : (ia : Int) < 8 := by omega
  have b0' : (0 : Int) ≤ (ib : Int) := by omega
  have b1' : (ib : Int) < 8 := by omega
  obtain ⟨W, hW⟩ : ∃ x, x = w.alloc (.cells #[.int .i64 5, .int .i64 (ia : Int), .int .i64 (ib : Int), .int .i64 im] 126) := ⟨_, rfl⟩
  have BW : Below w.heap.size w W := by rw [hW]; exact (Below.refl _ _).alloc (Nat.le_refl _) _
  have zW : W.heap.size = w.heap.size + 1 := by rw [hW]; simp
  have hPl := h.y.lt
  have lI : w.heap.size < W.heap.size := by omega
  have i0 : W.cell? ⟨w.heap.size, 0, none⟩ = some (.int .i64 5) := by rw [hW]; simp
  have i1 : W.cell? ⟨w.heap.size, 1, none⟩ = some (.int .i64 (ia : Int)) := by rw [hW]; simp
  have i2 : W.cell? ⟨w.heap.size, 2, none⟩ = some (.int .i64 (ib : Int)) := by rw [hW]; simp
  have i3 : W.cell? ⟨w.heap.size, 3, none⟩ = some (.int .i64 im) := by rw [hW]; simp
  have MW := h.below BW
  obtain ⟨N, b, lc, ea, sN, sb, ne, nP, bP, c0, c1, c2, fz, blk, f1, f2, f3⟩ := MW.y.ctx hk (by omega)
  rw [h8] at c0
  have lN := World.block_lt_of_cell? _ _ c0
  have lb : b < W.heap.size := blk.1
  have HM := hide h
  have HMW := hide MW
  have HH := hide H
  have HW := hide hW
  have HEA := hide ea
  have hlw := MW.y.y.oy.rs.len.2.2.2.1
  have hj : j < A.wn := by have := plK_one hq; omega
  have HP := hide hp
  clear hp
  have HPL := hide (place_calls P S A D k ia ib ms cl 5 im W MW H)
  have rA := blk.2.1 ia (by omega)
  have qA := blk.2.2 ia
  have hfc := H.fc
  clear h H MW ea hW f1 f2 f3 blk fz i0 i2 i3 c1 c2
  obtain ⟨p, hpp⟩ : ∃ p, p = wrp (gt (gx D.cs k).1 ib + im) := ⟨_, rfl⟩
  rw [← hpp] at HPL
  rw [HP.out] at hpp
  subst hpp
  go_enter Tryz.func172, Tryz.ntmps172
  go_wp2_with fail
  rw [← HW.out]
  refine HPL.out.mono ?_
  rintro e w1 ⟨rfl, g1⟩
  have B1 := BW.trans (g1.mono (by omega))
  have HA := hide (askWord_calls P S A D ms cl (j : Int) 2 w1 (HMW.out.below g1) hfc (by omega))
  clear HPL HW
  go_wp2_with fail
  refine HA.out.mono ?_
  rintro e w2 ⟨rfl, hm2, ho2⟩
  rw [hq] at hm2 ⊢
  have hm2 : MC P S A D ms cl w2 := hm2
  have HM2 := hide hm2
  have B12 := (OutS.of_below (S := fun q => q = P) B1).trans ho2
  have z1 := g1.size
  have z2 := ho2.size
  have nN1 : N ≠ P := nP
  have lI2 : w.heap.size < w2.heap.size := by omega
  have lN2 : N < w2.heap.size := by omega
  have lb2 : b < w2.heap.size := by omega
  have lP2 : P < w2.heap.size := by omega
  have k1 := (World.cell?_of_block (a := ⟨w.heap.size, 1, none⟩) (ho2.block w.heap.size (by omega) (fun e => by omega))).trans ((g1.cell (p := ⟨w.heap.size, 1, none⟩) lI).trans i1)
  have d0 := (World.cell?_of_block (a := ⟨N, k * 3, none⟩) (ho2.block N (by omega) nP)).trans ((g1.cell (p := ⟨N, k * 3, none⟩) lN).trans c0)
  have eA := (World.cell?_of_block (a := ⟨b, ia, none⟩) (ho2.block b (by omega) bP)).trans ((g1.cell (p := ⟨b, ia, none⟩) lb).trans rA)
  have gA := (World.frozen?_of_block (a := ⟨b, ia, none⟩) (ho2.block b (by omega) bP)).trans ((g1.frozen (p := ⟨b, ia, none⟩) lb).trans qA)
  obtain ⟨bw, ew, sw, nwP, lw2, r0, r1, rf, _⟩ := hm2.y.word hj
  have nbw := (hm2.y.apart hk (by omega) hj HEA.out d0 ew).1
  have nNw := (hm2.y.apart hk (by omega) hj HEA.out d0 ew).2
  have y3 := hm2.y.cs.cell 3 rfl
  simp only [Nat.zero_add] at y3
  rw [ew] at y3
  have n0 : w.heap.size ≠ b := fun e => by have := hS b sb; omega
  have n1 : w.heap.size ≠ bw := fun e => by have := hS bw sw; omega
  have t0 : (0 : Int) ≤ (j : Int) := by omega
  have t1 : (j : Int) < (A.wn : Int) := by omega
  have HC := hide (context_calls P S A D k N w2.drew (hm2.below (Below.refl _ _).drew).y HH.out.ac hk HEA.out)
  have HS0 : Hid (w2.drew.cell? ⟨w.heap.size, 1, none⟩ = some (.int .i64 (ia : Int)) ∧ w2.drew.cell? ⟨N, k * 3, none⟩ = some (.slice (some ⟨b, 0, none⟩) 8 lc) ∧ w2.drew.cell? ⟨P, 3, none⟩ = some (.slice (some ⟨bw, 0, none⟩) A.wn A.wc) ∧ w2.drew.cell? ⟨b, ia, none⟩ = some (.int .i64 (gt (gx D.cs k).1 ia))) := ⟨k1, d0, y3, eA⟩
  have HB12 := hide (B12.mono (S' := fun q => S q ∨ q = P) (fun q e => .inr e))
  clear hm2 ho2 B12 B1 g1 HA i1 c0 rA qA k1 d0 y3
  go_wp2_with fail
  go_region_held2 (fun X => X.cell? ⟨w.heap.size, 1, none⟩ = some (.int .i64 (ia : Int)) ∧ X.cell? ⟨N, k * 3, none⟩ = some (.slice (some ⟨b, 0, none⟩) 8 lc) ∧ X.cell? ⟨P, 3, none⟩ = some (.slice (some ⟨bw, 0, none⟩) A.wn A.wc) ∧ X.cell? ⟨b, ia, none⟩ = some (.int .i64 (gt (gx D.cs k).1 ia)))
    (first | with_reducible exact HS0.out | with_reducible assumption | exact c4_set (by with_reducible assumption) n1 nNw (Ne.symm nwP) nbw _)
    (first | (go_at_call 102; refine HC.out.mono ?_; rintro e w3 ⟨rfl, g3⟩; have hs3 : w3.cell? ⟨w.heap.size, 1, none⟩ = some (.int .i64 (ia : Int)) ∧ w3.cell? ⟨N, k * 3, none⟩ = some (.slice (some ⟨b, 0, none⟩) 8 lc) ∧ w3.cell? ⟨P, 3, none⟩ = some (.slice (some ⟨bw, 0, none⟩) A.wn A.wc) ∧ w3.cell? ⟨b, ia, none⟩ = some (.int .i64 (gt (gx D.cs k).1 ia)) := ⟨(g3.cell (p := ⟨w.heap.size, 1, none⟩) lI2).trans HS0.out.1, (g3.cell (p := ⟨N, k * 3, none⟩) lN2).trans HS0.out.2.1, (g3.cell (p := ⟨P, 3, none⟩) lP2).trans HS0.out.2.2.1, (g3.cell (p := ⟨b, ia, none⟩) lb2).trans HS0.out.2.2.2⟩; have sA := (g3.cell (p := ⟨bw, j * 2, none⟩) lw2).trans r0; have tA := (g3.frozen (p := ⟨bw, j * 2, none⟩) lw2).trans (rf (j * 2)); have HG := hide g3; clear g3))
  all_goals (
    have g3 := HG.out
    have M3 := HM2.out.below ((Below.refl w2.heap.size w2).drew.trans g3)
    have HO := hide ((OutS.of_below (S := S) ((Below.refl w2.heap.size w2).drew.trans g3)).setCell (p := ⟨bw, j * 2, none⟩) (by exact sw) (.int .i64 (gt (gx D.cs k).1 ia)))
    have HH1 : Hid (AcH A { D with ws := D.ws.set j (gt (gx D.cs k).1 ia, (gw D.ws j).2) } k ia ib im) := ⟨HH.out.ac, HH.out.hk, HH.out.l8, HH.out.rg, HH.out.pc, HH.out.hia, HH.out.hib, HH.out.him, HH.out.fc, HH.out.hl⟩
    have HYR : Hid (YM P 0 S A (seX { D with ws := D.ws.set j (gt (gx D.cs k).1 ia, (gw D.ws j).2) } k (gx D.cs k).1 (gx D.cs k).2.1 (gx D.cs k).2.2) (w3.setCell ⟨bw, j * 2, none⟩ (.int .i64 (gt (gx D.cs k).1 ia)))) := by
      show YM P 0 S A (seX { D with ws := D.ws.set j (gt (gx D.cs k).1 ia, (gw D.ws j).2) } k (gx D.cs k).1 (gx D.cs k).2.1 (gx D.cs k).2.2) _
      rw [se_same (D := { D with ws := D.ws.set j (gt (gx D.cs k).1 ia, (gw D.ws j).2) }) HH.out.hl]
      exact (M3.y.wset hj ew (gt (gx D.cs k).1 ia)).1
    clear g3
    go_wp2_with fail
    refine (onward_se P S A { D with ws := D.ws.set j (gt (gx D.cs k).1 ia, (gw D.ws j).2) } k ia ib im 1 HH1.out ((gx D.cs k).1) ((gx D.cs k).2.1) ((gx D.cs k).2.2) _ (h8) (hpc) HYR.out).mono ?_
    rintro e w3 ⟨rfl, hy3, ho3⟩
    have HY3 := hide hy3
    have HO3 := hide (HO.out.trans ho3)
    clear hy3 ho3
    go_wp2
    refine bodyPost_ret (v := .int .i64 1) (by simp [results, Tryz.results172, go_sem]) rfl ?_
    exact AcP.two HM.out HM2.out HY3.out HO3.out HB12.out)

end Go.Proofs.YtcojgmecocjnkaaGreat
