import Derived.Test.YtcojgmecocjnkaaGreatG54
import Derived.WalkKit
import Derived.ProofKit
import Derived.OpenShut
import Derived.ShutString
import Derived.ChangeOld
import Derived.Below
import Derived.WalkSpells
import Derived.Deep.QuietTactic
import Derived.BigQuiet
import Derived.Deep.RegionWith
import Derived.Deep.WholeRow
import Derived.Deep.DeepCutAuto
import Derived.Deep.RegionHeld2
import Derived.Deep.AppendLies
import Derived.Deep.RegionLaw
namespace Go.Proofs.YtcojgmecocjnkaaGreat
open Go.ChangeShapes Go.WideShapes Go.ChangeAt Go.RowKit

set_option maxRecDepth 100000 in
set_option maxHeartbeats 2000000 in
theorem out0_calls (P : Nat) (S : Nat → Prop) (A : SA) (D : SD) (k ia ib : Nat) (ms cl im : Int) (w : World) (h : MC P S A D ms cl w) (H : AcH A D k ia ib im) (hq : 40 ≤ A.on) :
    Calls Tryz.prog 175 #[.pointer (some ⟨P, 0, none⟩), .agg #[.int .i64 9, .int .i64 (ia : Int), .int .i64 (ib : Int), .int .i64 im]] w (AcP P S (D) 3 (ms) (cl) w) := by
  have h8 := H.l8
  have hia := H.hia
  have hib := H.hib
  have hk := H.hk
  have hpc := H.pc
  have a0 : (0 : Int) ≤ (ia : Int) := by omega
  have a1 : (ia : Int) < 8 := by omega
  have b0' : (0 : Int) ≤ (ib : Int) := by omega
  have b1' : (ib : Int) < 8 := by omega
  obtain ⟨W, hW⟩ : ∃ x, x = w.alloc (.cells #[.int .i64 9, .int .i64 (ia : Int), .int .i64 (ib : Int), .int .i64 im] 126) := ⟨_, rfl⟩
  have BW : Below w.heap.size w W := by rw [hW]; exact (Below.refl _ _).alloc (Nat.le_refl _) _
  have zW : W.heap.size = w.heap.size + 1 := by rw [hW]; simp
  have hPl := h.y.lt
  have lI : w.heap.size < W.heap.size := by omega
  have i0 : W.cell? ⟨w.heap.size, 0, none⟩ = some (.int .i64 9) := by rw [hW]; simp
  have i1 : W.cell? ⟨w.heap.size, 1, none⟩ = some (.int .i64 (ia : Int)) := by rw [hW]; simp
  have i2 : W.cell? ⟨w.heap.size, 2, none⟩ = some (.int .i64 (ib : Int)) := by rw [hW]; simp
  have i3 : W.cell? ⟨w.heap.size, 3, none⟩ = some (.int .i64 im) := by rw [hW]; simp
  have MW := h.below BW
  obtain ⟨N, b, lc, ea, sN, sb, ne, nP, bP, c0, c1, c2, fz, blk, f1, f2, f3⟩ := MW.y.ctx hk (by omega)
  rw [h8] at c0
  have lN := World.block_lt_of_cell? _ _ c0
  have lb : b < W.heap.size := blk.1
  have HM := hide h
  have HMW := hide MW
  have HH := hide H
  have HW := hide hW
  have HEA := hide ea
  have x9 := MW.y.cs.cell 9 rfl
  have x8 := MW.y.cs.cell 8 rfl
  simp only [Nat.zero_add] at x9 x8
  have hol := MW.y.y.oy.rs.len.2.2.2.2.2.2.1
  have rA := blk.2.1 ia (by omega)
  have hfc := H.fc
  have hq' : (40 : Int) ≤ (A.on : Int) := by omega
  clear h H MW ea hW f1 f2 f3 blk fz i0 i2 i3 c1 c2
  go_enter Tryz.func175, Tryz.ntmps175
  go_upto_region 1 with fail
  rw [← HW.out]
  go_wp2
  refine bodyPost_ret (v := .int .i64 3) (by simp [results, Tryz.results175, go_sem]) rfl ?_
  exact AcP.same HM.out HMW.out (OutS.of_below BW)

set_option maxRecDepth 100000 in
set_option maxHeartbeats 2000000 in
theorem out1_calls (P : Nat) (S : Nat → Prop) (A : SA) (D : SD) (k ia ib : Nat) (ms cl im : Int) (w : World) (h : MC P S A D ms cl w) (H : AcH A D k ia ib im) (hq : ¬ 40 ≤ A.on) (hk1 : askK D D.dv 2 ≠ 1) :
    Calls Tryz.prog 175 #[.pointer (some ⟨P, 0, none⟩), .agg #[.int .i64 9, .int .i64 (ia : Int), .int .i64 (ib : Int), .int .i64 im]] w (AcP P S (D) (askK D D.dv 2) (msX (askK D D.dv 2) D.dv ms) (cl) w) := by
  have h8 := H.l8
  have hia := H.hia
  have hib := H.hib
  have hk := H.hk
  have hpc := H.pc
  have a0 : (0 : Int) ≤ (ia : Int) := by omega
  have a1 : (ia : Int) < 8 := by omega
  have b0' : (0 : Int) ≤ (ib : Int) := by omega
  have b1' : (ib : Int) < 8 := by omega
  obtain ⟨W, hW⟩ : ∃ x, x = w.alloc (.cells #[.int .i64 9, .int .i64 (ia : Int), .int .i64 (ib : Int), .int .i64 im] 126) := ⟨_, rfl⟩
  have BW : Below w.heap.size w W := by rw [hW]; exact (Below.refl _ _).alloc (Nat.le_refl _) _
  have zW : W.heap.size = w.heap.size + 1 := by rw [hW]; simp
  have hPl := h.y.lt
  have lI : w.heap.size < W.heap.size := by omega
  have i0 : W.cell? ⟨w.heap.size, 0, none⟩ = some (.int .i64 9) := by rw [hW]; simp
  have i1 : W.cell? ⟨w.heap.size, 1, none⟩ = some (.int .i64 (ia : Int)) := by rw [hW]; simp
  have i2 : W.cell? ⟨w.heap.size, 2, none⟩ = some (.int .i64 (ib : Int)) := by rw [hW]; simp
  have i3 : W.cell? ⟨w.heap.size, 3, none⟩ = some (.int .i64 im) := by rw [hW]; simp
  have MW := h.below BW
  obtain ⟨N, b, lc, ea, sN, sb, ne, nP, bP, c0, c1, c2, fz, blk, f1, f2, f3⟩ := MW.y.ctx hk (by omega)
  rw [h8] at c0
  have lN := World.block_lt_of_cell? _ _ c0
  have lb : b < W.heap.size := blk.1
  have HM := hide h
  have HMW := hide MW
  have HH := hide H
  have HW := hide hW
  have HEA := hide ea
  have x9 := MW.y.cs.cell 9 rfl
  have x8 := MW.y.cs.cell 8 rfl
  simp only [Nat.zero_add] at x9 x8
  have hol := MW.y.y.oy.rs.len.2.2.2.2.2.2.1
  have rA := blk.2.1 ia (by omega)
  have hfc := H.fc
  have hq' : ¬ (40 : Int) ≤ (A.on : Int) := by omega
  have HA := hide (ask_calls P S A D ms cl D.dv 2 W MW hfc (by omega))
  clear h H MW ea hW f1 f2 f3 blk fz i0 i2 i3 c1 c2
  go_enter Tryz.func175, Tryz.ntmps175
  go_upto_region 1 with fail
  rw [← HW.out]
  go_wp2_with fail
  refine HA.out.mono ?_
  rintro e w2 ⟨rfl, hm2, ho2⟩
  obtain ⟨kd, hkd⟩ : ∃ y, y = askK D D.dv 2 := ⟨_, rfl⟩
  rw [← hkd] at hk1 hm2 ⊢
  have HKD := hide hkd
  clear hkd
  have hne : (kd != 1) = true := by simpa using hk1
  have HM2 := hide hm2
  have HO2 := hide ((OutS.of_below (S := fun q => S q ∨ q = P) BW).trans (ho2.mono (fun q e => .inr e)))
  clear hm2 ho2
  go_wp2
  refine bodyPost_ret (v := .int .i64 kd) (by simp [results, Tryz.results175, go_sem]) rfl ?_
  rw [← HKD.out]
  exact AcP.same HM.out HM2.out HO2.out

set_option maxRecDepth 100000 in
set_option maxHeartbeats 8000000 in
theorem out2_calls (P : Nat) (S : Nat → Prop) (A : SA) (D : SD) (k ia ib : Nat) (ms cl im : Int) (w : World) (h : MC P S A D ms cl w) (H : AcH A D k ia ib im) (hq : ¬ 40 ≤ A.on) (hk1 : askK D D.dv 2 = 1) (hS : ∀ q, S q → q < w.heap.size) (hsz : szY A D + 1 ≤ 1048576) :
    Calls Tryz.prog 175 #[.pointer (some ⟨P, 0, none⟩), .agg #[.int .i64 9, .int .i64 (ia : Int), .int .i64 (ib : Int), .int .i64 im]] w (AcP P S (seX { D with os := D.os ++ [gt (gx D.cs k).1 ia] } k (gx D.cs k).1 (wrp ((gx D.cs k).2.1 + 1)) (gx D.cs k).2.2) 1 (ms) (cl) w) := by
  have h8 := H.l8
  have hia := H.hia
  have hib := H.hib
  have hk := H.hk
  have hpc := H.pc
  have a0 : (0 : Int) ≤ (ia : Int) := by omega
  have a1 : (ia : Int) < 8 := by omega
  have b0' : (0 : Int) ≤ (ib : Int) := by omega
  have b1' : (ib : Int) < 8 := by omega
  obtain ⟨W, hW⟩ : ∃ x, x = w.alloc (.cells #[.int .i64 9, .int .i64 (ia : Int), .int .i64 (ib : Int), .int .i64 im] 126) := ⟨_, rfl⟩
  have BW : Below w.heap.size w W := by rw [hW]; exact (Below.refl _ _).alloc (Nat.le_refl _) _
  have zW : W.heap.size = w.heap.size + 1 := by rw [hW]; simp
  have hPl := h.y.lt
  have lI : w.heap.size < W.heap.size := by omega
  have i0 : W.cell? ⟨w.heap.size, 0, none⟩ = some (.int .i64 9) := by rw [hW]; simp
  have i1 : W.cell? ⟨w.heap.size, 1, none⟩ = some (.int .i64 (ia : Int)) := by rw [hW]; simp
  have i2 : W.cell? ⟨w.heap.size, 2, none⟩ = some (.int .i64 (ib : Int)) := by rw [hW]; simp
  have i3 : W.cell? ⟨w.heap.size, 3, none⟩ = some (.int .i64 im) := by rw [hW]; simp
  have MW := h.below BW
  obtain ⟨N, b, lc, ea, sN, sb, ne, nP, bP, c0, c1, c2, fz, blk, f1, f2, f3⟩ := MW.y.ctx hk (by omega)
  rw [h8] at c0
  have lN := World.block_lt_of_cell? _ _ c0
  have lb : b < W.heap.size := blk.1
  have HM := hide h
  have HMW := hide MW
  have HH := hide H
  have HW := hide hW
  have HEA := hide ea
  have x9 := MW.y.cs.cell 9 rfl
  have x8 := MW.y.cs.cell 8 rfl
  simp only [Nat.zero_add] at x9 x8
  have hol := MW.y.y.oy.rs.len.2.2.2.2.2.2.1
  have rA := blk.2.1 ia (by omega)
  have hfc := H.fc
  have hq' : ¬ (40 : Int) ≤ (A.on : Int) := by omega
  have HA := hide (ask_calls P S A D ms cl D.dv 2 W MW hfc (by omega))
  clear h H MW ea hW f1 f2 f3 blk fz i0 i2 i3 c1 c2
  go_enter Tryz.func175, Tryz.ntmps175
  go_upto_region 1 with fail
  rw [← HW.out]
  go_wp2_with fail
  refine HA.out.mono ?_
  rintro e w2 ⟨rfl, hm2, ho2⟩
  rw [hk1] at hm2 ⊢
  have hm2 : MC P S A D ms cl w2 := hm2
  have HM2 := hide hm2
  have z2 := ho2.size
  have lI2 : w.heap.size < w2.heap.size := by omega
  have lN2 : N < w2.heap.size := by omega
  have lb2 : b < w2.heap.size := by omega
  have lP2 : P < w2.heap.size := by omega
  have k1 := (World.cell?_of_block (a := ⟨w.heap.size, 1, none⟩) (ho2.block w.heap.size (by omega) (fun e => by omega))).trans i1
  have d0 := (World.cell?_of_block (a := ⟨N, k * 3, none⟩) (ho2.block N (by omega) nP)).trans c0
  have eA := (World.cell?_of_block (a := ⟨b, ia, none⟩) (ho2.block b (by omega) bP)).trans rA
  have y9 := hm2.y.cs.cell 9 rfl
  simp only [Nat.zero_add] at y9
  have HC := hide (context_calls P S A D k N w2.drew (hm2.below (Below.refl _ _).drew).y HH.out.ac hk HEA.out)
  have HB12 := hide (((OutS.of_below (S := fun q => q = P) BW).trans ho2).mono (S' := fun q => S q ∨ q = P) (fun q e => .inr e))
  have hon : A.on + 1 ≤ 1048576 := by unfold szY at hsz; omega
  obtain ⟨z0, hi, hz0, hzz1, hzz2⟩ := info_parts info2
  clear hm2 ho2 HA i1 c0 rA x9 x8
  go_wp2_with fail
  go_cut [39] (fun v wd => (∃ B : SA, YM P 0 (fun q => S q ∨ (w2.heap.size ≤ q ∧ q < wd.heap.size)) B ({ D with os := D.os ++ [gt (gx D.cs k).1 ia] }) wd ∧ B.xn = A.xn) ∧ wd.cell? ⟨P, 11, none⟩ = some (.int .i64 ms) ∧ wd.cell? ⟨P, 12, none⟩ = some (.int .i64 cl) ∧ OutS (fun q => S q ∨ q = P) w2 wd)
  case first =>
    go_region_law (first
      | (refine step_append_lies _ rfl _ _ 25 rfl 0 2 z0 (.int .i64 0) 1 8 Tryz.underlying25 hi hz0 hzz1 hzz2 rfl (by decide) (.slice A.oa A.on A.oc) A.on (D.os.map (Value.int .i64)) rfl HW3.out ⟨w3.heap.size, 0, none⟩ 1 1 [.int .i64 (gt (gx D.cs k).1 ia)] rfl rfl (one_new (by go_simp)) (by simp [Value.oneCell']) (by omega) (by unfold maxLen; omega) (by omega) (Nat.zero_le _) (w3.heap.size + 1) (by simp) ?_; intro g cp w5 hown5 hgrow hat hlt5; obtain ⟨e9, f9, e8, Y5, u5, u6, k5⟩ := M3.out.y.app hsz (fun q e => by have := hS q e; simp; omega) hgrow (by rw [World.size_alloc]; exact hat) hown5; have pb := hgrow.block P (by simp; omega) (fun e => M3.out.y.ns (M3.out.y.own e.symm)); simp only [Nat.zero_add] at e9 f9; have HY5 := hide Y5; have HU5 := hide u5; have HP5 := hide pb; have HZ5 := hide hgrow.size; clear Y5 u5 u6 k5 e8 hown5 hgrow hat pb)
      | (go_simp; go_at_call 102; refine HC.out.mono ?_; rintro e w3 ⟨rfl, g3⟩; have z3 := g3.size; simp only [World.size_drew] at z3; have k1' := (g3.cell (p := ⟨w.heap.size, 1, none⟩) lI2).trans k1; have d0' := (g3.cell (p := ⟨N, k * 3, none⟩) lN2).trans d0; have eA' := (g3.cell (p := ⟨b, ia, none⟩) lb2).trans eA; have y9' := (g3.cell (p := ⟨P, 9, none⟩) lP2).trans y9; have B3 : Below w2.heap.size w2 w3 := (Below.refl _ _).drew.trans g3; have HB3 := hide B3; have M3 := hide ((HM2.out.below B3).below ((Below.refl w3.heap.size w3).alloc (Nat.le_refl _) (.cells #[.int .i64 (gt (gx D.cs k).1 ia)] 2))); have HW3 : Hid ((w3.alloc (.cells #[.int .i64 (gt (gx D.cs k).1 ia)] 2)).ownsRow 0 2 1 (.slice A.oa A.on A.oc) A.on (D.os.map (Value.int .i64))) := (by obtain ⟨Q, _, _, _, _, _, q6⟩ := M3.out.y.y; exact q6.1.2.1); have y9'' := (Below.cell ((Below.refl w3.heap.size w3).alloc (Nat.le_refl _) (.cells #[.int .i64 (gt (gx D.cs k).1 ia)] 2)) (p := ⟨P, 9, none⟩) (by show P < w3.heap.size; omega)).trans y9'; clear g3 B3))
    all_goals go_wp2_with fail
    all_goals go_meet
    all_goals (
      have z5 := HZ5.out
      simp only [World.size_alloc] at z5
      refine ⟨⟨_, HY5.out.mono (fun q e => ?_) (fun e => by rcases e with e | e; exact HM2.out.y.ns e; omega), rfl⟩, ?_, ?_, ?_⟩
      · rcases e with e | e
        · exact .inl e
        · refine .inr ⟨?_, ?_⟩
          · have := e.1; simp only [World.size_alloc] at this; omega
          · have := e.2; simpa using this
      · rw [World.cell?_setCell_other _ _ _ _ (fun e => by injection e with _ e2; omega)]
        exact (World.cell?_of_block (a := ⟨P, 11, none⟩) HP5.out).trans M3.out.m
      · rw [World.cell?_setCell_other _ _ _ _ (fun e => by injection e with _ e2; omega)]
        exact (World.cell?_of_block (a := ⟨P, 12, none⟩) HP5.out).trans M3.out.c
      · exact (OutS.of_below (HB3.out.trans (((Below.refl w3.heap.size w3).alloc (Nat.le_refl _) _).mono z3))).trans HU5.out)
  case rest =>
  obtain ⟨⟨B, hy4, hBx⟩, m4, c4, ho4⟩ := hcut
  obtain ⟨w4, rfl⟩ : ∃ x, x = wc := ⟨wc, rfl⟩
  have z4 := ho4.size
  have HBX := hide hBx
  have HH1 : Hid (AcH B ({ D with os := D.os ++ [gt (gx D.cs k).1 ia] }) k ia ib im) := ⟨HH.out.ac, by rw [HBX.out]; exact HH.out.hk, HH.out.l8, HH.out.rg, HH.out.pc, HH.out.hia, HH.out.hib, HH.out.him, HH.out.fc, HH.out.hl⟩
  have HYR : Hid (YM P 0 (fun q => S q ∨ (w2.heap.size ≤ q ∧ q < w4.heap.size)) B (seX ({ D with os := D.os ++ [gt (gx D.cs k).1 ia] }) k (gx D.cs k).1 (gx D.cs k).2.1 (gx D.cs k).2.2) w4) := by
    show YM P 0 _ B (seX ({ D with os := D.os ++ [gt (gx D.cs k).1 ia] }) k (gx D.cs k).1 (gx D.cs k).2.1 (gx D.cs k).2.2) w4
    rw [se_same (D := { D with os := D.os ++ [gt (gx D.cs k).1 ia] }) HH.out.hl]
    exact hy4
  have HMC : Hid (MC P (fun q => S q ∨ (w2.heap.size ≤ q ∧ q < w4.heap.size)) B ({ D with os := D.os ++ [gt (gx D.cs k).1 ia] }) ms cl w4) := ⟨hy4, m4, c4⟩
  have HO4 := hide (HB12.out.trans ho4)
  clear hy4 m4 c4 ho4 hBx
  go_wp2_with fail
  refine (onward_se P _ B ({ D with os := D.os ++ [gt (gx D.cs k).1 ia] }) k ia ib im 1 HH1.out (gx D.cs k).1 ((gx D.cs k).2.1) ((gx D.cs k).2.2) _ h8 hpc HYR.out).mono ?_
  rintro e w6 ⟨rfl, hy6, ho6⟩
  have z6 := ho6.size
  have HM6 := hide (HMC.out.out hy6 ho6)
  have HO6 := hide ho6
  clear hy6 ho6
  go_wp2
  refine bodyPost_ret (v := .int .i64 1) (by simp [results, Tryz.results175, go_sem]) rfl ?_
  refine ⟨rfl, ⟨B, HM6.out.y.mono (fun q e => ?_) (fun e => by rcases e with e | e; exact HM.out.y.ns e; omega), HM6.out.m, HM6.out.c⟩, ?_⟩
  · rcases e with e | e
    · exact .inl e
    · exact .inr ⟨by omega, by have := e.2; omega⟩
  · exact ⟨HO6.out.os.trans HO4.out.os, HO6.out.tape.trans HO4.out.tape, HO6.out.output.trans HO4.out.output, Nat.le_trans HO4.out.size HO6.out.size, fun q hq hn => (HO6.out.block q (by have := HO4.out.size; omega) (fun e => by rcases e with e | e; exact hn (.inl e); omega)).trans (HO4.out.block q hq hn)⟩

end Go.Proofs.YtcojgmecocjnkaaGreat
