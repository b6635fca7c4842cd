import Derived.Test.YtcojgmecocjnkaaGreatG46
import Derived.WalkKit
import Derived.ProofKit
import Derived.OpenShut
import Derived.ShutString
import Derived.ChangeOld
import Derived.Below
import Derived.WalkSpells
import Derived.Deep.QuietTactic
import Derived.BigQuiet
import Derived.Deep.RegionWith
import Derived.Deep.WholeRow
import Derived.Deep.DeepCutAuto
import Derived.Deep.RegionHeld2
import Derived.Deep.AppendLies
import Derived.Deep.RegionLaw
namespace Go.Proofs.YtcojgmecocjnkaaGreat
open Go.ChangeShapes Go.WideShapes Go.ChangeAt Go.RowKit

set_option maxRecDepth 100000 in
set_option maxHeartbeats 8000000 in
theorem l7Try_done4 (A : SA) (D : SD) (k : Nat) (w : World) (hr : RS w A D) (H : SysR A D k) (hh : (gx D.cs k).2.2 = false) (h0 : plK D (gx D.cs k).2.1 4 = 1) (hq : kdX D k = 4) :
    Calls Tryz.prog 35 #[.agg #[.slice A.a A.n A.c, .slice A.ta A.tn A.tc, .slice A.da A.dn A.dc, .slice A.wa A.wn A.wc, .slice A.xa A.xn A.xc, .int .i64 D.ac, .int .i64 D.cz, .slice A.la A.ln A.lc, .int .i64 D.dv, .slice A.oa A.on A.oc, .slice A.ga A.gn A.gc]] w fun e w' => ∃ B : SA, e = .returned (.agg #[.int .i64 0, .int .i64 (tyK D k), .int .i64 (tyT D k), .int .i64 (tyC D k), .slice B.a B.n B.c, .slice B.ta B.tn B.tc, .slice B.da B.dn B.dc, .slice B.wa B.wn B.wc, .slice B.xa B.xn B.xc, .int .i64 (tyD D k).ac, .int .i64 (tyD D k).cz, .slice B.la B.ln B.lc, .int .i64 (tyD D k).dv, .slice B.oa B.on B.oc, .slice B.ga B.gn B.gc]) ∧ OYR (InR w.heap.size w'.heap.size) B (tyD D k) w' ∧ Below w.heap.size w w' := by
  have hz : szY A D ≤ 1048576 := by have := H.small hr; omega
  have hk := H.hk
  have hxd := H.xd
  obtain ⟨h8, hrg, hp0, hp1⟩ := H.cx k hk
  obtain ⟨bx, off, hax, hbx, hcx⟩ := hr.xs.2 (by omega)
  obtain ⟨la, ll, lc, y0, y1, y2, hll, hsl⟩ := hcx k (by omega)
  have M0 := (((Mm.start w).allocC [.slice A.a A.n A.c, .slice A.ta A.tn A.tc, .slice A.da A.dn A.dc, .slice A.wa A.wn A.wc, .slice A.xa A.xn A.xc, .int .i64 D.ac, .int .i64 D.cz, .slice A.la A.ln A.lc, .int .i64 D.dv, .slice A.oa A.on A.oc, .slice A.ga A.gn A.gc] 53).allocC [.int .i64 0, .int .i64 0, .int .i64 0, .int .i64 0, .slice none 0 0, .slice none 0 0, .slice none 0 0, .slice none 0 0, .slice none 0 0, .int .i64 0, .int .i64 0, .slice none 0 0, .int .i64 0, .slice none 0 0, .slice none 0 0] 55).allocC [.int .i64 0, .int .i64 5, .int .i64 0, .int .i64 0, .slice none 0 0, .slice none 0 0, .slice none 0 0, .slice none 0 0, .slice none 0 0, .int .i64 0, .int .i64 0, .slice none 0 0, .int .i64 0, .slice none 0 0, .slice none 0 0] 55
  simp only [World.size_alloc] at M0
  obtain ⟨W, hW⟩ : ∃ x, x = ((w.alloc (.cells #[.slice A.a A.n A.c, .slice A.ta A.tn A.tc, .slice A.da A.dn A.dc, .slice A.wa A.wn A.wc, .slice A.xa A.xn A.xc, .int .i64 D.ac, .int .i64 D.cz, .slice A.la A.ln A.lc, .int .i64 D.dv, .slice A.oa A.on A.oc, .slice A.ga A.gn A.gc] 53)).alloc (.cells #[.int .i64 0, .int .i64 0, .int .i64 0, .int .i64 0, .slice none 0 0, .slice none 0 0, .slice none 0 0, .slice none 0 0, .slice none 0 0, .int .i64 0, .int .i64 0, .slice none 0 0, .int .i64 0, .slice none 0 0, .slice none 0 0] 55)).alloc (.cells #[.int .i64 0, .int .i64 5, .int .i64 0, .int .i64 0, .slice none 0 0, .slice none 0 0, .slice none 0 0, .slice none 0 0, .slice none 0 0, .int .i64 0, .int .i64 0, .slice none 0 0, .int .i64 0, .slice none 0 0, .slice none 0 0] 55) := ⟨_, rfl⟩
  have hWs : W.heap.size = w.heap.size + 3 := by rw [hW]; simp
  rw [← hW] at M0
  have BW := M0.bel
  have i0 : (0 : Int) ≤ (k : Int) := by omega
  have i1 : (k : Int) < (A.xn : Int) := by omega
  have HAC := hide H.ac
  clear hxd
  have HAX := hide hax
  clear hax hcx y0
  have HW := hide hW
  clear hW
  go_enter Tryz.func35, Tryz.ntmps35
  go_upto_region 2 with fail
  rw [← HW.out]
  have a4 := (M0.get 2 rfl).cell 4 rfl
  have a5 := (M0.get 2 rfl).cell 5 rfl
  rw [HAX.out] at a4
  rw [HAC.out] at a5
  have p1 := (BW.cell (p := ⟨bx, off + k * 3 + 1, none⟩) hbx).trans y1
  have p2 := (BW.cell (p := ⟨bx, off + k * 3 + 2, none⟩) hbx).trans y2
  have hk0 : k0X D k = 1 := (if_neg (by rw [hh]; simp)).trans h0
  have hpw := plK_one h0
  have klen := hr.len
  obtain ⟨pcN, hpc⟩ : ∃ j : Nat, (gx D.cs k).2.1 = (j : Int) := ⟨(gx D.cs k).2.1.toNat, by omega⟩
  have hpn : pcN < A.wn := by omega
  obtain ⟨bw, ow, hwa, hbw, hcw⟩ := hr.ws.2 (by omega)
  obtain ⟨x, hx⟩ : ∃ x, x = wdX D k := ⟨_, rfl⟩
  have hxw : (gw D.ws pcN).1 = x := by rw [hx]; unfold wdX; rw [hpc]; rfl
  have wx := mf_val H.mf (m := pcN) (by omega)
  rw [hxw] at wx
  obtain ⟨ia, hia⟩ : ∃ j, j = iaX D k := ⟨_, rfl⟩
  obtain ⟨ib, hib⟩ : ∃ j, j = ibX D k := ⟨_, rfl⟩
  have via : x / 512 % 8 = (ia : Int) := by rw [hia]; unfold iaX; rw [← hx]; omega
  have vib : x / 64 % 8 = (ib : Int) := by rw [hib]; unfold ibX; rw [← hx]; omega
  have HKX : Hid (kdX D k = doK (nxD D k) k (x / 4096) ib (x % 64)) := by show _ = _; unfold kdX opX imX; rw [← hx, ← hib]
  have HTX : Hid (doT (nxD D k) k (opX D k) (ibX D k) (imX D k) = doT (nxD D k) k (x / 4096) ib (x % 64)) := by show _ = _; unfold opX imX; rw [← hx, ← hib]
  have HDX : Hid (doD (nxD D k) k (opX D k) (iaX D k) (ibX D k) (imX D k) = doD (nxD D k) k (x / 4096) ia ib (x % 64)) := by show _ = _; unfold opX imX; rw [← hx, ← hib, ← hia]
  have HIM : Hid (imX D k = x % 64) := by show _ = _; unfold imX; rw [← hx]
  have HK0 := hide hk0
  have HQ := hide hq
  clear hq
  have HPC := hide hpc
  have HVIA := hide via
  have HVIB := hide vib
  have cw := hcw (pcN * 2) (by omega)
  rw [(gt_flw D.ws pcN).1, hxw] at cw
  have HWA := hide hwa
  have ia8 : ia < 8 := by omega
  have ib8 : ib < 8 := by omega
  have hl : k < D.cs.length := by omega
  clear hk0 hpw hcw hwa hx hxw hia hib klen hpc via vib
  rw [hh] at p2
  go_wp2_with fail
  refine (l7Place_calls w.heap.size 0 A D (gx D.cs k).2.1 4 _ H.fc (by omega) (CsO.ofCs (M0.get 2 rfl)) (hr.below M0.bel (Nat.le_refl _))).mono ?_
  rintro e w1 ⟨rfl, g1⟩
  rw [h0]
  have z1 := g1.size
  have M1 := M0.below g1
  clear g1 M0 a4 a5 p1 p2
  have d1 := (M1.get 0 rfl).cell 1 rfl
  have e1 := (M1.get 0 rfl).fz 1 (by simp)
  have MM := M1.put 0 rfl 1 (by simp) (.int .i64 1) (by omega) (by simp) (by simp <;> omega)
  simp only [List.set] at MM
  clear M1
  go_upto_region 8 with fail
  obtain ⟨W2, hW2⟩ : ∃ x, x = w1.setCell ⟨w.heap.size + 1 + 1, 1, none⟩ (.int .i64 1) := ⟨_, rfl⟩
  rw [← hW2] at MM ⊢
  have hZ2 : W2.heap.size = w1.heap.size := by rw [hW2]; simp
  clear hW2 d1 e1
  have q1 := (MM.get 0 rfl).cell 1 rfl
  go_upto_region 11 with fail
  have B2 := MM.bel
  have m0 := (MM.get 2 rfl).cell 3 rfl
  rw [HWA.out] at m0
  have m1 := (B2.cell (p := ⟨bx, off + k * 3 + 1, none⟩) hbx).trans y1
  rw [HPC.out] at m1
  have m2 := (B2.cell (p := ⟨bw, ow + pcN * 2, none⟩) hbw).trans cw
  have j0 : (0 : Int) ≤ (pcN : Int) := by omega
  have j1 : (pcN : Int) < (A.wn : Int) := by omega
  have lt0 : w.heap.size < W2.heap.size := by omega
  have lt1 : bx < W2.heap.size := by omega
  have lt2 : bw < W2.heap.size := by omega
  have HS0 : Hid (W2.drew.cell? ⟨w.heap.size, 3, none⟩ = some (.slice (some ⟨bw, ow, none⟩) A.wn A.wc) ∧ W2.drew.cell? ⟨bx, off + k * 3 + 1, none⟩ = some (.int .i64 (pcN : Int)) ∧ W2.drew.cell? ⟨bw, ow + pcN * 2, none⟩ = some (.int .i64 x) ∧ Below W2.heap.size W2 W2.drew) := ⟨m0, m1, m2, (Below.refl _ _).drew⟩
  clear q1
  go_cut [7] (fun v wd => ∃ I, v = .pointer (some ⟨I, 0, none⟩) ∧ W2.heap.size ≤ I ∧ I < wd.heap.size ∧ CsO I 0 [.int .i64 (x / 4096), .int .i64 (ia : Int), .int .i64 (ib : Int), .int .i64 (x % 64)] wd ∧ Below W2.heap.size W2 wd)
  case first =>
    go_region_held2 (fun X => X.cell? ⟨w.heap.size, 3, none⟩ = some (.slice (some ⟨bw, ow, none⟩) A.wn A.wc) ∧ X.cell? ⟨bx, off + k * 3 + 1, none⟩ = some (.int .i64 (pcN : Int)) ∧ X.cell? ⟨bw, ow + pcN * 2, none⟩ = some (.int .i64 x) ∧ Below W2.heap.size W2 X)
     (first | with_reducible exact HS0.out | (repeat (first | with_reducible assumption | with_reducible refine q3_allocd lt0 lt1 lt2 ?_ _ | with_reducible refine q3_alloc lt0 lt1 lt2 ?_ _ | with_reducible refine q3_set lt0 lt1 lt2 ?_ ?_ _ | (show (_ : Nat) ≤ _; exact Nat.le_refl _) | (show (_ : Nat) ≤ _; dsimp only; omega))))
     (first
      | (go_at_call 81; refine (l5Decode_calls x _ wx.1 wx.2).mono ?_; rintro e ws ⟨rfl, gs⟩; rw [HVIA.out, HVIB.out]; have hss := q3_below lt0 lt1 lt2 (by with_reducible assumption) gs; have hzs := gs.size; have hws := (q3_bel hss).size; obtain ⟨bcs, bfs⟩ := bcellQ gs; (try simp only [World.size_alloc, World.size_drew] at hzs bcs bfs); (try have hts := Nat.lt_of_succ_le hzs); clear gs))
    all_goals go_wp2_with fail
    all_goals go_meet
    all_goals (
      refine ⟨_, rfl, ?lo, ?hi, CsO.of4 ?c0 ?c1 ?c2 ?c3, ?b⟩
      case b => exact q3_bel (by with_reducible assumption)
      case lo => first | exact Nat.le_refl _ | omega
      case hi => first | (simp; done) | (simp; omega)
      case c0 => first | (go_simp; done) | (with_reducible refine set4_at0 _ _ _ _ _ _ ?_; go_simp; done)
      case c1 => first | (go_simp; done) | (with_reducible refine set4_at1 _ _ _ _ _ _ ?_; go_simp; done)
      case c2 => first | (go_simp; done) | (with_reducible refine set4_at2 _ _ _ _ _ _ ?_; go_simp; done)
      case c3 => first | (go_simp; done) | (with_reducible refine set4_at3 _ _ _ _ _ _ ?_; go_simp; done))
  case rest =>
  obtain ⟨I, rfl, iL, iH, hI, gd⟩ := hcut
  obtain ⟨w3, rfl⟩ : ∃ x, x = wc := ⟨wc, rfl⟩
  have z3 := gd.size
  have M3 := MM.below gd
  clear MM m0 m1 m2 gd HS0 B2

  have s0 := (M3.get 2 rfl).cell 0 rfl
  have s1 := (M3.get 2 rfl).cell 1 rfl
  have s2 := (M3.get 2 rfl).cell 2 rfl
  have s3 := (M3.get 2 rfl).cell 3 rfl
  have s4 := (M3.get 2 rfl).cell 4 rfl
  have s5 := (M3.get 2 rfl).cell 5 rfl
  have s6 := (M3.get 2 rfl).cell 6 rfl
  have s7 := (M3.get 2 rfl).cell 7 rfl
  have s8 := (M3.get 2 rfl).cell 8 rfl
  have s9 := (M3.get 2 rfl).cell 9 rfl
  have s10 := (M3.get 2 rfl).cell 10 rfl
  go_wp2_with fail
  refine (l7Copy_O A D _ hz (hr.below M3.bel (Nat.le_refl _))).mono ?_
  rintro e w4 ⟨B, rfl, oy, g4⟩
  have z4 := g4.size
  have M4 := M3.below g4
  have hI4 : CsO I 0 [.int .i64 (x / 4096), .int .i64 (ia : Int), .int .i64 (ib : Int), .int .i64 (x % 64)] w4 := fun i hi => (World.cell?_of_block (a := ⟨I, 0 + i, none⟩) (g4.block I iH)).trans (hI i hi)
  clear g4 M3 hI s0 s1 s2 s3 s4 s5 s6 s7 s8 s9 s10
  go_upto_region 13 with fail
  obtain ⟨W5, hW5⟩ : ∃ x, x = w4.alloc (.cells #[.int .i64 0, .int .i64 0, .int .i64 0, .int .i64 0, .slice B.a B.n B.c, .slice B.ta B.tn B.tc, .slice B.da B.dn B.dc, .slice B.wa B.wn B.wc, .slice B.xa B.xn B.xc, .int .i64 D.ac, .int .i64 D.cz, .slice B.la B.ln B.lc, .int .i64 D.dv, .slice B.oa B.on B.oc, .slice B.ga B.gn B.gc] 55) := ⟨_, rfl⟩
  rw [← hW5]
  have al : Below w4.heap.size w4 W5 := by rw [hW5]; exact (Below.refl _ _).alloc (Nat.le_refl _) _
  have zu : W5.heap.size = w4.heap.size + 1 := by rw [hW5]; simp
  have hO : Cs w4.heap.size [.int .i64 0, .int .i64 0, .int .i64 0, .int .i64 0, .slice B.a B.n B.c, .slice B.ta B.tn B.tc, .slice B.da B.dn B.dc, .slice B.wa B.wn B.wc, .slice B.xa B.xn B.xc, .int .i64 D.ac, .int .i64 D.cz, .slice B.la B.ln B.lc, .int .i64 D.dv, .slice B.oa B.on B.oc, .slice B.ga B.gn B.gc] W5 := by rw [hW5]; exact Cs.alloc w4 _ _
  have Y0 : YM w4.heap.size 4 (InR w3.heap.size w4.heap.size) B D W5 := ⟨CsO.ofCs4 hO, fun j => by rw [hW5]; simp, fun h => by have := h.2; omega, by omega, OYR.loc.below al oy⟩
  have M5 := M4.below al
  have hI5 : CsO I 0 [.int .i64 (x / 4096), .int .i64 (ia : Int), .int .i64 (ib : Int), .int .i64 (x % 64)] W5 := fun i hi => (World.cell?_of_block (a := ⟨I, 0 + i, none⟩) (al.block I (by omega))).trans (hI4 i hi)
  have hBx : B.xn = A.xn := by have := Y0.y.oy.rs.len.2.2.2.2.1; have := hr.len.2.2.2.2.1; omega
  have hsB : szY B D + 1 ≤ 1048576 := by have := (H.move hr Y0.y.oy.rs).small Y0.y.oy.rs; omega
  clear M4 hI4 oy al hW5
  obtain ⟨N, b, lcc, ea, sN, sb, ne, nP, bP, c0, c1, c2, fz, blk, f1, f2, f3⟩ := Y0.ctx (i := k) (by omega) (by omega)
  have x8 : W5.cell? ⟨w4.heap.size, 8, none⟩ = some (.slice B.xa B.xn B.xc) := Y0.cs.cell 4 rfl
  rw [ea] at x8
  have a5 := (M5.get 2 rfl).cell 5 rfl
  rw [HAC.out] at a5
  have k0' : (0 : Int) ≤ (k : Int) := by omega
  have k1' : (k : Int) < (B.xn : Int) := by omega
  have fN := fz (k * 3 + 1)
  have hwp : IntKind.i64.wrap ((gx D.cs k).2.1 + 1) = (gx D.cs k).2.1 + 1 := IntWalk.i64_in _ (by omega)
  have nN : N < w4.heap.size := sN.2
  have nL : w3.heap.size ≤ N := sN.1
  have Y6 := f1 (wrp ((gx D.cs k).2.1 + 1))
  have M6 := M5.off (P := N) (o := k * 3 + 1) (.int .i64 (wrp ((gx D.cs k).2.1 + 1))) (by omega) (by simp) (by simp; omega)
  have hI6 : CsO I 0 [.int .i64 (x / 4096), .int .i64 (ia : Int), .int .i64 (ib : Int), .int .i64 (x % 64)] (W5.setCell ⟨N, k * 3 + 1, none⟩ (.int .i64 (wrp ((gx D.cs k).2.1 + 1)))) := hI5.off (by omega) _
  have hO6 := Cs.loc.setC hO (q := ⟨N, k * 3 + 1, none⟩) (fun h => by have := h.1; simp only at this; omega) (.int .i64 (wrp ((gx D.cs k).2.1 + 1)))
  clear f1 f2 f3 fz blk c0 c2 Y0 M5 hI5 hO
  go_wp2_with fail
  refine (l7Wrap_calls _ _ (by omega) (by omega)).mono ?_
  rintro e w' ⟨rfl, hw'⟩
  rw [hw']
  clear hw' w'
  go_upto_region 15 with fail
  obtain ⟨W6, hW6⟩ : ∃ x, x = W5.setCell ⟨N, k * 3 + 1, none⟩ (.int .i64 (wrp ((gx D.cs k).2.1 + 1))) := ⟨_, rfl⟩
  rw [← hW6] at Y6 M6 hI6 hO6 ⊢
  have z6 : W6.heap.size = W5.heap.size := by rw [hW6]; simp
  clear hW6 c1 x8 a5 fN
  have hg : gx (nxD D k).cs k = ((gx D.cs k).1, wrp ((gx D.cs k).2.1 + 1), (gx D.cs k).2.2) := by unfold nxD; rw [gx_set _ hl]; simp
  have HDo : Hid (DoH w4.heap.size 4 (InR w3.heap.size w4.heap.size) B (nxD D k) I 0 k ia ib (x / 4096) (x % 64) W6) := {
    y := Y6, f := H.fc, ac := H.ac, hk := by omega, l8 := by rw [hg]; exact h8, rg := fun j hj => by rw [hg]; exact hrg j hj, pc := by rw [hg]; exact wrp_in _, hia := ia8, hib := ib8, him := by omega, hi := hI6, il := by omega,
    sz := by
      have e : szY B (nxD D k) = szY B D := by unfold szY nxD; dsimp only; rw [lenX_set hl (x := ((gx D.cs k).1, wrp ((gx D.cs k).2.1 + 1), (gx D.cs k).2.2)) rfl]
      rw [e]; exact hsB
    s := fun q hq => by have := hq.2; omega, ins := fun h => by have := h.1; omega, ip := by omega }
  clear Y6
  go_wp2_with fail
  refine (l7Do_calls _ 4 _ B (nxD D k) I 0 k ia ib (x / 4096) (x % 64) _ HDo.out).mono ?_
  rintro e w7 ⟨rfl, ⟨B2, y7⟩, ho, hk7⟩
  have z7 := ho.size
  have M7 := M6.out (B := w3.heap.size) (T := w4.heap.size + 1) (ho.mono (fun q hq => by rcases hq with hq | hq; exact ⟨hq.1, by have := hq.2; omega⟩; subst hq; exact ⟨by omega, by omega⟩)) (by omega) (by simp) (by simp; omega)
  have o0 := (hk7 0 (by omega)).trans (hO6.cell 0 rfl)
  have o1 := (hk7 1 (by omega)).trans (hO6.cell 1 rfl)
  have o2 := (hk7 2 (by omega)).trans (hO6.cell 2 rfl)
  have o3 := (hk7 3 (by omega)).trans (hO6.cell 3 rfl)
  have ii : w7.cell? ⟨I, 3, none⟩ = some (.int .i64 (x % 64)) := (World.cell?_of_block (a := ⟨I, 3, none⟩) (ho.block I (by omega) (fun h => by rcases h with h | h; have := h.1; omega; omega))).trans (hI6.cell 3 rfl)
  obtain ⟨kd, hkd⟩ : ∃ y, y = doK (nxD D k) k (x / 4096) ib (x % 64) := ⟨_, rfl⟩
  obtain ⟨tg, htg⟩ : ∃ y, y = doT (nxD D k) k (x / 4096) ib (x % 64) := ⟨_, rfl⟩
  obtain ⟨E, hE⟩ : ∃ y, y = doD (nxD D k) k (x / 4096) ia ib (x % 64) := ⟨_, rfl⟩
  have hcs : kd = 4 := (HKX.out.trans hkd.symm).symm.trans HQ.out
  rw [← hE] at y7
  rw [← hkd, ← htg]
  have HKD := hide (HKX.out.trans hkd.symm)
  have HTG := hide (HTX.out.trans htg.symm)
  have HE := hide (HDX.out.trans hE.symm)
  have HSU : Hid (∀ q, (InR w3.heap.size w4.heap.size q ∨ (W6.heap.size ≤ q ∧ q < w7.heap.size)) → w3.heap.size ≤ q ∧ q < w7.heap.size) := fun q hq => by rcases hq with hq | hq; exact ⟨hq.1, by have := hq.2; omega⟩; exact ⟨by omega, hq.2⟩
  have fO := y7.fz
  clear hkd htg hE M6 hI6 hO6 ho hk7 HDo
  subst hcs

  have fO1 := fO 1
  have fO3 := fO 3
  have N0 := M7.off (P := w4.heap.size) (o := 1) (.int .i64 4) (by omega) (by simp) (by simp; omega)
  have N1 := N0.off (P := w4.heap.size) (o := 3) (.int .i64 (x % 64)) (by omega) (by simp) (by simp; omega)
  have t1 : tyK D k = 4 := (if_pos HK0.out).trans HKD.out
  have t2 : tyT D k = 0 := (if_pos HK0.out).trans (if_neg (by rw [HKD.out]; omega))
  have t3 : tyC D k = (x % 64) := (if_pos HK0.out).trans ((if_pos HKD.out).trans HIM.out)
  have t4 : tyD D k = E := (if_pos HK0.out).trans ((if_neg (by rw [HKD.out]; omega)).trans HE.out)
  have HT1 := hide t1
  have HT2 := hide t2
  have HT3 := hide t3
  have HT4 := hide t4
  clear t1 t2 t3 t4
  have o4 : w7.cell? ⟨w4.heap.size, 4, none⟩ = _ := y7.cs.cell 0 rfl
  have o5 : w7.cell? ⟨w4.heap.size, 5, none⟩ = _ := y7.cs.cell 1 rfl
  have o6 : w7.cell? ⟨w4.heap.size, 6, none⟩ = _ := y7.cs.cell 2 rfl
  have o7 : w7.cell? ⟨w4.heap.size, 7, none⟩ = _ := y7.cs.cell 3 rfl
  have o8 : w7.cell? ⟨w4.heap.size, 8, none⟩ = _ := y7.cs.cell 4 rfl
  have o9 : w7.cell? ⟨w4.heap.size, 9, none⟩ = _ := y7.cs.cell 5 rfl
  have o10 : w7.cell? ⟨w4.heap.size, 10, none⟩ = _ := y7.cs.cell 6 rfl
  have o11 : w7.cell? ⟨w4.heap.size, 11, none⟩ = _ := y7.cs.cell 7 rfl
  have o12 : w7.cell? ⟨w4.heap.size, 12, none⟩ = _ := y7.cs.cell 8 rfl
  have o13 : w7.cell? ⟨w4.heap.size, 13, none⟩ = _ := y7.cs.cell 9 rfl
  have o14 : w7.cell? ⟨w4.heap.size, 14, none⟩ = _ := y7.cs.cell 10 rfl
  have oyX := y7.y
  have oyX := OYR.loc.setC oyX (q := ⟨w4.heap.size, 1, none⟩) (by exact y7.ns) (.int .i64 4)
  have oyX := OYR.loc.setC oyX (q := ⟨w4.heap.size, 3, none⟩) (by exact y7.ns) (.int .i64 (x % 64))
  go_upto_region 24 with fail
  obtain ⟨W8, hW8⟩ : ∃ y, y = ((w7.setCell ⟨w4.heap.size, 1, none⟩ (.int .i64 4)).setCell ⟨w4.heap.size, 3, none⟩ (.int .i64 (x % 64))) := ⟨_, rfl⟩
  have z8 : W8.heap.size = w7.heap.size := by rw [hW8]; simp
  rw [← hW8] at N1 ⊢
  have s0 : W8.cell? ⟨w4.heap.size, 0, none⟩ = some (.int .i64 0) := by rw [hW8]; rw [World.cell?_setCell_other _ _ _ _ (fun h => by injection h with _ h2; omega)]; rw [World.cell?_setCell_other _ _ _ _ (fun h => by injection h with _ h2; omega)]; exact o0
  have s1 : W8.cell? ⟨w4.heap.size, 1, none⟩ = some (.int .i64 4) := by rw [hW8]; rw [World.cell?_setCell_other _ _ _ _ (fun h => by injection h with _ h2; omega)]; exact World.cell?_setCell_same _ _ _ o1
  have s2 : W8.cell? ⟨w4.heap.size, 2, none⟩ = some (.int .i64 0) := by rw [hW8]; rw [World.cell?_setCell_other _ _ _ _ (fun h => by injection h with _ h2; omega)]; rw [World.cell?_setCell_other _ _ _ _ (fun h => by injection h with _ h2; omega)]; exact o2
  have s3 : W8.cell? ⟨w4.heap.size, 3, none⟩ = some (.int .i64 (x % 64)) := by rw [hW8]; exact World.cell?_setCell_same _ _ _ ((World.cell?_setCell_other _ _ _ _ (fun h => by injection h with _ h2; omega)).trans o3)
  have s4 : W8.cell? ⟨w4.heap.size, 4, none⟩ = some (.slice B2.a B2.n B2.c) := by rw [hW8]; rw [World.cell?_setCell_other _ _ _ _ (fun h => by injection h with _ h2; omega)]; rw [World.cell?_setCell_other _ _ _ _ (fun h => by injection h with _ h2; omega)]; exact o4
  have s5 : W8.cell? ⟨w4.heap.size, 5, none⟩ = some (.slice B2.ta B2.tn B2.tc) := by rw [hW8]; rw [World.cell?_setCell_other _ _ _ _ (fun h => by injection h with _ h2; omega)]; rw [World.cell?_setCell_other _ _ _ _ (fun h => by injection h with _ h2; omega)]; exact o5
  have s6 : W8.cell? ⟨w4.heap.size, 6, none⟩ = some (.slice B2.da B2.dn B2.dc) := by rw [hW8]; rw [World.cell?_setCell_other _ _ _ _ (fun h => by injection h with _ h2; omega)]; rw [World.cell?_setCell_other _ _ _ _ (fun h => by injection h with _ h2; omega)]; exact o6
  have s7 : W8.cell? ⟨w4.heap.size, 7, none⟩ = some (.slice B2.wa B2.wn B2.wc) := by rw [hW8]; rw [World.cell?_setCell_other _ _ _ _ (fun h => by injection h with _ h2; omega)]; rw [World.cell?_setCell_other _ _ _ _ (fun h => by injection h with _ h2; omega)]; exact o7
  have s8 : W8.cell? ⟨w4.heap.size, 8, none⟩ = some (.slice B2.xa B2.xn B2.xc) := by rw [hW8]; rw [World.cell?_setCell_other _ _ _ _ (fun h => by injection h with _ h2; omega)]; rw [World.cell?_setCell_other _ _ _ _ (fun h => by injection h with _ h2; omega)]; exact o8
  have s9 : W8.cell? ⟨w4.heap.size, 9, none⟩ = some (.int .i64 E.ac) := by rw [hW8]; rw [World.cell?_setCell_other _ _ _ _ (fun h => by injection h with _ h2; omega)]; rw [World.cell?_setCell_other _ _ _ _ (fun h => by injection h with _ h2; omega)]; exact o9
  have s10 : W8.cell? ⟨w4.heap.size, 10, none⟩ = some (.int .i64 E.cz) := by rw [hW8]; rw [World.cell?_setCell_other _ _ _ _ (fun h => by injection h with _ h2; omega)]; rw [World.cell?_setCell_other _ _ _ _ (fun h => by injection h with _ h2; omega)]; exact o10
  have s11 : W8.cell? ⟨w4.heap.size, 11, none⟩ = some (.slice B2.la B2.ln B2.lc) := by rw [hW8]; rw [World.cell?_setCell_other _ _ _ _ (fun h => by injection h with _ h2; omega)]; rw [World.cell?_setCell_other _ _ _ _ (fun h => by injection h with _ h2; omega)]; exact o11
  have s12 : W8.cell? ⟨w4.heap.size, 12, none⟩ = some (.int .i64 E.dv) := by rw [hW8]; rw [World.cell?_setCell_other _ _ _ _ (fun h => by injection h with _ h2; omega)]; rw [World.cell?_setCell_other _ _ _ _ (fun h => by injection h with _ h2; omega)]; exact o12
  have s13 : W8.cell? ⟨w4.heap.size, 13, none⟩ = some (.slice B2.oa B2.on B2.oc) := by rw [hW8]; rw [World.cell?_setCell_other _ _ _ _ (fun h => by injection h with _ h2; omega)]; rw [World.cell?_setCell_other _ _ _ _ (fun h => by injection h with _ h2; omega)]; exact o13
  have s14 : W8.cell? ⟨w4.heap.size, 14, none⟩ = some (.slice B2.ga B2.gn B2.gc) := by rw [hW8]; rw [World.cell?_setCell_other _ _ _ _ (fun h => by injection h with _ h2; omega)]; rw [World.cell?_setCell_other _ _ _ _ (fun h => by injection h with _ h2; omega)]; exact o14
  rw [← hW8] at oyX
  clear hW8 o0 o1 o2 o3 o4 o5 o6 o7 o8 o9 o10 o11 o12 o13 o14 ii fO1 fO3 fO M7 N0
  have c0 := (N1.get 1 rfl).cell 0 rfl
  have f0 := (N1.get 1 rfl).fz 0 (by simp)
  have c1 := (N1.get 1 rfl).cell 1 rfl
  have f1 := (N1.get 1 rfl).fz 1 (by simp)
  have c2 := (N1.get 1 rfl).cell 2 rfl
  have f2 := (N1.get 1 rfl).fz 2 (by simp)
  have c3 := (N1.get 1 rfl).cell 3 rfl
  have f3 := (N1.get 1 rfl).fz 3 (by simp)
  have c4 := (N1.get 1 rfl).cell 4 rfl
  have f4 := (N1.get 1 rfl).fz 4 (by simp)
  have c5 := (N1.get 1 rfl).cell 5 rfl
  have f5 := (N1.get 1 rfl).fz 5 (by simp)
  have c6 := (N1.get 1 rfl).cell 6 rfl
  have f6 := (N1.get 1 rfl).fz 6 (by simp)
  have c7 := (N1.get 1 rfl).cell 7 rfl
  have f7 := (N1.get 1 rfl).fz 7 (by simp)
  have c8 := (N1.get 1 rfl).cell 8 rfl
  have f8 := (N1.get 1 rfl).fz 8 (by simp)
  have c9 := (N1.get 1 rfl).cell 9 rfl
  have f9 := (N1.get 1 rfl).fz 9 (by simp)
  have c10 := (N1.get 1 rfl).cell 10 rfl
  have f10 := (N1.get 1 rfl).fz 10 (by simp)
  have c11 := (N1.get 1 rfl).cell 11 rfl
  have f11 := (N1.get 1 rfl).fz 11 (by simp)
  have c12 := (N1.get 1 rfl).cell 12 rfl
  have f12 := (N1.get 1 rfl).fz 12 (by simp)
  have c13 := (N1.get 1 rfl).cell 13 rfl
  have f13 := (N1.get 1 rfl).fz 13 (by simp)
  have c14 := (N1.get 1 rfl).cell 14 rfl
  have f14 := (N1.get 1 rfl).fz 14 (by simp)
  have HB := hide (below_set15 N1.bel (P := w.heap.size + 1) (by omega) (.int .i64 0) (.int .i64 4) (.int .i64 0) (.int .i64 (x % 64)) (.slice B2.a B2.n B2.c) (.slice B2.ta B2.tn B2.tc) (.slice B2.da B2.dn B2.dc) (.slice B2.wa B2.wn B2.wc) (.slice B2.xa B2.xn B2.xc) (.int .i64 E.ac) (.int .i64 E.cz) (.slice B2.la B2.ln B2.lc) (.int .i64 E.dv) (.slice B2.oa B2.on B2.oc) (.slice B2.ga B2.gn B2.gc))
  have HO := hide (loc_set15 OYR.loc oyX (P := w.heap.size + 1) (fun h => by have := HSU.out _ h; omega) (.int .i64 0) (.int .i64 4) (.int .i64 0) (.int .i64 (x % 64)) (.slice B2.a B2.n B2.c) (.slice B2.ta B2.tn B2.tc) (.slice B2.da B2.dn B2.dc) (.slice B2.wa B2.wn B2.wc) (.slice B2.xa B2.xn B2.xc) (.int .i64 E.ac) (.int .i64 E.cz) (.slice B2.la B2.ln B2.lc) (.int .i64 E.dv) (.slice B2.oa B2.on B2.oc) (.slice B2.ga B2.gn B2.gc))
  clear N1
  go_wp2
  have r0 := set15_at0 _ _ (.int .i64 0) (.int .i64 4) (.int .i64 0) (.int .i64 (x % 64)) (.slice B2.a B2.n B2.c) (.slice B2.ta B2.tn B2.tc) (.slice B2.da B2.dn B2.dc) (.slice B2.wa B2.wn B2.wc) (.slice B2.xa B2.xn B2.xc) (.int .i64 E.ac) (.int .i64 E.cz) (.slice B2.la B2.ln B2.lc) (.int .i64 E.dv) (.slice B2.oa B2.on B2.oc) (.slice B2.ga B2.gn B2.gc) ⟨_, c0⟩
  have r1 := set15_at1 _ _ (.int .i64 0) (.int .i64 4) (.int .i64 0) (.int .i64 (x % 64)) (.slice B2.a B2.n B2.c) (.slice B2.ta B2.tn B2.tc) (.slice B2.da B2.dn B2.dc) (.slice B2.wa B2.wn B2.wc) (.slice B2.xa B2.xn B2.xc) (.int .i64 E.ac) (.int .i64 E.cz) (.slice B2.la B2.ln B2.lc) (.int .i64 E.dv) (.slice B2.oa B2.on B2.oc) (.slice B2.ga B2.gn B2.gc) ⟨_, c1⟩
  have r2 := set15_at2 _ _ (.int .i64 0) (.int .i64 4) (.int .i64 0) (.int .i64 (x % 64)) (.slice B2.a B2.n B2.c) (.slice B2.ta B2.tn B2.tc) (.slice B2.da B2.dn B2.dc) (.slice B2.wa B2.wn B2.wc) (.slice B2.xa B2.xn B2.xc) (.int .i64 E.ac) (.int .i64 E.cz) (.slice B2.la B2.ln B2.lc) (.int .i64 E.dv) (.slice B2.oa B2.on B2.oc) (.slice B2.ga B2.gn B2.gc) ⟨_, c2⟩
  have r3 := set15_at3 _ _ (.int .i64 0) (.int .i64 4) (.int .i64 0) (.int .i64 (x % 64)) (.slice B2.a B2.n B2.c) (.slice B2.ta B2.tn B2.tc) (.slice B2.da B2.dn B2.dc) (.slice B2.wa B2.wn B2.wc) (.slice B2.xa B2.xn B2.xc) (.int .i64 E.ac) (.int .i64 E.cz) (.slice B2.la B2.ln B2.lc) (.int .i64 E.dv) (.slice B2.oa B2.on B2.oc) (.slice B2.ga B2.gn B2.gc) ⟨_, c3⟩
  have r4 := set15_at4 _ _ (.int .i64 0) (.int .i64 4) (.int .i64 0) (.int .i64 (x % 64)) (.slice B2.a B2.n B2.c) (.slice B2.ta B2.tn B2.tc) (.slice B2.da B2.dn B2.dc) (.slice B2.wa B2.wn B2.wc) (.slice B2.xa B2.xn B2.xc) (.int .i64 E.ac) (.int .i64 E.cz) (.slice B2.la B2.ln B2.lc) (.int .i64 E.dv) (.slice B2.oa B2.on B2.oc) (.slice B2.ga B2.gn B2.gc) ⟨_, c4⟩
  have r5 := set15_at5 _ _ (.int .i64 0) (.int .i64 4) (.int .i64 0) (.int .i64 (x % 64)) (.slice B2.a B2.n B2.c) (.slice B2.ta B2.tn B2.tc) (.slice B2.da B2.dn B2.dc) (.slice B2.wa B2.wn B2.wc) (.slice B2.xa B2.xn B2.xc) (.int .i64 E.ac) (.int .i64 E.cz) (.slice B2.la B2.ln B2.lc) (.int .i64 E.dv) (.slice B2.oa B2.on B2.oc) (.slice B2.ga B2.gn B2.gc) ⟨_, c5⟩
  have r6 := set15_at6 _ _ (.int .i64 0) (.int .i64 4) (.int .i64 0) (.int .i64 (x % 64)) (.slice B2.a B2.n B2.c) (.slice B2.ta B2.tn B2.tc) (.slice B2.da B2.dn B2.dc) (.slice B2.wa B2.wn B2.wc) (.slice B2.xa B2.xn B2.xc) (.int .i64 E.ac) (.int .i64 E.cz) (.slice B2.la B2.ln B2.lc) (.int .i64 E.dv) (.slice B2.oa B2.on B2.oc) (.slice B2.ga B2.gn B2.gc) ⟨_, c6⟩
  have r7 := set15_at7 _ _ (.int .i64 0) (.int .i64 4) (.int .i64 0) (.int .i64 (x % 64)) (.slice B2.a B2.n B2.c) (.slice B2.ta B2.tn B2.tc) (.slice B2.da B2.dn B2.dc) (.slice B2.wa B2.wn B2.wc) (.slice B2.xa B2.xn B2.xc) (.int .i64 E.ac) (.int .i64 E.cz) (.slice B2.la B2.ln B2.lc) (.int .i64 E.dv) (.slice B2.oa B2.on B2.oc) (.slice B2.ga B2.gn B2.gc) ⟨_, c7⟩
  have r8 := set15_at8 _ _ (.int .i64 0) (.int .i64 4) (.int .i64 0) (.int .i64 (x % 64)) (.slice B2.a B2.n B2.c) (.slice B2.ta B2.tn B2.tc) (.slice B2.da B2.dn B2.dc) (.slice B2.wa B2.wn B2.wc) (.slice B2.xa B2.xn B2.xc) (.int .i64 E.ac) (.int .i64 E.cz) (.slice B2.la B2.ln B2.lc) (.int .i64 E.dv) (.slice B2.oa B2.on B2.oc) (.slice B2.ga B2.gn B2.gc) ⟨_, c8⟩
  have r9 := set15_at9 _ _ (.int .i64 0) (.int .i64 4) (.int .i64 0) (.int .i64 (x % 64)) (.slice B2.a B2.n B2.c) (.slice B2.ta B2.tn B2.tc) (.slice B2.da B2.dn B2.dc) (.slice B2.wa B2.wn B2.wc) (.slice B2.xa B2.xn B2.xc) (.int .i64 E.ac) (.int .i64 E.cz) (.slice B2.la B2.ln B2.lc) (.int .i64 E.dv) (.slice B2.oa B2.on B2.oc) (.slice B2.ga B2.gn B2.gc) ⟨_, c9⟩
  have r10 := set15_at10 _ _ (.int .i64 0) (.int .i64 4) (.int .i64 0) (.int .i64 (x % 64)) (.slice B2.a B2.n B2.c) (.slice B2.ta B2.tn B2.tc) (.slice B2.da B2.dn B2.dc) (.slice B2.wa B2.wn B2.wc) (.slice B2.xa B2.xn B2.xc) (.int .i64 E.ac) (.int .i64 E.cz) (.slice B2.la B2.ln B2.lc) (.int .i64 E.dv) (.slice B2.oa B2.on B2.oc) (.slice B2.ga B2.gn B2.gc) ⟨_, c10⟩
  have r11 := set15_at11 _ _ (.int .i64 0) (.int .i64 4) (.int .i64 0) (.int .i64 (x % 64)) (.slice B2.a B2.n B2.c) (.slice B2.ta B2.tn B2.tc) (.slice B2.da B2.dn B2.dc) (.slice B2.wa B2.wn B2.wc) (.slice B2.xa B2.xn B2.xc) (.int .i64 E.ac) (.int .i64 E.cz) (.slice B2.la B2.ln B2.lc) (.int .i64 E.dv) (.slice B2.oa B2.on B2.oc) (.slice B2.ga B2.gn B2.gc) ⟨_, c11⟩
  have r12 := set15_at12 _ _ (.int .i64 0) (.int .i64 4) (.int .i64 0) (.int .i64 (x % 64)) (.slice B2.a B2.n B2.c) (.slice B2.ta B2.tn B2.tc) (.slice B2.da B2.dn B2.dc) (.slice B2.wa B2.wn B2.wc) (.slice B2.xa B2.xn B2.xc) (.int .i64 E.ac) (.int .i64 E.cz) (.slice B2.la B2.ln B2.lc) (.int .i64 E.dv) (.slice B2.oa B2.on B2.oc) (.slice B2.ga B2.gn B2.gc) ⟨_, c12⟩
  have r13 := set15_at13 _ _ (.int .i64 0) (.int .i64 4) (.int .i64 0) (.int .i64 (x % 64)) (.slice B2.a B2.n B2.c) (.slice B2.ta B2.tn B2.tc) (.slice B2.da B2.dn B2.dc) (.slice B2.wa B2.wn B2.wc) (.slice B2.xa B2.xn B2.xc) (.int .i64 E.ac) (.int .i64 E.cz) (.slice B2.la B2.ln B2.lc) (.int .i64 E.dv) (.slice B2.oa B2.on B2.oc) (.slice B2.ga B2.gn B2.gc) ⟨_, c13⟩
  have r14 := set15_at14 _ _ (.int .i64 0) (.int .i64 4) (.int .i64 0) (.int .i64 (x % 64)) (.slice B2.a B2.n B2.c) (.slice B2.ta B2.tn B2.tc) (.slice B2.da B2.dn B2.dc) (.slice B2.wa B2.wn B2.wc) (.slice B2.xa B2.xn B2.xc) (.int .i64 E.ac) (.int .i64 E.cz) (.slice B2.la B2.ln B2.lc) (.int .i64 E.dv) (.slice B2.oa B2.on B2.oc) (.slice B2.ga B2.gn B2.gc) ⟨_, c14⟩
  refine bodyPost_ret (v := .agg #[.int .i64 0, .int .i64 4, .int .i64 0, .int .i64 (x % 64), .slice B2.a B2.n B2.c, .slice B2.ta B2.tn B2.tc, .slice B2.da B2.dn B2.dc, .slice B2.wa B2.wn B2.wc, .slice B2.xa B2.xn B2.xc, .int .i64 E.ac, .int .i64 E.cz, .slice B2.la B2.ln B2.lc, .int .i64 E.dv, .slice B2.oa B2.on B2.oc, .slice B2.ga B2.gn B2.gc]) (by simp [results, Tryz.results35, go_sem, r0, r1, r2, r3, r4, r5, r6, r7, r8, r9, r10, r11, r12, r13, r14]) rfl ⟨B2, by rw [HT1.out, HT2.out, HT3.out, HT4.out], ?_, HB.out⟩
  rw [HT4.out]
  exact HO.out.mono (fun q hq => ⟨by have := HSU.out _ hq; omega, by have := HSU.out _ hq; simp only [size_set15]; omega⟩)

end Go.Proofs.YtcojgmecocjnkaaGreat
