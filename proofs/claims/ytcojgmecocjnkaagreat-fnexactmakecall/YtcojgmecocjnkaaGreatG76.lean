import Derived.Test.YtcojgmecocjnkaaGreatG75
import Derived.Test.YtcojgmecocjnkaaGreatG74
import Derived.Test.YtcojgmecocjnkaaGreatG28
import Derived.Laws.EntriesVeiled
import Derived.WalkKit
import Derived.ProofKit
import Derived.OpenShut
import Derived.ShutString
import Derived.ChangeOld
import Derived.Below
import Derived.WalkSpells
import Derived.Deep.QuietTactic
import Derived.BigQuiet
import Derived.Deep.RegionWith
import Derived.Deep.WholeRow
import Derived.Deep.DeepCutAuto
import Derived.Deep.RegionHeld2
import Derived.Deep.AppendLies
import Derived.Deep.RegionLaw
namespace Go.Proofs.YtcojgmecocjnkaaGreat
open Go.ChangeShapes Go.WideShapes Go.ChangeAt Go.RowKit

theorem callTaint_k (A : SA) (D : SD) (k : Nat) (b o rc : Nat) (zs : List Int) (ac : Int) (hac : ac = D.ac) (w : World) (hr : RS w A D) (H : SysR A D k) (hz : szY A D ≤ 1048576) (lb : b < w.heap.size) (hc : ∀ i, i < 8 → w.cell? ⟨b, o + i, none⟩ = some (.int .i64 (gt zs i))) :
    Calls Tryz.prog 198 #[.agg #[.slice A.a A.n A.c, .slice A.ta A.tn A.tc, .slice A.da A.dn A.dc, .slice A.wa A.wn A.wc, .slice A.xa A.xn A.xc, .int .i64 ac, .int .i64 D.cz, .slice A.la A.ln A.lc, .int .i64 D.dv, .slice A.oa A.on A.oc, .slice A.ga A.gn A.gc], .slice (some ⟨b, o, none⟩) 8 rc] w fun e w' => ∃ B : SA, e = .returned (.agg #[.int .i64 0, .int .i64 (tnS D (gt zs 1)), .slice B.a B.n B.c, .slice B.ta B.tn B.tc, .slice B.da B.dn B.dc, .slice B.wa B.wn B.wc, .slice B.xa B.xn B.xc, .int .i64 (hdX (tnD D (gt zs 1)) (tnS D (gt zs 1))).ac, .int .i64 (hdX (tnD D (gt zs 1)) (tnS D (gt zs 1))).cz, .slice B.la B.ln B.lc, .int .i64 (hdX (tnD D (gt zs 1)) (tnS D (gt zs 1))).dv, .slice B.oa B.on B.oc, .slice B.ga B.gn B.gc]) ∧ OY (InR w.heap.size w'.heap.size) B (hdX (tnD D (gt zs 1)) (tnS D (gt zs 1))) w' ∧ Below w.heap.size w w' := by
  subst hac
  exact callTaint_calls A D k b o rc zs w hr H hz lb hc

theorem callRetag_k (A : SA) (D : SD) (k : Nat) (b o rc : Nat) (zs : List Int) (ac : Int) (hac : ac = D.ac) (w : World) (hr : RS w A D) (H : SysR A D k) (hz : szY A D ≤ 1048576) (lb : b < w.heap.size) (hc : ∀ i, i < 8 → w.cell? ⟨b, o + i, none⟩ = some (.int .i64 (gt zs i))) :
    Calls Tryz.prog 199 #[.agg #[.slice A.a A.n A.c, .slice A.ta A.tn A.tc, .slice A.da A.dn A.dc, .slice A.wa A.wn A.wc, .slice A.xa A.xn A.xc, .int .i64 ac, .int .i64 D.cz, .slice A.la A.ln A.lc, .int .i64 D.dv, .slice A.oa A.on A.oc, .slice A.ga A.gn A.gc], .slice (some ⟨b, o, none⟩) 8 rc] w fun e w' => ∃ B : SA, e = .returned (.agg #[.int .i64 0, .int .i64 (rtS D (gt zs 1) (gt zs 2) (gt zs 3)), .slice B.a B.n B.c, .slice B.ta B.tn B.tc, .slice B.da B.dn B.dc, .slice B.wa B.wn B.wc, .slice B.xa B.xn B.xc, .int .i64 (hdX (rtD D (gt zs 1) (gt zs 2) (gt zs 3)) (rtS D (gt zs 1) (gt zs 2) (gt zs 3))).ac, .int .i64 (hdX (rtD D (gt zs 1) (gt zs 2) (gt zs 3)) (rtS D (gt zs 1) (gt zs 2) (gt zs 3))).cz, .slice B.la B.ln B.lc, .int .i64 (hdX (rtD D (gt zs 1) (gt zs 2) (gt zs 3)) (rtS D (gt zs 1) (gt zs 2) (gt zs 3))).dv, .slice B.oa B.on B.oc, .slice B.ga B.gn B.gc]) ∧ OY (InR w.heap.size w'.heap.size) B (hdX (rtD D (gt zs 1) (gt zs 2) (gt zs 3)) (rtS D (gt zs 1) (gt zs 2) (gt zs 3))) w' ∧ Below w.heap.size w w' := by
  subst hac
  exact callRetag_calls A D k b o rc zs w hr H hz lb hc

theorem callGate_k (A : SA) (D : SD) (k : Nat) (b o rc : Nat) (zs : List Int) (ac : Int) (hac : ac = D.ac) (w : World) (hr : RS w A D) (H : SysR A D k) (hz : szY A D ≤ 1048576) (lb : b < w.heap.size) (hc : ∀ i, i < 8 → w.cell? ⟨b, o + i, none⟩ = some (.int .i64 (gt zs i))) :
    Calls Tryz.prog 200 #[.agg #[.slice A.a A.n A.c, .slice A.ta A.tn A.tc, .slice A.da A.dn A.dc, .slice A.wa A.wn A.wc, .slice A.xa A.xn A.xc, .int .i64 ac, .int .i64 D.cz, .slice A.la A.ln A.lc, .int .i64 D.dv, .slice A.oa A.on A.oc, .slice A.ga A.gn A.gc], .slice (some ⟨b, o, none⟩) 8 rc] w fun e w' => ∃ B : SA, e = .returned (.agg #[.int .i64 0, .int .i64 0, .slice B.a B.n B.c, .slice B.ta B.tn B.tc, .slice B.da B.dn B.dc, .slice B.wa B.wn B.wc, .slice B.xa B.xn B.xc, .int .i64 (gtD D (gt zs 1) (gt zs 2)).ac, .int .i64 (gtD D (gt zs 1) (gt zs 2)).cz, .slice B.la B.ln B.lc, .int .i64 (gtD D (gt zs 1) (gt zs 2)).dv, .slice B.oa B.on B.oc, .slice B.ga B.gn B.gc]) ∧ OY (InR w.heap.size w'.heap.size) B (gtD D (gt zs 1) (gt zs 2)) w' ∧ Below w.heap.size w w' := by
  subst hac
  exact callGate_calls A D k b o rc zs w hr H hz lb hc

theorem callYield_k (A : SA) (D : SD) (k : Nat) (ra : Option Addr) (rc : Nat) (ac : Int) (hac : ac = D.ac) (w : World) (hr : RS w A D) (H : SysR A D k) (hz : szY A D ≤ 1048576) :
    Calls Tryz.prog 201 #[.agg #[.slice A.a A.n A.c, .slice A.ta A.tn A.tc, .slice A.da A.dn A.dc, .slice A.wa A.wn A.wc, .slice A.xa A.xn A.xc, .int .i64 ac, .int .i64 D.cz, .slice A.la A.ln A.lc, .int .i64 D.dv, .slice A.oa A.on A.oc, .slice A.ga A.gn A.gc], .slice ra 8 rc] w fun e w' => ∃ B : SA, e = .returned (.agg #[.int .i64 0, .int .i64 0, .slice B.a B.n B.c, .slice B.ta B.tn B.tc, .slice B.da B.dn B.dc, .slice B.wa B.wn B.wc, .slice B.xa B.xn B.xc, .int .i64 (D).ac, .int .i64 (D).cz, .slice B.la B.ln B.lc, .int .i64 (D).dv, .slice B.oa B.on B.oc, .slice B.ga B.gn B.gc]) ∧ OY (InR w.heap.size w'.heap.size) B (D) w' ∧ Below w.heap.size w w' := by
  subst hac
  exact callYield_calls A D k ra rc w hr H hz

theorem callNothing_k (A : SA) (D : SD) (k : Nat) (ra : Option Addr) (rc : Nat) (ac : Int) (hac : ac = D.ac) (w : World) (hr : RS w A D) (H : SysR A D k) (hz : szY A D ≤ 1048576) :
    Calls Tryz.prog 202 #[.agg #[.slice A.a A.n A.c, .slice A.ta A.tn A.tc, .slice A.da A.dn A.dc, .slice A.wa A.wn A.wc, .slice A.xa A.xn A.xc, .int .i64 ac, .int .i64 D.cz, .slice A.la A.ln A.lc, .int .i64 D.dv, .slice A.oa A.on A.oc, .slice A.ga A.gn A.gc], .slice ra 8 rc] w fun e w' => ∃ B : SA, e = .returned (.agg #[.int .i64 0, .int .i64 1, .slice B.a B.n B.c, .slice B.ta B.tn B.tc, .slice B.da B.dn B.dc, .slice B.wa B.wn B.wc, .slice B.xa B.xn B.xc, .int .i64 (hdX D 1).ac, .int .i64 (hdX D 1).cz, .slice B.la B.ln B.lc, .int .i64 (hdX D 1).dv, .slice B.oa B.on B.oc, .slice B.ga B.gn B.gc]) ∧ OY (InR w.heap.size w'.heap.size) B (hdX D 1) w' ∧ Below w.heap.size w w' := by
  subst hac
  exact callNothing_calls A D k ra rc w hr H hz

theorem callOf_no (c : Int) (w : World) (h1 : c ≠ 1) (h2 : c ≠ 2) (h3 : c ≠ 3) (h4 : c ≠ 4) : Calls Tryz.prog 142 #[.int .i64 c] w fun e w' => e = .returned (.func (.func 202) #[] #[]) ∧ Below w.heap.size w w' := by
  by_cases h0 : c = 0
  · subst h0; exact callOf_0 w
  · refine callOf_bad c w ?_
    unfold up
    by_cases h : 0 ≤ c
    · have : ¬ c ≤ 4 := by omega
      simp [this]
    · simp [h]

set_option maxRecDepth 100000 in
set_option maxHeartbeats 8000000 in
theorem serveCall_1 (A : SA) (D : SD) (k : Nat) (w : World) (hr : RS w A D) (H : SysR A D k) (hz : szY A D ≤ 1048576) :
    Calls Tryz.prog 67 #[.agg #[.slice A.a A.n A.c, .slice A.ta A.tn A.tc, .slice A.da A.dn A.dc, .slice A.wa A.wn A.wc, .slice A.xa A.xn A.xc, .int .i64 D.ac, .int .i64 D.cz, .slice A.la A.ln A.lc, .int .i64 D.dv, .slice A.oa A.on A.oc, .slice A.ga A.gn A.gc], .int .i64 1] w fun e w' => ∃ B : SA, e = .returned (.agg #[.int .i64 0, .int .i64 (mcS D 1), .slice B.a B.n B.c, .slice B.ta B.tn B.tc, .slice B.da B.dn B.dc, .slice B.wa B.wn B.wc, .slice B.xa B.xn B.xc, .int .i64 (mcD D 1).ac, .int .i64 (mcD D 1).cz, .slice B.la B.ln B.lc, .int .i64 (mcD D 1).dv, .slice B.oa B.on B.oc, .slice B.ga B.gn B.gc]) ∧ OY (InR w.heap.size w'.heap.size) B (mcD D 1) w' ∧ Below w.heap.size w w' := by
  obtain ⟨za, zn, zc, zta, ztn, ztc, zda, zdn, zdc, zwa, zwn, zwc, zxa, zxn, zxc, zla, zln, zlc, zoa, zon, zoc, zga, zgn, zgc⟩ := A
  have hk : k < zxn := by have h1 := H.hk; have h2 := H.xd; dsimp only at h1 h2 ⊢; omega
  have hac := H.ac
  obtain ⟨h8, hrg, _, _⟩ := H.cx k H.hk
  have hact : D.ac.toNat = k := by rw [hac]; rfl
  have hxs := hr.xs
  dsimp only at hxs
  obtain ⟨bx, ox, rfl, lx, hx⟩ := hxs.2 (by omega)
  obtain ⟨la, ll, lc, x0, _, _, _, sl⟩ := hx k hk
  obtain rfl : ll = 8 := by have := sl.1; omega
  obtain ⟨b, o, rfl, lb, hcl⟩ := sl.2 (by omega)
  have M0 := ((Mm.start w).allocC [.slice za zn zc, .slice zta ztn ztc, .slice zda zdn zdc, .slice zwa zwn zwc, .slice (some ⟨bx, ox, none⟩) zxn zxc, .int .i64 D.ac, .int .i64 D.cz, .slice zla zln zlc, .int .i64 D.dv, .slice zoa zon zoc, .slice zga zgn zgc] 53).allocC [.int .i64 0, .int .i64 0, .slice none 0 0, .slice none 0 0, .slice none 0 0, .slice none 0 0, .slice none 0 0, .int .i64 0, .int .i64 0, .slice none 0 0, .int .i64 0, .slice none 0 0, .slice none 0 0] 64
  simp only [World.size_alloc] at M0
  obtain ⟨W, hW⟩ : ∃ x, x = (w.alloc (.cells #[.slice za zn zc, .slice zta ztn ztc, .slice zda zdn zdc, .slice zwa zwn zwc, .slice (some ⟨bx, ox, none⟩) zxn zxc, .int .i64 D.ac, .int .i64 D.cz, .slice zla zln zlc, .int .i64 D.dv, .slice zoa zon zoc, .slice zga zgn zgc] 53)).alloc (.cells #[.int .i64 0, .int .i64 0, .slice none 0 0, .slice none 0 0, .slice none 0 0, .slice none 0 0, .slice none 0 0, .int .i64 0, .int .i64 0, .slice none 0 0, .int .i64 0, .slice none 0 0, .slice none 0 0] 64) := ⟨_, rfl⟩
  have hWz : W.heap.size = w.heap.size + 2 := by rw [hW]; simp
  rw [← hW] at M0
  have a0 := (M0.get 1 rfl).cell 0 rfl
  have a1 := (M0.get 1 rfl).cell 1 rfl
  have a2 := (M0.get 1 rfl).cell 2 rfl
  have a3 := (M0.get 1 rfl).cell 3 rfl
  have a4 := (M0.get 1 rfl).cell 4 rfl
  have a5 := (M0.get 1 rfl).cell 5 rfl
  have a6 := (M0.get 1 rfl).cell 6 rfl
  have a7 := (M0.get 1 rfl).cell 7 rfl
  have a8 := (M0.get 1 rfl).cell 8 rfl
  have a9 := (M0.get 1 rfl).cell 9 rfl
  have a10 := (M0.get 1 rfl).cell 10 rfl
  rw [hac] at a5
  have b1 := (M0.bel.cell (p := ⟨bx, ox + k * 3, none⟩) lx).trans x0
  have HS0 : Hid (W.drew.cell? ⟨w.heap.size, 0, none⟩ = some (.slice za zn zc) ∧ W.drew.cell? ⟨w.heap.size, 1, none⟩ = some (.slice zta ztn ztc) ∧ W.drew.cell? ⟨w.heap.size, 2, none⟩ = some (.slice zda zdn zdc) ∧ W.drew.cell? ⟨w.heap.size, 3, none⟩ = some (.slice zwa zwn zwc) ∧ W.drew.cell? ⟨w.heap.size, 4, none⟩ = some (.slice (some ⟨bx, ox, none⟩) zxn zxc) ∧ W.drew.cell? ⟨w.heap.size, 5, none⟩ = some (.int .i64 (k : Int)) ∧ W.drew.cell? ⟨w.heap.size, 6, none⟩ = some (.int .i64 D.cz) ∧ W.drew.cell? ⟨w.heap.size, 7, none⟩ = some (.slice zla zln zlc) ∧ W.drew.cell? ⟨w.heap.size, 8, none⟩ = some (.int .i64 D.dv) ∧ W.drew.cell? ⟨w.heap.size, 9, none⟩ = some (.slice zoa zon zoc) ∧ W.drew.cell? ⟨w.heap.size, 10, none⟩ = some (.slice zga zgn zgc) ∧ W.drew.cell? ⟨bx, ox + k * 3, none⟩ = some (.slice (some ⟨b, o, none⟩) 8 lc) ∧ w.heap.size + 1 < W.drew.heap.size ∧ Below w.heap.size w W.drew) := ⟨a0, a1, a2, a3, a4, a5, a6, a7, a8, a9, a10, b1, by show w.heap.size + 1 < W.heap.size; omega, M0.bel.drew⟩
  have HKr := hide (M0.get 0 rfl)
  have HR := hide hr
  have HH := hide H
  have HCl := hide hcl
  have HM : Hid (mcS D 1 = tnS D (gt (gx D.cs k).1 1) ∧ mcD D 1 = hdX (tnD D (gt (gx D.cs k).1 1)) (tnS D (gt (gx D.cs k).1 1))) := by
    have h := mc_1 D
    have e1 : rgC D 1 = gt (gx D.cs k).1 1 ∧ rgC D 2 = gt (gx D.cs k).1 2 ∧ rgC D 3 = gt (gx D.cs k).1 3 := by unfold rgC; rw [hact]; exact ⟨rfl, rfl, rfl⟩
    (try rw [e1.1] at h); (try rw [e1.2.1] at h); (try rw [e1.2.2] at h)
    exact h
  have kk0 : (0 : Int) ≤ (k : Int) := by omega
  have kk1 : (k : Int) < (zxn : Int) := by omega
  have HAc := hide hac
  have HW := hide hW
  have HB0 := hide M0.bel
  clear M0 hW hr H hx x0 sl hcl hxs hac hact b1 a0 a1 a2 a3 a4 a5 a6 a7 a8 a9 a10
  go_enter Tryz.func67, Tryz.ntmps67
  go_wp2_with fail
  rw [← HW.out]
  clear HW
  go_region_held2 (fun X => X.cell? ⟨w.heap.size, 0, none⟩ = some (.slice za zn zc) ∧ X.cell? ⟨w.heap.size, 1, none⟩ = some (.slice zta ztn ztc) ∧ X.cell? ⟨w.heap.size, 2, none⟩ = some (.slice zda zdn zdc) ∧ X.cell? ⟨w.heap.size, 3, none⟩ = some (.slice zwa zwn zwc) ∧ X.cell? ⟨w.heap.size, 4, none⟩ = some (.slice (some ⟨bx, ox, none⟩) zxn zxc) ∧ X.cell? ⟨w.heap.size, 5, none⟩ = some (.int .i64 (k : Int)) ∧ X.cell? ⟨w.heap.size, 6, none⟩ = some (.int .i64 D.cz) ∧ X.cell? ⟨w.heap.size, 7, none⟩ = some (.slice zla zln zlc) ∧ X.cell? ⟨w.heap.size, 8, none⟩ = some (.int .i64 D.dv) ∧ X.cell? ⟨w.heap.size, 9, none⟩ = some (.slice zoa zon zoc) ∧ X.cell? ⟨w.heap.size, 10, none⟩ = some (.slice zga zgn zgc) ∧ X.cell? ⟨bx, ox + k * 3, none⟩ = some (.slice (some ⟨b, o, none⟩) 8 lc) ∧ w.heap.size + 1 < X.heap.size ∧ Below w.heap.size w X)
    (first | with_reducible exact HS0.out | (repeat (first | with_reducible assumption | with_reducible refine k12_set lx ?_ _ _)))
    (first
      | (go_at_call 142; refine (callOf_1 _).mono ?_; rintro e w2 ⟨rfl, g2⟩; have h2 := k12_below lx (by with_reducible assumption) g2; have z2 := g2.size; (try simp only [World.size_drew] at z2); have HK2 := hide (Cs.loc.below ((Below.refl W.heap.size W).drew.trans g2) HKr.out); clear g2)
      | (go_at_call 198; refine (callTaint_k ⟨za, zn, zc, zta, ztn, ztc, zda, zdn, zdc, zwa, zwn, zwc, (some ⟨bx, ox, none⟩), zxn, zxc, zla, zln, zlc, zoa, zon, zoc, zga, zgn, zgc⟩ D k b o lc (gx D.cs k).1 (k : Int) HAc.out.symm _ (HR.out.below (k12_bel (by with_reducible assumption)) (Nat.le_refl _)) (HH.out.move HR.out (HR.out.below (k12_bel (by with_reducible assumption)) (Nat.le_refl _))) hz (Nat.lt_of_lt_of_le lb (k12_bel (by with_reducible assumption)).size) (fun i hi => ((k12_bel (by with_reducible assumption)).cell (p := ⟨b, o + i, none⟩) lb).trans (HCl.out i hi))).mono ?_; rintro e w3 ⟨B, rfl, oy, g3⟩; have h3 := k12_below lx (by with_reducible assumption) g3; have z3 := g3.size; have K3 := Cs.loc.below g3 HK2.out; have HO4 := hide oy; have d0 := K3.cell 0 rfl; have f0 := K3.fz 0 (by simp); have d1 := K3.cell 1 rfl; have f1 := K3.fz 1 (by simp); have d2 := K3.cell 2 rfl; have f2 := K3.fz 2 (by simp); have d3 := K3.cell 3 rfl; have f3 := K3.fz 3 (by simp); have d4 := K3.cell 4 rfl; have f4 := K3.fz 4 (by simp); have d5 := K3.cell 5 rfl; have f5 := K3.fz 5 (by simp); have d6 := K3.cell 6 rfl; have f6 := K3.fz 6 (by simp); have d7 := K3.cell 7 rfl; have f7 := K3.fz 7 (by simp); have d8 := K3.cell 8 rfl; have f8 := K3.fz 8 (by simp); have d9 := K3.cell 9 rfl; have f9 := K3.fz 9 (by simp); have d10 := K3.cell 10 rfl; have f10 := K3.fz 10 (by simp); have d11 := K3.cell 11 rfl; have f11 := K3.fz 11 (by simp); have d12 := K3.cell 12 rfl; have f12 := K3.fz 12 (by simp); clear g3 oy K3))
  all_goals (
    have HB := hide (below_set13 (k12_bel h3) (P := w.heap.size + 1) (by omega) (.int .i64 0) (.int .i64 (tnS D (gt (gx D.cs k).1 1))) (.slice B.a B.n B.c) (.slice B.ta B.tn B.tc) (.slice B.da B.dn B.dc) (.slice B.wa B.wn B.wc) (.slice B.xa B.xn B.xc) (.int .i64 (hdX (tnD D (gt (gx D.cs k).1 1)) (tnS D (gt (gx D.cs k).1 1))).ac) (.int .i64 (hdX (tnD D (gt (gx D.cs k).1 1)) (tnS D (gt (gx D.cs k).1 1))).cz) (.slice B.la B.ln B.lc) (.int .i64 (hdX (tnD D (gt (gx D.cs k).1 1)) (tnS D (gt (gx D.cs k).1 1))).dv) (.slice B.oa B.on B.oc) (.slice B.ga B.gn B.gc))
    have HO := hide (loc_set13 OY.loc HO4.out (P := w.heap.size + 1) (fun h => by have := h.1; omega) (.int .i64 0) (.int .i64 (tnS D (gt (gx D.cs k).1 1))) (.slice B.a B.n B.c) (.slice B.ta B.tn B.tc) (.slice B.da B.dn B.dc) (.slice B.wa B.wn B.wc) (.slice B.xa B.xn B.xc) (.int .i64 (hdX (tnD D (gt (gx D.cs k).1 1)) (tnS D (gt (gx D.cs k).1 1))).ac) (.int .i64 (hdX (tnD D (gt (gx D.cs k).1 1)) (tnS D (gt (gx D.cs k).1 1))).cz) (.slice B.la B.ln B.lc) (.int .i64 (hdX (tnD D (gt (gx D.cs k).1 1)) (tnS D (gt (gx D.cs k).1 1))).dv) (.slice B.oa B.on B.oc) (.slice B.ga B.gn B.gc))
    clear HS0
    go_wp2
    have r0 := set13_at0 _ _ (.int .i64 0) (.int .i64 (tnS D (gt (gx D.cs k).1 1))) (.slice B.a B.n B.c) (.slice B.ta B.tn B.tc) (.slice B.da B.dn B.dc) (.slice B.wa B.wn B.wc) (.slice B.xa B.xn B.xc) (.int .i64 (hdX (tnD D (gt (gx D.cs k).1 1)) (tnS D (gt (gx D.cs k).1 1))).ac) (.int .i64 (hdX (tnD D (gt (gx D.cs k).1 1)) (tnS D (gt (gx D.cs k).1 1))).cz) (.slice B.la B.ln B.lc) (.int .i64 (hdX (tnD D (gt (gx D.cs k).1 1)) (tnS D (gt (gx D.cs k).1 1))).dv) (.slice B.oa B.on B.oc) (.slice B.ga B.gn B.gc) ⟨_, d0⟩
    have r1 := set13_at1 _ _ (.int .i64 0) (.int .i64 (tnS D (gt (gx D.cs k).1 1))) (.slice B.a B.n B.c) (.slice B.ta B.tn B.tc) (.slice B.da B.dn B.dc) (.slice B.wa B.wn B.wc) (.slice B.xa B.xn B.xc) (.int .i64 (hdX (tnD D (gt (gx D.cs k).1 1)) (tnS D (gt (gx D.cs k).1 1))).ac) (.int .i64 (hdX (tnD D (gt (gx D.cs k).1 1)) (tnS D (gt (gx D.cs k).1 1))).cz) (.slice B.la B.ln B.lc) (.int .i64 (hdX (tnD D (gt (gx D.cs k).1 1)) (tnS D (gt (gx D.cs k).1 1))).dv) (.slice B.oa B.on B.oc) (.slice B.ga B.gn B.gc) ⟨_, d1⟩
    have r2 := set13_at2 _ _ (.int .i64 0) (.int .i64 (tnS D (gt (gx D.cs k).1 1))) (.slice B.a B.n B.c) (.slice B.ta B.tn B.tc) (.slice B.da B.dn B.dc) (.slice B.wa B.wn B.wc) (.slice B.xa B.xn B.xc) (.int .i64 (hdX (tnD D (gt (gx D.cs k).1 1)) (tnS D (gt (gx D.cs k).1 1))).ac) (.int .i64 (hdX (tnD D (gt (gx D.cs k).1 1)) (tnS D (gt (gx D.cs k).1 1))).cz) (.slice B.la B.ln B.lc) (.int .i64 (hdX (tnD D (gt (gx D.cs k).1 1)) (tnS D (gt (gx D.cs k).1 1))).dv) (.slice B.oa B.on B.oc) (.slice B.ga B.gn B.gc) ⟨_, d2⟩
    have r3 := set13_at3 _ _ (.int .i64 0) (.int .i64 (tnS D (gt (gx D.cs k).1 1))) (.slice B.a B.n B.c) (.slice B.ta B.tn B.tc) (.slice B.da B.dn B.dc) (.slice B.wa B.wn B.wc) (.slice B.xa B.xn B.xc) (.int .i64 (hdX (tnD D (gt (gx D.cs k).1 1)) (tnS D (gt (gx D.cs k).1 1))).ac) (.int .i64 (hdX (tnD D (gt (gx D.cs k).1 1)) (tnS D (gt (gx D.cs k).1 1))).cz) (.slice B.la B.ln B.lc) (.int .i64 (hdX (tnD D (gt (gx D.cs k).1 1)) (tnS D (gt (gx D.cs k).1 1))).dv) (.slice B.oa B.on B.oc) (.slice B.ga B.gn B.gc) ⟨_, d3⟩
    have r4 := set13_at4 _ _ (.int .i64 0) (.int .i64 (tnS D (gt (gx D.cs k).1 1))) (.slice B.a B.n B.c) (.slice B.ta B.tn B.tc) (.slice B.da B.dn B.dc) (.slice B.wa B.wn B.wc) (.slice B.xa B.xn B.xc) (.int .i64 (hdX (tnD D (gt (gx D.cs k).1 1)) (tnS D (gt (gx D.cs k).1 1))).ac) (.int .i64 (hdX (tnD D (gt (gx D.cs k).1 1)) (tnS D (gt (gx D.cs k).1 1))).cz) (.slice B.la B.ln B.lc) (.int .i64 (hdX (tnD D (gt (gx D.cs k).1 1)) (tnS D (gt (gx D.cs k).1 1))).dv) (.slice B.oa B.on B.oc) (.slice B.ga B.gn B.gc) ⟨_, d4⟩
    have r5 := set13_at5 _ _ (.int .i64 0) (.int .i64 (tnS D (gt (gx D.cs k).1 1))) (.slice B.a B.n B.c) (.slice B.ta B.tn B.tc) (.slice B.da B.dn B.dc) (.slice B.wa B.wn B.wc) (.slice B.xa B.xn B.xc) (.int .i64 (hdX (tnD D (gt (gx D.cs k).1 1)) (tnS D (gt (gx D.cs k).1 1))).ac) (.int .i64 (hdX (tnD D (gt (gx D.cs k).1 1)) (tnS D (gt (gx D.cs k).1 1))).cz) (.slice B.la B.ln B.lc) (.int .i64 (hdX (tnD D (gt (gx D.cs k).1 1)) (tnS D (gt (gx D.cs k).1 1))).dv) (.slice B.oa B.on B.oc) (.slice B.ga B.gn B.gc) ⟨_, d5⟩
    have r6 := set13_at6 _ _ (.int .i64 0) (.int .i64 (tnS D (gt (gx D.cs k).1 1))) (.slice B.a B.n B.c) (.slice B.ta B.tn B.tc) (.slice B.da B.dn B.dc) (.slice B.wa B.wn B.wc) (.slice B.xa B.xn B.xc) (.int .i64 (hdX (tnD D (gt (gx D.cs k).1 1)) (tnS D (gt (gx D.cs k).1 1))).ac) (.int .i64 (hdX (tnD D (gt (gx D.cs k).1 1)) (tnS D (gt (gx D.cs k).1 1))).cz) (.slice B.la B.ln B.lc) (.int .i64 (hdX (tnD D (gt (gx D.cs k).1 1)) (tnS D (gt (gx D.cs k).1 1))).dv) (.slice B.oa B.on B.oc) (.slice B.ga B.gn B.gc) ⟨_, d6⟩
    have r7 := set13_at7 _ _ (.int .i64 0) (.int .i64 (tnS D (gt (gx D.cs k).1 1))) (.slice B.a B.n B.c) (.slice B.ta B.tn B.tc) (.slice B.da B.dn B.dc) (.slice B.wa B.wn B.wc) (.slice B.xa B.xn B.xc) (.int .i64 (hdX (tnD D (gt (gx D.cs k).1 1)) (tnS D (gt (gx D.cs k).1 1))).ac) (.int .i64 (hdX (tnD D (gt (gx D.cs k).1 1)) (tnS D (gt (gx D.cs k).1 1))).cz) (.slice B.la B.ln B.lc) (.int .i64 (hdX (tnD D (gt (gx D.cs k).1 1)) (tnS D (gt (gx D.cs k).1 1))).dv) (.slice B.oa B.on B.oc) (.slice B.ga B.gn B.gc) ⟨_, d7⟩
    have r8 := set13_at8 _ _ (.int .i64 0) (.int .i64 (tnS D (gt (gx D.cs k).1 1))) (.slice B.a B.n B.c) (.slice B.ta B.tn B.tc) (.slice B.da B.dn B.dc) (.slice B.wa B.wn B.wc) (.slice B.xa B.xn B.xc) (.int .i64 (hdX (tnD D (gt (gx D.cs k).1 1)) (tnS D (gt (gx D.cs k).1 1))).ac) (.int .i64 (hdX (tnD D (gt (gx D.cs k).1 1)) (tnS D (gt (gx D.cs k).1 1))).cz) (.slice B.la B.ln B.lc) (.int .i64 (hdX (tnD D (gt (gx D.cs k).1 1)) (tnS D (gt (gx D.cs k).1 1))).dv) (.slice B.oa B.on B.oc) (.slice B.ga B.gn B.gc) ⟨_, d8⟩
    have r9 := set13_at9 _ _ (.int .i64 0) (.int .i64 (tnS D (gt (gx D.cs k).1 1))) (.slice B.a B.n B.c) (.slice B.ta B.tn B.tc) (.slice B.da B.dn B.dc) (.slice B.wa B.wn B.wc) (.slice B.xa B.xn B.xc) (.int .i64 (hdX (tnD D (gt (gx D.cs k).1 1)) (tnS D (gt (gx D.cs k).1 1))).ac) (.int .i64 (hdX (tnD D (gt (gx D.cs k).1 1)) (tnS D (gt (gx D.cs k).1 1))).cz) (.slice B.la B.ln B.lc) (.int .i64 (hdX (tnD D (gt (gx D.cs k).1 1)) (tnS D (gt (gx D.cs k).1 1))).dv) (.slice B.oa B.on B.oc) (.slice B.ga B.gn B.gc) ⟨_, d9⟩
    have r10 := set13_at10 _ _ (.int .i64 0) (.int .i64 (tnS D (gt (gx D.cs k).1 1))) (.slice B.a B.n B.c) (.slice B.ta B.tn B.tc) (.slice B.da B.dn B.dc) (.slice B.wa B.wn B.wc) (.slice B.xa B.xn B.xc) (.int .i64 (hdX (tnD D (gt (gx D.cs k).1 1)) (tnS D (gt (gx D.cs k).1 1))).ac) (.int .i64 (hdX (tnD D (gt (gx D.cs k).1 1)) (tnS D (gt (gx D.cs k).1 1))).cz) (.slice B.la B.ln B.lc) (.int .i64 (hdX (tnD D (gt (gx D.cs k).1 1)) (tnS D (gt (gx D.cs k).1 1))).dv) (.slice B.oa B.on B.oc) (.slice B.ga B.gn B.gc) ⟨_, d10⟩
    have r11 := set13_at11 _ _ (.int .i64 0) (.int .i64 (tnS D (gt (gx D.cs k).1 1))) (.slice B.a B.n B.c) (.slice B.ta B.tn B.tc) (.slice B.da B.dn B.dc) (.slice B.wa B.wn B.wc) (.slice B.xa B.xn B.xc) (.int .i64 (hdX (tnD D (gt (gx D.cs k).1 1)) (tnS D (gt (gx D.cs k).1 1))).ac) (.int .i64 (hdX (tnD D (gt (gx D.cs k).1 1)) (tnS D (gt (gx D.cs k).1 1))).cz) (.slice B.la B.ln B.lc) (.int .i64 (hdX (tnD D (gt (gx D.cs k).1 1)) (tnS D (gt (gx D.cs k).1 1))).dv) (.slice B.oa B.on B.oc) (.slice B.ga B.gn B.gc) ⟨_, d11⟩
    have r12 := set13_at12 _ _ (.int .i64 0) (.int .i64 (tnS D (gt (gx D.cs k).1 1))) (.slice B.a B.n B.c) (.slice B.ta B.tn B.tc) (.slice B.da B.dn B.dc) (.slice B.wa B.wn B.wc) (.slice B.xa B.xn B.xc) (.int .i64 (hdX (tnD D (gt (gx D.cs k).1 1)) (tnS D (gt (gx D.cs k).1 1))).ac) (.int .i64 (hdX (tnD D (gt (gx D.cs k).1 1)) (tnS D (gt (gx D.cs k).1 1))).cz) (.slice B.la B.ln B.lc) (.int .i64 (hdX (tnD D (gt (gx D.cs k).1 1)) (tnS D (gt (gx D.cs k).1 1))).dv) (.slice B.oa B.on B.oc) (.slice B.ga B.gn B.gc) ⟨_, d12⟩
    refine bodyPost_ret (v := .agg #[.int .i64 0, .int .i64 (tnS D (gt (gx D.cs k).1 1)), .slice B.a B.n B.c, .slice B.ta B.tn B.tc, .slice B.da B.dn B.dc, .slice B.wa B.wn B.wc, .slice B.xa B.xn B.xc, .int .i64 (hdX (tnD D (gt (gx D.cs k).1 1)) (tnS D (gt (gx D.cs k).1 1))).ac, .int .i64 (hdX (tnD D (gt (gx D.cs k).1 1)) (tnS D (gt (gx D.cs k).1 1))).cz, .slice B.la B.ln B.lc, .int .i64 (hdX (tnD D (gt (gx D.cs k).1 1)) (tnS D (gt (gx D.cs k).1 1))).dv, .slice B.oa B.on B.oc, .slice B.ga B.gn B.gc]) (by simp [results, Tryz.results67, go_sem, r0, r1, r2, r3, r4, r5, r6, r7, r8, r9, r10, r11, r12]) rfl ⟨B, ?_, ?_, HB.out⟩
    · rw [HM.out.1, HM.out.2]
    · rw [HM.out.2]; exact HO.out.mono (fun q hq => ⟨by have := hq.1; omega, by simpa using hq.2⟩))

set_option maxRecDepth 100000 in
set_option maxHeartbeats 8000000 in
theorem serveCall_2 (A : SA) (D : SD) (k : Nat) (w : World) (hr : RS w A D) (H : SysR A D k) (hz : szY A D ≤ 1048576) :
    Calls Tryz.prog 67 #[.agg #[.slice A.a A.n A.c, .slice A.ta A.tn A.tc, .slice A.da A.dn A.dc, .slice A.wa A.wn A.wc, .slice A.xa A.xn A.xc, .int .i64 D.ac, .int .i64 D.cz, .slice A.la A.ln A.lc, .int .i64 D.dv, .slice A.oa A.on A.oc, .slice A.ga A.gn A.gc], .int .i64 2] w fun e w' => ∃ B : SA, e = .returned (.agg #[.int .i64 0, .int .i64 (mcS D 2), .slice B.a B.n B.c, .slice B.ta B.tn B.tc, .slice B.da B.dn B.dc, .slice B.wa B.wn B.wc, .slice B.xa B.xn B.xc, .int .i64 (mcD D 2).ac, .int .i64 (mcD D 2).cz, .slice B.la B.ln B.lc, .int .i64 (mcD D 2).dv, .slice B.oa B.on B.oc, .slice B.ga B.gn B.gc]) ∧ OY (InR w.heap.size w'.heap.size) B (mcD D 2) w' ∧ Below w.heap.size w w' := by
  obtain ⟨za, zn, zc, zta, ztn, ztc, zda, zdn, zdc, zwa, zwn, zwc, zxa, zxn, zxc, zla, zln, zlc, zoa, zon, zoc, zga, zgn, zgc⟩ := A
  have hk : k < zxn := by have h1 := H.hk; have h2 := H.xd; dsimp only at h1 h2 ⊢; omega
  have hac := H.ac
  obtain ⟨h8, hrg, _, _⟩ := H.cx k H.hk
  have hact : D.ac.toNat = k := by rw [hac]; rfl
  have hxs := hr.xs
  dsimp only at hxs
  obtain ⟨bx, ox, rfl, lx, hx⟩ := hxs.2 (by omega)
  obtain ⟨la, ll, lc, x0, _, _, _, sl⟩ := hx k hk
  obtain rfl : ll = 8 := by have := sl.1; omega
  obtain ⟨b, o, rfl, lb, hcl⟩ := sl.2 (by omega)
  have M0 := ((Mm.start w).allocC [.slice za zn zc, .slice zta ztn ztc, .slice zda zdn zdc, .slice zwa zwn zwc, .slice (some ⟨bx, ox, none⟩) zxn zxc, .int .i64 D.ac, .int .i64 D.cz, .slice zla zln zlc, .int .i64 D.dv, .slice zoa zon zoc, .slice zga zgn zgc] 53).allocC [.int .i64 0, .int .i64 0, .slice none 0 0, .slice none 0 0, .slice none 0 0, .slice none 0 0, .slice none 0 0, .int .i64 0, .int .i64 0, .slice none 0 0, .int .i64 0, .slice none 0 0, .slice none 0 0] 64
  simp only [World.size_alloc] at M0
  obtain ⟨W, hW⟩ : ∃ x, x = (w.alloc (.cells #[.slice za zn zc, .slice zta ztn ztc, .slice zda zdn zdc, .slice zwa zwn zwc, .slice (some ⟨bx, ox, none⟩) zxn zxc, .int .i64 D.ac, .int .i64 D.cz, .slice zla zln zlc, .int .i64 D.dv, .slice zoa zon zoc, .slice zga zgn zgc] 53)).alloc (.cells #[.int .i64 0, .int .i64 0, .slice none 0 0, .slice none 0 0, .slice none 0 0, .slice none 0 0, .slice none 0 0, .int .i64 0, .int .i64 0, .slice none 0 0, .int .i64 0, .slice none 0 0, .slice none 0 0] 64) := ⟨_, rfl⟩
  have hWz : W.heap.size = w.heap.size + 2 := by rw [hW]; simp
  rw [← hW] at M0
  have a0 := (M0.get 1 rfl).cell 0 rfl
  have a1 := (M0.get 1 rfl).cell 1 rfl
  have a2 := (M0.get 1 rfl).cell 2 rfl
  have a3 := (M0.get 1 rfl).cell 3 rfl
  have a4 := (M0.get 1 rfl).cell 4 rfl
  have a5 := (M0.get 1 rfl).cell 5 rfl
  have a6 := (M0.get 1 rfl).cell 6 rfl
  have a7 := (M0.get 1 rfl).cell 7 rfl
  have a8 := (M0.get 1 rfl).cell 8 rfl
  have a9 := (M0.get 1 rfl).cell 9 rfl
  have a10 := (M0.get 1 rfl).cell 10 rfl
  rw [hac] at a5
  have b1 := (M0.bel.cell (p := ⟨bx, ox + k * 3, none⟩) lx).trans x0
  have HS0 : Hid (W.drew.cell? ⟨w.heap.size, 0, none⟩ = some (.slice za zn zc) ∧ W.drew.cell? ⟨w.heap.size, 1, none⟩ = some (.slice zta ztn ztc) ∧ W.drew.cell? ⟨w.heap.size, 2, none⟩ = some (.slice zda zdn zdc) ∧ W.drew.cell? ⟨w.heap.size, 3, none⟩ = some (.slice zwa zwn zwc) ∧ W.drew.cell? ⟨w.heap.size, 4, none⟩ = some (.slice (some ⟨bx, ox, none⟩) zxn zxc) ∧ W.drew.cell? ⟨w.heap.size, 5, none⟩ = some (.int .i64 (k : Int)) ∧ W.drew.cell? ⟨w.heap.size, 6, none⟩ = some (.int .i64 D.cz) ∧ W.drew.cell? ⟨w.heap.size, 7, none⟩ = some (.slice zla zln zlc) ∧ W.drew.cell? ⟨w.heap.size, 8, none⟩ = some (.int .i64 D.dv) ∧ W.drew.cell? ⟨w.heap.size, 9, none⟩ = some (.slice zoa zon zoc) ∧ W.drew.cell? ⟨w.heap.size, 10, none⟩ = some (.slice zga zgn zgc) ∧ W.drew.cell? ⟨bx, ox + k * 3, none⟩ = some (.slice (some ⟨b, o, none⟩) 8 lc) ∧ w.heap.size + 1 < W.drew.heap.size ∧ Below w.heap.size w W.drew) := ⟨a0, a1, a2, a3, a4, a5, a6, a7, a8, a9, a10, b1, by show w.heap.size + 1 < W.heap.size; omega, M0.bel.drew⟩
  have HKr := hide (M0.get 0 rfl)
  have HR := hide hr
  have HH := hide H
  have HCl := hide hcl
  have HM : Hid (mcS D 2 = rtS D (gt (gx D.cs k).1 1) (gt (gx D.cs k).1 2) (gt (gx D.cs k).1 3) ∧ mcD D 2 = hdX (rtD D (gt (gx D.cs k).1 1) (gt (gx D.cs k).1 2) (gt (gx D.cs k).1 3)) (rtS D (gt (gx D.cs k).1 1) (gt (gx D.cs k).1 2) (gt (gx D.cs k).1 3))) := by
    have h := mc_2 D
    have e1 : rgC D 1 = gt (gx D.cs k).1 1 ∧ rgC D 2 = gt (gx D.cs k).1 2 ∧ rgC D 3 = gt (gx D.cs k).1 3 := by unfold rgC; rw [hact]; exact ⟨rfl, rfl, rfl⟩
    (try rw [e1.1] at h); (try rw [e1.2.1] at h); (try rw [e1.2.2] at h)
    exact h
  have kk0 : (0 : Int) ≤ (k : Int) := by omega
  have kk1 : (k : Int) < (zxn : Int) := by omega
  have HAc := hide hac
  have HW := hide hW
  have HB0 := hide M0.bel
  clear M0 hW hr H hx x0 sl hcl hxs hac hact b1 a0 a1 a2 a3 a4 a5 a6 a7 a8 a9 a10
  go_enter Tryz.func67, Tryz.ntmps67
  go_wp2_with fail
  rw [← HW.out]
  clear HW
  go_region_held2 (fun X => X.cell? ⟨w.heap.size, 0, none⟩ = some (.slice za zn zc) ∧ X.cell? ⟨w.heap.size, 1, none⟩ = some (.slice zta ztn ztc) ∧ X.cell? ⟨w.heap.size, 2, none⟩ = some (.slice zda zdn zdc) ∧ X.cell? ⟨w.heap.size, 3, none⟩ = some (.slice zwa zwn zwc) ∧ X.cell? ⟨w.heap.size, 4, none⟩ = some (.slice (some ⟨bx, ox, none⟩) zxn zxc) ∧ X.cell? ⟨w.heap.size, 5, none⟩ = some (.int .i64 (k : Int)) ∧ X.cell? ⟨w.heap.size, 6, none⟩ = some (.int .i64 D.cz) ∧ X.cell? ⟨w.heap.size, 7, none⟩ = some (.slice zla zln zlc) ∧ X.cell? ⟨w.heap.size, 8, none⟩ = some (.int .i64 D.dv) ∧ X.cell? ⟨w.heap.size, 9, none⟩ = some (.slice zoa zon zoc) ∧ X.cell? ⟨w.heap.size, 10, none⟩ = some (.slice zga zgn zgc) ∧ X.cell? ⟨bx, ox + k * 3, none⟩ = some (.slice (some ⟨b, o, none⟩) 8 lc) ∧ w.heap.size + 1 < X.heap.size ∧ Below w.heap.size w X)
    (first | with_reducible exact HS0.out | (repeat (first | with_reducible assumption | with_reducible refine k12_set lx ?_ _ _)))
    (first
      | (go_at_call 142; refine (callOf_2 _).mono ?_; rintro e w2 ⟨rfl, g2⟩; have h2 := k12_below lx (by with_reducible assumption) g2; have z2 := g2.size; (try simp only [World.size_drew] at z2); have HK2 := hide (Cs.loc.below ((Below.refl W.heap.size W).drew.trans g2) HKr.out); clear g2)
      | (go_at_call 199; refine (callRetag_k ⟨za, zn, zc, zta, ztn, ztc, zda, zdn, zdc, zwa, zwn, zwc, (some ⟨bx, ox, none⟩), zxn, zxc, zla, zln, zlc, zoa, zon, zoc, zga, zgn, zgc⟩ D k b o lc (gx D.cs k).1 (k : Int) HAc.out.symm _ (HR.out.below (k12_bel (by with_reducible assumption)) (Nat.le_refl _)) (HH.out.move HR.out (HR.out.below (k12_bel (by with_reducible assumption)) (Nat.le_refl _))) hz (Nat.lt_of_lt_of_le lb (k12_bel (by with_reducible assumption)).size) (fun i hi => ((k12_bel (by with_reducible assumption)).cell (p := ⟨b, o + i, none⟩) lb).trans (HCl.out i hi))).mono ?_; rintro e w3 ⟨B, rfl, oy, g3⟩; have h3 := k12_below lx (by with_reducible assumption) g3; have z3 := g3.size; have K3 := Cs.loc.below g3 HK2.out; have HO4 := hide oy; have d0 := K3.cell 0 rfl; have f0 := K3.fz 0 (by simp); have d1 := K3.cell 1 rfl; have f1 := K3.fz 1 (by simp); have d2 := K3.cell 2 rfl; have f2 := K3.fz 2 (by simp); have d3 := K3.cell 3 rfl; have f3 := K3.fz 3 (by simp); have d4 := K3.cell 4 rfl; have f4 := K3.fz 4 (by simp); have d5 := K3.cell 5 rfl; have f5 := K3.fz 5 (by simp); have d6 := K3.cell 6 rfl; have f6 := K3.fz 6 (by simp); have d7 := K3.cell 7 rfl; have f7 := K3.fz 7 (by simp); have d8 := K3.cell 8 rfl; have f8 := K3.fz 8 (by simp); have d9 := K3.cell 9 rfl; have f9 := K3.fz 9 (by simp); have d10 := K3.cell 10 rfl; have f10 := K3.fz 10 (by simp); have d11 := K3.cell 11 rfl; have f11 := K3.fz 11 (by simp); have d12 := K3.cell 12 rfl; have f12 := K3.fz 12 (by simp); clear g3 oy K3))
  all_goals (
    have HB := hide (below_set13 (k12_bel h3) (P := w.heap.size + 1) (by omega) (.int .i64 0) (.int .i64 (rtS D (gt (gx D.cs k).1 1) (gt (gx D.cs k).1 2) (gt (gx D.cs k).1 3))) (.slice B.a B.n B.c) (.slice B.ta B.tn B.tc) (.slice B.da B.dn B.dc) (.slice B.wa B.wn B.wc) (.slice B.xa B.xn B.xc) (.int .i64 (hdX (rtD D (gt (gx D.cs k).1 1) (gt (gx D.cs k).1 2) (gt (gx D.cs k).1 3)) (rtS D (gt (gx D.cs k).1 1) (gt (gx D.cs k).1 2) (gt (gx D.cs k).1 3))).ac) (.int .i64 (hdX (rtD D (gt (gx D.cs k).1 1) (gt (gx D.cs k).1 2) (gt (gx D.cs k).1 3)) (rtS D (gt (gx D.cs k).1 1) (gt (gx D.cs k).1 2) (gt (gx D.cs k).1 3))).cz) (.slice B.la B.ln B.lc) (.int .i64 (hdX (rtD D (gt (gx D.cs k).1 1) (gt (gx D.cs k).1 2) (gt (gx D.cs k).1 3)) (rtS D (gt (gx D.cs k).1 1) (gt (gx D.cs k).1 2) (gt (gx D.cs k).1 3))).dv) (.slice B.oa B.on B.oc) (.slice B.ga B.gn B.gc))
    have HO := hide (loc_set13 OY.loc HO4.out (P := w.heap.size + 1) (fun h => by have := h.1; omega) (.int .i64 0) (.int .i64 (rtS D (gt (gx D.cs k).1 1) (gt (gx D.cs k).1 2) (gt (gx D.cs k).1 3))) (.slice B.a B.n B.c) (.slice B.ta B.tn B.tc) (.slice B.da B.dn B.dc) (.slice B.wa B.wn B.wc) (.slice B.xa B.xn B.xc) (.int .i64 (hdX (rtD D (gt (gx D.cs k).1 1) (gt (gx D.cs k).1 2) (gt (gx D.cs k).1 3)) (rtS D (gt (gx D.cs k).1 1) (gt (gx D.cs k).1 2) (gt (gx D.cs k).1 3))).ac) (.int .i64 (hdX (rtD D (gt (gx D.cs k).1 1) (gt (gx D.cs k).1 2) (gt (gx D.cs k).1 3)) (rtS D (gt (gx D.cs k).1 1) (gt (gx D.cs k).1 2) (gt (gx D.cs k).1 3))).cz) (.slice B.la B.ln B.lc) (.int .i64 (hdX (rtD D (gt (gx D.cs k).1 1) (gt (gx D.cs k).1 2) (gt (gx D.cs k).1 3)) (rtS D (gt (gx D.cs k).1 1) (gt (gx D.cs k).1 2) (gt (gx D.cs k).1 3))).dv) (.slice B.oa B.on B.oc) (.slice B.ga B.gn B.gc))
    clear HS0
    go_wp2
    have r0 := set13_at0 _ _ (.int .i64 0) (.int .i64 (rtS D (gt (gx D.cs k).1 1) (gt (gx D.cs k).1 2) (gt (gx D.cs k).1 3))) (.slice B.a B.n B.c) (.slice B.ta B.tn B.tc) (.slice B.da B.dn B.dc) (.slice B.wa B.wn B.wc) (.slice B.xa B.xn B.xc) (.int .i64 (hdX (rtD D (gt (gx D.cs k).1 1) (gt (gx D.cs k).1 2) (gt (gx D.cs k).1 3)) (rtS D (gt (gx D.cs k).1 1) (gt (gx D.cs k).1 2) (gt (gx D.cs k).1 3))).ac) (.int .i64 (hdX (rtD D (gt (gx D.cs k).1 1) (gt (gx D.cs k).1 2) (gt (gx D.cs k).1 3)) (rtS D (gt (gx D.cs k).1 1) (gt (gx D.cs k).1 2) (gt (gx D.cs k).1 3))).cz) (.slice B.la B.ln B.lc) (.int .i64 (hdX (rtD D (gt (gx D.cs k).1 1) (gt (gx D.cs k).1 2) (gt (gx D.cs k).1 3)) (rtS D (gt (gx D.cs k).1 1) (gt (gx D.cs k).1 2) (gt (gx D.cs k).1 3))).dv) (.slice B.oa B.on B.oc) (.slice B.ga B.gn B.gc) ⟨_, d0⟩
    have r1 := set13_at1 _ _ (.int .i64 0) (.int .i64 (rtS D (gt (gx D.cs k).1 1) (gt (gx D.cs k).1 2) (gt (gx D.cs k).1 3))) (.slice B.a B.n B.c) (.slice B.ta B.tn B.tc) (.slice B.da B.dn B.dc) (.slice B.wa B.wn B.wc) (.slice B.xa B.xn B.xc) (.int .i64 (hdX (rtD D (gt (gx D.cs k).1 1) (gt (gx D.cs k).1 2) (gt (gx D.cs k).1 3)) (rtS D (gt (gx D.cs k).1 1) (gt (gx D.cs k).1 2) (gt (gx D.cs k).1 3))).ac) (.int .i64 (hdX (rtD D (gt (gx D.cs k).1 1) (gt (gx D.cs k).1 2) (gt (gx D.cs k).1 3)) (rtS D (gt (gx D.cs k).1 1) (gt (gx D.cs k).1 2) (gt (gx D.cs k).1 3))).cz) (.slice B.la B.ln B.lc) (.int .i64 (hdX (rtD D (gt (gx D.cs k).1 1) (gt (gx D.cs k).1 2) (gt (gx D.cs k).1 3)) (rtS D (gt (gx D.cs k).1 1) (gt (gx D.cs k).1 2) (gt (gx D.cs k).1 3))).dv) (.slice B.oa B.on B.oc) (.slice B.ga B.gn B.gc) ⟨_, d1⟩
    have r2 := set13_at2 _ _ (.int .i64 0) (.int .i64 (rtS D (gt (gx D.cs k).1 1) (gt (gx D.cs k).1 2) (gt (gx D.cs k).1 3))) (.slice B.a B.n B.c) (.slice B.ta B.tn B.tc) (.slice B.da B.dn B.dc) (.slice B.wa B.wn B.wc) (.slice B.xa B.xn B.xc) (.int .i64 (hdX (rtD D (gt (gx D.cs k).1 1) (gt (gx D.cs k).1 2) (gt (gx D.cs k).1 3)) (rtS D (gt (gx D.cs k).1 1) (gt (gx D.cs k).1 2) (gt (gx D.cs k).1 3))).ac) (.int .i64 (hdX (rtD D (gt (gx D.cs k).1 1) (gt (gx D.cs k).1 2) (gt (gx D.cs k).1 3)) (rtS D (gt (gx D.cs k).1 1) (gt (gx D.cs k).1 2) (gt (gx D.cs k).1 3))).cz) (.slice B.la B.ln B.lc) (.int .i64 (hdX (rtD D (gt (gx D.cs k).1 1) (gt (gx D.cs k).1 2) (gt (gx D.cs k).1 3)) (rtS D (gt (gx D.cs k).1 1) (gt (gx D.cs k).1 2) (gt (gx D.cs k).1 3))).dv) (.slice B.oa B.on B.oc) (.slice B.ga B.gn B.gc) ⟨_, d2⟩
    have r3 := set13_at3 _ _ (.int .i64 0) (.int .i64 (rtS D (gt (gx D.cs k).1 1) (gt (gx D.cs k).1 2) (gt (gx D.cs k).1 3))) (.slice B.a B.n B.c) (.slice B.ta B.tn B.tc) (.slice B.da B.dn B.dc) (.slice B.wa B.wn B.wc) (.slice B.xa B.xn B.xc) (.int .i64 (hdX (rtD D (gt (gx D.cs k).1 1) (gt (gx D.cs k).1 2) (gt (gx D.cs k).1 3)) (rtS D (gt (gx D.cs k).1 1) (gt (gx D.cs k).1 2) (gt (gx D.cs k).1 3))).ac) (.int .i64 (hdX (rtD D (gt (gx D.cs k).1 1) (gt (gx D.cs k).1 2) (gt (gx D.cs k).1 3)) (rtS D (gt (gx D.cs k).1 1) (gt (gx D.cs k).1 2) (gt (gx D.cs k).1 3))).cz) (.slice B.la B.ln B.lc) (.int .i64 (hdX (rtD D (gt (gx D.cs k).1 1) (gt (gx D.cs k).1 2) (gt (gx D.cs k).1 3)) (rtS D (gt (gx D.cs k).1 1) (gt (gx D.cs k).1 2) (gt (gx D.cs k).1 3))).dv) (.slice B.oa B.on B.oc) (.slice B.ga B.gn B.gc) ⟨_, d3⟩
    have r4 := set13_at4 _ _ (.int .i64 0) (.int .i64 (rtS D (gt (gx D.cs k).1 1) (gt (gx D.cs k).1 2) (gt (gx D.cs k).1 3))) (.slice B.a B.n B.c) (.slice B.ta B.tn B.tc) (.slice B.da B.dn B.dc) (.slice B.wa B.wn B.wc) (.slice B.xa B.xn B.xc) (.int .i64 (hdX (rtD D (gt (gx D.cs k).1 1) (gt (gx D.cs k).1 2) (gt (gx D.cs k).1 3)) (rtS D (gt (gx D.cs k).1 1) (gt (gx D.cs k).1 2) (gt (gx D.cs k).1 3))).ac) (.int .i64 (hdX (rtD D (gt (gx D.cs k).1 1) (gt (gx D.cs k).1 2) (gt (gx D.cs k).1 3)) (rtS D (gt (gx D.cs k).1 1) (gt (gx D.cs k).1 2) (gt (gx D.cs k).1 3))).cz) (.slice B.la B.ln B.lc) (.int .i64 (hdX (rtD D (gt (gx D.cs k).1 1) (gt (gx D.cs k).1 2) (gt (gx D.cs k).1 3)) (rtS D (gt (gx D.cs k).1 1) (gt (gx D.cs k).1 2) (gt (gx D.cs k).1 3))).dv) (.slice B.oa B.on B.oc) (.slice B.ga B.gn B.gc) ⟨_, d4⟩
    have r5 := set13_at5 _ _ (.int .i64 0) (.int .i64 (rtS D (gt (gx D.cs k).1 1) (gt (gx D.cs k).1 2) (gt (gx D.cs k).1 3))) (.slice B.a B.n B.c) (.slice B.ta B.tn B.tc) (.slice B.da B.dn B.dc) (.slice B.wa B.wn B.wc) (.slice B.xa B.xn B.xc) (.int .i64 (hdX (rtD D (gt (gx D.cs k).1 1) (gt (gx D.cs k).1 2) (gt (gx D.cs k).1 3)) (rtS D (gt (gx D.cs k).1 1) (gt (gx D.cs k).1 2) (gt (gx D.cs k).1 3))).ac) (.int .i64 (hdX (rtD D (gt (gx D.cs k).1 1) (gt (gx D.cs k).1 2) (gt (gx D.cs k).1 3)) (rtS D (gt (gx D.cs k).1 1) (gt (gx D.cs k).1 2) (gt (gx D.cs k).1 3))).cz) (.slice B.la B.ln B.lc) (.int .i64 (hdX (rtD D (gt (gx D.cs k).1 1) (gt (gx D.cs k).1 2) (gt (gx D.cs k).1 3)) (rtS D (gt (gx D.cs k).1 1) (gt (gx D.cs k).1 2) (gt (gx D.cs k).1 3))).dv) (.slice B.oa B.on B.oc) (.slice B.ga B.gn B.gc) ⟨_, d5⟩
    have r6 := set13_at6 _ _ (.int .i64 0) (.int .i64 (rtS D (gt (gx D.cs k).1 1) (gt (gx D.cs k).1 2) (gt (gx D.cs k).1 3))) (.slice B.a B.n B.c) (.slice B.ta B.tn B.tc) (.slice B.da B.dn B.dc) (.slice B.wa B.wn B.wc) (.slice B.xa B.xn B.xc) (.int .i64 (hdX (rtD D (gt (gx D.cs k).1 1) (gt (gx D.cs k).1 2) (gt (gx D.cs k).1 3)) (rtS D (gt (gx D.cs k).1 1) (gt (gx D.cs k).1 2) (gt (gx D.cs k).1 3))).ac) (.int .i64 (hdX (rtD D (gt (gx D.cs k).1 1) (gt (gx D.cs k).1 2) (gt (gx D.cs k).1 3)) (rtS D (gt (gx D.cs k).1 1) (gt (gx D.cs k).1 2) (gt (gx D.cs k).1 3))).cz) (.slice B.la B.ln B.lc) (.int .i64 (hdX (rtD D (gt (gx D.cs k).1 1) (gt (gx D.cs k).1 2) (gt (gx D.cs k).1 3)) (rtS D (gt (gx D.cs k).1 1) (gt (gx D.cs k).1 2) (gt (gx D.cs k).1 3))).dv) (.slice B.oa B.on B.oc) (.slice B.ga B.gn B.gc) ⟨_, d6⟩
    have r7 := set13_at7 _ _ (.int .i64 0) (.int .i64 (rtS D (gt (gx D.cs k).1 1) (gt (gx D.cs k).1 2) (gt (gx D.cs k).1 3))) (.slice B.a B.n B.c) (.slice B.ta B.tn B.tc) (.slice B.da B.dn B.dc) (.slice B.wa B.wn B.wc) (.slice B.xa B.xn B.xc) (.int .i64 (hdX (rtD D (gt (gx D.cs k).1 1) (gt (gx D.cs k).1 2) (gt (gx D.cs k).1 3)) (rtS D (gt (gx D.cs k).1 1) (gt (gx D.cs k).1 2) (gt (gx D.cs k).1 3))).ac) (.int .i64 (hdX (rtD D (gt (gx D.cs k).1 1) (gt (gx D.cs k).1 2) (gt (gx D.cs k).1 3)) (rtS D (gt (gx D.cs k).1 1) (gt (gx D.cs k).1 2) (gt (gx D.cs k).1 3))).cz) (.slice B.la B.ln B.lc) (.int .i64 (hdX (rtD D (gt (gx D.cs k).1 1) (gt (gx D.cs k).1 2) (gt (gx D.cs k).1 3)) (rtS D (gt (gx D.cs k).1 1) (gt (gx D.cs k).1 2) (gt (gx D.cs k).1 3))).dv) (.slice B.oa B.on B.oc) (.slice B.ga B.gn B.gc) ⟨_, d7⟩
    have r8 := set13_at8 _ _ (.int .i64 0) (.int .i64 (rtS D (gt (gx D.cs k).1 1) (gt (gx D.cs k).1 2) (gt (gx D.cs k).1 3))) (.slice B.a B.n B.c) (.slice B.ta B.tn B.tc) (.slice B.da B.dn B.dc) (.slice B.wa B.wn B.wc) (.slice B.xa B.xn B.xc) (.int .i64 (hdX (rtD D (gt (gx D.cs k).1 1) (gt (gx D.cs k).1 2) (gt (gx D.cs k).1 3)) (rtS D (gt (gx D.cs k).1 1) (gt (gx D.cs k).1 2) (gt (gx D.cs k).1 3))).ac) (.int .i64 (hdX (rtD D (gt (gx D.cs k).1 1) (gt (gx D.cs k).1 2) (gt (gx D.cs k).1 3)) (rtS D (gt (gx D.cs k).1 1) (gt (gx D.cs k).1 2) (gt (gx D.cs k).1 3))).cz) (.slice B.la B.ln B.lc) (.int .i64 (hdX (rtD D (gt (gx D.cs k).1 1) (gt (gx D.cs k).1 2) (gt (gx D.cs k).1 3)) (rtS D (gt (gx D.cs k).1 1) (gt (gx D.cs k).1 2) (gt (gx D.cs k).1 3))).dv) (.slice B.oa B.on B.oc) (.slice B.ga B.gn B.gc) ⟨_, d8⟩
    have r9 := set13_at9 _ _ (.int .i64 0) (.int .i64 (rtS D (gt (gx D.cs k).1 1) (gt (gx D.cs k).1 2) (gt (gx D.cs k).1 3))) (.slice B.a B.n B.c) (.slice B.ta B.tn B.tc) (.slice B.da B.dn B.dc) (.slice B.wa B.wn B.wc) (.slice B.xa B.xn B.xc) (.int .i64 (hdX (rtD D (gt (gx D.cs k).1 1) (gt (gx D.cs k).1 2) (gt (gx D.cs k).1 3)) (rtS D (gt (gx D.cs k).1 1) (gt (gx D.cs k).1 2) (gt (gx D.cs k).1 3))).ac) (.int .i64 (hdX (rtD D (gt (gx D.cs k).1 1) (gt (gx D.cs k).1 2) (gt (gx D.cs k).1 3)) (rtS D (gt (gx D.cs k).1 1) (gt (gx D.cs k).1 2) (gt (gx D.cs k).1 3))).cz) (.slice B.la B.ln B.lc) (.int .i64 (hdX (rtD D (gt (gx D.cs k).1 1) (gt (gx D.cs k).1 2) (gt (gx D.cs k).1 3)) (rtS D (gt (gx D.cs k).1 1) (gt (gx D.cs k).1 2) (gt (gx D.cs k).1 3))).dv) (.slice B.oa B.on B.oc) (.slice B.ga B.gn B.gc) ⟨_, d9⟩
    have r10 := set13_at10 _ _ (.int .i64 0) (.int .i64 (rtS D (gt (gx D.cs k).1 1) (gt (gx D.cs k).1 2) (gt (gx D.cs k).1 3))) (.slice B.a B.n B.c) (.slice B.ta B.tn B.tc) (.slice B.da B.dn B.dc) (.slice B.wa B.wn B.wc) (.slice B.xa B.xn B.xc) (.int .i64 (hdX (rtD D (gt (gx D.cs k).1 1) (gt (gx D.cs k).1 2) (gt (gx D.cs k).1 3)) (rtS D (gt (gx D.cs k).1 1) (gt (gx D.cs k).1 2) (gt (gx D.cs k).1 3))).ac) (.int .i64 (hdX (rtD D (gt (gx D.cs k).1 1) (gt (gx D.cs k).1 2) (gt (gx D.cs k).1 3)) (rtS D (gt (gx D.cs k).1 1) (gt (gx D.cs k).1 2) (gt (gx D.cs k).1 3))).cz) (.slice B.la B.ln B.lc) (.int .i64 (hdX (rtD D (gt (gx D.cs k).1 1) (gt (gx D.cs k).1 2) (gt (gx D.cs k).1 3)) (rtS D (gt (gx D.cs k).1 1) (gt (gx D.cs k).1 2) (gt (gx D.cs k).1 3))).dv) (.slice B.oa B.on B.oc) (.slice B.ga B.gn B.gc) ⟨_, d10⟩
    have r11 := set13_at11 _ _ (.int .i64 0) (.int .i64 (rtS D (gt (gx D.cs k).1 1) (gt (gx D.cs k).1 2) (gt (gx D.cs k).1 3))) (.slice B.a B.n B.c) (.slice B.ta B.tn B.tc) (.slice B.da B.dn B.dc) (.slice B.wa B.wn B.wc) (.slice B.xa B.xn B.xc) (.int .i64 (hdX (rtD D (gt (gx D.cs k).1 1) (gt (gx D.cs k).1 2) (gt (gx D.cs k).1 3)) (rtS D (gt (gx D.cs k).1 1) (gt (gx D.cs k).1 2) (gt (gx D.cs k).1 3))).ac) (.int .i64 (hdX (rtD D (gt (gx D.cs k).1 1) (gt (gx D.cs k).1 2) (gt (gx D.cs k).1 3)) (rtS D (gt (gx D.cs k).1 1) (gt (gx D.cs k).1 2) (gt (gx D.cs k).1 3))).cz) (.slice B.la B.ln B.lc) (.int .i64 (hdX (rtD D (gt (gx D.cs k).1 1) (gt (gx D.cs k).1 2) (gt (gx D.cs k).1 3)) (rtS D (gt (gx D.cs k).1 1) (gt (gx D.cs k).1 2) (gt (gx D.cs k).1 3))).dv) (.slice B.oa B.on B.oc) (.slice B.ga B.gn B.gc) ⟨_, d11⟩
    have r12 := set13_at12 _ _ (.int .i64 0) (.int .i64 (rtS D (gt (gx D.cs k).1 1) (gt (gx D.cs k).1 2) (gt (gx D.cs k).1 3))) (.slice B.a B.n B.c) (.slice B.ta B.tn B.tc) (.slice B.da B.dn B.dc) (.slice B.wa B.wn B.wc) (.slice B.xa B.xn B.xc) (.int .i64 (hdX (rtD D (gt (gx D.cs k).1 1) (gt (gx D.cs k).1 2) (gt (gx D.cs k).1 3)) (rtS D (gt (gx D.cs k).1 1) (gt (gx D.cs k).1 2) (gt (gx D.cs k).1 3))).ac) (.int .i64 (hdX (rtD D (gt (gx D.cs k).1 1) (gt (gx D.cs k).1 2) (gt (gx D.cs k).1 3)) (rtS D (gt (gx D.cs k).1 1) (gt (gx D.cs k).1 2) (gt (gx D.cs k).1 3))).cz) (.slice B.la B.ln B.lc) (.int .i64 (hdX (rtD D (gt (gx D.cs k).1 1) (gt (gx D.cs k).1 2) (gt (gx D.cs k).1 3)) (rtS D (gt (gx D.cs k).1 1) (gt (gx D.cs k).1 2) (gt (gx D.cs k).1 3))).dv) (.slice B.oa B.on B.oc) (.slice B.ga B.gn B.gc) ⟨_, d12⟩
    refine bodyPost_ret (v := .agg #[.int .i64 0, .int .i64 (rtS D (gt (gx D.cs k).1 1) (gt (gx D.cs k).1 2) (gt (gx D.cs k).1 3)), .slice B.a B.n B.c, .slice B.ta B.tn B.tc, .slice B.da B.dn B.dc, .slice B.wa B.wn B.wc, .slice B.xa B.xn B.xc, .int .i64 (hdX (rtD D (gt (gx D.cs k).1 1) (gt (gx D.cs k).1 2) (gt (gx D.cs k).1 3)) (rtS D (gt (gx D.cs k).1 1) (gt (gx D.cs k).1 2) (gt (gx D.cs k).1 3))).ac, .int .i64 (hdX (rtD D (gt (gx D.cs k).1 1) (gt (gx D.cs k).1 2) (gt (gx D.cs k).1 3)) (rtS D (gt (gx D.cs k).1 1) (gt (gx D.cs k).1 2) (gt (gx D.cs k).1 3))).cz, .slice B.la B.ln B.lc, .int .i64 (hdX (rtD D (gt (gx D.cs k).1 1) (gt (gx D.cs k).1 2) (gt (gx D.cs k).1 3)) (rtS D (gt (gx D.cs k).1 1) (gt (gx D.cs k).1 2) (gt (gx D.cs k).1 3))).dv, .slice B.oa B.on B.oc, .slice B.ga B.gn B.gc]) (by simp [results, Tryz.results67, go_sem, r0, r1, r2, r3, r4, r5, r6, r7, r8, r9, r10, r11, r12]) rfl ⟨B, ?_, ?_, HB.out⟩
    · rw [HM.out.1, HM.out.2]
    · rw [HM.out.2]; exact HO.out.mono (fun q hq => ⟨by have := hq.1; omega, by simpa using hq.2⟩))

set_option maxRecDepth 100000 in
set_option maxHeartbeats 8000000 in
theorem serveCall_3 (A : SA) (D : SD) (k : Nat) (w : World) (hr : RS w A D) (H : SysR A D k) (hz : szY A D ≤ 1048576) :
    Calls Tryz.prog 67 #[.agg #[.slice A.a A.n A.c, .slice A.ta A.tn A.tc, .slice A.da A.dn A.dc, .slice A.wa A.wn A.wc, .slice A.xa A.xn A.xc, .int .i64 D.ac, .int .i64 D.cz, .slice A.la A.ln A.lc, .int .i64 D.dv, .slice A.oa A.on A.oc, .slice A.ga A.gn A.gc], .int .i64 3] w fun e w' => ∃ B : SA, e = .returned (.agg #[.int .i64 0, .int .i64 (mcS D 3), .slice B.a B.n B.c, .slice B.ta B.tn B.tc, .slice B.da B.dn B.dc, .slice B.wa B.wn B.wc, .slice B.xa B.xn B.xc, .int .i64 (mcD D 3).ac, .int .i64 (mcD D 3).cz, .slice B.la B.ln B.lc, .int .i64 (mcD D 3).dv, .slice B.oa B.on B.oc, .slice B.ga B.gn B.gc]) ∧ OY (InR w.heap.size w'.heap.size) B (mcD D 3) w' ∧ Below w.heap.size w w' := by
  obtain ⟨za, zn, zc, zta, ztn, ztc, zda, zdn, zdc, zwa, zwn, zwc, zxa, zxn, zxc, zla, zln, zlc, zoa, zon, zoc, zga, zgn, zgc⟩ := A
  have hk : k < zxn := by have h1 := H.hk; have h2 := H.xd; dsimp only at h1 h2 ⊢; omega
  have hac := H.ac
  obtain ⟨h8, hrg, _, _⟩ := H.cx k H.hk
  have hact : D.ac.toNat = k := by rw [hac]; rfl
  have hxs := hr.xs
  dsimp only at hxs
  obtain ⟨bx, ox, rfl, lx, hx⟩ := hxs.2 (by omega)
  obtain ⟨la, ll, lc, x0, _, _, _, sl⟩ := hx k hk
  obtain rfl : ll = 8 := by have := sl.1; omega
  obtain ⟨b, o, rfl, lb, hcl⟩ := sl.2 (by omega)
  have M0 := ((Mm.start w).allocC [.slice za zn zc, .slice zta ztn ztc, .slice zda zdn zdc, .slice zwa zwn zwc, .slice (some ⟨bx, ox, none⟩) zxn zxc, .int .i64 D.ac, .int .i64 D.cz, .slice zla zln zlc, .int .i64 D.dv, .slice zoa zon zoc, .slice zga zgn zgc] 53).allocC [.int .i64 0, .int .i64 0, .slice none 0 0, .slice none 0 0, .slice none 0 0, .slice none 0 0, .slice none 0 0, .int .i64 0, .int .i64 0, .slice none 0 0, .int .i64 0, .slice none 0 0, .slice none 0 0] 64
  simp only [World.size_alloc] at M0
  obtain ⟨W, hW⟩ : ∃ x, x = (w.alloc (.cells #[.slice za zn zc, .slice zta ztn ztc, .slice zda zdn zdc, .slice zwa zwn zwc, .slice (some ⟨bx, ox, none⟩) zxn zxc, .int .i64 D.ac, .int .i64 D.cz, .slice zla zln zlc, .int .i64 D.dv, .slice zoa zon zoc, .slice zga zgn zgc] 53)).alloc (.cells #[.int .i64 0, .int .i64 0, .slice none 0 0, .slice none 0 0, .slice none 0 0, .slice none 0 0, .slice none 0 0, .int .i64 0, .int .i64 0, .slice none 0 0, .int .i64 0, .slice none 0 0, .slice none 0 0] 64) := ⟨_, rfl⟩
  have hWz : W.heap.size = w.heap.size + 2 := by rw [hW]; simp
  rw [← hW] at M0
  have a0 := (M0.get 1 rfl).cell 0 rfl
  have a1 := (M0.get 1 rfl).cell 1 rfl
  have a2 := (M0.get 1 rfl).cell 2 rfl
  have a3 := (M0.get 1 rfl).cell 3 rfl
  have a4 := (M0.get 1 rfl).cell 4 rfl
  have a5 := (M0.get 1 rfl).cell 5 rfl
  have a6 := (M0.get 1 rfl).cell 6 rfl
  have a7 := (M0.get 1 rfl).cell 7 rfl
  have a8 := (M0.get 1 rfl).cell 8 rfl
  have a9 := (M0.get 1 rfl).cell 9 rfl
  have a10 := (M0.get 1 rfl).cell 10 rfl
  rw [hac] at a5
  have b1 := (M0.bel.cell (p := ⟨bx, ox + k * 3, none⟩) lx).trans x0
  have HS0 : Hid (W.drew.cell? ⟨w.heap.size, 0, none⟩ = some (.slice za zn zc) ∧ W.drew.cell? ⟨w.heap.size, 1, none⟩ = some (.slice zta ztn ztc) ∧ W.drew.cell? ⟨w.heap.size, 2, none⟩ = some (.slice zda zdn zdc) ∧ W.drew.cell? ⟨w.heap.size, 3, none⟩ = some (.slice zwa zwn zwc) ∧ W.drew.cell? ⟨w.heap.size, 4, none⟩ = some (.slice (some ⟨bx, ox, none⟩) zxn zxc) ∧ W.drew.cell? ⟨w.heap.size, 5, none⟩ = some (.int .i64 (k : Int)) ∧ W.drew.cell? ⟨w.heap.size, 6, none⟩ = some (.int .i64 D.cz) ∧ W.drew.cell? ⟨w.heap.size, 7, none⟩ = some (.slice zla zln zlc) ∧ W.drew.cell? ⟨w.heap.size, 8, none⟩ = some (.int .i64 D.dv) ∧ W.drew.cell? ⟨w.heap.size, 9, none⟩ = some (.slice zoa zon zoc) ∧ W.drew.cell? ⟨w.heap.size, 10, none⟩ = some (.slice zga zgn zgc) ∧ W.drew.cell? ⟨bx, ox + k * 3, none⟩ = some (.slice (some ⟨b, o, none⟩) 8 lc) ∧ w.heap.size + 1 < W.drew.heap.size ∧ Below w.heap.size w W.drew) := ⟨a0, a1, a2, a3, a4, a5, a6, a7, a8, a9, a10, b1, by show w.heap.size + 1 < W.heap.size; omega, M0.bel.drew⟩
  have HKr := hide (M0.get 0 rfl)
  have HR := hide hr
  have HH := hide H
  have HCl := hide hcl
  have HM : Hid (mcS D 3 = 0 ∧ mcD D 3 = gtD D (gt (gx D.cs k).1 1) (gt (gx D.cs k).1 2)) := by
    have h := mc_3 D
    have e1 : rgC D 1 = gt (gx D.cs k).1 1 ∧ rgC D 2 = gt (gx D.cs k).1 2 ∧ rgC D 3 = gt (gx D.cs k).1 3 := by unfold rgC; rw [hact]; exact ⟨rfl, rfl, rfl⟩
    (try rw [e1.1] at h); (try rw [e1.2.1] at h); (try rw [e1.2.2] at h)
    exact h
  have kk0 : (0 : Int) ≤ (k : Int) := by omega
  have kk1 : (k : Int) < (zxn : Int) := by omega
  have HAc := hide hac
  have HW := hide hW
  have HB0 := hide M0.bel
  clear M0 hW hr H hx x0 sl hcl hxs hac hact b1 a0 a1 a2 a3 a4 a5 a6 a7 a8 a9 a10
  go_enter Tryz.func67, Tryz.ntmps67
  go_wp2_with fail
  rw [← HW.out]
  clear HW
  go_region_held2 (fun X => X.cell? ⟨w.heap.size, 0, none⟩ = some (.slice za zn zc) ∧ X.cell? ⟨w.heap.size, 1, none⟩ = some (.slice zta ztn ztc) ∧ X.cell? ⟨w.heap.size, 2, none⟩ = some (.slice zda zdn zdc) ∧ X.cell? ⟨w.heap.size, 3, none⟩ = some (.slice zwa zwn zwc) ∧ X.cell? ⟨w.heap.size, 4, none⟩ = some (.slice (some ⟨bx, ox, none⟩) zxn zxc) ∧ X.cell? ⟨w.heap.size, 5, none⟩ = some (.int .i64 (k : Int)) ∧ X.cell? ⟨w.heap.size, 6, none⟩ = some (.int .i64 D.cz) ∧ X.cell? ⟨w.heap.size, 7, none⟩ = some (.slice zla zln zlc) ∧ X.cell? ⟨w.heap.size, 8, none⟩ = some (.int .i64 D.dv) ∧ X.cell? ⟨w.heap.size, 9, none⟩ = some (.slice zoa zon zoc) ∧ X.cell? ⟨w.heap.size, 10, none⟩ = some (.slice zga zgn zgc) ∧ X.cell? ⟨bx, ox + k * 3, none⟩ = some (.slice (some ⟨b, o, none⟩) 8 lc) ∧ w.heap.size + 1 < X.heap.size ∧ Below w.heap.size w X)
    (first | with_reducible exact HS0.out | (repeat (first | with_reducible assumption | with_reducible refine k12_set lx ?_ _ _)))
    (first
      | (go_at_call 142; refine (callOf_3 _).mono ?_; rintro e w2 ⟨rfl, g2⟩; have h2 := k12_below lx (by with_reducible assumption) g2; have z2 := g2.size; (try simp only [World.size_drew] at z2); have HK2 := hide (Cs.loc.below ((Below.refl W.heap.size W).drew.trans g2) HKr.out); clear g2)
      | (go_at_call 200; refine (callGate_k ⟨za, zn, zc, zta, ztn, ztc, zda, zdn, zdc, zwa, zwn, zwc, (some ⟨bx, ox, none⟩), zxn, zxc, zla, zln, zlc, zoa, zon, zoc, zga, zgn, zgc⟩ D k b o lc (gx D.cs k).1 (k : Int) HAc.out.symm _ (HR.out.below (k12_bel (by with_reducible assumption)) (Nat.le_refl _)) (HH.out.move HR.out (HR.out.below (k12_bel (by with_reducible assumption)) (Nat.le_refl _))) hz (Nat.lt_of_lt_of_le lb (k12_bel (by with_reducible assumption)).size) (fun i hi => ((k12_bel (by with_reducible assumption)).cell (p := ⟨b, o + i, none⟩) lb).trans (HCl.out i hi))).mono ?_; rintro e w3 ⟨B, rfl, oy, g3⟩; have h3 := k12_below lx (by with_reducible assumption) g3; have z3 := g3.size; have K3 := Cs.loc.below g3 HK2.out; have HO4 := hide oy; have d0 := K3.cell 0 rfl; have f0 := K3.fz 0 (by simp); have d1 := K3.cell 1 rfl; have f1 := K3.fz 1 (by simp); have d2 := K3.cell 2 rfl; have f2 := K3.fz 2 (by simp); have d3 := K3.cell 3 rfl; have f3 := K3.fz 3 (by simp); have d4 := K3.cell 4 rfl; have f4 := K3.fz 4 (by simp); have d5 := K3.cell 5 rfl; have f5 := K3.fz 5 (by simp); have d6 := K3.cell 6 rfl; have f6 := K3.fz 6 (by simp); have d7 := K3.cell 7 rfl; have f7 := K3.fz 7 (by simp); have d8 := K3.cell 8 rfl; have f8 := K3.fz 8 (by simp); have d9 := K3.cell 9 rfl; have f9 := K3.fz 9 (by simp); have d10 := K3.cell 10 rfl; have f10 := K3.fz 10 (by simp); have d11 := K3.cell 11 rfl; have f11 := K3.fz 11 (by simp); have d12 := K3.cell 12 rfl; have f12 := K3.fz 12 (by simp); clear g3 oy K3))
  all_goals (
    have HB := hide (below_set13 (k12_bel h3) (P := w.heap.size + 1) (by omega) (.int .i64 0) (.int .i64 (0)) (.slice B.a B.n B.c) (.slice B.ta B.tn B.tc) (.slice B.da B.dn B.dc) (.slice B.wa B.wn B.wc) (.slice B.xa B.xn B.xc) (.int .i64 (gtD D (gt (gx D.cs k).1 1) (gt (gx D.cs k).1 2)).ac) (.int .i64 (gtD D (gt (gx D.cs k).1 1) (gt (gx D.cs k).1 2)).cz) (.slice B.la B.ln B.lc) (.int .i64 (gtD D (gt (gx D.cs k).1 1) (gt (gx D.cs k).1 2)).dv) (.slice B.oa B.on B.oc) (.slice B.ga B.gn B.gc))
    have HO := hide (loc_set13 OY.loc HO4.out (P := w.heap.size + 1) (fun h => by have := h.1; omega) (.int .i64 0) (.int .i64 (0)) (.slice B.a B.n B.c) (.slice B.ta B.tn B.tc) (.slice B.da B.dn B.dc) (.slice B.wa B.wn B.wc) (.slice B.xa B.xn B.xc) (.int .i64 (gtD D (gt (gx D.cs k).1 1) (gt (gx D.cs k).1 2)).ac) (.int .i64 (gtD D (gt (gx D.cs k).1 1) (gt (gx D.cs k).1 2)).cz) (.slice B.la B.ln B.lc) (.int .i64 (gtD D (gt (gx D.cs k).1 1) (gt (gx D.cs k).1 2)).dv) (.slice B.oa B.on B.oc) (.slice B.ga B.gn B.gc))
    clear HS0
    go_wp2
    have r0 := set13_at0 _ _ (.int .i64 0) (.int .i64 (0)) (.slice B.a B.n B.c) (.slice B.ta B.tn B.tc) (.slice B.da B.dn B.dc) (.slice B.wa B.wn B.wc) (.slice B.xa B.xn B.xc) (.int .i64 (gtD D (gt (gx D.cs k).1 1) (gt (gx D.cs k).1 2)).ac) (.int .i64 (gtD D (gt (gx D.cs k).1 1) (gt (gx D.cs k).1 2)).cz) (.slice B.la B.ln B.lc) (.int .i64 (gtD D (gt (gx D.cs k).1 1) (gt (gx D.cs k).1 2)).dv) (.slice B.oa B.on B.oc) (.slice B.ga B.gn B.gc) ⟨_, d0⟩
    have r1 := set13_at1 _ _ (.int .i64 0) (.int .i64 (0)) (.slice B.a B.n B.c) (.slice B.ta B.tn B.tc) (.slice B.da B.dn B.dc) (.slice B.wa B.wn B.wc) (.slice B.xa B.xn B.xc) (.int .i64 (gtD D (gt (gx D.cs k).1 1) (gt (gx D.cs k).1 2)).ac) (.int .i64 (gtD D (gt (gx D.cs k).1 1) (gt (gx D.cs k).1 2)).cz) (.slice B.la B.ln B.lc) (.int .i64 (gtD D (gt (gx D.cs k).1 1) (gt (gx D.cs k).1 2)).dv) (.slice B.oa B.on B.oc) (.slice B.ga B.gn B.gc) ⟨_, d1⟩
    have r2 := set13_at2 _ _ (.int .i64 0) (.int .i64 (0)) (.slice B.a B.n B.c) (.slice B.ta B.tn B.tc) (.slice B.da B.dn B.dc) (.slice B.wa B.wn B.wc) (.slice B.xa B.xn B.xc) (.int .i64 (gtD D (gt (gx D.cs k).1 1) (gt (gx D.cs k).1 2)).ac) (.int .i64 (gtD D (gt (gx D.cs k).1 1) (gt (gx D.cs k).1 2)).cz) (.slice B.la B.ln B.lc) (.int .i64 (gtD D (gt (gx D.cs k).1 1) (gt (gx D.cs k).1 2)).dv) (.slice B.oa B.on B.oc) (.slice B.ga B.gn B.gc) ⟨_, d2⟩
    have r3 := set13_at3 _ _ (.int .i64 0) (.int .i64 (0)) (.slice B.a B.n B.c) (.slice B.ta B.tn B.tc) (.slice B.da B.dn B.dc) (.slice B.wa B.wn B.wc) (.slice B.xa B.xn B.xc) (.int .i64 (gtD D (gt (gx D.cs k).1 1) (gt (gx D.cs k).1 2)).ac) (.int .i64 (gtD D (gt (gx D.cs k).1 1) (gt (gx D.cs k).1 2)).cz) (.slice B.la B.ln B.lc) (.int .i64 (gtD D (gt (gx D.cs k).1 1) (gt (gx D.cs k).1 2)).dv) (.slice B.oa B.on B.oc) (.slice B.ga B.gn B.gc) ⟨_, d3⟩
    have r4 := set13_at4 _ _ (.int .i64 0) (.int .i64 (0)) (.slice B.a B.n B.c) (.slice B.ta B.tn B.tc) (.slice B.da B.dn B.dc) (.slice B.wa B.wn B.wc) (.slice B.xa B.xn B.xc) (.int .i64 (gtD D (gt (gx D.cs k).1 1) (gt (gx D.cs k).1 2)).ac) (.int .i64 (gtD D (gt (gx D.cs k).1 1) (gt (gx D.cs k).1 2)).cz) (.slice B.la B.ln B.lc) (.int .i64 (gtD D (gt (gx D.cs k).1 1) (gt (gx D.cs k).1 2)).dv) (.slice B.oa B.on B.oc) (.slice B.ga B.gn B.gc) ⟨_, d4⟩
    have r5 := set13_at5 _ _ (.int .i64 0) (.int .i64 (0)) (.slice B.a B.n B.c) (.slice B.ta B.tn B.tc) (.slice B.da B.dn B.dc) (.slice B.wa B.wn B.wc) (.slice B.xa B.xn B.xc) (.int .i64 (gtD D (gt (gx D.cs k).1 1) (gt (gx D.cs k).1 2)).ac) (.int .i64 (gtD D (gt (gx D.cs k).1 1) (gt (gx D.cs k).1 2)).cz) (.slice B.la B.ln B.lc) (.int .i64 (gtD D (gt (gx D.cs k).1 1) (gt (gx D.cs k).1 2)).dv) (.slice B.oa B.on B.oc) (.slice B.ga B.gn B.gc) ⟨_, d5⟩
    have r6 := set13_at6 _ _ (.int .i64 0) (.int .i64 (0)) (.slice B.a B.n B.c) (.slice B.ta B.tn B.tc) (.slice B.da B.dn B.dc) (.slice B.wa B.wn B.wc) (.slice B.xa B.xn B.xc) (.int .i64 (gtD D (gt (gx D.cs k).1 1) (gt (gx D.cs k).1 2)).ac) (.int .i64 (gtD D (gt (gx D.cs k).1 1) (gt (gx D.cs k).1 2)).cz) (.slice B.la B.ln B.lc) (.int .i64 (gtD D (gt (gx D.cs k).1 1) (gt (gx D.cs k).1 2)).dv) (.slice B.oa B.on B.oc) (.slice B.ga B.gn B.gc) ⟨_, d6⟩
    have r7 := set13_at7 _ _ (.int .i64 0) (.int .i64 (0)) (.slice B.a B.n B.c) (.slice B.ta B.tn B.tc) (.slice B.da B.dn B.dc) (.slice B.wa B.wn B.wc) (.slice B.xa B.xn B.xc) (.int .i64 (gtD D (gt (gx D.cs k).1 1) (gt (gx D.cs k).1 2)).ac) (.int .i64 (gtD D (gt (gx D.cs k).1 1) (gt (gx D.cs k).1 2)).cz) (.slice B.la B.ln B.lc) (.int .i64 (gtD D (gt (gx D.cs k).1 1) (gt (gx D.cs k).1 2)).dv) (.slice B.oa B.on B.oc) (.slice B.ga B.gn B.gc) ⟨_, d7⟩
    have r8 := set13_at8 _ _ (.int .i64 0) (.int .i64 (0)) (.slice B.a B.n B.c) (.slice B.ta B.tn B.tc) (.slice B.da B.dn B.dc) (.slice B.wa B.wn B.wc) (.slice B.xa B.xn B.xc) (.int .i64 (gtD D (gt (gx D.cs k).1 1) (gt (gx D.cs k).1 2)).ac) (.int .i64 (gtD D (gt (gx D.cs k).1 1) (gt (gx D.cs k).1 2)).cz) (.slice B.la B.ln B.lc) (.int .i64 (gtD D (gt (gx D.cs k).1 1) (gt (gx D.cs k).1 2)).dv) (.slice B.oa B.on B.oc) (.slice B.ga B.gn B.gc) ⟨_, d8⟩
    have r9 := set13_at9 _ _ (.int .i64 0) (.int .i64 (0)) (.slice B.a B.n B.c) (.slice B.ta B.tn B.tc) (.slice B.da B.dn B.dc) (.slice B.wa B.wn B.wc) (.slice B.xa B.xn B.xc) (.int .i64 (gtD D (gt (gx D.cs k).1 1) (gt (gx D.cs k).1 2)).ac) (.int .i64 (gtD D (gt (gx D.cs k).1 1) (gt (gx D.cs k).1 2)).cz) (.slice B.la B.ln B.lc) (.int .i64 (gtD D (gt (gx D.cs k).1 1) (gt (gx D.cs k).1 2)).dv) (.slice B.oa B.on B.oc) (.slice B.ga B.gn B.gc) ⟨_, d9⟩
    have r10 := set13_at10 _ _ (.int .i64 0) (.int .i64 (0)) (.slice B.a B.n B.c) (.slice B.ta B.tn B.tc) (.slice B.da B.dn B.dc) (.slice B.wa B.wn B.wc) (.slice B.xa B.xn B.xc) (.int .i64 (gtD D (gt (gx D.cs k).1 1) (gt (gx D.cs k).1 2)).ac) (.int .i64 (gtD D (gt (gx D.cs k).1 1) (gt (gx D.cs k).1 2)).cz) (.slice B.la B.ln B.lc) (.int .i64 (gtD D (gt (gx D.cs k).1 1) (gt (gx D.cs k).1 2)).dv) (.slice B.oa B.on B.oc) (.slice B.ga B.gn B.gc) ⟨_, d10⟩
    have r11 := set13_at11 _ _ (.int .i64 0) (.int .i64 (0)) (.slice B.a B.n B.c) (.slice B.ta B.tn B.tc) (.slice B.da B.dn B.dc) (.slice B.wa B.wn B.wc) (.slice B.xa B.xn B.xc) (.int .i64 (gtD D (gt (gx D.cs k).1 1) (gt (gx D.cs k).1 2)).ac) (.int .i64 (gtD D (gt (gx D.cs k).1 1) (gt (gx D.cs k).1 2)).cz) (.slice B.la B.ln B.lc) (.int .i64 (gtD D (gt (gx D.cs k).1 1) (gt (gx D.cs k).1 2)).dv) (.slice B.oa B.on B.oc) (.slice B.ga B.gn B.gc) ⟨_, d11⟩
    have r12 := set13_at12 _ _ (.int .i64 0) (.int .i64 (0)) (.slice B.a B.n B.c) (.slice B.ta B.tn B.tc) (.slice B.da B.dn B.dc) (.slice B.wa B.wn B.wc) (.slice B.xa B.xn B.xc) (.int .i64 (gtD D (gt (gx D.cs k).1 1) (gt (gx D.cs k).1 2)).ac) (.int .i64 (gtD D (gt (gx D.cs k).1 1) (gt (gx D.cs k).1 2)).cz) (.slice B.la B.ln B.lc) (.int .i64 (gtD D (gt (gx D.cs k).1 1) (gt (gx D.cs k).1 2)).dv) (.slice B.oa B.on B.oc) (.slice B.ga B.gn B.gc) ⟨_, d12⟩
    refine bodyPost_ret (v := .agg #[.int .i64 0, .int .i64 (0), .slice B.a B.n B.c, .slice B.ta B.tn B.tc, .slice B.da B.dn B.dc, .slice B.wa B.wn B.wc, .slice B.xa B.xn B.xc, .int .i64 (gtD D (gt (gx D.cs k).1 1) (gt (gx D.cs k).1 2)).ac, .int .i64 (gtD D (gt (gx D.cs k).1 1) (gt (gx D.cs k).1 2)).cz, .slice B.la B.ln B.lc, .int .i64 (gtD D (gt (gx D.cs k).1 1) (gt (gx D.cs k).1 2)).dv, .slice B.oa B.on B.oc, .slice B.ga B.gn B.gc]) (by simp [results, Tryz.results67, go_sem, r0, r1, r2, r3, r4, r5, r6, r7, r8, r9, r10, r11, r12]) rfl ⟨B, ?_, ?_, HB.out⟩
    · rw [HM.out.1, HM.out.2]
    · rw [HM.out.2]; exact HO.out.mono (fun q hq => ⟨by have := hq.1; omega, by simpa using hq.2⟩))

set_option maxRecDepth 100000 in
set_option maxHeartbeats 8000000 in
theorem serveCall_4 (A : SA) (D : SD) (k : Nat) (w : World) (hr : RS w A D) (H : SysR A D k) (hz : szY A D ≤ 1048576) :
    Calls Tryz.prog 67 #[.agg #[.slice A.a A.n A.c, .slice A.ta A.tn A.tc, .slice A.da A.dn A.dc, .slice A.wa A.wn A.wc, .slice A.xa A.xn A.xc, .int .i64 D.ac, .int .i64 D.cz, .slice A.la A.ln A.lc, .int .i64 D.dv, .slice A.oa A.on A.oc, .slice A.ga A.gn A.gc], .int .i64 4] w fun e w' => ∃ B : SA, e = .returned (.agg #[.int .i64 0, .int .i64 (mcS D 4), .slice B.a B.n B.c, .slice B.ta B.tn B.tc, .slice B.da B.dn B.dc, .slice B.wa B.wn B.wc, .slice B.xa B.xn B.xc, .int .i64 (mcD D 4).ac, .int .i64 (mcD D 4).cz, .slice B.la B.ln B.lc, .int .i64 (mcD D 4).dv, .slice B.oa B.on B.oc, .slice B.ga B.gn B.gc]) ∧ OY (InR w.heap.size w'.heap.size) B (mcD D 4) w' ∧ Below w.heap.size w w' := by
  obtain ⟨za, zn, zc, zta, ztn, ztc, zda, zdn, zdc, zwa, zwn, zwc, zxa, zxn, zxc, zla, zln, zlc, zoa, zon, zoc, zga, zgn, zgc⟩ := A
  have hk : k < zxn := by have h1 := H.hk; have h2 := H.xd; dsimp only at h1 h2 ⊢; omega
  have hac := H.ac
  obtain ⟨h8, hrg, _, _⟩ := H.cx k H.hk
  have hact : D.ac.toNat = k := by rw [hac]; rfl
  have hxs := hr.xs
  dsimp only at hxs
  obtain ⟨bx, ox, rfl, lx, hx⟩ := hxs.2 (by omega)
  obtain ⟨la, ll, lc, x0, _, _, _, sl⟩ := hx k hk
  obtain rfl : ll = 8 := by have := sl.1; omega
  obtain ⟨b, o, rfl, lb, hcl⟩ := sl.2 (by omega)
  have M0 := ((Mm.start w).allocC [.slice za zn zc, .slice zta ztn ztc, .slice zda zdn zdc, .slice zwa zwn zwc, .slice (some ⟨bx, ox, none⟩) zxn zxc, .int .i64 D.ac, .int .i64 D.cz, .slice zla zln zlc, .int .i64 D.dv, .slice zoa zon zoc, .slice zga zgn zgc] 53).allocC [.int .i64 0, .int .i64 0, .slice none 0 0, .slice none 0 0, .slice none 0 0, .slice none 0 0, .slice none 0 0, .int .i64 0, .int .i64 0, .slice none 0 0, .int .i64 0, .slice none 0 0, .slice none 0 0] 64
  simp only [World.size_alloc] at M0
  obtain ⟨W, hW⟩ : ∃ x, x = (w.alloc (.cells #[.slice za zn zc, .slice zta ztn ztc, .slice zda zdn zdc, .slice zwa zwn zwc, .slice (some ⟨bx, ox, none⟩) zxn zxc, .int .i64 D.ac, .int .i64 D.cz, .slice zla zln zlc, .int .i64 D.dv, .slice zoa zon zoc, .slice zga zgn zgc] 53)).alloc (.cells #[.int .i64 0, .int .i64 0, .slice none 0 0, .slice none 0 0, .slice none 0 0, .slice none 0 0, .slice none 0 0, .int .i64 0, .int .i64 0, .slice none 0 0, .int .i64 0, .slice none 0 0, .slice none 0 0] 64) := ⟨_, rfl⟩
  have hWz : W.heap.size = w.heap.size + 2 := by rw [hW]; simp
  rw [← hW] at M0
  have a0 := (M0.get 1 rfl).cell 0 rfl
  have a1 := (M0.get 1 rfl).cell 1 rfl
  have a2 := (M0.get 1 rfl).cell 2 rfl
  have a3 := (M0.get 1 rfl).cell 3 rfl
  have a4 := (M0.get 1 rfl).cell 4 rfl
  have a5 := (M0.get 1 rfl).cell 5 rfl
  have a6 := (M0.get 1 rfl).cell 6 rfl
  have a7 := (M0.get 1 rfl).cell 7 rfl
  have a8 := (M0.get 1 rfl).cell 8 rfl
  have a9 := (M0.get 1 rfl).cell 9 rfl
  have a10 := (M0.get 1 rfl).cell 10 rfl
  rw [hac] at a5
  have b1 := (M0.bel.cell (p := ⟨bx, ox + k * 3, none⟩) lx).trans x0
  have HS0 : Hid (W.drew.cell? ⟨w.heap.size, 0, none⟩ = some (.slice za zn zc) ∧ W.drew.cell? ⟨w.heap.size, 1, none⟩ = some (.slice zta ztn ztc) ∧ W.drew.cell? ⟨w.heap.size, 2, none⟩ = some (.slice zda zdn zdc) ∧ W.drew.cell? ⟨w.heap.size, 3, none⟩ = some (.slice zwa zwn zwc) ∧ W.drew.cell? ⟨w.heap.size, 4, none⟩ = some (.slice (some ⟨bx, ox, none⟩) zxn zxc) ∧ W.drew.cell? ⟨w.heap.size, 5, none⟩ = some (.int .i64 (k : Int)) ∧ W.drew.cell? ⟨w.heap.size, 6, none⟩ = some (.int .i64 D.cz) ∧ W.drew.cell? ⟨w.heap.size, 7, none⟩ = some (.slice zla zln zlc) ∧ W.drew.cell? ⟨w.heap.size, 8, none⟩ = some (.int .i64 D.dv) ∧ W.drew.cell? ⟨w.heap.size, 9, none⟩ = some (.slice zoa zon zoc) ∧ W.drew.cell? ⟨w.heap.size, 10, none⟩ = some (.slice zga zgn zgc) ∧ W.drew.cell? ⟨bx, ox + k * 3, none⟩ = some (.slice (some ⟨b, o, none⟩) 8 lc) ∧ w.heap.size + 1 < W.drew.heap.size ∧ Below w.heap.size w W.drew) := ⟨a0, a1, a2, a3, a4, a5, a6, a7, a8, a9, a10, b1, by show w.heap.size + 1 < W.heap.size; omega, M0.bel.drew⟩
  have HKr := hide (M0.get 0 rfl)
  have HR := hide hr
  have HH := hide H
  have HCl := hide hcl
  have HM : Hid (mcS D 4 = 0 ∧ mcD D 4 = D) := by
    have h := mc_4 D
    have e1 : rgC D 1 = gt (gx D.cs k).1 1 ∧ rgC D 2 = gt (gx D.cs k).1 2 ∧ rgC D 3 = gt (gx D.cs k).1 3 := by unfold rgC; rw [hact]; exact ⟨rfl, rfl, rfl⟩
    (try rw [e1.1] at h); (try rw [e1.2.1] at h); (try rw [e1.2.2] at h)
    exact h
  have kk0 : (0 : Int) ≤ (k : Int) := by omega
  have kk1 : (k : Int) < (zxn : Int) := by omega
  have HAc := hide hac
  have HW := hide hW
  have HB0 := hide M0.bel
  clear M0 hW hr H hx x0 sl hcl hxs hac hact b1 a0 a1 a2 a3 a4 a5 a6 a7 a8 a9 a10
  go_enter Tryz.func67, Tryz.ntmps67
  go_wp2_with fail
  rw [← HW.out]
  clear HW
  go_region_held2 (fun X => X.cell? ⟨w.heap.size, 0, none⟩ = some (.slice za zn zc) ∧ X.cell? ⟨w.heap.size, 1, none⟩ = some (.slice zta ztn ztc) ∧ X.cell? ⟨w.heap.size, 2, none⟩ = some (.slice zda zdn zdc) ∧ X.cell? ⟨w.heap.size, 3, none⟩ = some (.slice zwa zwn zwc) ∧ X.cell? ⟨w.heap.size, 4, none⟩ = some (.slice (some ⟨bx, ox, none⟩) zxn zxc) ∧ X.cell? ⟨w.heap.size, 5, none⟩ = some (.int .i64 (k : Int)) ∧ X.cell? ⟨w.heap.size, 6, none⟩ = some (.int .i64 D.cz) ∧ X.cell? ⟨w.heap.size, 7, none⟩ = some (.slice zla zln zlc) ∧ X.cell? ⟨w.heap.size, 8, none⟩ = some (.int .i64 D.dv) ∧ X.cell? ⟨w.heap.size, 9, none⟩ = some (.slice zoa zon zoc) ∧ X.cell? ⟨w.heap.size, 10, none⟩ = some (.slice zga zgn zgc) ∧ X.cell? ⟨bx, ox + k * 3, none⟩ = some (.slice (some ⟨b, o, none⟩) 8 lc) ∧ w.heap.size + 1 < X.heap.size ∧ Below w.heap.size w X)
    (first | with_reducible exact HS0.out | (repeat (first | with_reducible assumption | with_reducible refine k12_set lx ?_ _ _)))
    (first
      | (go_at_call 142; refine (callOf_4 _).mono ?_; rintro e w2 ⟨rfl, g2⟩; have h2 := k12_below lx (by with_reducible assumption) g2; have z2 := g2.size; (try simp only [World.size_drew] at z2); have HK2 := hide (Cs.loc.below ((Below.refl W.heap.size W).drew.trans g2) HKr.out); clear g2)
      | (go_at_call 201; refine (callYield_k ⟨za, zn, zc, zta, ztn, ztc, zda, zdn, zdc, zwa, zwn, zwc, (some ⟨bx, ox, none⟩), zxn, zxc, zla, zln, zlc, zoa, zon, zoc, zga, zgn, zgc⟩ D k (some ⟨b, o, none⟩) lc (k : Int) HAc.out.symm _ (HR.out.below (k12_bel (by with_reducible assumption)) (Nat.le_refl _)) (HH.out.move HR.out (HR.out.below (k12_bel (by with_reducible assumption)) (Nat.le_refl _))) hz).mono ?_; rintro e w3 ⟨B, rfl, oy, g3⟩; have h3 := k12_below lx (by with_reducible assumption) g3; have z3 := g3.size; have K3 := Cs.loc.below g3 HK2.out; have HO4 := hide oy; have d0 := K3.cell 0 rfl; have f0 := K3.fz 0 (by simp); have d1 := K3.cell 1 rfl; have f1 := K3.fz 1 (by simp); have d2 := K3.cell 2 rfl; have f2 := K3.fz 2 (by simp); have d3 := K3.cell 3 rfl; have f3 := K3.fz 3 (by simp); have d4 := K3.cell 4 rfl; have f4 := K3.fz 4 (by simp); have d5 := K3.cell 5 rfl; have f5 := K3.fz 5 (by simp); have d6 := K3.cell 6 rfl; have f6 := K3.fz 6 (by simp); have d7 := K3.cell 7 rfl; have f7 := K3.fz 7 (by simp); have d8 := K3.cell 8 rfl; have f8 := K3.fz 8 (by simp); have d9 := K3.cell 9 rfl; have f9 := K3.fz 9 (by simp); have d10 := K3.cell 10 rfl; have f10 := K3.fz 10 (by simp); have d11 := K3.cell 11 rfl; have f11 := K3.fz 11 (by simp); have d12 := K3.cell 12 rfl; have f12 := K3.fz 12 (by simp); clear g3 oy K3))
  all_goals (
    have HB := hide (below_set13 (k12_bel h3) (P := w.heap.size + 1) (by omega) (.int .i64 0) (.int .i64 (0)) (.slice B.a B.n B.c) (.slice B.ta B.tn B.tc) (.slice B.da B.dn B.dc) (.slice B.wa B.wn B.wc) (.slice B.xa B.xn B.xc) (.int .i64 (D).ac) (.int .i64 (D).cz) (.slice B.la B.ln B.lc) (.int .i64 (D).dv) (.slice B.oa B.on B.oc) (.slice B.ga B.gn B.gc))
    have HO := hide (loc_set13 OY.loc HO4.out (P := w.heap.size + 1) (fun h => by have := h.1; omega) (.int .i64 0) (.int .i64 (0)) (.slice B.a B.n B.c) (.slice B.ta B.tn B.tc) (.slice B.da B.dn B.dc) (.slice B.wa B.wn B.wc) (.slice B.xa B.xn B.xc) (.int .i64 (D).ac) (.int .i64 (D).cz) (.slice B.la B.ln B.lc) (.int .i64 (D).dv) (.slice B.oa B.on B.oc) (.slice B.ga B.gn B.gc))
    clear HS0
    go_wp2
    have r0 := set13_at0 _ _ (.int .i64 0) (.int .i64 (0)) (.slice B.a B.n B.c) (.slice B.ta B.tn B.tc) (.slice B.da B.dn B.dc) (.slice B.wa B.wn B.wc) (.slice B.xa B.xn B.xc) (.int .i64 (D).ac) (.int .i64 (D).cz) (.slice B.la B.ln B.lc) (.int .i64 (D).dv) (.slice B.oa B.on B.oc) (.slice B.ga B.gn B.gc) ⟨_, d0⟩
    have r1 := set13_at1 _ _ (.int .i64 0) (.int .i64 (0)) (.slice B.a B.n B.c) (.slice B.ta B.tn B.tc) (.slice B.da B.dn B.dc) (.slice B.wa B.wn B.wc) (.slice B.xa B.xn B.xc) (.int .i64 (D).ac) (.int .i64 (D).cz) (.slice B.la B.ln B.lc) (.int .i64 (D).dv) (.slice B.oa B.on B.oc) (.slice B.ga B.gn B.gc) ⟨_, d1⟩
    have r2 := set13_at2 _ _ (.int .i64 0) (.int .i64 (0)) (.slice B.a B.n B.c) (.slice B.ta B.tn B.tc) (.slice B.da B.dn B.dc) (.slice B.wa B.wn B.wc) (.slice B.xa B.xn B.xc) (.int .i64 (D).ac) (.int .i64 (D).cz) (.slice B.la B.ln B.lc) (.int .i64 (D).dv) (.slice B.oa B.on B.oc) (.slice B.ga B.gn B.gc) ⟨_, d2⟩
    have r3 := set13_at3 _ _ (.int .i64 0) (.int .i64 (0)) (.slice B.a B.n B.c) (.slice B.ta B.tn B.tc) (.slice B.da B.dn B.dc) (.slice B.wa B.wn B.wc) (.slice B.xa B.xn B.xc) (.int .i64 (D).ac) (.int .i64 (D).cz) (.slice B.la B.ln B.lc) (.int .i64 (D).dv) (.slice B.oa B.on B.oc) (.slice B.ga B.gn B.gc) ⟨_, d3⟩
    have r4 := set13_at4 _ _ (.int .i64 0) (.int .i64 (0)) (.slice B.a B.n B.c) (.slice B.ta B.tn B.tc) (.slice B.da B.dn B.dc) (.slice B.wa B.wn B.wc) (.slice B.xa B.xn B.xc) (.int .i64 (D).ac) (.int .i64 (D).cz) (.slice B.la B.ln B.lc) (.int .i64 (D).dv) (.slice B.oa B.on B.oc) (.slice B.ga B.gn B.gc) ⟨_, d4⟩
    have r5 := set13_at5 _ _ (.int .i64 0) (.int .i64 (0)) (.slice B.a B.n B.c) (.slice B.ta B.tn B.tc) (.slice B.da B.dn B.dc) (.slice B.wa B.wn B.wc) (.slice B.xa B.xn B.xc) (.int .i64 (D).ac) (.int .i64 (D).cz) (.slice B.la B.ln B.lc) (.int .i64 (D).dv) (.slice B.oa B.on B.oc) (.slice B.ga B.gn B.gc) ⟨_, d5⟩
    have r6 := set13_at6 _ _ (.int .i64 0) (.int .i64 (0)) (.slice B.a B.n B.c) (.slice B.ta B.tn B.tc) (.slice B.da B.dn B.dc) (.slice B.wa B.wn B.wc) (.slice B.xa B.xn B.xc) (.int .i64 (D).ac) (.int .i64 (D).cz) (.slice B.la B.ln B.lc) (.int .i64 (D).dv) (.slice B.oa B.on B.oc) (.slice B.ga B.gn B.gc) ⟨_, d6⟩
    have r7 := set13_at7 _ _ (.int .i64 0) (.int .i64 (0)) (.slice B.a B.n B.c) (.slice B.ta B.tn B.tc) (.slice B.da B.dn B.dc) (.slice B.wa B.wn B.wc) (.slice B.xa B.xn B.xc) (.int .i64 (D).ac) (.int .i64 (D).cz) (.slice B.la B.ln B.lc) (.int .i64 (D).dv) (.slice B.oa B.on B.oc) (.slice B.ga B.gn B.gc) ⟨_, d7⟩
    have r8 := set13_at8 _ _ (.int .i64 0) (.int .i64 (0)) (.slice B.a B.n B.c) (.slice B.ta B.tn B.tc) (.slice B.da B.dn B.dc) (.slice B.wa B.wn B.wc) (.slice B.xa B.xn B.xc) (.int .i64 (D).ac) (.int .i64 (D).cz) (.slice B.la B.ln B.lc) (.int .i64 (D).dv) (.slice B.oa B.on B.oc) (.slice B.ga B.gn B.gc) ⟨_, d8⟩
    have r9 := set13_at9 _ _ (.int .i64 0) (.int .i64 (0)) (.slice B.a B.n B.c) (.slice B.ta B.tn B.tc) (.slice B.da B.dn B.dc) (.slice B.wa B.wn B.wc) (.slice B.xa B.xn B.xc) (.int .i64 (D).ac) (.int .i64 (D).cz) (.slice B.la B.ln B.lc) (.int .i64 (D).dv) (.slice B.oa B.on B.oc) (.slice B.ga B.gn B.gc) ⟨_, d9⟩
    have r10 := set13_at10 _ _ (.int .i64 0) (.int .i64 (0)) (.slice B.a B.n B.c) (.slice B.ta B.tn B.tc) (.slice B.da B.dn B.dc) (.slice B.wa B.wn B.wc) (.slice B.xa B.xn B.xc) (.int .i64 (D).ac) (.int .i64 (D).cz) (.slice B.la B.ln B.lc) (.int .i64 (D).dv) (.slice B.oa B.on B.oc) (.slice B.ga B.gn B.gc) ⟨_, d10⟩
    have r11 := set13_at11 _ _ (.int .i64 0) (.int .i64 (0)) (.slice B.a B.n B.c) (.slice B.ta B.tn B.tc) (.slice B.da B.dn B.dc) (.slice B.wa B.wn B.wc) (.slice B.xa B.xn B.xc) (.int .i64 (D).ac) (.int .i64 (D).cz) (.slice B.la B.ln B.lc) (.int .i64 (D).dv) (.slice B.oa B.on B.oc) (.slice B.ga B.gn B.gc) ⟨_, d11⟩
    have r12 := set13_at12 _ _ (.int .i64 0) (.int .i64 (0)) (.slice B.a B.n B.c) (.slice B.ta B.tn B.tc) (.slice B.da B.dn B.dc) (.slice B.wa B.wn B.wc) (.slice B.xa B.xn B.xc) (.int .i64 (D).ac) (.int .i64 (D).cz) (.slice B.la B.ln B.lc) (.int .i64 (D).dv) (.slice B.oa B.on B.oc) (.slice B.ga B.gn B.gc) ⟨_, d12⟩
    refine bodyPost_ret (v := .agg #[.int .i64 0, .int .i64 (0), .slice B.a B.n B.c, .slice B.ta B.tn B.tc, .slice B.da B.dn B.dc, .slice B.wa B.wn B.wc, .slice B.xa B.xn B.xc, .int .i64 (D).ac, .int .i64 (D).cz, .slice B.la B.ln B.lc, .int .i64 (D).dv, .slice B.oa B.on B.oc, .slice B.ga B.gn B.gc]) (by simp [results, Tryz.results67, go_sem, r0, r1, r2, r3, r4, r5, r6, r7, r8, r9, r10, r11, r12]) rfl ⟨B, ?_, ?_, HB.out⟩
    · rw [HM.out.1, HM.out.2]
    · rw [HM.out.2]; exact HO.out.mono (fun q hq => ⟨by have := hq.1; omega, by simpa using hq.2⟩))

set_option maxRecDepth 100000 in
set_option maxHeartbeats 8000000 in
theorem serveCall_o (A : SA) (D : SD) (k : Nat) (c : Int) (w : World) (hr : RS w A D) (H : SysR A D k) (hz : szY A D ≤ 1048576) (h1 : c ≠ 1) (h2 : c ≠ 2) (h3 : c ≠ 3) (h4 : c ≠ 4) :
    Calls Tryz.prog 67 #[.agg #[.slice A.a A.n A.c, .slice A.ta A.tn A.tc, .slice A.da A.dn A.dc, .slice A.wa A.wn A.wc, .slice A.xa A.xn A.xc, .int .i64 D.ac, .int .i64 D.cz, .slice A.la A.ln A.lc, .int .i64 D.dv, .slice A.oa A.on A.oc, .slice A.ga A.gn A.gc], .int .i64 c] w fun e w' => ∃ B : SA, e = .returned (.agg #[.int .i64 0, .int .i64 (mcS D c), .slice B.a B.n B.c, .slice B.ta B.tn B.tc, .slice B.da B.dn B.dc, .slice B.wa B.wn B.wc, .slice B.xa B.xn B.xc, .int .i64 (mcD D c).ac, .int .i64 (mcD D c).cz, .slice B.la B.ln B.lc, .int .i64 (mcD D c).dv, .slice B.oa B.on B.oc, .slice B.ga B.gn B.gc]) ∧ OY (InR w.heap.size w'.heap.size) B (mcD D c) w' ∧ Below w.heap.size w w' := by
  obtain ⟨za, zn, zc, zta, ztn, ztc, zda, zdn, zdc, zwa, zwn, zwc, zxa, zxn, zxc, zla, zln, zlc, zoa, zon, zoc, zga, zgn, zgc⟩ := A
  have hk : k < zxn := by have h1 := H.hk; have h2 := H.xd; dsimp only at h1 h2 ⊢; omega
  have hac := H.ac
  obtain ⟨h8, hrg, _, _⟩ := H.cx k H.hk
  have hact : D.ac.toNat = k := by rw [hac]; rfl
  have hxs := hr.xs
  dsimp only at hxs
  obtain ⟨bx, ox, rfl, lx, hx⟩ := hxs.2 (by omega)
  obtain ⟨la, ll, lc, x0, _, _, _, sl⟩ := hx k hk
  obtain rfl : ll = 8 := by have := sl.1; omega
  obtain ⟨b, o, rfl, lb, hcl⟩ := sl.2 (by omega)
  have M0 := ((Mm.start w).allocC [.slice za zn zc, .slice zta ztn ztc, .slice zda zdn zdc, .slice zwa zwn zwc, .slice (some ⟨bx, ox, none⟩) zxn zxc, .int .i64 D.ac, .int .i64 D.cz, .slice zla zln zlc, .int .i64 D.dv, .slice zoa zon zoc, .slice zga zgn zgc] 53).allocC [.int .i64 0, .int .i64 0, .slice none 0 0, .slice none 0 0, .slice none 0 0, .slice none 0 0, .slice none 0 0, .int .i64 0, .int .i64 0, .slice none 0 0, .int .i64 0, .slice none 0 0, .slice none 0 0] 64
  simp only [World.size_alloc] at M0
  obtain ⟨W, hW⟩ : ∃ x, x = (w.alloc (.cells #[.slice za zn zc, .slice zta ztn ztc, .slice zda zdn zdc, .slice zwa zwn zwc, .slice (some ⟨bx, ox, none⟩) zxn zxc, .int .i64 D.ac, .int .i64 D.cz, .slice zla zln zlc, .int .i64 D.dv, .slice zoa zon zoc, .slice zga zgn zgc] 53)).alloc (.cells #[.int .i64 0, .int .i64 0, .slice none 0 0, .slice none 0 0, .slice none 0 0, .slice none 0 0, .slice none 0 0, .int .i64 0, .int .i64 0, .slice none 0 0, .int .i64 0, .slice none 0 0, .slice none 0 0] 64) := ⟨_, rfl⟩
  have hWz : W.heap.size = w.heap.size + 2 := by rw [hW]; simp
  rw [← hW] at M0
  have a0 := (M0.get 1 rfl).cell 0 rfl
  have a1 := (M0.get 1 rfl).cell 1 rfl
  have a2 := (M0.get 1 rfl).cell 2 rfl
  have a3 := (M0.get 1 rfl).cell 3 rfl
  have a4 := (M0.get 1 rfl).cell 4 rfl
  have a5 := (M0.get 1 rfl).cell 5 rfl
  have a6 := (M0.get 1 rfl).cell 6 rfl
  have a7 := (M0.get 1 rfl).cell 7 rfl
  have a8 := (M0.get 1 rfl).cell 8 rfl
  have a9 := (M0.get 1 rfl).cell 9 rfl
  have a10 := (M0.get 1 rfl).cell 10 rfl
  rw [hac] at a5
  have b1 := (M0.bel.cell (p := ⟨bx, ox + k * 3, none⟩) lx).trans x0
  have HS0 : Hid (W.drew.cell? ⟨w.heap.size, 0, none⟩ = some (.slice za zn zc) ∧ W.drew.cell? ⟨w.heap.size, 1, none⟩ = some (.slice zta ztn ztc) ∧ W.drew.cell? ⟨w.heap.size, 2, none⟩ = some (.slice zda zdn zdc) ∧ W.drew.cell? ⟨w.heap.size, 3, none⟩ = some (.slice zwa zwn zwc) ∧ W.drew.cell? ⟨w.heap.size, 4, none⟩ = some (.slice (some ⟨bx, ox, none⟩) zxn zxc) ∧ W.drew.cell? ⟨w.heap.size, 5, none⟩ = some (.int .i64 (k : Int)) ∧ W.drew.cell? ⟨w.heap.size, 6, none⟩ = some (.int .i64 D.cz) ∧ W.drew.cell? ⟨w.heap.size, 7, none⟩ = some (.slice zla zln zlc) ∧ W.drew.cell? ⟨w.heap.size, 8, none⟩ = some (.int .i64 D.dv) ∧ W.drew.cell? ⟨w.heap.size, 9, none⟩ = some (.slice zoa zon zoc) ∧ W.drew.cell? ⟨w.heap.size, 10, none⟩ = some (.slice zga zgn zgc) ∧ W.drew.cell? ⟨bx, ox + k * 3, none⟩ = some (.slice (some ⟨b, o, none⟩) 8 lc) ∧ w.heap.size + 1 < W.drew.heap.size ∧ Below w.heap.size w W.drew) := ⟨a0, a1, a2, a3, a4, a5, a6, a7, a8, a9, a10, b1, by show w.heap.size + 1 < W.heap.size; omega, M0.bel.drew⟩
  have HKr := hide (M0.get 0 rfl)
  have HR := hide hr
  have HH := hide H
  have HCl := hide hcl
  have HM : Hid (mcS D c = 1 ∧ mcD D c = hdX D 1) := by
    have h := mc_o D h1 h2 h3 h4
    have e1 : rgC D 1 = gt (gx D.cs k).1 1 ∧ rgC D 2 = gt (gx D.cs k).1 2 ∧ rgC D 3 = gt (gx D.cs k).1 3 := by unfold rgC; rw [hact]; exact ⟨rfl, rfl, rfl⟩
    (try rw [e1.1] at h); (try rw [e1.2.1] at h); (try rw [e1.2.2] at h)
    exact h
  have kk0 : (0 : Int) ≤ (k : Int) := by omega
  have kk1 : (k : Int) < (zxn : Int) := by omega
  have HAc := hide hac
  have HW := hide hW
  have HB0 := hide M0.bel
  clear M0 hW hr H hx x0 sl hcl hxs hac hact b1 a0 a1 a2 a3 a4 a5 a6 a7 a8 a9 a10
  go_enter Tryz.func67, Tryz.ntmps67
  go_wp2_with fail
  rw [← HW.out]
  clear HW
  go_region_held2 (fun X => X.cell? ⟨w.heap.size, 0, none⟩ = some (.slice za zn zc) ∧ X.cell? ⟨w.heap.size, 1, none⟩ = some (.slice zta ztn ztc) ∧ X.cell? ⟨w.heap.size, 2, none⟩ = some (.slice zda zdn zdc) ∧ X.cell? ⟨w.heap.size, 3, none⟩ = some (.slice zwa zwn zwc) ∧ X.cell? ⟨w.heap.size, 4, none⟩ = some (.slice (some ⟨bx, ox, none⟩) zxn zxc) ∧ X.cell? ⟨w.heap.size, 5, none⟩ = some (.int .i64 (k : Int)) ∧ X.cell? ⟨w.heap.size, 6, none⟩ = some (.int .i64 D.cz) ∧ X.cell? ⟨w.heap.size, 7, none⟩ = some (.slice zla zln zlc) ∧ X.cell? ⟨w.heap.size, 8, none⟩ = some (.int .i64 D.dv) ∧ X.cell? ⟨w.heap.size, 9, none⟩ = some (.slice zoa zon zoc) ∧ X.cell? ⟨w.heap.size, 10, none⟩ = some (.slice zga zgn zgc) ∧ X.cell? ⟨bx, ox + k * 3, none⟩ = some (.slice (some ⟨b, o, none⟩) 8 lc) ∧ w.heap.size + 1 < X.heap.size ∧ Below w.heap.size w X)
    (first | with_reducible exact HS0.out | (repeat (first | with_reducible assumption | with_reducible refine k12_set lx ?_ _ _)))
    (first
      | (go_at_call 142; refine (callOf_no c _ h1 h2 h3 h4).mono ?_; rintro e w2 ⟨rfl, g2⟩; have h2 := k12_below lx (by with_reducible assumption) g2; have z2 := g2.size; (try simp only [World.size_drew] at z2); have HK2 := hide (Cs.loc.below ((Below.refl W.heap.size W).drew.trans g2) HKr.out); clear g2)
      | (go_at_call 202; refine (callNothing_k ⟨za, zn, zc, zta, ztn, ztc, zda, zdn, zdc, zwa, zwn, zwc, (some ⟨bx, ox, none⟩), zxn, zxc, zla, zln, zlc, zoa, zon, zoc, zga, zgn, zgc⟩ D k (some ⟨b, o, none⟩) lc (k : Int) HAc.out.symm _ (HR.out.below (k12_bel (by with_reducible assumption)) (Nat.le_refl _)) (HH.out.move HR.out (HR.out.below (k12_bel (by with_reducible assumption)) (Nat.le_refl _))) hz).mono ?_; rintro e w3 ⟨B, rfl, oy, g3⟩; have h3 := k12_below lx (by with_reducible assumption) g3; have z3 := g3.size; have K3 := Cs.loc.below g3 HK2.out; have HO4 := hide oy; have d0 := K3.cell 0 rfl; have f0 := K3.fz 0 (by simp); have d1 := K3.cell 1 rfl; have f1 := K3.fz 1 (by simp); have d2 := K3.cell 2 rfl; have f2 := K3.fz 2 (by simp); have d3 := K3.cell 3 rfl; have f3 := K3.fz 3 (by simp); have d4 := K3.cell 4 rfl; have f4 := K3.fz 4 (by simp); have d5 := K3.cell 5 rfl; have f5 := K3.fz 5 (by simp); have d6 := K3.cell 6 rfl; have f6 := K3.fz 6 (by simp); have d7 := K3.cell 7 rfl; have f7 := K3.fz 7 (by simp); have d8 := K3.cell 8 rfl; have f8 := K3.fz 8 (by simp); have d9 := K3.cell 9 rfl; have f9 := K3.fz 9 (by simp); have d10 := K3.cell 10 rfl; have f10 := K3.fz 10 (by simp); have d11 := K3.cell 11 rfl; have f11 := K3.fz 11 (by simp); have d12 := K3.cell 12 rfl; have f12 := K3.fz 12 (by simp); clear g3 oy K3))
  all_goals (
    have HB := hide (below_set13 (k12_bel h3) (P := w.heap.size + 1) (by omega) (.int .i64 0) (.int .i64 (1)) (.slice B.a B.n B.c) (.slice B.ta B.tn B.tc) (.slice B.da B.dn B.dc) (.slice B.wa B.wn B.wc) (.slice B.xa B.xn B.xc) (.int .i64 (hdX D 1).ac) (.int .i64 (hdX D 1).cz) (.slice B.la B.ln B.lc) (.int .i64 (hdX D 1).dv) (.slice B.oa B.on B.oc) (.slice B.ga B.gn B.gc))
    have HO := hide (loc_set13 OY.loc HO4.out (P := w.heap.size + 1) (fun h => by have := h.1; omega) (.int .i64 0) (.int .i64 (1)) (.slice B.a B.n B.c) (.slice B.ta B.tn B.tc) (.slice B.da B.dn B.dc) (.slice B.wa B.wn B.wc) (.slice B.xa B.xn B.xc) (.int .i64 (hdX D 1).ac) (.int .i64 (hdX D 1).cz) (.slice B.la B.ln B.lc) (.int .i64 (hdX D 1).dv) (.slice B.oa B.on B.oc) (.slice B.ga B.gn B.gc))
    clear HS0
    go_wp2
    have r0 := set13_at0 _ _ (.int .i64 0) (.int .i64 (1)) (.slice B.a B.n B.c) (.slice B.ta B.tn B.tc) (.slice B.da B.dn B.dc) (.slice B.wa B.wn B.wc) (.slice B.xa B.xn B.xc) (.int .i64 (hdX D 1).ac) (.int .i64 (hdX D 1).cz) (.slice B.la B.ln B.lc) (.int .i64 (hdX D 1).dv) (.slice B.oa B.on B.oc) (.slice B.ga B.gn B.gc) ⟨_, d0⟩
    have r1 := set13_at1 _ _ (.int .i64 0) (.int .i64 (1)) (.slice B.a B.n B.c) (.slice B.ta B.tn B.tc) (.slice B.da B.dn B.dc) (.slice B.wa B.wn B.wc) (.slice B.xa B.xn B.xc) (.int .i64 (hdX D 1).ac) (.int .i64 (hdX D 1).cz) (.slice B.la B.ln B.lc) (.int .i64 (hdX D 1).dv) (.slice B.oa B.on B.oc) (.slice B.ga B.gn B.gc) ⟨_, d1⟩
    have r2 := set13_at2 _ _ (.int .i64 0) (.int .i64 (1)) (.slice B.a B.n B.c) (.slice B.ta B.tn B.tc) (.slice B.da B.dn B.dc) (.slice B.wa B.wn B.wc) (.slice B.xa B.xn B.xc) (.int .i64 (hdX D 1).ac) (.int .i64 (hdX D 1).cz) (.slice B.la B.ln B.lc) (.int .i64 (hdX D 1).dv) (.slice B.oa B.on B.oc) (.slice B.ga B.gn B.gc) ⟨_, d2⟩
    have r3 := set13_at3 _ _ (.int .i64 0) (.int .i64 (1)) (.slice B.a B.n B.c) (.slice B.ta B.tn B.tc) (.slice B.da B.dn B.dc) (.slice B.wa B.wn B.wc) (.slice B.xa B.xn B.xc) (.int .i64 (hdX D 1).ac) (.int .i64 (hdX D 1).cz) (.slice B.la B.ln B.lc) (.int .i64 (hdX D 1).dv) (.slice B.oa B.on B.oc) (.slice B.ga B.gn B.gc) ⟨_, d3⟩
    have r4 := set13_at4 _ _ (.int .i64 0) (.int .i64 (1)) (.slice B.a B.n B.c) (.slice B.ta B.tn B.tc) (.slice B.da B.dn B.dc) (.slice B.wa B.wn B.wc) (.slice B.xa B.xn B.xc) (.int .i64 (hdX D 1).ac) (.int .i64 (hdX D 1).cz) (.slice B.la B.ln B.lc) (.int .i64 (hdX D 1).dv) (.slice B.oa B.on B.oc) (.slice B.ga B.gn B.gc) ⟨_, d4⟩
    have r5 := set13_at5 _ _ (.int .i64 0) (.int .i64 (1)) (.slice B.a B.n B.c) (.slice B.ta B.tn B.tc) (.slice B.da B.dn B.dc) (.slice B.wa B.wn B.wc) (.slice B.xa B.xn B.xc) (.int .i64 (hdX D 1).ac) (.int .i64 (hdX D 1).cz) (.slice B.la B.ln B.lc) (.int .i64 (hdX D 1).dv) (.slice B.oa B.on B.oc) (.slice B.ga B.gn B.gc) ⟨_, d5⟩
    have r6 := set13_at6 _ _ (.int .i64 0) (.int .i64 (1)) (.slice B.a B.n B.c) (.slice B.ta B.tn B.tc) (.slice B.da B.dn B.dc) (.slice B.wa B.wn B.wc) (.slice B.xa B.xn B.xc) (.int .i64 (hdX D 1).ac) (.int .i64 (hdX D 1).cz) (.slice B.la B.ln B.lc) (.int .i64 (hdX D 1).dv) (.slice B.oa B.on B.oc) (.slice B.ga B.gn B.gc) ⟨_, d6⟩
    have r7 := set13_at7 _ _ (.int .i64 0) (.int .i64 (1)) (.slice B.a B.n B.c) (.slice B.ta B.tn B.tc) (.slice B.da B.dn B.dc) (.slice B.wa B.wn B.wc) (.slice B.xa B.xn B.xc) (.int .i64 (hdX D 1).ac) (.int .i64 (hdX D 1).cz) (.slice B.la B.ln B.lc) (.int .i64 (hdX D 1).dv) (.slice B.oa B.on B.oc) (.slice B.ga B.gn B.gc) ⟨_, d7⟩
    have r8 := set13_at8 _ _ (.int .i64 0) (.int .i64 (1)) (.slice B.a B.n B.c) (.slice B.ta B.tn B.tc) (.slice B.da B.dn B.dc) (.slice B.wa B.wn B.wc) (.slice B.xa B.xn B.xc) (.int .i64 (hdX D 1).ac) (.int .i64 (hdX D 1).cz) (.slice B.la B.ln B.lc) (.int .i64 (hdX D 1).dv) (.slice B.oa B.on B.oc) (.slice B.ga B.gn B.gc) ⟨_, d8⟩
    have r9 := set13_at9 _ _ (.int .i64 0) (.int .i64 (1)) (.slice B.a B.n B.c) (.slice B.ta B.tn B.tc) (.slice B.da B.dn B.dc) (.slice B.wa B.wn B.wc) (.slice B.xa B.xn B.xc) (.int .i64 (hdX D 1).ac) (.int .i64 (hdX D 1).cz) (.slice B.la B.ln B.lc) (.int .i64 (hdX D 1).dv) (.slice B.oa B.on B.oc) (.slice B.ga B.gn B.gc) ⟨_, d9⟩
    have r10 := set13_at10 _ _ (.int .i64 0) (.int .i64 (1)) (.slice B.a B.n B.c) (.slice B.ta B.tn B.tc) (.slice B.da B.dn B.dc) (.slice B.wa B.wn B.wc) (.slice B.xa B.xn B.xc) (.int .i64 (hdX D 1).ac) (.int .i64 (hdX D 1).cz) (.slice B.la B.ln B.lc) (.int .i64 (hdX D 1).dv) (.slice B.oa B.on B.oc) (.slice B.ga B.gn B.gc) ⟨_, d10⟩
    have r11 := set13_at11 _ _ (.int .i64 0) (.int .i64 (1)) (.slice B.a B.n B.c) (.slice B.ta B.tn B.tc) (.slice B.da B.dn B.dc) (.slice B.wa B.wn B.wc) (.slice B.xa B.xn B.xc) (.int .i64 (hdX D 1).ac) (.int .i64 (hdX D 1).cz) (.slice B.la B.ln B.lc) (.int .i64 (hdX D 1).dv) (.slice B.oa B.on B.oc) (.slice B.ga B.gn B.gc) ⟨_, d11⟩
    have r12 := set13_at12 _ _ (.int .i64 0) (.int .i64 (1)) (.slice B.a B.n B.c) (.slice B.ta B.tn B.tc) (.slice B.da B.dn B.dc) (.slice B.wa B.wn B.wc) (.slice B.xa B.xn B.xc) (.int .i64 (hdX D 1).ac) (.int .i64 (hdX D 1).cz) (.slice B.la B.ln B.lc) (.int .i64 (hdX D 1).dv) (.slice B.oa B.on B.oc) (.slice B.ga B.gn B.gc) ⟨_, d12⟩
    refine bodyPost_ret (v := .agg #[.int .i64 0, .int .i64 (1), .slice B.a B.n B.c, .slice B.ta B.tn B.tc, .slice B.da B.dn B.dc, .slice B.wa B.wn B.wc, .slice B.xa B.xn B.xc, .int .i64 (hdX D 1).ac, .int .i64 (hdX D 1).cz, .slice B.la B.ln B.lc, .int .i64 (hdX D 1).dv, .slice B.oa B.on B.oc, .slice B.ga B.gn B.gc]) (by simp [results, Tryz.results67, go_sem, r0, r1, r2, r3, r4, r5, r6, r7, r8, r9, r10, r11, r12]) rfl ⟨B, ?_, ?_, HB.out⟩
    · rw [HM.out.1, HM.out.2]
    · rw [HM.out.2]; exact HO.out.mono (fun q hq => ⟨by have := hq.1; omega, by simpa using hq.2⟩))

theorem serveCall_calls (A : SA) (D : SD) (k : Nat) (c : Int) (w : World) (hr : RS w A D) (H : SysR A D k) (hz : szY A D ≤ 1048576) :
    Calls Tryz.prog 67 #[.agg #[.slice A.a A.n A.c, .slice A.ta A.tn A.tc, .slice A.da A.dn A.dc, .slice A.wa A.wn A.wc, .slice A.xa A.xn A.xc, .int .i64 D.ac, .int .i64 D.cz, .slice A.la A.ln A.lc, .int .i64 D.dv, .slice A.oa A.on A.oc, .slice A.ga A.gn A.gc], .int .i64 c] w fun e w' => ∃ B : SA, e = .returned (.agg #[.int .i64 0, .int .i64 (mcS D c), .slice B.a B.n B.c, .slice B.ta B.tn B.tc, .slice B.da B.dn B.dc, .slice B.wa B.wn B.wc, .slice B.xa B.xn B.xc, .int .i64 (mcD D c).ac, .int .i64 (mcD D c).cz, .slice B.la B.ln B.lc, .int .i64 (mcD D c).dv, .slice B.oa B.on B.oc, .slice B.ga B.gn B.gc]) ∧ OY (InR w.heap.size w'.heap.size) B (mcD D c) w' ∧ Below w.heap.size w w' := by
  by_cases h1 : c = 1
  · subst h1; exact serveCall_1 A D k w hr H hz
  by_cases h2 : c = 2
  · subst h2; exact serveCall_2 A D k w hr H hz
  by_cases h3 : c = 3
  · subst h3; exact serveCall_3 A D k w hr H hz
  by_cases h4 : c = 4
  · subst h4; exact serveCall_4 A D k w hr H hz
  exact serveCall_o A D k c w hr H hz h1 h2 h3 h4

set_option maxRecDepth 100000 in
set_option maxHeartbeats 4000000 in
theorem implMakeCall_calls (A : SA) (D : SD) (c : Int) (w : World) (hr : RS w A D) (hk : A.ln ≤ A.lc) (hz : szY A D ≤ 1048576) :
    Calls Tryz.prog 27 #[.agg #[.slice A.a A.n A.c, .slice A.ta A.tn A.tc, .slice A.da A.dn A.dc, .slice A.wa A.wn A.wc, .slice A.xa A.xn A.xc, .int .i64 D.ac, .int .i64 D.cz, .slice A.la A.ln A.lc, .int .i64 D.dv, .slice A.oa A.on A.oc, .slice A.ga A.gn A.gc], .int .i64 c] w fun e w' => ∃ B : SA, e = .returned (.agg #[.int .i64 (sysF D), .int .i64 (mkS8 D c), .slice B.a B.n B.c, .slice B.ta B.tn B.tc, .slice B.da B.dn B.dc, .slice B.wa B.wn B.wc, .slice B.xa B.xn B.xc, .int .i64 (mkD8 D c).ac, .int .i64 (mkD8 D c).cz, .slice B.la B.ln B.lc, .int .i64 (mkD8 D c).dv, .slice B.oa B.on B.oc, .slice B.ga B.gn B.gc]) ∧ OY (InR w.heap.size w'.heap.size) B (mkD8 D c) w' ∧ Below w.heap.size w w' := by
  have M0 := ((Mm.start w).allocC [.slice A.a A.n A.c, .slice A.ta A.tn A.tc, .slice A.da A.dn A.dc, .slice A.wa A.wn A.wc, .slice A.xa A.xn A.xc, .int .i64 D.ac, .int .i64 D.cz, .slice A.la A.ln A.lc, .int .i64 D.dv, .slice A.oa A.on A.oc, .slice A.ga A.gn A.gc] 53).allocC [.int .i64 0, .int .i64 0, .slice none 0 0, .slice none 0 0, .slice none 0 0, .slice none 0 0, .slice none 0 0, .int .i64 0, .int .i64 0, .slice none 0 0, .int .i64 0, .slice none 0 0, .slice none 0 0] 64
  simp only [World.size_alloc] at M0
  go_enter Tryz.func27, Tryz.ntmps27
  go_wp2_with fail
  refine (implSystemFault_calls A D _ (hr.below M0.bel (Nat.le_refl _)) hk).mono ?_
  rintro e w1 ⟨rfl, g1⟩
  have M1 := M0.below g1
  have z1 : w.heap.size + 2 ≤ w1.heap.size := by have := g1.size; simpa using this
  clear g1 M0
  by_cases hf : sysF D = 0
  rotate_left
  · have hne : (sysF D != 0) = true := by simpa using hf
    have c0_ := (M1.get 0 rfl).cell 0 rfl
    have f0 := (M1.get 0 rfl).fz 0 (by simp)
    have c1_ := (M1.get 0 rfl).cell 1 rfl
    have f1 := (M1.get 0 rfl).fz 1 (by simp)
    have c2_ := (M1.get 0 rfl).cell 2 rfl
    have f2 := (M1.get 0 rfl).fz 2 (by simp)
    have c3_ := (M1.get 0 rfl).cell 3 rfl
    have f3 := (M1.get 0 rfl).fz 3 (by simp)
    have c4_ := (M1.get 0 rfl).cell 4 rfl
    have f4 := (M1.get 0 rfl).fz 4 (by simp)
    have c5_ := (M1.get 0 rfl).cell 5 rfl
    have f5 := (M1.get 0 rfl).fz 5 (by simp)
    have c6_ := (M1.get 0 rfl).cell 6 rfl
    have f6 := (M1.get 0 rfl).fz 6 (by simp)
    have c7_ := (M1.get 0 rfl).cell 7 rfl
    have f7 := (M1.get 0 rfl).fz 7 (by simp)
    have c8_ := (M1.get 0 rfl).cell 8 rfl
    have f8 := (M1.get 0 rfl).fz 8 (by simp)
    have c9_ := (M1.get 0 rfl).cell 9 rfl
    have f9 := (M1.get 0 rfl).fz 9 (by simp)
    have c10_ := (M1.get 0 rfl).cell 10 rfl
    have f10 := (M1.get 0 rfl).fz 10 (by simp)
    have c11_ := (M1.get 0 rfl).cell 11 rfl
    have f11 := (M1.get 0 rfl).fz 11 (by simp)
    have c12_ := (M1.get 0 rfl).cell 12 rfl
    have f12 := (M1.get 0 rfl).fz 12 (by simp)
    have HB := hide (below_set13 M1.bel (P := w.heap.size + 1) (by omega) (.int .i64 (sysF D)) (.int .i64 0) (.slice none 0 0) (.slice none 0 0) (.slice none 0 0) (.slice none 0 0) (.slice none 0 0) (.int .i64 0) (.int .i64 0) (.slice none 0 0) (.int .i64 0) (.slice none 0 0) (.slice none 0 0))
    have HD : Hid (mkD8 D c = zeroD ∧ mkS8 D c = 0) := ⟨mkD8_bad hf, if_neg hf⟩
    clear M1 hf
    go_wp2
    have r0 := set13_at0 _ _ (.int .i64 (sysF D)) (.int .i64 0) (.slice none 0 0) (.slice none 0 0) (.slice none 0 0) (.slice none 0 0) (.slice none 0 0) (.int .i64 0) (.int .i64 0) (.slice none 0 0) (.int .i64 0) (.slice none 0 0) (.slice none 0 0) ⟨_, c0_⟩
    have r1 := set13_at1 _ _ (.int .i64 (sysF D)) (.int .i64 0) (.slice none 0 0) (.slice none 0 0) (.slice none 0 0) (.slice none 0 0) (.slice none 0 0) (.int .i64 0) (.int .i64 0) (.slice none 0 0) (.int .i64 0) (.slice none 0 0) (.slice none 0 0) ⟨_, c1_⟩
    have r2 := set13_at2 _ _ (.int .i64 (sysF D)) (.int .i64 0) (.slice none 0 0) (.slice none 0 0) (.slice none 0 0) (.slice none 0 0) (.slice none 0 0) (.int .i64 0) (.int .i64 0) (.slice none 0 0) (.int .i64 0) (.slice none 0 0) (.slice none 0 0) ⟨_, c2_⟩
    have r3 := set13_at3 _ _ (.int .i64 (sysF D)) (.int .i64 0) (.slice none 0 0) (.slice none 0 0) (.slice none 0 0) (.slice none 0 0) (.slice none 0 0) (.int .i64 0) (.int .i64 0) (.slice none 0 0) (.int .i64 0) (.slice none 0 0) (.slice none 0 0) ⟨_, c3_⟩
    have r4 := set13_at4 _ _ (.int .i64 (sysF D)) (.int .i64 0) (.slice none 0 0) (.slice none 0 0) (.slice none 0 0) (.slice none 0 0) (.slice none 0 0) (.int .i64 0) (.int .i64 0) (.slice none 0 0) (.int .i64 0) (.slice none 0 0) (.slice none 0 0) ⟨_, c4_⟩
    have r5 := set13_at5 _ _ (.int .i64 (sysF D)) (.int .i64 0) (.slice none 0 0) (.slice none 0 0) (.slice none 0 0) (.slice none 0 0) (.slice none 0 0) (.int .i64 0) (.int .i64 0) (.slice none 0 0) (.int .i64 0) (.slice none 0 0) (.slice none 0 0) ⟨_, c5_⟩
    have r6 := set13_at6 _ _ (.int .i64 (sysF D)) (.int .i64 0) (.slice none 0 0) (.slice none 0 0) (.slice none 0 0) (.slice none 0 0) (.slice none 0 0) (.int .i64 0) (.int .i64 0) (.slice none 0 0) (.int .i64 0) (.slice none 0 0) (.slice none 0 0) ⟨_, c6_⟩
    have r7 := set13_at7 _ _ (.int .i64 (sysF D)) (.int .i64 0) (.slice none 0 0) (.slice none 0 0) (.slice none 0 0) (.slice none 0 0) (.slice none 0 0) (.int .i64 0) (.int .i64 0) (.slice none 0 0) (.int .i64 0) (.slice none 0 0) (.slice none 0 0) ⟨_, c7_⟩
    have r8 := set13_at8 _ _ (.int .i64 (sysF D)) (.int .i64 0) (.slice none 0 0) (.slice none 0 0) (.slice none 0 0) (.slice none 0 0) (.slice none 0 0) (.int .i64 0) (.int .i64 0) (.slice none 0 0) (.int .i64 0) (.slice none 0 0) (.slice none 0 0) ⟨_, c8_⟩
    have r9 := set13_at9 _ _ (.int .i64 (sysF D)) (.int .i64 0) (.slice none 0 0) (.slice none 0 0) (.slice none 0 0) (.slice none 0 0) (.slice none 0 0) (.int .i64 0) (.int .i64 0) (.slice none 0 0) (.int .i64 0) (.slice none 0 0) (.slice none 0 0) ⟨_, c9_⟩
    have r10 := set13_at10 _ _ (.int .i64 (sysF D)) (.int .i64 0) (.slice none 0 0) (.slice none 0 0) (.slice none 0 0) (.slice none 0 0) (.slice none 0 0) (.int .i64 0) (.int .i64 0) (.slice none 0 0) (.int .i64 0) (.slice none 0 0) (.slice none 0 0) ⟨_, c10_⟩
    have r11 := set13_at11 _ _ (.int .i64 (sysF D)) (.int .i64 0) (.slice none 0 0) (.slice none 0 0) (.slice none 0 0) (.slice none 0 0) (.slice none 0 0) (.int .i64 0) (.int .i64 0) (.slice none 0 0) (.int .i64 0) (.slice none 0 0) (.slice none 0 0) ⟨_, c11_⟩
    have r12 := set13_at12 _ _ (.int .i64 (sysF D)) (.int .i64 0) (.slice none 0 0) (.slice none 0 0) (.slice none 0 0) (.slice none 0 0) (.slice none 0 0) (.int .i64 0) (.int .i64 0) (.slice none 0 0) (.int .i64 0) (.slice none 0 0) (.slice none 0 0) ⟨_, c12_⟩
    rw [HD.out.1, HD.out.2]
    refine bodyPost_ret (v := .agg #[.int .i64 (sysF D), .int .i64 0, .slice none 0 0, .slice none 0 0, .slice none 0 0, .slice none 0 0, .slice none 0 0, .int .i64 0, .int .i64 0, .slice none 0 0, .int .i64 0, .slice none 0 0, .slice none 0 0]) (by simp [results, Tryz.results27, go_sem, r0, r1, r2, r3, r4, r5, r6, r7, r8, r9, r10, r11, r12]) rfl ⟨zeroA, rfl, OY.zero _ _, HB.out⟩
  · have hne : (sysF D != 0) = false := by simp [hf]
    obtain ⟨k, H⟩ := hr.right hf
    have a0 := (M1.get 1 rfl).cell 0 rfl
    have a1 := (M1.get 1 rfl).cell 1 rfl
    have a2 := (M1.get 1 rfl).cell 2 rfl
    have a3 := (M1.get 1 rfl).cell 3 rfl
    have a4 := (M1.get 1 rfl).cell 4 rfl
    have a5 := (M1.get 1 rfl).cell 5 rfl
    have a6 := (M1.get 1 rfl).cell 6 rfl
    have a7 := (M1.get 1 rfl).cell 7 rfl
    have a8 := (M1.get 1 rfl).cell 8 rfl
    have a9 := (M1.get 1 rfl).cell 9 rfl
    have a10 := (M1.get 1 rfl).cell 10 rfl
    have HD : Hid (mkD8 D c = mcD D c ∧ mkS8 D c = (mcS D c)) := ⟨mkD8_ok hf, if_pos hf⟩
    have HF := hide hf
    clear hf
    go_wp2_with fail
    refine (serveCall_calls A D k c _ (hr.below M1.bel (Nat.le_refl _)) H hz).mono ?_
    rintro e w2 ⟨B, rfl, oy, g2⟩
    have z2 := g2.size
    obtain ⟨E, hE⟩ : ∃ x, x = mcD D c := ⟨_, rfl⟩
    rw [← hE] at oy
    obtain ⟨sd, hsd⟩ : ∃ x, x = (mcS D c) := ⟨_, rfl⟩
    simp only [← hE, ← hsd]
    rw [← hE, ← hsd] at HD
    clear hE hsd
    have M2 := M1.below g2
    have c0_ := (M2.get 0 rfl).cell 0 rfl
    have f0 := (M2.get 0 rfl).fz 0 (by simp)
    have c1_ := (M2.get 0 rfl).cell 1 rfl
    have f1 := (M2.get 0 rfl).fz 1 (by simp)
    have c2_ := (M2.get 0 rfl).cell 2 rfl
    have f2 := (M2.get 0 rfl).fz 2 (by simp)
    have c3_ := (M2.get 0 rfl).cell 3 rfl
    have f3 := (M2.get 0 rfl).fz 3 (by simp)
    have c4_ := (M2.get 0 rfl).cell 4 rfl
    have f4 := (M2.get 0 rfl).fz 4 (by simp)
    have c5_ := (M2.get 0 rfl).cell 5 rfl
    have f5 := (M2.get 0 rfl).fz 5 (by simp)
    have c6_ := (M2.get 0 rfl).cell 6 rfl
    have f6 := (M2.get 0 rfl).fz 6 (by simp)
    have c7_ := (M2.get 0 rfl).cell 7 rfl
    have f7 := (M2.get 0 rfl).fz 7 (by simp)
    have c8_ := (M2.get 0 rfl).cell 8 rfl
    have f8 := (M2.get 0 rfl).fz 8 (by simp)
    have c9_ := (M2.get 0 rfl).cell 9 rfl
    have f9 := (M2.get 0 rfl).fz 9 (by simp)
    have c10_ := (M2.get 0 rfl).cell 10 rfl
    have f10 := (M2.get 0 rfl).fz 10 (by simp)
    have c11_ := (M2.get 0 rfl).cell 11 rfl
    have f11 := (M2.get 0 rfl).fz 11 (by simp)
    have c12_ := (M2.get 0 rfl).cell 12 rfl
    have f12 := (M2.get 0 rfl).fz 12 (by simp)
    have HB := hide (below_set13 M2.bel (P := w.heap.size + 1) (by omega) (.int .i64 0) (.int .i64 sd) (.slice B.a B.n B.c) (.slice B.ta B.tn B.tc) (.slice B.da B.dn B.dc) (.slice B.wa B.wn B.wc) (.slice B.xa B.xn B.xc) (.int .i64 E.ac) (.int .i64 E.cz) (.slice B.la B.ln B.lc) (.int .i64 E.dv) (.slice B.oa B.on B.oc) (.slice B.ga B.gn B.gc))
    have HO := hide (loc_set13 OY.loc oy (P := w.heap.size + 1) (fun h => by have := h.1; omega) (.int .i64 0) (.int .i64 sd) (.slice B.a B.n B.c) (.slice B.ta B.tn B.tc) (.slice B.da B.dn B.dc) (.slice B.wa B.wn B.wc) (.slice B.xa B.xn B.xc) (.int .i64 E.ac) (.int .i64 E.cz) (.slice B.la B.ln B.lc) (.int .i64 E.dv) (.slice B.oa B.on B.oc) (.slice B.ga B.gn B.gc))
    clear M1 M2 oy g2 a0 a1 a2 a3 a4 a5 a6 a7 a8 a9 a10
    go_wp2
    have r0 := set13_at0 _ _ (.int .i64 0) (.int .i64 sd) (.slice B.a B.n B.c) (.slice B.ta B.tn B.tc) (.slice B.da B.dn B.dc) (.slice B.wa B.wn B.wc) (.slice B.xa B.xn B.xc) (.int .i64 E.ac) (.int .i64 E.cz) (.slice B.la B.ln B.lc) (.int .i64 E.dv) (.slice B.oa B.on B.oc) (.slice B.ga B.gn B.gc) ⟨_, c0_⟩
    have r1 := set13_at1 _ _ (.int .i64 0) (.int .i64 sd) (.slice B.a B.n B.c) (.slice B.ta B.tn B.tc) (.slice B.da B.dn B.dc) (.slice B.wa B.wn B.wc) (.slice B.xa B.xn B.xc) (.int .i64 E.ac) (.int .i64 E.cz) (.slice B.la B.ln B.lc) (.int .i64 E.dv) (.slice B.oa B.on B.oc) (.slice B.ga B.gn B.gc) ⟨_, c1_⟩
    have r2 := set13_at2 _ _ (.int .i64 0) (.int .i64 sd) (.slice B.a B.n B.c) (.slice B.ta B.tn B.tc) (.slice B.da B.dn B.dc) (.slice B.wa B.wn B.wc) (.slice B.xa B.xn B.xc) (.int .i64 E.ac) (.int .i64 E.cz) (.slice B.la B.ln B.lc) (.int .i64 E.dv) (.slice B.oa B.on B.oc) (.slice B.ga B.gn B.gc) ⟨_, c2_⟩
    have r3 := set13_at3 _ _ (.int .i64 0) (.int .i64 sd) (.slice B.a B.n B.c) (.slice B.ta B.tn B.tc) (.slice B.da B.dn B.dc) (.slice B.wa B.wn B.wc) (.slice B.xa B.xn B.xc) (.int .i64 E.ac) (.int .i64 E.cz) (.slice B.la B.ln B.lc) (.int .i64 E.dv) (.slice B.oa B.on B.oc) (.slice B.ga B.gn B.gc) ⟨_, c3_⟩
    have r4 := set13_at4 _ _ (.int .i64 0) (.int .i64 sd) (.slice B.a B.n B.c) (.slice B.ta B.tn B.tc) (.slice B.da B.dn B.dc) (.slice B.wa B.wn B.wc) (.slice B.xa B.xn B.xc) (.int .i64 E.ac) (.int .i64 E.cz) (.slice B.la B.ln B.lc) (.int .i64 E.dv) (.slice B.oa B.on B.oc) (.slice B.ga B.gn B.gc) ⟨_, c4_⟩
    have r5 := set13_at5 _ _ (.int .i64 0) (.int .i64 sd) (.slice B.a B.n B.c) (.slice B.ta B.tn B.tc) (.slice B.da B.dn B.dc) (.slice B.wa B.wn B.wc) (.slice B.xa B.xn B.xc) (.int .i64 E.ac) (.int .i64 E.cz) (.slice B.la B.ln B.lc) (.int .i64 E.dv) (.slice B.oa B.on B.oc) (.slice B.ga B.gn B.gc) ⟨_, c5_⟩
    have r6 := set13_at6 _ _ (.int .i64 0) (.int .i64 sd) (.slice B.a B.n B.c) (.slice B.ta B.tn B.tc) (.slice B.da B.dn B.dc) (.slice B.wa B.wn B.wc) (.slice B.xa B.xn B.xc) (.int .i64 E.ac) (.int .i64 E.cz) (.slice B.la B.ln B.lc) (.int .i64 E.dv) (.slice B.oa B.on B.oc) (.slice B.ga B.gn B.gc) ⟨_, c6_⟩
    have r7 := set13_at7 _ _ (.int .i64 0) (.int .i64 sd) (.slice B.a B.n B.c) (.slice B.ta B.tn B.tc) (.slice B.da B.dn B.dc) (.slice B.wa B.wn B.wc) (.slice B.xa B.xn B.xc) (.int .i64 E.ac) (.int .i64 E.cz) (.slice B.la B.ln B.lc) (.int .i64 E.dv) (.slice B.oa B.on B.oc) (.slice B.ga B.gn B.gc) ⟨_, c7_⟩
    have r8 := set13_at8 _ _ (.int .i64 0) (.int .i64 sd) (.slice B.a B.n B.c) (.slice B.ta B.tn B.tc) (.slice B.da B.dn B.dc) (.slice B.wa B.wn B.wc) (.slice B.xa B.xn B.xc) (.int .i64 E.ac) (.int .i64 E.cz) (.slice B.la B.ln B.lc) (.int .i64 E.dv) (.slice B.oa B.on B.oc) (.slice B.ga B.gn B.gc) ⟨_, c8_⟩
    have r9 := set13_at9 _ _ (.int .i64 0) (.int .i64 sd) (.slice B.a B.n B.c) (.slice B.ta B.tn B.tc) (.slice B.da B.dn B.dc) (.slice B.wa B.wn B.wc) (.slice B.xa B.xn B.xc) (.int .i64 E.ac) (.int .i64 E.cz) (.slice B.la B.ln B.lc) (.int .i64 E.dv) (.slice B.oa B.on B.oc) (.slice B.ga B.gn B.gc) ⟨_, c9_⟩
    have r10 := set13_at10 _ _ (.int .i64 0) (.int .i64 sd) (.slice B.a B.n B.c) (.slice B.ta B.tn B.tc) (.slice B.da B.dn B.dc) (.slice B.wa B.wn B.wc) (.slice B.xa B.xn B.xc) (.int .i64 E.ac) (.int .i64 E.cz) (.slice B.la B.ln B.lc) (.int .i64 E.dv) (.slice B.oa B.on B.oc) (.slice B.ga B.gn B.gc) ⟨_, c10_⟩
    have r11 := set13_at11 _ _ (.int .i64 0) (.int .i64 sd) (.slice B.a B.n B.c) (.slice B.ta B.tn B.tc) (.slice B.da B.dn B.dc) (.slice B.wa B.wn B.wc) (.slice B.xa B.xn B.xc) (.int .i64 E.ac) (.int .i64 E.cz) (.slice B.la B.ln B.lc) (.int .i64 E.dv) (.slice B.oa B.on B.oc) (.slice B.ga B.gn B.gc) ⟨_, c11_⟩
    have r12 := set13_at12 _ _ (.int .i64 0) (.int .i64 sd) (.slice B.a B.n B.c) (.slice B.ta B.tn B.tc) (.slice B.da B.dn B.dc) (.slice B.wa B.wn B.wc) (.slice B.xa B.xn B.xc) (.int .i64 E.ac) (.int .i64 E.cz) (.slice B.la B.ln B.lc) (.int .i64 E.dv) (.slice B.oa B.on B.oc) (.slice B.ga B.gn B.gc) ⟨_, c12_⟩
    rw [HF.out, HD.out.1, HD.out.2]
    refine bodyPost_ret (v := .agg #[.int .i64 0, .int .i64 sd, .slice B.a B.n B.c, .slice B.ta B.tn B.tc, .slice B.da B.dn B.dc, .slice B.wa B.wn B.wc, .slice B.xa B.xn B.xc, .int .i64 E.ac, .int .i64 E.cz, .slice B.la B.ln B.lc, .int .i64 E.dv, .slice B.oa B.on B.oc, .slice B.ga B.gn B.gc]) (by simp [results, Tryz.results27, go_sem, r0, r1, r2, r3, r4, r5, r6, r7, r8, r9, r10, r11, r12]) rfl ⟨B, rfl, ?_, HB.out⟩
    exact HO.out.mono (fun q hq => ⟨by have := hq.1; omega, by simpa using hq.2⟩)

set_option maxRecDepth 100000 in
set_option maxHeartbeats 4000000 in
theorem specMakeCall_calls (A : SA) (D : SD) (c : Int) (w : World) (hr : RS w A D) (_ : A.ln ≤ A.lc) (hz : szY A D ≤ 1048576) :
    Calls Tryz.prog 26 #[.agg #[.slice A.a A.n A.c, .slice A.ta A.tn A.tc, .slice A.da A.dn A.dc, .slice A.wa A.wn A.wc, .slice A.xa A.xn A.xc, .int .i64 D.ac, .int .i64 D.cz, .slice A.la A.ln A.lc, .int .i64 D.dv, .slice A.oa A.on A.oc, .slice A.ga A.gn A.gc], .int .i64 c] w fun e w' => ∃ B : SA, e = .returned (.agg #[.int .i64 (sysF D), .int .i64 (mkS8 D c), .slice B.a B.n B.c, .slice B.ta B.tn B.tc, .slice B.da B.dn B.dc, .slice B.wa B.wn B.wc, .slice B.xa B.xn B.xc, .int .i64 (mkD8 D c).ac, .int .i64 (mkD8 D c).cz, .slice B.la B.ln B.lc, .int .i64 (mkD8 D c).dv, .slice B.oa B.on B.oc, .slice B.ga B.gn B.gc]) ∧ OY (InR w.heap.size w'.heap.size) B (mkD8 D c) w' ∧ Below w.heap.size w w' := by
  have M0 := ((Mm.start w).allocC [.slice A.a A.n A.c, .slice A.ta A.tn A.tc, .slice A.da A.dn A.dc, .slice A.wa A.wn A.wc, .slice A.xa A.xn A.xc, .int .i64 D.ac, .int .i64 D.cz, .slice A.la A.ln A.lc, .int .i64 D.dv, .slice A.oa A.on A.oc, .slice A.ga A.gn A.gc] 53).allocC [.int .i64 0, .int .i64 0, .slice none 0 0, .slice none 0 0, .slice none 0 0, .slice none 0 0, .slice none 0 0, .int .i64 0, .int .i64 0, .slice none 0 0, .int .i64 0, .slice none 0 0, .slice none 0 0] 64
  simp only [World.size_alloc] at M0
  go_enter Tryz.func26, Tryz.ntmps26
  go_wp2_with fail
  refine (l7Fault_calls w.heap.size A D _ (M0.get 1 rfl) (hr.below M0.bel (Nat.le_refl _))).mono ?_
  rintro e w1 ⟨rfl, g1⟩
  have M1 := M0.below g1
  have z1 : w.heap.size + 2 ≤ w1.heap.size := by have := g1.size; simpa using this
  clear g1 M0
  by_cases hf : sysF D = 0
  rotate_left
  · have HC := hide (mkD8_bad (D := D) (c := c) hf)
    have hne : (sysF D != 0) = true := by simpa using hf
    have HT : Hid (mkS8 D c = 0) := if_neg hf
    clear hf
    go_wp2_with fail
    refine (l8Bad_calls (sysF D) _).mono ?_
    rintro e w2 ⟨rfl, g2⟩
    have M2 := M1.below g2
    clear g2 M1
    have c0 := (M2.get 0 rfl).cell 0 rfl
    have f0 := (M2.get 0 rfl).fz 0 (by simp)
    have c1 := (M2.get 0 rfl).cell 1 rfl
    have f1 := (M2.get 0 rfl).fz 1 (by simp)
    have c2 := (M2.get 0 rfl).cell 2 rfl
    have f2 := (M2.get 0 rfl).fz 2 (by simp)
    have c3 := (M2.get 0 rfl).cell 3 rfl
    have f3 := (M2.get 0 rfl).fz 3 (by simp)
    have c4 := (M2.get 0 rfl).cell 4 rfl
    have f4 := (M2.get 0 rfl).fz 4 (by simp)
    have c5 := (M2.get 0 rfl).cell 5 rfl
    have f5 := (M2.get 0 rfl).fz 5 (by simp)
    have c6 := (M2.get 0 rfl).cell 6 rfl
    have f6 := (M2.get 0 rfl).fz 6 (by simp)
    have c7 := (M2.get 0 rfl).cell 7 rfl
    have f7 := (M2.get 0 rfl).fz 7 (by simp)
    have c8 := (M2.get 0 rfl).cell 8 rfl
    have f8 := (M2.get 0 rfl).fz 8 (by simp)
    have c9 := (M2.get 0 rfl).cell 9 rfl
    have f9 := (M2.get 0 rfl).fz 9 (by simp)
    have c10 := (M2.get 0 rfl).cell 10 rfl
    have f10 := (M2.get 0 rfl).fz 10 (by simp)
    have c11 := (M2.get 0 rfl).cell 11 rfl
    have f11 := (M2.get 0 rfl).fz 11 (by simp)
    have c12 := (M2.get 0 rfl).cell 12 rfl
    have f12 := (M2.get 0 rfl).fz 12 (by simp)
    have HB := hide (below_set13 M2.bel (P := w.heap.size + 1) (by omega) (.int .i64 (sysF D)) (.int .i64 0) (.slice none 0 0) (.slice none 0 0) (.slice none 0 0) (.slice none 0 0) (.slice none 0 0) (.int .i64 0) (.int .i64 0) (.slice none 0 0) (.int .i64 0) (.slice none 0 0) (.slice none 0 0))
    clear M2
    go_wp2
    have r0 := set13_at0 _ _ (.int .i64 (sysF D)) (.int .i64 0) (.slice none 0 0) (.slice none 0 0) (.slice none 0 0) (.slice none 0 0) (.slice none 0 0) (.int .i64 0) (.int .i64 0) (.slice none 0 0) (.int .i64 0) (.slice none 0 0) (.slice none 0 0) ⟨_, c0⟩
    have r1 := set13_at1 _ _ (.int .i64 (sysF D)) (.int .i64 0) (.slice none 0 0) (.slice none 0 0) (.slice none 0 0) (.slice none 0 0) (.slice none 0 0) (.int .i64 0) (.int .i64 0) (.slice none 0 0) (.int .i64 0) (.slice none 0 0) (.slice none 0 0) ⟨_, c1⟩
    have r2 := set13_at2 _ _ (.int .i64 (sysF D)) (.int .i64 0) (.slice none 0 0) (.slice none 0 0) (.slice none 0 0) (.slice none 0 0) (.slice none 0 0) (.int .i64 0) (.int .i64 0) (.slice none 0 0) (.int .i64 0) (.slice none 0 0) (.slice none 0 0) ⟨_, c2⟩
    have r3 := set13_at3 _ _ (.int .i64 (sysF D)) (.int .i64 0) (.slice none 0 0) (.slice none 0 0) (.slice none 0 0) (.slice none 0 0) (.slice none 0 0) (.int .i64 0) (.int .i64 0) (.slice none 0 0) (.int .i64 0) (.slice none 0 0) (.slice none 0 0) ⟨_, c3⟩
    have r4 := set13_at4 _ _ (.int .i64 (sysF D)) (.int .i64 0) (.slice none 0 0) (.slice none 0 0) (.slice none 0 0) (.slice none 0 0) (.slice none 0 0) (.int .i64 0) (.int .i64 0) (.slice none 0 0) (.int .i64 0) (.slice none 0 0) (.slice none 0 0) ⟨_, c4⟩
    have r5 := set13_at5 _ _ (.int .i64 (sysF D)) (.int .i64 0) (.slice none 0 0) (.slice none 0 0) (.slice none 0 0) (.slice none 0 0) (.slice none 0 0) (.int .i64 0) (.int .i64 0) (.slice none 0 0) (.int .i64 0) (.slice none 0 0) (.slice none 0 0) ⟨_, c5⟩
    have r6 := set13_at6 _ _ (.int .i64 (sysF D)) (.int .i64 0) (.slice none 0 0) (.slice none 0 0) (.slice none 0 0) (.slice none 0 0) (.slice none 0 0) (.int .i64 0) (.int .i64 0) (.slice none 0 0) (.int .i64 0) (.slice none 0 0) (.slice none 0 0) ⟨_, c6⟩
    have r7 := set13_at7 _ _ (.int .i64 (sysF D)) (.int .i64 0) (.slice none 0 0) (.slice none 0 0) (.slice none 0 0) (.slice none 0 0) (.slice none 0 0) (.int .i64 0) (.int .i64 0) (.slice none 0 0) (.int .i64 0) (.slice none 0 0) (.slice none 0 0) ⟨_, c7⟩
    have r8 := set13_at8 _ _ (.int .i64 (sysF D)) (.int .i64 0) (.slice none 0 0) (.slice none 0 0) (.slice none 0 0) (.slice none 0 0) (.slice none 0 0) (.int .i64 0) (.int .i64 0) (.slice none 0 0) (.int .i64 0) (.slice none 0 0) (.slice none 0 0) ⟨_, c8⟩
    have r9 := set13_at9 _ _ (.int .i64 (sysF D)) (.int .i64 0) (.slice none 0 0) (.slice none 0 0) (.slice none 0 0) (.slice none 0 0) (.slice none 0 0) (.int .i64 0) (.int .i64 0) (.slice none 0 0) (.int .i64 0) (.slice none 0 0) (.slice none 0 0) ⟨_, c9⟩
    have r10 := set13_at10 _ _ (.int .i64 (sysF D)) (.int .i64 0) (.slice none 0 0) (.slice none 0 0) (.slice none 0 0) (.slice none 0 0) (.slice none 0 0) (.int .i64 0) (.int .i64 0) (.slice none 0 0) (.int .i64 0) (.slice none 0 0) (.slice none 0 0) ⟨_, c10⟩
    have r11 := set13_at11 _ _ (.int .i64 (sysF D)) (.int .i64 0) (.slice none 0 0) (.slice none 0 0) (.slice none 0 0) (.slice none 0 0) (.slice none 0 0) (.int .i64 0) (.int .i64 0) (.slice none 0 0) (.int .i64 0) (.slice none 0 0) (.slice none 0 0) ⟨_, c11⟩
    have r12 := set13_at12 _ _ (.int .i64 (sysF D)) (.int .i64 0) (.slice none 0 0) (.slice none 0 0) (.slice none 0 0) (.slice none 0 0) (.slice none 0 0) (.int .i64 0) (.int .i64 0) (.slice none 0 0) (.int .i64 0) (.slice none 0 0) (.slice none 0 0) ⟨_, c12⟩
    refine bodyPost_ret (v := .agg #[.int .i64 (sysF D), .int .i64 0, .slice none 0 0, .slice none 0 0, .slice none 0 0, .slice none 0 0, .slice none 0 0, .int .i64 0, .int .i64 0, .slice none 0 0, .int .i64 0, .slice none 0 0, .slice none 0 0]) (by simp [results, Tryz.results26, go_sem, r0, r1, r2, r3, r4, r5, r6, r7, r8, r9, r10, r11, r12]) rfl ⟨zeroA, ?_, ?_, HB.out⟩
    · rw [HC.out, HT.out]; rfl
    · rw [HC.out]; exact OY.zero _ _
  have HC := hide (mkD8_ok (D := D) (c := c) hf)
  obtain ⟨k, H⟩ := hr.right hf
  have Hf := hide hf
  have HT : Hid (mkS8 D c = mcS D c) := if_pos hf
  have hne : (sysF D != 0) = false := by simp [hf]
  have a0 := (M1.get 1 rfl).cell 0 rfl
  have a1 := (M1.get 1 rfl).cell 1 rfl
  have a2 := (M1.get 1 rfl).cell 2 rfl
  have a3 := (M1.get 1 rfl).cell 3 rfl
  have a4 := (M1.get 1 rfl).cell 4 rfl
  have a5 := (M1.get 1 rfl).cell 5 rfl
  have a6 := (M1.get 1 rfl).cell 6 rfl
  have a7 := (M1.get 1 rfl).cell 7 rfl
  have a8 := (M1.get 1 rfl).cell 8 rfl
  have a9 := (M1.get 1 rfl).cell 9 rfl
  have a10 := (M1.get 1 rfl).cell 10 rfl
  have HR := hide hr
  clear hf hr
  go_wp2_with fail
  refine (l7Copy_O A D _ hz (HR.out.below M1.bel (Nat.le_refl _))).mono ?_
  rintro e w2 ⟨B, rfl, oy, g2⟩
  have z2 := g2.size
  have M2 := M1.below g2
  obtain ⟨u, hu⟩ : ∃ x, x = w2.alloc (.cells #[.slice B.a B.n B.c, .slice B.ta B.tn B.tc, .slice B.da B.dn B.dc, .slice B.wa B.wn B.wc, .slice B.xa B.xn B.xc, .int .i64 D.ac, .int .i64 D.cz, .slice B.la B.ln B.lc, .int .i64 D.dv, .slice B.oa B.on B.oc, .slice B.ga B.gn B.gc] 53) := ⟨_, rfl⟩
  have al : Below w2.heap.size w2 u := by rw [hu]; exact (Below.refl _ _).alloc (Nat.le_refl _) _
  have zu : u.heap.size = w2.heap.size + 1 := by rw [hu]; simp
  have Y0 : YM w2.heap.size 0 (InR w1.heap.size w2.heap.size) B D u := ⟨CsO.ofCs (by rw [hu]; exact Cs.alloc w2 [.slice B.a B.n B.c, .slice B.ta B.tn B.tc, .slice B.da B.dn B.dc, .slice B.wa B.wn B.wc, .slice B.xa B.xn B.xc, .int .i64 D.ac, .int .i64 D.cz, .slice B.la B.ln B.lc, .int .i64 D.dv, .slice B.oa B.on B.oc, .slice B.ga B.gn B.gc] _), fun j => by rw [hu]; simp, fun h => by have := h.2; omega, by omega, OYR.loc.below al oy⟩
  have M3 := M2.below al
  have Hu := hide hu
  clear M1 M2 g2 oy hu a0 a1 a2 a3 a4 a5 a6 a7 a8 a9 a10
  go_wp2_with fail
  rw [← Hu.out]
  refine (l8Call_gen _ _ B D k c _ Y0 (H.move HR.out Y0.y.oy.rs) (fun q hq => by have := hq.2; omega)).mono ?_
  rintro e w3 ⟨rfl, ⟨B2, y3⟩, ho⟩
  have z3 := ho.size
  have M4 := (M3.out (B := w1.heap.size) (T := w2.heap.size + 1) (ho.mono (fun q hq => by rcases hq with hq | hq; exact ⟨hq.1, by have := hq.2; omega⟩; subst hq; exact ⟨by omega, by omega⟩)) (by omega) (by simp) (by simp; omega)).fact OY.loc (B := w1.heap.size) (T := w3.heap.size) (y3.y.oy.mono (fun q hq => by rcases hq with hq | hq; exact ⟨hq.1, by have := hq.2; omega⟩; exact ⟨by have := hq.1; omega, hq.2⟩))
  obtain ⟨E, hE⟩ : ∃ x, x = mcD D c := ⟨_, rfl⟩
  rw [← hE] at y3 M4
  have HE := hide hE
  have a0 := y3.cs.cell 0 rfl
  have a1 := y3.cs.cell 1 rfl
  have a2 := y3.cs.cell 2 rfl
  have a3 := y3.cs.cell 3 rfl
  have a4 := y3.cs.cell 4 rfl
  have a5 := y3.cs.cell 5 rfl
  have a6 := y3.cs.cell 6 rfl
  have a7 := y3.cs.cell 7 rfl
  have a8 := y3.cs.cell 8 rfl
  have a9 := y3.cs.cell 9 rfl
  have a10 := y3.cs.cell 10 rfl
  simp only [Nat.zero_add] at a0 a1 a2 a3 a4 a5 a6 a7 a8 a9 a10
  have c0 := (M4.get 1 rfl).cell 0 rfl
  have f0 := (M4.get 1 rfl).fz 0 (by simp)
  have c1 := (M4.get 1 rfl).cell 1 rfl
  have f1 := (M4.get 1 rfl).fz 1 (by simp)
  have c2 := (M4.get 1 rfl).cell 2 rfl
  have f2 := (M4.get 1 rfl).fz 2 (by simp)
  have c3 := (M4.get 1 rfl).cell 3 rfl
  have f3 := (M4.get 1 rfl).fz 3 (by simp)
  have c4 := (M4.get 1 rfl).cell 4 rfl
  have f4 := (M4.get 1 rfl).fz 4 (by simp)
  have c5 := (M4.get 1 rfl).cell 5 rfl
  have f5 := (M4.get 1 rfl).fz 5 (by simp)
  have c6 := (M4.get 1 rfl).cell 6 rfl
  have f6 := (M4.get 1 rfl).fz 6 (by simp)
  have c7 := (M4.get 1 rfl).cell 7 rfl
  have f7 := (M4.get 1 rfl).fz 7 (by simp)
  have c8 := (M4.get 1 rfl).cell 8 rfl
  have f8 := (M4.get 1 rfl).fz 8 (by simp)
  have c9 := (M4.get 1 rfl).cell 9 rfl
  have f9 := (M4.get 1 rfl).fz 9 (by simp)
  have c10 := (M4.get 1 rfl).cell 10 rfl
  have f10 := (M4.get 1 rfl).fz 10 (by simp)
  have c11 := (M4.get 1 rfl).cell 11 rfl
  have f11 := (M4.get 1 rfl).fz 11 (by simp)
  have c12 := (M4.get 1 rfl).cell 12 rfl
  have f12 := (M4.get 1 rfl).fz 12 (by simp)
  have HB := hide (below_set13 M4.bel (P := w.heap.size + 1) (by omega) (.int .i64 0) (.int .i64 (mcS D c)) (.slice B2.a B2.n B2.c) (.slice B2.ta B2.tn B2.tc) (.slice B2.da B2.dn B2.dc) (.slice B2.wa B2.wn B2.wc) (.slice B2.xa B2.xn B2.xc) (.int .i64 E.ac) (.int .i64 E.cz) (.slice B2.la B2.ln B2.lc) (.int .i64 E.dv) (.slice B2.oa B2.on B2.oc) (.slice B2.ga B2.gn B2.gc))
  have HO := hide (loc_set13 OY.loc (M4.get 0 rfl) (P := w.heap.size + 1) (fun h => by have := h.1; omega) (.int .i64 0) (.int .i64 (mcS D c)) (.slice B2.a B2.n B2.c) (.slice B2.ta B2.tn B2.tc) (.slice B2.da B2.dn B2.dc) (.slice B2.wa B2.wn B2.wc) (.slice B2.xa B2.xn B2.xc) (.int .i64 E.ac) (.int .i64 E.cz) (.slice B2.la B2.ln B2.lc) (.int .i64 E.dv) (.slice B2.oa B2.on B2.oc) (.slice B2.ga B2.gn B2.gc))
  clear M3 M4 y3 ho hE Y0 al Hu
  go_wp2
  have r0 := set13_at0 _ _ (.int .i64 0) (.int .i64 (mcS D c)) (.slice B2.a B2.n B2.c) (.slice B2.ta B2.tn B2.tc) (.slice B2.da B2.dn B2.dc) (.slice B2.wa B2.wn B2.wc) (.slice B2.xa B2.xn B2.xc) (.int .i64 E.ac) (.int .i64 E.cz) (.slice B2.la B2.ln B2.lc) (.int .i64 E.dv) (.slice B2.oa B2.on B2.oc) (.slice B2.ga B2.gn B2.gc) ⟨_, c0⟩
  have r1 := set13_at1 _ _ (.int .i64 0) (.int .i64 (mcS D c)) (.slice B2.a B2.n B2.c) (.slice B2.ta B2.tn B2.tc) (.slice B2.da B2.dn B2.dc) (.slice B2.wa B2.wn B2.wc) (.slice B2.xa B2.xn B2.xc) (.int .i64 E.ac) (.int .i64 E.cz) (.slice B2.la B2.ln B2.lc) (.int .i64 E.dv) (.slice B2.oa B2.on B2.oc) (.slice B2.ga B2.gn B2.gc) ⟨_, c1⟩
  have r2 := set13_at2 _ _ (.int .i64 0) (.int .i64 (mcS D c)) (.slice B2.a B2.n B2.c) (.slice B2.ta B2.tn B2.tc) (.slice B2.da B2.dn B2.dc) (.slice B2.wa B2.wn B2.wc) (.slice B2.xa B2.xn B2.xc) (.int .i64 E.ac) (.int .i64 E.cz) (.slice B2.la B2.ln B2.lc) (.int .i64 E.dv) (.slice B2.oa B2.on B2.oc) (.slice B2.ga B2.gn B2.gc) ⟨_, c2⟩
  have r3 := set13_at3 _ _ (.int .i64 0) (.int .i64 (mcS D c)) (.slice B2.a B2.n B2.c) (.slice B2.ta B2.tn B2.tc) (.slice B2.da B2.dn B2.dc) (.slice B2.wa B2.wn B2.wc) (.slice B2.xa B2.xn B2.xc) (.int .i64 E.ac) (.int .i64 E.cz) (.slice B2.la B2.ln B2.lc) (.int .i64 E.dv) (.slice B2.oa B2.on B2.oc) (.slice B2.ga B2.gn B2.gc) ⟨_, c3⟩
  have r4 := set13_at4 _ _ (.int .i64 0) (.int .i64 (mcS D c)) (.slice B2.a B2.n B2.c) (.slice B2.ta B2.tn B2.tc) (.slice B2.da B2.dn B2.dc) (.slice B2.wa B2.wn B2.wc) (.slice B2.xa B2.xn B2.xc) (.int .i64 E.ac) (.int .i64 E.cz) (.slice B2.la B2.ln B2.lc) (.int .i64 E.dv) (.slice B2.oa B2.on B2.oc) (.slice B2.ga B2.gn B2.gc) ⟨_, c4⟩
  have r5 := set13_at5 _ _ (.int .i64 0) (.int .i64 (mcS D c)) (.slice B2.a B2.n B2.c) (.slice B2.ta B2.tn B2.tc) (.slice B2.da B2.dn B2.dc) (.slice B2.wa B2.wn B2.wc) (.slice B2.xa B2.xn B2.xc) (.int .i64 E.ac) (.int .i64 E.cz) (.slice B2.la B2.ln B2.lc) (.int .i64 E.dv) (.slice B2.oa B2.on B2.oc) (.slice B2.ga B2.gn B2.gc) ⟨_, c5⟩
  have r6 := set13_at6 _ _ (.int .i64 0) (.int .i64 (mcS D c)) (.slice B2.a B2.n B2.c) (.slice B2.ta B2.tn B2.tc) (.slice B2.da B2.dn B2.dc) (.slice B2.wa B2.wn B2.wc) (.slice B2.xa B2.xn B2.xc) (.int .i64 E.ac) (.int .i64 E.cz) (.slice B2.la B2.ln B2.lc) (.int .i64 E.dv) (.slice B2.oa B2.on B2.oc) (.slice B2.ga B2.gn B2.gc) ⟨_, c6⟩
  have r7 := set13_at7 _ _ (.int .i64 0) (.int .i64 (mcS D c)) (.slice B2.a B2.n B2.c) (.slice B2.ta B2.tn B2.tc) (.slice B2.da B2.dn B2.dc) (.slice B2.wa B2.wn B2.wc) (.slice B2.xa B2.xn B2.xc) (.int .i64 E.ac) (.int .i64 E.cz) (.slice B2.la B2.ln B2.lc) (.int .i64 E.dv) (.slice B2.oa B2.on B2.oc) (.slice B2.ga B2.gn B2.gc) ⟨_, c7⟩
  have r8 := set13_at8 _ _ (.int .i64 0) (.int .i64 (mcS D c)) (.slice B2.a B2.n B2.c) (.slice B2.ta B2.tn B2.tc) (.slice B2.da B2.dn B2.dc) (.slice B2.wa B2.wn B2.wc) (.slice B2.xa B2.xn B2.xc) (.int .i64 E.ac) (.int .i64 E.cz) (.slice B2.la B2.ln B2.lc) (.int .i64 E.dv) (.slice B2.oa B2.on B2.oc) (.slice B2.ga B2.gn B2.gc) ⟨_, c8⟩
  have r9 := set13_at9 _ _ (.int .i64 0) (.int .i64 (mcS D c)) (.slice B2.a B2.n B2.c) (.slice B2.ta B2.tn B2.tc) (.slice B2.da B2.dn B2.dc) (.slice B2.wa B2.wn B2.wc) (.slice B2.xa B2.xn B2.xc) (.int .i64 E.ac) (.int .i64 E.cz) (.slice B2.la B2.ln B2.lc) (.int .i64 E.dv) (.slice B2.oa B2.on B2.oc) (.slice B2.ga B2.gn B2.gc) ⟨_, c9⟩
  have r10 := set13_at10 _ _ (.int .i64 0) (.int .i64 (mcS D c)) (.slice B2.a B2.n B2.c) (.slice B2.ta B2.tn B2.tc) (.slice B2.da B2.dn B2.dc) (.slice B2.wa B2.wn B2.wc) (.slice B2.xa B2.xn B2.xc) (.int .i64 E.ac) (.int .i64 E.cz) (.slice B2.la B2.ln B2.lc) (.int .i64 E.dv) (.slice B2.oa B2.on B2.oc) (.slice B2.ga B2.gn B2.gc) ⟨_, c10⟩
  have r11 := set13_at11 _ _ (.int .i64 0) (.int .i64 (mcS D c)) (.slice B2.a B2.n B2.c) (.slice B2.ta B2.tn B2.tc) (.slice B2.da B2.dn B2.dc) (.slice B2.wa B2.wn B2.wc) (.slice B2.xa B2.xn B2.xc) (.int .i64 E.ac) (.int .i64 E.cz) (.slice B2.la B2.ln B2.lc) (.int .i64 E.dv) (.slice B2.oa B2.on B2.oc) (.slice B2.ga B2.gn B2.gc) ⟨_, c11⟩
  have r12 := set13_at12 _ _ (.int .i64 0) (.int .i64 (mcS D c)) (.slice B2.a B2.n B2.c) (.slice B2.ta B2.tn B2.tc) (.slice B2.da B2.dn B2.dc) (.slice B2.wa B2.wn B2.wc) (.slice B2.xa B2.xn B2.xc) (.int .i64 E.ac) (.int .i64 E.cz) (.slice B2.la B2.ln B2.lc) (.int .i64 E.dv) (.slice B2.oa B2.on B2.oc) (.slice B2.ga B2.gn B2.gc) ⟨_, c12⟩
  refine bodyPost_ret (v := .agg #[.int .i64 0, .int .i64 (mcS D c), .slice B2.a B2.n B2.c, .slice B2.ta B2.tn B2.tc, .slice B2.da B2.dn B2.dc, .slice B2.wa B2.wn B2.wc, .slice B2.xa B2.xn B2.xc, .int .i64 E.ac, .int .i64 E.cz, .slice B2.la B2.ln B2.lc, .int .i64 E.dv, .slice B2.oa B2.on B2.oc, .slice B2.ga B2.gn B2.gc]) (by simp [results, Tryz.results26, go_sem, r0, r1, r2, r3, r4, r5, r6, r7, r8, r9, r10, r11, r12]) rfl ⟨B2, ?_, ?_, HB.out⟩
  · rw [HC.out, Hf.out, HT.out, ← HE.out]
  · rw [HC.out, ← HE.out]; exact HO.out.mono (fun q hq => ⟨by have := hq.1; omega, by simpa using hq.2⟩)

end Go.Proofs.YtcojgmecocjnkaaGreat
