import Derived.Test.YtnlkigjgloeonaaSnQ
import Derived.WalkKit
import Derived.ProofKit
import Derived.OpenShut
import Derived.ShutString
import Derived.ChangeOld
import Derived.Below
import Derived.WalkSpells
import Derived.Deep.QuietTactic
import Derived.BigQuiet
import Derived.Deep.RegionWith
import Derived.Deep.WholeRow
import Derived.Deep.DeepCutAuto
import Derived.Deep.RegionHeld2
import Derived.Deep.AppendLies
import Derived.Deep.RegionLaw
namespace Go.Proofs.Ytnlkigjgloeonaa
open Go.ChangeShapes Go.WideShapes Go.ChangeAt Go.RowKit

set_option maxRecDepth 100000 in
set_option maxHeartbeats 8000000 in
theorem l14Same_calls (P Q : Nat) (A : NA) (D : ND) (B : NA) (E : ND) (w : World) (hP : Cs P [.slice A.wa A.wn A.wc, .slice A.xa A.xn A.xc, .slice A.la A.ln A.lc, .slice A.oa A.on A.oc] w) (hQ : Cs Q [.slice B.wa B.wn B.wc, .slice B.xa B.xn B.xc, .slice B.la B.ln B.lc, .slice B.oa B.on B.oc] w) (hr : RN w A D) (hs : RN w B E) :
    Calls Try.prog 13 #[.pointer (some ⟨P, 0, none⟩), .pointer (some ⟨Q, 0, none⟩)] w fun e w' => e = .returned (.bool (snB D E)) ∧ Below w.heap.size w w' := by
  obtain ⟨wa, wn, wc, xa, xn, xc, la, ln, lc, oa, on, oc⟩ := A
  obtain ⟨ya, yn, yc, za, zn, zc, ka, kn, kc, pa, pn, pc⟩ := B
  have p0 := hP.cell 0 rfl
  have p1 := hP.cell 1 rfl
  have p2 := hP.cell 2 rfl
  have p3 := hP.cell 3 rfl
  have q0 := hQ.cell 0 rfl
  have q1 := hQ.cell 1 rfl
  have q2 := hQ.cell 2 rfl
  have q3 := hQ.cell 3 rfl
  have HR := hide hr
  have HS := hide hs
  have wm := hr.wm
  have ym := hs.wm
  have xm := hr.xm
  have zm := hs.xm
  have lm := hr.lm
  have km := hs.lm
  unfold maxLen at wm ym xm zm lm km
  dsimp only at wm ym xm zm lm km
  have lP : P < w.heap.size := World.block_lt_of_cell? _ _ p0
  have lQ : Q < w.heap.size := World.block_lt_of_cell? _ _ q0
  have HB0 := hide fun n => bdrewN (Below.refl w.heap.size w) n
  have HP1 := hide p1
  have HP2 := hide p2
  have HP3 := hide p3
  have HQ1 := hide q1
  have HQ2 := hide q2
  have HQ3 := hide q3
  have HP0 := hide p0
  have HQ0 := hide q0
  clear hr hs hP hQ
  by_cases hw : wn = yn
  rotate_left
  · have HV : Hid (snB D E = false) := snB_w (fun e => hw (by have h1 := HR.out.ws.1; have h2 := HS.out.ws.1; rw [e] at h1; dsimp only at h1 h2; omega))
    have e1 : ((wn : Int) != (yn : Int)) = true := by simp; omega
    clear hw
    go_enter Try.func13, Try.ntmps13
    go_wp2_with fail
    go_quiet (fail)
    go_wp2
    go_ret
    exact ⟨ret_bool HV.out.symm, HB0.out _⟩
  have e1 : ((wn : Int) != (yn : Int)) = false := by simp; omega
  by_cases hx : xn = zn
  rotate_left
  · have HV : Hid (snB D E = false) := snB_x (fun e => hx (by have h1 := HR.out.xs.1; have h2 := HS.out.xs.1; rw [e] at h1; dsimp only at h1 h2; omega))
    have e2 : ((xn : Int) != (zn : Int)) = true := by simp; omega
    have Hw := hide hw
    clear hx hw
    go_enter Try.func13, Try.ntmps13
    go_wp2_with fail
    go_quiet (fail)
    go_wp2
    go_ret
    exact ⟨ret_bool HV.out.symm, HB0.out _⟩
  have e2 : ((xn : Int) != (zn : Int)) = false := by simp; omega
  by_cases hl : ln = kn
  rotate_left
  · have HV : Hid (snB D E = false) := snB_l (fun e => hl (by have h1 := HR.out.ls.1; have h2 := HS.out.ls.1; rw [e] at h1; dsimp only at h1 h2; omega))
    have e3 : ((ln : Int) != (kn : Int)) = true := by simp; omega
    have Hw := hide hw
    have Hx := hide hx
    clear hx hw hl
    go_enter Try.func13, Try.ntmps13
    go_wp2_with fail
    go_quiet (fail)
    go_wp2
    go_ret
    exact ⟨ret_bool HV.out.symm, HB0.out _⟩
  have e3 : ((ln : Int) != (kn : Int)) = false := by simp; omega
  have Hw := hide hw
  have Hx := hide hx
  have Hl := hide hl
  clear hx hw hl
  go_enter Try.func13, Try.ntmps13
  go_wp2_with fail
  go_quiet (fail)
  clear e1 e2 e3 p1 p2 p3 q1 q2 q3
  go_wp2
  clear p0 q0
  go_loopw [5] (fun i wr => ∃ k : Nat, k ≤ wn ∧ i = .int .i64 (k : Int) ∧ Below w.heap.size w wr ∧ ∀ j, j < k → gw D.ws j = gw E.ws j) (fun i _ => wn - (intOf i).toNat)
  case atStart => exact ⟨0, Nat.zero_le _, rfl, HB0.out _, fun j hj => by omega⟩
  case round =>
    obtain ⟨k, hk, rfl, hbel, hall⟩ := hrel
    have Hall := hide hall
    have p0 := (hbel.cell (p := ⟨P, 0, none⟩) lP).trans HP0.out
    have q0 := (hbel.cell (p := ⟨Q, 0, none⟩) lQ).trans HQ0.out
    have HBL := hide hbel
    clear hall
    by_cases hlt : k < wn
    · obtain ⟨_, hx1⟩ := HR.out.ws
      obtain ⟨_, hx2⟩ := HS.out.ws
      obtain ⟨b1, o1, ea, hb1, hc1⟩ := hx1 (by dsimp only; omega)
      obtain ⟨b2, o2, eb, hb2, hc2⟩ := hx2 (by have := Hw.out; dsimp only; omega)
      dsimp only at ea eb hc1 hc2
      obtain ⟨u0, u1⟩ := cellsw hc1 hlt
      have h9 : k < yn := by have := Hw.out; omega
      obtain ⟨r0, r1⟩ := cellsw hc2 h9
      have hp0 := (hbel.cell (p := ⟨b1, o1 + k * 2, none⟩) hb1).trans u0
      have hp1 := (hbel.cell (p := ⟨b1, o1 + k * 2 + 1, none⟩) hb1).trans u1
      have hq0 := (hbel.cell (p := ⟨b2, o2 + k * 2, none⟩) hb2).trans r0
      have hq1 := (hbel.cell (p := ⟨b2, o2 + k * 2 + 1, none⟩) hb2).trans r1
      rw [ea] at p0
      rw [eb] at q0
      have hki : (k : Int) < (wn : Int) := by omega
      have hki2 : (k : Int) < (yn : Int) := by have := Hw.out; omega
      clear u0 u1 r0 r1 hc1 hc2 hx1 hx2 ea eb
      by_cases he : gw D.ws k = gw E.ws k
      · rw [← he] at hq0 hq1
        have He : Hid (gw D.ws k = gw E.ws k) := he
        clear he hbel
        go_wp2_with fail
        go_quiet (fail)
        go_wp2
        go_roundw
        case rel => exact ⟨k + 1, by omega, by go_num, HBL.out.trans (bdrewN (Below.refl _ _) _ |>.mono HBL.out.size), fun j hj => by (by_cases e : j = k); (subst e; exact He.out); exact Hall.out j (by omega)⟩
        case measure => simp [intOf]; omega
      · have HV : Hid (snB D E = false) := snB_w (fun e => he (by rw [e]))
        by_cases h1 : (gw D.ws k).1 = (gw E.ws k).1
        · have h2 : ¬ (gw D.ws k).2 = (gw E.ws k).2 := fun h => he (Prod.ext h1 h)
          clear he hbel
          go_wp2_with fail
          go_quiet (fail)
          go_wp2
          go_ret
          exact ⟨ret_bool HV.out.symm, bdrewN HBL.out _⟩
        · clear he hbel
          go_wp2_with fail
          go_quiet (fail)
          go_wp2
          go_ret
          exact ⟨ret_bool HV.out.symm, bdrewN HBL.out _⟩
    · have HE1 : Hid (D.ws = E.ws) := gw_ext (by have h1 := HR.out.ws.1; have h2 := HS.out.ws.1; have := Hw.out; dsimp only at h1 h2; omega) (fun j hj => Hall.out j (by have h1 := HR.out.ws.1; dsimp only at h1; omega))
      have HW1 := hide hbel
      clear hbel Hall
      go_upto_region 8 with fail
      obtain ⟨w1, hw1⟩ : ∃ x, x = wr := ⟨wr, rfl⟩
      rw [← hw1] at HW1 ⊢
      clear hw1 p0 q0 HBL
      go_wp2
      go_loopw [6] (fun i wr => ∃ k : Nat, k ≤ xn ∧ i = .int .i64 (k : Int) ∧ Below w.heap.size w wr ∧ ∀ j, j < k → gx D.cs j = gx E.cs j) (fun i _ => xn - (intOf i).toNat)
      case atStart => exact ⟨0, Nat.zero_le _, rfl, HW1.out, fun j hj => by omega⟩
      case round =>
        obtain ⟨k, hk, rfl, hbel, hall⟩ := hrel
        have Hall := hide hall
        have c4 := (hbel.cell (p := ⟨P, 1, none⟩) lP).trans HP1.out
        have d4 := (hbel.cell (p := ⟨Q, 1, none⟩) lQ).trans HQ1.out
        have HBL := hide hbel
        have l0 : P < wr.heap.size := by have := hbel.size; omega
        have l1 : Q < wr.heap.size := by have := hbel.size; omega
        clear hall
        by_cases hlt : k < xn
        · obtain ⟨_, hx1⟩ := HR.out.xs
          obtain ⟨_, hx2⟩ := HS.out.xs
          obtain ⟨b1, o1, ea, hb1, hc1⟩ := hx1 (by dsimp only; omega)
          obtain ⟨b2, o2, eb, hb2, hc2⟩ := hx2 (by have := Hx.out; dsimp only; omega)
          dsimp only at ea eb hc1 hc2
          obtain ⟨la1, ll, lc1, u0, u1, u2, pl, psl⟩ := hc1 k hlt
          obtain ⟨ma, ml, mc, v0, v1, v2, ql, qsl⟩ := hc2 k (by have := Hx.out; omega)
          have hp0 := (hbel.cell (p := ⟨b1, o1 + k * 3, none⟩) hb1).trans u0
          have hq0 := (hbel.cell (p := ⟨b2, o2 + k * 3, none⟩) hb2).trans v0
          have hp1 := (hbel.cell (p := ⟨b1, o1 + k * 3 + 1, none⟩) hb1).trans u1
          have hq1 := (hbel.cell (p := ⟨b2, o2 + k * 3 + 1, none⟩) hb2).trans v1
          have hp2 := (hbel.cell (p := ⟨b1, o1 + k * 3 + 2, none⟩) hb1).trans u2
          have hq2 := (hbel.cell (p := ⟨b2, o2 + k * 3 + 2, none⟩) hb2).trans v2
          have PS := psl.below hbel (Nat.le_refl _)
          have QS := qsl.below hbel (Nat.le_refl _)
          have r1 : b1 < wr.heap.size := by have := hbel.size; omega
          have r2 : b2 < wr.heap.size := by have := hbel.size; omega
          rw [ea] at c4
          rw [eb] at d4
          have hki : (k : Int) < (xn : Int) := by omega
          have hki2 : (k : Int) < (zn : Int) := by have := Hx.out; omega
          have hki0 : (0 : Int) ≤ (k : Int) := by omega
          have HC := hide fun (X : World) (hX : Below wr.heap.size wr X) => l7SameContext_calls b1 b2 (o1 + k * 3) (o2 + k * 3) la1 ll lc1 (gx D.cs k).2.1 (gx D.cs k).2.2 (gx D.cs k).1 ma ml mc (gx E.cs k).2.1 (gx E.cs k).2.2 (gx E.cs k).1 X pl (PS.below hX (Nat.le_refl _)) ql (QS.below hX (Nat.le_refl _)) ((hX.cell (p := ⟨b1, o1 + k * 3, none⟩) r1).trans hp0) ((hX.cell (p := ⟨b1, o1 + k * 3 + 1, none⟩) r1).trans hp1) ((hX.cell (p := ⟨b1, o1 + k * 3 + 2, none⟩) r1).trans hp2) ((hX.cell (p := ⟨b2, o2 + k * 3, none⟩) r2).trans hq0) ((hX.cell (p := ⟨b2, o2 + k * 3 + 1, none⟩) r2).trans hq1) ((hX.cell (p := ⟨b2, o2 + k * 3 + 2, none⟩) r2).trans hq2)
          have hsx := sameX_iff (x := gx D.cs k) (y := gx E.cs k)
          rw [hsx] at HC
          have HS0 : Hid (wr.drew.cell? ⟨P, 1, none⟩ = some (.slice (some ⟨b1, o1, none⟩) xn xc) ∧ wr.drew.cell? ⟨Q, 1, none⟩ = some (.slice (some ⟨b2, o2, none⟩) zn zc) ∧ Below wr.heap.size wr wr.drew) := ⟨c4, d4, (Below.refl _ _).drew⟩
          clear hsx hc1 hc2 hx1 hx2 ea eb psl qsl PS QS u0 v0 hp0 hq0 u1 v1 hp1 hq1 u2 v2 hp2 hq2
          by_cases hs : gx D.cs k = gx E.cs k
          · have He := hide hs
            have hd : decide (gx D.cs k = gx E.cs k) = true := by simpa using hs
            rw [hd] at HC
            clear hs hd hbel
            go_wp2_with fail
            go_region_held2 (fun X => X.cell? ⟨P, 1, none⟩ = some (.slice (some ⟨b1, o1, none⟩) xn xc) ∧ X.cell? ⟨Q, 1, none⟩ = some (.slice (some ⟨b2, o2, none⟩) zn zc) ∧ Below wr.heap.size wr X)
              (first | with_reducible exact HS0.out | (repeat (first | with_reducible assumption)))
              (first
                | (go_at_call 30; refine (HC.out _ (q2_bel (by with_reducible assumption))).mono ?_; rintro e ws ⟨rfl, gs⟩; have hss := q2_below l0 l1 (by with_reducible assumption) gs; clear gs))
            all_goals (have HBX := hide (q2_bel (by with_reducible assumption)); clear HS0 HC)
            all_goals (
              go_wp2
              go_roundw
              case rel => exact ⟨k + 1, by omega, by go_num, HBL.out.trans (HBX.out.mono HBL.out.size), fun j hj => by (by_cases e : j = k); (subst e; exact He.out); exact Hall.out j (by omega)⟩
              case measure => simp [intOf]; omega)
          · have HV : Hid (snB D E = false) := snB_x (fun e => hs (by rw [e]))
            have hd : decide (gx D.cs k = gx E.cs k) = false := by simpa using hs
            rw [hd] at HC
            clear hs hd hbel
            go_wp2_with fail
            go_region_held2 (fun X => X.cell? ⟨P, 1, none⟩ = some (.slice (some ⟨b1, o1, none⟩) xn xc) ∧ X.cell? ⟨Q, 1, none⟩ = some (.slice (some ⟨b2, o2, none⟩) zn zc) ∧ Below wr.heap.size wr X)
              (first | with_reducible exact HS0.out | (repeat (first | with_reducible assumption)))
              (first
                | (go_at_call 30; refine (HC.out _ (q2_bel (by with_reducible assumption))).mono ?_; rintro e ws ⟨rfl, gs⟩; have hss := q2_below l0 l1 (by with_reducible assumption) gs; clear gs))
            all_goals (have HBX := hide (q2_bel (by with_reducible assumption)); clear HS0 HC)
            all_goals (
              go_wp2
              go_ret
              exact ⟨ret_bool HV.out.symm, HBL.out.trans (HBX.out.mono HBL.out.size)⟩)
        · have HE2 : Hid (D.cs = E.cs) := gx_ext (by have h1 := HR.out.xs.1; have h2 := HS.out.xs.1; have := Hx.out; dsimp only at h1 h2; omega) (fun j hj => Hall.out j (by have h1 := HR.out.xs.1; dsimp only at h1; omega))
          have HW2 := hide hbel
          clear hbel Hall
          go_upto_region 13 with fail
          obtain ⟨w2, hw2⟩ : ∃ x, x = wr := ⟨wr, rfl⟩
          rw [← hw2] at HW2 ⊢
          clear hw2 c4 d4 HBL l0 l1
          go_wp2
          go_loopw [7] (fun i wr => ∃ k : Nat, k ≤ ln ∧ i = .int .i64 (k : Int) ∧ Below w.heap.size w wr ∧ ∀ j, j < k → gL D.ls j = gL E.ls j) (fun i _ => ln - (intOf i).toNat)
          case atStart => exact ⟨0, Nat.zero_le _, rfl, HW2.out, fun j hj => by omega⟩
          case round =>
            obtain ⟨k, hk, rfl, hbel, hall⟩ := hrel
            have Hall := hide hall
            have c4 := (hbel.cell (p := ⟨P, 2, none⟩) lP).trans HP2.out
            have d4 := (hbel.cell (p := ⟨Q, 2, none⟩) lQ).trans HQ2.out
            have HBL := hide hbel
            have l0 : P < wr.heap.size := by have := hbel.size; omega
            have l1 : Q < wr.heap.size := by have := hbel.size; omega
            clear hall
            by_cases hlt : k < ln
            · obtain ⟨_, hx1⟩ := HR.out.ls
              obtain ⟨_, hx2⟩ := HS.out.ls
              obtain ⟨b1, o1, ea, hb1, hc1⟩ := hx1 (by dsimp only; omega)
              obtain ⟨b2, o2, eb, hb2, hc2⟩ := hx2 (by have := Hl.out; dsimp only; omega)
              dsimp only at ea eb hc1 hc2
              obtain ⟨la1, lc1, u0, pl, psl⟩ := hc1 k hlt
              obtain ⟨ma, mc, v0, ql, qsl⟩ := hc2 k (by have := Hl.out; omega)
              have hp0 := (hbel.cell (p := ⟨b1, o1 + k, none⟩) hb1).trans u0
              have hq0 := (hbel.cell (p := ⟨b2, o2 + k, none⟩) hb2).trans v0
              have PS := psl.below hbel (Nat.le_refl _)
              have QS := qsl.below hbel (Nat.le_refl _)
              have r1 : b1 < wr.heap.size := by have := hbel.size; omega
              have r2 : b2 < wr.heap.size := by have := hbel.size; omega
              rw [ea] at c4
              rw [eb] at d4
              have hki : (k : Int) < (ln : Int) := by omega
              have hki2 : (k : Int) < (kn : Int) := by have := Hl.out; omega
              have hki0 : (0 : Int) ≤ (k : Int) := by omega
              have HC := hide fun (X : World) (hX : Below wr.heap.size wr X) => l1Same_calls b1 (o1 + k) b2 (o2 + k) la1 ma (gL D.ls k).length lc1 (gL E.ls k).length mc (gL D.ls k) (gL E.ls k) X pl ql (by have := hX.size; omega) (by have := hX.size; omega) ((hX.cell (p := ⟨b1, o1 + k, none⟩) r1).trans hp0) ((hX.cell (p := ⟨b2, o2 + k, none⟩) r2).trans hq0) (PS.below hX (Nat.le_refl _)) (QS.below hX (Nat.le_refl _))
              have HS0 : Hid (wr.drew.cell? ⟨P, 2, none⟩ = some (.slice (some ⟨b1, o1, none⟩) ln lc) ∧ wr.drew.cell? ⟨Q, 2, none⟩ = some (.slice (some ⟨b2, o2, none⟩) kn kc) ∧ Below wr.heap.size wr wr.drew) := ⟨c4, d4, (Below.refl _ _).drew⟩
              clear hc1 hc2 hx1 hx2 ea eb psl qsl PS QS u0 v0 hp0 hq0
              by_cases hs : gL D.ls k = gL E.ls k
              · have He := hide hs
                have hd : decide (gL D.ls k = gL E.ls k) = true := by simpa using hs
                rw [hd] at HC
                clear hs hd hbel
                go_wp2_with fail
                go_region_held2 (fun X => X.cell? ⟨P, 2, none⟩ = some (.slice (some ⟨b1, o1, none⟩) ln lc) ∧ X.cell? ⟨Q, 2, none⟩ = some (.slice (some ⟨b2, o2, none⟩) kn kc) ∧ Below wr.heap.size wr X)
                  (first | with_reducible exact HS0.out | (repeat (first | with_reducible assumption)))
                  (first
                    | (go_at_call 31; refine (HC.out _ (q2_bel (by with_reducible assumption))).mono ?_; rintro e ws ⟨rfl, gs⟩; have hss := q2_below l0 l1 (by with_reducible assumption) gs; clear gs))
                all_goals (have HBX := hide (q2_bel (by with_reducible assumption)); clear HS0 HC)
                all_goals (
                  go_wp2
                  go_roundw
                  case rel => exact ⟨k + 1, by omega, by go_num, HBL.out.trans (HBX.out.mono HBL.out.size), fun j hj => by (by_cases e : j = k); (subst e; exact He.out); exact Hall.out j (by omega)⟩
                  case measure => simp [intOf]; omega)
              · have HV : Hid (snB D E = false) := snB_l (fun e => hs (by rw [e]))
                have hd : decide (gL D.ls k = gL E.ls k) = false := by simpa using hs
                rw [hd] at HC
                clear hs hd hbel
                go_wp2_with fail
                go_region_held2 (fun X => X.cell? ⟨P, 2, none⟩ = some (.slice (some ⟨b1, o1, none⟩) ln lc) ∧ X.cell? ⟨Q, 2, none⟩ = some (.slice (some ⟨b2, o2, none⟩) kn kc) ∧ Below wr.heap.size wr X)
                  (first | with_reducible exact HS0.out | (repeat (first | with_reducible assumption)))
                  (first
                    | (go_at_call 31; refine (HC.out _ (q2_bel (by with_reducible assumption))).mono ?_; rintro e ws ⟨rfl, gs⟩; have hss := q2_below l0 l1 (by with_reducible assumption) gs; clear gs))
                all_goals (have HBX := hide (q2_bel (by with_reducible assumption)); clear HS0 HC)
                all_goals (
                  go_wp2
                  go_ret
                  exact ⟨ret_bool HV.out.symm, HBL.out.trans (HBX.out.mono HBL.out.size)⟩)
            · have HE3 : Hid (D.ls = E.ls) := gL_ext (by have h1 := HR.out.ls.1; have h2 := HS.out.ls.1; have := Hl.out; dsimp only at h1 h2; omega) (fun j hj => Hall.out j (by have h1 := HR.out.ls.1; dsimp only at h1; omega))
              have HW3 := hide hbel
              have HV := hide (snB_o HE1.out HE2.out HE3.out)
              have e4 := (hbel.cell (p := ⟨P, 3, none⟩) lP).trans HP3.out
              have f4 := (hbel.cell (p := ⟨Q, 3, none⟩) lQ).trans HQ3.out
              have HC := hide fun (X : World) (hX : Below wr.heap.size wr X) => l9Out_calls oa pa on oc pn pc D.os E.os X HR.out.om HS.out.om ((HR.out.below hbel (Nat.le_refl _)).below hX (Nat.le_refl _)).os ((HS.out.below hbel (Nat.le_refl _)).below hX (Nat.le_refl _)).os
              have HS0 : Hid (wr.drew.cell? ⟨P, 3, none⟩ = some (.slice oa on oc) ∧ wr.drew.cell? ⟨Q, 3, none⟩ = some (.slice pa pn pc) ∧ Below wr.heap.size wr wr.drew) := ⟨e4, f4, (Below.refl _ _).drew⟩
              clear hbel Hall
              go_wp2_with fail
              go_region_held2 (fun X => X.cell? ⟨P, 3, none⟩ = some (.slice oa on oc) ∧ X.cell? ⟨Q, 3, none⟩ = some (.slice pa pn pc) ∧ Below wr.heap.size wr X)
                (first | with_reducible exact HS0.out | (repeat (first | with_reducible assumption)))
                (first
                  | (go_at_call 32; refine (HC.out _ (q2_bel (by with_reducible assumption))).mono ?_; rintro e ws ⟨rfl, gs⟩; have hss := q2_below l0 l1 (by with_reducible assumption) gs; clear gs))
              all_goals (have HBX := hide (q2_bel (by with_reducible assumption)); clear HS0 HC)
              all_goals (
                go_wp2
                go_ret
                exact ⟨ret_bool HV.out.symm, HW3.out.trans (HBX.out.mono HW3.out.size)⟩)

set_option maxRecDepth 100000 in
theorem specSameSeen_calls (A : NA) (D : ND) (B : NA) (E : ND) (w : World) (hr : RN w A D) (hs : RN w B E) :
    Calls Try.prog 5 #[.agg #[.slice A.wa A.wn A.wc, .slice A.xa A.xn A.xc, .slice A.la A.ln A.lc, .slice A.oa A.on A.oc], .agg #[.slice B.wa B.wn B.wc, .slice B.xa B.xn B.xc, .slice B.la B.ln B.lc, .slice B.oa B.on B.oc]] w fun e w' => e = .returned (.bool (snB D E)) ∧ Below w.heap.size w w' := by
  have M0 := ((Mm.start w).allocC [.slice A.wa A.wn A.wc, .slice A.xa A.xn A.xc, .slice A.la A.ln A.lc, .slice A.oa A.on A.oc] 34).allocC [.slice B.wa B.wn B.wc, .slice B.xa B.xn B.xc, .slice B.la B.ln B.lc, .slice B.oa B.on B.oc] 34
  simp only [World.size_alloc] at M0
  go_enter Try.func5, Try.ntmps5
  go_wp2_with fail
  refine (l14Same_calls w.heap.size (w.heap.size + 1) A D B E _ (M0.get 1 rfl) (M0.get 0 rfl) (hr.below M0.bel (Nat.le_refl _)) (hs.below M0.bel (Nat.le_refl _))).mono ?_
  rintro e w1 ⟨rfl, g1⟩
  have HB := hide (M0.below g1).bel
  clear M0 g1
  go_wp2
  go_ret
  exact ⟨rfl, HB.out⟩

end Go.Proofs.Ytnlkigjgloeonaa
