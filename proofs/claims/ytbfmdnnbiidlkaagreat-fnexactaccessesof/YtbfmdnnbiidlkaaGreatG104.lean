import Derived.Test.YtbfmdnnbiidlkaaGreatG103
import Derived.Test.YtbfmdnnbiidlkaaGreatG17
import Derived.WalkKit
import Derived.ProofKit
import Derived.OpenShut
import Derived.ShutString
import Derived.ChangeOld
import Derived.Below
import Derived.WalkSpells
import Derived.Deep.QuietTactic
import Derived.BigQuiet
import Derived.Deep.RegionWith
import Derived.Deep.WholeRow
import Derived.Deep.DeepCutAuto
import Derived.Deep.RegionHeld2
import Derived.Deep.AppendLies
import Derived.Deep.RegionLaw
namespace Go.Proofs.YtbfmdnnbiidlkaaGreat
open Go.ChangeShapes Go.WideShapes Go.ChangeAt Go.RowKit

set_option maxRecDepth 100000 in
set_option maxHeartbeats 4000000 in
theorem l10Data_calls (P : Nat) (A : SA) (D : SD) (k I ib : Nat) (op im : Int) (w : World) (hy : YV P A D w) (H : SysR A D k) (hdv : 0 ≤ D.dv ∧ D.dv ≤ (A.tn : Int)) (hI : I < w.heap.size) (i0 : w.cell? ⟨I, 0, none⟩ = some (.int .i64 op)) (i2 : w.cell? ⟨I, 2, none⟩ = some (.int .i64 (ib : Int))) (i3 : w.cell? ⟨I, 3, none⟩ = some (.int .i64 im)) (hib : ib < 8) (him : 0 ≤ im ∧ im ≤ 63) :
    Calls Tryz.prog 132 #[.pointer (some ⟨P, 0, none⟩), .pointer (some ⟨I, 0, none⟩)] w fun e w' => ∃ a n c, e = .returned (.slice a n c) ∧ (a = none → n = 0 ∧ c = 0) ∧ OA (InR w.heap.size w'.heap.size) a n (dtA D k op ib im) w' ∧ Below w.heap.size w w' := by
  have hkx : k < A.xn := by rw [H.xd]; exact H.hk
  obtain ⟨h8, hrg, _⟩ := H.cx k H.hk
  have hrb := hrg ib hib
  have hx4 := hy.cell 4 rfl
  have hx5 := hy.cell 5 rfl
  rw [H.ac] at hx5
  have k0 : (0 : Int) ≤ (k : Int) := by omega
  have k1 : (k : Int) < (A.xn : Int) := by omega
  obtain ⟨N, o, b, q, lc, ea, hN, hb, c0, _, _, creg⟩ := hy.ctx hkx h8
  have rB := creg ib hib
  rw [ea] at hx4
  have HEA := hide ea
  have HY := hide hy
  have HH := hide H
  have e0 : (0 : Int) ≤ (ib : Int) := by omega
  have e1 : (ib : Int) < 8 := by omega
  have hwp : IntKind.i64.wrap (gt (gx D.cs k).1 ib + im) = gt (gx D.cs k).1 ib + im := IntWalk.i64_in _ (by omega)
  have hP := hy.lt
  clear hy ea creg hrg H
  go_enter Tryz.func132, Tryz.ntmps132
  go_wp2_with fail
  go_quiet (fail)
  obtain ⟨u, hu⟩ : ∃ x, x = w.drewN nq := ⟨_, rfl⟩
  have gu : Below w.heap.size w u := by rw [hu]; exact bdrewN (Below.refl _ _) _
  have zu : u.heap.size = w.heap.size := by rw [hu]; simp
  rw [← hu]
  clear hu
  have uc0 := (gu.cell (p := ⟨N, o + k * 3, none⟩) hN).trans c0
  have urB := (gu.cell (p := ⟨b, q + ib, none⟩) hb).trans rB
  have u0 := (gu.cell (p := ⟨I, 0, none⟩) hI).trans i0
  have u2 := (gu.cell (p := ⟨I, 2, none⟩) hI).trans i2
  have u3 := (gu.cell (p := ⟨I, 3, none⟩) hI).trans i3
  clear c0 rB i0 i2 i3 hx4 hx5 k0 k1
  go_wp2_with fail
  go_quiet (first | (go_at_call 177; refine Calls.quiet_of_same (l7Wrap_calls _ _ (by omega) (by omega))))
  obtain ⟨v, hv⟩ : ∃ x, x = u.drewN nq := ⟨_, rfl⟩
  have gv : Below w.heap.size w v := by rw [hv]; exact bdrewN gu _
  have zv : v.heap.size = w.heap.size := by rw [hv]; simp; exact zu
  have v0 : v.cell? ⟨I, 0, none⟩ = some (.int .i64 op) := by rw [hv]; simpa using u0
  try rw [← hv]
  clear hv uc0 urB u0 u2 u3 gu zu hwp
  have yv := HY.out.below (gv.mono (Nat.le_refl _))
  obtain ⟨at_, hat⟩ : ∃ x, x = wrp (gt (gx D.cs k).1 ib + im) := ⟨_, rfl⟩
  rw [← hat]
  have HAT := hide hat
  clear hat
  have x3 := yv.cell 3 rfl
  have hwm := yv.rs.wm
  have hwl := hide yv.rs.len.2.2.2.1
  have hmf := hide HH.out.mf
  have htl := hide yv.rs.len.2.1
  by_cases h4 : op = 4
  · skip
    subst h4
    have HD : Hid (dtA D k 4 ib im = wdA D k at_ 1) := by show _ = _; unfold dtA; rw [if_pos rfl, HAT.out]
    cases hup : up at_ ((A.wn : Int) - 1) with
    | false =>
      have HL : Hid (dtA D k 4 ib im = []) := by show _ = _; rw [HD.out]; unfold wdA; rw [hwl.out, if_neg (by rw [hup]; simp)]
      have HB := hide (gv.alloc (o := .cells #[] 91) (by omega))
      clear yv
      go_wp2_with (first | (go_at_call 129; with_reducible refine (l6Has_is P 3 _ A.wn A.wc _ _ _ hwm x3 hup).mono ?_; rintro e w' ⟨rfl, hw'⟩; rw [hw']; clear hw' w'))
      go_ret
      refine ⟨_, 0, 0, rfl, ?_, ?_, HB.out⟩
      · exact fun h => by cases h
      · rw [HL.out]; exact OA.nil _ _ _
    | true =>
      have hux := up_iff.1 hup
      obtain ⟨j, rfl⟩ : ∃ j : Nat, at_ = (j : Int) := ⟨at_.toNat, by omega⟩
      have hj : j < A.wn := by omega
      have HL : Hid (dtA D k 4 ib im = [acA D k (j : Int) (gw D.ws j).2 1]) := by show _ = _; rw [HD.out]; unfold wdA; rw [hwl.out, if_pos hup]; rfl
      obtain ⟨N2, o2, ew, hN2, _, r1⟩ := yv.word hj
      rw [ew] at x3
      have HEW := hide ew
      have ht := mf_tag hmf.out (m := j) (by rw [hwl.out]; exact hj)
      rw [htl.out] at ht
      have j0 : (0 : Int) ≤ (j : Int) := by omega
      have j1 : (j : Int) < (A.wn : Int) := by omega
      have HYV := hide yv
      have HG := hide gv
      clear yv ew hux HD HAT gv
      go_wp2_with (first | (go_at_call 129; with_reducible refine (l6Has_is P 3 _ A.wn A.wc _ _ _ hwm x3 hup).mono ?_; rintro e w' ⟨rfl, hw'⟩; rw [hw']; clear hw' w') | (go_at_call 130; fail))
      refine (l10Access_calls P A D k (j : Int) (gw D.ws j).2 1 _ HYV.out HH.out ht (.inl rfl)).mono ?_
      rintro e w1 ⟨rfl, g1⟩
      have HB := hide (HG.out.trans (g1.mono (by omega)))
      have z1 := g1.size
      clear g1 HYV HG
      go_wp2
      go_ret
      exact ⟨_, 1, 1, rfl, fun h => (by cases h), by rw [HL.out]; exact OA.lit w1 (acA D k (j : Int) (gw D.ws j).2 1) _ (by omega) (by simp), HB.out.alloc (by omega) _⟩
  by_cases h5 : op = 5
  · skip
    subst h5
    have HD : Hid (dtA D k 5 ib im = wdA D k at_ 2) := by show _ = _; unfold dtA; rw [if_neg (by decide), if_pos rfl, HAT.out]
    cases hup : up at_ ((A.wn : Int) - 1) with
    | false =>
      have HL : Hid (dtA D k 5 ib im = []) := by show _ = _; rw [HD.out]; unfold wdA; rw [hwl.out, if_neg (by rw [hup]; simp)]
      have HB := hide (gv.alloc (o := .cells #[] 91) (by omega))
      clear yv
      go_wp2_with (first | (go_at_call 129; with_reducible refine (l6Has_is P 3 _ A.wn A.wc _ _ _ hwm x3 hup).mono ?_; rintro e w' ⟨rfl, hw'⟩; rw [hw']; clear hw' w'))
      go_ret
      refine ⟨_, 0, 0, rfl, ?_, ?_, HB.out⟩
      · exact fun h => by cases h
      · rw [HL.out]; exact OA.nil _ _ _
    | true =>
      have hux := up_iff.1 hup
      obtain ⟨j, rfl⟩ : ∃ j : Nat, at_ = (j : Int) := ⟨at_.toNat, by omega⟩
      have hj : j < A.wn := by omega
      have HL : Hid (dtA D k 5 ib im = [acA D k (j : Int) (gw D.ws j).2 2]) := by show _ = _; rw [HD.out]; unfold wdA; rw [hwl.out, if_pos hup]; rfl
      obtain ⟨N2, o2, ew, hN2, _, r1⟩ := yv.word hj
      rw [ew] at x3
      have HEW := hide ew
      have ht := mf_tag hmf.out (m := j) (by rw [hwl.out]; exact hj)
      rw [htl.out] at ht
      have j0 : (0 : Int) ≤ (j : Int) := by omega
      have j1 : (j : Int) < (A.wn : Int) := by omega
      have HYV := hide yv
      have HG := hide gv
      clear yv ew hux HD HAT gv
      go_wp2_with (first | (go_at_call 129; with_reducible refine (l6Has_is P 3 _ A.wn A.wc _ _ _ hwm x3 hup).mono ?_; rintro e w' ⟨rfl, hw'⟩; rw [hw']; clear hw' w') | (go_at_call 130; fail))
      refine (l10Access_calls P A D k (j : Int) (gw D.ws j).2 2 _ HYV.out HH.out ht (.inr (.inl rfl))).mono ?_
      rintro e w1 ⟨rfl, g1⟩
      have HB := hide (HG.out.trans (g1.mono (by omega)))
      have z1 := g1.size
      clear g1 HYV HG
      go_wp2
      go_ret
      exact ⟨_, 1, 1, rfl, fun h => (by cases h), by rw [HL.out]; exact OA.lit w1 (acA D k (j : Int) (gw D.ws j).2 2) _ (by omega) (by simp), HB.out.alloc (by omega) _⟩
  have e4 : (op == 4) = false := by simpa using h4
  have e5 : (op == 5) = false := by simpa using h5
  by_cases h9 : op = 9
  · subst h9
    have HD : Hid (dtA D k 9 ib im = dvA D k) := by show _ = _; unfold dtA; rw [if_neg (by decide), if_neg (by decide), if_pos rfl]
    have x9 := yv.cell 9 rfl
    have x8 := yv.cell 8 rfl
    have hol := hide yv.rs.len.2.2.2.2.2.2.1
    by_cases ho : A.on < 40
    · have HL : Hid (dtA D k 9 ib im = [acA D k (-1) D.dv 2]) := by show _ = _; rw [HD.out]; unfold dvA; rw [hol.out, if_pos ho]
      have ho' : (A.on : Int) < 40 := by omega
      have HYV := hide yv
      have HG := hide gv
      clear yv HD gv x3 ho
      go_wp2_with (first | (go_at_call 130; fail))
      refine (l10Access_calls P A D k (-1) D.dv 2 _ HYV.out HH.out hdv (.inr (.inl rfl))).mono ?_
      rintro e w1 ⟨rfl, g1⟩
      have HB := hide (HG.out.trans (g1.mono (by omega)))
      have z1 := g1.size
      clear g1 HYV HG
      go_wp2
      go_ret
      exact ⟨_, 1, 1, rfl, fun h => (by cases h), by rw [HL.out]; exact OA.lit w1 (acA D k (-1) D.dv 2) _ (by omega) (by simp), HB.out.alloc (by omega) _⟩
    · have HL : Hid (dtA D k 9 ib im = []) := by show _ = _; rw [HD.out]; unfold dvA; rw [hol.out, if_neg ho]
      have ho' : ¬ ((A.on : Int) < 40) := by omega
      have HB := hide (gv.alloc (o := .cells #[] 91) (by omega))
      clear yv x3 ho
      go_wp2
      go_ret
      refine ⟨_, 0, 0, rfl, ?_, ?_, HB.out⟩
      · exact fun h => by cases h
      · rw [HL.out]; exact OA.nil _ _ _
  have e9 : (op == 9) = false := by simpa using h9
  have HL : Hid (dtA D k op ib im = []) := by show _ = _; unfold dtA; rw [if_neg h4, if_neg h5, if_neg h9]
  have HB := hide (gv.alloc (o := .cells #[] 91) (by omega))
  clear yv x3 h4 h5 h9
  go_wp2
  go_ret
  refine ⟨_, 0, 0, rfl, ?_, ?_, HB.out⟩
  · exact fun h => by cases h
  · rw [HL.out]; exact OA.nil _ _ _

set_option maxRecDepth 100000 in
theorem l5Decode_calls (x : Int) (w : World) (h0 : 0 ≤ x) (h1 : x ≤ 65535) :
    Calls Tryz.prog 131 #[.int .i64 x] w fun e w' => e = .returned (.agg #[.int .i64 (x / 4096), .int .i64 (x / 512 % 8), .int .i64 (x / 64 % 8), .int .i64 (x % 64)]) ∧ Below w.heap.size w w' := by
  have HB := hide fun o1 => (Below.refl w.heap.size w).alloc (Nat.le_refl _) o1
  go_enter Tryz.func131, Tryz.ntmps131
  go_wp2
  exact bodyPost_ret (v := .agg #[.int .i64 (x / 4096), .int .i64 (x / 512 % 8), .int .i64 (x / 64 % 8), .int .i64 (x % 64)]) (by simp [results, Tryz.results131, go_sem]) rfl ⟨rfl, HB.out _⟩

set_option maxRecDepth 100000 in
set_option maxHeartbeats 4000000 in
theorem l10Accesses_calls (P : Nat) (A : SA) (D : SD) (k : Nat) (w : World) (hy : YV P A D w) (H : SysR A D k) (hdv : 0 ≤ D.dv ∧ D.dv ≤ (A.tn : Int)) :
    Calls Tryz.prog 66 #[.pointer (some ⟨P, 0, none⟩)] w fun e w' => ∃ a n c, e = .returned (.slice a n c) ∧ OA (InR w.heap.size w'.heap.size) a n (accA D k) w' ∧ Below w.heap.size w w' := by
  obtain ⟨i0, hi, hz0, hz1, hz2⟩ := info_parts infoAccess
  have hkx : k < A.xn := by rw [H.xd]; exact H.hk
  obtain ⟨h8, _, hpc⟩ := H.cx k H.hk
  have hx4 := hy.cell 4 rfl
  have hx5 := hy.cell 5 rfl
  rw [H.ac] at hx5
  have k0 : (0 : Int) ≤ (k : Int) := by omega
  have k1 : (k : Int) < (A.xn : Int) := by omega
  obtain ⟨N, o, b, q, lc, ea, hN, hb, _, c1, c2, _⟩ := hy.ctx hkx h8
  rw [ea] at hx4
  have HY := hide hy
  have HH := hide H
  have hP := hy.lt
  have hwl := hide hy.rs.len.2.2.2.1
  have hwm := hy.rs.wm
  clear hy ea H
  go_enter Tryz.func66, Tryz.ntmps66
  go_wp2_with fail
  go_quiet (fail)
  obtain ⟨u, hu⟩ : ∃ x, x = w.drewN nq := ⟨_, rfl⟩
  have gu : Below w.heap.size w u := by rw [hu]; exact bdrewN (Below.refl _ _) _
  have zu : u.heap.size = w.heap.size := by rw [hu]; simp
  rw [← hu]
  clear hu hx4 hx5 k0 k1
  have yu := HY.out.below gu
  have u1 := (gu.cell (p := ⟨N, o + k * 3 + 1, none⟩) hN).trans c1
  have u2 := (gu.cell (p := ⟨N, o + k * 3 + 2, none⟩) hN).trans c2
  have x3 := yu.cell 3 rfl
  obtain ⟨pc, epc⟩ : ∃ x, x = (gx D.cs k).2.1 := ⟨_, rfl⟩
  rw [← epc] at u1 hpc
  have EPC := hide epc
  clear c1 c2 epc
  cases hh : (gx D.cs k).2.2 with
  | true =>
    have HL : Hid (accA D k = []) := by show _ = _; unfold accA; rw [if_pos hh]
    rw [hh] at u2
    have HB := hide fun n => (bdrewN gu n).alloc (o := .cells #[] 91) (by simp; omega)
    clear yu x3
    go_wp2_with fail
    go_quiet (fail)
    go_wp2
    go_ret
    refine ⟨_, 0, 0, rfl, ?_, HB.out _⟩
    rw [HL.out]; exact OA.nil _ _ _
  | false =>
    rw [hh] at u2
    cases hup : up pc ((A.wn : Int) - 1) with
    | false =>
      have HL : Hid (accA D k = []) := by show _ = _; unfold accA; rw [if_neg (by rw [hh]; simp), hwl.out, if_neg (by rw [← EPC.out, hup]; simp)]
      have HB := hide fun n => (bdrewN gu n).alloc (o := .cells #[] 91) (by simp; omega)
      clear yu
      go_wp2_with fail
      go_quiet (first | (go_at_call 129; refine Calls.quiet_of_same (l6Has_is P 3 _ A.wn A.wc _ _ _ hwm x3 hup)))
      go_wp2
      go_ret
      refine ⟨_, 0, 0, rfl, ?_, HB.out _⟩
      rw [HL.out]; exact OA.nil _ _ _
    | true =>
      have hux := up_iff.1 hup
      obtain ⟨j, rfl⟩ : ∃ j : Nat, pc = (j : Int) := ⟨pc.toNat, by omega⟩
      have hj : j < A.wn := by omega
      obtain ⟨N2, o2, ew, hN2, r0, r1⟩ := yu.word hj
      rw [ew] at x3
      obtain ⟨x, ex⟩ : ∃ y, y = (gw D.ws j).1 := ⟨_, rfl⟩
      obtain ⟨tg, et⟩ : ∃ y, y = (gw D.ws j).2 := ⟨_, rfl⟩
      rw [← ex] at r0
      rw [← et] at r1
      have ht := mf_tag HH.out.mf (m := j) (by rw [hwl.out]; exact hj)
      have hx := mf_val HH.out.mf (m := j) (by rw [hwl.out]; exact hj)
      rw [yu.rs.len.2.1, ← et] at ht
      rw [← ex] at hx
      have HA : Hid (accA D k = if dnB D k tg 4 = true then acA D k (j : Int) tg 4 :: dtA D k (opX D k) (ibX D k) (imX D k) else [acA D k (j : Int) tg 4]) := by
        show _ = _
        unfold accA
        rw [if_neg (by rw [hh]; simp), hwl.out, if_pos (by rw [← EPC.out]; exact hup), ← EPC.out, et]
        rfl
      have EX : Hid (wdX D k = x) := by show _ = _; unfold wdX; rw [← EPC.out, ex]; rfl
      have j0 : (0 : Int) ≤ (j : Int) := by omega
      have j1 : (j : Int) < (A.wn : Int) := by omega
      have HYU := hide yu
      have HGU := hide gu
      have HX := hide hx
      clear yu ew hux ex et EPC hpc hx
      go_wp2_with fail
      go_quiet (first | (go_at_call 129; refine Calls.quiet_of_same (l6Has_is P 3 _ A.wn A.wc _ _ _ hwm x3 hup)))
      obtain ⟨v, hv⟩ : ∃ y, y = u.drewN nq := ⟨_, rfl⟩
      have gv : Below u.heap.size u v := by rw [hv]; exact bdrewN (Below.refl _ _) _
      have zv : v.heap.size = u.heap.size := by rw [hv]; simp
      rw [← hv]
      clear hv
      have v1 := (gv.cell (p := ⟨N, o + k * 3 + 1, none⟩) (by show N < _; omega)).trans u1
      have v3 := (gv.cell (p := ⟨P, 3, none⟩) (by show P < _; omega)).trans x3
      have s0 := (gv.cell (p := ⟨N2, o2 + j * 2, none⟩) hN2).trans r0
      have s1 := (gv.cell (p := ⟨N2, o2 + j * 2 + 1, none⟩) hN2).trans r1
      have lP : P < v.heap.size := by omega
      have lN : N < v.heap.size := by omega
      have lW : N2 < v.heap.size := by omega
      have HYV := hide (HYU.out.below gv)
      have HGV := hide (HGU.out.trans (gv.mono (by omega)))
      have HS0 : Hid (v.drew.cell? ⟨P, 3, none⟩ = some (.slice (some ⟨N2, o2, none⟩) A.wn A.wc) ∧ v.drew.cell? ⟨N, o + k * 3 + 1, none⟩ = some (.int .i64 (j : Int)) ∧ v.drew.cell? ⟨N2, o2 + j * 2, none⟩ = some (.int .i64 x) ∧ v.drew.cell? ⟨N2, o2 + j * 2 + 1, none⟩ = some (.int .i64 tg) ∧ Below v.heap.size v v.drew) := ⟨v3, v1, s0, s1, (Below.refl _ _).drew⟩
      clear gv u1 u2 x3 r0 r1 HYU HGU hup
      go_wp2_with fail
      go_cut [4] (fun y wd => ∃ I, y = .pointer (some ⟨I, 0, none⟩) ∧ v.heap.size ≤ I ∧ I < wd.heap.size ∧ wd.cell? ⟨I, 0, none⟩ = some (.int .i64 x) ∧ wd.cell? ⟨I, 1, none⟩ = some (.int .i64 tg) ∧ Below v.heap.size v wd)
      case first =>
        go_region_held2 (fun X => X.cell? ⟨P, 3, none⟩ = some (.slice (some ⟨N2, o2, none⟩) A.wn A.wc) ∧ X.cell? ⟨N, o + k * 3 + 1, none⟩ = some (.int .i64 (j : Int)) ∧ X.cell? ⟨N2, o2 + j * 2, none⟩ = some (.int .i64 x) ∧ X.cell? ⟨N2, o2 + j * 2 + 1, none⟩ = some (.int .i64 tg) ∧ Below v.heap.size v X)
          (first | with_reducible exact HS0.out | (repeat (first | with_reducible assumption | with_reducible exact HS0.out | with_reducible refine q4_allocd lP lN lW lW ?_ _ | with_reducible refine q4_alloc lP lN lW lW ?_ _ | with_reducible refine q4_set lP lN lW lW ?_ ?_ _ | (show (_ : Nat) ≤ _; exact Nat.le_refl _) | (show (_ : Nat) ≤ _; dsimp only; omega))))
          (fail)
        all_goals go_wp2_with fail
        all_goals go_meet
        all_goals (
          refine ⟨_, rfl, ?lo, ?hi, ?c0, ?c1, ?b⟩
          case b => exact q4_bel (by with_reducible assumption)
          case lo => first | exact Nat.le_refl _ | omega
          case hi => first | (simp; done) | (simp; omega)
          case c0 => first | (go_simp; done) | (with_reducible refine set2_at0 _ _ _ _ ?_; go_simp; done)
          case c1 => first | (go_simp; done) | (with_reducible refine set2_at1 _ _ _ _ ?_; go_simp; done))
      case rest =>
      obtain ⟨I, rfl, iL, iH, i0c, i1c, gd⟩ := hcut
      obtain ⟨w3, rfl⟩ : ∃ y, y = wc := ⟨wc, rfl⟩
      have z3 := gd.size
      have t1 := (gd.cell (p := ⟨N, o + k * 3 + 1, none⟩) lN).trans v1
      have HY3 := hide (HYV.out.below gd)
      have HG3 := hide (HGV.out.trans (gd.mono (by omega)))
      have lN3 : N < w3.heap.size := by omega
      have HS1 : Hid (w3.drew.cell? ⟨N, o + k * 3 + 1, none⟩ = some (.int .i64 (j : Int)) ∧ w3.drew.cell? ⟨I, 1, none⟩ = some (.int .i64 tg) ∧ Below w3.heap.size w3 w3.drew) := ⟨t1, i1c, (Below.refl _ _).drew⟩
      clear gd v1 v3 s0 s1 HS0 HYV HGV
      go_wp2_with fail
      go_cut [5] (fun y wd => ∃ g, y = .slice (some ⟨g, 0, none⟩) 1 1 ∧ w3.heap.size ≤ g ∧ wd.ownsRow w3.heap.size 91 5 (.slice (some ⟨g, 0, none⟩) 1 1) 1 (vsA [acA D k (j : Int) tg 4]) ∧ wd.cell? ⟨g, 4, none⟩ = some (.bool (dnB D k tg 4)) ∧ Below w3.heap.size w3 wd)
      case first =>
        go_region_held2 (fun X => X.cell? ⟨N, o + k * 3 + 1, none⟩ = some (.int .i64 (j : Int)) ∧ X.cell? ⟨I, 1, none⟩ = some (.int .i64 tg) ∧ Below w3.heap.size w3 X)
          (first | with_reducible exact HS1.out | (repeat (first | with_reducible assumption | with_reducible refine q2_allocd lN3 iH ?_ _ | with_reducible refine q2_alloc lN3 iH ?_ _ | with_reducible refine q2_set lN3 iH ?_ ?_ _ | (show (_ : Nat) ≤ _; exact Nat.le_refl _) | (show (_ : Nat) ≤ _; dsimp only; omega))))
          (first | (go_at_call 130; refine (l10Access_calls P A D k (j : Int) tg 4 _ (HY3.out.below (q2_bel (by with_reducible assumption))) HH.out ht (.inr (.inr rfl))).mono ?_; rintro e ws ⟨rfl, gs⟩; have hss := q2_below lN3 iH (by with_reducible assumption) gs; have hzs := gs.size; have hws := (q2_bel hss).size; (try simp only [World.size_drew] at hzs); clear gs))
        all_goals go_wp2_with fail
        all_goals go_meet
        all_goals (
          refine ⟨_, rfl, ?lo, ?ow, ?c4, ?b⟩
          case b => exact q2_bel (by with_reducible assumption)
          case lo => first | exact Nat.le_refl _ | omega
          case ow => exact World.ownsRow_lit _ _ 1 (by omega) (by unfold maxLen; omega) rfl
          case c4 => (go_simp; done))
      case rest =>
      obtain ⟨g, rfl, gL, own, g4, gd⟩ := hcut
      obtain ⟨w4, rfl⟩ : ∃ y, y = wc := ⟨wc, rfl⟩
      have z4 := gd.size
      have i4 := (gd.cell (p := ⟨I, 0, none⟩) iH).trans i0c
      have HY4 := hide (HY3.out.below gd)
      have HG4 := hide (HG3.out.trans (gd.mono (by omega)))
      clear gd t1 i1c HS1 HY3 HG3 i0c
      cases hd : dnB D k tg 4 with
      | false =>
        rw [hd] at g4
        have HL : Hid (accA D k = [acA D k (j : Int) tg 4]) := by show _ = _; rw [HA.out, if_neg (by rw [hd]; simp)]
        obtain ⟨ra, rc, hv, ho⟩ := own_oa (n := 1) (by omega) rfl own
        have HF := hide ho
        have HV := hide hv
        clear ho hv own
        go_wp2
        go_ret
        refine ⟨ra, 1, rc, congrArg Ending.returned HV.out, ?_, HG4.out⟩
        rw [HL.out]
        exact HF.out.mono (fun q e => ⟨by have := e.1; omega, e.2⟩)
      | true =>
        rw [hd] at g4
        have HO4 := hide own
        clear own
        have hx := HX.out
        obtain ⟨ib, hib⟩ : ∃ y : Nat, x / 64 % 8 = (y : Int) := ⟨(x / 64 % 8).toNat, by omega⟩
        have HL : Hid (accA D k = [acA D k (j : Int) tg 4] ++ dtA D k (x / 4096) ib (x % 64)) := by
          show _ = _
          rw [HA.out, if_pos hd]
          have : ibX D k = ib := by unfold ibX; rw [EX.out]; omega
          rw [this]
          unfold opX imX
          rw [EX.out]
          rfl
        have HB8 := hide hib
        have h8b : ib < 8 := by omega
        go_wp2_with (first | (go_at_call 131; fail))
        refine (l5Decode_calls x _ hx.1 hx.2).mono ?_
        rintro e w5 ⟨rfl, g5⟩
        rw [HB8.out]
        obtain ⟨w6, h6⟩ : ∃ y, y = w5.alloc (.cells #[.int .i64 (x / 4096), .int .i64 (x / 512 % 8), .int .i64 (ib : Int), .int .i64 (x % 64)] 199) := ⟨_, rfl⟩
        have g6 : Below w4.heap.size w4 w6 := by rw [h6]; exact g5.alloc g5.size _
        have z5 := g5.size
        have z6 : w6.heap.size = w5.heap.size + 1 := by rw [h6]; simp
        have p0 : w6.cell? ⟨w5.heap.size, 0, none⟩ = some (.int .i64 (x / 4096)) := by rw [h6]; go_simp
        have p2 : w6.cell? ⟨w5.heap.size, 2, none⟩ = some (.int .i64 (ib : Int)) := by rw [h6]; go_simp
        have p3 : w6.cell? ⟨w5.heap.size, 3, none⟩ = some (.int .i64 (x % 64)) := by rw [h6]; go_simp
        have HY6 := hide (HY4.out.below g6)
        have HG6 := hide (HG4.out.trans (g6.mono (by omega)))
        have HO6 := hide (ownR_below HO4.out g6)
        have H6 := hide h6
        clear g5 g6 h6 HO4 HY4 HG4 i4 g4 hib
        go_upto_region 9 with fail
        rw [← H6.out]
        go_wp2_with (first | (go_at_call 132; fail))
        refine (l10Data_calls P A D k w5.heap.size ib (x / 4096) (x % 64) _ HY6.out HH.out hdv (by omega) p0 p2 p3 h8b (by omega)).mono ?_
        rintro e w7 ⟨a2, n2, c2, rfl, hnil, oa, g7⟩
        have z7 := g7.size
        have HO := hide (ownR_below HO6.out g7)
        have HB7 := hide (HG6.out.trans (g7.mono (by omega)))
        clear g7 HO6 HY6 HG6 p0 p2 p3 H6
        have hl2 := oa.1
        have hn2 : n2 ≤ 1 := by rw [← hl2]; exact dtA_le _ _ _ _ _
        cases a2 with
        | none =>
          obtain ⟨rfl, rfl⟩ := hnil rfl
          have hys : Hid (dtA D k (x / 4096) ib (x % 64) = []) := List.length_eq_zero_iff.1 hl2
          have hap := fun ty => run_append_owned_none (P := Tryz.prog) (w := w7) w3.heap.size 72 ty 91 i0 5 Tryz.underlying72 hi _ 1 _ HO.out
          obtain ⟨ra, rc, hv, ho⟩ := own_oa (n := 1) (by omega) rfl HO.out
          have HF := hide ho
          have HV := hide hv
          clear ho hv oa hnil hl2
          go_wp2
          go_ret
          refine ⟨ra, 1, rc, congrArg Ending.returned HV.out, ?_, HB7.out⟩
          rw [HL.out, hys.out, List.append_nil]
          exact HF.out.mono (fun q e => ⟨by have := e.1; omega, e.2⟩)
        | some ad =>
          have hnews : Hid (∀ j u, (vsA (dtA D k (x / 4096) ib (x % 64)))[j]? = some u → w7.cell? (ad.add j) = some u) := by
            show ∀ j u, _
            rcases oa.2.2 with h | ⟨b2, e2, h⟩
            · have : dtA D k (x / 4096) ib (x % 64) = [] := List.length_eq_zero_iff.1 (hl2.trans h)
              rw [this]
              intro j u hj
              simp [vsA] at hj
            · injection e2 with e2
              subst e2
              intro j u hj
              refine OA.news (S := fun _ => True) (n := n2) (xs := dtA D k (x / 4096) ib (x % 64)) (w := w7) ⟨hl2, by omega, .inr ⟨b2, rfl, trivial, h.2⟩⟩ ?_ j u hj
              have := (List.getElem?_eq_some_iff.1 hj).1
              rw [length_vsA] at this
              omega
          have HL2 : Hid ((vsA (dtA D k (x / 4096) ib (x % 64))).length = n2 * 5) := by show _ = _; rw [length_vsA, hl2]
          have HM1 : Hid (1 + n2 ≤ maxLen) := by show _ ≤ _; unfold maxLen; omega
          have HM2 : Hid ((1 + n2) * 40 ≤ 140737488355328) := by show _ ≤ _; omega
          have HBS : Hid (w3.heap.size ≤ w7.heap.size) := by show _ ≤ _; omega
          have HLE : Hid (([acA D k (j : Int) tg 4] ++ dtA D k (x / 4096) ib (x % 64)).length = 1 + n2) := by show _ = _; rw [List.length_append, hl2]; rfl
          clear oa hnil hl2
          go_wp2_with (first
            | (at_builtin; refine wpList_append_own _ rfl _ _ 72 rfl w3.heap.size 91 i0 (.agg #[.int .i64 0, .int .i64 0, .int .i64 0, .int .i64 0, .bool false]) 5 40 Tryz.underlying72 hi hz0 hz1 hz2 rfl (by decide) _ 1 (vsA [acA D k (j : Int) tg 4]) rfl HO.out ad n2 c2 (vsA (dtA D k (x / 4096) ib (x % 64))) rfl HL2.out hnews.out vsA_one HM1.out HM2.out HBS.out ?_)
            | go_in)
          intro v' w9 hown' hgrow _
          rw [← vsA_append] at hown'
          obtain ⟨ra, rc, hv, ho⟩ := own_oa (by omega) HLE.out hown'
          have HF := hide ho
          have HG9 := hide (HB7.out.grown hgrow (by omega) (fun q hq => by simp [Value.ownBlock] at hq; omega))
          subst hv
          clear ho hown' hgrow hnews HL2 HM1 HM2 HBS
          go_wp2
          go_ret
          refine ⟨ra, 1 + n2, rc, rfl, ?_, HG9.out⟩
          rw [HL.out]
          exact HF.out.mono (fun q e => ⟨by have := e.1; omega, e.2⟩)

set_option maxRecDepth 100000 in
set_option maxHeartbeats 4000000 in
theorem specAccessesOf_calls (A : SA) (D : SD) (w : World) (hr : RS w A D) (_ : A.ln ≤ A.lc) :
    Calls Tryz.prog 25 #[.agg #[.slice A.a A.n A.c, .slice A.ta A.tn A.tc, .slice A.da A.dn A.dc, .slice A.wa A.wn A.wc, .slice A.xa A.xn A.xc, .int .i64 D.ac, .int .i64 D.cz, .slice A.la A.ln A.lc, .int .i64 D.dv, .slice A.oa A.on A.oc, .slice A.ga A.gn A.gc]] w fun e w' => ∃ ra rn rc, e = .returned (.agg #[.int .i64 (sysF D), .slice ra rn rc]) ∧ OA (InR w.heap.size w'.heap.size) ra rn (aoL D) w' ∧ Below w.heap.size w w' := by
  have M0 := ((Mm.start w).allocC [.slice A.a A.n A.c, .slice A.ta A.tn A.tc, .slice A.da A.dn A.dc, .slice A.wa A.wn A.wc, .slice A.xa A.xn A.xc, .int .i64 D.ac, .int .i64 D.cz, .slice A.la A.ln A.lc, .int .i64 D.dv, .slice A.oa A.on A.oc, .slice A.ga A.gn A.gc] 47).alloc2 (.int .i64 0) (.slice none 0 0) 74
  simp only [World.size_alloc] at M0
  go_enter Tryz.func25, Tryz.ntmps25
  go_wp2_with fail
  refine (l7Fault_calls w.heap.size A D _ (M0.get 0 rfl) (hr.below M0.bel (Nat.le_refl _))).mono ?_
  rintro e w1 ⟨rfl, g1⟩
  have z1 : w.heap.size + 2 ≤ w1.heap.size := by have := g1.size; simpa using this
  have M1 := M0.below g1
  clear g1 M0
  by_cases hf : sysF D = 0
  rotate_left
  · have HL : Hid (aoL D = []) := if_neg hf
    have hne : (sysF D != 0) = true := by simpa using hf
    have r0 := M1.cell 0 rfl
    have r1 := M1.cell 1 rfl
    have f0 := M1.fz 0 rfl
    have f1 := M1.fz 1 rfl
    have HB := hide M1.bel
    clear M1 hf
    go_wp2
    refine bodyPost_ret (v := .agg #[.int .i64 (sysF D), .slice none 0 0]) (by simp [results, Tryz.results25, go_sem, r0, r1]) rfl ⟨none, 0, 0, rfl, ?_, (HB.out.setCell (by simp) _).setCell (by simp) _⟩
    rw [HL.out]
    exact OA.nil _ _ _
  have hne : (sysF D != 0) = false := by simp [hf]
  obtain ⟨k, H⟩ := hr.right hf
  have hdv : 0 ≤ D.dv ∧ D.dv ≤ (A.tn : Int) := by
    have h5 := (sysF_inv hf).2.2.2.2.1
    rw [hr.len.2.1] at h5
    unfold hasT at h5
    simp at h5
    omega
  have HL : Hid (aoL D = accA D k) := by show _ = _; unfold aoL; rw [if_pos hf, H.ac]; rfl
  have HF := hide hf
  have HY : Hid (YV w.heap.size A D w1) := ⟨by omega, CsO.ofCs (M1.get 0 rfl), hr.below M1.bel (Nat.le_refl _)⟩
  clear hf
  go_wp2_with fail
  refine (l10Accesses_calls w.heap.size A D k _ HY.out H hdv).mono ?_
  rintro e w2 ⟨ra, rn, rc, rfl, oa, g2⟩
  have z2 := g2.size
  have M2 := (M1.below g2).fact OA.loc oa
  clear g2 oa M1
  have r0 := M2.cell 0 rfl
  have r1 := M2.cell 1 rfl
  have f0 := M2.fz 0 rfl
  have f1 := M2.fz 1 rfl
  have HB := hide M2.bel
  have HO := hide (M2.get 0 rfl)
  clear M2
  go_wp2
  refine bodyPost_ret (v := .agg #[.int .i64 0, .slice ra rn rc]) (by simp [results, Tryz.results25, go_sem, r0, r1]) rfl ⟨ra, rn, rc, by rw [HF.out], ?_, (HB.out.setCell (by simp) _).setCell (by simp) _⟩
  rw [HL.out]
  exact (OA.loc.setC (OA.loc.setC HO.out (fun h => by have := h.1; simp at this; omega) _) (fun h => by have := h.1; simp at this; omega) _).mono (fun q e => ⟨by have := e.1; omega, by have := e.2; simp; omega⟩)

end Go.Proofs.YtbfmdnnbiidlkaaGreat
