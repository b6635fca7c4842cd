import Derived.Test.YtoignmalopmlaaaTablesI
import Derived.Test.YtoignmalopmlaaaOpenTabC
import Derived.Test.YtoignmalopmlaaaLeave
import Derived.Test.YtoignmalopmlaaaTgP
import Derived.WalkKit
import Derived.ProofKit
import Derived.OpenShut
import Derived.ShutString
import Derived.ChangeOld
import Derived.Below
import Derived.WalkSpells
import Derived.Deep.QuietTactic
import Derived.BigQuiet
import Derived.Deep.RegionWith
import Derived.Deep.WholeRow
import Derived.Deep.DeepCutAuto
import Derived.Deep.RegionHeld2
import Derived.Deep.AppendLies
import Derived.Deep.RegionLaw
namespace Go.Proofs.Ytoignmalopmlaaa
open Go.ChangeShapes Go.WideShapes Go.ChangeAt Go.RowKit

set_option maxRecDepth 100000 in
set_option maxHeartbeats 2000000 in
theorem implDropTag_calls (a : Option Addr) (n c : Nat) (ss : List (Int × List Int)) (ta : Option Addr) (tn tc : Nat) (ts : List Int) (da : Option Addr) (dn dc : Nat) (ds : List Int) (w : World) (hrt : RT w a n ss ta tn ts da dn ds) :
    Calls Try.prog 22 #[.agg #[.slice a n c, .slice ta tn tc, .slice da dn dc]] w fun e w' => ∃ ra rn rc xa xn xc ya yn yc, e = .returned (.agg #[.int .i64 (dtC ss ts ds), .int .i64 (dtV ss ts ds), .slice ra rn rc, .slice xa xn xc, .slice ya yn yc]) ∧
      OT (InR w.heap.size w'.heap.size) ra rn (dtS ss ts ds) xa xn (dtT ss ts ds) ya yn (dtD ss ts ds) w' ∧ Below w.heap.size w w' := by
  have M0 := ((Mm.start w).alloc3 (.slice a n c) (.slice ta tn tc) (.slice da dn dc) 36).alloc5 (.int .i64 0) (.int .i64 0) (.slice none 0 0) (.slice none 0 0) (.slice none 0 0) 38
  try simp only [World.size_alloc] at M0
  have hrt0 := hrt.below M0.bel (Nat.le_refl _)
  have HSL := hide hrt.2.1.1
  have HTL := hide hrt.2.2.2.1.1
  have hsl1 : ss.length ≤ n := Nat.le_of_eq HSL.out
  have hsl2 : n ≤ ss.length := Nat.le_of_eq HSL.out.symm
  have htl1 : ts.length ≤ tn := Nat.le_of_eq HTL.out
  have htl2 : tn ≤ ts.length := Nat.le_of_eq HTL.out.symm
  have hdl1 : ds.length ≤ dn := Nat.le_of_eq hrt.2.2.2.2.2.1
  have hdl2 : dn ≤ ds.length := Nat.le_of_eq hrt.2.2.2.2.2.1.symm
  go_enter Try.func22, Try.ntmps22
  go_wp2_with fail
  refine (openTables_C a n c ss ta tn tc ts da dn dc ds _ hrt0).mono ?_
  rintro e w1 ⟨sz, mo, xa, xn, xc, ya, yn, yc, rfl, g1, hled⟩
  have M1a := M0.below g1
  have zR := M1a.lt 0 rfl
  have M1 := (M0.below g1).alloc4 (.int .i64 sz) (.map mo) (.slice xa xn xc) (.slice ya yn yc) 81
  have z1 := g1.size
  simp only [World.size_alloc] at z1
  have zP := M1.lt 4 rfl
  by_cases hf : tabF ss ts ds = 0
  rotate_left
  · have HC := hide (dt_bad hf)
    have hf' : dtC ss ts ds ≠ 0 := by rw [HC.out]; exact hf
    have HV : Hid (dtV ss ts ds = 0) := if_neg hf'
    have HS : Hid (dtS ss ts ds = []) := if_neg hf'
    have HT : Hid (dtT ss ts ds = []) := if_neg hf'
    have HD : Hid (dtD ss ts ds = []) := if_neg hf'
    clear hf'
    have hne : (tabF ss ts ds != 0) = true := by simpa using hf
    have c0 := M1a.cell 0 rfl
    have c1 := M1a.cell 1 rfl
    have c2 := M1a.cell 2 rfl
    have c3 := M1a.cell 3 rfl
    have c4 := M1a.cell 4 rfl
    have f0 := M1a.fz 0 rfl
    have f1 := M1a.fz 1 rfl
    have f2 := M1a.fz 2 rfl
    have f3 := M1a.fz 3 rfl
    have f4 := M1a.fz 4 rfl
    have HB := hide M1a.bel
    clear hf M0 M1 M1a g1 hrt0 hled
    go_wp2
    refine bodyPost_ret (v := .agg #[.int .i64 (tabF ss ts ds), .int .i64 0, .slice none 0 0, .slice none 0 0, .slice none 0 0]) (by simp [results, Try.results22, go_sem, c0, c1, c2, c3, c4, zR]) rfl ⟨_, _, _, _, _, _, _, _, _, by rw [HC.out, HV.out], ?_, (below_set5 HB.out (by omega) _ _ _ _ _).alloc (by simp; omega) _⟩
    rw [HS.out, HT.out, HD.out]
    exact OT.nil _ _ _ _ _
  have hne : (tabF ss ts ds != 0) = false := by simp [hf]
  obtain ⟨rfl, ⟨kx, ky⟩, M, X1, X2, X3, rfl, l1, l2, l3, l4, l5, own, ox, oy⟩ := hled hf
  simp only [World.size_alloc] at l1
  have hxn := ox.1
  have hyn1 : ds.length ≤ yn := Nat.le_of_eq oy.1
  have hyn2 : yn ≤ ds.length := Nat.le_of_eq oy.1.symm
  have p2 := M1.cell 2 rfl
  have al := (Below.refl w1.heap.size w1).alloc (Nat.le_refl _) (.cells #[.int .i64 (ss.length : Int), .map (some M), .slice xa xn xc, .slice ya yn yc] 81)
  have hbk : Bk (w1.alloc (.cells #[.int .i64 (ss.length : Int), .map (some M), .slice xa xn xc, .slice ya yn yc] 81)) w1.heap.size M (ss.length : Int) ss.length (bk ss ss.length) := ⟨by simp, by simp, by simp, fun j => by simp, ownsMap_below own al (Nat.le_refl _)⟩
  have ox1 := OS.loc.below al ox
  have oy1 := OS.loc.below al oy
  obtain rfl : tn = xn := by omega
  clear hxn
  clear g1 al ox oy hrt0 M0
  by_cases h0 : tn = 0
  · have HC := hide (dt_none (ds := ds) hf (by omega))
    have hf' : dtC ss ts ds ≠ 0 := by rw [HC.out]; omega
    have HV : Hid (dtV ss ts ds = 0) := if_neg hf'
    have HS : Hid (dtS ss ts ds = []) := if_neg hf'
    have HT : Hid (dtT ss ts ds = []) := if_neg hf'
    have HD : Hid (dtD ss ts ds = []) := if_neg hf'
    clear hf'
    subst h0
    have c0 := M1a.cell 0 rfl
    have c1 := M1a.cell 1 rfl
    have c2 := M1a.cell 2 rfl
    have c3 := M1a.cell 3 rfl
    have c4 := M1a.cell 4 rfl
    have f0 := M1a.fz 0 rfl
    have f1 := M1a.fz 1 rfl
    have f2 := M1a.fz 2 rfl
    have f3 := M1a.fz 3 rfl
    have f4 := M1a.fz 4 rfl
    have HB := hide M1a.bel
    clear hf M1 M1a hbk ox1 oy1 own p2
    go_wp2
    refine bodyPost_ret (v := .agg #[.int .i64 4, .int .i64 0, .slice none 0 0, .slice none 0 0, .slice none 0 0]) (by simp [results, Try.results22, go_sem, c0, c1, c2, c3, c4, zR]) rfl ⟨_, _, _, _, _, _, _, _, _, by rw [HC.out, HV.out], ?_, (below_set5 HB.out (by omega) _ _ _ _ _).alloc (by simp; omega) _⟩
    rw [HS.out, HT.out, HD.out]
    exact OT.nil _ _ _ _ _
  · have hpos : 0 < ts.length := by omega
    have HC := hide (dt_ok (ds := ds) hf hpos)
    have HV : Hid (dtV ss ts ds = (ts.length : Int)) := if_pos HC.out
    have HS0 : Hid (dtS ss ts ds = leaveS ss (gt ts (ts.length - 1)).toNat) := if_pos HC.out
    have HT0 : Hid (dtT ss ts ds = ts.take (ts.length - 1)) := if_pos HC.out
    have HD : Hid (dtD ss ts ds = ds) := if_pos HC.out
    obtain ⟨hr, hmy, hA1, hA2, _⟩ := tabF_zero hf
    have hml := many_len hmy
    have good := good_of hr
    obtain ⟨j, hj⟩ : ∃ j, tn = j + 1 := ⟨tn - 1, by omega⟩
    have hat := atC_all hA1 (j := j) (by omega)
    obtain ⟨q, hq, hql, hqp, hqL, hqV⟩ := atC_zero good hat
    have hj1 : ts.length - 1 = j := by omega
    have HS : Hid (dtS ss ts ds = leaveS ss q) := by show _ = _; rw [HS0.out, hj1, hq]; rfl
    have HT : Hid (dtT ss ts ds = ts.take j) := by show _ = _; rw [HT0.out, hj1]
    have gl2 := good_leave good hql hqp
    have hsum := good_sum good
    have hsum2 := good_sum gl2
    rw [length_leaveS] at hsum2
    have hj2 : j < tn := by omega
    have hj3 : tn ≤ j + 1 := by omega
    have Hq := hide hq
    clear hj hq hj1
    have hz0 : ((tn : Int) == 0) = false := by simp; omega
    have hidx : (tn : Int) - 1 = (j : Int) := by omega
    have hM1 := own.lt
    have Hat := hide hat
    have Hqv := hide hqV
    clear hf hat hqL hqV own M1a
    go_wp2_with fail
    refine (lastTag_calls w1.heap.size xa tn xc _ p2).mono ?_
    rintro e w2 ⟨rfl, g2⟩
    have M2 := M1.below g2
    have z2 := g2.size
    simp only [World.size_alloc] at z2
    have hbk2 := hbk.below g2
    have ox2 := OS.loc.below g2 ox1
    have oy2 := OS.loc.below g2 oy1
    have s2 := M2.cell 2 rfl
    obtain ⟨tb, toff, rfl, htb, hct⟩ := ox2.sl.2 (by omega)
    have htc := hct j (by omega)
    rw [Hq.out] at htc Hat Hqv
    have i0 : (0 : Int) ≤ (j : Int) := by omega
    have i1 : (j : Int) < (tn : Int) := by omega
    clear g2 hbk ox1 oy1 hct M1 p2
    go_wp2_with fail
    refine (leave_calls w1.heap.size M ss.length (q : Int) ss _ _ hbk2 (by have := good.few; omega) good (rep_bk hr)).mono ?_
    rintro e w3 ⟨rfl, u3, hfin⟩
    obtain ⟨D3, hb3, hrep⟩ := hfin Hat.out
    rw [Hqv.out, Hat.out]
    have hqn : ((q : Int)).toNat = q := by omega
    rw [hqn] at hrep
    have z3 := u3.size
    have M3 := M2.out (B := M) (T := M + 1) (u3.mono (fun k hk => ⟨by omega, by omega⟩)) (by omega) (by simp <;> omega) (by simp)
    have ox3 := (OS.loc.out u3 (fun k h h' => by have := h.1; omega) ox2)
    have oy3 := (OS.loc.out u3 (fun k h h' => by have := h.1; omega) oy2)
    have v2 := M3.cell 2 rfl
    have y2 := M3.fz 2 rfl
    have M4 := M3.set 2 rfl (.slice (some ⟨tb, toff, none⟩) j xc) (by omega) (by simp; omega) (by simp)
    simp only [List.set_cons_succ, List.set_cons_zero] at M4
    have hb4 : Bk (w3.setCell ⟨w1.heap.size, 2, none⟩ (.slice (some ⟨tb, toff, none⟩) j xc)) w1.heap.size M (ss.length : Int) (ss.length + 1) D3 := by
      refine ⟨by simpa using hb3.lt, ?_, ?_, fun k => by simpa using hb3.f k, hb3.own.setCell (by show M ≠ w1.heap.size; omega) _⟩
      · rw [World.cell?_setCell_other _ _ _ _ (fun e => by injection e with _ e2; omega)]; exact hb3.c0
      · rw [World.cell?_setCell_other _ _ _ _ (fun e => by injection e with _ e2; omega)]; exact hb3.c1
    have ox4 := (OS.loc.setC ox3 (q := ⟨w1.heap.size, 2, none⟩) (fun e => by have := e.2; simp only at this; omega) (.slice (some ⟨tb, toff, none⟩) j xc)).take (k := j) (by omega)
    have oy4 := OS.loc.setC oy3 (q := ⟨w1.heap.size, 2, none⟩) (fun e => by have := e.2; simp only at this; omega) (.slice (some ⟨tb, toff, none⟩) j xc)
    have i2 : (j : Int) ≤ (xc : Int) := by omega
    have i3 : j ≤ xc := by omega
    obtain ⟨W4, hW4⟩ : ∃ x, x = w3.setCell ⟨w1.heap.size, 2, none⟩ (.slice (some ⟨tb, toff, none⟩) j xc) := ⟨_, rfl⟩
    have HW4 := hide hW4
    rw [← hW4] at M4 hb4 ox4 oy4
    have z4 : w3.heap.size ≤ W4.heap.size := by rw [hW4]; simp
    rw [← length_leaveS ss q] at hb4
    have ec : ((0 : Int) != 0) = false := by simp
    clear hW4 M3 M2 ox3 oy3 ox2 oy2 hbk2 hb3 u3 hfin htc
    go_upto_region 11 with fail
    rw [← HW4.out]
    clear HW4 v2 y2 s2
    have s3 := M4.cell 3 rfl
    have s2 := M4.cell 2 rfl
    go_wp2_with fail
    refine (tables_calls w1.heap.size M _ (leaveS ss q) D3 (some ⟨tb, toff, none⟩) j xc ya yn yc _ hb4 gl2 hrep s2 s3).mono ?_
    rintro e w5 ⟨b, rfl, o5, g5⟩
    have M5 := M4.below g5
    have z5 := g5.size
    have ox5 := OS.loc.below g5 ox4
    have oy5 := OS.loc.below g5 oy4
    have c0 := M5.cell 4 rfl
    have c1 := M5.cell 5 rfl
    have c2 := M5.cell 6 rfl
    have c3 := M5.cell 7 rfl
    have c4 := M5.cell 8 rfl
    have f0 := M5.fz 4 rfl
    have f1 := M5.fz 5 rfl
    have f2 := M5.fz 6 rfl
    have f3 := M5.fz 7 rfl
    have f4 := M5.fz 8 rfl
    have HB := hide M5.bel
    have HO : Hid (∀ v0 v1 v2 v3 v4, OT (InR w.heap.size w5.heap.size) (some ⟨b, 0, none⟩) (leaveS ss q).length (leaveS ss q) (some ⟨tb, toff, none⟩) j (ts.take j) ya yn ds (((((w5.setCell ⟨w.heap.size + 1, 0, none⟩ v0).setCell ⟨w.heap.size + 1, 1, none⟩ v1).setCell ⟨w.heap.size + 1, 2, none⟩ v2).setCell ⟨w.heap.size + 1, 3, none⟩ v3).setCell ⟨w.heap.size + 1, 4, none⟩ v4)) := fun v0 v1 v2 v3 v4 =>
      OT.of3 (loc_set5 OR.loc o5 (fun e => by have := e.1; omega) v0 v1 v2 v3 v4) (loc_set5 OS.loc ox5 (fun e => by have := e.1; omega) v0 v1 v2 v3 v4) (loc_set5 OS.loc oy5 (fun e => by have := e.1; omega) v0 v1 v2 v3 v4) (by omega) (by omega) (by omega) (by omega) (by omega) (by omega) (.inr (by omega)) (.inr (by omega)) (.inl (by omega))
    clear M4 M5 g5 o5 ox4 oy4 ox5 oy5 hb4 hrep s2 s3
    go_wp2
    refine bodyPost_ret (v := .agg #[.int .i64 0, .int .i64 (tn : Int), .slice (some ⟨b, 0, none⟩) (leaveS ss q).length (leaveS ss q).length, .slice (some ⟨tb, toff, none⟩) j xc, .slice ya yn yc]) (by simp [results, Try.results22, go_sem, c0, c1, c2, c3, c4]) rfl ⟨_, _, _, _, _, _, _, _, _, by rw [HC.out, HV.out, HTL.out], ?_, below_set5 HB.out (by omega) _ _ _ _ _⟩
    rw [HS.out, HT.out, HD.out]
    simpa using HO.out _ _ _ _ _

end Go.Proofs.Ytoignmalopmlaaa
