import Derived.Test.YtoignmalopmlaaaDropP
import Derived.Test.YtoignmalopmlaaaL3Copy
import Derived.Test.YtoignmalopmlaaaL3Fault
import Derived.Test.YtoignmalopmlaaaL2Leave
import Derived.Test.YtoignmalopmlaaaTgP
import Derived.WalkKit
import Derived.ProofKit
import Derived.OpenShut
import Derived.ShutString
import Derived.ChangeOld
import Derived.Below
import Derived.WalkSpells
import Derived.Deep.QuietTactic
import Derived.BigQuiet
import Derived.Deep.RegionWith
import Derived.Deep.WholeRow
import Derived.Deep.DeepCutAuto
import Derived.Deep.RegionHeld2
import Derived.Deep.AppendLies
import Derived.Deep.RegionLaw
namespace Go.Proofs.Ytoignmalopmlaaa
open Go.ChangeShapes Go.WideShapes Go.ChangeAt Go.RowKit

set_option maxRecDepth 100000 in
set_option maxHeartbeats 2000000 in
theorem specDropTag_calls (a : Option Addr) (n c : Nat) (ss : List (Int × List Int)) (ta : Option Addr) (tn tc : Nat) (ts : List Int) (da : Option Addr) (dn dc : Nat) (ds : List Int) (w : World) (hrt : RT w a n ss ta tn ts da dn ds) :
    Calls Try.prog 21 #[.agg #[.slice a n c, .slice ta tn tc, .slice da dn dc]] w fun e w' => ∃ ra rn rc xa xn xc ya yn yc, e = .returned (.agg #[.int .i64 (dtC ss ts ds), .int .i64 (dtV ss ts ds), .slice ra rn rc, .slice xa xn xc, .slice ya yn yc]) ∧
      OT (InR w.heap.size w'.heap.size) ra rn (dtS ss ts ds) xa xn (dtT ss ts ds) ya yn (dtD ss ts ds) w' ∧ Below w.heap.size w w' := by
  have M0 := ((Mm.start w).alloc3 (.slice a n c) (.slice ta tn tc) (.slice da dn dc) 36).alloc5 (.int .i64 0) (.int .i64 0) (.slice none 0 0) (.slice none 0 0) (.slice none 0 0) 38
  try simp only [World.size_alloc] at M0
  have hrt0 := hrt.below M0.bel (Nat.le_refl _)
  have HSL := hide hrt.2.1.1
  have HTL := hide hrt.2.2.2.1.1
  have hsl1 : ss.length ≤ n := Nat.le_of_eq HSL.out
  have hsl2 : n ≤ ss.length := Nat.le_of_eq HSL.out.symm
  have htl1 : ts.length ≤ tn := Nat.le_of_eq HTL.out
  have htl2 : tn ≤ ts.length := Nat.le_of_eq HTL.out.symm
  have hdl1 : ds.length ≤ dn := Nat.le_of_eq hrt.2.2.2.2.2.1
  have hdl2 : dn ≤ ds.length := Nat.le_of_eq hrt.2.2.2.2.2.1.symm
  go_enter Try.func21, Try.ntmps21
  go_wp2_with fail
  refine (l3Fault_calls _ a n c ss ta tn tc ts da dn dc ds _ (M0.lt 5 rfl) (M0.cell 5 rfl) (M0.cell 6 rfl) (M0.cell 7 rfl) hrt0).mono ?_
  rintro e w1 ⟨rfl, g1⟩
  have M1 := M0.below g1
  have hrt1 := hrt0.below g1 (Nat.le_refl _)
  clear M0 g1 hrt0
  by_cases hf : tabF ss ts ds = 0
  rotate_left
  · have HC := hide (dt_bad hf)
    have hf' : dtC ss ts ds ≠ 0 := by rw [HC.out]; exact hf
    have HV : Hid (dtV ss ts ds = 0) := if_neg hf'
    have HS : Hid (dtS ss ts ds = []) := if_neg hf'
    have HT : Hid (dtT ss ts ds = []) := if_neg hf'
    have HD : Hid (dtD ss ts ds = []) := if_neg hf'
    clear hf'
    have hne : (tabF ss ts ds != 0) = true := by simpa using hf
    clear hf
    go_wp2_with fail
    refine (l3Bad_calls _ _).mono ?_
    rintro e w2 ⟨rfl, g2⟩
    have M2 := M1.below g2
    have c0 := M2.cell 0 rfl
    have c1 := M2.cell 1 rfl
    have c2 := M2.cell 2 rfl
    have c3 := M2.cell 3 rfl
    have c4 := M2.cell 4 rfl
    have f0 := M2.fz 0 rfl
    have f1 := M2.fz 1 rfl
    have f2 := M2.fz 2 rfl
    have f3 := M2.fz 3 rfl
    have f4 := M2.fz 4 rfl
    have HB := hide M2.bel
    clear M1 M2 g2 hrt1
    go_wp2
    refine bodyPost_ret (v := .agg #[.int .i64 (tabF ss ts ds), .int .i64 0, .slice none 0 0, .slice none 0 0, .slice none 0 0]) (by simp [results, Try.results21, go_sem, c0, c1, c2, c3, c4]) rfl ⟨_, _, _, _, _, _, _, _, _, by rw [HC.out, HV.out], ?_, below_set5 HB.out (by omega) _ _ _ _ _⟩
    rw [HS.out, HT.out, HD.out]
    exact OT.nil _ _ _ _ _
  have hne : (tabF ss ts ds != 0) = false := by simp [hf]
  have p1 := M1.cell 6 rfl
  by_cases h0 : tn = 0
  · have HC := hide (dt_none (ds := ds) hf (by omega))
    have hf' : dtC ss ts ds ≠ 0 := by rw [HC.out]; omega
    have HV : Hid (dtV ss ts ds = 0) := if_neg hf'
    have HS : Hid (dtS ss ts ds = []) := if_neg hf'
    have HT : Hid (dtT ss ts ds = []) := if_neg hf'
    have HD : Hid (dtD ss ts ds = []) := if_neg hf'
    clear hf'
    subst h0
    clear hf
    go_wp2_with fail
    refine (l3Bad_calls _ _).mono ?_
    rintro e w2 ⟨rfl, g2⟩
    have M2 := M1.below g2
    have c0 := M2.cell 0 rfl
    have c1 := M2.cell 1 rfl
    have c2 := M2.cell 2 rfl
    have c3 := M2.cell 3 rfl
    have c4 := M2.cell 4 rfl
    have f0 := M2.fz 0 rfl
    have f1 := M2.fz 1 rfl
    have f2 := M2.fz 2 rfl
    have f3 := M2.fz 3 rfl
    have f4 := M2.fz 4 rfl
    have HB := hide M2.bel
    clear M1 M2 g2 hrt1 p1
    go_wp2
    refine bodyPost_ret (v := .agg #[.int .i64 4, .int .i64 0, .slice none 0 0, .slice none 0 0, .slice none 0 0]) (by simp [results, Try.results21, go_sem, c0, c1, c2, c3, c4]) rfl ⟨_, _, _, _, _, _, _, _, _, by rw [HC.out, HV.out], ?_, below_set5 HB.out (by omega) _ _ _ _ _⟩
    rw [HS.out, HT.out, HD.out]
    exact OT.nil _ _ _ _ _
  · have hpos : 0 < ts.length := by omega
    have HC := hide (dt_ok (ds := ds) hf hpos)
    have HV : Hid (dtV ss ts ds = (ts.length : Int)) := if_pos HC.out
    have HS0 : Hid (dtS ss ts ds = leaveS ss (gt ts (ts.length - 1)).toNat) := if_pos HC.out
    have HT0 : Hid (dtT ss ts ds = ts.take (ts.length - 1)) := if_pos HC.out
    have HD : Hid (dtD ss ts ds = ds) := if_pos HC.out
    obtain ⟨hr, hmy, hA1, hA2, _⟩ := tabF_zero hf
    have hml := many_len hmy
    have good := good_of hr
    obtain ⟨j, hj⟩ : ∃ j, tn = j + 1 := ⟨tn - 1, by omega⟩
    have hat := atC_all hA1 (j := j) (by omega)
    obtain ⟨q, hq, hql, hqp, hqL, hqV⟩ := atC_zero good hat
    have hj1 : ts.length - 1 = j := by omega
    have HS : Hid (dtS ss ts ds = leaveS ss q) := by show _ = _; rw [HS0.out, hj1, hq]; rfl
    have HT : Hid (dtT ss ts ds = ts.take j) := by show _ = _; rw [HT0.out, hj1]
    have gl2 := good_leave good hql hqp
    have hsum := good_sum good
    have hsum2 := good_sum gl2
    rw [length_leaveS] at hsum2
    have hj2 : j < tn := by omega
    have hj3 : tn ≤ j + 1 := by omega
    have Hq := hide hq
    clear hj hq hj1
    have hz0 : ((tn : Int) == 0) = false := by simp; omega
    have hidx : (tn : Int) - 1 = (j : Int) := by omega
    have z1 := M1.bel.size
    have zP := M1.lt 0 rfl
    have k0 := M1.cell 5 rfl
    have k1 := M1.cell 6 rfl
    have k2 := M1.cell 7 rfl
    clear hf hat hqL hqV
    go_wp2_with fail
    refine (l3Copy_O a n c ss ta tn tc ts da dn dc ds _ (by omega) (by omega) (by omega) hrt1).mono ?_
    rintro e w2 ⟨ra, rc, xa, xc, ya, yc, rfl, hcx, L2, g2⟩
    have M2 := (M1.below g2).alloc3 (.slice ra n rc) (.slice xa tn xc) (.slice ya dn yc) 36
    have z2 := g2.size
    have al := (Below.refl w2.heap.size w2).alloc (Nat.le_refl _) (.cells #[.slice ra n rc, .slice xa tn xc, .slice ya dn yc] 36)
    obtain ⟨B1, B2, B3, B4, b1, b2, b3, b4, b5, o1, o2, o3⟩ := L2
    have o1a := OR.loc.below al o1
    have o2a := OS.loc.below al o2
    have o3a := OS.loc.below al o3
    have s0 := M2.cell 0 rfl
    have s1 := M2.cell 1 rfl
    obtain ⟨tb, toff, rfl, htb, hct⟩ := o2a.sl.2 (by omega)
    have htc := hct j (by omega)
    rw [Hq.out] at htc
    have i0 : (0 : Int) ≤ (j : Int) := by omega
    have i1 : (j : Int) < (tn : Int) := by omega
    clear g2 al o1 o2 o3 hct M1 p1 k0 k1 k2 hrt1
    go_wp2_with fail
    refine (l2Leave_O w2.heap.size (InR B1 B2) ra n rc ss q _ s0 o1a (fun e => by have := e.2; omega) (by omega) (by omega) (good.top q hql) (by omega)).mono ?_
    rintro e w3 ⟨rfl, o4, u4⟩
    have z3 := u4.size
    simp only [World.size_alloc] at z3
    have M3 : Mm w w3 [(w2.heap.size, 0, .slice ra n rc), (w2.heap.size, 1, .slice (some ⟨tb, toff, none⟩) tn xc), (w2.heap.size, 2, .slice ya dn yc), (w.heap.size + 1, 0, .int .i64 0), (w.heap.size + 1, 1, .int .i64 0), (w.heap.size + 1, 2, .slice none 0 0), (w.heap.size + 1, 3, .slice none 0 0), (w.heap.size + 1, 4, .slice none 0 0)] [] :=
      (M2.sub (fun _ h => by simp only [List.mem_cons, List.not_mem_nil, or_false] at h ⊢; rcases h with h | h | h | h | h | h | h | h <;> simp [h]) (fun _ h => by cases h)).out u4 (by omega) (by simp <;> omega) (by simp)
    have o5 := (OS.loc.out u4 (fun k h h' => by have := h.1; have := h'.2; omega) o2a).take (k := j) (by omega)
    have o6 := OS.loc.out u4 (fun k h h' => by have := h.1; have := h'.2; omega) o3a
    have s0 := M3.cell 0 rfl
    have s1 := M3.cell 1 rfl
    have s2 := M3.cell 2 rfl
    have t1 := M3.fz 1 rfl
    have c0 := M3.cell 3 rfl
    have c1 := M3.cell 4 rfl
    have c2 := M3.cell 5 rfl
    have c3 := M3.cell 6 rfl
    have c4 := M3.cell 7 rfl
    have f0 := M3.fz 3 rfl
    have f1 := M3.fz 4 rfl
    have f2 := M3.fz 5 rfl
    have f3 := M3.fz 6 rfl
    have f4 := M3.fz 7 rfl
    have HB := hide M3.bel
    have i2 : (j : Int) ≤ (xc : Int) := by omega
    have i3 : j ≤ xc := by omega
    have HO : Hid (∀ v0 v1 v2 v3 v4 v, OT (InR w.heap.size w3.heap.size) ra n (leaveS ss q) (some ⟨tb, toff, none⟩) j (ts.take j) ya dn ds ((((((w3.setCell ⟨w2.heap.size, 1, none⟩ v).setCell ⟨w.heap.size + 1, 0, none⟩ v0).setCell ⟨w.heap.size + 1, 1, none⟩ v1).setCell ⟨w.heap.size + 1, 2, none⟩ v2).setCell ⟨w.heap.size + 1, 3, none⟩ v3).setCell ⟨w.heap.size + 1, 4, none⟩ v4)) := fun v0 v1 v2 v3 v4 v =>
      OT.of3 (B1 := B1) (T1 := B2) (B2 := B2) (T2 := B3) (B3 := B3) (T3 := B4) (loc_set5 OR.loc (OR.loc.setC o4 (fun e => by have := e.2; simp only at this; omega) v) (fun e => by have := e.1; omega) v0 v1 v2 v3 v4) (loc_set5 OS.loc (OS.loc.setC o5 (fun e => by have := e.2; simp only at this; omega) v) (fun e => by have := e.1; omega) v0 v1 v2 v3 v4) (loc_set5 OS.loc (OS.loc.setC o6 (fun e => by have := e.2; simp only at this; omega) v) (fun e => by have := e.1; omega) v0 v1 v2 v3 v4) (by omega) (by omega) (by omega) (by omega) (by omega) (by omega) (.inl (by omega)) (.inl (by omega)) (.inl (by omega))
    have HZ : Hid (w.heap.size ≤ w2.heap.size ∧ w.heap.size + 1 < w2.heap.size) := ⟨by omega, by omega⟩
    have hz12 : w.heap.size + 1 ≠ w2.heap.size := by omega
    clear M2 M3 u4 o4 o5 o6 o1a o2a o3a htc z3
    go_wp2
    refine bodyPost_ret (v := .agg #[.int .i64 0, .int .i64 (tn : Int), .slice ra n rc, .slice (some ⟨tb, toff, none⟩) j xc, .slice ya dn yc]) (by simp [results, Try.results21, go_sem, c0, c1, c2, c3, c4]) rfl ⟨_, _, _, _, _, _, _, _, _, by rw [HC.out, HV.out, HTL.out], ?_, below_set5 (HB.out.setCell (by have := HZ.out.1; simp; omega) _) (by omega) _ _ _ _ _⟩
    rw [HS.out, HT.out, HD.out]
    simpa using HO.out _ _ _ _ _ _

end Go.Proofs.Ytoignmalopmlaaa
