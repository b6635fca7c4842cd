import Derived.Test.YtbfmdnnbiidlkaaGreatG16
import Derived.Test.YtbfmdnnbiidlkaaGreatG11
import Derived.Test.YtbfmdnnbiidlkaaGreatG17
import Derived.Test.YtbfmdnnbiidlkaaGreatG8
import Derived.WalkKit
import Derived.ProofKit
import Derived.OpenShut
import Derived.ShutString
import Derived.ChangeOld
import Derived.Below
import Derived.WalkSpells
import Derived.Deep.QuietTactic
import Derived.BigQuiet
import Derived.Deep.RegionWith
import Derived.Deep.WholeRow
import Derived.Deep.DeepCutAuto
import Derived.Deep.RegionHeld2
import Derived.Deep.AppendLies
import Derived.Deep.RegionLaw
namespace Go.Proofs.YtbfmdnnbiidlkaaGreat
open Go.ChangeShapes Go.WideShapes Go.ChangeAt Go.RowKit

/-- IsRight, of what a system reads as: an access of a domain, a bit, a tag, that is done or not. -/
def irW (D : SD) (d b t : Int) : Bool := if b = 2 then modB (inL D.ss D.ds d) (inL D.ss D.ts (t - 1)) else obsB (inL D.ss D.ds d) (inL D.ss D.ts (t - 1))

def irB (D : SD) (d b t : Int) (q : Bool) : Bool := if sysF D = 0 ∧ up d ((D.ds.length : Int) - 1) = true ∧ up t (D.ts.length : Int) = true then (if q = true then irW D d b t else true) else false

theorem irB_f {D : SD} {d b t : Int} {q : Bool} (h : sysF D ≠ 0) : irB D d b t q = false := if_neg (fun g => h g.1)
theorem irB_d {D : SD} {d b t : Int} {q : Bool} (h : up d ((D.ds.length : Int) - 1) = false) : irB D d b t q = false := if_neg (fun g => by rw [h] at g; exact Bool.noConfusion g.2.1)
theorem irB_t {D : SD} {d b t : Int} {q : Bool} (h : up t (D.ts.length : Int) = false) : irB D d b t q = false := if_neg (fun g => by rw [h] at g; exact Bool.noConfusion g.2.2)
theorem irB_n {D : SD} {d b t : Int} (h1 : sysF D = 0) (h2 : up d ((D.ds.length : Int) - 1) = true) (h3 : up t (D.ts.length : Int) = true) : irB D d b t false = true := if_pos ⟨h1, h2, h3⟩
theorem irB_y {D : SD} {d b t : Int} (h1 : sysF D = 0) (h2 : up d ((D.ds.length : Int) - 1) = true) (h3 : up t (D.ts.length : Int) = true) : irB D d b t true = irW D d b t := if_pos ⟨h1, h2, h3⟩

theorem irW_w {D : SD} {d t : Int} : irW D d 2 t = modB (inL D.ss D.ds d) (inL D.ss D.ts (t - 1)) := if_pos rfl
theorem irW_o {D : SD} {d b t : Int} (h : b ≠ 2) : irW D d b t = obsB (inL D.ss D.ds d) (inL D.ss D.ts (t - 1)) := if_neg h

theorem obsB_nil (xs : List Int) : obsB xs [] = false := by
  unfold obsB
  have e2 : (fault [] == 0) = false := by decide
  rw [e2]
  simp

theorem irW_0 {D : SD} {d b : Int} : irW D d b 0 = false := by
  have e : inL D.ss D.ts ((0 : Int) - 1) = [] := inL_no (by omega)
  unfold irW
  rw [e, modB_eq, obsB_nil]
  simp

set_option maxRecDepth 100000 in
theorem toAccess_calls (d b i t : Int) (q : Bool) (w : World) :
    Calls Tryz.prog 39 #[.agg #[.int .i64 d, .int .i64 b, .int .i64 i, .int .i64 t, .bool q]] w fun e w' => e = .returned (.agg #[.int .i64 d, .int .i64 b, .int .i64 i, .int .i64 t, .bool q]) ∧ Below w.heap.size w w' := by
  have hb3 := fun o1 o2 o3 => (((Below.refl w.heap.size w).alloc (Nat.le_refl _) o1).alloc (by simp) o2).alloc (by simp; omega) o3
  have HB := hide hb3
  clear hb3
  go_enter Tryz.func39, Tryz.ntmps39
  go_wp2
  refine bodyPost_ret (v := .agg #[.int .i64 d, .int .i64 b, .int .i64 i, .int .i64 t, .bool q]) (by simp [results, Tryz.results39, go_sem]) rfl ⟨rfl, ?_⟩
  first
    | exact HB.out _ _ _
    | exact ((((((((((HB.out _ _ _).setCell (by simp; omega) _).setCell (by simp; omega) _).setCell (by simp; omega) _).setCell (by simp; omega) _).setCell (by simp; omega) _).setCell (by simp) _).setCell (by simp) _).setCell (by simp) _).setCell (by simp) _).setCell (by simp) _

set_option maxRecDepth 100000 in
set_option maxHeartbeats 4000000 in
theorem specIsRight_calls (A : SA) (D : SD) (d b i t : Int) (q : Bool) (w : World) (hr : RS w A D) (_ : A.ln ≤ A.lc) :
    Calls Tryz.prog 38 #[.agg #[.slice A.a A.n A.c, .slice A.ta A.tn A.tc, .slice A.da A.dn A.dc, .slice A.wa A.wn A.wc, .slice A.xa A.xn A.xc, .int .i64 D.ac, .int .i64 D.cz, .slice A.la A.ln A.lc, .int .i64 D.dv, .slice A.oa A.on A.oc, .slice A.ga A.gn A.gc], .agg #[.int .i64 d, .int .i64 b, .int .i64 i, .int .i64 t, .bool q]] w fun e w' => e = .returned (.bool (irB D d b t q)) ∧ Below w.heap.size w w' := by
  have M0 := ((Mm.start w).allocC [.slice A.a A.n A.c, .slice A.ta A.tn A.tc, .slice A.da A.dn A.dc, .slice A.wa A.wn A.wc, .slice A.xa A.xn A.xc, .int .i64 D.ac, .int .i64 D.cz, .slice A.la A.ln A.lc, .int .i64 D.dv, .slice A.oa A.on A.oc, .slice A.ga A.gn A.gc] 47).allocC [.int .i64 d, .int .i64 b, .int .i64 i, .int .i64 t, .bool q] 91
  simp only [World.size_alloc] at M0
  have hdn : A.dn ≤ maxLen := hr.rt.2.2.2.2.1
  have hdl : D.ds.length = A.dn := hr.len.2.2.1
  have htl : D.ts.length = A.tn := hr.len.2.1
  go_enter Tryz.func38, Tryz.ntmps38
  go_wp2_with fail
  refine (l7Fault_calls w.heap.size A D _ (M0.get 1 rfl) (hr.below M0.bel (Nat.le_refl _))).mono ?_
  rintro e w1 ⟨rfl, g1⟩
  have M1 := M0.below g1
  clear g1 M0
  have a0 := (M1.get 0 rfl).cell 0 rfl
  have a1 := (M1.get 0 rfl).cell 1 rfl
  have a2 := (M1.get 0 rfl).cell 2 rfl
  have a3 := (M1.get 0 rfl).cell 3 rfl
  have a4 := (M1.get 0 rfl).cell 4 rfl
  have x0 := (M1.get 1 rfl).cell 0 rfl
  have x1 := (M1.get 1 rfl).cell 1 rfl
  have x2 := (M1.get 1 rfl).cell 2 rfl
  by_cases hf : sysF D = 0
  rotate_left
  · have HR := hide (irB_f (d := d) (b := b) (t := t) (q := q) hf)
    have hne : (sysF D != 0) = true := by simpa using hf
    clear hf
    have HB := hide M1.bel
    clear M1
    go_wp2
    go_ret
    exact ⟨ret_bool HR.out.symm, HB.out⟩
  have hne : (sysF D != 0) = false := by simp [hf]
  obtain ⟨h1, _⟩ := sysF_inv hf
  obtain ⟨hrr, hm, hA1, hA2, _⟩ := tabF_zero h1
  have hml := many_len hm
  have good := good_of hrr
  have Hf := hide hf
  have HD := hide hdl
  have HT := hide htl
  have HML := hide hml
  clear hf h1 hm hdl htl hml
  cases hd : up d ((A.dn : Int) - 1) with
  | false =>
    have HR := hide (irB_d (D := D) (d := d) (b := b) (t := t) (q := q) (by rw [HD.out]; exact hd))
    have HB := hide M1.bel
    clear M1
    go_wp2_with (first | (go_at_call 81; with_reducible refine (hasDomain_is w.heap.size A.da A.dn A.dc _ _ _ hdn x2 hd).mono ?_; rintro e w' ⟨rfl, hw'⟩; rw [hw']; clear hw' w'))
    go_ret
    exact ⟨ret_bool HR.out.symm, HB.out⟩
  | true =>
    by_cases h0 : t = 0
    · subst h0
      have et : ((0 : Int) != 0) = false := by simp
      have et2 : ((0 : Int) == 0) = true := by simp
      have hup : up 0 (D.ts.length : Int) = true := by unfold up; simp
      cases q with
      | false =>
        have HR := hide (irB_n (b := b) Hf.out (by rw [HD.out]; exact hd) hup)
        have HB := hide M1.bel
        clear M1
        go_wp2_with (first | (go_at_call 81; with_reducible refine (hasDomain_is w.heap.size A.da A.dn A.dc _ _ _ hdn x2 hd).mono ?_; rintro e w' ⟨rfl, hw'⟩; rw [hw']; clear hw' w'))
        go_ret
        exact ⟨ret_bool HR.out.symm, HB.out⟩
      | true =>
        have HR : Hid (irB D d b 0 true = false) := by show _ = _; rw [irB_y Hf.out (by rw [HD.out]; exact hd) hup]; exact irW_0
        have HB := hide M1.bel
        clear M1
        go_wp2_with (first | (go_at_call 81; with_reducible refine (hasDomain_is w.heap.size A.da A.dn A.dc _ _ _ hdn x2 hd).mono ?_; rintro e w' ⟨rfl, hw'⟩; rw [hw']; clear hw' w'))
        go_ret
        exact ⟨ret_bool HR.out.symm, HB.out⟩
    have et : (t != 0) = true := by simpa using h0
    have et2 : (t == 0) = false := by simpa using h0
    cases ht : hasT A.tn t with
    | false =>
      have HR := hide (irB_t (D := D) (d := d) (b := b) (t := t) (q := q) (by rw [HT.out]; unfold hasT at ht; unfold up; simp at ht ⊢; omega))
      have HB := hide M1.bel
      clear M1 h0
      go_wp2_with (first | (go_at_call 81; with_reducible refine (hasDomain_is w.heap.size A.da A.dn A.dc _ _ _ hdn x2 hd).mono ?_; rintro e w' ⟨rfl, hw'⟩; rw [hw']; clear hw' w') | (go_at_call 84; with_reducible refine (hasTag_is w.heap.size A.ta A.tn A.tc _ _ _ x1 ht).mono ?_; rintro e w' ⟨rfl, hw'⟩; rw [hw']; clear hw' w'))
      go_ret
      exact ⟨ret_bool HR.out.symm, HB.out⟩
    | true =>
      have hup : up t (D.ts.length : Int) = true := by rw [HT.out]; unfold hasT at ht; unfold up; simp at ht ⊢; omega
      cases q with
      | false =>
        have HR := hide (irB_n (b := b) Hf.out (by rw [HD.out]; exact hd) hup)
        have HB := hide M1.bel
        clear M1 h0 hup
        go_wp2_with (first | (go_at_call 81; with_reducible refine (hasDomain_is w.heap.size A.da A.dn A.dc _ _ _ hdn x2 hd).mono ?_; rintro e w' ⟨rfl, hw'⟩; rw [hw']; clear hw' w') | (go_at_call 84; with_reducible refine (hasTag_is w.heap.size A.ta A.tn A.tc _ _ _ x1 ht).mono ?_; rintro e w' ⟨rfl, hw'⟩; rw [hw']; clear hw' w'))
        go_ret
        exact ⟨ret_bool HR.out.symm, HB.out⟩
      | true =>
        have HR := hide (irB_y (b := b) Hf.out (by rw [HD.out]; exact hd) hup)
        obtain ⟨k, hk⟩ : ∃ k : Nat, d = (k : Int) := ⟨d.toNat, by unfold up at hd; simp at hd; omega⟩
        subst hk
        obtain ⟨j, hj⟩ : ∃ j : Nat, t = (j : Int) + 1 := ⟨(t - 1).toNat, by unfold hasT at ht; simp at ht; omega⟩
        subst hj
        have hkd : k < A.dn := by unfold up at hd; simp at hd; omega
        have hjt : j < A.tn := by unfold hasT at ht; simp at ht; omega
        have H4 : A.dn ≤ 10 := by have := HML.out; have := HD.out; omega
        have H6 : A.tn ≤ 10 := by have := HML.out; have := HT.out; omega
        have lx := hide (inL_yes (ss := D.ss) (l := D.ds) (j := k) (by rw [HD.out]; exact hkd))
        have ly : Hid (inL D.ss D.ts ((j : Int) + 1 - 1) = atL D.ss (gt D.ts j)) := by show _ = _; rw [show (j : Int) + 1 - 1 = (j : Int) by omega]; exact inL_yes (by rw [HT.out]; exact hjt)
        have fx := atL_right good hA2 (j := k) (by rw [HD.out]; exact hkd)
        have fy := atL_right good hA1 (j := j) (by rw [HT.out]; exact hjt)
        have hp := hide (perm_right fx fy)
        have l4x := hide (fault_len fx)
        have l4y := hide (fault_len fy)
        have rt1 := hr.rt.below M1.bel (Nat.le_refl _)
        clear hup h0 fx fy
        by_cases hb : b = 2
        · subst hb
          have eb : ((2 : Int) == 2) = true := by simp
          go_wp2_with (first | (go_at_call 81; with_reducible refine (hasDomain_is w.heap.size A.da A.dn A.dc _ _ _ hdn x2 hd).mono ?_; rintro e w' ⟨rfl, hw'⟩; rw [hw']; clear hw' w') | (go_at_call 84; with_reducible refine (hasTag_is w.heap.size A.ta A.tn A.tc _ _ _ x1 ht).mono ?_; rintro e w' ⟨rfl, hw'⟩; rw [hw']; clear hw' w') | (go_at_call 85; fail))
          refine (l3Domain_calls w.heap.size A.a A.n A.c D.ss A.da A.dn A.dc D.ds k _ good H4 x0 x2 rt1.2.1 rt1.2.2.2.2.2 hA2 hkd).mono ?_
          rintro e w2 ⟨b1, o1, la, ll, lc, rfl, hb1, cb, _, sb, g2⟩
          have M2 := M1.below g2
          have cb2 := (g2.cell (p := ⟨b1, o1, none⟩) hb1).trans cb
          have sb2 := sb.below g2 (Nat.le_refl _)
          have rt2 := rt1.below g2 (Nat.le_refl _)
          have lb2 : b1 < w2.heap.size := by have := g2.size; omega
          obtain rfl : ll = 4 := by have := sb2.1; have := l4x.out; omega
          clear M1 a0 a1 a2 a3 a4 x0 x1 x2 g2 cb sb hb1 rt1
          have a1 := (M2.get 0 rfl).cell 1 rfl
          have a3 := (M2.get 0 rfl).cell 3 rfl
          have x0 := (M2.get 1 rfl).cell 0 rfl
          have x1 := (M2.get 1 rfl).cell 1 rfl
          go_wp2_with (first | (go_at_call 87; fail))
          refine (l3Tag_calls w.heap.size A.a A.n A.c D.ss A.ta A.tn A.tc D.ts j _ good H6 x0 x1 rt2.2.1 rt2.2.2.2.1 hA1 hjt).mono ?_
          rintro e w3 ⟨b2, o2, la', ll', lc', rfl, hb2, cc, _, sc, g3⟩
          have M3 := M2.below g3
          have cb3 := (g3.cell (p := ⟨b1, o1, none⟩) lb2).trans cb2
          have sb3 := sb2.below g3 (Nat.le_refl _)
          have cc3 := (g3.cell (p := ⟨b2, o2, none⟩) hb2).trans cc
          have sc3 := sc.below g3 (Nat.le_refl _)
          have lb3 : b1 < w3.heap.size := by have := g3.size; omega
          have lc3 : b2 < w3.heap.size := by have := g3.size; omega
          obtain rfl : ll' = 4 := by have := sc3.1; have := l4y.out; omega
          clear M2 a1 a3 x0 x1 g3 cb2 sb2 cc sc lb2 hb2 rt2
          go_wp2_with (first | (go_at_call 86; fail) | (go_at_call 88; fail))
          refine (l1ModifyO_calls b1 o1 b2 o2 la la' lc lc' _ _ _ lb3 lc3 cb3 cc3 sb3 sc3).mono ?_
          rintro e w4 ⟨rfl, g4⟩
          have HB := hide (M3.below g4).bel
          clear M3 g4 cb3 sb3 cc3 sc3 lb3 lc3
          go_wp2
          go_ret
          exact ⟨ret_bool (by rw [HR.out, irW_w, lx.out, ly.out, ← hp.out.2]), HB.out⟩
        · have eb : (b == 2) = false := by simpa using hb
          have Hb := hide hb
          clear hb
          go_wp2_with (first | (go_at_call 81; with_reducible refine (hasDomain_is w.heap.size A.da A.dn A.dc _ _ _ hdn x2 hd).mono ?_; rintro e w' ⟨rfl, hw'⟩; rw [hw']; clear hw' w') | (go_at_call 84; with_reducible refine (hasTag_is w.heap.size A.ta A.tn A.tc _ _ _ x1 ht).mono ?_; rintro e w' ⟨rfl, hw'⟩; rw [hw']; clear hw' w') | (go_at_call 85; fail))
          refine (l3Domain_calls w.heap.size A.a A.n A.c D.ss A.da A.dn A.dc D.ds k _ good H4 x0 x2 rt1.2.1 rt1.2.2.2.2.2 hA2 hkd).mono ?_
          rintro e w2 ⟨b1, o1, la, ll, lc, rfl, hb1, cb, _, sb, g2⟩
          have M2 := M1.below g2
          have cb2 := (g2.cell (p := ⟨b1, o1, none⟩) hb1).trans cb
          have sb2 := sb.below g2 (Nat.le_refl _)
          have rt2 := rt1.below g2 (Nat.le_refl _)
          have lb2 : b1 < w2.heap.size := by have := g2.size; omega
          obtain rfl : ll = 4 := by have := sb2.1; have := l4x.out; omega
          clear M1 a0 a1 a2 a3 a4 x0 x1 x2 g2 cb sb hb1 rt1
          have a1 := (M2.get 0 rfl).cell 1 rfl
          have a3 := (M2.get 0 rfl).cell 3 rfl
          have x0 := (M2.get 1 rfl).cell 0 rfl
          have x1 := (M2.get 1 rfl).cell 1 rfl
          go_wp2_with (first | (go_at_call 87; fail))
          refine (l3Tag_calls w.heap.size A.a A.n A.c D.ss A.ta A.tn A.tc D.ts j _ good H6 x0 x1 rt2.2.1 rt2.2.2.2.1 hA1 hjt).mono ?_
          rintro e w3 ⟨b2, o2, la', ll', lc', rfl, hb2, cc, _, sc, g3⟩
          have M3 := M2.below g3
          have cb3 := (g3.cell (p := ⟨b1, o1, none⟩) lb2).trans cb2
          have sb3 := sb2.below g3 (Nat.le_refl _)
          have cc3 := (g3.cell (p := ⟨b2, o2, none⟩) hb2).trans cc
          have sc3 := sc.below g3 (Nat.le_refl _)
          have lb3 : b1 < w3.heap.size := by have := g3.size; omega
          have lc3 : b2 < w3.heap.size := by have := g3.size; omega
          obtain rfl : ll' = 4 := by have := sc3.1; have := l4y.out; omega
          clear M2 a1 a3 x0 x1 g3 cb2 sb2 cc sc lb2 hb2 rt2
          go_wp2_with (first | (go_at_call 86; fail) | (go_at_call 88; fail))
          refine (l1ObserveO_calls b1 o1 b2 o2 la la' lc lc' _ _ _ lb3 lc3 cb3 cc3 sb3 sc3).mono ?_
          rintro e w4 ⟨rfl, g4⟩
          have HB := hide (M3.below g4).bel
          clear M3 g4 cb3 sb3 cc3 sc3 lb3 lc3
          go_wp2
          go_ret
          exact ⟨ret_bool (by rw [HR.out, irW_o Hb.out, lx.out, ly.out, ← hp.out.1]), HB.out⟩

set_option maxRecDepth 100000 in
set_option maxHeartbeats 4000000 in
theorem implIsRight_calls (A : SA) (D : SD) (d b i t : Int) (q : Bool) (w : World) (hr : RS w A D) (hk : A.ln ≤ A.lc) :
    Calls Tryz.prog 40 #[.agg #[.slice A.a A.n A.c, .slice A.ta A.tn A.tc, .slice A.da A.dn A.dc, .slice A.wa A.wn A.wc, .slice A.xa A.xn A.xc, .int .i64 D.ac, .int .i64 D.cz, .slice A.la A.ln A.lc, .int .i64 D.dv, .slice A.oa A.on A.oc, .slice A.ga A.gn A.gc], .agg #[.int .i64 d, .int .i64 b, .int .i64 i, .int .i64 t, .bool q]] w fun e w' => e = .returned (.bool (irB D d b t q)) ∧ Below w.heap.size w w' := by
  have M0 := ((Mm.start w).allocC [.slice A.a A.n A.c, .slice A.ta A.tn A.tc, .slice A.da A.dn A.dc, .slice A.wa A.wn A.wc, .slice A.xa A.xn A.xc, .int .i64 D.ac, .int .i64 D.cz, .slice A.la A.ln A.lc, .int .i64 D.dv, .slice A.oa A.on A.oc, .slice A.ga A.gn A.gc] 47).allocC [.int .i64 d, .int .i64 b, .int .i64 i, .int .i64 t, .bool q] 91
  simp only [World.size_alloc] at M0
  have hdl : D.ds.length = A.dn := hr.len.2.2.1
  have htl : D.ts.length = A.tn := hr.len.2.1
  have fd := field1
  have htn : (A.tn : Int) ≤ 9223372036854775807 := by have := hr.rt.2.2.1; unfold maxLen at this; omega
  go_enter Tryz.func40, Tryz.ntmps40
  go_wp2_with fail
  refine (implSystemFault_calls A D _ (hr.below M0.bel (Nat.le_refl _)) hk).mono ?_
  rintro e w1 ⟨rfl, g1⟩
  have M1 := M0.below g1
  clear g1 M0
  by_cases hf : sysF D = 0
  rotate_left
  · have HR := hide (irB_f (d := d) (b := b) (t := t) (q := q) hf)
    have hne : (sysF D != 0) = true := by simpa using hf
    clear hf
    have HB := hide M1.bel
    clear M1
    go_wp2
    go_ret
    exact ⟨ret_bool HR.out.symm, HB.out⟩
  have hne : (sysF D != 0) = false := by simp [hf]
  obtain ⟨h1, _⟩ := sysF_inv hf
  have ec := hide (tgC_ok (l := D.ds) (i := d) h1)
  have el := hide (tgL_ok (l := D.ds) (i := d) h1)
  have et := hide (tgL_ok (l := D.ts) (i := t - 1) h1)
  have Hf := hide hf
  have HD := hide hdl
  have HT := hide htl
  clear hf h1 hdl htl
  have a0 := (M1.get 0 rfl).cell 0 rfl
  have x0 := (M1.get 1 rfl).cell 0 rfl
  have x1 := (M1.get 1 rfl).cell 1 rfl
  have x2 := (M1.get 1 rfl).cell 2 rfl
  go_wp2_with fail
  refine (implDomainLabel_calls A.a A.n A.c D.ss A.ta A.tn A.tc D.ts A.da A.dn A.dc D.ds d _ (hr.rt.below M1.bel (Nat.le_refl _))).mono ?_
  rintro e w2 ⟨ra, rn, rc, rfl, od, g2⟩
  rw [ec.out]
  rw [el.out] at od
  have M2 := ((M1.below g2).fact OS.loc od).alloc2 (.int .i64 (inC D.ds d)) (.slice ra rn rc) 151
  clear M1 g2 od a0 x0 x1 x2 ec el
  have r0 := M2.cell 0 rfl
  have r1 := M2.cell 1 rfl
  have a3 := (M2.get 1 rfl).cell 3 rfl
  have x1 := (M2.get 2 rfl).cell 1 rfl
  by_cases hd : 0 ≤ d ∧ d < (D.ds.length : Int)
  rotate_left
  · have e4 := hide (inC_no hd)
    have hnz : (inC D.ds d != 0) = true := by rw [e4.out]; decide
    have HR := hide (irB_d (D := D) (d := d) (b := b) (t := t) (q := q) (by unfold up; simp; omega))
    clear hd e4
    have HB := hide M2.bel
    clear M2
    go_wp2
    go_ret
    exact ⟨ret_bool HR.out.symm, HB.out⟩
  have hnz : (inC D.ds d != 0) = false := by rw [show inC D.ds d = 0 from if_pos hd]; rfl
  have hdu : up d ((D.ds.length : Int) - 1) = true := by unfold up; simp; omega
  cases ht : up t (A.tn : Int) with
  | false =>
    have HR := hide (irB_t (D := D) (d := d) (b := b) (t := t) (q := q) (by rw [HT.out]; exact ht))
    have HB := hide M2.bel
    clear M2 hd hdu
    go_wp2_with (go_at_call 52; with_reducible refine (isUpTo_is _ _ _ _ ht).mono ?_; rintro e w' ⟨rfl, hw'⟩; rw [hw']; clear hw' w')
    go_ret
    exact ⟨ret_bool HR.out.symm, HB.out⟩
  | true =>
    have x0 := (M2.get 2 rfl).cell 0 rfl
    have x2 := (M2.get 2 rfl).cell 2 rfl
    have HU := hide (show up t (D.ts.length : Int) = true by rw [HT.out]; exact ht)
    have HDU := hide hdu
    clear hd hdu
    go_wp2_with (first | (go_at_call 52; with_reducible refine (isUpTo_is _ _ _ _ ht).mono ?_; rintro e w' ⟨rfl, hw'⟩; rw [hw']; clear hw' w') | (go_at_call 90; fail))
    refine (implTagLabel_calls A.a A.n A.c D.ss A.ta A.tn A.tc D.ts A.da A.dn A.dc D.ds t _ (hr.rt.below M2.bel (Nat.le_refl _))).mono ?_
    rintro e w3 ⟨ta, tn, tc, rfl, ot, g3⟩
    rw [et.out] at ot
    have M3 := ((M2.below g3).fact OS.loc ot).alloc1 (.slice ta tn tc) 149
    clear M2 g3 ot r0 r1 a3 x0 x1 x2 ht hnz
    have l0 := M3.cell 0 rfl
    have r1 := M3.cell 2 rfl
    have a1 := (M3.get 2 rfl).cell 1 rfl
    have a4 := (M3.get 2 rfl).cell 4 rfl
    cases q with
    | false =>
      have HR := hide (irB_n (b := b) Hf.out HDU.out HU.out)
      have HB := hide M3.bel
      clear M3
      go_wp2
      go_ret
      exact ⟨ret_bool HR.out.symm, HB.out⟩
    | true =>
      have HR := hide (irB_y (b := b) Hf.out HDU.out HU.out)
      have oy := M3.get 0 rfl
      have ox := M3.get 1 rfl
      by_cases hb : b = 2
      · subst hb
        have eb : ((2 : Int) == 2) = true := by simp
        go_wp2_with (first | (go_at_call 91; fail))
        refine (implCanModify_calls ra ta rn rc tn tc _ _ _ (by have := ox.2.1; unfold maxLen; omega) (by have := oy.2.1; unfold maxLen; omega) ox.sl oy.sl).mono ?_
        rintro e w4 ⟨rfl, g4⟩
        have HB := hide (M3.below g4).bel
        clear M3 g4 l0 r1 a1 a4 ox oy
        go_wp2
        go_ret
        exact ⟨ret_bool (by rw [HR.out, irW_w]), HB.out⟩
      · have eb : (b == 2) = false := by simpa using hb
        have Hb := hide hb
        clear hb
        go_wp2_with (first | (go_at_call 92; fail))
        refine (implCanObserve_calls ra ta rn rc tn tc _ _ _ (by have := ox.2.1; unfold maxLen; omega) (by have := oy.2.1; unfold maxLen; omega) ox.sl oy.sl).mono ?_
        rintro e w4 ⟨rfl, g4⟩
        have HB := hide (M3.below g4).bel
        clear M3 g4 l0 r1 a1 a4 ox oy
        go_wp2
        go_ret
        exact ⟨ret_bool (by rw [HR.out, irW_o Hb.out]), HB.out⟩

end Go.Proofs.YtbfmdnnbiidlkaaGreat
