import Derived.Test.YtboeceabnlhnoaaImplEL
import Derived.Test.YtboeceabnlhnoaaL2Enter
import Derived.Test.YtboeceabnlhnoaaL2Copy
import Derived.WalkKit
import Derived.ProofKit
import Derived.OpenShut
import Derived.ShutString
import Derived.ChangeOld
import Derived.Below
import Derived.WalkSpells
import Derived.Deep.QuietTactic
import Derived.BigQuiet
import Derived.Deep.RegionWith
import Derived.Deep.WholeRow
import Derived.Deep.DeepCutAuto
import Derived.Deep.RegionHeld2
import Derived.Deep.AppendLies
import Derived.Deep.RegionLaw
namespace Go.Proofs.Ytboeceabnlhnoaa
open Go.ChangeShapes Go.WideShapes Go.ChangeAt Go.RowKit

set_option maxRecDepth 100000 in
set_option maxHeartbeats 1000000 in
theorem specEnterLabel_calls (a : Option Addr) (n ca : Nat) (ss : List (Int × List Int)) (b : Option Addr) (lb cb : Nat) (zs : List Int) (w : World) (hn : n ≤ maxLen) (hx : Sls w a n ss) (hlb : lb ≤ maxLen) (hy : Sl w b lb zs) :
    Calls Try.prog 13 #[.agg #[.slice a n ca], .agg #[.slice b lb cb]] w fun e w' => ∃ ra rn rc, e = .returned (.agg #[.int .i64 (elC ss zs), .int .i64 (elV ss zs), .slice ra rn rc]) ∧ OR (InR w.heap.size w'.heap.size) ra rn (elL ss zs) w' ∧ Below w.heap.size w w' := by
  have M0 := (((Mm.start w).alloc1 (.slice a n ca) 26).alloc1 (.slice b lb cb) 29).alloc3 (.int .i64 0) (.int .i64 0) (.slice none 0 0) 33
  simp only [World.size_alloc] at M0
  have hx0 := hx.below M0.bel (Nat.le_refl _)
  have hy0 := hy.below M0.bel (Nat.le_refl _)
  have hlen := hx.1
  by_cases hr : faultR ss = 0
  · have er : (faultR ss != 0) = false := by simp [hr]
    have HCF : Hid (codeFor ss zs = fault zs) := if_pos hr
    have good := good_of hr
    have few := good.few
    clear hr
    by_cases hz : fault zs = 0
    · have ez : (fault zs != 0) = false := by simp [hz]
      obtain rfl : lb = 4 := by have := fault_len hz; have := hy.1; omega
      have HE : Hid (elC ss zs = etC ss zs) := if_pos (HCF.out.trans hz)
      have Hz := hide hz
      have hsum := good_sum good
      clear hz
      go_enter Try.func13, Try.ntmps13
      go_wp2_with fail
      refine (l2Fault_calls _ a n ca ss _ hn (M0.lt 4 rfl) (M0.cell 4 rfl) hx0).mono ?_
      rintro e w1 ⟨rfl, g1⟩
      have M1 := M0.below g1
      have hzw := g1.size
      simp only [World.size_alloc] at hzw
      have hx1 := hx0.below g1 (Nat.le_refl _)
      have hy1 := hy0.below g1 (Nat.le_refl _)
      clear g1 hx0 hy0 M0
      go_wp2_with fail
      refine (l1FaultO_calls _ 0 b 4 cb zs _ hlb (M1.lt 3 rfl) (M1.cell 3 rfl) hy1).mono ?_
      rintro e w2 ⟨rfl, g2⟩
      have M2 := M1.below g2
      have hz2 := g2.size
      have hx2 := hx1.below g2 (Nat.le_refl _)
      have hy2 := hy1.below g2 (Nat.le_refl _)
      have c2 := M2.cell 4 rfl
      clear g2 hx1 hy1 M1
      go_wp2_with fail
      refine (l2Copy_R a n ca ss _ (by omega) hx2).mono ?_
      rintro e w3 ⟨ra, rc, rfl, o3, ⟨xs, x3⟩, g3⟩
      have hz3 := g3.size
      have M3 := ((M2.below g3).fact OR.loc o3).alloc1 (.slice ra n rc) 26
      have hy3 := (hy2.below g3 (Nat.le_refl _)).below ((Below.refl w3.heap.size w3).alloc (Nat.le_refl _) (.cells #[.slice ra n rc] 26)) (Nat.le_refl _)
      have HvT : Hid (∀ g, (Value.slice ra n rc).ownBlock = some g → g < w3.heap.size) := fun g hg => (x3.lt g hg).2
      have x4 := x3.alloc (.cells #[.slice ra n rc] 26)
      clear g3 hx2 hy2 M2 c2 o3 x3
      go_wp2_with fail
      refine (l2Enter_O w3.heap.size (w.heap.size + 1) w2.heap.size w3.heap.size ra b n rc cb ss zs xs _ (M3.lt 0 rfl) (Nat.le_refl _) (by omega) hz3 (M3.cell 0 rfl) (M3.fz 0 rfl) (M3.cell 4 rfl) (M3.get 0 rfl) x4 HvT.out good hy3 Hz.out).mono ?_
      rintro e w4 ⟨rfl, hfin, u4⟩
      have M4 : Mm w w4 [(w.heap.size + 1 + 1, 0, .int .i64 0), (w.heap.size + 1 + 1, 1, .int .i64 0), (w.heap.size + 1 + 1, 2, .slice none 0 0)] [] := (M3.sub (by simp) (by simp)).out (B := w2.heap.size) (T := w3.heap.size + 1) (u4.mono (fun k hk => by rcases hk with hk | hk; exact ⟨hk.1, by have := hk.2; omega⟩; exact ⟨by omega, by omega⟩)) (by omega) (by simp <;> omega) (by simp)
      have hz4 := u4.size
      simp only [World.size_alloc] at hz4
      have hzz : w.heap.size + 1 + 1 < w2.heap.size ∧ w.heap.size + 1 + 1 < w4.heap.size := ⟨by omega, by omega⟩
      have HZ := hide hzz
      clear u4 M3 hy3 x4 HvT hzz
      by_cases ht : etC ss zs = 0
      · obtain ⟨a4, ca4, c4, o4⟩ := hfin ht
        rw [if_pos ht]
        have HV : Hid (elV ss zs = (enQ ss zs : Int)) := if_pos (HE.out.trans ht)
        have HL : Hid (elL ss zs = enS ss zs) := if_pos (HE.out.trans ht)
        have Ht := hide ht
        have r0 := M4.cell 0 rfl
        have r1 := M4.cell 1 rfl
        have r2 := M4.cell 2 rfl
        have f0 := M4.fz 0 rfl
        have f1 := M4.fz 1 rfl
        have f2 := M4.fz 2 rfl
        have HB := hide M4.bel
        have HO := hide o4
        clear hfin ht M4 o4 hz3 hz4 hz2 hzw
        go_wp2
        refine bodyPost_ret (v := .agg #[.int .i64 0, .int .i64 (enQ ss zs : Int), .slice a4 (enS ss zs).length ca4]) (by simp [results, Try.results13, go_sem, r0, r1, r2]) rfl ⟨_, _, _, by rw [HE.out, Ht.out, HV.out], ?_, ((HB.out.setCell (by simp; omega) _).setCell (by simp; omega) _).setCell (by simp; omega) _⟩
        rw [HL.out]
        exact (OR.set3 HO.out (fun e => by have := e.1.1; have := HZ.out; omega) _ _ _).mono (fun k hk => ⟨by have := hk.1.1; have := HZ.out; omega, by have := hk.1.2; simp; omega⟩)
      · rw [if_neg ht]
        have h7 : etC ss zs = 7 := by unfold etC at ht ⊢; split at ht <;> simp_all
        have HN : Hid (elC ss zs ≠ 0) := by show _ ≠ _; rw [HE.out]; exact ht
        have HC : Hid (elC ss zs = 7) := HE.out.trans h7
        have HV : Hid (elV ss zs = 0) := if_neg HN.out
        have HL : Hid (elL ss zs = []) := if_neg HN.out
        clear hfin ht h7 hz3 hz4 hz2 hzw
        go_wp2_with fail
        refine (l2Bad_calls _ _).mono ?_
        rintro e wz ⟨rfl, gz⟩
        have Mz := M4.below gz
        have r0 := Mz.cell 0 rfl
        have r1 := Mz.cell 1 rfl
        have r2 := Mz.cell 2 rfl
        have f0 := Mz.fz 0 rfl
        have f1 := Mz.fz 1 rfl
        have f2 := Mz.fz 2 rfl
        have HB := hide Mz.bel
        clear Mz gz M4
        go_wp2
        refine bodyPost_ret (v := .agg #[.int .i64 (7), .int .i64 0, .slice none 0 0]) (by simp [results, Try.results13, go_sem, r0, r1, r2]) rfl ⟨none, 0, 0, by rw [HC.out, HV.out], ?_, ((HB.out.setCell (by simp; omega) _).setCell (by simp; omega) _).setCell (by simp; omega) _⟩
        rw [HL.out]
        exact OR.nil _ _ _
    · have ez : (fault zs != 0) = true := by simp [hz]
      have HC : Hid (elC ss zs = fault zs) := by show elC ss zs = _; unfold elC; rw [HCF.out, if_neg hz]
      have HN : Hid (elC ss zs ≠ 0) := by show _ ≠ _; rw [HC.out]; exact hz
      have HV : Hid (elV ss zs = 0) := if_neg HN.out
      have HL : Hid (elL ss zs = []) := if_neg HN.out
      clear hz
      go_enter Try.func13, Try.ntmps13
      go_wp2_with fail
      refine (l2Fault_calls _ a n ca ss _ hn (M0.lt 4 rfl) (M0.cell 4 rfl) hx0).mono ?_
      rintro e w1 ⟨rfl, g1⟩
      have M1 := M0.below g1
      have hy1 := hy0.below g1 (Nat.le_refl _)
      clear g1 hx0 hy0 M0
      go_wp2_with fail
      refine (l1FaultO_calls _ 0 b lb cb zs _ hlb (M1.lt 3 rfl) (M1.cell 3 rfl) hy1).mono ?_
      rintro e w2 ⟨rfl, g2⟩
      have M2 := M1.below g2
      clear g2 hy1 M1
      go_wp2_with fail
      refine (l2Bad_calls _ _).mono ?_
      rintro e wz ⟨rfl, gz⟩
      have Mz := M2.below gz
      have r0 := Mz.cell 0 rfl
      have r1 := Mz.cell 1 rfl
      have r2 := Mz.cell 2 rfl
      have f0 := Mz.fz 0 rfl
      have f1 := Mz.fz 1 rfl
      have f2 := Mz.fz 2 rfl
      have HB := hide Mz.bel
      clear Mz gz M2
      go_wp2
      refine bodyPost_ret (v := .agg #[.int .i64 (fault zs), .int .i64 0, .slice none 0 0]) (by simp [results, Try.results13, go_sem, r0, r1, r2]) rfl ⟨none, 0, 0, by rw [HC.out, HV.out], ?_, ((HB.out.setCell (by simp; omega) _).setCell (by simp; omega) _).setCell (by simp; omega) _⟩
      rw [HL.out]
      exact OR.nil _ _ _
  · have er : (faultR ss != 0) = true := by simp [hr]
    have HCF : Hid (codeFor ss zs = faultR ss) := if_neg hr
    have HC : Hid (elC ss zs = faultR ss) := by show elC ss zs = _; unfold elC; rw [HCF.out, if_neg hr]
    have HN : Hid (elC ss zs ≠ 0) := by show _ ≠ _; rw [HC.out]; exact hr
    have HV : Hid (elV ss zs = 0) := if_neg HN.out
    have HL : Hid (elL ss zs = []) := if_neg HN.out
    clear hr
    go_enter Try.func13, Try.ntmps13
    go_wp2_with fail
    refine (l2Fault_calls _ a n ca ss _ hn (M0.lt 4 rfl) (M0.cell 4 rfl) hx0).mono ?_
    rintro e w1 ⟨rfl, g1⟩
    have M1 := M0.below g1
    clear g1 hx0 hy0 M0
    go_wp2_with fail
    refine (l2Bad_calls _ _).mono ?_
    rintro e wz ⟨rfl, gz⟩
    have Mz := M1.below gz
    have r0 := Mz.cell 0 rfl
    have r1 := Mz.cell 1 rfl
    have r2 := Mz.cell 2 rfl
    have f0 := Mz.fz 0 rfl
    have f1 := Mz.fz 1 rfl
    have f2 := Mz.fz 2 rfl
    have HB := hide Mz.bel
    clear Mz gz M1
    go_wp2
    refine bodyPost_ret (v := .agg #[.int .i64 (faultR ss), .int .i64 0, .slice none 0 0]) (by simp [results, Try.results13, go_sem, r0, r1, r2]) rfl ⟨none, 0, 0, by rw [HC.out, HV.out], ?_, ((HB.out.setCell (by simp; omega) _).setCell (by simp; omega) _).setCell (by simp; omega) _⟩
    rw [HL.out]
    exact OR.nil _ _ _

end Go.Proofs.Ytboeceabnlhnoaa
