import Derived.Test.YtboeceabnlhnoaaSpecReg
import Derived.Test.YtboeceabnlhnoaaMap
import Derived.WalkKit
import Derived.ProofKit
import Derived.OpenShut
import Derived.ShutString
import Derived.ChangeOld
import Derived.Below
import Derived.WalkSpells
import Derived.Deep.QuietTactic
import Derived.BigQuiet
import Derived.Deep.RegionWith
import Derived.Deep.WholeRow
import Derived.Deep.DeepCutAuto
import Derived.Deep.RegionHeld2
import Derived.Deep.AppendLies
import Derived.Deep.RegionLaw
namespace Go.Proofs.Ytboeceabnlhnoaa
open Go.ChangeShapes Go.WideShapes Go.ChangeAt Go.RowKit

set_option maxRecDepth 100000 in
theorem specSlotOf_calls (a b : Option Addr) (n ca lb cb : Nat) (ss : List (Int × List Int)) (zs : List Int) (w : World) (hn : n ≤ maxLen) (hlb : lb ≤ maxLen) (hx : Sls w a n ss) (hy : Sl w b lb zs) :
    Calls Try.prog 15 #[.agg #[.slice a n ca], .agg #[.slice b lb cb]] w fun e w' => e = .returned (.agg #[.int .i64 (soC ss zs), .int .i64 (soV ss zs)]) ∧ Below w.heap.size w w' := by
  have M0 := (((Mem.start w).alloc1 (.slice a n ca) 26).alloc1 (.slice b lb cb) 29).alloc2 (.int .i64 0) (.int .i64 0) 43
  simp only [World.size_alloc] at M0
  have hb0 := M0.bel
  have hx0 := hx.below hb0 (Nat.le_refl _)
  have hy0 := hy.below hb0 (Nat.le_refl _)
  have hlen := hx.1
  by_cases hr : faultR ss = 0
  · have er : (faultR ss != 0) = false := by simp [hr]
    by_cases hz : fault zs = 0
    · have ez : (fault zs != 0) = false := by simp [hz]
      have hc : codeFor ss zs = 0 := by unfold codeFor; rw [if_pos hr]; exact hz
      clear hr hz
      go_enter Try.func15, Try.ntmps15
      go_wp2_with fail
      refine (l2Fault_calls _ a n ca ss _ hn (M0.lt 3 rfl) (M0.cell 3 rfl) hx0).mono ?_
      rintro e w1 ⟨rfl, g1⟩
      have M1 := M0.below g1
      have f10 : w1.frozen? ⟨w.heap.size + 1 + 1, 0, none⟩ = false := (g1.frozen (p := ⟨w.heap.size + 1 + 1, 0, none⟩) (by simp)).trans (by go_simp)
      have f11 : w1.frozen? ⟨w.heap.size + 1 + 1, 1, none⟩ = false := (g1.frozen (p := ⟨w.heap.size + 1 + 1, 1, none⟩) (by simp)).trans (by go_simp)
      have hx1 := hx0.below g1 (Nat.le_refl _)
      have hy1 := hy0.below g1 (Nat.le_refl _)
      clear g1
      go_wp2_with fail
      refine (l1FaultO_calls _ 0 b lb cb zs _ hlb (M1.lt 2 rfl) (M1.cell 2 rfl) hy1).mono ?_
      rintro e w2 ⟨rfl, g2⟩
      have M2 := M1.below g2
      have f20 := (g2.frozen (p := ⟨w.heap.size + 1 + 1, 0, none⟩) (M1.lt 0 rfl)).trans f10
      have f21 := (g2.frozen (p := ⟨w.heap.size + 1 + 1, 1, none⟩) (M1.lt 0 rfl)).trans f11
      have hx2 := hx1.below g2 (Nat.le_refl _)
      have hy2 := hy1.below g2 (Nat.le_refl _)
      clear g2 hx1 hy1 hx0 hy0
      go_wp2_with fail
      refine (l2At_calls _ _ 0 a b n ca lb cb ss zs _ hn hlb (M2.lt 3 rfl) (M2.lt 2 rfl) (M2.cell 3 rfl) (M2.cell 2 rfl) hx2 hy2).mono ?_
      rintro e w3 ⟨rfl, g3⟩
      have M3 := M2.below g3
      have f30 := (g3.frozen (p := ⟨w.heap.size + 1 + 1, 0, none⟩) (M2.lt 0 rfl)).trans f20
      have f31 := (g3.frozen (p := ⟨w.heap.size + 1 + 1, 1, none⟩) (M2.lt 0 rfl)).trans f21
      clear g3 hx2 hy2 M0 M1 M2 hb0 f10 f11 f20 f21
      rcases at2_cases ss zs with ⟨ha, _⟩ | ⟨j, hj, ha, _⟩
      · have HC : Hid (soC ss zs = 4) := by show soC ss zs = 4; unfold soC; rw [if_pos hc, ha]; rfl
        have HV : Hid (soV ss zs = 0) := by show soV ss zs = 0; unfold soV; rw [if_pos hc, ha]; rfl
        rw [ha]
        have r0 := M3.cell 0 rfl
        have r1 := M3.cell 1 rfl
        have HE := hide M3.bel
        clear M3
        go_wp2
        refine bodyPost_ret (v := .agg #[.int .i64 (4), .int .i64 (0)]) (by simp [results, Try.results15, go_sem, r0, r1]) rfl ⟨by rw [HC.out, HV.out], ?_⟩
        exact (HE.out.setCell (by simp; omega) _).setCell (by simp; omega) _
      · have HC : Hid (soC ss zs = 0) := by show soC ss zs = 0; unfold soC; rw [if_pos hc, ha, if_neg (by omega)]
        have HV : Hid (soV ss zs = (j : Int)) := by show soV ss zs = _; unfold soV; rw [if_pos hc, ha, if_neg (by omega)]
        rw [ha]
        have r0 := M3.cell 0 rfl
        have r1 := M3.cell 1 rfl
        have HE := hide M3.bel
        clear M3
        go_wp2
        refine bodyPost_ret (v := .agg #[.int .i64 (0), .int .i64 ((j : Int))]) (by simp [results, Try.results15, go_sem, r0, r1]) rfl ⟨by rw [HC.out, HV.out], ?_⟩
        exact (HE.out.setCell (by simp; omega) _).setCell (by simp; omega) _
    · have ez : (fault zs != 0) = true := by simp [hz]
      have hc : codeFor ss zs = fault zs := by unfold codeFor; rw [if_pos hr]
      have HC : Hid (soC ss zs = fault zs) := by show soC ss zs = _; unfold soC; rw [hc, if_neg hz]
      have HV : Hid (soV ss zs = 0) := by show soV ss zs = _; unfold soV; rw [hc, if_neg hz]
      clear hr hz
      go_enter Try.func15, Try.ntmps15
      go_wp2_with fail
      refine (l2Fault_calls _ a n ca ss _ hn (M0.lt 3 rfl) (M0.cell 3 rfl) hx0).mono ?_
      rintro e w1 ⟨rfl, g1⟩
      have M1 := M0.below g1
      have f10 : w1.frozen? ⟨w.heap.size + 1 + 1, 0, none⟩ = false := (g1.frozen (p := ⟨w.heap.size + 1 + 1, 0, none⟩) (by simp)).trans (by go_simp)
      have f11 : w1.frozen? ⟨w.heap.size + 1 + 1, 1, none⟩ = false := (g1.frozen (p := ⟨w.heap.size + 1 + 1, 1, none⟩) (by simp)).trans (by go_simp)
      have hy1 := hy0.below g1 (Nat.le_refl _)
      clear g1
      go_wp2_with fail
      refine (l1FaultO_calls _ 0 b lb cb zs _ hlb (M1.lt 2 rfl) (M1.cell 2 rfl) hy1).mono ?_
      rintro e w2 ⟨rfl, g2⟩
      have M2 := M1.below g2
      have f20 := (g2.frozen (p := ⟨w.heap.size + 1 + 1, 0, none⟩) (M1.lt 0 rfl)).trans f10
      have f21 := (g2.frozen (p := ⟨w.heap.size + 1 + 1, 1, none⟩) (M1.lt 0 rfl)).trans f11
      clear g2 hy1 hx0 hy0 M0 M1 hb0 f10 f11
      have r0 := M2.cell 0 rfl
      have r1 := M2.cell 1 rfl
      have HE := hide M2.bel
      clear M2
      go_wp2
      refine bodyPost_ret (v := .agg #[.int .i64 (fault zs), .int .i64 (0)]) (by simp [results, Try.results15, go_sem, r0, r1]) rfl ⟨by rw [HC.out, HV.out], ?_⟩
      exact (HE.out.setCell (by simp; omega) _).setCell (by simp; omega) _
  · have er : (faultR ss != 0) = true := by simp [hr]
    have hc : codeFor ss zs = faultR ss := by unfold codeFor; rw [if_neg hr]
    have HC : Hid (soC ss zs = faultR ss) := by show soC ss zs = _; unfold soC; rw [hc, if_neg hr]
    have HV : Hid (soV ss zs = 0) := by show soV ss zs = _; unfold soV; rw [hc, if_neg hr]
    clear hr
    go_enter Try.func15, Try.ntmps15
    go_wp2_with fail
    refine (l2Fault_calls _ a n ca ss _ hn (M0.lt 3 rfl) (M0.cell 3 rfl) hx0).mono ?_
    rintro e w1 ⟨rfl, g1⟩
    have M1 := M0.below g1
    have f10 : w1.frozen? ⟨w.heap.size + 1 + 1, 0, none⟩ = false := (g1.frozen (p := ⟨w.heap.size + 1 + 1, 0, none⟩) (by simp)).trans (by go_simp)
    have f11 : w1.frozen? ⟨w.heap.size + 1 + 1, 1, none⟩ = false := (g1.frozen (p := ⟨w.heap.size + 1 + 1, 1, none⟩) (by simp)).trans (by go_simp)
    clear g1 hx0 hy0 M0 hb0
    have r0 := M1.cell 0 rfl
    have r1 := M1.cell 1 rfl
    have HE := hide M1.bel
    clear M1
    go_wp2
    refine bodyPost_ret (v := .agg #[.int .i64 (faultR ss), .int .i64 (0)]) (by simp [results, Try.results15, go_sem, r0, r1]) rfl ⟨by rw [HC.out, HV.out], ?_⟩
    exact (HE.out.setCell (by simp; omega) _).setCell (by simp; omega) _

end Go.Proofs.Ytboeceabnlhnoaa
