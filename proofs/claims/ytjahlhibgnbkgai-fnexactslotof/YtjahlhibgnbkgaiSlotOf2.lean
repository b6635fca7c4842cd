import Derived.Test.YtjahlhibgnbkgaiOpen
import Derived.Test.YtjahlhibgnbkgaiSlotOf0
import Derived.WalkKit
import Derived.ProofKit
import Derived.OpenShut
import Derived.ShutString
import Derived.ChangeOld
import Derived.Below
import Derived.WalkSpells
import Derived.Deep.QuietTactic
import Derived.BigQuiet
import Derived.Deep.RegionWith
import Derived.Deep.WholeRow
import Derived.Deep.DeepCutAuto
import Derived.Deep.RegionHeld2
import Derived.Deep.AppendLies
import Derived.Deep.RegionLaw
namespace Go.Proofs.Ytjahlhibgnbkgai
open Go.ChangeShapes Go.WideShapes Go.ChangeAt Go.RowKit

set_option maxRecDepth 100000 in
theorem openRegistryFor_calls (a b : Option Addr) (n ca lb cb : Nat) (ss : List (Int × List Int)) (zs : List Int) (w : World) (hn : n ≤ maxLen) (hlb : lb ≤ maxLen) (hx : Sls w a n ss) (hy : Sl w b lb zs) :
    Calls Try.prog 39 #[.agg #[.slice a n ca], .agg #[.slice b lb cb]] w fun e w' => ∃ sz mo, e = .returned (.tuple #[.agg #[.int .i64 sz, .map mo], .int .i64 (codeFor ss zs)]) ∧ Below w.heap.size w w' ∧
      (faultR ss = 0 → sz = (n : Int) ∧ ∃ M, mo = some M ∧ w.heap.size ≤ M ∧ w'.ownsMap Try.prog 66 Rst M n (bk ss n)) := by
  have M0 := (((Mem.start w).alloc1 (.slice a n ca) 34).alloc1 (.slice b lb cb) 28).alloc2 (.int .i64 0) (.map none) 60
  simp only [World.size_alloc] at M0
  have hx0 := hx.below M0.bel (Nat.le_refl _)
  have hy0 := hy.below M0.bel (Nat.le_refl _)
  by_cases hr : faultR ss = 0
  · have er : (faultR ss == 0) = true := by simp [hr]
    have HC : Hid (codeFor ss zs = fault zs) := if_pos hr
    have Hr := hide hr
    clear hr
    go_enter Try.func39, Try.ntmps39
    go_wp2_with fail
    refine (openRegistry_calls a n ca ss _ hn hx0).mono ?_
    rintro e w1 ⟨sz, mo, rfl, g1, hown⟩
    obtain ⟨rfl, M, rfl, hM, hown⟩ := hown Hr.out
    have M1 := (M0.below g1).alloc2 (.int .i64 (n : Int)) (.map (some M)) 60
    have f0 : (w1.alloc (.cells #[.int .i64 (n : Int), .map (some M)] 60)).frozen? ⟨w.heap.size + 1 + 1, 0, none⟩ = false := (World.frozen?_alloc_old _ _ _ (by have := (M0.below g1).lt 0 rfl; simp; omega)).trans ((g1.frozen (p := ⟨w.heap.size + 1 + 1, 0, none⟩) (by simp)).trans (by go_simp))
    have f1 : (w1.alloc (.cells #[.int .i64 (n : Int), .map (some M)] 60)).frozen? ⟨w.heap.size + 1 + 1, 1, none⟩ = false := (World.frozen?_alloc_old _ _ _ (by have := (M0.below g1).lt 0 rfl; simp; omega)).trans ((g1.frozen (p := ⟨w.heap.size + 1 + 1, 1, none⟩) (by simp)).trans (by go_simp))
    have hown1 := hown.alloc (.cells #[.int .i64 (n : Int), .map (some M)] 60)
    have hy1 := (hy0.below g1 (Nat.le_refl _)).below ((Below.refl w1.heap.size w1).alloc (Nat.le_refl _) (.cells #[.int .i64 (n : Int), .map (some M)] 60)) (Nat.le_refl _)
    have l0 := M1.cell 4 rfl
    simp only [World.size_alloc] at hM
    clear g1 hown hx0 hy0
    go_wp2_with fail
    refine (implLabelFault_calls b lb cb zs _ hlb hy1).mono ?_
    rintro e w2 ⟨rfl, g2⟩
    have M2 := M1.below g2
    have o0 := M2.cell 0 rfl
    have o1 := M2.cell 1 rfl
    have r0 := M2.cell 2 rfl
    have r1 := M2.cell 3 rfl
    have f20 := (g2.frozen (p := ⟨w.heap.size + 1 + 1, 0, none⟩) (M1.lt 2 rfl)).trans f0
    have f21 := (g2.frozen (p := ⟨w.heap.size + 1 + 1, 1, none⟩) (M1.lt 2 rfl)).trans f1
    have Hown := hide (ownsMap_below hown1 g2 (Nat.le_refl _))
    have HE := hide M2.bel
    clear g2 M0 M1 M2 f0 f1 hy1 hown1 l0
    go_wp2
    refine bodyPost_ret (v := .tuple #[.agg #[.int .i64 (n : Int), .map (some M)], .int .i64 (fault zs)]) (by simp [results, Try.results39, go_sem, r0, r1]) rfl ⟨(n : Int), some M, by rw [HC.out], ?_, fun _ => ⟨rfl, M, rfl, by omega, ?_⟩⟩
    · exact (HE.out.setCell (by simp; omega) _).setCell (by simp; omega) _
    · exact (Hown.out.setCell (by show M ≠ w.heap.size + 1 + 1; omega) _).setCell (by show M ≠ w.heap.size + 1 + 1; omega) _
  · have er : (faultR ss == 0) = false := by simp [hr]
    have HC : Hid (codeFor ss zs = faultR ss) := if_neg hr
    have Hr := hide hr
    clear hr
    go_enter Try.func39, Try.ntmps39
    go_wp2_with fail
    refine (openRegistry_calls a n ca ss _ hn hx0).mono ?_
    rintro e w1 ⟨sz, mo, rfl, g1, _⟩
    have M1 := (M0.below g1).alloc2 (.int .i64 sz) (.map mo) 60
    have f0 : (w1.alloc (.cells #[.int .i64 sz, .map mo] 60)).frozen? ⟨w.heap.size + 1 + 1, 0, none⟩ = false := (World.frozen?_alloc_old _ _ _ (by have := (M0.below g1).lt 0 rfl; simp; omega)).trans ((g1.frozen (p := ⟨w.heap.size + 1 + 1, 0, none⟩) (by simp)).trans (by go_simp))
    have f1 : (w1.alloc (.cells #[.int .i64 sz, .map mo] 60)).frozen? ⟨w.heap.size + 1 + 1, 1, none⟩ = false := (World.frozen?_alloc_old _ _ _ (by have := (M0.below g1).lt 0 rfl; simp; omega)).trans ((g1.frozen (p := ⟨w.heap.size + 1 + 1, 1, none⟩) (by simp)).trans (by go_simp))
    have o0 := M1.cell 0 rfl
    have o1 := M1.cell 1 rfl
    have r0 := M1.cell 2 rfl
    have r1 := M1.cell 3 rfl
    have HE := hide M1.bel
    clear g1 M0 M1 hx0 hy0
    go_wp2
    refine bodyPost_ret (v := .tuple #[.agg #[.int .i64 sz, .map mo], .int .i64 (faultR ss)]) (by simp [results, Try.results39, go_sem, r0, r1]) rfl ⟨sz, mo, by rw [HC.out], ?_, fun h => absurd h Hr.out⟩
    exact (HE.out.setCell (by simp; omega) _).setCell (by simp; omega) _

end Go.Proofs.Ytjahlhibgnbkgai
