import Derived.Test.YtkpcomfmfpnbiaaInstF
import Derived.WalkKit
import Derived.ProofKit
import Derived.OpenShut
import Derived.ShutString
import Derived.ChangeOld
import Derived.Below
import Derived.WalkSpells
import Derived.Deep.QuietTactic
import Derived.BigQuiet
import Derived.Deep.RegionWith
import Derived.Deep.WholeRow
import Derived.Deep.DeepCutAuto
import Derived.Deep.RegionHeld2
import Derived.Deep.AppendLies
import Derived.Deep.RegionLaw
namespace Go.Proofs.Ytkpcomfmfpnbiaa
open Go.ChangeShapes Go.WideShapes Go.ChangeAt Go.RowKit

set_option maxRecDepth 100000 in
theorem toInst_calls (o a b i : Int) (w : World) :
    Calls Try.prog 7 #[.agg #[.int .i64 o, .int .i64 a, .int .i64 b, .int .i64 i]] w fun e w' => e = .returned (.agg #[.int .i64 o, .int .i64 a, .int .i64 b, .int .i64 i]) ∧ Below w.heap.size w w' := by
  have hb3 := fun o1 o2 o3 => (((Below.refl w.heap.size w).alloc (Nat.le_refl _) o1).alloc (by simp) o2).alloc (by simp; omega) o3
  have HB := hide hb3
  clear hb3
  go_enter Try.func7, Try.ntmps7
  go_wp2
  refine bodyPost_ret (v := .agg #[.int .i64 o, .int .i64 a, .int .i64 b, .int .i64 i]) (by simp [results, Try.results7, go_sem]) rfl ⟨rfl, ?_⟩
  first
    | exact HB.out _ _ _
    | exact ((((HB.out _ _ _).setCell (by simp) _).setCell (by simp) _).setCell (by simp) _).setCell (by simp) _
    | exact ((((((((HB.out _ _ _).setCell (by simp; omega) _).setCell (by simp; omega) _).setCell (by simp; omega) _).setCell (by simp; omega) _).setCell (by simp) _).setCell (by simp) _).setCell (by simp) _).setCell (by simp) _

set_option maxRecDepth 100000 in
theorem specInstFault_calls (o a b i : Int) (w : World) :
    Calls Try.prog 6 #[.agg #[.int .i64 o, .int .i64 a, .int .i64 b, .int .i64 i]] w fun e w' => e = .returned (.int .i64 (ifC o a b i)) ∧ Below w.heap.size w w' := by
  have HB := hide ((Below.refl w.heap.size w).alloc (Nat.le_refl _) (.cells #[.int .i64 o, .int .i64 a, .int .i64 b, .int .i64 i] 25))
  go_enter Try.func6, Try.ntmps6
  go_wp2_with (go_at_call 15; refine (l5Fault_calls w.heap.size o a b i _ (by simp) (by simp) (by simp) (by simp)).mono ?_; rintro e w' ⟨rfl, rfl⟩)
  go_ret
  exact ⟨rfl, HB.out⟩

set_option maxRecDepth 100000 in
theorem walk_InstFault (o a b i : Int) (w : World) :
    Calls Try.prog 3 #[.agg #[.int .i64 o, .int .i64 a, .int .i64 b, .int .i64 i]] w fun e w' => e = .returned (.bool true) ∧ Below w.heap.size w w' := by
  have M0 := (Mm.start w).alloc4 (.int .i64 o) (.int .i64 a) (.int .i64 b) (.int .i64 i) 23
  have hne : (ifC o a b i != ifC o a b i) = false := by simp
  go_enter Try.func3, Try.ntmps3
  go_wp2_with fail
  refine (toInst_calls o a b i _).mono ?_
  rintro e w1 ⟨rfl, g1⟩
  have M1 := M0.below g1
  clear M0 g1
  go_wp2_with fail
  refine (specInstFault_calls o a b i _).mono ?_
  rintro e w2 ⟨rfl, g2⟩
  have M2 := M1.below g2
  have c0 := M2.cell 0 rfl
  have c1 := M2.cell 1 rfl
  have c2 := M2.cell 2 rfl
  have c3 := M2.cell 3 rfl
  clear M1 g2
  go_wp2_with fail
  refine (toInst_calls o a b i _).mono ?_
  rintro e w3 ⟨rfl, g3⟩
  have M3 := M2.below g3
  clear M2 g3 c0 c1 c2 c3
  go_wp2_with fail
  refine (implInstFault_calls o a b i _).mono ?_
  rintro e w4 ⟨rfl, g4⟩
  have HB := hide (M3.below g4).bel
  clear M3 g4
  go_wp2
  go_ret
  exact ⟨rfl, HB.out⟩

end Go.Proofs.Ytkpcomfmfpnbiaa
