import Derived.Test.YtkpcomfmfpnbiaaInstD
import Derived.WalkKit
import Derived.ProofKit
import Derived.OpenShut
import Derived.ShutString
import Derived.ChangeOld
import Derived.Below
import Derived.WalkSpells
import Derived.Deep.QuietTactic
import Derived.BigQuiet
import Derived.Deep.RegionWith
import Derived.Deep.WholeRow
import Derived.Deep.DeepCutAuto
import Derived.Deep.RegionHeld2
import Derived.Deep.AppendLies
import Derived.Deep.RegionLaw
namespace Go.Proofs.Ytkpcomfmfpnbiaa
open Go.ChangeShapes Go.WideShapes Go.ChangeAt Go.RowKit

set_option maxRecDepth 100000 in
theorem eqInst_calls (o a b i : Int) (w : World) :
    Calls Try.prog 20 #[.agg #[.int .i64 o, .int .i64 a, .int .i64 b, .int .i64 i], .agg #[.int .i64 o, .int .i64 a, .int .i64 b, .int .i64 i]] w fun e w' => e = .returned (.bool true) ∧ Below w.heap.size w w' := by
  have h1 : (o != o) = false := by simp
  have h2 : (a != a) = false := by simp
  have h3 : (b != b) = false := by simp
  have h4 : (i != i) = false := by simp
  go_enter Try.func20, Try.ntmps20
  go_wp2
  go_ret
  exact ⟨rfl, ((Below.refl _ _).alloc (Nat.le_refl _) _).alloc (by simp) _⟩

set_option maxRecDepth 100000 in
theorem eqInstResult_calls (c o a b i : Int) (w : World) :
    Calls Try.prog 11 #[.agg #[.int .i64 c, .int .i64 o, .int .i64 a, .int .i64 b, .int .i64 i], .agg #[.int .i64 c, .int .i64 o, .int .i64 a, .int .i64 b, .int .i64 i]] w fun e w' => e = .returned (.bool true) ∧ Below w.heap.size w w' := by
  have h1 : (c != c) = false := by simp
  have hb := fun o1 o2 => ((Below.refl w.heap.size w).alloc (Nat.le_refl _) o1).alloc (by simp) o2
  have HB := hide hb
  clear hb
  go_enter Try.func11, Try.ntmps11
  go_wp2_with fail
  refine (eqInst_calls o a b i _).mono ?_
  rintro e w1 ⟨rfl, g1⟩
  have HB1 := hide ((HB.out _ _).trans (g1.mono (HB.out _ _).size))
  clear g1
  go_wp2
  go_ret
  exact ⟨rfl, HB1.out⟩

set_option maxRecDepth 100000 in
theorem walk_DecodeWord (x : Int) (w : World) :
    Calls Try.prog 4 #[.int .i64 x] w fun e w' => e = .returned (.bool true) ∧ Below w.heap.size w w' := by
  have M0 := Mm.start w
  go_enter Try.func4, Try.ntmps4
  go_wp2_with fail
  refine (specDecodeWord_calls x _).mono ?_
  rintro e w1 ⟨rfl, g1⟩
  have M1 := (M0.below g1).alloc5 (.int .i64 (dwC x)) (.int .i64 (dwV x (x / 4096))) (.int .i64 (dwV x (x / 512 % 8))) (.int .i64 (dwV x (x / 64 % 8))) (.int .i64 (dwV x (x % 64))) 29
  clear M0 g1
  go_wp2_with fail
  refine (implDecodeWord_calls x _).mono ?_
  rintro e w2 ⟨rfl, g2⟩
  have M2 := M1.below g2
  have c0 := M2.cell 0 rfl
  have c1 := M2.cell 1 rfl
  have c2 := M2.cell 2 rfl
  have c3 := M2.cell 3 rfl
  have c4 := M2.cell 4 rfl
  have l0 := M2.lt 0 rfl
  have M3 := M2.alloc5 (.int .i64 (dwC x)) (.int .i64 (dwV x (x / 4096))) (.int .i64 (dwV x (x / 512 % 8))) (.int .i64 (dwV x (x / 64 % 8))) (.int .i64 (dwV x (x % 64))) 29
  have HB := hide M3.bel
  clear M1 M2 M3 g2
  go_wp2_with fail
  refine (eqInstResult_calls _ _ _ _ _ _).mono ?_
  rintro e w3 ⟨rfl, g3⟩
  have HB1 := hide (HB.out.trans (g3.mono HB.out.size))
  clear g3
  go_wp2
  go_ret
  exact ⟨rfl, HB1.out⟩

end Go.Proofs.Ytkpcomfmfpnbiaa
