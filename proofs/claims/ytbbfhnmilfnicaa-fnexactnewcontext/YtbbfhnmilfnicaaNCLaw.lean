import Derived.Test.YtbbfhnmilfnicaaNCtx
import Derived.Test.YtbbfhnmilfnicaaResKR
import Derived.WalkKit
import Derived.ProofKit
import Derived.OpenShut
import Derived.ShutString
import Derived.ChangeOld
import Derived.Below
import Derived.WalkSpells
import Derived.Deep.QuietTactic
import Derived.BigQuiet
import Derived.Deep.RegionWith
import Derived.Deep.WholeRow
import Derived.Deep.DeepCutAuto
import Derived.Deep.RegionHeld2
import Derived.Deep.AppendLies
import Derived.Deep.RegionLaw
namespace Go.Proofs.Ytbbfhnmilfnicaa
open Go.ChangeShapes Go.WideShapes Go.ChangeAt Go.RowKit

set_option maxRecDepth 100000 in
set_option maxHeartbeats 16000000 in
theorem law_small_NewContext (x0 : Int) (w : World)  :
    Calls Try.prog 3 #[.int .i64 x0] w fun e w' => e = .returned (.bool true) ∧ Below w.heap.size w w' := by
  have M0 := (Mm.start w)
  try simp only [World.size_alloc] at M0
  go_enter Try.func3, Try.ntmps3
  go_wp2_with fail
  refine (specNewContext_calls x0 _ ).mono ?_
  rintro e w1 ⟨va, vn, vc, rfl, ov, g1⟩
  have zz1 := g1.size
  try simp only [World.size_alloc] at ov zz1
  have M1 := ((M0.below g1).fact OS.loc ov).alloc4 (.int .i64 (ncC x0)) (.slice va vn vc) (.int .i64 (ncP x0)) (.bool (false)) 26
  clear g1 M0 ov
  go_wp2_with fail
  refine (implNewContext_calls x0 _ ).mono ?_
  rintro e w2 ⟨ra, rn, rc, rfl, or, g2⟩
  have zz2 := g2.size
  try simp only [World.size_alloc] at or zz2
  have M2 := ((M1.below g2).fact OS.loc or).alloc4 (.int .i64 (ncC x0)) (.slice ra rn rc) (.int .i64 (ncP x0)) (.bool (false)) 26
  clear g2 M1 or
  have q0 := M2.cell 0 rfl
  have q1 := M2.cell 1 rfl
  have q2 := M2.cell 2 rfl
  have q3 := M2.cell 3 rfl
  have q4 := M2.cell 4 rfl
  have q5 := M2.cell 5 rfl
  have q6 := M2.cell 6 rfl
  have q7 := M2.cell 7 rfl
  go_wp2_with fail
  refine (eqKR_O (ncC x0) (ncP x0) (false) _ _ _ _ _ _ (ncL x0) _ (M2.get 0 rfl).2.1 (M2.get 0 rfl).sl (M2.get 1 rfl).sl).mono ?_
  rintro e w3 ⟨rfl, g3⟩
  have zz3 := g3.size
  try simp only [World.size_alloc] at zz3
  have M3 := M2.below g3
  clear g3 M2 q0 q1 q2 q3 q4 q5 q6 q7
  have q0 := M3.cell 0 rfl
  have q1 := M3.cell 1 rfl
  have q2 := M3.cell 2 rfl
  have q3 := M3.cell 3 rfl
  go_wp2_with fail
  refine (markKR_O _ _ _ _ _ _ _ _ 1 _ (by omega) (by omega) (M3.get 0 rfl)).mono ?_
  rintro e w4 ⟨rfl, om, ho⟩
  have zz4 := ho.size
  have M4a : Mm w w4 [(w2.heap.size, 0, .int .i64 (ncC x0)), (w2.heap.size, 1, .slice ra rn rc), (w2.heap.size, 2, .int .i64 (ncP x0)), (w2.heap.size, 3, .bool (false)), (w1.heap.size, 0, .int .i64 (ncC x0)), (w1.heap.size, 1, .slice va vn vc), (w1.heap.size, 2, .int .i64 (ncP x0)), (w1.heap.size, 3, .bool (false))] [(w.heap.size, w1.heap.size, OS (InR (w.heap.size) (w1.heap.size)) va vn (ncL x0))] := (M3.sub (by simp) (by simp)).out ho (by omega) (by simp <;> omega) (by simp <;> omega)
  have M4 := M4a.fact OS.loc om
  clear ho om M3 M4a q0 q1 q2 q3
  have q0 := M4.cell 0 rfl
  have q1 := M4.cell 1 rfl
  have q2 := M4.cell 2 rfl
  have q3 := M4.cell 3 rfl
  go_wp2_with fail
  refine (heldKR_O _ _ _ _ _ _ _ _ (M4.get 0 rfl)).mono ?_
  rintro e w5 ⟨rfl, g5⟩
  have zz5 := g5.size
  have M5 := M4.below g5
  clear g5 M4 q0 q1 q2 q3
  have hlt2 : decide ((1 : Int) + (rn : Int) < 0) = false := by simp; omega
  go_wp2_with fail
  refine (implNewContext_calls x0 _ ).mono ?_
  rintro e w6 ⟨ka, kn, kc, rfl, ok, g6⟩
  have zz6 := g6.size
  try simp only [World.size_alloc] at ok zz6
  have M6 := ((M5.below g6).fact OS.loc ok).alloc4 (.int .i64 (ncC x0)) (.slice ka kn kc) (.int .i64 (ncP x0)) (.bool (false)) 26
  clear g6 M5 ok
  have q0 := M6.cell 0 rfl
  have q1 := M6.cell 1 rfl
  have q2 := M6.cell 2 rfl
  have q3 := M6.cell 3 rfl
  have q4 := M6.cell 8 rfl
  have q5 := M6.cell 9 rfl
  have q6 := M6.cell 10 rfl
  have q7 := M6.cell 11 rfl
  go_wp2_with fail
  refine (eqKR_O (ncC x0) (ncP x0) (false) _ _ _ _ _ _ (ncL x0) _ (M6.get 0 rfl).2.1 (M6.get 0 rfl).sl (M6.get 2 rfl).sl).mono ?_
  rintro e w7 ⟨rfl, g7⟩
  have M7 := M6.below g7
  clear g7 M6 q0 q1 q2 q3 q4 q5 q6 q7
  have q0 := M7.cell 4 rfl
  have q1 := M7.cell 5 rfl
  have q2 := M7.cell 6 rfl
  have q3 := M7.cell 7 rfl
  go_wp2_with fail
  refine (heldKR_O _ _ _ _ _ _ _ _ (M7.get 1 rfl)).mono ?_
  rintro e w8 ⟨rfl, g8⟩
  have zz8 := g8.size
  have M8 := M7.below g8
  clear g8 M7 q0 q1 q2 q3
  have HB := hide M8.bel
  clear M8
  go_wp2
  go_ret
  exact ⟨rfl, HB.out⟩

theorem walk_NewContext (x0 : Int) (w : World)  :
    Calls Try.prog 3 #[.int .i64 x0] w fun e w' => e = .returned (.bool true) ∧ Below w.heap.size w w' := by
  exact law_small_NewContext x0 w  

end Go.Proofs.Ytbbfhnmilfnicaa
