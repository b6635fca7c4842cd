import Derived.Test.YtainblfjfmjclajLevels
import Derived.WalkKit
import Derived.ProofKit
import Derived.OpenShut
import Derived.ShutString
import Derived.ChangeOld
import Derived.Below
import Derived.WalkSpells
import Derived.Deep.QuietTactic
import Derived.BigQuiet
import Derived.Deep.RegionWith
import Derived.Deep.WholeRow
import Derived.Deep.DeepCutAuto
import Derived.Deep.RegionHeld2
import Derived.Deep.AppendLies
import Derived.Deep.RegionLaw
namespace Go.Proofs.Ytainblfjfmjclaj
open Go.ChangeShapes Go.WideShapes Go.ChangeAt Go.RowKit

theorem make4 (u : World) : (Instr.makeSlice 25 (.int .i64 4) (.int .i64 4)).run Try.prog u = .ok (.slice (some ⟨u.heap.size, 0, none⟩) 4 4) (u.alloc (.cells #[.int .i64 0, .int .i64 0, .int .i64 0, .int .i64 0] 2)) := by kernel_rfl

set_option maxRecDepth 100000 in
theorem labelOf_calls (x0 x1 x2 x3 : Int) (w : World) :
    Calls Try.prog 99 #[.agg #[.int .i64 x0, .int .i64 x1, .int .i64 x2, .int .i64 x3]] w fun e w' => ∃ b, e = .returned (.agg #[.slice (some ⟨b, 0, none⟩) 4 4]) ∧ w.heap.size ≤ b ∧ Blk w' b [x0, x1, x2, x3] ∧ Below w.heap.size w w' := by
  have hmk := make4
  have hcp : Sem.run Try.prog (Builtin.copy_ #[25, 25] 3 #[.slice (some ⟨w.heap.size + 1 + 1, 0, none⟩) 4 4, .slice (some ⟨w.heap.size, 0, none⟩) 4 4])
      (((w.alloc (.cells #[.int .i64 x0, .int .i64 x1, .int .i64 x2, .int .i64 x3] 114)).alloc (.cells #[.slice none 0 0] 41)).alloc (.cells #[.int .i64 0, .int .i64 0, .int .i64 0, .int .i64 0] 2)) =
      .ok (.int .i64 4) (((w.alloc (.cells #[.int .i64 x0, .int .i64 x1, .int .i64 x2, .int .i64 x3] 114)).alloc (.cells #[.slice none 0 0] 41)).alloc (.cells #[.int .i64 x0, .int .i64 x1, .int .i64 x2, .int .i64 x3] 2)) := by
    have h := copy4 (P := Try.prog) ((w.alloc (.cells #[.int .i64 x0, .int .i64 x1, .int .i64 x2, .int .i64 x3] 114)).alloc (.cells #[.slice none 0 0] 41)) 25 25 3 2 2 w.heap.size 0 4 [x0, x1, x2, x3] (.int .i64 0) (.int .i64 0) (.int .i64 0) (.int .i64 0) Try.underlying25 infoSize (by simp; omega) (fun j hj => by
      rw [World.cell?_alloc_past _ _ _ (by simp), World.cell?_alloc_at _ _ _ _ rfl]
      rcases (by omega : j = 0 ∨ j = 1 ∨ j = 2 ∨ j = 3) with rfl | rfl | rfl | rfl <;> rfl)
    rw [show ((w.alloc (.cells #[.int .i64 x0, .int .i64 x1, .int .i64 x2, .int .i64 x3] 114)).alloc (.cells #[.slice none 0 0] 41)).heap.size = w.heap.size + 1 + 1 from by simp] at h
    exact h
  go_enter Try.func99, Try.ntmps99
  go_wp2
  refine bodyPost_ret (v := .agg #[.slice (some ⟨w.heap.size + 1 + 1, 0, none⟩) 4 4]) (by simp [results, Try.results99, go_sem]) rfl ⟨_, rfl, by omega, ?_, (((Below.refl _ _).alloc (Nat.le_refl _) _).alloc (by simp) _).alloc (by simp; omega) _⟩
  refine ⟨by simp, fun i hi => ?_, fun i => by go_simp⟩
  rw [World.cell?_alloc_at _ _ _ _ (by simp)]
  simp at hi
  rcases (by omega : i = 0 ∨ i = 1 ∨ i = 2 ∨ i = 3) with rfl | rfl | rfl | rfl <;> rfl

end Go.Proofs.Ytainblfjfmjclaj
