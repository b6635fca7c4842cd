import Derived.Test.YtlilbbkidaahlaaFlushP
import Derived.Test.YtlilbbkidaahlaaChI
import Derived.WalkKit
import Derived.ProofKit
import Derived.OpenShut
import Derived.ShutString
import Derived.ChangeOld
import Derived.Below
import Derived.WalkSpells
import Derived.Deep.QuietTactic
import Derived.BigQuiet
import Derived.Deep.RegionWith
import Derived.Deep.WholeRow
import Derived.Deep.DeepCutAuto
import Derived.Deep.RegionHeld2
import Derived.Deep.AppendLies
import Derived.Deep.RegionLaw
namespace Go.Proofs.Ytlilbbkidaahlaa
open Go.ChangeShapes Go.WideShapes Go.ChangeAt Go.RowKit

set_option maxRecDepth 100000 in
set_option maxHeartbeats 400000 in
theorem isFlushedBy_calls (d t p wd wt : Int) (w : World) :
    Calls Try.prog 33 #[.agg #[.int .i64 d, .int .i64 t, .int .i64 p], .agg #[.int .i64 wd, .int .i64 wt, .int .i64 0]] w fun e w' => e = .returned (.bool (gone wd wt (d, t, p))) ∧ Below w.heap.size w w' := by
  have M0 := ((Mm.start w).alloc3 (.int .i64 d) (.int .i64 t) (.int .i64 p) 28).alloc3 (.int .i64 wd) (.int .i64 wt) (.int .i64 0) 28
  try simp only [World.size_alloc] at M0
  go_enter Try.func33, Try.ntmps33
  go_wp2_with fail
  refine (withoutPerm_calls d t p _).mono ?_
  rintro e w1 ⟨rfl, g1⟩
  have M1 := M0.below g1
  have f3 := M1.fz 3 rfl
  have f4 := M1.fz 4 rfl
  have f5 := M1.fz 5 rfl
  have c3 := M1.cell 3 rfl
  have c4 := M1.cell 4 rfl
  have c5 := M1.cell 5 rfl
  have M2 := ((M1.set 3 rfl (.int .i64 d) (Nat.le_refl _) (by simp) (by simp)).set 4 rfl (.int .i64 t) (Nat.le_refl _) (by simp) (by simp)).set 5 rfl (.int .i64 0) (Nat.le_refl _) (by simp) (by simp)
  obtain ⟨X, hX⟩ : ∃ X, X = ((w1.setCell ⟨w.heap.size, 0, none⟩ (.int .i64 d)).setCell ⟨w.heap.size, 1, none⟩ (.int .i64 t)).setCell ⟨w.heap.size, 2, none⟩ (.int .i64 0) := ⟨_, rfl⟩
  have HX := hide hX
  rw [← hX] at M2
  simp only [List.set_cons_succ, List.set_cons_zero] at M2
  clear hX M0 M1 g1
  go_upto_region 2 with fail
  rw [← HX.out]
  clear c3 c4 c5 f3 f4 f5 HX
  have c0 := M2.cell 0 rfl
  have c1 := M2.cell 1 rfl
  have c2 := M2.cell 2 rfl
  have c3 := M2.cell 3 rfl
  have c4 := M2.cell 4 rfl
  have c5 := M2.cell 5 rfl
  have f3 := M2.fz 3 rfl
  have f4 := M2.fz 4 rfl
  have HB := hide M2.bel
  clear M2
  by_cases h1 : wd = -1
  · have e1 := eq_true h1
    have e1' : (wd == -1) = true := by simpa using h1
    by_cases h2 : wt = -1
    · have e2' : (wt == -1) = true := by simpa using h2
      have HR : Hid (gone wd wt (d, t, p) = true) := by show _ = _; simp [gone, h1, h2]
      subst h1 h2
      clear e1
      go_wp2
      go_ret
      refine ⟨ret_bool HR.out.symm, ?_⟩
      repeat (first | with_reducible exact HB.out | with_reducible refine Below.setCell ?_ (by simp) _)
    · have e2' : (wt == -1) = false := by simpa using h2
      by_cases h4 : t = wt
      · have HR : Hid (gone wd wt (d, t, p) = true) := by show _ = _; simp [gone, h1, h4]
        subst h1 h4
        clear e1
        go_wp2
        go_ret
        refine ⟨ret_bool HR.out.symm, ?_⟩
        repeat (first | with_reducible exact HB.out | with_reducible refine Below.setCell ?_ (by simp) _)
      · have HR : Hid (gone wd wt (d, t, p) = false) := by show _ = _; simp [gone, h2, h4]
        subst h1
        clear e1
        go_wp2
        go_ret
        refine ⟨ret_bool HR.out.symm, ?_⟩
        repeat (first | with_reducible exact HB.out | with_reducible refine Below.setCell ?_ (by simp) _)
  · have e1' : (wd == -1) = false := by simpa using h1
    by_cases h3 : d = wd
    · by_cases h2 : wt = -1
      · have e2' : (wt == -1) = true := by simpa using h2
        have HR : Hid (gone wd wt (d, t, p) = true) := by show _ = _; simp [gone, h2, h3]
        subst h2 h3
        go_wp2
        go_ret
        refine ⟨ret_bool HR.out.symm, ?_⟩
        repeat (first | with_reducible exact HB.out | with_reducible refine Below.setCell ?_ (by simp) _)
      · have e2' : (wt == -1) = false := by simpa using h2
        by_cases h4 : t = wt
        · have HR : Hid (gone wd wt (d, t, p) = true) := by show _ = _; simp [gone, h3, h4]
          subst h3 h4
          go_wp2
          go_ret
          refine ⟨ret_bool HR.out.symm, ?_⟩
          repeat (first | with_reducible exact HB.out | with_reducible refine Below.setCell ?_ (by simp) _)
        · have HR : Hid (gone wd wt (d, t, p) = false) := by show _ = _; simp [gone, h2, h4]
          subst h3
          go_wp2
          go_ret
          refine ⟨ret_bool HR.out.symm, ?_⟩
          repeat (first | with_reducible exact HB.out | with_reducible refine Below.setCell ?_ (by simp) _)
    · have HR : Hid (gone wd wt (d, t, p) = false) := by show _ = _; simp [gone, h1, h3]
      by_cases h2 : wt = -1
      · have e2' : (wt == -1) = true := by simpa using h2
        subst h2
        go_wp2
        go_ret
        refine ⟨ret_bool HR.out.symm, ?_⟩
        repeat (first | with_reducible exact HB.out | with_reducible refine Below.setCell ?_ (by simp) _)
      · have e2' : (wt == -1) = false := by simpa using h2
        go_wp2
        go_ret
        refine ⟨ret_bool HR.out.symm, ?_⟩
        repeat (first | with_reducible exact HB.out | with_reducible refine Below.setCell ?_ (by simp) _)

end Go.Proofs.Ytlilbbkidaahlaa
