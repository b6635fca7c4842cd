import Derived.Test.YtbfmdnnbiidlkaaGreatK16
import Derived.Test.YtbfmdnnbiidlkaaGreatK17
import Derived.Test.YtbfmdnnbiidlkaaGreatK2
import Derived.WalkKit
import Derived.ProofKit
import Derived.OpenShut
import Derived.ShutString
import Derived.ChangeOld
import Derived.Below
import Derived.WalkSpells
import Derived.Deep.QuietTactic
import Derived.BigQuiet
import Derived.Deep.RegionWith
import Derived.Deep.WholeRow
import Derived.Deep.DeepCutAuto
import Derived.Deep.RegionHeld2
import Derived.Deep.AppendLies
import Derived.Deep.RegionLaw
namespace Go.Proofs.YtbfmdnnbiidlkaaGreat
open Go.ChangeShapes Go.WideShapes Go.ChangeAt Go.RowKit
set_option maxRecDepth 100000 in
set_option maxHeartbeats 1000000 in
theorem copiedContext_O (a : Option Addr) (n cap : Nat) (p : Int) (h : Bool) (zs : List Int) (w : World) (hn : n ≤ 1048576) (hs : Sl w a n zs) :
    Calls Tryz.prog 113 #[.agg #[.slice a n cap, .int .i64 p, .bool h]] w fun e w' => ∃ ra rc, e = .returned (.agg #[.slice ra n rc, .int .i64 p, .bool h]) ∧ OS (InR w.heap.size w'.heap.size) ra n zs w' ∧ Below w.heap.size w w' := by
  have M0 := ((Mm.start w).alloc3 (.slice a n cap) (.int .i64 p) (.bool h) 101).alloc3 (.slice none 0 0) (.int .i64 0) (.bool false) 101
  try simp only [World.size_alloc] at M0
  obtain ⟨W, hW⟩ : ∃ x, x = (w.alloc (.cells #[.slice a n cap, .int .i64 p, .bool h] 101)).alloc (.cells #[.slice none 0 0, .int .i64 0, .bool false] 101) := ⟨_, rfl⟩
  have hWs : W.heap.size = w.heap.size + 2 := by rw [hW]; simp
  go_enter Tryz.func113, Tryz.ntmps113
  go_upto_region 1 with fail
  rw [← hW] at M0 ⊢
  have HW := hide hW
  clear hW
  have q0 := M0.cell 3 rfl
  have q1 := M0.cell 4 rfl
  have q2 := M0.cell 5 rfl
  have u0 := M0.cell 0 rfl
  have u1 := M0.cell 1 rfl
  have u2 := M0.cell 2 rfl
  have v0 := M0.fz 0 rfl
  have v1 := M0.fz 1 rfl
  have v2 := M0.fz 2 rfl
  have lt0 : w.heap.size < W.heap.size := by omega
  have lt1 : w.heap.size + 1 < W.heap.size := by omega
  have hsW := hs.below M0.bel (Nat.le_refl _)
  go_region_with (first
    | (go_at_call 117; refine (clone_calls a n cap zs _ hn (hsW.below (Below.refl _ _).drew (Nat.le_refl _))).mono ?_; rintro e w1 ⟨ra, rc, rfl, ho, hb⟩; have M1 := M0.below ((Below.refl _ _).drew.trans hb); have hz := hb.size; have c0 := M1.cell 3 rfl; have c1 := M1.cell 4 rfl; have c2 := M1.cell 5 rfl; have d0 := M1.cell 0 rfl; have d1 := M1.cell 1 rfl; have d2 := M1.cell 2 rfl; have f0 := M1.fz 0 rfl; have f1 := M1.fz 1 rfl; have f2 := M1.fz 2 rfl; clear hb))
  all_goals (
    have HM := hide (((M1.fact OS.loc ho).set 0 rfl (.slice ra n rc) (by simp) (by simp) (by simp <;> omega)).set 1 rfl (.int .i64 p) (by simp) (by simp) (by simp <;> omega) |>.set 2 rfl (.bool h) (by simp) (by simp) (by simp <;> omega))
    have HZ := hide hz
    clear M0 M1 ho hz q0 q1 q2 u0 u1 u2 v0 v1 v2 hsW c0 c1 c2 d0 d1 d2 f0 f1 f2
    go_wp2
    have MM := HM.out
    have r0 := MM.cell 0 rfl
    have r1 := MM.cell 1 rfl
    have r2 := MM.cell 2 rfl
    have hz := HZ.out
    refine bodyPost_ret (v := .agg #[.slice ra n rc, .int .i64 p, .bool h]) (by simp [results, Tryz.results113, go_sem, r0, r1, r2]) rfl ⟨ra, rc, rfl, ?_, MM.bel⟩
    exact (MM.get 0 rfl).mono (fun k hk => ⟨by have := hk.1; simp only [World.size_drew] at this; omega, by simpa using hk.2⟩))

end Go.Proofs.YtbfmdnnbiidlkaaGreat
