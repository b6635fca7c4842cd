import Derived.Test.YtbfmdnnbiidlkaaGreatG103
import Derived.Test.YtbfmdnnbiidlkaaGreatG1
import Derived.StillTailTactics
import Derived.WalkKit
import Derived.ProofKit
import Derived.OpenShut
import Derived.ShutString
import Derived.ChangeOld
import Derived.Below
import Derived.WalkSpells
import Derived.Deep.QuietTactic
import Derived.BigQuiet
import Derived.Deep.RegionWith
import Derived.Deep.WholeRow
import Derived.Deep.DeepCutAuto
import Derived.Deep.RegionHeld2
import Derived.Deep.AppendLies
import Derived.Deep.RegionLaw
namespace Go.Proofs.YtbfmdnnbiidlkaaGreat
open Go.ChangeShapes Go.WideShapes Go.ChangeAt Go.RowKit

theorem q4_d {W X : World} {A0 A1 A2 A3 : Addr} {v0 v1 v2 v3 : Value} (h : X.cell? A0 = some v0 ∧ X.cell? A1 = some v1 ∧ X.cell? A2 = some v2 ∧ X.cell? A3 = some v3 ∧ Below W.heap.size W X) : X.cell? A3 = some v3 := h.2.2.2.1

set_option maxRecDepth 100000 in
set_option maxHeartbeats 4000000 in
theorem access_calls (P : Nat) (A : SA) (D : SD) (k : Nat) (p tag bit : Int) (w : World) (hy : YV P A D w) (H : SysR A D k) (ht : 0 ≤ tag ∧ tag ≤ (A.tn : Int)) (hb : bit = 1 ∨ bit = 2 ∨ bit = 4) :
    Calls Tryz.prog 180 #[.pointer (some ⟨P, 0, none⟩), .int .i64 p, .int .i64 tag, .int .i64 bit] w fun e w' => e = .returned (.agg #[.int .i64 (k : Int), .int .i64 bit, .int .i64 p, .int .i64 tag, .bool (dnB D k tag bit)]) ∧ Below w.heap.size w w' := by
  have M0 := (Mm.start w).alloc5 (.int .i64 0) (.int .i64 0) (.int .i64 0) (.int .i64 0) (.bool false) 91
  obtain ⟨W, hW⟩ : ∃ x, x = w.alloc (.cells #[.int .i64 0, .int .i64 0, .int .i64 0, .int .i64 0, .bool false] 91) := ⟨_, rfl⟩
  rw [← hW] at M0
  have zW : W.heap.size = w.heap.size + 1 := by rw [hW]; simp
  have yW := hy.below M0.bel
  have c0 := yW.cell 0 rfl
  have c1 := yW.cell 1 rfl
  have c2 := yW.cell 2 rfl
  have c5 := yW.cell 5 rfl
  rw [H.ac] at c5
  have hl := yW.lt
  have HW := hide hW
  have hpc : Hid (pmC D.ss D.ts D.ds (k : Int) tag = 0) := by
    show _ = _
    have l1 := yW.rs.len.2.1
    have l2 := yW.rs.len.2.2.1
    have hk := H.hk
    unfold pmC
    rw [if_pos H.tf, if_pos (inC_yes (by omega))]
    by_cases h0 : tag = 0
    · rw [if_pos h0]
    · rw [if_neg h0]
      obtain ⟨j, hj⟩ : ∃ j : Nat, tag - 1 = (j : Int) := ⟨(tag - 1).toNat, by omega⟩
      rw [hj]
      exact inC_yes (by omega)
  have HR := hide yW.rs.rt
  clear hy yW H ht hW
  rcases pmV_in D.ss D.ts D.ds (k : Int) tag with hv | hv | hv <;> rcases hb with rfl | rfl | rfl
  all_goals (
    have HV := hide hv
    clear hv
    have HS0 : Hid (W.drew.cell? ⟨P, 0, none⟩ = some (.slice A.a A.n A.c) ∧ W.drew.cell? ⟨P, 1, none⟩ = some (.slice A.ta A.tn A.tc) ∧ W.drew.cell? ⟨P, 2, none⟩ = some (.slice A.da A.dn A.dc) ∧ W.drew.cell? ⟨P, 5, none⟩ = some (.int .i64 (k : Int)) ∧ Below W.heap.size W W.drew) := ⟨c0, c1, c2, c5, (Below.refl _ _).drew⟩
    go_enter Tryz.func180, Tryz.ntmps180
    go_wp2_with fail
    rw [← HW.out]
    go_cut [9] (fun v wd => ∃ I, v = .pointer (some ⟨I, 0, none⟩) ∧ wd.cell? ⟨I, 1, none⟩ = some (.int .i64 (pmV D.ss D.ts D.ds (k : Int) tag)) ∧ wd.cell? ⟨P, 5, none⟩ = some (.int .i64 (k : Int)) ∧ Below W.heap.size W wd)
    case first =>
      go_region_held2 (fun X => X.cell? ⟨P, 0, none⟩ = some (.slice A.a A.n A.c) ∧ X.cell? ⟨P, 1, none⟩ = some (.slice A.ta A.tn A.tc) ∧ X.cell? ⟨P, 2, none⟩ = some (.slice A.da A.dn A.dc) ∧ X.cell? ⟨P, 5, none⟩ = some (.int .i64 (k : Int)) ∧ Below W.heap.size W X)
        (first | with_reducible exact HS0.out | (repeat (first | with_reducible assumption | with_reducible refine q4_allocd hl hl hl hl ?_ _ | with_reducible refine q4_alloc hl hl hl hl ?_ _ | with_reducible refine q4_set hl hl hl hl ?_ ?_ _ | (show (_ : Nat) ≤ _; exact Nat.le_refl _) | (show (_ : Nat) ≤ _; dsimp only; omega))))
        (first
          | (go_at_call 172; refine (implPermOf_calls A.a A.n A.c D.ss A.ta A.tn A.tc D.ts A.da A.dn A.dc D.ds (k : Int) tag _ (HR.out.below (q4_bel (by with_reducible assumption)) (Nat.le_refl _))).mono ?_; rintro e ws ⟨rfl, gs⟩; rw [hpc.out]; have hss := q4_below hl hl hl hl (by with_reducible assumption) gs; have hzs := gs.size; have hws := (q4_bel hss).size; obtain ⟨bcs, bfs⟩ := bcellQ gs; (try simp only [World.size_alloc, World.size_drew] at hzs bcs bfs); (try have hts := Nat.lt_of_succ_le hzs); clear gs))
      all_goals go_wp2_with fail
      all_goals go_meet
      all_goals (
        refine ⟨_, rfl, ?c1, ?c5, ?b⟩
        case b => exact q4_bel (by with_reducible assumption)
        case c5 => exact q4_d (by with_reducible assumption)
        case c1 => first | (go_simp; done) | (with_reducible refine set2_at1 _ _ _ _ ?_; go_simp; done))
    case rest =>
    obtain ⟨I, rfl, i1, a5, gd⟩ := hcut
    rw [HV.out] at i1
    obtain ⟨wa, rfl⟩ : ∃ y, y = wc := ⟨wc, rfl⟩
    have M1 := M0.below gd
    have c0_ := M1.cell 0 rfl
    have f0_ := M1.fz 0 rfl
    have c1_ := M1.cell 1 rfl
    have f1_ := M1.fz 1 rfl
    have c2_ := M1.cell 2 rfl
    have f2_ := M1.fz 2 rfl
    have c3_ := M1.cell 3 rfl
    have f3_ := M1.fz 3 rfl
    have c4_ := M1.cell 4 rfl
    have f4_ := M1.fz 4 rfl
    have HM := hide M1.bel
    have zM := M1.bel.size
    clear M1 M0
    go_wp2_with fail
    go_still_tail 14, (by kernel_rfl)
    go_wp2
    have hdn := fun b => (show dnB D k tag b = _ from by unfold dnB; rw [HV.out])
    refine bodyPost_ret (v := .agg #[.int .i64 (k : Int), .int .i64 _, .int .i64 p, .int .i64 tag, .bool (dnB D k tag _)]) ?_ rfl ⟨rfl, (below_set5 HM.out (P := w.heap.size) (Nat.le_refl _) _ _ _ _ _).drew⟩
    have r0 := fun v0 v1 v2 v3 v4 => set5_at0 wa w.heap.size v0 v1 v2 v3 v4 ⟨_, c0_⟩
    have r1 := fun v0 v1 v2 v3 v4 => set5_at1 wa w.heap.size v0 v1 v2 v3 v4 ⟨_, c1_⟩
    have r2 := fun v0 v1 v2 v3 v4 => set5_at2 wa w.heap.size v0 v1 v2 v3 v4 ⟨_, c2_⟩
    have r3 := fun v0 v1 v2 v3 v4 => set5_at3 wa w.heap.size v0 v1 v2 v3 v4 ⟨_, c3_⟩
    have r4 := fun v0 v1 v2 v3 v4 => set5_at4 wa w.heap.size v0 v1 v2 v3 v4 ⟨_, c4_⟩
    simp [results, Tryz.results180, go_sem, r0, r1, r2, r3, r4, hdn] <;> first | decide | rfl | exact (by decide +kernel))

end Go.Proofs.YtbfmdnnbiidlkaaGreat
