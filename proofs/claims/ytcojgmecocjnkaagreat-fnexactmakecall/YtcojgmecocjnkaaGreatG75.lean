import Derived.Test.YtcojgmecocjnkaaGreatG74
import Derived.Test.YtcojgmecocjnkaaGreatG72
import Derived.Test.YtcojgmecocjnkaaGreatG38
import Derived.Test.YtcojgmecocjnkaaGreatG30
import Derived.Test.YtcojgmecocjnkaaGreatG27
import Derived.Test.YtcojgmecocjnkaaGreatG1
import Derived.StillTailTactics
import Derived.Laws.EntriesVeiled
import Derived.WalkKit
import Derived.ProofKit
import Derived.OpenShut
import Derived.ShutString
import Derived.ChangeOld
import Derived.Below
import Derived.WalkSpells
import Derived.Deep.QuietTactic
import Derived.BigQuiet
import Derived.Deep.RegionWith
import Derived.Deep.WholeRow
import Derived.Deep.DeepCutAuto
import Derived.Deep.RegionHeld2
import Derived.Deep.AppendLies
import Derived.Deep.RegionLaw
namespace Go.Proofs.YtcojgmecocjnkaaGreat
open Go.ChangeShapes Go.WideShapes Go.ChangeAt Go.RowKit

set_option maxRecDepth 100000 in
theorem callOf_0 (w : World) : Calls Tryz.prog 142 #[.int .i64 0] w fun e w' => e = .returned (.func (.func 202) #[] #[]) ∧ Below w.heap.size w w' := by
  have hu : up 0 4 = true := by decide
  have hq : ∀ W : World, Sem.run Tryz.prog (binOp BinOp.eql 190 (Value.nilFunc) Value.nilFunc) W = .ok (.bool true) W := fun _ => by kernel_rfl
  go_enter Tryz.func142, Tryz.ntmps142
  go_wp2_with (first | (go_at_call 92; with_reducible refine (isUpTo_is _ _ _ _ hu).mono ?_; rintro e w' ⟨rfl, hw'⟩; rw [hw']; clear hw' w'))
  exact bodyPost_ret (v := .func (.func 202) #[] #[]) (by simp [results, Tryz.results142, go_sem]) rfl ⟨rfl, (Below.refl _ _).alloc (Nat.le_refl _) _⟩

set_option maxRecDepth 100000 in
theorem callOf_1 (w : World) : Calls Tryz.prog 142 #[.int .i64 1] w fun e w' => e = .returned (.func (.func 198) #[] #[]) ∧ Below w.heap.size w w' := by
  have hu : up 1 4 = true := by decide
  have hq : ∀ W : World, Sem.run Tryz.prog (binOp BinOp.eql 190 (Value.func (.func 198) #[] #[]) Value.nilFunc) W = .ok (.bool false) W := fun _ => by kernel_rfl
  go_enter Tryz.func142, Tryz.ntmps142
  go_wp2_with (first | (go_at_call 92; with_reducible refine (isUpTo_is _ _ _ _ hu).mono ?_; rintro e w' ⟨rfl, hw'⟩; rw [hw']; clear hw' w'))
  exact bodyPost_ret (v := .func (.func 198) #[] #[]) (by simp [results, Tryz.results142, go_sem]) rfl ⟨rfl, (Below.refl _ _).alloc (Nat.le_refl _) _⟩

set_option maxRecDepth 100000 in
theorem callOf_2 (w : World) : Calls Tryz.prog 142 #[.int .i64 2] w fun e w' => e = .returned (.func (.func 199) #[] #[]) ∧ Below w.heap.size w w' := by
  have hu : up 2 4 = true := by decide
  have hq : ∀ W : World, Sem.run Tryz.prog (binOp BinOp.eql 190 (Value.func (.func 199) #[] #[]) Value.nilFunc) W = .ok (.bool false) W := fun _ => by kernel_rfl
  go_enter Tryz.func142, Tryz.ntmps142
  go_wp2_with (first | (go_at_call 92; with_reducible refine (isUpTo_is _ _ _ _ hu).mono ?_; rintro e w' ⟨rfl, hw'⟩; rw [hw']; clear hw' w'))
  exact bodyPost_ret (v := .func (.func 199) #[] #[]) (by simp [results, Tryz.results142, go_sem]) rfl ⟨rfl, (Below.refl _ _).alloc (Nat.le_refl _) _⟩

set_option maxRecDepth 100000 in
theorem callOf_3 (w : World) : Calls Tryz.prog 142 #[.int .i64 3] w fun e w' => e = .returned (.func (.func 200) #[] #[]) ∧ Below w.heap.size w w' := by
  have hu : up 3 4 = true := by decide
  have hq : ∀ W : World, Sem.run Tryz.prog (binOp BinOp.eql 190 (Value.func (.func 200) #[] #[]) Value.nilFunc) W = .ok (.bool false) W := fun _ => by kernel_rfl
  go_enter Tryz.func142, Tryz.ntmps142
  go_wp2_with (first | (go_at_call 92; with_reducible refine (isUpTo_is _ _ _ _ hu).mono ?_; rintro e w' ⟨rfl, hw'⟩; rw [hw']; clear hw' w'))
  exact bodyPost_ret (v := .func (.func 200) #[] #[]) (by simp [results, Tryz.results142, go_sem]) rfl ⟨rfl, (Below.refl _ _).alloc (Nat.le_refl _) _⟩

set_option maxRecDepth 100000 in
theorem callOf_4 (w : World) : Calls Tryz.prog 142 #[.int .i64 4] w fun e w' => e = .returned (.func (.func 201) #[] #[]) ∧ Below w.heap.size w w' := by
  have hu : up 4 4 = true := by decide
  have hq : ∀ W : World, Sem.run Tryz.prog (binOp BinOp.eql 190 (Value.func (.func 201) #[] #[]) Value.nilFunc) W = .ok (.bool false) W := fun _ => by kernel_rfl
  go_enter Tryz.func142, Tryz.ntmps142
  go_wp2_with (first | (go_at_call 92; with_reducible refine (isUpTo_is _ _ _ _ hu).mono ?_; rintro e w' ⟨rfl, hw'⟩; rw [hw']; clear hw' w'))
  exact bodyPost_ret (v := .func (.func 201) #[] #[]) (by simp [results, Tryz.results142, go_sem]) rfl ⟨rfl, (Below.refl _ _).alloc (Nat.le_refl _) _⟩

set_option maxRecDepth 100000 in
theorem callOf_bad (c : Int) (w : World) (hu : up c 4 = false) : Calls Tryz.prog 142 #[.int .i64 c] w fun e w' => e = .returned (.func (.func 202) #[] #[]) ∧ Below w.heap.size w w' := by
  go_enter Tryz.func142, Tryz.ntmps142
  go_wp2_with (first | (go_at_call 92; with_reducible refine (isUpTo_is _ _ _ _ hu).mono ?_; rintro e w' ⟨rfl, hw'⟩; rw [hw']; clear hw' w'))
  exact bodyPost_ret (v := .func (.func 202) #[] #[]) (by simp [results, Tryz.results142, go_sem]) rfl ⟨rfl, (Below.refl _ _).alloc (Nat.le_refl _) _⟩

theorem OY.reg {S : Nat → Prop} {A : SA} {D : SD} {w : World} (h : OY S A D w) {i : Nat} (hi : i < A.xn) (h8 : (gx D.cs i).1.length = 8) :
    ∃ N b lc, A.xa = some ⟨N, 0, none⟩ ∧ S N ∧ S b ∧ w.cell? ⟨N, i * 3, none⟩ = some (.slice (some ⟨b, 0, none⟩) 8 lc) ∧ Blk w b (gx D.cs i).1 ∧
      ∀ k v, k < 8 → OY S A { D with cs := D.cs.set i ((gx D.cs i).1.set k v, (gx D.cs i).2.1, (gx D.cs i).2.2) } (w.setCell ⟨b, k, none⟩ (.int .i64 v)) := by
  have hl : i < D.cs.length := by have := h.rs.len.2.2.2.2.1; omega
  obtain ⟨Q, q1, q2, q3, q4, q5⟩ := h
  obtain ⟨N, b, lc, ea, sN, sb, ne, c0, c1, c2, fz, blk, f1, f2, f3⟩ := q5.x.at hi (by omega)
  rw [h8] at c0
  refine ⟨N, b, lc, ea, q1 _ _ sN, q1 _ _ sb, c0, blk, fun k v hk => ?_⟩
  have hk' : ∀ j q, j ≠ 2 → Q j q → q < w.heap.size → (w.setCell ⟨b, k, none⟩ (.int .i64 v)).heap[q]? = w.heap[q]? := fun j q hj e _ => Below.heap_setCell _ _ _ _ (fun h => q2 j 2 q hj e (by have : q = b := h; rw [this]; exact sb))
  have hz : lenX (D.cs.set i ((gx D.cs i).1.set k v, (gx D.cs i).2.1, (gx D.cs i).2.2)) = lenX D.cs := lenX_set hl (by simp)
  exact ⟨Q, q1, q2, by unfold szY at q3 ⊢; simp only [hz]; exact q3, q4, ⟨OT.loc _ _ (fun q e hl => hk' 0 q (by decide) e hl) q5.t, OWd.loc _ _ (fun q e hl => hk' 1 q (by decide) e hl) q5.m, by rw [ea]; exact f3 k v (by omega), OL.loc _ _ (fun q e hl => hk' 3 q (by decide) e hl) q5.l, OS.loc _ _ (fun q e hl => hk' 4 q (by decide) e hl) q5.o, OWd.loc _ _ (fun q e hl => hk' 5 q (by decide) e hl) q5.g⟩⟩

set_option maxRecDepth 100000 in
set_option maxHeartbeats 4000000 in
theorem heard_calls (S : Nat → Prop) (B : SA) (E : SD) (k : Nat) (cd sd : Int) (w : World) (oy : OY S B E w) (hS : ∀ q, S q → q < w.heap.size) (hac : E.ac = (k : Int)) (hk : k < B.xn) (h8 : (gx E.cs k).1.length = 8) :
    Calls Tryz.prog 232 #[.agg #[.int .i64 cd, .int .i64 sd, .slice B.a B.n B.c, .slice B.ta B.tn B.tc, .slice B.da B.dn B.dc, .slice B.wa B.wn B.wc, .slice B.xa B.xn B.xc, .int .i64 E.ac, .int .i64 E.cz, .slice B.la B.ln B.lc, .int .i64 E.dv, .slice B.oa B.on B.oc, .slice B.ga B.gn B.gc]] w fun e w' => e = .returned (.agg #[.int .i64 cd, .int .i64 sd, .slice B.a B.n B.c, .slice B.ta B.tn B.tc, .slice B.da B.dn B.dc, .slice B.wa B.wn B.wc, .slice B.xa B.xn B.xc, .int .i64 E.ac, .int .i64 E.cz, .slice B.la B.ln B.lc, .int .i64 E.dv, .slice B.oa B.on B.oc, .slice B.ga B.gn B.gc]) ∧ OY S B (hdX E sd) w' ∧ OutS S w w' := by
  have M0 := (((Mm.start w).allocC [.int .i64 cd, .int .i64 sd, .slice B.a B.n B.c, .slice B.ta B.tn B.tc, .slice B.da B.dn B.dc, .slice B.wa B.wn B.wc, .slice B.xa B.xn B.xc, .int .i64 E.ac, .int .i64 E.cz, .slice B.la B.ln B.lc, .int .i64 E.dv, .slice B.oa B.on B.oc, .slice B.ga B.gn B.gc] 64).allocC [.int .i64 0, .int .i64 0, .slice none 0 0, .slice none 0 0, .slice none 0 0, .slice none 0 0, .slice none 0 0, .int .i64 0, .int .i64 0, .slice none 0 0, .int .i64 0, .slice none 0 0, .slice none 0 0] 64).allocC [.slice B.a B.n B.c, .slice B.ta B.tn B.tc, .slice B.da B.dn B.dc, .slice B.wa B.wn B.wc, .slice B.xa B.xn B.xc, .int .i64 E.ac, .int .i64 E.cz, .slice B.la B.ln B.lc, .int .i64 E.dv, .slice B.oa B.on B.oc, .slice B.ga B.gn B.gc] 53
  simp only [World.size_alloc] at M0
  obtain ⟨W, hW⟩ : ∃ x, x = ((w.alloc (.cells #[.int .i64 cd, .int .i64 sd, .slice B.a B.n B.c, .slice B.ta B.tn B.tc, .slice B.da B.dn B.dc, .slice B.wa B.wn B.wc, .slice B.xa B.xn B.xc, .int .i64 E.ac, .int .i64 E.cz, .slice B.la B.ln B.lc, .int .i64 E.dv, .slice B.oa B.on B.oc, .slice B.ga B.gn B.gc] 64)).alloc (.cells #[.int .i64 0, .int .i64 0, .slice none 0 0, .slice none 0 0, .slice none 0 0, .slice none 0 0, .slice none 0 0, .int .i64 0, .int .i64 0, .slice none 0 0, .int .i64 0, .slice none 0 0, .slice none 0 0] 64)).alloc (.cells #[.slice B.a B.n B.c, .slice B.ta B.tn B.tc, .slice B.da B.dn B.dc, .slice B.wa B.wn B.wc, .slice B.xa B.xn B.xc, .int .i64 E.ac, .int .i64 E.cz, .slice B.la B.ln B.lc, .int .i64 E.dv, .slice B.oa B.on B.oc, .slice B.ga B.gn B.gc] 53) := ⟨_, rfl⟩
  have hWz : W.heap.size = w.heap.size + 3 := by rw [hW]; simp
  rw [← hW] at M0
  have oW := OY.loc.below M0.bel oy
  obtain ⟨N, b, lc, ea, sN, sb, c0, blk, f3⟩ := oW.reg hk h8
  have a4 := (M0.get 0 rfl).cell 4 rfl
  have a5 := (M0.get 0 rfl).cell 5 rfl
  rw [ea] at a4
  rw [hac] at a5
  have s1 := (M0.get 2 rfl).cell 1 rfl
  have lb := hS b sb
  have q0 := blk.2.1 0 (by omega)
  have q0f := blk.2.2 0
  have kk0 : (0 : Int) ≤ (k : Int) := by omega
  have kk1 : (k : Int) < (B.xn : Int) := by omega
  have HOY := hide (f3 0 sd (by omega))
  have HBW := hide M0.bel
  have M1 := M0
  have hbn : ∀ q, q = w.heap.size ∨ q = w.heap.size + 1 ∨ q = w.heap.size + 1 + 1 → (W.setCell ⟨b, 0, none⟩ (.int .i64 sd)).heap[q]? = W.heap[q]? := fun q hq => Below.heap_setCell _ _ _ _ (fun h => by have : q = b := h; omega)
  have t0 := (World.cell?_of_block (a := ⟨w.heap.size, 0, none⟩) (hbn w.heap.size (.inl rfl))).trans ((M0.get 2 rfl).cell 0 rfl)
  have t1 := (World.cell?_of_block (a := ⟨w.heap.size, 1, none⟩) (hbn w.heap.size (.inl rfl))).trans ((M0.get 2 rfl).cell 1 rfl)
  have t2 := (World.cell?_of_block (a := ⟨w.heap.size, 2, none⟩) (hbn w.heap.size (.inl rfl))).trans ((M0.get 2 rfl).cell 2 rfl)
  have t3 := (World.cell?_of_block (a := ⟨w.heap.size, 3, none⟩) (hbn w.heap.size (.inl rfl))).trans ((M0.get 2 rfl).cell 3 rfl)
  have t4 := (World.cell?_of_block (a := ⟨w.heap.size, 4, none⟩) (hbn w.heap.size (.inl rfl))).trans ((M0.get 2 rfl).cell 4 rfl)
  have t5 := (World.cell?_of_block (a := ⟨w.heap.size, 5, none⟩) (hbn w.heap.size (.inl rfl))).trans ((M0.get 2 rfl).cell 5 rfl)
  have t6 := (World.cell?_of_block (a := ⟨w.heap.size, 6, none⟩) (hbn w.heap.size (.inl rfl))).trans ((M0.get 2 rfl).cell 6 rfl)
  have t7 := (World.cell?_of_block (a := ⟨w.heap.size, 7, none⟩) (hbn w.heap.size (.inl rfl))).trans ((M0.get 2 rfl).cell 7 rfl)
  have t8 := (World.cell?_of_block (a := ⟨w.heap.size, 8, none⟩) (hbn w.heap.size (.inl rfl))).trans ((M0.get 2 rfl).cell 8 rfl)
  have t9 := (World.cell?_of_block (a := ⟨w.heap.size, 9, none⟩) (hbn w.heap.size (.inl rfl))).trans ((M0.get 2 rfl).cell 9 rfl)
  have t10 := (World.cell?_of_block (a := ⟨w.heap.size, 10, none⟩) (hbn w.heap.size (.inl rfl))).trans ((M0.get 2 rfl).cell 10 rfl)
  have t11 := (World.cell?_of_block (a := ⟨w.heap.size, 11, none⟩) (hbn w.heap.size (.inl rfl))).trans ((M0.get 2 rfl).cell 11 rfl)
  have t12 := (World.cell?_of_block (a := ⟨w.heap.size, 12, none⟩) (hbn w.heap.size (.inl rfl))).trans ((M0.get 2 rfl).cell 12 rfl)
  have u0_ := (World.cell?_of_block (a := ⟨w.heap.size + 1, 0, none⟩) (hbn (w.heap.size + 1) (.inr (.inl rfl)))).trans ((M0.get 1 rfl).cell 0 rfl)
  have v0_ := (World.frozen?_of_block (a := ⟨w.heap.size + 1, 0, none⟩) (hbn (w.heap.size + 1) (.inr (.inl rfl)))).trans ((M0.get 1 rfl).fz 0 (by simp))
  have u1_ := (World.cell?_of_block (a := ⟨w.heap.size + 1, 1, none⟩) (hbn (w.heap.size + 1) (.inr (.inl rfl)))).trans ((M0.get 1 rfl).cell 1 rfl)
  have v1_ := (World.frozen?_of_block (a := ⟨w.heap.size + 1, 1, none⟩) (hbn (w.heap.size + 1) (.inr (.inl rfl)))).trans ((M0.get 1 rfl).fz 1 (by simp))
  have u2_ := (World.cell?_of_block (a := ⟨w.heap.size + 1, 2, none⟩) (hbn (w.heap.size + 1) (.inr (.inl rfl)))).trans ((M0.get 1 rfl).cell 2 rfl)
  have v2_ := (World.frozen?_of_block (a := ⟨w.heap.size + 1, 2, none⟩) (hbn (w.heap.size + 1) (.inr (.inl rfl)))).trans ((M0.get 1 rfl).fz 2 (by simp))
  have u3_ := (World.cell?_of_block (a := ⟨w.heap.size + 1, 3, none⟩) (hbn (w.heap.size + 1) (.inr (.inl rfl)))).trans ((M0.get 1 rfl).cell 3 rfl)
  have v3_ := (World.frozen?_of_block (a := ⟨w.heap.size + 1, 3, none⟩) (hbn (w.heap.size + 1) (.inr (.inl rfl)))).trans ((M0.get 1 rfl).fz 3 (by simp))
  have u4_ := (World.cell?_of_block (a := ⟨w.heap.size + 1, 4, none⟩) (hbn (w.heap.size + 1) (.inr (.inl rfl)))).trans ((M0.get 1 rfl).cell 4 rfl)
  have v4_ := (World.frozen?_of_block (a := ⟨w.heap.size + 1, 4, none⟩) (hbn (w.heap.size + 1) (.inr (.inl rfl)))).trans ((M0.get 1 rfl).fz 4 (by simp))
  have u5_ := (World.cell?_of_block (a := ⟨w.heap.size + 1, 5, none⟩) (hbn (w.heap.size + 1) (.inr (.inl rfl)))).trans ((M0.get 1 rfl).cell 5 rfl)
  have v5_ := (World.frozen?_of_block (a := ⟨w.heap.size + 1, 5, none⟩) (hbn (w.heap.size + 1) (.inr (.inl rfl)))).trans ((M0.get 1 rfl).fz 5 (by simp))
  have u6_ := (World.cell?_of_block (a := ⟨w.heap.size + 1, 6, none⟩) (hbn (w.heap.size + 1) (.inr (.inl rfl)))).trans ((M0.get 1 rfl).cell 6 rfl)
  have v6_ := (World.frozen?_of_block (a := ⟨w.heap.size + 1, 6, none⟩) (hbn (w.heap.size + 1) (.inr (.inl rfl)))).trans ((M0.get 1 rfl).fz 6 (by simp))
  have u7_ := (World.cell?_of_block (a := ⟨w.heap.size + 1, 7, none⟩) (hbn (w.heap.size + 1) (.inr (.inl rfl)))).trans ((M0.get 1 rfl).cell 7 rfl)
  have v7_ := (World.frozen?_of_block (a := ⟨w.heap.size + 1, 7, none⟩) (hbn (w.heap.size + 1) (.inr (.inl rfl)))).trans ((M0.get 1 rfl).fz 7 (by simp))
  have u8_ := (World.cell?_of_block (a := ⟨w.heap.size + 1, 8, none⟩) (hbn (w.heap.size + 1) (.inr (.inl rfl)))).trans ((M0.get 1 rfl).cell 8 rfl)
  have v8_ := (World.frozen?_of_block (a := ⟨w.heap.size + 1, 8, none⟩) (hbn (w.heap.size + 1) (.inr (.inl rfl)))).trans ((M0.get 1 rfl).fz 8 (by simp))
  have u9_ := (World.cell?_of_block (a := ⟨w.heap.size + 1, 9, none⟩) (hbn (w.heap.size + 1) (.inr (.inl rfl)))).trans ((M0.get 1 rfl).cell 9 rfl)
  have v9_ := (World.frozen?_of_block (a := ⟨w.heap.size + 1, 9, none⟩) (hbn (w.heap.size + 1) (.inr (.inl rfl)))).trans ((M0.get 1 rfl).fz 9 (by simp))
  have u10_ := (World.cell?_of_block (a := ⟨w.heap.size + 1, 10, none⟩) (hbn (w.heap.size + 1) (.inr (.inl rfl)))).trans ((M0.get 1 rfl).cell 10 rfl)
  have v10_ := (World.frozen?_of_block (a := ⟨w.heap.size + 1, 10, none⟩) (hbn (w.heap.size + 1) (.inr (.inl rfl)))).trans ((M0.get 1 rfl).fz 10 (by simp))
  have u11_ := (World.cell?_of_block (a := ⟨w.heap.size + 1, 11, none⟩) (hbn (w.heap.size + 1) (.inr (.inl rfl)))).trans ((M0.get 1 rfl).cell 11 rfl)
  have v11_ := (World.frozen?_of_block (a := ⟨w.heap.size + 1, 11, none⟩) (hbn (w.heap.size + 1) (.inr (.inl rfl)))).trans ((M0.get 1 rfl).fz 11 (by simp))
  have u12_ := (World.cell?_of_block (a := ⟨w.heap.size + 1, 12, none⟩) (hbn (w.heap.size + 1) (.inr (.inl rfl)))).trans ((M0.get 1 rfl).cell 12 rfl)
  have v12_ := (World.frozen?_of_block (a := ⟨w.heap.size + 1, 12, none⟩) (hbn (w.heap.size + 1) (.inr (.inl rfl)))).trans ((M0.get 1 rfl).fz 12 (by simp))
  obtain ⟨V, hV⟩ : ∃ x, x = (W.setCell ⟨b, 0, none⟩ (.int .i64 sd)).drew := ⟨_, rfl⟩
  have hV2 : ∀ p, V.cell? p = (W.setCell ⟨b, 0, none⟩ (.int .i64 sd)).cell? p ∧ V.frozen? p = (W.setCell ⟨b, 0, none⟩ (.int .i64 sd)).frozen? p := fun p => by rw [hV]; exact ⟨rfl, rfl⟩
  have oV : OY S B (hdX E sd) V := by
    have h1 := HOY.out
    have e9 : E.ac.toNat = k := by rw [hac]; rfl
    unfold hdX
    rw [e9, hV]
    exact OY.loc (W.setCell ⟨b, 0, none⟩ (.int .i64 sd)) (W.setCell ⟨b, 0, none⟩ (.int .i64 sd)).drew (fun q _ _ => rfl) h1
  have uV : OutS S w V := by rw [hV]; exact ((OutS.of_below HBW.out).setCell (p := ⟨b, 0, none⟩) (by exact sb) _).trans (OutS.of_below (Below.refl _ _).drew)
  have zV : V.heap.size = w.heap.size + 3 := by rw [hV]; simp; omega
  have t0 := (hV2 ⟨w.heap.size, 0, none⟩).1.trans t0
  have u0_ := (hV2 ⟨w.heap.size + 1, 0, none⟩).1.trans u0_
  have v0_ := (hV2 ⟨w.heap.size + 1, 0, none⟩).2.trans v0_
  have t1 := (hV2 ⟨w.heap.size, 1, none⟩).1.trans t1
  have u1_ := (hV2 ⟨w.heap.size + 1, 1, none⟩).1.trans u1_
  have v1_ := (hV2 ⟨w.heap.size + 1, 1, none⟩).2.trans v1_
  have t2 := (hV2 ⟨w.heap.size, 2, none⟩).1.trans t2
  have u2_ := (hV2 ⟨w.heap.size + 1, 2, none⟩).1.trans u2_
  have v2_ := (hV2 ⟨w.heap.size + 1, 2, none⟩).2.trans v2_
  have t3 := (hV2 ⟨w.heap.size, 3, none⟩).1.trans t3
  have u3_ := (hV2 ⟨w.heap.size + 1, 3, none⟩).1.trans u3_
  have v3_ := (hV2 ⟨w.heap.size + 1, 3, none⟩).2.trans v3_
  have t4 := (hV2 ⟨w.heap.size, 4, none⟩).1.trans t4
  have u4_ := (hV2 ⟨w.heap.size + 1, 4, none⟩).1.trans u4_
  have v4_ := (hV2 ⟨w.heap.size + 1, 4, none⟩).2.trans v4_
  have t5 := (hV2 ⟨w.heap.size, 5, none⟩).1.trans t5
  have u5_ := (hV2 ⟨w.heap.size + 1, 5, none⟩).1.trans u5_
  have v5_ := (hV2 ⟨w.heap.size + 1, 5, none⟩).2.trans v5_
  have t6 := (hV2 ⟨w.heap.size, 6, none⟩).1.trans t6
  have u6_ := (hV2 ⟨w.heap.size + 1, 6, none⟩).1.trans u6_
  have v6_ := (hV2 ⟨w.heap.size + 1, 6, none⟩).2.trans v6_
  have t7 := (hV2 ⟨w.heap.size, 7, none⟩).1.trans t7
  have u7_ := (hV2 ⟨w.heap.size + 1, 7, none⟩).1.trans u7_
  have v7_ := (hV2 ⟨w.heap.size + 1, 7, none⟩).2.trans v7_
  have t8 := (hV2 ⟨w.heap.size, 8, none⟩).1.trans t8
  have u8_ := (hV2 ⟨w.heap.size + 1, 8, none⟩).1.trans u8_
  have v8_ := (hV2 ⟨w.heap.size + 1, 8, none⟩).2.trans v8_
  have t9 := (hV2 ⟨w.heap.size, 9, none⟩).1.trans t9
  have u9_ := (hV2 ⟨w.heap.size + 1, 9, none⟩).1.trans u9_
  have v9_ := (hV2 ⟨w.heap.size + 1, 9, none⟩).2.trans v9_
  have t10 := (hV2 ⟨w.heap.size, 10, none⟩).1.trans t10
  have u10_ := (hV2 ⟨w.heap.size + 1, 10, none⟩).1.trans u10_
  have v10_ := (hV2 ⟨w.heap.size + 1, 10, none⟩).2.trans v10_
  have t11 := (hV2 ⟨w.heap.size, 11, none⟩).1.trans t11
  have u11_ := (hV2 ⟨w.heap.size + 1, 11, none⟩).1.trans u11_
  have v11_ := (hV2 ⟨w.heap.size + 1, 11, none⟩).2.trans v11_
  have t12 := (hV2 ⟨w.heap.size, 12, none⟩).1.trans t12
  have u12_ := (hV2 ⟨w.heap.size + 1, 12, none⟩).1.trans u12_
  have v12_ := (hV2 ⟨w.heap.size + 1, 12, none⟩).2.trans v12_
  have nS1 : ¬ S (w.heap.size + 1) := fun e => by have := hS _ e; omega
  have HO := hide (loc_set13 OY.loc oV (P := w.heap.size + 1) nS1 (.int .i64 cd) (.int .i64 sd) (.slice B.a B.n B.c) (.slice B.ta B.tn B.tc) (.slice B.da B.dn B.dc) (.slice B.wa B.wn B.wc) (.slice B.xa B.xn B.xc) (.int .i64 E.ac) (.int .i64 E.cz) (.slice B.la B.ln B.lc) (.int .i64 E.dv) (.slice B.oa B.on B.oc) (.slice B.ga B.gn B.gc))
  have HU := hide (OutS.setNew (OutS.setNew (OutS.setNew (OutS.setNew (OutS.setNew (OutS.setNew (OutS.setNew (OutS.setNew (OutS.setNew (OutS.setNew (OutS.setNew (OutS.setNew (OutS.setNew uV (p := ⟨w.heap.size + 1, 0, none⟩) (.inr (by simp)) (.int .i64 cd)) (p := ⟨w.heap.size + 1, 1, none⟩) (.inr (by simp)) (.int .i64 sd)) (p := ⟨w.heap.size + 1, 2, none⟩) (.inr (by simp)) (.slice B.a B.n B.c)) (p := ⟨w.heap.size + 1, 3, none⟩) (.inr (by simp)) (.slice B.ta B.tn B.tc)) (p := ⟨w.heap.size + 1, 4, none⟩) (.inr (by simp)) (.slice B.da B.dn B.dc)) (p := ⟨w.heap.size + 1, 5, none⟩) (.inr (by simp)) (.slice B.wa B.wn B.wc)) (p := ⟨w.heap.size + 1, 6, none⟩) (.inr (by simp)) (.slice B.xa B.xn B.xc)) (p := ⟨w.heap.size + 1, 7, none⟩) (.inr (by simp)) (.int .i64 E.ac)) (p := ⟨w.heap.size + 1, 8, none⟩) (.inr (by simp)) (.int .i64 E.cz)) (p := ⟨w.heap.size + 1, 9, none⟩) (.inr (by simp)) (.slice B.la B.ln B.lc)) (p := ⟨w.heap.size + 1, 10, none⟩) (.inr (by simp)) (.int .i64 E.dv)) (p := ⟨w.heap.size + 1, 11, none⟩) (.inr (by simp)) (.slice B.oa B.on B.oc)) (p := ⟨w.heap.size + 1, 12, none⟩) (.inr (by simp)) (.slice B.ga B.gn B.gc))
  have HW := hide hW
  have HV := hide hV
  clear M0 M1 hW hV hbn hV2 oV uV HOY oW f3 blk ea hac
  go_enter Tryz.func232, Tryz.ntmps232
  go_wp2_with fail
  rw [← HW.out]
  go_still_tail 10, (by kernel_rfl)
  have hyw : ({ heap := W.heap, tape := W.tape, drawn := W.drawn + 1, os := W.os, output := W.output } : World) = W.drew := rfl
  try rw [hyw]
  clear hyw
  go_upto_region 3 with fail
  rw [← HV.out]
  clear HW HV
  go_wp2
  have r0 := set13_at0 _ _ (.int .i64 cd) (.int .i64 sd) (.slice B.a B.n B.c) (.slice B.ta B.tn B.tc) (.slice B.da B.dn B.dc) (.slice B.wa B.wn B.wc) (.slice B.xa B.xn B.xc) (.int .i64 E.ac) (.int .i64 E.cz) (.slice B.la B.ln B.lc) (.int .i64 E.dv) (.slice B.oa B.on B.oc) (.slice B.ga B.gn B.gc) ⟨_, u0_⟩
  have r1 := set13_at1 _ _ (.int .i64 cd) (.int .i64 sd) (.slice B.a B.n B.c) (.slice B.ta B.tn B.tc) (.slice B.da B.dn B.dc) (.slice B.wa B.wn B.wc) (.slice B.xa B.xn B.xc) (.int .i64 E.ac) (.int .i64 E.cz) (.slice B.la B.ln B.lc) (.int .i64 E.dv) (.slice B.oa B.on B.oc) (.slice B.ga B.gn B.gc) ⟨_, u1_⟩
  have r2 := set13_at2 _ _ (.int .i64 cd) (.int .i64 sd) (.slice B.a B.n B.c) (.slice B.ta B.tn B.tc) (.slice B.da B.dn B.dc) (.slice B.wa B.wn B.wc) (.slice B.xa B.xn B.xc) (.int .i64 E.ac) (.int .i64 E.cz) (.slice B.la B.ln B.lc) (.int .i64 E.dv) (.slice B.oa B.on B.oc) (.slice B.ga B.gn B.gc) ⟨_, u2_⟩
  have r3 := set13_at3 _ _ (.int .i64 cd) (.int .i64 sd) (.slice B.a B.n B.c) (.slice B.ta B.tn B.tc) (.slice B.da B.dn B.dc) (.slice B.wa B.wn B.wc) (.slice B.xa B.xn B.xc) (.int .i64 E.ac) (.int .i64 E.cz) (.slice B.la B.ln B.lc) (.int .i64 E.dv) (.slice B.oa B.on B.oc) (.slice B.ga B.gn B.gc) ⟨_, u3_⟩
  have r4 := set13_at4 _ _ (.int .i64 cd) (.int .i64 sd) (.slice B.a B.n B.c) (.slice B.ta B.tn B.tc) (.slice B.da B.dn B.dc) (.slice B.wa B.wn B.wc) (.slice B.xa B.xn B.xc) (.int .i64 E.ac) (.int .i64 E.cz) (.slice B.la B.ln B.lc) (.int .i64 E.dv) (.slice B.oa B.on B.oc) (.slice B.ga B.gn B.gc) ⟨_, u4_⟩
  have r5 := set13_at5 _ _ (.int .i64 cd) (.int .i64 sd) (.slice B.a B.n B.c) (.slice B.ta B.tn B.tc) (.slice B.da B.dn B.dc) (.slice B.wa B.wn B.wc) (.slice B.xa B.xn B.xc) (.int .i64 E.ac) (.int .i64 E.cz) (.slice B.la B.ln B.lc) (.int .i64 E.dv) (.slice B.oa B.on B.oc) (.slice B.ga B.gn B.gc) ⟨_, u5_⟩
  have r6 := set13_at6 _ _ (.int .i64 cd) (.int .i64 sd) (.slice B.a B.n B.c) (.slice B.ta B.tn B.tc) (.slice B.da B.dn B.dc) (.slice B.wa B.wn B.wc) (.slice B.xa B.xn B.xc) (.int .i64 E.ac) (.int .i64 E.cz) (.slice B.la B.ln B.lc) (.int .i64 E.dv) (.slice B.oa B.on B.oc) (.slice B.ga B.gn B.gc) ⟨_, u6_⟩
  have r7 := set13_at7 _ _ (.int .i64 cd) (.int .i64 sd) (.slice B.a B.n B.c) (.slice B.ta B.tn B.tc) (.slice B.da B.dn B.dc) (.slice B.wa B.wn B.wc) (.slice B.xa B.xn B.xc) (.int .i64 E.ac) (.int .i64 E.cz) (.slice B.la B.ln B.lc) (.int .i64 E.dv) (.slice B.oa B.on B.oc) (.slice B.ga B.gn B.gc) ⟨_, u7_⟩
  have r8 := set13_at8 _ _ (.int .i64 cd) (.int .i64 sd) (.slice B.a B.n B.c) (.slice B.ta B.tn B.tc) (.slice B.da B.dn B.dc) (.slice B.wa B.wn B.wc) (.slice B.xa B.xn B.xc) (.int .i64 E.ac) (.int .i64 E.cz) (.slice B.la B.ln B.lc) (.int .i64 E.dv) (.slice B.oa B.on B.oc) (.slice B.ga B.gn B.gc) ⟨_, u8_⟩
  have r9 := set13_at9 _ _ (.int .i64 cd) (.int .i64 sd) (.slice B.a B.n B.c) (.slice B.ta B.tn B.tc) (.slice B.da B.dn B.dc) (.slice B.wa B.wn B.wc) (.slice B.xa B.xn B.xc) (.int .i64 E.ac) (.int .i64 E.cz) (.slice B.la B.ln B.lc) (.int .i64 E.dv) (.slice B.oa B.on B.oc) (.slice B.ga B.gn B.gc) ⟨_, u9_⟩
  have r10 := set13_at10 _ _ (.int .i64 cd) (.int .i64 sd) (.slice B.a B.n B.c) (.slice B.ta B.tn B.tc) (.slice B.da B.dn B.dc) (.slice B.wa B.wn B.wc) (.slice B.xa B.xn B.xc) (.int .i64 E.ac) (.int .i64 E.cz) (.slice B.la B.ln B.lc) (.int .i64 E.dv) (.slice B.oa B.on B.oc) (.slice B.ga B.gn B.gc) ⟨_, u10_⟩
  have r11 := set13_at11 _ _ (.int .i64 cd) (.int .i64 sd) (.slice B.a B.n B.c) (.slice B.ta B.tn B.tc) (.slice B.da B.dn B.dc) (.slice B.wa B.wn B.wc) (.slice B.xa B.xn B.xc) (.int .i64 E.ac) (.int .i64 E.cz) (.slice B.la B.ln B.lc) (.int .i64 E.dv) (.slice B.oa B.on B.oc) (.slice B.ga B.gn B.gc) ⟨_, u11_⟩
  have r12 := set13_at12 _ _ (.int .i64 cd) (.int .i64 sd) (.slice B.a B.n B.c) (.slice B.ta B.tn B.tc) (.slice B.da B.dn B.dc) (.slice B.wa B.wn B.wc) (.slice B.xa B.xn B.xc) (.int .i64 E.ac) (.int .i64 E.cz) (.slice B.la B.ln B.lc) (.int .i64 E.dv) (.slice B.oa B.on B.oc) (.slice B.ga B.gn B.gc) ⟨_, u12_⟩
  exact bodyPost_ret (v := .agg #[.int .i64 cd, .int .i64 sd, .slice B.a B.n B.c, .slice B.ta B.tn B.tc, .slice B.da B.dn B.dc, .slice B.wa B.wn B.wc, .slice B.xa B.xn B.xc, .int .i64 E.ac, .int .i64 E.cz, .slice B.la B.ln B.lc, .int .i64 E.dv, .slice B.oa B.on B.oc, .slice B.ga B.gn B.gc]) (by simp [results, Tryz.results232, go_sem, r0, r1, r2, r3, r4, r5, r6, r7, r8, r9, r10, r11, r12]) rfl ⟨rfl, HO.out, HU.out⟩

theorem k12_bel {w X : World} {v0 v1 v2 v3 v4 v5 v6 v7 v8 v9 v10 v11 : Value} {a0 : Addr} (h : X.cell? ⟨w.heap.size, 0, none⟩ = some v0 ∧ X.cell? ⟨w.heap.size, 1, none⟩ = some v1 ∧ X.cell? ⟨w.heap.size, 2, none⟩ = some v2 ∧ X.cell? ⟨w.heap.size, 3, none⟩ = some v3 ∧ X.cell? ⟨w.heap.size, 4, none⟩ = some v4 ∧ X.cell? ⟨w.heap.size, 5, none⟩ = some v5 ∧ X.cell? ⟨w.heap.size, 6, none⟩ = some v6 ∧ X.cell? ⟨w.heap.size, 7, none⟩ = some v7 ∧ X.cell? ⟨w.heap.size, 8, none⟩ = some v8 ∧ X.cell? ⟨w.heap.size, 9, none⟩ = some v9 ∧ X.cell? ⟨w.heap.size, 10, none⟩ = some v10 ∧ X.cell? a0 = some v11 ∧ w.heap.size + 1 < X.heap.size ∧ Below w.heap.size w X) : Below w.heap.size w X := h.2.2.2.2.2.2.2.2.2.2.2.2.2

theorem k12_lt {w X : World} {v0 v1 v2 v3 v4 v5 v6 v7 v8 v9 v10 v11 : Value} {a0 : Addr} (h : X.cell? ⟨w.heap.size, 0, none⟩ = some v0 ∧ X.cell? ⟨w.heap.size, 1, none⟩ = some v1 ∧ X.cell? ⟨w.heap.size, 2, none⟩ = some v2 ∧ X.cell? ⟨w.heap.size, 3, none⟩ = some v3 ∧ X.cell? ⟨w.heap.size, 4, none⟩ = some v4 ∧ X.cell? ⟨w.heap.size, 5, none⟩ = some v5 ∧ X.cell? ⟨w.heap.size, 6, none⟩ = some v6 ∧ X.cell? ⟨w.heap.size, 7, none⟩ = some v7 ∧ X.cell? ⟨w.heap.size, 8, none⟩ = some v8 ∧ X.cell? ⟨w.heap.size, 9, none⟩ = some v9 ∧ X.cell? ⟨w.heap.size, 10, none⟩ = some v10 ∧ X.cell? a0 = some v11 ∧ w.heap.size + 1 < X.heap.size ∧ Below w.heap.size w X) : w.heap.size + 1 < X.heap.size := h.2.2.2.2.2.2.2.2.2.2.2.2.1

theorem k12_below {w X : World} {v0 v1 v2 v3 v4 v5 v6 v7 v8 v9 v10 v11 : Value} {a0 : Addr} {Y : World} (l0 : a0.block < w.heap.size) (h : X.cell? ⟨w.heap.size, 0, none⟩ = some v0 ∧ X.cell? ⟨w.heap.size, 1, none⟩ = some v1 ∧ X.cell? ⟨w.heap.size, 2, none⟩ = some v2 ∧ X.cell? ⟨w.heap.size, 3, none⟩ = some v3 ∧ X.cell? ⟨w.heap.size, 4, none⟩ = some v4 ∧ X.cell? ⟨w.heap.size, 5, none⟩ = some v5 ∧ X.cell? ⟨w.heap.size, 6, none⟩ = some v6 ∧ X.cell? ⟨w.heap.size, 7, none⟩ = some v7 ∧ X.cell? ⟨w.heap.size, 8, none⟩ = some v8 ∧ X.cell? ⟨w.heap.size, 9, none⟩ = some v9 ∧ X.cell? ⟨w.heap.size, 10, none⟩ = some v10 ∧ X.cell? a0 = some v11 ∧ w.heap.size + 1 < X.heap.size ∧ Below w.heap.size w X) (g : Below X.heap.size X Y) : Y.cell? ⟨w.heap.size, 0, none⟩ = some v0 ∧ Y.cell? ⟨w.heap.size, 1, none⟩ = some v1 ∧ Y.cell? ⟨w.heap.size, 2, none⟩ = some v2 ∧ Y.cell? ⟨w.heap.size, 3, none⟩ = some v3 ∧ Y.cell? ⟨w.heap.size, 4, none⟩ = some v4 ∧ Y.cell? ⟨w.heap.size, 5, none⟩ = some v5 ∧ Y.cell? ⟨w.heap.size, 6, none⟩ = some v6 ∧ Y.cell? ⟨w.heap.size, 7, none⟩ = some v7 ∧ Y.cell? ⟨w.heap.size, 8, none⟩ = some v8 ∧ Y.cell? ⟨w.heap.size, 9, none⟩ = some v9 ∧ Y.cell? ⟨w.heap.size, 10, none⟩ = some v10 ∧ Y.cell? a0 = some v11 ∧ w.heap.size + 1 < Y.heap.size ∧ Below w.heap.size w Y := by
  have hl := k12_lt h
  have hb := k12_bel h
  have hz := g.size
  exact ⟨(g.cell (p := ⟨w.heap.size, 0, none⟩) (by show w.heap.size < _; omega)).trans h.1, (g.cell (p := ⟨w.heap.size, 1, none⟩) (by show w.heap.size < _; omega)).trans h.2.1, (g.cell (p := ⟨w.heap.size, 2, none⟩) (by show w.heap.size < _; omega)).trans h.2.2.1, (g.cell (p := ⟨w.heap.size, 3, none⟩) (by show w.heap.size < _; omega)).trans h.2.2.2.1, (g.cell (p := ⟨w.heap.size, 4, none⟩) (by show w.heap.size < _; omega)).trans h.2.2.2.2.1, (g.cell (p := ⟨w.heap.size, 5, none⟩) (by show w.heap.size < _; omega)).trans h.2.2.2.2.2.1, (g.cell (p := ⟨w.heap.size, 6, none⟩) (by show w.heap.size < _; omega)).trans h.2.2.2.2.2.2.1, (g.cell (p := ⟨w.heap.size, 7, none⟩) (by show w.heap.size < _; omega)).trans h.2.2.2.2.2.2.2.1, (g.cell (p := ⟨w.heap.size, 8, none⟩) (by show w.heap.size < _; omega)).trans h.2.2.2.2.2.2.2.2.1, (g.cell (p := ⟨w.heap.size, 9, none⟩) (by show w.heap.size < _; omega)).trans h.2.2.2.2.2.2.2.2.2.1, (g.cell (p := ⟨w.heap.size, 10, none⟩) (by show w.heap.size < _; omega)).trans h.2.2.2.2.2.2.2.2.2.2.1, (g.cell (p := a0) (by omega)).trans h.2.2.2.2.2.2.2.2.2.2.2.1, by omega, hb.trans (g.mono hb.size)⟩

theorem k12_out {w X : World} {v0 v1 v2 v3 v4 v5 v6 v7 v8 v9 v10 v11 : Value} {a0 : Addr} {Y : World} {T : Nat → Prop} (l0 : a0.block < w.heap.size) (h : X.cell? ⟨w.heap.size, 0, none⟩ = some v0 ∧ X.cell? ⟨w.heap.size, 1, none⟩ = some v1 ∧ X.cell? ⟨w.heap.size, 2, none⟩ = some v2 ∧ X.cell? ⟨w.heap.size, 3, none⟩ = some v3 ∧ X.cell? ⟨w.heap.size, 4, none⟩ = some v4 ∧ X.cell? ⟨w.heap.size, 5, none⟩ = some v5 ∧ X.cell? ⟨w.heap.size, 6, none⟩ = some v6 ∧ X.cell? ⟨w.heap.size, 7, none⟩ = some v7 ∧ X.cell? ⟨w.heap.size, 8, none⟩ = some v8 ∧ X.cell? ⟨w.heap.size, 9, none⟩ = some v9 ∧ X.cell? ⟨w.heap.size, 10, none⟩ = some v10 ∧ X.cell? a0 = some v11 ∧ w.heap.size + 1 < X.heap.size ∧ Below w.heap.size w X) (g : OutS T X Y) (hT : ∀ q, T q → w.heap.size + 1 < q) : Y.cell? ⟨w.heap.size, 0, none⟩ = some v0 ∧ Y.cell? ⟨w.heap.size, 1, none⟩ = some v1 ∧ Y.cell? ⟨w.heap.size, 2, none⟩ = some v2 ∧ Y.cell? ⟨w.heap.size, 3, none⟩ = some v3 ∧ Y.cell? ⟨w.heap.size, 4, none⟩ = some v4 ∧ Y.cell? ⟨w.heap.size, 5, none⟩ = some v5 ∧ Y.cell? ⟨w.heap.size, 6, none⟩ = some v6 ∧ Y.cell? ⟨w.heap.size, 7, none⟩ = some v7 ∧ Y.cell? ⟨w.heap.size, 8, none⟩ = some v8 ∧ Y.cell? ⟨w.heap.size, 9, none⟩ = some v9 ∧ Y.cell? ⟨w.heap.size, 10, none⟩ = some v10 ∧ Y.cell? a0 = some v11 ∧ w.heap.size + 1 < Y.heap.size ∧ Below w.heap.size w Y := by
  have hl := k12_lt h
  have hb := k12_bel h
  have hz := g.size
  exact ⟨(World.cell?_of_block (a := ⟨w.heap.size, 0, none⟩) (g.block _ (by show w.heap.size < _; omega) (fun e => by have := hT _ e; simp only at this; omega))).trans h.1, (World.cell?_of_block (a := ⟨w.heap.size, 1, none⟩) (g.block _ (by show w.heap.size < _; omega) (fun e => by have := hT _ e; simp only at this; omega))).trans h.2.1, (World.cell?_of_block (a := ⟨w.heap.size, 2, none⟩) (g.block _ (by show w.heap.size < _; omega) (fun e => by have := hT _ e; simp only at this; omega))).trans h.2.2.1, (World.cell?_of_block (a := ⟨w.heap.size, 3, none⟩) (g.block _ (by show w.heap.size < _; omega) (fun e => by have := hT _ e; simp only at this; omega))).trans h.2.2.2.1, (World.cell?_of_block (a := ⟨w.heap.size, 4, none⟩) (g.block _ (by show w.heap.size < _; omega) (fun e => by have := hT _ e; simp only at this; omega))).trans h.2.2.2.2.1, (World.cell?_of_block (a := ⟨w.heap.size, 5, none⟩) (g.block _ (by show w.heap.size < _; omega) (fun e => by have := hT _ e; simp only at this; omega))).trans h.2.2.2.2.2.1, (World.cell?_of_block (a := ⟨w.heap.size, 6, none⟩) (g.block _ (by show w.heap.size < _; omega) (fun e => by have := hT _ e; simp only at this; omega))).trans h.2.2.2.2.2.2.1, (World.cell?_of_block (a := ⟨w.heap.size, 7, none⟩) (g.block _ (by show w.heap.size < _; omega) (fun e => by have := hT _ e; simp only at this; omega))).trans h.2.2.2.2.2.2.2.1, (World.cell?_of_block (a := ⟨w.heap.size, 8, none⟩) (g.block _ (by show w.heap.size < _; omega) (fun e => by have := hT _ e; simp only at this; omega))).trans h.2.2.2.2.2.2.2.2.1, (World.cell?_of_block (a := ⟨w.heap.size, 9, none⟩) (g.block _ (by show w.heap.size < _; omega) (fun e => by have := hT _ e; simp only at this; omega))).trans h.2.2.2.2.2.2.2.2.2.1, (World.cell?_of_block (a := ⟨w.heap.size, 10, none⟩) (g.block _ (by show w.heap.size < _; omega) (fun e => by have := hT _ e; simp only at this; omega))).trans h.2.2.2.2.2.2.2.2.2.2.1, (World.cell?_of_block (a := a0) (g.block _ (by omega) (fun e => by have := hT _ e; omega))).trans h.2.2.2.2.2.2.2.2.2.2.2.1, by omega, hb.trans (g.below (fun q e => by have := hT q e; omega) hb.size)⟩

theorem k12_set {w X : World} {v0 v1 v2 v3 v4 v5 v6 v7 v8 v9 v10 v11 : Value} {a0 : Addr} (l0 : a0.block < w.heap.size) (h : X.cell? ⟨w.heap.size, 0, none⟩ = some v0 ∧ X.cell? ⟨w.heap.size, 1, none⟩ = some v1 ∧ X.cell? ⟨w.heap.size, 2, none⟩ = some v2 ∧ X.cell? ⟨w.heap.size, 3, none⟩ = some v3 ∧ X.cell? ⟨w.heap.size, 4, none⟩ = some v4 ∧ X.cell? ⟨w.heap.size, 5, none⟩ = some v5 ∧ X.cell? ⟨w.heap.size, 6, none⟩ = some v6 ∧ X.cell? ⟨w.heap.size, 7, none⟩ = some v7 ∧ X.cell? ⟨w.heap.size, 8, none⟩ = some v8 ∧ X.cell? ⟨w.heap.size, 9, none⟩ = some v9 ∧ X.cell? ⟨w.heap.size, 10, none⟩ = some v10 ∧ X.cell? a0 = some v11 ∧ w.heap.size + 1 < X.heap.size ∧ Below w.heap.size w X) (o : Nat) (y : Value) : (X.setCell ⟨w.heap.size + 1, o, none⟩ y).cell? ⟨w.heap.size, 0, none⟩ = some v0 ∧ (X.setCell ⟨w.heap.size + 1, o, none⟩ y).cell? ⟨w.heap.size, 1, none⟩ = some v1 ∧ (X.setCell ⟨w.heap.size + 1, o, none⟩ y).cell? ⟨w.heap.size, 2, none⟩ = some v2 ∧ (X.setCell ⟨w.heap.size + 1, o, none⟩ y).cell? ⟨w.heap.size, 3, none⟩ = some v3 ∧ (X.setCell ⟨w.heap.size + 1, o, none⟩ y).cell? ⟨w.heap.size, 4, none⟩ = some v4 ∧ (X.setCell ⟨w.heap.size + 1, o, none⟩ y).cell? ⟨w.heap.size, 5, none⟩ = some v5 ∧ (X.setCell ⟨w.heap.size + 1, o, none⟩ y).cell? ⟨w.heap.size, 6, none⟩ = some v6 ∧ (X.setCell ⟨w.heap.size + 1, o, none⟩ y).cell? ⟨w.heap.size, 7, none⟩ = some v7 ∧ (X.setCell ⟨w.heap.size + 1, o, none⟩ y).cell? ⟨w.heap.size, 8, none⟩ = some v8 ∧ (X.setCell ⟨w.heap.size + 1, o, none⟩ y).cell? ⟨w.heap.size, 9, none⟩ = some v9 ∧ (X.setCell ⟨w.heap.size + 1, o, none⟩ y).cell? ⟨w.heap.size, 10, none⟩ = some v10 ∧ (X.setCell ⟨w.heap.size + 1, o, none⟩ y).cell? a0 = some v11 ∧ w.heap.size + 1 < (X.setCell ⟨w.heap.size + 1, o, none⟩ y).heap.size ∧ Below w.heap.size w (X.setCell ⟨w.heap.size + 1, o, none⟩ y) := by
  have hl := k12_lt h
  exact ⟨(World.cell?_setCell_other _ _ _ _ (fun e => by injection e with e1 _; omega)).trans h.1, (World.cell?_setCell_other _ _ _ _ (fun e => by injection e with e1 _; omega)).trans h.2.1, (World.cell?_setCell_other _ _ _ _ (fun e => by injection e with e1 _; omega)).trans h.2.2.1, (World.cell?_setCell_other _ _ _ _ (fun e => by injection e with e1 _; omega)).trans h.2.2.2.1, (World.cell?_setCell_other _ _ _ _ (fun e => by injection e with e1 _; omega)).trans h.2.2.2.2.1, (World.cell?_setCell_other _ _ _ _ (fun e => by injection e with e1 _; omega)).trans h.2.2.2.2.2.1, (World.cell?_setCell_other _ _ _ _ (fun e => by injection e with e1 _; omega)).trans h.2.2.2.2.2.2.1, (World.cell?_setCell_other _ _ _ _ (fun e => by injection e with e1 _; omega)).trans h.2.2.2.2.2.2.2.1, (World.cell?_setCell_other _ _ _ _ (fun e => by injection e with e1 _; omega)).trans h.2.2.2.2.2.2.2.2.1, (World.cell?_setCell_other _ _ _ _ (fun e => by injection e with e1 _; omega)).trans h.2.2.2.2.2.2.2.2.2.1, (World.cell?_setCell_other _ _ _ _ (fun e => by injection e with e1 _; omega)).trans h.2.2.2.2.2.2.2.2.2.2.1, (World.cell?_setCell_other _ _ _ _ (fun e => by rw [← e] at l0; simp only at l0; omega)).trans h.2.2.2.2.2.2.2.2.2.2.2.1, by simpa using hl, (k12_bel h).setCell (by simp) y⟩

theorem k13_bel {w X : World} {v0 v1 v2 v3 v4 v5 v6 v7 v8 v9 v10 v11 v12 : Value} {a0 a1 : Addr} (h : X.cell? ⟨w.heap.size, 0, none⟩ = some v0 ∧ X.cell? ⟨w.heap.size, 1, none⟩ = some v1 ∧ X.cell? ⟨w.heap.size, 2, none⟩ = some v2 ∧ X.cell? ⟨w.heap.size, 3, none⟩ = some v3 ∧ X.cell? ⟨w.heap.size, 4, none⟩ = some v4 ∧ X.cell? ⟨w.heap.size, 5, none⟩ = some v5 ∧ X.cell? ⟨w.heap.size, 6, none⟩ = some v6 ∧ X.cell? ⟨w.heap.size, 7, none⟩ = some v7 ∧ X.cell? ⟨w.heap.size, 8, none⟩ = some v8 ∧ X.cell? ⟨w.heap.size, 9, none⟩ = some v9 ∧ X.cell? ⟨w.heap.size, 10, none⟩ = some v10 ∧ X.cell? a0 = some v11 ∧ X.cell? a1 = some v12 ∧ w.heap.size + 1 < X.heap.size ∧ Below w.heap.size w X) : Below w.heap.size w X := h.2.2.2.2.2.2.2.2.2.2.2.2.2.2

theorem k13_lt {w X : World} {v0 v1 v2 v3 v4 v5 v6 v7 v8 v9 v10 v11 v12 : Value} {a0 a1 : Addr} (h : X.cell? ⟨w.heap.size, 0, none⟩ = some v0 ∧ X.cell? ⟨w.heap.size, 1, none⟩ = some v1 ∧ X.cell? ⟨w.heap.size, 2, none⟩ = some v2 ∧ X.cell? ⟨w.heap.size, 3, none⟩ = some v3 ∧ X.cell? ⟨w.heap.size, 4, none⟩ = some v4 ∧ X.cell? ⟨w.heap.size, 5, none⟩ = some v5 ∧ X.cell? ⟨w.heap.size, 6, none⟩ = some v6 ∧ X.cell? ⟨w.heap.size, 7, none⟩ = some v7 ∧ X.cell? ⟨w.heap.size, 8, none⟩ = some v8 ∧ X.cell? ⟨w.heap.size, 9, none⟩ = some v9 ∧ X.cell? ⟨w.heap.size, 10, none⟩ = some v10 ∧ X.cell? a0 = some v11 ∧ X.cell? a1 = some v12 ∧ w.heap.size + 1 < X.heap.size ∧ Below w.heap.size w X) : w.heap.size + 1 < X.heap.size := h.2.2.2.2.2.2.2.2.2.2.2.2.2.1

theorem k13_below {w X : World} {v0 v1 v2 v3 v4 v5 v6 v7 v8 v9 v10 v11 v12 : Value} {a0 a1 : Addr} {Y : World} (l0 : a0.block < w.heap.size) (l1 : a1.block < w.heap.size) (h : X.cell? ⟨w.heap.size, 0, none⟩ = some v0 ∧ X.cell? ⟨w.heap.size, 1, none⟩ = some v1 ∧ X.cell? ⟨w.heap.size, 2, none⟩ = some v2 ∧ X.cell? ⟨w.heap.size, 3, none⟩ = some v3 ∧ X.cell? ⟨w.heap.size, 4, none⟩ = some v4 ∧ X.cell? ⟨w.heap.size, 5, none⟩ = some v5 ∧ X.cell? ⟨w.heap.size, 6, none⟩ = some v6 ∧ X.cell? ⟨w.heap.size, 7, none⟩ = some v7 ∧ X.cell? ⟨w.heap.size, 8, none⟩ = some v8 ∧ X.cell? ⟨w.heap.size, 9, none⟩ = some v9 ∧ X.cell? ⟨w.heap.size, 10, none⟩ = some v10 ∧ X.cell? a0 = some v11 ∧ X.cell? a1 = some v12 ∧ w.heap.size + 1 < X.heap.size ∧ Below w.heap.size w X) (g : Below X.heap.size X Y) : Y.cell? ⟨w.heap.size, 0, none⟩ = some v0 ∧ Y.cell? ⟨w.heap.size, 1, none⟩ = some v1 ∧ Y.cell? ⟨w.heap.size, 2, none⟩ = some v2 ∧ Y.cell? ⟨w.heap.size, 3, none⟩ = some v3 ∧ Y.cell? ⟨w.heap.size, 4, none⟩ = some v4 ∧ Y.cell? ⟨w.heap.size, 5, none⟩ = some v5 ∧ Y.cell? ⟨w.heap.size, 6, none⟩ = some v6 ∧ Y.cell? ⟨w.heap.size, 7, none⟩ = some v7 ∧ Y.cell? ⟨w.heap.size, 8, none⟩ = some v8 ∧ Y.cell? ⟨w.heap.size, 9, none⟩ = some v9 ∧ Y.cell? ⟨w.heap.size, 10, none⟩ = some v10 ∧ Y.cell? a0 = some v11 ∧ Y.cell? a1 = some v12 ∧ w.heap.size + 1 < Y.heap.size ∧ Below w.heap.size w Y := by
  have hl := k13_lt h
  have hb := k13_bel h
  have hz := g.size
  exact ⟨(g.cell (p := ⟨w.heap.size, 0, none⟩) (by show w.heap.size < _; omega)).trans h.1, (g.cell (p := ⟨w.heap.size, 1, none⟩) (by show w.heap.size < _; omega)).trans h.2.1, (g.cell (p := ⟨w.heap.size, 2, none⟩) (by show w.heap.size < _; omega)).trans h.2.2.1, (g.cell (p := ⟨w.heap.size, 3, none⟩) (by show w.heap.size < _; omega)).trans h.2.2.2.1, (g.cell (p := ⟨w.heap.size, 4, none⟩) (by show w.heap.size < _; omega)).trans h.2.2.2.2.1, (g.cell (p := ⟨w.heap.size, 5, none⟩) (by show w.heap.size < _; omega)).trans h.2.2.2.2.2.1, (g.cell (p := ⟨w.heap.size, 6, none⟩) (by show w.heap.size < _; omega)).trans h.2.2.2.2.2.2.1, (g.cell (p := ⟨w.heap.size, 7, none⟩) (by show w.heap.size < _; omega)).trans h.2.2.2.2.2.2.2.1, (g.cell (p := ⟨w.heap.size, 8, none⟩) (by show w.heap.size < _; omega)).trans h.2.2.2.2.2.2.2.2.1, (g.cell (p := ⟨w.heap.size, 9, none⟩) (by show w.heap.size < _; omega)).trans h.2.2.2.2.2.2.2.2.2.1, (g.cell (p := ⟨w.heap.size, 10, none⟩) (by show w.heap.size < _; omega)).trans h.2.2.2.2.2.2.2.2.2.2.1, (g.cell (p := a0) (by omega)).trans h.2.2.2.2.2.2.2.2.2.2.2.1, (g.cell (p := a1) (by omega)).trans h.2.2.2.2.2.2.2.2.2.2.2.2.1, by omega, hb.trans (g.mono hb.size)⟩

theorem k13_out {w X : World} {v0 v1 v2 v3 v4 v5 v6 v7 v8 v9 v10 v11 v12 : Value} {a0 a1 : Addr} {Y : World} {T : Nat → Prop} (l0 : a0.block < w.heap.size) (l1 : a1.block < w.heap.size) (h : X.cell? ⟨w.heap.size, 0, none⟩ = some v0 ∧ X.cell? ⟨w.heap.size, 1, none⟩ = some v1 ∧ X.cell? ⟨w.heap.size, 2, none⟩ = some v2 ∧ X.cell? ⟨w.heap.size, 3, none⟩ = some v3 ∧ X.cell? ⟨w.heap.size, 4, none⟩ = some v4 ∧ X.cell? ⟨w.heap.size, 5, none⟩ = some v5 ∧ X.cell? ⟨w.heap.size, 6, none⟩ = some v6 ∧ X.cell? ⟨w.heap.size, 7, none⟩ = some v7 ∧ X.cell? ⟨w.heap.size, 8, none⟩ = some v8 ∧ X.cell? ⟨w.heap.size, 9, none⟩ = some v9 ∧ X.cell? ⟨w.heap.size, 10, none⟩ = some v10 ∧ X.cell? a0 = some v11 ∧ X.cell? a1 = some v12 ∧ w.heap.size + 1 < X.heap.size ∧ Below w.heap.size w X) (g : OutS T X Y) (hT : ∀ q, T q → w.heap.size + 1 < q) : Y.cell? ⟨w.heap.size, 0, none⟩ = some v0 ∧ Y.cell? ⟨w.heap.size, 1, none⟩ = some v1 ∧ Y.cell? ⟨w.heap.size, 2, none⟩ = some v2 ∧ Y.cell? ⟨w.heap.size, 3, none⟩ = some v3 ∧ Y.cell? ⟨w.heap.size, 4, none⟩ = some v4 ∧ Y.cell? ⟨w.heap.size, 5, none⟩ = some v5 ∧ Y.cell? ⟨w.heap.size, 6, none⟩ = some v6 ∧ Y.cell? ⟨w.heap.size, 7, none⟩ = some v7 ∧ Y.cell? ⟨w.heap.size, 8, none⟩ = some v8 ∧ Y.cell? ⟨w.heap.size, 9, none⟩ = some v9 ∧ Y.cell? ⟨w.heap.size, 10, none⟩ = some v10 ∧ Y.cell? a0 = some v11 ∧ Y.cell? a1 = some v12 ∧ w.heap.size + 1 < Y.heap.size ∧ Below w.heap.size w Y := by
  have hl := k13_lt h
  have hb := k13_bel h
  have hz := g.size
  exact ⟨(World.cell?_of_block (a := ⟨w.heap.size, 0, none⟩) (g.block _ (by show w.heap.size < _; omega) (fun e => by have := hT _ e; simp only at this; omega))).trans h.1, (World.cell?_of_block (a := ⟨w.heap.size, 1, none⟩) (g.block _ (by show w.heap.size < _; omega) (fun e => by have := hT _ e; simp only at this; omega))).trans h.2.1, (World.cell?_of_block (a := ⟨w.heap.size, 2, none⟩) (g.block _ (by show w.heap.size < _; omega) (fun e => by have := hT _ e; simp only at this; omega))).trans h.2.2.1, (World.cell?_of_block (a := ⟨w.heap.size, 3, none⟩) (g.block _ (by show w.heap.size < _; omega) (fun e => by have := hT _ e; simp only at this; omega))).trans h.2.2.2.1, (World.cell?_of_block (a := ⟨w.heap.size, 4, none⟩) (g.block _ (by show w.heap.size < _; omega) (fun e => by have := hT _ e; simp only at this; omega))).trans h.2.2.2.2.1, (World.cell?_of_block (a := ⟨w.heap.size, 5, none⟩) (g.block _ (by show w.heap.size < _; omega) (fun e => by have := hT _ e; simp only at this; omega))).trans h.2.2.2.2.2.1, (World.cell?_of_block (a := ⟨w.heap.size, 6, none⟩) (g.block _ (by show w.heap.size < _; omega) (fun e => by have := hT _ e; simp only at this; omega))).trans h.2.2.2.2.2.2.1, (World.cell?_of_block (a := ⟨w.heap.size, 7, none⟩) (g.block _ (by show w.heap.size < _; omega) (fun e => by have := hT _ e; simp only at this; omega))).trans h.2.2.2.2.2.2.2.1, (World.cell?_of_block (a := ⟨w.heap.size, 8, none⟩) (g.block _ (by show w.heap.size < _; omega) (fun e => by have := hT _ e; simp only at this; omega))).trans h.2.2.2.2.2.2.2.2.1, (World.cell?_of_block (a := ⟨w.heap.size, 9, none⟩) (g.block _ (by show w.heap.size < _; omega) (fun e => by have := hT _ e; simp only at this; omega))).trans h.2.2.2.2.2.2.2.2.2.1, (World.cell?_of_block (a := ⟨w.heap.size, 10, none⟩) (g.block _ (by show w.heap.size < _; omega) (fun e => by have := hT _ e; simp only at this; omega))).trans h.2.2.2.2.2.2.2.2.2.2.1, (World.cell?_of_block (a := a0) (g.block _ (by omega) (fun e => by have := hT _ e; omega))).trans h.2.2.2.2.2.2.2.2.2.2.2.1, (World.cell?_of_block (a := a1) (g.block _ (by omega) (fun e => by have := hT _ e; omega))).trans h.2.2.2.2.2.2.2.2.2.2.2.2.1, by omega, hb.trans (g.below (fun q e => by have := hT q e; omega) hb.size)⟩

theorem k13_set {w X : World} {v0 v1 v2 v3 v4 v5 v6 v7 v8 v9 v10 v11 v12 : Value} {a0 a1 : Addr} (l0 : a0.block < w.heap.size) (l1 : a1.block < w.heap.size) (h : X.cell? ⟨w.heap.size, 0, none⟩ = some v0 ∧ X.cell? ⟨w.heap.size, 1, none⟩ = some v1 ∧ X.cell? ⟨w.heap.size, 2, none⟩ = some v2 ∧ X.cell? ⟨w.heap.size, 3, none⟩ = some v3 ∧ X.cell? ⟨w.heap.size, 4, none⟩ = some v4 ∧ X.cell? ⟨w.heap.size, 5, none⟩ = some v5 ∧ X.cell? ⟨w.heap.size, 6, none⟩ = some v6 ∧ X.cell? ⟨w.heap.size, 7, none⟩ = some v7 ∧ X.cell? ⟨w.heap.size, 8, none⟩ = some v8 ∧ X.cell? ⟨w.heap.size, 9, none⟩ = some v9 ∧ X.cell? ⟨w.heap.size, 10, none⟩ = some v10 ∧ X.cell? a0 = some v11 ∧ X.cell? a1 = some v12 ∧ w.heap.size + 1 < X.heap.size ∧ Below w.heap.size w X) (o : Nat) (y : Value) : (X.setCell ⟨w.heap.size + 1, o, none⟩ y).cell? ⟨w.heap.size, 0, none⟩ = some v0 ∧ (X.setCell ⟨w.heap.size + 1, o, none⟩ y).cell? ⟨w.heap.size, 1, none⟩ = some v1 ∧ (X.setCell ⟨w.heap.size + 1, o, none⟩ y).cell? ⟨w.heap.size, 2, none⟩ = some v2 ∧ (X.setCell ⟨w.heap.size + 1, o, none⟩ y).cell? ⟨w.heap.size, 3, none⟩ = some v3 ∧ (X.setCell ⟨w.heap.size + 1, o, none⟩ y).cell? ⟨w.heap.size, 4, none⟩ = some v4 ∧ (X.setCell ⟨w.heap.size + 1, o, none⟩ y).cell? ⟨w.heap.size, 5, none⟩ = some v5 ∧ (X.setCell ⟨w.heap.size + 1, o, none⟩ y).cell? ⟨w.heap.size, 6, none⟩ = some v6 ∧ (X.setCell ⟨w.heap.size + 1, o, none⟩ y).cell? ⟨w.heap.size, 7, none⟩ = some v7 ∧ (X.setCell ⟨w.heap.size + 1, o, none⟩ y).cell? ⟨w.heap.size, 8, none⟩ = some v8 ∧ (X.setCell ⟨w.heap.size + 1, o, none⟩ y).cell? ⟨w.heap.size, 9, none⟩ = some v9 ∧ (X.setCell ⟨w.heap.size + 1, o, none⟩ y).cell? ⟨w.heap.size, 10, none⟩ = some v10 ∧ (X.setCell ⟨w.heap.size + 1, o, none⟩ y).cell? a0 = some v11 ∧ (X.setCell ⟨w.heap.size + 1, o, none⟩ y).cell? a1 = some v12 ∧ w.heap.size + 1 < (X.setCell ⟨w.heap.size + 1, o, none⟩ y).heap.size ∧ Below w.heap.size w (X.setCell ⟨w.heap.size + 1, o, none⟩ y) := by
  have hl := k13_lt h
  exact ⟨(World.cell?_setCell_other _ _ _ _ (fun e => by injection e with e1 _; omega)).trans h.1, (World.cell?_setCell_other _ _ _ _ (fun e => by injection e with e1 _; omega)).trans h.2.1, (World.cell?_setCell_other _ _ _ _ (fun e => by injection e with e1 _; omega)).trans h.2.2.1, (World.cell?_setCell_other _ _ _ _ (fun e => by injection e with e1 _; omega)).trans h.2.2.2.1, (World.cell?_setCell_other _ _ _ _ (fun e => by injection e with e1 _; omega)).trans h.2.2.2.2.1, (World.cell?_setCell_other _ _ _ _ (fun e => by injection e with e1 _; omega)).trans h.2.2.2.2.2.1, (World.cell?_setCell_other _ _ _ _ (fun e => by injection e with e1 _; omega)).trans h.2.2.2.2.2.2.1, (World.cell?_setCell_other _ _ _ _ (fun e => by injection e with e1 _; omega)).trans h.2.2.2.2.2.2.2.1, (World.cell?_setCell_other _ _ _ _ (fun e => by injection e with e1 _; omega)).trans h.2.2.2.2.2.2.2.2.1, (World.cell?_setCell_other _ _ _ _ (fun e => by injection e with e1 _; omega)).trans h.2.2.2.2.2.2.2.2.2.1, (World.cell?_setCell_other _ _ _ _ (fun e => by injection e with e1 _; omega)).trans h.2.2.2.2.2.2.2.2.2.2.1, (World.cell?_setCell_other _ _ _ _ (fun e => by rw [← e] at l0; simp only at l0; omega)).trans h.2.2.2.2.2.2.2.2.2.2.2.1, (World.cell?_setCell_other _ _ _ _ (fun e => by rw [← e] at l1; simp only at l1; omega)).trans h.2.2.2.2.2.2.2.2.2.2.2.2.1, by simpa using hl, (k13_bel h).setCell (by simp) y⟩

theorem k14_bel {w X : World} {v0 v1 v2 v3 v4 v5 v6 v7 v8 v9 v10 v11 v12 v13 : Value} {a0 a1 a2 : Addr} (h : X.cell? ⟨w.heap.size, 0, none⟩ = some v0 ∧ X.cell? ⟨w.heap.size, 1, none⟩ = some v1 ∧ X.cell? ⟨w.heap.size, 2, none⟩ = some v2 ∧ X.cell? ⟨w.heap.size, 3, none⟩ = some v3 ∧ X.cell? ⟨w.heap.size, 4, none⟩ = some v4 ∧ X.cell? ⟨w.heap.size, 5, none⟩ = some v5 ∧ X.cell? ⟨w.heap.size, 6, none⟩ = some v6 ∧ X.cell? ⟨w.heap.size, 7, none⟩ = some v7 ∧ X.cell? ⟨w.heap.size, 8, none⟩ = some v8 ∧ X.cell? ⟨w.heap.size, 9, none⟩ = some v9 ∧ X.cell? ⟨w.heap.size, 10, none⟩ = some v10 ∧ X.cell? a0 = some v11 ∧ X.cell? a1 = some v12 ∧ X.cell? a2 = some v13 ∧ w.heap.size + 1 < X.heap.size ∧ Below w.heap.size w X) : Below w.heap.size w X := h.2.2.2.2.2.2.2.2.2.2.2.2.2.2.2

theorem k14_lt {w X : World} {v0 v1 v2 v3 v4 v5 v6 v7 v8 v9 v10 v11 v12 v13 : Value} {a0 a1 a2 : Addr} (h : X.cell? ⟨w.heap.size, 0, none⟩ = some v0 ∧ X.cell? ⟨w.heap.size, 1, none⟩ = some v1 ∧ X.cell? ⟨w.heap.size, 2, none⟩ = some v2 ∧ X.cell? ⟨w.heap.size, 3, none⟩ = some v3 ∧ X.cell? ⟨w.heap.size, 4, none⟩ = some v4 ∧ X.cell? ⟨w.heap.size, 5, none⟩ = some v5 ∧ X.cell? ⟨w.heap.size, 6, none⟩ = some v6 ∧ X.cell? ⟨w.heap.size, 7, none⟩ = some v7 ∧ X.cell? ⟨w.heap.size, 8, none⟩ = some v8 ∧ X.cell? ⟨w.heap.size, 9, none⟩ = some v9 ∧ X.cell? ⟨w.heap.size, 10, none⟩ = some v10 ∧ X.cell? a0 = some v11 ∧ X.cell? a1 = some v12 ∧ X.cell? a2 = some v13 ∧ w.heap.size + 1 < X.heap.size ∧ Below w.heap.size w X) : w.heap.size + 1 < X.heap.size := h.2.2.2.2.2.2.2.2.2.2.2.2.2.2.1

theorem k14_below {w X : World} {v0 v1 v2 v3 v4 v5 v6 v7 v8 v9 v10 v11 v12 v13 : Value} {a0 a1 a2 : Addr} {Y : World} (l0 : a0.block < w.heap.size) (l1 : a1.block < w.heap.size) (l2 : a2.block < w.heap.size) (h : X.cell? ⟨w.heap.size, 0, none⟩ = some v0 ∧ X.cell? ⟨w.heap.size, 1, none⟩ = some v1 ∧ X.cell? ⟨w.heap.size, 2, none⟩ = some v2 ∧ X.cell? ⟨w.heap.size, 3, none⟩ = some v3 ∧ X.cell? ⟨w.heap.size, 4, none⟩ = some v4 ∧ X.cell? ⟨w.heap.size, 5, none⟩ = some v5 ∧ X.cell? ⟨w.heap.size, 6, none⟩ = some v6 ∧ X.cell? ⟨w.heap.size, 7, none⟩ = some v7 ∧ X.cell? ⟨w.heap.size, 8, none⟩ = some v8 ∧ X.cell? ⟨w.heap.size, 9, none⟩ = some v9 ∧ X.cell? ⟨w.heap.size, 10, none⟩ = some v10 ∧ X.cell? a0 = some v11 ∧ X.cell? a1 = some v12 ∧ X.cell? a2 = some v13 ∧ w.heap.size + 1 < X.heap.size ∧ Below w.heap.size w X) (g : Below X.heap.size X Y) : Y.cell? ⟨w.heap.size, 0, none⟩ = some v0 ∧ Y.cell? ⟨w.heap.size, 1, none⟩ = some v1 ∧ Y.cell? ⟨w.heap.size, 2, none⟩ = some v2 ∧ Y.cell? ⟨w.heap.size, 3, none⟩ = some v3 ∧ Y.cell? ⟨w.heap.size, 4, none⟩ = some v4 ∧ Y.cell? ⟨w.heap.size, 5, none⟩ = some v5 ∧ Y.cell? ⟨w.heap.size, 6, none⟩ = some v6 ∧ Y.cell? ⟨w.heap.size, 7, none⟩ = some v7 ∧ Y.cell? ⟨w.heap.size, 8, none⟩ = some v8 ∧ Y.cell? ⟨w.heap.size, 9, none⟩ = some v9 ∧ Y.cell? ⟨w.heap.size, 10, none⟩ = some v10 ∧ Y.cell? a0 = some v11 ∧ Y.cell? a1 = some v12 ∧ Y.cell? a2 = some v13 ∧ w.heap.size + 1 < Y.heap.size ∧ Below w.heap.size w Y := by
  have hl := k14_lt h
  have hb := k14_bel h
  have hz := g.size
  exact ⟨(g.cell (p := ⟨w.heap.size, 0, none⟩) (by show w.heap.size < _; omega)).trans h.1, (g.cell (p := ⟨w.heap.size, 1, none⟩) (by show w.heap.size < _; omega)).trans h.2.1, (g.cell (p := ⟨w.heap.size, 2, none⟩) (by show w.heap.size < _; omega)).trans h.2.2.1, (g.cell (p := ⟨w.heap.size, 3, none⟩) (by show w.heap.size < _; omega)).trans h.2.2.2.1, (g.cell (p := ⟨w.heap.size, 4, none⟩) (by show w.heap.size < _; omega)).trans h.2.2.2.2.1, (g.cell (p := ⟨w.heap.size, 5, none⟩) (by show w.heap.size < _; omega)).trans h.2.2.2.2.2.1, (g.cell (p := ⟨w.heap.size, 6, none⟩) (by show w.heap.size < _; omega)).trans h.2.2.2.2.2.2.1, (g.cell (p := ⟨w.heap.size, 7, none⟩) (by show w.heap.size < _; omega)).trans h.2.2.2.2.2.2.2.1, (g.cell (p := ⟨w.heap.size, 8, none⟩) (by show w.heap.size < _; omega)).trans h.2.2.2.2.2.2.2.2.1, (g.cell (p := ⟨w.heap.size, 9, none⟩) (by show w.heap.size < _; omega)).trans h.2.2.2.2.2.2.2.2.2.1, (g.cell (p := ⟨w.heap.size, 10, none⟩) (by show w.heap.size < _; omega)).trans h.2.2.2.2.2.2.2.2.2.2.1, (g.cell (p := a0) (by omega)).trans h.2.2.2.2.2.2.2.2.2.2.2.1, (g.cell (p := a1) (by omega)).trans h.2.2.2.2.2.2.2.2.2.2.2.2.1, (g.cell (p := a2) (by omega)).trans h.2.2.2.2.2.2.2.2.2.2.2.2.2.1, by omega, hb.trans (g.mono hb.size)⟩

theorem k14_out {w X : World} {v0 v1 v2 v3 v4 v5 v6 v7 v8 v9 v10 v11 v12 v13 : Value} {a0 a1 a2 : Addr} {Y : World} {T : Nat → Prop} (l0 : a0.block < w.heap.size) (l1 : a1.block < w.heap.size) (l2 : a2.block < w.heap.size) (h : X.cell? ⟨w.heap.size, 0, none⟩ = some v0 ∧ X.cell? ⟨w.heap.size, 1, none⟩ = some v1 ∧ X.cell? ⟨w.heap.size, 2, none⟩ = some v2 ∧ X.cell? ⟨w.heap.size, 3, none⟩ = some v3 ∧ X.cell? ⟨w.heap.size, 4, none⟩ = some v4 ∧ X.cell? ⟨w.heap.size, 5, none⟩ = some v5 ∧ X.cell? ⟨w.heap.size, 6, none⟩ = some v6 ∧ X.cell? ⟨w.heap.size, 7, none⟩ = some v7 ∧ X.cell? ⟨w.heap.size, 8, none⟩ = some v8 ∧ X.cell? ⟨w.heap.size, 9, none⟩ = some v9 ∧ X.cell? ⟨w.heap.size, 10, none⟩ = some v10 ∧ X.cell? a0 = some v11 ∧ X.cell? a1 = some v12 ∧ X.cell? a2 = some v13 ∧ w.heap.size + 1 < X.heap.size ∧ Below w.heap.size w X) (g : OutS T X Y) (hT : ∀ q, T q → w.heap.size + 1 < q) : Y.cell? ⟨w.heap.size, 0, none⟩ = some v0 ∧ Y.cell? ⟨w.heap.size, 1, none⟩ = some v1 ∧ Y.cell? ⟨w.heap.size, 2, none⟩ = some v2 ∧ Y.cell? ⟨w.heap.size, 3, none⟩ = some v3 ∧ Y.cell? ⟨w.heap.size, 4, none⟩ = some v4 ∧ Y.cell? ⟨w.heap.size, 5, none⟩ = some v5 ∧ Y.cell? ⟨w.heap.size, 6, none⟩ = some v6 ∧ Y.cell? ⟨w.heap.size, 7, none⟩ = some v7 ∧ Y.cell? ⟨w.heap.size, 8, none⟩ = some v8 ∧ Y.cell? ⟨w.heap.size, 9, none⟩ = some v9 ∧ Y.cell? ⟨w.heap.size, 10, none⟩ = some v10 ∧ Y.cell? a0 = some v11 ∧ Y.cell? a1 = some v12 ∧ Y.cell? a2 = some v13 ∧ w.heap.size + 1 < Y.heap.size ∧ Below w.heap.size w Y := by
  have hl := k14_lt h
  have hb := k14_bel h
  have hz := g.size
  exact ⟨(World.cell?_of_block (a := ⟨w.heap.size, 0, none⟩) (g.block _ (by show w.heap.size < _; omega) (fun e => by have := hT _ e; simp only at this; omega))).trans h.1, (World.cell?_of_block (a := ⟨w.heap.size, 1, none⟩) (g.block _ (by show w.heap.size < _; omega) (fun e => by have := hT _ e; simp only at this; omega))).trans h.2.1, (World.cell?_of_block (a := ⟨w.heap.size, 2, none⟩) (g.block _ (by show w.heap.size < _; omega) (fun e => by have := hT _ e; simp only at this; omega))).trans h.2.2.1, (World.cell?_of_block (a := ⟨w.heap.size, 3, none⟩) (g.block _ (by show w.heap.size < _; omega) (fun e => by have := hT _ e; simp only at this; omega))).trans h.2.2.2.1, (World.cell?_of_block (a := ⟨w.heap.size, 4, none⟩) (g.block _ (by show w.heap.size < _; omega) (fun e => by have := hT _ e; simp only at this; omega))).trans h.2.2.2.2.1, (World.cell?_of_block (a := ⟨w.heap.size, 5, none⟩) (g.block _ (by show w.heap.size < _; omega) (fun e => by have := hT _ e; simp only at this; omega))).trans h.2.2.2.2.2.1, (World.cell?_of_block (a := ⟨w.heap.size, 6, none⟩) (g.block _ (by show w.heap.size < _; omega) (fun e => by have := hT _ e; simp only at this; omega))).trans h.2.2.2.2.2.2.1, (World.cell?_of_block (a := ⟨w.heap.size, 7, none⟩) (g.block _ (by show w.heap.size < _; omega) (fun e => by have := hT _ e; simp only at this; omega))).trans h.2.2.2.2.2.2.2.1, (World.cell?_of_block (a := ⟨w.heap.size, 8, none⟩) (g.block _ (by show w.heap.size < _; omega) (fun e => by have := hT _ e; simp only at this; omega))).trans h.2.2.2.2.2.2.2.2.1, (World.cell?_of_block (a := ⟨w.heap.size, 9, none⟩) (g.block _ (by show w.heap.size < _; omega) (fun e => by have := hT _ e; simp only at this; omega))).trans h.2.2.2.2.2.2.2.2.2.1, (World.cell?_of_block (a := ⟨w.heap.size, 10, none⟩) (g.block _ (by show w.heap.size < _; omega) (fun e => by have := hT _ e; simp only at this; omega))).trans h.2.2.2.2.2.2.2.2.2.2.1, (World.cell?_of_block (a := a0) (g.block _ (by omega) (fun e => by have := hT _ e; omega))).trans h.2.2.2.2.2.2.2.2.2.2.2.1, (World.cell?_of_block (a := a1) (g.block _ (by omega) (fun e => by have := hT _ e; omega))).trans h.2.2.2.2.2.2.2.2.2.2.2.2.1, (World.cell?_of_block (a := a2) (g.block _ (by omega) (fun e => by have := hT _ e; omega))).trans h.2.2.2.2.2.2.2.2.2.2.2.2.2.1, by omega, hb.trans (g.below (fun q e => by have := hT q e; omega) hb.size)⟩

theorem k14_set {w X : World} {v0 v1 v2 v3 v4 v5 v6 v7 v8 v9 v10 v11 v12 v13 : Value} {a0 a1 a2 : Addr} (l0 : a0.block < w.heap.size) (l1 : a1.block < w.heap.size) (l2 : a2.block < w.heap.size) (h : X.cell? ⟨w.heap.size, 0, none⟩ = some v0 ∧ X.cell? ⟨w.heap.size, 1, none⟩ = some v1 ∧ X.cell? ⟨w.heap.size, 2, none⟩ = some v2 ∧ X.cell? ⟨w.heap.size, 3, none⟩ = some v3 ∧ X.cell? ⟨w.heap.size, 4, none⟩ = some v4 ∧ X.cell? ⟨w.heap.size, 5, none⟩ = some v5 ∧ X.cell? ⟨w.heap.size, 6, none⟩ = some v6 ∧ X.cell? ⟨w.heap.size, 7, none⟩ = some v7 ∧ X.cell? ⟨w.heap.size, 8, none⟩ = some v8 ∧ X.cell? ⟨w.heap.size, 9, none⟩ = some v9 ∧ X.cell? ⟨w.heap.size, 10, none⟩ = some v10 ∧ X.cell? a0 = some v11 ∧ X.cell? a1 = some v12 ∧ X.cell? a2 = some v13 ∧ w.heap.size + 1 < X.heap.size ∧ Below w.heap.size w X) (o : Nat) (y : Value) : (X.setCell ⟨w.heap.size + 1, o, none⟩ y).cell? ⟨w.heap.size, 0, none⟩ = some v0 ∧ (X.setCell ⟨w.heap.size + 1, o, none⟩ y).cell? ⟨w.heap.size, 1, none⟩ = some v1 ∧ (X.setCell ⟨w.heap.size + 1, o, none⟩ y).cell? ⟨w.heap.size, 2, none⟩ = some v2 ∧ (X.setCell ⟨w.heap.size + 1, o, none⟩ y).cell? ⟨w.heap.size, 3, none⟩ = some v3 ∧ (X.setCell ⟨w.heap.size + 1, o, none⟩ y).cell? ⟨w.heap.size, 4, none⟩ = some v4 ∧ (X.setCell ⟨w.heap.size + 1, o, none⟩ y).cell? ⟨w.heap.size, 5, none⟩ = some v5 ∧ (X.setCell ⟨w.heap.size + 1, o, none⟩ y).cell? ⟨w.heap.size, 6, none⟩ = some v6 ∧ (X.setCell ⟨w.heap.size + 1, o, none⟩ y).cell? ⟨w.heap.size, 7, none⟩ = some v7 ∧ (X.setCell ⟨w.heap.size + 1, o, none⟩ y).cell? ⟨w.heap.size, 8, none⟩ = some v8 ∧ (X.setCell ⟨w.heap.size + 1, o, none⟩ y).cell? ⟨w.heap.size, 9, none⟩ = some v9 ∧ (X.setCell ⟨w.heap.size + 1, o, none⟩ y).cell? ⟨w.heap.size, 10, none⟩ = some v10 ∧ (X.setCell ⟨w.heap.size + 1, o, none⟩ y).cell? a0 = some v11 ∧ (X.setCell ⟨w.heap.size + 1, o, none⟩ y).cell? a1 = some v12 ∧ (X.setCell ⟨w.heap.size + 1, o, none⟩ y).cell? a2 = some v13 ∧ w.heap.size + 1 < (X.setCell ⟨w.heap.size + 1, o, none⟩ y).heap.size ∧ Below w.heap.size w (X.setCell ⟨w.heap.size + 1, o, none⟩ y) := by
  have hl := k14_lt h
  exact ⟨(World.cell?_setCell_other _ _ _ _ (fun e => by injection e with e1 _; omega)).trans h.1, (World.cell?_setCell_other _ _ _ _ (fun e => by injection e with e1 _; omega)).trans h.2.1, (World.cell?_setCell_other _ _ _ _ (fun e => by injection e with e1 _; omega)).trans h.2.2.1, (World.cell?_setCell_other _ _ _ _ (fun e => by injection e with e1 _; omega)).trans h.2.2.2.1, (World.cell?_setCell_other _ _ _ _ (fun e => by injection e with e1 _; omega)).trans h.2.2.2.2.1, (World.cell?_setCell_other _ _ _ _ (fun e => by injection e with e1 _; omega)).trans h.2.2.2.2.2.1, (World.cell?_setCell_other _ _ _ _ (fun e => by injection e with e1 _; omega)).trans h.2.2.2.2.2.2.1, (World.cell?_setCell_other _ _ _ _ (fun e => by injection e with e1 _; omega)).trans h.2.2.2.2.2.2.2.1, (World.cell?_setCell_other _ _ _ _ (fun e => by injection e with e1 _; omega)).trans h.2.2.2.2.2.2.2.2.1, (World.cell?_setCell_other _ _ _ _ (fun e => by injection e with e1 _; omega)).trans h.2.2.2.2.2.2.2.2.2.1, (World.cell?_setCell_other _ _ _ _ (fun e => by injection e with e1 _; omega)).trans h.2.2.2.2.2.2.2.2.2.2.1, (World.cell?_setCell_other _ _ _ _ (fun e => by rw [← e] at l0; simp only at l0; omega)).trans h.2.2.2.2.2.2.2.2.2.2.2.1, (World.cell?_setCell_other _ _ _ _ (fun e => by rw [← e] at l1; simp only at l1; omega)).trans h.2.2.2.2.2.2.2.2.2.2.2.2.1, (World.cell?_setCell_other _ _ _ _ (fun e => by rw [← e] at l2; simp only at l2; omega)).trans h.2.2.2.2.2.2.2.2.2.2.2.2.2.1, by simpa using hl, (k14_bel h).setCell (by simp) y⟩

set_option maxRecDepth 100000 in
set_option maxHeartbeats 8000000 in
theorem callGate_calls (A : SA) (D : SD) (k b o rc : Nat) (zs : List Int) (w : World) (hr : RS w A D) (H : SysR A D k) (hz : szY A D ≤ 1048576) (lb : b < w.heap.size) (hc : ∀ i, i < 8 → w.cell? ⟨b, o + i, none⟩ = some (.int .i64 (gt zs i))) :
    Calls Tryz.prog 200 #[.agg #[.slice A.a A.n A.c, .slice A.ta A.tn A.tc, .slice A.da A.dn A.dc, .slice A.wa A.wn A.wc, .slice A.xa A.xn A.xc, .int .i64 D.ac, .int .i64 D.cz, .slice A.la A.ln A.lc, .int .i64 D.dv, .slice A.oa A.on A.oc, .slice A.ga A.gn A.gc], .slice (some ⟨b, o, none⟩) 8 rc] w fun e w' => ∃ B : SA, e = .returned (.agg #[.int .i64 0, .int .i64 0, .slice B.a B.n B.c, .slice B.ta B.tn B.tc, .slice B.da B.dn B.dc, .slice B.wa B.wn B.wc, .slice B.xa B.xn B.xc, .int .i64 (gtD D (gt zs 1) (gt zs 2)).ac, .int .i64 (gtD D (gt zs 1) (gt zs 2)).cz, .slice B.la B.ln B.lc, .int .i64 (gtD D (gt zs 1) (gt zs 2)).dv, .slice B.oa B.on B.oc, .slice B.ga B.gn B.gc]) ∧ OY (InR w.heap.size w'.heap.size) B (gtD D (gt zs 1) (gt zs 2)) w' ∧ Below w.heap.size w w' := by
  have M0 := ((Mm.start w).allocC [.slice A.a A.n A.c, .slice A.ta A.tn A.tc, .slice A.da A.dn A.dc, .slice A.wa A.wn A.wc, .slice A.xa A.xn A.xc, .int .i64 D.ac, .int .i64 D.cz, .slice A.la A.ln A.lc, .int .i64 D.dv, .slice A.oa A.on A.oc, .slice A.ga A.gn A.gc] 53).allocC [.int .i64 0, .int .i64 0, .slice none 0 0, .slice none 0 0, .slice none 0 0, .slice none 0 0, .slice none 0 0, .int .i64 0, .int .i64 0, .slice none 0 0, .int .i64 0, .slice none 0 0, .slice none 0 0] 64
  simp only [World.size_alloc] at M0
  obtain ⟨W, hW⟩ : ∃ x, x = (w.alloc (.cells #[.slice A.a A.n A.c, .slice A.ta A.tn A.tc, .slice A.da A.dn A.dc, .slice A.wa A.wn A.wc, .slice A.xa A.xn A.xc, .int .i64 D.ac, .int .i64 D.cz, .slice A.la A.ln A.lc, .int .i64 D.dv, .slice A.oa A.on A.oc, .slice A.ga A.gn A.gc] 53)).alloc (.cells #[.int .i64 0, .int .i64 0, .slice none 0 0, .slice none 0 0, .slice none 0 0, .slice none 0 0, .slice none 0 0, .int .i64 0, .int .i64 0, .slice none 0 0, .int .i64 0, .slice none 0 0, .slice none 0 0] 64) := ⟨_, rfl⟩
  have hWz : W.heap.size = w.heap.size + 2 := by rw [hW]; simp
  rw [← hW] at M0
  have a0 := (M0.get 1 rfl).cell 0 rfl
  have a1 := (M0.get 1 rfl).cell 1 rfl
  have a2 := (M0.get 1 rfl).cell 2 rfl
  have a3 := (M0.get 1 rfl).cell 3 rfl
  have a4 := (M0.get 1 rfl).cell 4 rfl
  have a5 := (M0.get 1 rfl).cell 5 rfl
  have a6 := (M0.get 1 rfl).cell 6 rfl
  have a7 := (M0.get 1 rfl).cell 7 rfl
  have a8 := (M0.get 1 rfl).cell 8 rfl
  have a9 := (M0.get 1 rfl).cell 9 rfl
  have a10 := (M0.get 1 rfl).cell 10 rfl
  have b1 := (M0.bel.cell (p := ⟨b, o + 1, none⟩) lb).trans (hc 1 (by omega))
  have b2 := (M0.bel.cell (p := ⟨b, o + 2, none⟩) lb).trans (hc 2 (by omega))
  have HS0 : Hid (W.drew.cell? ⟨w.heap.size, 0, none⟩ = some (.slice A.a A.n A.c) ∧ W.drew.cell? ⟨w.heap.size, 1, none⟩ = some (.slice A.ta A.tn A.tc) ∧ W.drew.cell? ⟨w.heap.size, 2, none⟩ = some (.slice A.da A.dn A.dc) ∧ W.drew.cell? ⟨w.heap.size, 3, none⟩ = some (.slice A.wa A.wn A.wc) ∧ W.drew.cell? ⟨w.heap.size, 4, none⟩ = some (.slice A.xa A.xn A.xc) ∧ W.drew.cell? ⟨w.heap.size, 5, none⟩ = some (.int .i64 D.ac) ∧ W.drew.cell? ⟨w.heap.size, 6, none⟩ = some (.int .i64 D.cz) ∧ W.drew.cell? ⟨w.heap.size, 7, none⟩ = some (.slice A.la A.ln A.lc) ∧ W.drew.cell? ⟨w.heap.size, 8, none⟩ = some (.int .i64 D.dv) ∧ W.drew.cell? ⟨w.heap.size, 9, none⟩ = some (.slice A.oa A.on A.oc) ∧ W.drew.cell? ⟨w.heap.size, 10, none⟩ = some (.slice A.ga A.gn A.gc) ∧ W.drew.cell? ⟨b, o + 1, none⟩ = some (.int .i64 (gt zs 1)) ∧ W.drew.cell? ⟨b, o + 2, none⟩ = some (.int .i64 (gt zs 2)) ∧ w.heap.size + 1 < W.drew.heap.size ∧ Below w.heap.size w W.drew) := ⟨a0, a1, a2, a3, a4, a5, a6, a7, a8, a9, a10, b1, b2, by show w.heap.size + 1 < W.heap.size; omega, M0.bel.drew⟩
  have HKr := hide (M0.get 0 rfl)
  have HR := hide hr
  have HH := hide H
  have HW := hide hW
  clear M0 hW hr H hc a0 a1 a2 a3 a4 a5 a6 a7 a8 a9 a10 b1 b2
  go_enter Tryz.func200, Tryz.ntmps200
  go_wp2_with fail
  rw [← HW.out]
  clear HW
  go_region_held2 (fun X => X.cell? ⟨w.heap.size, 0, none⟩ = some (.slice A.a A.n A.c) ∧ X.cell? ⟨w.heap.size, 1, none⟩ = some (.slice A.ta A.tn A.tc) ∧ X.cell? ⟨w.heap.size, 2, none⟩ = some (.slice A.da A.dn A.dc) ∧ X.cell? ⟨w.heap.size, 3, none⟩ = some (.slice A.wa A.wn A.wc) ∧ X.cell? ⟨w.heap.size, 4, none⟩ = some (.slice A.xa A.xn A.xc) ∧ X.cell? ⟨w.heap.size, 5, none⟩ = some (.int .i64 D.ac) ∧ X.cell? ⟨w.heap.size, 6, none⟩ = some (.int .i64 D.cz) ∧ X.cell? ⟨w.heap.size, 7, none⟩ = some (.slice A.la A.ln A.lc) ∧ X.cell? ⟨w.heap.size, 8, none⟩ = some (.int .i64 D.dv) ∧ X.cell? ⟨w.heap.size, 9, none⟩ = some (.slice A.oa A.on A.oc) ∧ X.cell? ⟨w.heap.size, 10, none⟩ = some (.slice A.ga A.gn A.gc) ∧ X.cell? ⟨b, o + 1, none⟩ = some (.int .i64 (gt zs 1)) ∧ X.cell? ⟨b, o + 2, none⟩ = some (.int .i64 (gt zs 2)) ∧ w.heap.size + 1 < X.heap.size ∧ Below w.heap.size w X)
    (first | with_reducible exact HS0.out | (repeat (first | with_reducible assumption | with_reducible refine k13_set lb lb ?_ _ _)))
    (first
      | (go_at_call 65; refine (serveGate_calls A D k (gt zs 1) (gt zs 2) _ (HR.out.below (k13_bel (by with_reducible assumption)) (Nat.le_refl _)) (HH.out.move HR.out (HR.out.below (k13_bel (by with_reducible assumption)) (Nat.le_refl _))) hz).mono ?_; rintro e w3 ⟨B, rfl, oy, g3⟩; have h3 := k13_below lb lb (by with_reducible assumption) g3; have z3 := g3.size; (try simp only [World.size_drew] at z3 oy); have HK3 := hide (Cs.loc.below ((Below.refl W.heap.size W).drew.trans g3) HKr.out); have HO4 := hide oy; have d0 := HK3.out.cell 0 rfl; have f0 := HK3.out.fz 0 (by simp); have d1 := HK3.out.cell 1 rfl; have f1 := HK3.out.fz 1 (by simp); have d2 := HK3.out.cell 2 rfl; have f2 := HK3.out.fz 2 (by simp); have d3 := HK3.out.cell 3 rfl; have f3 := HK3.out.fz 3 (by simp); have d4 := HK3.out.cell 4 rfl; have f4 := HK3.out.fz 4 (by simp); have d5 := HK3.out.cell 5 rfl; have f5 := HK3.out.fz 5 (by simp); have d6 := HK3.out.cell 6 rfl; have f6 := HK3.out.fz 6 (by simp); have d7 := HK3.out.cell 7 rfl; have f7 := HK3.out.fz 7 (by simp); have d8 := HK3.out.cell 8 rfl; have f8 := HK3.out.fz 8 (by simp); have d9 := HK3.out.cell 9 rfl; have f9 := HK3.out.fz 9 (by simp); have d10 := HK3.out.cell 10 rfl; have f10 := HK3.out.fz 10 (by simp); have d11 := HK3.out.cell 11 rfl; have f11 := HK3.out.fz 11 (by simp); have d12 := HK3.out.cell 12 rfl; have f12 := HK3.out.fz 12 (by simp); clear g3 oy))
  all_goals (
    have HB := hide (below_set13 (k13_bel h3) (P := w.heap.size + 1) (by omega) (.int .i64 0) (.int .i64 (0)) (.slice B.a B.n B.c) (.slice B.ta B.tn B.tc) (.slice B.da B.dn B.dc) (.slice B.wa B.wn B.wc) (.slice B.xa B.xn B.xc) (.int .i64 (gtD D (gt zs 1) (gt zs 2)).ac) (.int .i64 (gtD D (gt zs 1) (gt zs 2)).cz) (.slice B.la B.ln B.lc) (.int .i64 (gtD D (gt zs 1) (gt zs 2)).dv) (.slice B.oa B.on B.oc) (.slice B.ga B.gn B.gc))
    have HO := hide (loc_set13 OY.loc HO4.out (P := w.heap.size + 1) (fun h => by have := h.1; omega) (.int .i64 0) (.int .i64 (0)) (.slice B.a B.n B.c) (.slice B.ta B.tn B.tc) (.slice B.da B.dn B.dc) (.slice B.wa B.wn B.wc) (.slice B.xa B.xn B.xc) (.int .i64 (gtD D (gt zs 1) (gt zs 2)).ac) (.int .i64 (gtD D (gt zs 1) (gt zs 2)).cz) (.slice B.la B.ln B.lc) (.int .i64 (gtD D (gt zs 1) (gt zs 2)).dv) (.slice B.oa B.on B.oc) (.slice B.ga B.gn B.gc))
    clear HS0
    go_wp2
    have r0 := set13_at0 _ _ (.int .i64 0) (.int .i64 (0)) (.slice B.a B.n B.c) (.slice B.ta B.tn B.tc) (.slice B.da B.dn B.dc) (.slice B.wa B.wn B.wc) (.slice B.xa B.xn B.xc) (.int .i64 (gtD D (gt zs 1) (gt zs 2)).ac) (.int .i64 (gtD D (gt zs 1) (gt zs 2)).cz) (.slice B.la B.ln B.lc) (.int .i64 (gtD D (gt zs 1) (gt zs 2)).dv) (.slice B.oa B.on B.oc) (.slice B.ga B.gn B.gc) ⟨_, d0⟩
    have r1 := set13_at1 _ _ (.int .i64 0) (.int .i64 (0)) (.slice B.a B.n B.c) (.slice B.ta B.tn B.tc) (.slice B.da B.dn B.dc) (.slice B.wa B.wn B.wc) (.slice B.xa B.xn B.xc) (.int .i64 (gtD D (gt zs 1) (gt zs 2)).ac) (.int .i64 (gtD D (gt zs 1) (gt zs 2)).cz) (.slice B.la B.ln B.lc) (.int .i64 (gtD D (gt zs 1) (gt zs 2)).dv) (.slice B.oa B.on B.oc) (.slice B.ga B.gn B.gc) ⟨_, d1⟩
    have r2 := set13_at2 _ _ (.int .i64 0) (.int .i64 (0)) (.slice B.a B.n B.c) (.slice B.ta B.tn B.tc) (.slice B.da B.dn B.dc) (.slice B.wa B.wn B.wc) (.slice B.xa B.xn B.xc) (.int .i64 (gtD D (gt zs 1) (gt zs 2)).ac) (.int .i64 (gtD D (gt zs 1) (gt zs 2)).cz) (.slice B.la B.ln B.lc) (.int .i64 (gtD D (gt zs 1) (gt zs 2)).dv) (.slice B.oa B.on B.oc) (.slice B.ga B.gn B.gc) ⟨_, d2⟩
    have r3 := set13_at3 _ _ (.int .i64 0) (.int .i64 (0)) (.slice B.a B.n B.c) (.slice B.ta B.tn B.tc) (.slice B.da B.dn B.dc) (.slice B.wa B.wn B.wc) (.slice B.xa B.xn B.xc) (.int .i64 (gtD D (gt zs 1) (gt zs 2)).ac) (.int .i64 (gtD D (gt zs 1) (gt zs 2)).cz) (.slice B.la B.ln B.lc) (.int .i64 (gtD D (gt zs 1) (gt zs 2)).dv) (.slice B.oa B.on B.oc) (.slice B.ga B.gn B.gc) ⟨_, d3⟩
    have r4 := set13_at4 _ _ (.int .i64 0) (.int .i64 (0)) (.slice B.a B.n B.c) (.slice B.ta B.tn B.tc) (.slice B.da B.dn B.dc) (.slice B.wa B.wn B.wc) (.slice B.xa B.xn B.xc) (.int .i64 (gtD D (gt zs 1) (gt zs 2)).ac) (.int .i64 (gtD D (gt zs 1) (gt zs 2)).cz) (.slice B.la B.ln B.lc) (.int .i64 (gtD D (gt zs 1) (gt zs 2)).dv) (.slice B.oa B.on B.oc) (.slice B.ga B.gn B.gc) ⟨_, d4⟩
    have r5 := set13_at5 _ _ (.int .i64 0) (.int .i64 (0)) (.slice B.a B.n B.c) (.slice B.ta B.tn B.tc) (.slice B.da B.dn B.dc) (.slice B.wa B.wn B.wc) (.slice B.xa B.xn B.xc) (.int .i64 (gtD D (gt zs 1) (gt zs 2)).ac) (.int .i64 (gtD D (gt zs 1) (gt zs 2)).cz) (.slice B.la B.ln B.lc) (.int .i64 (gtD D (gt zs 1) (gt zs 2)).dv) (.slice B.oa B.on B.oc) (.slice B.ga B.gn B.gc) ⟨_, d5⟩
    have r6 := set13_at6 _ _ (.int .i64 0) (.int .i64 (0)) (.slice B.a B.n B.c) (.slice B.ta B.tn B.tc) (.slice B.da B.dn B.dc) (.slice B.wa B.wn B.wc) (.slice B.xa B.xn B.xc) (.int .i64 (gtD D (gt zs 1) (gt zs 2)).ac) (.int .i64 (gtD D (gt zs 1) (gt zs 2)).cz) (.slice B.la B.ln B.lc) (.int .i64 (gtD D (gt zs 1) (gt zs 2)).dv) (.slice B.oa B.on B.oc) (.slice B.ga B.gn B.gc) ⟨_, d6⟩
    have r7 := set13_at7 _ _ (.int .i64 0) (.int .i64 (0)) (.slice B.a B.n B.c) (.slice B.ta B.tn B.tc) (.slice B.da B.dn B.dc) (.slice B.wa B.wn B.wc) (.slice B.xa B.xn B.xc) (.int .i64 (gtD D (gt zs 1) (gt zs 2)).ac) (.int .i64 (gtD D (gt zs 1) (gt zs 2)).cz) (.slice B.la B.ln B.lc) (.int .i64 (gtD D (gt zs 1) (gt zs 2)).dv) (.slice B.oa B.on B.oc) (.slice B.ga B.gn B.gc) ⟨_, d7⟩
    have r8 := set13_at8 _ _ (.int .i64 0) (.int .i64 (0)) (.slice B.a B.n B.c) (.slice B.ta B.tn B.tc) (.slice B.da B.dn B.dc) (.slice B.wa B.wn B.wc) (.slice B.xa B.xn B.xc) (.int .i64 (gtD D (gt zs 1) (gt zs 2)).ac) (.int .i64 (gtD D (gt zs 1) (gt zs 2)).cz) (.slice B.la B.ln B.lc) (.int .i64 (gtD D (gt zs 1) (gt zs 2)).dv) (.slice B.oa B.on B.oc) (.slice B.ga B.gn B.gc) ⟨_, d8⟩
    have r9 := set13_at9 _ _ (.int .i64 0) (.int .i64 (0)) (.slice B.a B.n B.c) (.slice B.ta B.tn B.tc) (.slice B.da B.dn B.dc) (.slice B.wa B.wn B.wc) (.slice B.xa B.xn B.xc) (.int .i64 (gtD D (gt zs 1) (gt zs 2)).ac) (.int .i64 (gtD D (gt zs 1) (gt zs 2)).cz) (.slice B.la B.ln B.lc) (.int .i64 (gtD D (gt zs 1) (gt zs 2)).dv) (.slice B.oa B.on B.oc) (.slice B.ga B.gn B.gc) ⟨_, d9⟩
    have r10 := set13_at10 _ _ (.int .i64 0) (.int .i64 (0)) (.slice B.a B.n B.c) (.slice B.ta B.tn B.tc) (.slice B.da B.dn B.dc) (.slice B.wa B.wn B.wc) (.slice B.xa B.xn B.xc) (.int .i64 (gtD D (gt zs 1) (gt zs 2)).ac) (.int .i64 (gtD D (gt zs 1) (gt zs 2)).cz) (.slice B.la B.ln B.lc) (.int .i64 (gtD D (gt zs 1) (gt zs 2)).dv) (.slice B.oa B.on B.oc) (.slice B.ga B.gn B.gc) ⟨_, d10⟩
    have r11 := set13_at11 _ _ (.int .i64 0) (.int .i64 (0)) (.slice B.a B.n B.c) (.slice B.ta B.tn B.tc) (.slice B.da B.dn B.dc) (.slice B.wa B.wn B.wc) (.slice B.xa B.xn B.xc) (.int .i64 (gtD D (gt zs 1) (gt zs 2)).ac) (.int .i64 (gtD D (gt zs 1) (gt zs 2)).cz) (.slice B.la B.ln B.lc) (.int .i64 (gtD D (gt zs 1) (gt zs 2)).dv) (.slice B.oa B.on B.oc) (.slice B.ga B.gn B.gc) ⟨_, d11⟩
    have r12 := set13_at12 _ _ (.int .i64 0) (.int .i64 (0)) (.slice B.a B.n B.c) (.slice B.ta B.tn B.tc) (.slice B.da B.dn B.dc) (.slice B.wa B.wn B.wc) (.slice B.xa B.xn B.xc) (.int .i64 (gtD D (gt zs 1) (gt zs 2)).ac) (.int .i64 (gtD D (gt zs 1) (gt zs 2)).cz) (.slice B.la B.ln B.lc) (.int .i64 (gtD D (gt zs 1) (gt zs 2)).dv) (.slice B.oa B.on B.oc) (.slice B.ga B.gn B.gc) ⟨_, d12⟩
    exact bodyPost_ret (v := .agg #[.int .i64 0, .int .i64 (0), .slice B.a B.n B.c, .slice B.ta B.tn B.tc, .slice B.da B.dn B.dc, .slice B.wa B.wn B.wc, .slice B.xa B.xn B.xc, .int .i64 (gtD D (gt zs 1) (gt zs 2)).ac, .int .i64 (gtD D (gt zs 1) (gt zs 2)).cz, .slice B.la B.ln B.lc, .int .i64 (gtD D (gt zs 1) (gt zs 2)).dv, .slice B.oa B.on B.oc, .slice B.ga B.gn B.gc]) (by simp [results, Tryz.results200, go_sem, r0, r1, r2, r3, r4, r5, r6, r7, r8, r9, r10, r11, r12]) rfl ⟨B, rfl, HO.out.mono (fun q hq => ⟨by have := hq.1; omega, by simpa using Nat.lt_of_lt_of_le hq.2 (by exact Nat.le_refl _)⟩), HB.out⟩)

set_option maxRecDepth 100000 in
set_option maxHeartbeats 8000000 in
theorem callTaint_calls (A : SA) (D : SD) (k b o rc : Nat) (zs : List Int) (w : World) (hr : RS w A D) (H : SysR A D k) (hz : szY A D ≤ 1048576) (lb : b < w.heap.size) (hc : ∀ i, i < 8 → w.cell? ⟨b, o + i, none⟩ = some (.int .i64 (gt zs i))) :
    Calls Tryz.prog 198 #[.agg #[.slice A.a A.n A.c, .slice A.ta A.tn A.tc, .slice A.da A.dn A.dc, .slice A.wa A.wn A.wc, .slice A.xa A.xn A.xc, .int .i64 D.ac, .int .i64 D.cz, .slice A.la A.ln A.lc, .int .i64 D.dv, .slice A.oa A.on A.oc, .slice A.ga A.gn A.gc], .slice (some ⟨b, o, none⟩) 8 rc] w fun e w' => ∃ B : SA, e = .returned (.agg #[.int .i64 0, .int .i64 (tnS D (gt zs 1)), .slice B.a B.n B.c, .slice B.ta B.tn B.tc, .slice B.da B.dn B.dc, .slice B.wa B.wn B.wc, .slice B.xa B.xn B.xc, .int .i64 (hdX (tnD D (gt zs 1)) (tnS D (gt zs 1))).ac, .int .i64 (hdX (tnD D (gt zs 1)) (tnS D (gt zs 1))).cz, .slice B.la B.ln B.lc, .int .i64 (hdX (tnD D (gt zs 1)) (tnS D (gt zs 1))).dv, .slice B.oa B.on B.oc, .slice B.ga B.gn B.gc]) ∧ OY (InR w.heap.size w'.heap.size) B (hdX (tnD D (gt zs 1)) (tnS D (gt zs 1))) w' ∧ Below w.heap.size w w' := by
  have M0 := ((Mm.start w).allocC [.slice A.a A.n A.c, .slice A.ta A.tn A.tc, .slice A.da A.dn A.dc, .slice A.wa A.wn A.wc, .slice A.xa A.xn A.xc, .int .i64 D.ac, .int .i64 D.cz, .slice A.la A.ln A.lc, .int .i64 D.dv, .slice A.oa A.on A.oc, .slice A.ga A.gn A.gc] 53).allocC [.int .i64 0, .int .i64 0, .slice none 0 0, .slice none 0 0, .slice none 0 0, .slice none 0 0, .slice none 0 0, .int .i64 0, .int .i64 0, .slice none 0 0, .int .i64 0, .slice none 0 0, .slice none 0 0] 64
  simp only [World.size_alloc] at M0
  obtain ⟨W, hW⟩ : ∃ x, x = (w.alloc (.cells #[.slice A.a A.n A.c, .slice A.ta A.tn A.tc, .slice A.da A.dn A.dc, .slice A.wa A.wn A.wc, .slice A.xa A.xn A.xc, .int .i64 D.ac, .int .i64 D.cz, .slice A.la A.ln A.lc, .int .i64 D.dv, .slice A.oa A.on A.oc, .slice A.ga A.gn A.gc] 53)).alloc (.cells #[.int .i64 0, .int .i64 0, .slice none 0 0, .slice none 0 0, .slice none 0 0, .slice none 0 0, .slice none 0 0, .int .i64 0, .int .i64 0, .slice none 0 0, .int .i64 0, .slice none 0 0, .slice none 0 0] 64) := ⟨_, rfl⟩
  have hWz : W.heap.size = w.heap.size + 2 := by rw [hW]; simp
  rw [← hW] at M0
  have a0 := (M0.get 1 rfl).cell 0 rfl
  have a1 := (M0.get 1 rfl).cell 1 rfl
  have a2 := (M0.get 1 rfl).cell 2 rfl
  have a3 := (M0.get 1 rfl).cell 3 rfl
  have a4 := (M0.get 1 rfl).cell 4 rfl
  have a5 := (M0.get 1 rfl).cell 5 rfl
  have a6 := (M0.get 1 rfl).cell 6 rfl
  have a7 := (M0.get 1 rfl).cell 7 rfl
  have a8 := (M0.get 1 rfl).cell 8 rfl
  have a9 := (M0.get 1 rfl).cell 9 rfl
  have a10 := (M0.get 1 rfl).cell 10 rfl
  have b1 := (M0.bel.cell (p := ⟨b, o + 1, none⟩) lb).trans (hc 1 (by omega))
  have HS0 : Hid (W.drew.cell? ⟨w.heap.size, 0, none⟩ = some (.slice A.a A.n A.c) ∧ W.drew.cell? ⟨w.heap.size, 1, none⟩ = some (.slice A.ta A.tn A.tc) ∧ W.drew.cell? ⟨w.heap.size, 2, none⟩ = some (.slice A.da A.dn A.dc) ∧ W.drew.cell? ⟨w.heap.size, 3, none⟩ = some (.slice A.wa A.wn A.wc) ∧ W.drew.cell? ⟨w.heap.size, 4, none⟩ = some (.slice A.xa A.xn A.xc) ∧ W.drew.cell? ⟨w.heap.size, 5, none⟩ = some (.int .i64 D.ac) ∧ W.drew.cell? ⟨w.heap.size, 6, none⟩ = some (.int .i64 D.cz) ∧ W.drew.cell? ⟨w.heap.size, 7, none⟩ = some (.slice A.la A.ln A.lc) ∧ W.drew.cell? ⟨w.heap.size, 8, none⟩ = some (.int .i64 D.dv) ∧ W.drew.cell? ⟨w.heap.size, 9, none⟩ = some (.slice A.oa A.on A.oc) ∧ W.drew.cell? ⟨w.heap.size, 10, none⟩ = some (.slice A.ga A.gn A.gc) ∧ W.drew.cell? ⟨b, o + 1, none⟩ = some (.int .i64 (gt zs 1)) ∧ w.heap.size + 1 < W.drew.heap.size ∧ Below w.heap.size w W.drew) := ⟨a0, a1, a2, a3, a4, a5, a6, a7, a8, a9, a10, b1, by show w.heap.size + 1 < W.heap.size; omega, M0.bel.drew⟩
  have HKr := hide (M0.get 0 rfl)
  have HR := hide hr
  have HH := hide H
  have HAC : Hid ((tnD D (gt zs 1)).ac = (k : Int)) := by show _ = _; rw [(tnD_cs D (gt zs 1)).2]; exact H.ac
  have HL8 : Hid ((gx (tnD D (gt zs 1)).cs k).1.length = 8) := by show _ = _; rw [(tnD_cs D (gt zs 1)).1]; exact (H.cx k H.hk).1
  have HXN : Hid (∀ (B : SA) {w3 : World} {T : Nat → Prop}, OY T B (tnD D (gt zs 1)) w3 → k < B.xn) := fun B _ _ h => by have h1 := h.rs.len.2.2.2.2.1; have h2 := HR.out.len.2.2.2.2.1; have h3 := HH.out.hk; have h4 := HH.out.xd; rw [(tnD_cs D (gt zs 1)).1] at h1; omega
  have HW := hide hW
  clear M0 hW hr H hc a0 a1 a2 a3 a4 a5 a6 a7 a8 a9 a10 b1
  go_enter Tryz.func198, Tryz.ntmps198
  go_wp2_with fail
  rw [← HW.out]
  clear HW
  go_region_held2 (fun X => X.cell? ⟨w.heap.size, 0, none⟩ = some (.slice A.a A.n A.c) ∧ X.cell? ⟨w.heap.size, 1, none⟩ = some (.slice A.ta A.tn A.tc) ∧ X.cell? ⟨w.heap.size, 2, none⟩ = some (.slice A.da A.dn A.dc) ∧ X.cell? ⟨w.heap.size, 3, none⟩ = some (.slice A.wa A.wn A.wc) ∧ X.cell? ⟨w.heap.size, 4, none⟩ = some (.slice A.xa A.xn A.xc) ∧ X.cell? ⟨w.heap.size, 5, none⟩ = some (.int .i64 D.ac) ∧ X.cell? ⟨w.heap.size, 6, none⟩ = some (.int .i64 D.cz) ∧ X.cell? ⟨w.heap.size, 7, none⟩ = some (.slice A.la A.ln A.lc) ∧ X.cell? ⟨w.heap.size, 8, none⟩ = some (.int .i64 D.dv) ∧ X.cell? ⟨w.heap.size, 9, none⟩ = some (.slice A.oa A.on A.oc) ∧ X.cell? ⟨w.heap.size, 10, none⟩ = some (.slice A.ga A.gn A.gc) ∧ X.cell? ⟨b, o + 1, none⟩ = some (.int .i64 (gt zs 1)) ∧ w.heap.size + 1 < X.heap.size ∧ Below w.heap.size w X)
    (first | with_reducible exact HS0.out | (repeat (first | with_reducible assumption | with_reducible refine k12_set lb ?_ _ _)))
    (first
      | (go_at_call 61; refine (serveTaint_calls A D k (gt zs 1) _ (HR.out.below (k12_bel (by with_reducible assumption)) (Nat.le_refl _)) (HH.out.move HR.out (HR.out.below (k12_bel (by with_reducible assumption)) (Nat.le_refl _))) hz).mono ?_; rintro e w3 ⟨B, rfl, oy, g3⟩; have h3 := k12_below lb (by with_reducible assumption) g3; have z3 := g3.size; (try simp only [World.size_drew] at z3 oy); have HK3 := hide (Cs.loc.below ((Below.refl W.heap.size W).drew.trans g3) HKr.out); have HOY := hide oy; clear g3 oy)
      | (go_at_call 232; refine (heard_calls (InR W.heap.size w3.heap.size) B (tnD D (gt zs 1)) k 0 (tnS D (gt zs 1)) _ HOY.out (fun q hq => hq.2) (HAC.out) (HXN.out B HOY.out) HL8.out).mono ?_; rintro e w4 ⟨rfl, oy4, u4⟩; have h4 := k12_out lb (by with_reducible assumption) u4 (fun q hq => by have := hq.1; omega); have z4 := u4.size; have K4 := Cs.loc.out u4 (fun q hq hq2 => by have := hq.2; have := hq2.1; omega) HK3.out; have HO4 := hide oy4; have d0 := K4.cell 0 rfl; have f0 := K4.fz 0 (by simp); have d1 := K4.cell 1 rfl; have f1 := K4.fz 1 (by simp); have d2 := K4.cell 2 rfl; have f2 := K4.fz 2 (by simp); have d3 := K4.cell 3 rfl; have f3 := K4.fz 3 (by simp); have d4 := K4.cell 4 rfl; have f4 := K4.fz 4 (by simp); have d5 := K4.cell 5 rfl; have f5 := K4.fz 5 (by simp); have d6 := K4.cell 6 rfl; have f6 := K4.fz 6 (by simp); have d7 := K4.cell 7 rfl; have f7 := K4.fz 7 (by simp); have d8 := K4.cell 8 rfl; have f8 := K4.fz 8 (by simp); have d9 := K4.cell 9 rfl; have f9 := K4.fz 9 (by simp); have d10 := K4.cell 10 rfl; have f10 := K4.fz 10 (by simp); have d11 := K4.cell 11 rfl; have f11 := K4.fz 11 (by simp); have d12 := K4.cell 12 rfl; have f12 := K4.fz 12 (by simp); clear u4 oy4 K4))
  all_goals (
    have HB := hide (below_set13 (k12_bel h4) (P := w.heap.size + 1) (by omega) (.int .i64 0) (.int .i64 (tnS D (gt zs 1))) (.slice B.a B.n B.c) (.slice B.ta B.tn B.tc) (.slice B.da B.dn B.dc) (.slice B.wa B.wn B.wc) (.slice B.xa B.xn B.xc) (.int .i64 (tnD D (gt zs 1)).ac) (.int .i64 (tnD D (gt zs 1)).cz) (.slice B.la B.ln B.lc) (.int .i64 (tnD D (gt zs 1)).dv) (.slice B.oa B.on B.oc) (.slice B.ga B.gn B.gc))
    have HO := hide (loc_set13 OY.loc HO4.out (P := w.heap.size + 1) (fun h => by have := h.1; omega) (.int .i64 0) (.int .i64 (tnS D (gt zs 1))) (.slice B.a B.n B.c) (.slice B.ta B.tn B.tc) (.slice B.da B.dn B.dc) (.slice B.wa B.wn B.wc) (.slice B.xa B.xn B.xc) (.int .i64 (tnD D (gt zs 1)).ac) (.int .i64 (tnD D (gt zs 1)).cz) (.slice B.la B.ln B.lc) (.int .i64 (tnD D (gt zs 1)).dv) (.slice B.oa B.on B.oc) (.slice B.ga B.gn B.gc))
    clear HS0
    go_wp2
    have r0 := set13_at0 _ _ (.int .i64 0) (.int .i64 (tnS D (gt zs 1))) (.slice B.a B.n B.c) (.slice B.ta B.tn B.tc) (.slice B.da B.dn B.dc) (.slice B.wa B.wn B.wc) (.slice B.xa B.xn B.xc) (.int .i64 (tnD D (gt zs 1)).ac) (.int .i64 (tnD D (gt zs 1)).cz) (.slice B.la B.ln B.lc) (.int .i64 (tnD D (gt zs 1)).dv) (.slice B.oa B.on B.oc) (.slice B.ga B.gn B.gc) ⟨_, d0⟩
    have r1 := set13_at1 _ _ (.int .i64 0) (.int .i64 (tnS D (gt zs 1))) (.slice B.a B.n B.c) (.slice B.ta B.tn B.tc) (.slice B.da B.dn B.dc) (.slice B.wa B.wn B.wc) (.slice B.xa B.xn B.xc) (.int .i64 (tnD D (gt zs 1)).ac) (.int .i64 (tnD D (gt zs 1)).cz) (.slice B.la B.ln B.lc) (.int .i64 (tnD D (gt zs 1)).dv) (.slice B.oa B.on B.oc) (.slice B.ga B.gn B.gc) ⟨_, d1⟩
    have r2 := set13_at2 _ _ (.int .i64 0) (.int .i64 (tnS D (gt zs 1))) (.slice B.a B.n B.c) (.slice B.ta B.tn B.tc) (.slice B.da B.dn B.dc) (.slice B.wa B.wn B.wc) (.slice B.xa B.xn B.xc) (.int .i64 (tnD D (gt zs 1)).ac) (.int .i64 (tnD D (gt zs 1)).cz) (.slice B.la B.ln B.lc) (.int .i64 (tnD D (gt zs 1)).dv) (.slice B.oa B.on B.oc) (.slice B.ga B.gn B.gc) ⟨_, d2⟩
    have r3 := set13_at3 _ _ (.int .i64 0) (.int .i64 (tnS D (gt zs 1))) (.slice B.a B.n B.c) (.slice B.ta B.tn B.tc) (.slice B.da B.dn B.dc) (.slice B.wa B.wn B.wc) (.slice B.xa B.xn B.xc) (.int .i64 (tnD D (gt zs 1)).ac) (.int .i64 (tnD D (gt zs 1)).cz) (.slice B.la B.ln B.lc) (.int .i64 (tnD D (gt zs 1)).dv) (.slice B.oa B.on B.oc) (.slice B.ga B.gn B.gc) ⟨_, d3⟩
    have r4 := set13_at4 _ _ (.int .i64 0) (.int .i64 (tnS D (gt zs 1))) (.slice B.a B.n B.c) (.slice B.ta B.tn B.tc) (.slice B.da B.dn B.dc) (.slice B.wa B.wn B.wc) (.slice B.xa B.xn B.xc) (.int .i64 (tnD D (gt zs 1)).ac) (.int .i64 (tnD D (gt zs 1)).cz) (.slice B.la B.ln B.lc) (.int .i64 (tnD D (gt zs 1)).dv) (.slice B.oa B.on B.oc) (.slice B.ga B.gn B.gc) ⟨_, d4⟩
    have r5 := set13_at5 _ _ (.int .i64 0) (.int .i64 (tnS D (gt zs 1))) (.slice B.a B.n B.c) (.slice B.ta B.tn B.tc) (.slice B.da B.dn B.dc) (.slice B.wa B.wn B.wc) (.slice B.xa B.xn B.xc) (.int .i64 (tnD D (gt zs 1)).ac) (.int .i64 (tnD D (gt zs 1)).cz) (.slice B.la B.ln B.lc) (.int .i64 (tnD D (gt zs 1)).dv) (.slice B.oa B.on B.oc) (.slice B.ga B.gn B.gc) ⟨_, d5⟩
    have r6 := set13_at6 _ _ (.int .i64 0) (.int .i64 (tnS D (gt zs 1))) (.slice B.a B.n B.c) (.slice B.ta B.tn B.tc) (.slice B.da B.dn B.dc) (.slice B.wa B.wn B.wc) (.slice B.xa B.xn B.xc) (.int .i64 (tnD D (gt zs 1)).ac) (.int .i64 (tnD D (gt zs 1)).cz) (.slice B.la B.ln B.lc) (.int .i64 (tnD D (gt zs 1)).dv) (.slice B.oa B.on B.oc) (.slice B.ga B.gn B.gc) ⟨_, d6⟩
    have r7 := set13_at7 _ _ (.int .i64 0) (.int .i64 (tnS D (gt zs 1))) (.slice B.a B.n B.c) (.slice B.ta B.tn B.tc) (.slice B.da B.dn B.dc) (.slice B.wa B.wn B.wc) (.slice B.xa B.xn B.xc) (.int .i64 (tnD D (gt zs 1)).ac) (.int .i64 (tnD D (gt zs 1)).cz) (.slice B.la B.ln B.lc) (.int .i64 (tnD D (gt zs 1)).dv) (.slice B.oa B.on B.oc) (.slice B.ga B.gn B.gc) ⟨_, d7⟩
    have r8 := set13_at8 _ _ (.int .i64 0) (.int .i64 (tnS D (gt zs 1))) (.slice B.a B.n B.c) (.slice B.ta B.tn B.tc) (.slice B.da B.dn B.dc) (.slice B.wa B.wn B.wc) (.slice B.xa B.xn B.xc) (.int .i64 (tnD D (gt zs 1)).ac) (.int .i64 (tnD D (gt zs 1)).cz) (.slice B.la B.ln B.lc) (.int .i64 (tnD D (gt zs 1)).dv) (.slice B.oa B.on B.oc) (.slice B.ga B.gn B.gc) ⟨_, d8⟩
    have r9 := set13_at9 _ _ (.int .i64 0) (.int .i64 (tnS D (gt zs 1))) (.slice B.a B.n B.c) (.slice B.ta B.tn B.tc) (.slice B.da B.dn B.dc) (.slice B.wa B.wn B.wc) (.slice B.xa B.xn B.xc) (.int .i64 (tnD D (gt zs 1)).ac) (.int .i64 (tnD D (gt zs 1)).cz) (.slice B.la B.ln B.lc) (.int .i64 (tnD D (gt zs 1)).dv) (.slice B.oa B.on B.oc) (.slice B.ga B.gn B.gc) ⟨_, d9⟩
    have r10 := set13_at10 _ _ (.int .i64 0) (.int .i64 (tnS D (gt zs 1))) (.slice B.a B.n B.c) (.slice B.ta B.tn B.tc) (.slice B.da B.dn B.dc) (.slice B.wa B.wn B.wc) (.slice B.xa B.xn B.xc) (.int .i64 (tnD D (gt zs 1)).ac) (.int .i64 (tnD D (gt zs 1)).cz) (.slice B.la B.ln B.lc) (.int .i64 (tnD D (gt zs 1)).dv) (.slice B.oa B.on B.oc) (.slice B.ga B.gn B.gc) ⟨_, d10⟩
    have r11 := set13_at11 _ _ (.int .i64 0) (.int .i64 (tnS D (gt zs 1))) (.slice B.a B.n B.c) (.slice B.ta B.tn B.tc) (.slice B.da B.dn B.dc) (.slice B.wa B.wn B.wc) (.slice B.xa B.xn B.xc) (.int .i64 (tnD D (gt zs 1)).ac) (.int .i64 (tnD D (gt zs 1)).cz) (.slice B.la B.ln B.lc) (.int .i64 (tnD D (gt zs 1)).dv) (.slice B.oa B.on B.oc) (.slice B.ga B.gn B.gc) ⟨_, d11⟩
    have r12 := set13_at12 _ _ (.int .i64 0) (.int .i64 (tnS D (gt zs 1))) (.slice B.a B.n B.c) (.slice B.ta B.tn B.tc) (.slice B.da B.dn B.dc) (.slice B.wa B.wn B.wc) (.slice B.xa B.xn B.xc) (.int .i64 (tnD D (gt zs 1)).ac) (.int .i64 (tnD D (gt zs 1)).cz) (.slice B.la B.ln B.lc) (.int .i64 (tnD D (gt zs 1)).dv) (.slice B.oa B.on B.oc) (.slice B.ga B.gn B.gc) ⟨_, d12⟩
    exact bodyPost_ret (v := .agg #[.int .i64 0, .int .i64 (tnS D (gt zs 1)), .slice B.a B.n B.c, .slice B.ta B.tn B.tc, .slice B.da B.dn B.dc, .slice B.wa B.wn B.wc, .slice B.xa B.xn B.xc, .int .i64 (tnD D (gt zs 1)).ac, .int .i64 (tnD D (gt zs 1)).cz, .slice B.la B.ln B.lc, .int .i64 (tnD D (gt zs 1)).dv, .slice B.oa B.on B.oc, .slice B.ga B.gn B.gc]) (by simp [results, Tryz.results198, go_sem, r0, r1, r2, r3, r4, r5, r6, r7, r8, r9, r10, r11, r12]) rfl ⟨B, rfl, HO.out.mono (fun q hq => ⟨by have := hq.1; omega, by simpa using Nat.lt_of_lt_of_le hq.2 (by omega)⟩), HB.out⟩)

set_option maxRecDepth 100000 in
set_option maxHeartbeats 8000000 in
theorem callRetag_calls (A : SA) (D : SD) (k b o rc : Nat) (zs : List Int) (w : World) (hr : RS w A D) (H : SysR A D k) (hz : szY A D ≤ 1048576) (lb : b < w.heap.size) (hc : ∀ i, i < 8 → w.cell? ⟨b, o + i, none⟩ = some (.int .i64 (gt zs i))) :
    Calls Tryz.prog 199 #[.agg #[.slice A.a A.n A.c, .slice A.ta A.tn A.tc, .slice A.da A.dn A.dc, .slice A.wa A.wn A.wc, .slice A.xa A.xn A.xc, .int .i64 D.ac, .int .i64 D.cz, .slice A.la A.ln A.lc, .int .i64 D.dv, .slice A.oa A.on A.oc, .slice A.ga A.gn A.gc], .slice (some ⟨b, o, none⟩) 8 rc] w fun e w' => ∃ B : SA, e = .returned (.agg #[.int .i64 0, .int .i64 (rtS D (gt zs 1) (gt zs 2) (gt zs 3)), .slice B.a B.n B.c, .slice B.ta B.tn B.tc, .slice B.da B.dn B.dc, .slice B.wa B.wn B.wc, .slice B.xa B.xn B.xc, .int .i64 (hdX (rtD D (gt zs 1) (gt zs 2) (gt zs 3)) (rtS D (gt zs 1) (gt zs 2) (gt zs 3))).ac, .int .i64 (hdX (rtD D (gt zs 1) (gt zs 2) (gt zs 3)) (rtS D (gt zs 1) (gt zs 2) (gt zs 3))).cz, .slice B.la B.ln B.lc, .int .i64 (hdX (rtD D (gt zs 1) (gt zs 2) (gt zs 3)) (rtS D (gt zs 1) (gt zs 2) (gt zs 3))).dv, .slice B.oa B.on B.oc, .slice B.ga B.gn B.gc]) ∧ OY (InR w.heap.size w'.heap.size) B (hdX (rtD D (gt zs 1) (gt zs 2) (gt zs 3)) (rtS D (gt zs 1) (gt zs 2) (gt zs 3))) w' ∧ Below w.heap.size w w' := by
  have M0 := ((Mm.start w).allocC [.slice A.a A.n A.c, .slice A.ta A.tn A.tc, .slice A.da A.dn A.dc, .slice A.wa A.wn A.wc, .slice A.xa A.xn A.xc, .int .i64 D.ac, .int .i64 D.cz, .slice A.la A.ln A.lc, .int .i64 D.dv, .slice A.oa A.on A.oc, .slice A.ga A.gn A.gc] 53).allocC [.int .i64 0, .int .i64 0, .slice none 0 0, .slice none 0 0, .slice none 0 0, .slice none 0 0, .slice none 0 0, .int .i64 0, .int .i64 0, .slice none 0 0, .int .i64 0, .slice none 0 0, .slice none 0 0] 64
  simp only [World.size_alloc] at M0
  obtain ⟨W, hW⟩ : ∃ x, x = (w.alloc (.cells #[.slice A.a A.n A.c, .slice A.ta A.tn A.tc, .slice A.da A.dn A.dc, .slice A.wa A.wn A.wc, .slice A.xa A.xn A.xc, .int .i64 D.ac, .int .i64 D.cz, .slice A.la A.ln A.lc, .int .i64 D.dv, .slice A.oa A.on A.oc, .slice A.ga A.gn A.gc] 53)).alloc (.cells #[.int .i64 0, .int .i64 0, .slice none 0 0, .slice none 0 0, .slice none 0 0, .slice none 0 0, .slice none 0 0, .int .i64 0, .int .i64 0, .slice none 0 0, .int .i64 0, .slice none 0 0, .slice none 0 0] 64) := ⟨_, rfl⟩
  have hWz : W.heap.size = w.heap.size + 2 := by rw [hW]; simp
  rw [← hW] at M0
  have a0 := (M0.get 1 rfl).cell 0 rfl
  have a1 := (M0.get 1 rfl).cell 1 rfl
  have a2 := (M0.get 1 rfl).cell 2 rfl
  have a3 := (M0.get 1 rfl).cell 3 rfl
  have a4 := (M0.get 1 rfl).cell 4 rfl
  have a5 := (M0.get 1 rfl).cell 5 rfl
  have a6 := (M0.get 1 rfl).cell 6 rfl
  have a7 := (M0.get 1 rfl).cell 7 rfl
  have a8 := (M0.get 1 rfl).cell 8 rfl
  have a9 := (M0.get 1 rfl).cell 9 rfl
  have a10 := (M0.get 1 rfl).cell 10 rfl
  have b1 := (M0.bel.cell (p := ⟨b, o + 1, none⟩) lb).trans (hc 1 (by omega))
  have b2 := (M0.bel.cell (p := ⟨b, o + 2, none⟩) lb).trans (hc 2 (by omega))
  have b3 := (M0.bel.cell (p := ⟨b, o + 3, none⟩) lb).trans (hc 3 (by omega))
  have HS0 : Hid (W.drew.cell? ⟨w.heap.size, 0, none⟩ = some (.slice A.a A.n A.c) ∧ W.drew.cell? ⟨w.heap.size, 1, none⟩ = some (.slice A.ta A.tn A.tc) ∧ W.drew.cell? ⟨w.heap.size, 2, none⟩ = some (.slice A.da A.dn A.dc) ∧ W.drew.cell? ⟨w.heap.size, 3, none⟩ = some (.slice A.wa A.wn A.wc) ∧ W.drew.cell? ⟨w.heap.size, 4, none⟩ = some (.slice A.xa A.xn A.xc) ∧ W.drew.cell? ⟨w.heap.size, 5, none⟩ = some (.int .i64 D.ac) ∧ W.drew.cell? ⟨w.heap.size, 6, none⟩ = some (.int .i64 D.cz) ∧ W.drew.cell? ⟨w.heap.size, 7, none⟩ = some (.slice A.la A.ln A.lc) ∧ W.drew.cell? ⟨w.heap.size, 8, none⟩ = some (.int .i64 D.dv) ∧ W.drew.cell? ⟨w.heap.size, 9, none⟩ = some (.slice A.oa A.on A.oc) ∧ W.drew.cell? ⟨w.heap.size, 10, none⟩ = some (.slice A.ga A.gn A.gc) ∧ W.drew.cell? ⟨b, o + 1, none⟩ = some (.int .i64 (gt zs 1)) ∧ W.drew.cell? ⟨b, o + 2, none⟩ = some (.int .i64 (gt zs 2)) ∧ W.drew.cell? ⟨b, o + 3, none⟩ = some (.int .i64 (gt zs 3)) ∧ w.heap.size + 1 < W.drew.heap.size ∧ Below w.heap.size w W.drew) := ⟨a0, a1, a2, a3, a4, a5, a6, a7, a8, a9, a10, b1, b2, b3, by show w.heap.size + 1 < W.heap.size; omega, M0.bel.drew⟩
  have HKr := hide (M0.get 0 rfl)
  have HR := hide hr
  have HH := hide H
  have HAC : Hid ((rtD D (gt zs 1) (gt zs 2) (gt zs 3)).ac = (k : Int)) := by show _ = _; rw [(rtD_cs D (gt zs 1) (gt zs 2) (gt zs 3)).2]; exact H.ac
  have HL8 : Hid ((gx (rtD D (gt zs 1) (gt zs 2) (gt zs 3)).cs k).1.length = 8) := by show _ = _; rw [(rtD_cs D (gt zs 1) (gt zs 2) (gt zs 3)).1]; exact (H.cx k H.hk).1
  have HXN : Hid (∀ (B : SA) {w3 : World} {T : Nat → Prop}, OY T B (rtD D (gt zs 1) (gt zs 2) (gt zs 3)) w3 → k < B.xn) := fun B _ _ h => by have h1 := h.rs.len.2.2.2.2.1; have h2 := HR.out.len.2.2.2.2.1; have h3 := HH.out.hk; have h4 := HH.out.xd; rw [(rtD_cs D (gt zs 1) (gt zs 2) (gt zs 3)).1] at h1; omega
  have HW := hide hW
  clear M0 hW hr H hc a0 a1 a2 a3 a4 a5 a6 a7 a8 a9 a10 b1 b2 b3
  go_enter Tryz.func199, Tryz.ntmps199
  go_wp2_with fail
  rw [← HW.out]
  clear HW
  go_region_held2 (fun X => X.cell? ⟨w.heap.size, 0, none⟩ = some (.slice A.a A.n A.c) ∧ X.cell? ⟨w.heap.size, 1, none⟩ = some (.slice A.ta A.tn A.tc) ∧ X.cell? ⟨w.heap.size, 2, none⟩ = some (.slice A.da A.dn A.dc) ∧ X.cell? ⟨w.heap.size, 3, none⟩ = some (.slice A.wa A.wn A.wc) ∧ X.cell? ⟨w.heap.size, 4, none⟩ = some (.slice A.xa A.xn A.xc) ∧ X.cell? ⟨w.heap.size, 5, none⟩ = some (.int .i64 D.ac) ∧ X.cell? ⟨w.heap.size, 6, none⟩ = some (.int .i64 D.cz) ∧ X.cell? ⟨w.heap.size, 7, none⟩ = some (.slice A.la A.ln A.lc) ∧ X.cell? ⟨w.heap.size, 8, none⟩ = some (.int .i64 D.dv) ∧ X.cell? ⟨w.heap.size, 9, none⟩ = some (.slice A.oa A.on A.oc) ∧ X.cell? ⟨w.heap.size, 10, none⟩ = some (.slice A.ga A.gn A.gc) ∧ X.cell? ⟨b, o + 1, none⟩ = some (.int .i64 (gt zs 1)) ∧ X.cell? ⟨b, o + 2, none⟩ = some (.int .i64 (gt zs 2)) ∧ X.cell? ⟨b, o + 3, none⟩ = some (.int .i64 (gt zs 3)) ∧ w.heap.size + 1 < X.heap.size ∧ Below w.heap.size w X)
    (first | with_reducible exact HS0.out | (repeat (first | with_reducible assumption | with_reducible refine k14_set lb lb lb ?_ _ _)))
    (first
      | (go_at_call 63; refine (serveRetag_calls A D k (gt zs 1) (gt zs 2) (gt zs 3) _ (HR.out.below (k14_bel (by with_reducible assumption)) (Nat.le_refl _)) (HH.out.move HR.out (HR.out.below (k14_bel (by with_reducible assumption)) (Nat.le_refl _))) hz).mono ?_; rintro e w3 ⟨B, rfl, oy, g3⟩; have h3 := k14_below lb lb lb (by with_reducible assumption) g3; have z3 := g3.size; (try simp only [World.size_drew] at z3 oy); have HK3 := hide (Cs.loc.below ((Below.refl W.heap.size W).drew.trans g3) HKr.out); have HOY := hide oy; clear g3 oy)
      | (go_at_call 232; refine (heard_calls (InR W.heap.size w3.heap.size) B (rtD D (gt zs 1) (gt zs 2) (gt zs 3)) k 0 (rtS D (gt zs 1) (gt zs 2) (gt zs 3)) _ HOY.out (fun q hq => hq.2) (HAC.out) (HXN.out B HOY.out) HL8.out).mono ?_; rintro e w4 ⟨rfl, oy4, u4⟩; have h4 := k14_out lb lb lb (by with_reducible assumption) u4 (fun q hq => by have := hq.1; omega); have z4 := u4.size; have K4 := Cs.loc.out u4 (fun q hq hq2 => by have := hq.2; have := hq2.1; omega) HK3.out; have HO4 := hide oy4; have d0 := K4.cell 0 rfl; have f0 := K4.fz 0 (by simp); have d1 := K4.cell 1 rfl; have f1 := K4.fz 1 (by simp); have d2 := K4.cell 2 rfl; have f2 := K4.fz 2 (by simp); have d3 := K4.cell 3 rfl; have f3 := K4.fz 3 (by simp); have d4 := K4.cell 4 rfl; have f4 := K4.fz 4 (by simp); have d5 := K4.cell 5 rfl; have f5 := K4.fz 5 (by simp); have d6 := K4.cell 6 rfl; have f6 := K4.fz 6 (by simp); have d7 := K4.cell 7 rfl; have f7 := K4.fz 7 (by simp); have d8 := K4.cell 8 rfl; have f8 := K4.fz 8 (by simp); have d9 := K4.cell 9 rfl; have f9 := K4.fz 9 (by simp); have d10 := K4.cell 10 rfl; have f10 := K4.fz 10 (by simp); have d11 := K4.cell 11 rfl; have f11 := K4.fz 11 (by simp); have d12 := K4.cell 12 rfl; have f12 := K4.fz 12 (by simp); clear u4 oy4 K4))
  all_goals (
    have HB := hide (below_set13 (k14_bel h4) (P := w.heap.size + 1) (by omega) (.int .i64 0) (.int .i64 (rtS D (gt zs 1) (gt zs 2) (gt zs 3))) (.slice B.a B.n B.c) (.slice B.ta B.tn B.tc) (.slice B.da B.dn B.dc) (.slice B.wa B.wn B.wc) (.slice B.xa B.xn B.xc) (.int .i64 (rtD D (gt zs 1) (gt zs 2) (gt zs 3)).ac) (.int .i64 (rtD D (gt zs 1) (gt zs 2) (gt zs 3)).cz) (.slice B.la B.ln B.lc) (.int .i64 (rtD D (gt zs 1) (gt zs 2) (gt zs 3)).dv) (.slice B.oa B.on B.oc) (.slice B.ga B.gn B.gc))
    have HO := hide (loc_set13 OY.loc HO4.out (P := w.heap.size + 1) (fun h => by have := h.1; omega) (.int .i64 0) (.int .i64 (rtS D (gt zs 1) (gt zs 2) (gt zs 3))) (.slice B.a B.n B.c) (.slice B.ta B.tn B.tc) (.slice B.da B.dn B.dc) (.slice B.wa B.wn B.wc) (.slice B.xa B.xn B.xc) (.int .i64 (rtD D (gt zs 1) (gt zs 2) (gt zs 3)).ac) (.int .i64 (rtD D (gt zs 1) (gt zs 2) (gt zs 3)).cz) (.slice B.la B.ln B.lc) (.int .i64 (rtD D (gt zs 1) (gt zs 2) (gt zs 3)).dv) (.slice B.oa B.on B.oc) (.slice B.ga B.gn B.gc))
    clear HS0
    go_wp2
    have r0 := set13_at0 _ _ (.int .i64 0) (.int .i64 (rtS D (gt zs 1) (gt zs 2) (gt zs 3))) (.slice B.a B.n B.c) (.slice B.ta B.tn B.tc) (.slice B.da B.dn B.dc) (.slice B.wa B.wn B.wc) (.slice B.xa B.xn B.xc) (.int .i64 (rtD D (gt zs 1) (gt zs 2) (gt zs 3)).ac) (.int .i64 (rtD D (gt zs 1) (gt zs 2) (gt zs 3)).cz) (.slice B.la B.ln B.lc) (.int .i64 (rtD D (gt zs 1) (gt zs 2) (gt zs 3)).dv) (.slice B.oa B.on B.oc) (.slice B.ga B.gn B.gc) ⟨_, d0⟩
    have r1 := set13_at1 _ _ (.int .i64 0) (.int .i64 (rtS D (gt zs 1) (gt zs 2) (gt zs 3))) (.slice B.a B.n B.c) (.slice B.ta B.tn B.tc) (.slice B.da B.dn B.dc) (.slice B.wa B.wn B.wc) (.slice B.xa B.xn B.xc) (.int .i64 (rtD D (gt zs 1) (gt zs 2) (gt zs 3)).ac) (.int .i64 (rtD D (gt zs 1) (gt zs 2) (gt zs 3)).cz) (.slice B.la B.ln B.lc) (.int .i64 (rtD D (gt zs 1) (gt zs 2) (gt zs 3)).dv) (.slice B.oa B.on B.oc) (.slice B.ga B.gn B.gc) ⟨_, d1⟩
    have r2 := set13_at2 _ _ (.int .i64 0) (.int .i64 (rtS D (gt zs 1) (gt zs 2) (gt zs 3))) (.slice B.a B.n B.c) (.slice B.ta B.tn B.tc) (.slice B.da B.dn B.dc) (.slice B.wa B.wn B.wc) (.slice B.xa B.xn B.xc) (.int .i64 (rtD D (gt zs 1) (gt zs 2) (gt zs 3)).ac) (.int .i64 (rtD D (gt zs 1) (gt zs 2) (gt zs 3)).cz) (.slice B.la B.ln B.lc) (.int .i64 (rtD D (gt zs 1) (gt zs 2) (gt zs 3)).dv) (.slice B.oa B.on B.oc) (.slice B.ga B.gn B.gc) ⟨_, d2⟩
    have r3 := set13_at3 _ _ (.int .i64 0) (.int .i64 (rtS D (gt zs 1) (gt zs 2) (gt zs 3))) (.slice B.a B.n B.c) (.slice B.ta B.tn B.tc) (.slice B.da B.dn B.dc) (.slice B.wa B.wn B.wc) (.slice B.xa B.xn B.xc) (.int .i64 (rtD D (gt zs 1) (gt zs 2) (gt zs 3)).ac) (.int .i64 (rtD D (gt zs 1) (gt zs 2) (gt zs 3)).cz) (.slice B.la B.ln B.lc) (.int .i64 (rtD D (gt zs 1) (gt zs 2) (gt zs 3)).dv) (.slice B.oa B.on B.oc) (.slice B.ga B.gn B.gc) ⟨_, d3⟩
    have r4 := set13_at4 _ _ (.int .i64 0) (.int .i64 (rtS D (gt zs 1) (gt zs 2) (gt zs 3))) (.slice B.a B.n B.c) (.slice B.ta B.tn B.tc) (.slice B.da B.dn B.dc) (.slice B.wa B.wn B.wc) (.slice B.xa B.xn B.xc) (.int .i64 (rtD D (gt zs 1) (gt zs 2) (gt zs 3)).ac) (.int .i64 (rtD D (gt zs 1) (gt zs 2) (gt zs 3)).cz) (.slice B.la B.ln B.lc) (.int .i64 (rtD D (gt zs 1) (gt zs 2) (gt zs 3)).dv) (.slice B.oa B.on B.oc) (.slice B.ga B.gn B.gc) ⟨_, d4⟩
    have r5 := set13_at5 _ _ (.int .i64 0) (.int .i64 (rtS D (gt zs 1) (gt zs 2) (gt zs 3))) (.slice B.a B.n B.c) (.slice B.ta B.tn B.tc) (.slice B.da B.dn B.dc) (.slice B.wa B.wn B.wc) (.slice B.xa B.xn B.xc) (.int .i64 (rtD D (gt zs 1) (gt zs 2) (gt zs 3)).ac) (.int .i64 (rtD D (gt zs 1) (gt zs 2) (gt zs 3)).cz) (.slice B.la B.ln B.lc) (.int .i64 (rtD D (gt zs 1) (gt zs 2) (gt zs 3)).dv) (.slice B.oa B.on B.oc) (.slice B.ga B.gn B.gc) ⟨_, d5⟩
    have r6 := set13_at6 _ _ (.int .i64 0) (.int .i64 (rtS D (gt zs 1) (gt zs 2) (gt zs 3))) (.slice B.a B.n B.c) (.slice B.ta B.tn B.tc) (.slice B.da B.dn B.dc) (.slice B.wa B.wn B.wc) (.slice B.xa B.xn B.xc) (.int .i64 (rtD D (gt zs 1) (gt zs 2) (gt zs 3)).ac) (.int .i64 (rtD D (gt zs 1) (gt zs 2) (gt zs 3)).cz) (.slice B.la B.ln B.lc) (.int .i64 (rtD D (gt zs 1) (gt zs 2) (gt zs 3)).dv) (.slice B.oa B.on B.oc) (.slice B.ga B.gn B.gc) ⟨_, d6⟩
    have r7 := set13_at7 _ _ (.int .i64 0) (.int .i64 (rtS D (gt zs 1) (gt zs 2) (gt zs 3))) (.slice B.a B.n B.c) (.slice B.ta B.tn B.tc) (.slice B.da B.dn B.dc) (.slice B.wa B.wn B.wc) (.slice B.xa B.xn B.xc) (.int .i64 (rtD D (gt zs 1) (gt zs 2) (gt zs 3)).ac) (.int .i64 (rtD D (gt zs 1) (gt zs 2) (gt zs 3)).cz) (.slice B.la B.ln B.lc) (.int .i64 (rtD D (gt zs 1) (gt zs 2) (gt zs 3)).dv) (.slice B.oa B.on B.oc) (.slice B.ga B.gn B.gc) ⟨_, d7⟩
    have r8 := set13_at8 _ _ (.int .i64 0) (.int .i64 (rtS D (gt zs 1) (gt zs 2) (gt zs 3))) (.slice B.a B.n B.c) (.slice B.ta B.tn B.tc) (.slice B.da B.dn B.dc) (.slice B.wa B.wn B.wc) (.slice B.xa B.xn B.xc) (.int .i64 (rtD D (gt zs 1) (gt zs 2) (gt zs 3)).ac) (.int .i64 (rtD D (gt zs 1) (gt zs 2) (gt zs 3)).cz) (.slice B.la B.ln B.lc) (.int .i64 (rtD D (gt zs 1) (gt zs 2) (gt zs 3)).dv) (.slice B.oa B.on B.oc) (.slice B.ga B.gn B.gc) ⟨_, d8⟩
    have r9 := set13_at9 _ _ (.int .i64 0) (.int .i64 (rtS D (gt zs 1) (gt zs 2) (gt zs 3))) (.slice B.a B.n B.c) (.slice B.ta B.tn B.tc) (.slice B.da B.dn B.dc) (.slice B.wa B.wn B.wc) (.slice B.xa B.xn B.xc) (.int .i64 (rtD D (gt zs 1) (gt zs 2) (gt zs 3)).ac) (.int .i64 (rtD D (gt zs 1) (gt zs 2) (gt zs 3)).cz) (.slice B.la B.ln B.lc) (.int .i64 (rtD D (gt zs 1) (gt zs 2) (gt zs 3)).dv) (.slice B.oa B.on B.oc) (.slice B.ga B.gn B.gc) ⟨_, d9⟩
    have r10 := set13_at10 _ _ (.int .i64 0) (.int .i64 (rtS D (gt zs 1) (gt zs 2) (gt zs 3))) (.slice B.a B.n B.c) (.slice B.ta B.tn B.tc) (.slice B.da B.dn B.dc) (.slice B.wa B.wn B.wc) (.slice B.xa B.xn B.xc) (.int .i64 (rtD D (gt zs 1) (gt zs 2) (gt zs 3)).ac) (.int .i64 (rtD D (gt zs 1) (gt zs 2) (gt zs 3)).cz) (.slice B.la B.ln B.lc) (.int .i64 (rtD D (gt zs 1) (gt zs 2) (gt zs 3)).dv) (.slice B.oa B.on B.oc) (.slice B.ga B.gn B.gc) ⟨_, d10⟩
    have r11 := set13_at11 _ _ (.int .i64 0) (.int .i64 (rtS D (gt zs 1) (gt zs 2) (gt zs 3))) (.slice B.a B.n B.c) (.slice B.ta B.tn B.tc) (.slice B.da B.dn B.dc) (.slice B.wa B.wn B.wc) (.slice B.xa B.xn B.xc) (.int .i64 (rtD D (gt zs 1) (gt zs 2) (gt zs 3)).ac) (.int .i64 (rtD D (gt zs 1) (gt zs 2) (gt zs 3)).cz) (.slice B.la B.ln B.lc) (.int .i64 (rtD D (gt zs 1) (gt zs 2) (gt zs 3)).dv) (.slice B.oa B.on B.oc) (.slice B.ga B.gn B.gc) ⟨_, d11⟩
    have r12 := set13_at12 _ _ (.int .i64 0) (.int .i64 (rtS D (gt zs 1) (gt zs 2) (gt zs 3))) (.slice B.a B.n B.c) (.slice B.ta B.tn B.tc) (.slice B.da B.dn B.dc) (.slice B.wa B.wn B.wc) (.slice B.xa B.xn B.xc) (.int .i64 (rtD D (gt zs 1) (gt zs 2) (gt zs 3)).ac) (.int .i64 (rtD D (gt zs 1) (gt zs 2) (gt zs 3)).cz) (.slice B.la B.ln B.lc) (.int .i64 (rtD D (gt zs 1) (gt zs 2) (gt zs 3)).dv) (.slice B.oa B.on B.oc) (.slice B.ga B.gn B.gc) ⟨_, d12⟩
    exact bodyPost_ret (v := .agg #[.int .i64 0, .int .i64 (rtS D (gt zs 1) (gt zs 2) (gt zs 3)), .slice B.a B.n B.c, .slice B.ta B.tn B.tc, .slice B.da B.dn B.dc, .slice B.wa B.wn B.wc, .slice B.xa B.xn B.xc, .int .i64 (rtD D (gt zs 1) (gt zs 2) (gt zs 3)).ac, .int .i64 (rtD D (gt zs 1) (gt zs 2) (gt zs 3)).cz, .slice B.la B.ln B.lc, .int .i64 (rtD D (gt zs 1) (gt zs 2) (gt zs 3)).dv, .slice B.oa B.on B.oc, .slice B.ga B.gn B.gc]) (by simp [results, Tryz.results199, go_sem, r0, r1, r2, r3, r4, r5, r6, r7, r8, r9, r10, r11, r12]) rfl ⟨B, rfl, HO.out.mono (fun q hq => ⟨by have := hq.1; omega, by simpa using Nat.lt_of_lt_of_le hq.2 (by omega)⟩), HB.out⟩)

set_option maxRecDepth 100000 in
set_option maxHeartbeats 4000000 in
theorem callYield_calls (A : SA) (D : SD) (k : Nat) (ra : Option Addr) (rc : Nat) (w : World) (hr : RS w A D) (H : SysR A D k) (hz : szY A D ≤ 1048576) :
    Calls Tryz.prog 201 #[.agg #[.slice A.a A.n A.c, .slice A.ta A.tn A.tc, .slice A.da A.dn A.dc, .slice A.wa A.wn A.wc, .slice A.xa A.xn A.xc, .int .i64 D.ac, .int .i64 D.cz, .slice A.la A.ln A.lc, .int .i64 D.dv, .slice A.oa A.on A.oc, .slice A.ga A.gn A.gc], .slice ra 8 rc] w fun e w' => ∃ B : SA, e = .returned (.agg #[.int .i64 0, .int .i64 0, .slice B.a B.n B.c, .slice B.ta B.tn B.tc, .slice B.da B.dn B.dc, .slice B.wa B.wn B.wc, .slice B.xa B.xn B.xc, .int .i64 (D).ac, .int .i64 (D).cz, .slice B.la B.ln B.lc, .int .i64 (D).dv, .slice B.oa B.on B.oc, .slice B.ga B.gn B.gc]) ∧ OY (InR w.heap.size w'.heap.size) B (D) w' ∧ Below w.heap.size w w' := by
  have M0 := ((Mm.start w).allocC [.slice A.a A.n A.c, .slice A.ta A.tn A.tc, .slice A.da A.dn A.dc, .slice A.wa A.wn A.wc, .slice A.xa A.xn A.xc, .int .i64 D.ac, .int .i64 D.cz, .slice A.la A.ln A.lc, .int .i64 D.dv, .slice A.oa A.on A.oc, .slice A.ga A.gn A.gc] 53).allocC [.int .i64 0, .int .i64 0, .slice none 0 0, .slice none 0 0, .slice none 0 0, .slice none 0 0, .slice none 0 0, .int .i64 0, .int .i64 0, .slice none 0 0, .int .i64 0, .slice none 0 0, .slice none 0 0] 64
  simp only [World.size_alloc] at M0
  have HR := hide hr
  have HH := hide H
  clear hr H
  go_enter Tryz.func201, Tryz.ntmps201
  go_wp2_with fail
  refine (copiedSystem_O A D _ hz (HR.out.below M0.bel (Nat.le_refl _))).mono ?_
  rintro e w2 ⟨B, rfl, oy, g2⟩
  have z2 := g2.size
  simp only [World.size_alloc] at z2 oy
  have M1 := M0.below g2
  have M2 := M1.fact OY.loc oy.oy
  clear g2 M0
  have c0_ := (M2.get 1 rfl).cell 0 rfl
  have f0_ := (M2.get 1 rfl).fz 0 (by simp)
  have c1_ := (M2.get 1 rfl).cell 1 rfl
  have f1_ := (M2.get 1 rfl).fz 1 (by simp)
  have c2_ := (M2.get 1 rfl).cell 2 rfl
  have f2_ := (M2.get 1 rfl).fz 2 (by simp)
  have c3_ := (M2.get 1 rfl).cell 3 rfl
  have f3_ := (M2.get 1 rfl).fz 3 (by simp)
  have c4_ := (M2.get 1 rfl).cell 4 rfl
  have f4_ := (M2.get 1 rfl).fz 4 (by simp)
  have c5_ := (M2.get 1 rfl).cell 5 rfl
  have f5_ := (M2.get 1 rfl).fz 5 (by simp)
  have c6_ := (M2.get 1 rfl).cell 6 rfl
  have f6_ := (M2.get 1 rfl).fz 6 (by simp)
  have c7_ := (M2.get 1 rfl).cell 7 rfl
  have f7_ := (M2.get 1 rfl).fz 7 (by simp)
  have c8_ := (M2.get 1 rfl).cell 8 rfl
  have f8_ := (M2.get 1 rfl).fz 8 (by simp)
  have c9_ := (M2.get 1 rfl).cell 9 rfl
  have f9_ := (M2.get 1 rfl).fz 9 (by simp)
  have c10_ := (M2.get 1 rfl).cell 10 rfl
  have f10_ := (M2.get 1 rfl).fz 10 (by simp)
  have c11_ := (M2.get 1 rfl).cell 11 rfl
  have f11_ := (M2.get 1 rfl).fz 11 (by simp)
  have c12_ := (M2.get 1 rfl).cell 12 rfl
  have f12_ := (M2.get 1 rfl).fz 12 (by simp)
  have HB := hide (below_set13 M2.bel (P := w.heap.size + 1) (by omega) (.int .i64 0) (.int .i64 0) (.slice B.a B.n B.c) (.slice B.ta B.tn B.tc) (.slice B.da B.dn B.dc) (.slice B.wa B.wn B.wc) (.slice B.xa B.xn B.xc) (.int .i64 D.ac) (.int .i64 D.cz) (.slice B.la B.ln B.lc) (.int .i64 D.dv) (.slice B.oa B.on B.oc) (.slice B.ga B.gn B.gc))
  have HO := hide (loc_set13 OY.loc (M2.get 0 rfl) (P := w.heap.size + 1) (fun h => by have := h.1; omega) (.int .i64 0) (.int .i64 0) (.slice B.a B.n B.c) (.slice B.ta B.tn B.tc) (.slice B.da B.dn B.dc) (.slice B.wa B.wn B.wc) (.slice B.xa B.xn B.xc) (.int .i64 D.ac) (.int .i64 D.cz) (.slice B.la B.ln B.lc) (.int .i64 D.dv) (.slice B.oa B.on B.oc) (.slice B.ga B.gn B.gc))
  clear M1 M2 oy
  go_wp2
  have r0 := set13_at0 _ _ (.int .i64 0) (.int .i64 0) (.slice B.a B.n B.c) (.slice B.ta B.tn B.tc) (.slice B.da B.dn B.dc) (.slice B.wa B.wn B.wc) (.slice B.xa B.xn B.xc) (.int .i64 D.ac) (.int .i64 D.cz) (.slice B.la B.ln B.lc) (.int .i64 D.dv) (.slice B.oa B.on B.oc) (.slice B.ga B.gn B.gc) ⟨_, c0_⟩
  have r1 := set13_at1 _ _ (.int .i64 0) (.int .i64 0) (.slice B.a B.n B.c) (.slice B.ta B.tn B.tc) (.slice B.da B.dn B.dc) (.slice B.wa B.wn B.wc) (.slice B.xa B.xn B.xc) (.int .i64 D.ac) (.int .i64 D.cz) (.slice B.la B.ln B.lc) (.int .i64 D.dv) (.slice B.oa B.on B.oc) (.slice B.ga B.gn B.gc) ⟨_, c1_⟩
  have r2 := set13_at2 _ _ (.int .i64 0) (.int .i64 0) (.slice B.a B.n B.c) (.slice B.ta B.tn B.tc) (.slice B.da B.dn B.dc) (.slice B.wa B.wn B.wc) (.slice B.xa B.xn B.xc) (.int .i64 D.ac) (.int .i64 D.cz) (.slice B.la B.ln B.lc) (.int .i64 D.dv) (.slice B.oa B.on B.oc) (.slice B.ga B.gn B.gc) ⟨_, c2_⟩
  have r3 := set13_at3 _ _ (.int .i64 0) (.int .i64 0) (.slice B.a B.n B.c) (.slice B.ta B.tn B.tc) (.slice B.da B.dn B.dc) (.slice B.wa B.wn B.wc) (.slice B.xa B.xn B.xc) (.int .i64 D.ac) (.int .i64 D.cz) (.slice B.la B.ln B.lc) (.int .i64 D.dv) (.slice B.oa B.on B.oc) (.slice B.ga B.gn B.gc) ⟨_, c3_⟩
  have r4 := set13_at4 _ _ (.int .i64 0) (.int .i64 0) (.slice B.a B.n B.c) (.slice B.ta B.tn B.tc) (.slice B.da B.dn B.dc) (.slice B.wa B.wn B.wc) (.slice B.xa B.xn B.xc) (.int .i64 D.ac) (.int .i64 D.cz) (.slice B.la B.ln B.lc) (.int .i64 D.dv) (.slice B.oa B.on B.oc) (.slice B.ga B.gn B.gc) ⟨_, c4_⟩
  have r5 := set13_at5 _ _ (.int .i64 0) (.int .i64 0) (.slice B.a B.n B.c) (.slice B.ta B.tn B.tc) (.slice B.da B.dn B.dc) (.slice B.wa B.wn B.wc) (.slice B.xa B.xn B.xc) (.int .i64 D.ac) (.int .i64 D.cz) (.slice B.la B.ln B.lc) (.int .i64 D.dv) (.slice B.oa B.on B.oc) (.slice B.ga B.gn B.gc) ⟨_, c5_⟩
  have r6 := set13_at6 _ _ (.int .i64 0) (.int .i64 0) (.slice B.a B.n B.c) (.slice B.ta B.tn B.tc) (.slice B.da B.dn B.dc) (.slice B.wa B.wn B.wc) (.slice B.xa B.xn B.xc) (.int .i64 D.ac) (.int .i64 D.cz) (.slice B.la B.ln B.lc) (.int .i64 D.dv) (.slice B.oa B.on B.oc) (.slice B.ga B.gn B.gc) ⟨_, c6_⟩
  have r7 := set13_at7 _ _ (.int .i64 0) (.int .i64 0) (.slice B.a B.n B.c) (.slice B.ta B.tn B.tc) (.slice B.da B.dn B.dc) (.slice B.wa B.wn B.wc) (.slice B.xa B.xn B.xc) (.int .i64 D.ac) (.int .i64 D.cz) (.slice B.la B.ln B.lc) (.int .i64 D.dv) (.slice B.oa B.on B.oc) (.slice B.ga B.gn B.gc) ⟨_, c7_⟩
  have r8 := set13_at8 _ _ (.int .i64 0) (.int .i64 0) (.slice B.a B.n B.c) (.slice B.ta B.tn B.tc) (.slice B.da B.dn B.dc) (.slice B.wa B.wn B.wc) (.slice B.xa B.xn B.xc) (.int .i64 D.ac) (.int .i64 D.cz) (.slice B.la B.ln B.lc) (.int .i64 D.dv) (.slice B.oa B.on B.oc) (.slice B.ga B.gn B.gc) ⟨_, c8_⟩
  have r9 := set13_at9 _ _ (.int .i64 0) (.int .i64 0) (.slice B.a B.n B.c) (.slice B.ta B.tn B.tc) (.slice B.da B.dn B.dc) (.slice B.wa B.wn B.wc) (.slice B.xa B.xn B.xc) (.int .i64 D.ac) (.int .i64 D.cz) (.slice B.la B.ln B.lc) (.int .i64 D.dv) (.slice B.oa B.on B.oc) (.slice B.ga B.gn B.gc) ⟨_, c9_⟩
  have r10 := set13_at10 _ _ (.int .i64 0) (.int .i64 0) (.slice B.a B.n B.c) (.slice B.ta B.tn B.tc) (.slice B.da B.dn B.dc) (.slice B.wa B.wn B.wc) (.slice B.xa B.xn B.xc) (.int .i64 D.ac) (.int .i64 D.cz) (.slice B.la B.ln B.lc) (.int .i64 D.dv) (.slice B.oa B.on B.oc) (.slice B.ga B.gn B.gc) ⟨_, c10_⟩
  have r11 := set13_at11 _ _ (.int .i64 0) (.int .i64 0) (.slice B.a B.n B.c) (.slice B.ta B.tn B.tc) (.slice B.da B.dn B.dc) (.slice B.wa B.wn B.wc) (.slice B.xa B.xn B.xc) (.int .i64 D.ac) (.int .i64 D.cz) (.slice B.la B.ln B.lc) (.int .i64 D.dv) (.slice B.oa B.on B.oc) (.slice B.ga B.gn B.gc) ⟨_, c11_⟩
  have r12 := set13_at12 _ _ (.int .i64 0) (.int .i64 0) (.slice B.a B.n B.c) (.slice B.ta B.tn B.tc) (.slice B.da B.dn B.dc) (.slice B.wa B.wn B.wc) (.slice B.xa B.xn B.xc) (.int .i64 D.ac) (.int .i64 D.cz) (.slice B.la B.ln B.lc) (.int .i64 D.dv) (.slice B.oa B.on B.oc) (.slice B.ga B.gn B.gc) ⟨_, c12_⟩
  refine bodyPost_ret (v := .agg #[.int .i64 0, .int .i64 0, .slice B.a B.n B.c, .slice B.ta B.tn B.tc, .slice B.da B.dn B.dc, .slice B.wa B.wn B.wc, .slice B.xa B.xn B.xc, .int .i64 D.ac, .int .i64 D.cz, .slice B.la B.ln B.lc, .int .i64 D.dv, .slice B.oa B.on B.oc, .slice B.ga B.gn B.gc]) (by simp [results, Tryz.results201, go_sem, r0, r1, r2, r3, r4, r5, r6, r7, r8, r9, r10, r11, r12]) rfl ⟨B, rfl, ?_, HB.out⟩
  exact HO.out.mono (fun q hq => ⟨by have := hq.1; omega, by have := hq.2; simp; omega⟩)

set_option maxRecDepth 100000 in
set_option maxHeartbeats 4000000 in
theorem callNothing_calls (A : SA) (D : SD) (k : Nat) (ra : Option Addr) (rc : Nat) (w : World) (hr : RS w A D) (H : SysR A D k) (hz : szY A D ≤ 1048576) :
    Calls Tryz.prog 202 #[.agg #[.slice A.a A.n A.c, .slice A.ta A.tn A.tc, .slice A.da A.dn A.dc, .slice A.wa A.wn A.wc, .slice A.xa A.xn A.xc, .int .i64 D.ac, .int .i64 D.cz, .slice A.la A.ln A.lc, .int .i64 D.dv, .slice A.oa A.on A.oc, .slice A.ga A.gn A.gc], .slice ra 8 rc] w fun e w' => ∃ B : SA, e = .returned (.agg #[.int .i64 0, .int .i64 1, .slice B.a B.n B.c, .slice B.ta B.tn B.tc, .slice B.da B.dn B.dc, .slice B.wa B.wn B.wc, .slice B.xa B.xn B.xc, .int .i64 (hdX D 1).ac, .int .i64 (hdX D 1).cz, .slice B.la B.ln B.lc, .int .i64 (hdX D 1).dv, .slice B.oa B.on B.oc, .slice B.ga B.gn B.gc]) ∧ OY (InR w.heap.size w'.heap.size) B (hdX D 1) w' ∧ Below w.heap.size w w' := by
  have M0 := ((Mm.start w).allocC [.slice A.a A.n A.c, .slice A.ta A.tn A.tc, .slice A.da A.dn A.dc, .slice A.wa A.wn A.wc, .slice A.xa A.xn A.xc, .int .i64 D.ac, .int .i64 D.cz, .slice A.la A.ln A.lc, .int .i64 D.dv, .slice A.oa A.on A.oc, .slice A.ga A.gn A.gc] 53).allocC [.int .i64 0, .int .i64 0, .slice none 0 0, .slice none 0 0, .slice none 0 0, .slice none 0 0, .slice none 0 0, .int .i64 0, .int .i64 0, .slice none 0 0, .int .i64 0, .slice none 0 0, .slice none 0 0] 64
  simp only [World.size_alloc] at M0
  have HR := hide hr
  have HH := hide H
  clear hr H
  go_enter Tryz.func202, Tryz.ntmps202
  go_wp2_with fail
  refine (copiedSystem_O A D _ hz (HR.out.below M0.bel (Nat.le_refl _))).mono ?_
  rintro e w2 ⟨B, rfl, oy, g2⟩
  have z2 := g2.size
  simp only [World.size_alloc] at z2 oy
  have M1 := M0.below g2
  have M2 := M1.fact OY.loc oy.oy
  have hBx : k < B.xn := by have h1 := oy.oy.rs.len.2.2.2.2.1; have h2 := HR.out.len.2.2.2.2.1; have h3 := HH.out.hk; have h4 := HH.out.xd; omega
  have HHd := hide (heard_calls (InR (w.heap.size + 1 + 1) w2.heap.size) B D k 0 1 w2 oy.oy (fun q hq => hq.2) HH.out.ac hBx (HH.out.cx k HH.out.hk).1)
  clear g2 M0
  go_wp2_with fail
  refine HHd.out.mono ?_
  rintro e w4 ⟨rfl, oy4, u4⟩
  have z4 := u4.size
  have M4 := (M1.out (B := w.heap.size + 1 + 1) (T := w2.heap.size) u4 (by omega) (by simp) (by simp <;> omega)).fact OY.loc (B := w.heap.size + 1 + 1) (T := w2.heap.size) oy4
  have c0_ := (M4.get 1 rfl).cell 0 rfl
  have f0_ := (M4.get 1 rfl).fz 0 (by simp)
  have c1_ := (M4.get 1 rfl).cell 1 rfl
  have f1_ := (M4.get 1 rfl).fz 1 (by simp)
  have c2_ := (M4.get 1 rfl).cell 2 rfl
  have f2_ := (M4.get 1 rfl).fz 2 (by simp)
  have c3_ := (M4.get 1 rfl).cell 3 rfl
  have f3_ := (M4.get 1 rfl).fz 3 (by simp)
  have c4_ := (M4.get 1 rfl).cell 4 rfl
  have f4_ := (M4.get 1 rfl).fz 4 (by simp)
  have c5_ := (M4.get 1 rfl).cell 5 rfl
  have f5_ := (M4.get 1 rfl).fz 5 (by simp)
  have c6_ := (M4.get 1 rfl).cell 6 rfl
  have f6_ := (M4.get 1 rfl).fz 6 (by simp)
  have c7_ := (M4.get 1 rfl).cell 7 rfl
  have f7_ := (M4.get 1 rfl).fz 7 (by simp)
  have c8_ := (M4.get 1 rfl).cell 8 rfl
  have f8_ := (M4.get 1 rfl).fz 8 (by simp)
  have c9_ := (M4.get 1 rfl).cell 9 rfl
  have f9_ := (M4.get 1 rfl).fz 9 (by simp)
  have c10_ := (M4.get 1 rfl).cell 10 rfl
  have f10_ := (M4.get 1 rfl).fz 10 (by simp)
  have c11_ := (M4.get 1 rfl).cell 11 rfl
  have f11_ := (M4.get 1 rfl).fz 11 (by simp)
  have c12_ := (M4.get 1 rfl).cell 12 rfl
  have f12_ := (M4.get 1 rfl).fz 12 (by simp)
  have HB := hide (below_set13 M4.bel (P := w.heap.size + 1) (by omega) (.int .i64 0) (.int .i64 1) (.slice B.a B.n B.c) (.slice B.ta B.tn B.tc) (.slice B.da B.dn B.dc) (.slice B.wa B.wn B.wc) (.slice B.xa B.xn B.xc) (.int .i64 D.ac) (.int .i64 D.cz) (.slice B.la B.ln B.lc) (.int .i64 D.dv) (.slice B.oa B.on B.oc) (.slice B.ga B.gn B.gc))
  have HO := hide (loc_set13 OY.loc (M4.get 0 rfl) (P := w.heap.size + 1) (fun h => by have := h.1; omega) (.int .i64 0) (.int .i64 1) (.slice B.a B.n B.c) (.slice B.ta B.tn B.tc) (.slice B.da B.dn B.dc) (.slice B.wa B.wn B.wc) (.slice B.xa B.xn B.xc) (.int .i64 D.ac) (.int .i64 D.cz) (.slice B.la B.ln B.lc) (.int .i64 D.dv) (.slice B.oa B.on B.oc) (.slice B.ga B.gn B.gc))
  clear M1 M2 oy M4 oy4 u4 HHd
  go_wp2
  have r0 := set13_at0 _ _ (.int .i64 0) (.int .i64 1) (.slice B.a B.n B.c) (.slice B.ta B.tn B.tc) (.slice B.da B.dn B.dc) (.slice B.wa B.wn B.wc) (.slice B.xa B.xn B.xc) (.int .i64 D.ac) (.int .i64 D.cz) (.slice B.la B.ln B.lc) (.int .i64 D.dv) (.slice B.oa B.on B.oc) (.slice B.ga B.gn B.gc) ⟨_, c0_⟩
  have r1 := set13_at1 _ _ (.int .i64 0) (.int .i64 1) (.slice B.a B.n B.c) (.slice B.ta B.tn B.tc) (.slice B.da B.dn B.dc) (.slice B.wa B.wn B.wc) (.slice B.xa B.xn B.xc) (.int .i64 D.ac) (.int .i64 D.cz) (.slice B.la B.ln B.lc) (.int .i64 D.dv) (.slice B.oa B.on B.oc) (.slice B.ga B.gn B.gc) ⟨_, c1_⟩
  have r2 := set13_at2 _ _ (.int .i64 0) (.int .i64 1) (.slice B.a B.n B.c) (.slice B.ta B.tn B.tc) (.slice B.da B.dn B.dc) (.slice B.wa B.wn B.wc) (.slice B.xa B.xn B.xc) (.int .i64 D.ac) (.int .i64 D.cz) (.slice B.la B.ln B.lc) (.int .i64 D.dv) (.slice B.oa B.on B.oc) (.slice B.ga B.gn B.gc) ⟨_, c2_⟩
  have r3 := set13_at3 _ _ (.int .i64 0) (.int .i64 1) (.slice B.a B.n B.c) (.slice B.ta B.tn B.tc) (.slice B.da B.dn B.dc) (.slice B.wa B.wn B.wc) (.slice B.xa B.xn B.xc) (.int .i64 D.ac) (.int .i64 D.cz) (.slice B.la B.ln B.lc) (.int .i64 D.dv) (.slice B.oa B.on B.oc) (.slice B.ga B.gn B.gc) ⟨_, c3_⟩
  have r4 := set13_at4 _ _ (.int .i64 0) (.int .i64 1) (.slice B.a B.n B.c) (.slice B.ta B.tn B.tc) (.slice B.da B.dn B.dc) (.slice B.wa B.wn B.wc) (.slice B.xa B.xn B.xc) (.int .i64 D.ac) (.int .i64 D.cz) (.slice B.la B.ln B.lc) (.int .i64 D.dv) (.slice B.oa B.on B.oc) (.slice B.ga B.gn B.gc) ⟨_, c4_⟩
  have r5 := set13_at5 _ _ (.int .i64 0) (.int .i64 1) (.slice B.a B.n B.c) (.slice B.ta B.tn B.tc) (.slice B.da B.dn B.dc) (.slice B.wa B.wn B.wc) (.slice B.xa B.xn B.xc) (.int .i64 D.ac) (.int .i64 D.cz) (.slice B.la B.ln B.lc) (.int .i64 D.dv) (.slice B.oa B.on B.oc) (.slice B.ga B.gn B.gc) ⟨_, c5_⟩
  have r6 := set13_at6 _ _ (.int .i64 0) (.int .i64 1) (.slice B.a B.n B.c) (.slice B.ta B.tn B.tc) (.slice B.da B.dn B.dc) (.slice B.wa B.wn B.wc) (.slice B.xa B.xn B.xc) (.int .i64 D.ac) (.int .i64 D.cz) (.slice B.la B.ln B.lc) (.int .i64 D.dv) (.slice B.oa B.on B.oc) (.slice B.ga B.gn B.gc) ⟨_, c6_⟩
  have r7 := set13_at7 _ _ (.int .i64 0) (.int .i64 1) (.slice B.a B.n B.c) (.slice B.ta B.tn B.tc) (.slice B.da B.dn B.dc) (.slice B.wa B.wn B.wc) (.slice B.xa B.xn B.xc) (.int .i64 D.ac) (.int .i64 D.cz) (.slice B.la B.ln B.lc) (.int .i64 D.dv) (.slice B.oa B.on B.oc) (.slice B.ga B.gn B.gc) ⟨_, c7_⟩
  have r8 := set13_at8 _ _ (.int .i64 0) (.int .i64 1) (.slice B.a B.n B.c) (.slice B.ta B.tn B.tc) (.slice B.da B.dn B.dc) (.slice B.wa B.wn B.wc) (.slice B.xa B.xn B.xc) (.int .i64 D.ac) (.int .i64 D.cz) (.slice B.la B.ln B.lc) (.int .i64 D.dv) (.slice B.oa B.on B.oc) (.slice B.ga B.gn B.gc) ⟨_, c8_⟩
  have r9 := set13_at9 _ _ (.int .i64 0) (.int .i64 1) (.slice B.a B.n B.c) (.slice B.ta B.tn B.tc) (.slice B.da B.dn B.dc) (.slice B.wa B.wn B.wc) (.slice B.xa B.xn B.xc) (.int .i64 D.ac) (.int .i64 D.cz) (.slice B.la B.ln B.lc) (.int .i64 D.dv) (.slice B.oa B.on B.oc) (.slice B.ga B.gn B.gc) ⟨_, c9_⟩
  have r10 := set13_at10 _ _ (.int .i64 0) (.int .i64 1) (.slice B.a B.n B.c) (.slice B.ta B.tn B.tc) (.slice B.da B.dn B.dc) (.slice B.wa B.wn B.wc) (.slice B.xa B.xn B.xc) (.int .i64 D.ac) (.int .i64 D.cz) (.slice B.la B.ln B.lc) (.int .i64 D.dv) (.slice B.oa B.on B.oc) (.slice B.ga B.gn B.gc) ⟨_, c10_⟩
  have r11 := set13_at11 _ _ (.int .i64 0) (.int .i64 1) (.slice B.a B.n B.c) (.slice B.ta B.tn B.tc) (.slice B.da B.dn B.dc) (.slice B.wa B.wn B.wc) (.slice B.xa B.xn B.xc) (.int .i64 D.ac) (.int .i64 D.cz) (.slice B.la B.ln B.lc) (.int .i64 D.dv) (.slice B.oa B.on B.oc) (.slice B.ga B.gn B.gc) ⟨_, c11_⟩
  have r12 := set13_at12 _ _ (.int .i64 0) (.int .i64 1) (.slice B.a B.n B.c) (.slice B.ta B.tn B.tc) (.slice B.da B.dn B.dc) (.slice B.wa B.wn B.wc) (.slice B.xa B.xn B.xc) (.int .i64 D.ac) (.int .i64 D.cz) (.slice B.la B.ln B.lc) (.int .i64 D.dv) (.slice B.oa B.on B.oc) (.slice B.ga B.gn B.gc) ⟨_, c12_⟩
  refine bodyPost_ret (v := .agg #[.int .i64 0, .int .i64 1, .slice B.a B.n B.c, .slice B.ta B.tn B.tc, .slice B.da B.dn B.dc, .slice B.wa B.wn B.wc, .slice B.xa B.xn B.xc, .int .i64 D.ac, .int .i64 D.cz, .slice B.la B.ln B.lc, .int .i64 D.dv, .slice B.oa B.on B.oc, .slice B.ga B.gn B.gc]) (by simp [results, Tryz.results202, go_sem, r0, r1, r2, r3, r4, r5, r6, r7, r8, r9, r10, r11, r12]) rfl ⟨B, rfl, ?_, HB.out⟩
  exact HO.out.mono (fun q hq => ⟨by have := hq.1; omega, by have := hq.2; simp; omega⟩)

end Go.Proofs.YtcojgmecocjnkaaGreat
