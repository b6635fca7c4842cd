import Derived.Test.YtcojgmecocjnkaaGreatG41
import Derived.StillTailTactics
import Derived.WalkKit
import Derived.ProofKit
import Derived.OpenShut
import Derived.ShutString
import Derived.ChangeOld
import Derived.Below
import Derived.WalkSpells
import Derived.Deep.QuietTactic
import Derived.BigQuiet
import Derived.Deep.RegionWith
import Derived.Deep.WholeRow
import Derived.Deep.DeepCutAuto
import Derived.Deep.RegionHeld2
import Derived.Deep.AppendLies
import Derived.Deep.RegionLaw
namespace Go.Proofs.YtcojgmecocjnkaaGreat
open Go.ChangeShapes Go.WideShapes Go.ChangeAt Go.RowKit


set_option maxRecDepth 100000 in
set_option maxHeartbeats 4000000 in
theorem l7Do_add (P o : Nat) (S : Nat → Prop) (A : SA) (D : SD) (I oi k ia ib : Nat) (op im : Int) (w : World) (H : DoH P o S A D I oi k ia ib op im w) (ho : op = 2) :
    Calls Tryz.prog 83 #[.pointer (some ⟨P, o, none⟩), .pointer (some ⟨I, oi, none⟩)] w (DoP P o S ({ D with cs := D.cs.set k ((gx D.cs k).1.set ia (wrp (gt (gx D.cs k).1 ia + gt (gx D.cs k).1 ib)), (gx D.cs k).2.1, (gx D.cs k).2.2) }) (1) (0) w) := by
  subst ho
  have hlt := H.y.lt
  have h8 := H.l8
  have hia := H.hia
  have hib := H.hib
  have hk := H.hk
  obtain ⟨N, b0, lc0, ea, _, _, _, _, _, _, _, _, _, _, _, _, _⟩ := H.y.ctx H.hk (by omega)
  have x4 := H.y.cs.cell 4 rfl
  have x5 := H.y.cs.cell 5 rfl
  rw [ea] at x4
  rw [H.ac] at x5
  have i0 := H.hi.cell 0 rfl
  have i1 := H.hi.cell 1 rfl
  have i2 := H.hi.cell 2 rfl
  have i3 := H.hi.cell 3 rfl
  simp only [Nat.add_zero] at i0
  have k0 : (0 : Int) ≤ (k : Int) := by omega
  have k1 : (k : Int) < (A.xn : Int) := by omega
  have a0 : (0 : Int) ≤ (ia : Int) := by omega
  have a1 : (ia : Int) < 8 := by omega
  have b0' : (0 : Int) ≤ (ib : Int) := by omega
  have b1' : (ib : Int) < 8 := by omega
  have HH := hide H
  clear H
  go_enter Tryz.func83, Tryz.ntmps83
  go_wp2_with fail
  go_quiet (fail)
  obtain ⟨u, hu⟩ : ∃ u, u = w.drewN nq := ⟨_, rfl⟩
  have B2 : Below w.heap.size w u := by rw [hu]; exact bdrewN (Below.refl _ _) nq
  rw [← hu]
  clear i0 i1 i2 i3 x4 x5 hu
  have I2 : CsO I oi [.int .i64 2, .int .i64 (ia : Int), .int .i64 (ib : Int), .int .i64 im] u := fun i hl => (World.cell?_of_block (a := ⟨I, oi + i, none⟩) (B2.block I HH.out.il)).trans (HH.out.hi i hl)
  have i0 := I2.cell 0 rfl
  have i1 := I2.cell 1 rfl
  have i2 := I2.cell 2 rfl
  have i3 := I2.cell 3 rfl
  simp only [Nat.add_zero] at i0
  have Y3 := HH.out.y.below B2.drew
  obtain ⟨N', b, lc, ea', sN, sb, ne, nP, bP, c0, c1, c2, fz, blk, f1, f2, f3⟩ := Y3.ctx hk (by omega)
  obtain rfl : N = N' := by have := ea.symm.trans ea'; simpa using this
  rw [h8] at c0
  have q2 : u.cell? ⟨N, k * 3, none⟩ = some (.slice (some ⟨b, 0, none⟩) 8 lc) := c0
  have rA : u.cell? ⟨b, ia, none⟩ = some (.int .i64 (gt (gx D.cs k).1 ia)) := blk.2.1 ia (by omega)
  have rB : u.cell? ⟨b, ib, none⟩ = some (.int .i64 (gt (gx D.cs k).1 ib)) := blk.2.1 ib (by omega)
  have q1 : u.frozen? ⟨b, ia, none⟩ = false := blk.2.2 ia
  have HS := hide (f3 ia (wrp (gt (gx D.cs k).1 ia + gt (gx D.cs k).1 ib)) (by omega))
  have HO := hide (OutS.wide (P := P) (o := o) HH.out.y.ns hlt ((OutS.of_below (S := S) B2.drew).setCell (p := ⟨b, ia, none⟩) (by exact sb) (.int .i64 (wrp (gt (gx D.cs k).1 ia + gt (gx D.cs k).1 ib)))))
  have ga := HH.out.rg ia hia
  have gb := HH.out.rg ib hib
  have hwp : IntKind.i64.wrap (gt (gx D.cs k).1 ia + gt (gx D.cs k).1 ib) = gt (gx D.cs k).1 ia + gt (gx D.cs k).1 ib := IntWalk.i64_in _ (by omega)
  clear f1 f2 f3 fz c0 c1 c2 blk Y3 I2
  go_wp2_with fail
  refine wp_region_still_tail 31 (by kernel_rfl) (by kernel_rfl) ?_
  simp only [List.take_succ_cons, List.take_zero, List.drop_succ_cons, List.drop_zero]
  repeat still_step
  still_call (l7Wrap_calls _ _ (by omega) (by omega))
  repeat still_step
  refine wpStill_nil ?_
  go_wp2
  refine bodyPost_ret (v := .tuple #[.int .i64 (1), .int .i64 (0)]) (by simp [results, Tryz.results83, go_sem]) rfl ⟨rfl, ⟨A, ?_⟩, ?_⟩
  · exact YM.wide HS.out hlt
  · exact HO.out

set_option maxRecDepth 100000 in
set_option maxHeartbeats 4000000 in
theorem l7Do_sub (P o : Nat) (S : Nat → Prop) (A : SA) (D : SD) (I oi k ia ib : Nat) (op im : Int) (w : World) (H : DoH P o S A D I oi k ia ib op im w) (ho : op = 3) :
    Calls Tryz.prog 83 #[.pointer (some ⟨P, o, none⟩), .pointer (some ⟨I, oi, none⟩)] w (DoP P o S ({ D with cs := D.cs.set k ((gx D.cs k).1.set ia (wrp (gt (gx D.cs k).1 ia - gt (gx D.cs k).1 ib)), (gx D.cs k).2.1, (gx D.cs k).2.2) }) (1) (0) w) := by
  subst ho
  have hlt := H.y.lt
  have h8 := H.l8
  have hia := H.hia
  have hib := H.hib
  have hk := H.hk
  obtain ⟨N, b0, lc0, ea, _, _, _, _, _, _, _, _, _, _, _, _, _⟩ := H.y.ctx H.hk (by omega)
  have x4 := H.y.cs.cell 4 rfl
  have x5 := H.y.cs.cell 5 rfl
  rw [ea] at x4
  rw [H.ac] at x5
  have i0 := H.hi.cell 0 rfl
  have i1 := H.hi.cell 1 rfl
  have i2 := H.hi.cell 2 rfl
  have i3 := H.hi.cell 3 rfl
  simp only [Nat.add_zero] at i0
  have k0 : (0 : Int) ≤ (k : Int) := by omega
  have k1 : (k : Int) < (A.xn : Int) := by omega
  have a0 : (0 : Int) ≤ (ia : Int) := by omega
  have a1 : (ia : Int) < 8 := by omega
  have b0' : (0 : Int) ≤ (ib : Int) := by omega
  have b1' : (ib : Int) < 8 := by omega
  have HH := hide H
  clear H
  go_enter Tryz.func83, Tryz.ntmps83
  go_wp2_with fail
  go_quiet (fail)
  obtain ⟨u, hu⟩ : ∃ u, u = w.drewN nq := ⟨_, rfl⟩
  have B2 : Below w.heap.size w u := by rw [hu]; exact bdrewN (Below.refl _ _) nq
  rw [← hu]
  clear i0 i1 i2 i3 x4 x5 hu
  have I2 : CsO I oi [.int .i64 3, .int .i64 (ia : Int), .int .i64 (ib : Int), .int .i64 im] u := fun i hl => (World.cell?_of_block (a := ⟨I, oi + i, none⟩) (B2.block I HH.out.il)).trans (HH.out.hi i hl)
  have i0 := I2.cell 0 rfl
  have i1 := I2.cell 1 rfl
  have i2 := I2.cell 2 rfl
  have i3 := I2.cell 3 rfl
  simp only [Nat.add_zero] at i0
  have Y3 := HH.out.y.below B2.drew
  obtain ⟨N', b, lc, ea', sN, sb, ne, nP, bP, c0, c1, c2, fz, blk, f1, f2, f3⟩ := Y3.ctx hk (by omega)
  obtain rfl : N = N' := by have := ea.symm.trans ea'; simpa using this
  rw [h8] at c0
  have q2 : u.cell? ⟨N, k * 3, none⟩ = some (.slice (some ⟨b, 0, none⟩) 8 lc) := c0
  have rA : u.cell? ⟨b, ia, none⟩ = some (.int .i64 (gt (gx D.cs k).1 ia)) := blk.2.1 ia (by omega)
  have rB : u.cell? ⟨b, ib, none⟩ = some (.int .i64 (gt (gx D.cs k).1 ib)) := blk.2.1 ib (by omega)
  have q1 : u.frozen? ⟨b, ia, none⟩ = false := blk.2.2 ia
  have HS := hide (f3 ia (wrp (gt (gx D.cs k).1 ia - gt (gx D.cs k).1 ib)) (by omega))
  have HO := hide (OutS.wide (P := P) (o := o) HH.out.y.ns hlt ((OutS.of_below (S := S) B2.drew).setCell (p := ⟨b, ia, none⟩) (by exact sb) (.int .i64 (wrp (gt (gx D.cs k).1 ia - gt (gx D.cs k).1 ib)))))
  have ga := HH.out.rg ia hia
  have gb := HH.out.rg ib hib
  have hwp : IntKind.i64.wrap (gt (gx D.cs k).1 ia - gt (gx D.cs k).1 ib) = gt (gx D.cs k).1 ia - gt (gx D.cs k).1 ib := IntWalk.i64_in _ (by omega)
  clear f1 f2 f3 fz c0 c1 c2 blk Y3 I2
  go_wp2_with fail
  refine wp_region_still_tail 31 (by kernel_rfl) (by kernel_rfl) ?_
  simp only [List.take_succ_cons, List.take_zero, List.drop_succ_cons, List.drop_zero]
  repeat still_step
  still_call (l7Wrap_calls _ _ (by omega) (by omega))
  repeat still_step
  refine wpStill_nil ?_
  go_wp2
  refine bodyPost_ret (v := .tuple #[.int .i64 (1), .int .i64 (0)]) (by simp [results, Tryz.results83, go_sem]) rfl ⟨rfl, ⟨A, ?_⟩, ?_⟩
  · exact YM.wide HS.out hlt
  · exact HO.out

end Go.Proofs.YtcojgmecocjnkaaGreat
