import Derived.Test.YtcojgmecocjnkaaGreatG41
import Derived.Deep.RegionHeld2
import Derived.WalkKit
import Derived.ProofKit
import Derived.OpenShut
import Derived.ShutString
import Derived.ChangeOld
import Derived.Below
import Derived.WalkSpells
import Derived.Deep.QuietTactic
import Derived.BigQuiet
import Derived.Deep.RegionWith
import Derived.Deep.WholeRow
import Derived.Deep.DeepCutAuto
import Derived.Deep.RegionHeld2
import Derived.Deep.AppendLies
import Derived.Deep.RegionLaw
namespace Go.Proofs.YtcojgmecocjnkaaGreat
open Go.ChangeShapes Go.WideShapes Go.ChangeAt Go.RowKit


set_option maxRecDepth 100000 in
set_option maxHeartbeats 4000000 in
theorem l7Do_halt (P o : Nat) (S : Nat → Prop) (A : SA) (D : SD) (I oi k ia ib : Nat) (op im : Int) (w : World) (H : DoH P o S A D I oi k ia ib op im w) (ho : op = 0) :
    Calls Tryz.prog 83 #[.pointer (some ⟨P, o, none⟩), .pointer (some ⟨I, oi, none⟩)] w (DoP P o S ({ D with cs := D.cs.set k ((gx D.cs k).1, wrp ((gx D.cs k).2.1 - 1), true) }) (1) (0) w) := by
  subst ho
  have hlt := H.y.lt
  have h8 := H.l8
  have hia := H.hia
  have hib := H.hib
  have hk := H.hk
  obtain ⟨N, b0, lc0, ea, _, _, _, _, _, _, _, _, _, _, _, _, _⟩ := H.y.ctx H.hk (by omega)
  have x4 := H.y.cs.cell 4 rfl
  have x5 := H.y.cs.cell 5 rfl
  rw [ea] at x4
  rw [H.ac] at x5
  have i0 := H.hi.cell 0 rfl
  have i1 := H.hi.cell 1 rfl
  have i2 := H.hi.cell 2 rfl
  have i3 := H.hi.cell 3 rfl
  simp only [Nat.add_zero] at i0
  have k0 : (0 : Int) ≤ (k : Int) := by omega
  have k1 : (k : Int) < (A.xn : Int) := by omega
  have a0 : (0 : Int) ≤ (ia : Int) := by omega
  have a1 : (ia : Int) < 8 := by omega
  have b0' : (0 : Int) ≤ (ib : Int) := by omega
  have b1' : (ib : Int) < 8 := by omega
  have HH := hide H
  clear H
  go_enter Tryz.func83, Tryz.ntmps83
  go_wp2_with fail
  go_quiet (fail)
  obtain ⟨u, hu⟩ : ∃ u, u = w.drewN nq := ⟨_, rfl⟩
  have B2 : Below w.heap.size w u := by rw [hu]; exact bdrewN (Below.refl _ _) nq
  rw [← hu]
  clear i0 i1 i2 i3 x4 x5 hu
  have I2 : CsO I oi [.int .i64 0, .int .i64 (ia : Int), .int .i64 (ib : Int), .int .i64 im] u := fun i hl => (World.cell?_of_block (a := ⟨I, oi + i, none⟩) (B2.block I HH.out.il)).trans (HH.out.hi i hl)
  have i0 := I2.cell 0 rfl
  have i1 := I2.cell 1 rfl
  have i2 := I2.cell 2 rfl
  have i3 := I2.cell 3 rfl
  simp only [Nat.add_zero] at i0
  have Y3 := HH.out.y.below B2
  obtain ⟨N', b, lc, ea', sN, sb, ne, nP, bP, c0, c1, c2, fz, blk, f1, f2, f3⟩ := Y3.ctx hk (by omega)
  obtain rfl : N = N' := by have := ea.symm.trans ea'; simpa using this
  rw [h8] at c0
  have q2 : u.cell? ⟨N, k * 3, none⟩ = some (.slice (some ⟨b, 0, none⟩) 8 lc) := c0
  have rA : u.cell? ⟨b, ia, none⟩ = some (.int .i64 (gt (gx D.cs k).1 ia)) := blk.2.1 ia (by omega)
  have rB : u.cell? ⟨b, ib, none⟩ = some (.int .i64 (gt (gx D.cs k).1 ib)) := blk.2.1 ib (by omega)
  have hl : k < D.cs.length := by have := HH.out.y.y.oy.rs.len.2.2.2.2.1; omega
  have hg : gx (D.cs.set k ((gx D.cs k).1, (gx D.cs k).2.1, true)) k = ((gx D.cs k).1, (gx D.cs k).2.1, true) := by rw [gx_set _ hl]; simp
  have q1 : u.frozen? ⟨N, k * 3 + 1, none⟩ = false := fz _
  have q3 : u.frozen? ⟨N, k * 3 + 2, none⟩ = false := fz _
  have Y4 := f2 true
  obtain ⟨N4, _, _, e4, _, _, _, _, _, _, _, _, _, _, f4, _, _⟩ := Y4.ctx hk (by show 0 < (gx (D.cs.set k ((gx D.cs k).1, (gx D.cs k).2.1, true)) k).1.length; rw [hg]; show 0 < (gx D.cs k).1.length; omega)
  obtain rfl : N = N4 := by have := ea.symm.trans e4; simpa using this
  have Y5 := f4 (wrp ((gx D.cs k).2.1 - 1))
  simp only [hg, List.set_set] at Y5
  have HS := hide Y5
  have HO := hide (OutS.wide (P := P) (o := o) HH.out.y.ns hlt (((OutS.of_below (S := S) B2).setCell (p := ⟨N, k * 3 + 2, none⟩) (by exact sN) (.bool true)).setCell (p := ⟨N, k * 3 + 1, none⟩) (by exact sN) (.int .i64 (wrp ((gx D.cs k).2.1 - 1)))))
  have hpc := HH.out.pc
  have hwp : IntKind.i64.wrap ((gx D.cs k).2.1 - 1) = (gx D.cs k).2.1 - 1 := IntWalk.i64_in _ (by omega)
  clear f1 f2 f3 f4 fz c0 blk Y3 Y4 Y5 I2
  go_wp2_with fail
  refine (l7Wrap_calls _ _ (by omega) (by omega)).mono ?_
  rintro e w2 ⟨rfl, rfl⟩
  go_wp2
  refine bodyPost_ret (v := .tuple #[.int .i64 (1), .int .i64 (0)]) (by simp [results, Tryz.results83, go_sem]) rfl ⟨rfl, ⟨A, ?_⟩, ?_⟩
  · exact YM.wide HS.out hlt
  · exact HO.out

theorem YM.own {P o : Nat} {S : Nat → Prop} {A : SA} {D : SD} {w : World} (h : YM P o S A D w) {g : Nat} (hg : (Value.slice A.oa A.on A.oc).ownBlock = some g) : S g := by
  obtain ⟨Q, q1, _, _, _, _, q6⟩ := h.y
  exact q1 _ _ (q6.1.2.2 g hg)

set_option maxRecDepth 100000 in
set_option maxHeartbeats 4000000 in
theorem l7Do_out (P o : Nat) (S : Nat → Prop) (A : SA) (D : SD) (I oi k ia ib : Nat) (op im : Int) (w : World) (H : DoH P o S A D I oi k ia ib op im w) (ho : op = 9) :
    Calls Tryz.prog 83 #[.pointer (some ⟨P, o, none⟩), .pointer (some ⟨I, oi, none⟩)] w (DoP P o S (sdD D (gt (gx D.cs k).1 ia)) (sdK D) (sdT D) w) := by
  subst ho
  have hlt := H.y.lt
  have h8 := H.l8
  have hia := H.hia
  have hib := H.hib
  have hk := H.hk
  obtain ⟨N, b0, lc0, ea, _, _, _, _, _, _, _, _, _, _, _, _, _⟩ := H.y.ctx H.hk (by omega)
  have x4 := H.y.cs.cell 4 rfl
  have x5 := H.y.cs.cell 5 rfl
  rw [ea] at x4
  rw [H.ac] at x5
  have i0 := H.hi.cell 0 rfl
  have i1 := H.hi.cell 1 rfl
  have i2 := H.hi.cell 2 rfl
  have i3 := H.hi.cell 3 rfl
  simp only [Nat.add_zero] at i0
  have k0 : (0 : Int) ≤ (k : Int) := by omega
  have k1 : (k : Int) < (A.xn : Int) := by omega
  have a0 : (0 : Int) ≤ (ia : Int) := by omega
  have a1 : (ia : Int) < 8 := by omega
  have b0' : (0 : Int) ≤ (ib : Int) := by omega
  have b1' : (ib : Int) < 8 := by omega
  have HH := hide H
  clear H
  go_enter Tryz.func83, Tryz.ntmps83
  go_wp2_with fail
  go_quiet (fail)
  obtain ⟨u, hu⟩ : ∃ u, u = w.drewN nq := ⟨_, rfl⟩
  have B2 : Below w.heap.size w u := by rw [hu]; exact bdrewN (Below.refl _ _) nq
  rw [← hu]
  clear i0 i1 i2 i3 x4 x5 hu
  have I2 : CsO I oi [.int .i64 9, .int .i64 (ia : Int), .int .i64 (ib : Int), .int .i64 im] u := fun i hl => (World.cell?_of_block (a := ⟨I, oi + i, none⟩) (B2.block I HH.out.il)).trans (HH.out.hi i hl)
  have i0 := I2.cell 0 rfl
  have i1 := I2.cell 1 rfl
  have i2 := I2.cell 2 rfl
  have i3 := I2.cell 3 rfl
  simp only [Nat.add_zero] at i0
  have Y3 := HH.out.y.below B2
  obtain ⟨N', b, lc, ea', sN, sb, ne, nP, bP, c0, c1, c2, fz, blk, f1, f2, f3⟩ := Y3.ctx hk (by omega)
  obtain rfl : N = N' := by have := ea.symm.trans ea'; simpa using this
  rw [h8] at c0
  have q2 : u.cell? ⟨N, k * 3, none⟩ = some (.slice (some ⟨b, 0, none⟩) 8 lc) := c0
  have rA : u.cell? ⟨b, ia, none⟩ = some (.int .i64 (gt (gx D.cs k).1 ia)) := blk.2.1 ia (by omega)
  have rB : u.cell? ⟨b, ib, none⟩ = some (.int .i64 (gt (gx D.cs k).1 ib)) := blk.2.1 ib (by omega)
  have HC := hide (l7Send_calls P o S A D (gt (gx D.cs k).1 ia) u.drew (HH.out.y.below B2.drew) HH.out.f HH.out.sz (fun k e => Nat.lt_of_lt_of_le (HH.out.s k e) B2.drew.size))
  have z2 := B2.size
  have lN := World.block_lt_of_cell? _ _ q2
  have lb := World.block_lt_of_cell? _ _ rA
  have lI := World.block_lt_of_cell? _ _ i1
  have HF : Hid (∀ W, OutS (fun k => (Value.slice A.oa A.on A.oc).ownBlock = some k ∨ k = P) u.drew W → W.cell? ⟨N, k * 3, none⟩ = some (.slice (some ⟨b, 0, none⟩) 8 lc) ∧ W.cell? ⟨b, ia, none⟩ = some (.int .i64 (gt (gx D.cs k).1 ia)) ∧ W.cell? ⟨I, oi + 1, none⟩ = some (.int .i64 (ia : Int))) := fun W hW =>
    ⟨(World.cell?_of_block (a := ⟨N, k * 3, none⟩) (hW.block N lN (fun e => by rcases e with e | e; exact (Y3.far hk (by omega) ea q2 e).1 rfl; exact nP e))).trans q2, (World.cell?_of_block (a := ⟨b, ia, none⟩) (hW.block b lb (fun e => by rcases e with e | e; exact (Y3.far hk (by omega) ea q2 e).2 rfl; exact bP e))).trans rA, (World.cell?_of_block (a := ⟨I, oi + 1, none⟩) (hW.block I lI (fun e => by rcases e with e | e; exact HH.out.ins (Y3.own e); exact HH.out.ip e))).trans i1⟩
  have HF0 := hide (HF.out u.drew (OutS.refl _ _))
  clear f1 f2 f3 fz c0 c1 c2 blk Y3 I2
  go_wp2_with fail
  go_region_held2 (fun W => W.cell? ⟨N, k * 3, none⟩ = some (.slice (some ⟨b, 0, none⟩) 8 lc) ∧ W.cell? ⟨b, ia, none⟩ = some (.int .i64 (gt (gx D.cs k).1 ia)) ∧ W.cell? ⟨I, oi + 1, none⟩ = some (.int .i64 (ia : Int)))
   (first | with_reducible assumption | with_reducible exact HF0.out)
   (first
    | (go_at_call 155; refine HC.out.mono ?_; rintro e w2 ⟨rfl, ⟨B, hy2⟩, ho2, ho3, hk2⟩; have HK2 := hide hk2; clear hk2; have hs2 := HF.out w2 ho3; have HY2 := hide hy2; have HO2 := hide ho2; clear hy2 ho2 ho3))
  all_goals (
    go_wp2
    refine bodyPost_ret (v := .tuple #[.int .i64 (sdK D), .int .i64 (sdT D)]) (by simp [results, Tryz.results83, go_sem]) rfl ⟨rfl, ⟨B, ?_⟩, ?_⟩
    · exact HY2.out.mono (fun k e => by rcases e with e | e; exact .inl e; exact .inr ⟨Nat.le_trans B2.drew.size e.1, e.2⟩) (fun e => by rcases e with e | e; exact HH.out.y.ns e; omega)
    · exact ⟨(OutS.of_below B2.drew).trans HO2.out, KeepO.trans (KeepO.of_below B2.drew hlt) HK2.out⟩)

end Go.Proofs.YtcojgmecocjnkaaGreat
