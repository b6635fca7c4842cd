import Derived.Test.YtcojgmecocjnkaaGreatG40
import Derived.StillTailTactics
import Derived.WalkKit
import Derived.ProofKit
import Derived.OpenShut
import Derived.ShutString
import Derived.ChangeOld
import Derived.Below
import Derived.WalkSpells
import Derived.Deep.QuietTactic
import Derived.BigQuiet
import Derived.Deep.RegionWith
import Derived.Deep.WholeRow
import Derived.Deep.DeepCutAuto
import Derived.Deep.RegionHeld2
import Derived.Deep.AppendLies
import Derived.Deep.RegionLaw
namespace Go.Proofs.YtcojgmecocjnkaaGreat
open Go.ChangeShapes Go.WideShapes Go.ChangeAt Go.RowKit

/-- what l7Do gives: kind and tag, and the system D' behind the pointer. -/
def DoP (P o : Nat) (S : Nat → Prop) (D' : SD) (kd tg : Int) (w : World) (e : Ending) (w' : World) : Prop :=
  e = .returned (.tuple #[.int .i64 kd, .int .i64 tg]) ∧ (∃ B : SA, YM P o (fun k => S k ∨ (w.heap.size ≤ k ∧ k < w'.heap.size)) B D' w') ∧ OutS (fun k => S k ∨ k = P) w w' ∧ KeepO P o w w'

theorem YM.wide {P o : Nat} {S : Nat → Prop} {A : SA} {D : SD} {W : World} {n m : Nat} (h : YM P o S A D W) (hP : P < n) : YM P o (fun k => S k ∨ (n ≤ k ∧ k < m)) A D W :=
  h.mono (fun _ e => .inl e) (fun e => by rcases e with e | e; exact h.ns e; omega)

theorem OutS.wide {P o : Nat} {S : Nat → Prop} {w w' : World} (hn : ¬ S P) (hP : P < w.heap.size) (h : OutS S w w') : OutS (fun k => S k ∨ k = P) w w' ∧ KeepO P o w w' := ⟨h.mono (fun _ e => .inl e), KeepO.of_out h hn hP⟩

/-- what a step of a right system asks of its instruction and its context. -/
structure DoH (P o : Nat) (S : Nat → Prop) (A : SA) (D : SD) (I oi k ia ib : Nat) (op im : Int) (w : World) : Prop where
  y : YM P o S A D w
  f : LB D.ls
  ac : D.ac = (k : Int)
  hk : k < A.xn
  l8 : (gx D.cs k).1.length = 8
  rg : ∀ j, j < 8 → 0 ≤ gt (gx D.cs k).1 j ∧ gt (gx D.cs k).1 j ≤ 65535
  pc : 0 ≤ (gx D.cs k).2.1 ∧ (gx D.cs k).2.1 ≤ 65535
  hia : ia < 8
  hib : ib < 8
  him : 0 ≤ im ∧ im ≤ 65535
  hi : CsO I oi [.int .i64 op, .int .i64 (ia : Int), .int .i64 (ib : Int), .int .i64 im] w
  il : I < w.heap.size
  sz : szY A D + 1 ≤ 1048576
  s : ∀ k, S k → k < w.heap.size
  ins : ¬ S I
  ip : I ≠ P

set_option maxRecDepth 100000 in
set_option maxHeartbeats 4000000 in
theorem l7Do_call (P o : Nat) (S : Nat → Prop) (A : SA) (D : SD) (I oi k ia ib : Nat) (op im : Int) (w : World) (H : DoH P o S A D I oi k ia ib op im w) (ho : op = 8) :
    Calls Tryz.prog 83 #[.pointer (some ⟨P, o, none⟩), .pointer (some ⟨I, oi, none⟩)] w (DoP P o S (D) (4) (0) w) := by
  subst ho
  have hlt := H.y.lt
  have h8 := H.l8
  have hia := H.hia
  have hib := H.hib
  have hk := H.hk
  obtain ⟨N, b0, lc0, ea, _, _, _, _, _, _, _, _, _, _, _, _, _⟩ := H.y.ctx H.hk (by omega)
  have x4 := H.y.cs.cell 4 rfl
  have x5 := H.y.cs.cell 5 rfl
  rw [ea] at x4
  rw [H.ac] at x5
  have i0 := H.hi.cell 0 rfl
  have i1 := H.hi.cell 1 rfl
  have i2 := H.hi.cell 2 rfl
  have i3 := H.hi.cell 3 rfl
  simp only [Nat.add_zero] at i0
  have k0 : (0 : Int) ≤ (k : Int) := by omega
  have k1 : (k : Int) < (A.xn : Int) := by omega
  have a0 : (0 : Int) ≤ (ia : Int) := by omega
  have a1 : (ia : Int) < 8 := by omega
  have b0' : (0 : Int) ≤ (ib : Int) := by omega
  have b1' : (ib : Int) < 8 := by omega
  have HH := hide H
  clear H
  go_enter Tryz.func83, Tryz.ntmps83
  go_wp2_with fail
  go_quiet (fail)
  go_wp2
  refine bodyPost_ret (v := .tuple #[.int .i64 (4), .int .i64 (0)]) (by simp [results, Tryz.results83, go_sem]) rfl ⟨rfl, ⟨A, ?_⟩, ?_⟩
  · exact YM.wide (HH.out.y.below (bdrewN (Below.refl _ _) _)) hlt
  · exact OutS.wide HH.out.y.ns hlt (OutS.of_below (bdrewN (Below.refl _ _) _))

set_option maxRecDepth 100000 in
set_option maxHeartbeats 4000000 in
theorem l7Do_set (P o : Nat) (S : Nat → Prop) (A : SA) (D : SD) (I oi k ia ib : Nat) (op im : Int) (w : World) (H : DoH P o S A D I oi k ia ib op im w) (ho : op = 1) :
    Calls Tryz.prog 83 #[.pointer (some ⟨P, o, none⟩), .pointer (some ⟨I, oi, none⟩)] w (DoP P o S ({ D with cs := D.cs.set k ((gx D.cs k).1.set ia im, (gx D.cs k).2.1, (gx D.cs k).2.2) }) (1) (0) w) := by
  subst ho
  have hlt := H.y.lt
  have h8 := H.l8
  have hia := H.hia
  have hib := H.hib
  have hk := H.hk
  obtain ⟨N, b0, lc0, ea, _, _, _, _, _, _, _, _, _, _, _, _, _⟩ := H.y.ctx H.hk (by omega)
  have x4 := H.y.cs.cell 4 rfl
  have x5 := H.y.cs.cell 5 rfl
  rw [ea] at x4
  rw [H.ac] at x5
  have i0 := H.hi.cell 0 rfl
  have i1 := H.hi.cell 1 rfl
  have i2 := H.hi.cell 2 rfl
  have i3 := H.hi.cell 3 rfl
  simp only [Nat.add_zero] at i0
  have k0 : (0 : Int) ≤ (k : Int) := by omega
  have k1 : (k : Int) < (A.xn : Int) := by omega
  have a0 : (0 : Int) ≤ (ia : Int) := by omega
  have a1 : (ia : Int) < 8 := by omega
  have b0' : (0 : Int) ≤ (ib : Int) := by omega
  have b1' : (ib : Int) < 8 := by omega
  have HH := hide H
  clear H
  go_enter Tryz.func83, Tryz.ntmps83
  go_wp2_with fail
  go_quiet (fail)
  obtain ⟨u, hu⟩ : ∃ u, u = w.drewN nq := ⟨_, rfl⟩
  have B2 : Below w.heap.size w u := by rw [hu]; exact bdrewN (Below.refl _ _) nq
  rw [← hu]
  clear i0 i1 i2 i3 x4 x5 hu
  have I2 : CsO I oi [.int .i64 1, .int .i64 (ia : Int), .int .i64 (ib : Int), .int .i64 im] u := fun i hl => (World.cell?_of_block (a := ⟨I, oi + i, none⟩) (B2.block I HH.out.il)).trans (HH.out.hi i hl)
  have i0 := I2.cell 0 rfl
  have i1 := I2.cell 1 rfl
  have i2 := I2.cell 2 rfl
  have i3 := I2.cell 3 rfl
  simp only [Nat.add_zero] at i0
  have Y3 := HH.out.y.below B2.drew
  obtain ⟨N', b, lc, ea', sN, sb, ne, nP, bP, c0, c1, c2, fz, blk, f1, f2, f3⟩ := Y3.ctx hk (by omega)
  obtain rfl : N = N' := by have := ea.symm.trans ea'; simpa using this
  rw [h8] at c0
  have q2 : u.cell? ⟨N, k * 3, none⟩ = some (.slice (some ⟨b, 0, none⟩) 8 lc) := c0
  have rA : u.cell? ⟨b, ia, none⟩ = some (.int .i64 (gt (gx D.cs k).1 ia)) := blk.2.1 ia (by omega)
  have rB : u.cell? ⟨b, ib, none⟩ = some (.int .i64 (gt (gx D.cs k).1 ib)) := blk.2.1 ib (by omega)
  have q1 : u.frozen? ⟨b, ia, none⟩ = false := blk.2.2 ia
  have HS := hide (f3 ia (im) (by omega))
  have HO := hide (OutS.wide (P := P) (o := o) HH.out.y.ns hlt ((OutS.of_below (S := S) B2.drew).setCell (p := ⟨b, ia, none⟩) (by exact sb) (.int .i64 (im))))
  clear f1 f2 f3 fz c0 c1 c2 blk Y3 I2
  go_wp2_with fail
  go_still_tail 13, (by kernel_rfl)
  go_wp2
  refine bodyPost_ret (v := .tuple #[.int .i64 (1), .int .i64 (0)]) (by simp [results, Tryz.results83, go_sem]) rfl ⟨rfl, ⟨A, ?_⟩, ?_⟩
  · exact YM.wide HS.out hlt
  · exact HO.out

set_option maxRecDepth 100000 in
set_option maxHeartbeats 4000000 in
theorem l7Do_copy (P o : Nat) (S : Nat → Prop) (A : SA) (D : SD) (I oi k ia ib : Nat) (op im : Int) (w : World) (H : DoH P o S A D I oi k ia ib op im w) (ho : op = 10) :
    Calls Tryz.prog 83 #[.pointer (some ⟨P, o, none⟩), .pointer (some ⟨I, oi, none⟩)] w (DoP P o S ({ D with cs := D.cs.set k ((gx D.cs k).1.set ia (gt (gx D.cs k).1 ib), (gx D.cs k).2.1, (gx D.cs k).2.2) }) (1) (0) w) := by
  subst ho
  have hlt := H.y.lt
  have h8 := H.l8
  have hia := H.hia
  have hib := H.hib
  have hk := H.hk
  obtain ⟨N, b0, lc0, ea, _, _, _, _, _, _, _, _, _, _, _, _, _⟩ := H.y.ctx H.hk (by omega)
  have x4 := H.y.cs.cell 4 rfl
  have x5 := H.y.cs.cell 5 rfl
  rw [ea] at x4
  rw [H.ac] at x5
  have i0 := H.hi.cell 0 rfl
  have i1 := H.hi.cell 1 rfl
  have i2 := H.hi.cell 2 rfl
  have i3 := H.hi.cell 3 rfl
  simp only [Nat.add_zero] at i0
  have k0 : (0 : Int) ≤ (k : Int) := by omega
  have k1 : (k : Int) < (A.xn : Int) := by omega
  have a0 : (0 : Int) ≤ (ia : Int) := by omega
  have a1 : (ia : Int) < 8 := by omega
  have b0' : (0 : Int) ≤ (ib : Int) := by omega
  have b1' : (ib : Int) < 8 := by omega
  have HH := hide H
  clear H
  go_enter Tryz.func83, Tryz.ntmps83
  go_wp2_with fail
  go_quiet (fail)
  obtain ⟨u, hu⟩ : ∃ u, u = w.drewN nq := ⟨_, rfl⟩
  have B2 : Below w.heap.size w u := by rw [hu]; exact bdrewN (Below.refl _ _) nq
  rw [← hu]
  clear i0 i1 i2 i3 x4 x5 hu
  have I2 : CsO I oi [.int .i64 10, .int .i64 (ia : Int), .int .i64 (ib : Int), .int .i64 im] u := fun i hl => (World.cell?_of_block (a := ⟨I, oi + i, none⟩) (B2.block I HH.out.il)).trans (HH.out.hi i hl)
  have i0 := I2.cell 0 rfl
  have i1 := I2.cell 1 rfl
  have i2 := I2.cell 2 rfl
  have i3 := I2.cell 3 rfl
  simp only [Nat.add_zero] at i0
  have Y3 := HH.out.y.below B2.drew
  obtain ⟨N', b, lc, ea', sN, sb, ne, nP, bP, c0, c1, c2, fz, blk, f1, f2, f3⟩ := Y3.ctx hk (by omega)
  obtain rfl : N = N' := by have := ea.symm.trans ea'; simpa using this
  rw [h8] at c0
  have q2 : u.cell? ⟨N, k * 3, none⟩ = some (.slice (some ⟨b, 0, none⟩) 8 lc) := c0
  have rA : u.cell? ⟨b, ia, none⟩ = some (.int .i64 (gt (gx D.cs k).1 ia)) := blk.2.1 ia (by omega)
  have rB : u.cell? ⟨b, ib, none⟩ = some (.int .i64 (gt (gx D.cs k).1 ib)) := blk.2.1 ib (by omega)
  have q1 : u.frozen? ⟨b, ia, none⟩ = false := blk.2.2 ia
  have HS := hide (f3 ia (gt (gx D.cs k).1 ib) (by omega))
  have HO := hide (OutS.wide (P := P) (o := o) HH.out.y.ns hlt ((OutS.of_below (S := S) B2.drew).setCell (p := ⟨b, ia, none⟩) (by exact sb) (.int .i64 (gt (gx D.cs k).1 ib))))
  clear f1 f2 f3 fz c0 c1 c2 blk Y3 I2
  go_wp2_with fail
  go_still_tail 19, (by kernel_rfl)
  go_wp2
  refine bodyPost_ret (v := .tuple #[.int .i64 (1), .int .i64 (0)]) (by simp [results, Tryz.results83, go_sem]) rfl ⟨rfl, ⟨A, ?_⟩, ?_⟩
  · exact YM.wide HS.out hlt
  · exact HO.out

set_option maxRecDepth 100000 in
set_option maxHeartbeats 4000000 in
theorem l7Do_jump (P o : Nat) (S : Nat → Prop) (A : SA) (D : SD) (I oi k ia ib : Nat) (op im : Int) (w : World) (H : DoH P o S A D I oi k ia ib op im w) (ho : op = 6) :
    Calls Tryz.prog 83 #[.pointer (some ⟨P, o, none⟩), .pointer (some ⟨I, oi, none⟩)] w (DoP P o S ({ D with cs := D.cs.set k ((gx D.cs k).1, im, (gx D.cs k).2.2) }) (1) (0) w) := by
  subst ho
  have hlt := H.y.lt
  have h8 := H.l8
  have hia := H.hia
  have hib := H.hib
  have hk := H.hk
  obtain ⟨N, b0, lc0, ea, _, _, _, _, _, _, _, _, _, _, _, _, _⟩ := H.y.ctx H.hk (by omega)
  have x4 := H.y.cs.cell 4 rfl
  have x5 := H.y.cs.cell 5 rfl
  rw [ea] at x4
  rw [H.ac] at x5
  have i0 := H.hi.cell 0 rfl
  have i1 := H.hi.cell 1 rfl
  have i2 := H.hi.cell 2 rfl
  have i3 := H.hi.cell 3 rfl
  simp only [Nat.add_zero] at i0
  have k0 : (0 : Int) ≤ (k : Int) := by omega
  have k1 : (k : Int) < (A.xn : Int) := by omega
  have a0 : (0 : Int) ≤ (ia : Int) := by omega
  have a1 : (ia : Int) < 8 := by omega
  have b0' : (0 : Int) ≤ (ib : Int) := by omega
  have b1' : (ib : Int) < 8 := by omega
  have HH := hide H
  clear H
  go_enter Tryz.func83, Tryz.ntmps83
  go_wp2_with fail
  go_quiet (fail)
  obtain ⟨u, hu⟩ : ∃ u, u = w.drewN nq := ⟨_, rfl⟩
  have B2 : Below w.heap.size w u := by rw [hu]; exact bdrewN (Below.refl _ _) nq
  rw [← hu]
  clear i0 i1 i2 i3 x4 x5 hu
  have I2 : CsO I oi [.int .i64 6, .int .i64 (ia : Int), .int .i64 (ib : Int), .int .i64 im] u := fun i hl => (World.cell?_of_block (a := ⟨I, oi + i, none⟩) (B2.block I HH.out.il)).trans (HH.out.hi i hl)
  have i0 := I2.cell 0 rfl
  have i1 := I2.cell 1 rfl
  have i2 := I2.cell 2 rfl
  have i3 := I2.cell 3 rfl
  simp only [Nat.add_zero] at i0
  have Y3 := HH.out.y.below B2
  obtain ⟨N', b, lc, ea', sN, sb, ne, nP, bP, c0, c1, c2, fz, blk, f1, f2, f3⟩ := Y3.ctx hk (by omega)
  obtain rfl : N = N' := by have := ea.symm.trans ea'; simpa using this
  rw [h8] at c0
  have q2 : u.cell? ⟨N, k * 3, none⟩ = some (.slice (some ⟨b, 0, none⟩) 8 lc) := c0
  have rA : u.cell? ⟨b, ia, none⟩ = some (.int .i64 (gt (gx D.cs k).1 ia)) := blk.2.1 ia (by omega)
  have rB : u.cell? ⟨b, ib, none⟩ = some (.int .i64 (gt (gx D.cs k).1 ib)) := blk.2.1 ib (by omega)
  have q1 : u.frozen? ⟨N, k * 3 + 1, none⟩ = false := fz _
  have HS := hide (f1 im)
  have HO := hide (OutS.wide (P := P) (o := o) HH.out.y.ns hlt ((OutS.of_below (S := S) B2).setCell (p := ⟨N, k * 3 + 1, none⟩) (by exact sN) (.int .i64 im)))
  clear f1 f2 f3 fz c0 c2 blk Y3 I2
  go_wp2
  refine bodyPost_ret (v := .tuple #[.int .i64 (1), .int .i64 (0)]) (by simp [results, Tryz.results83, go_sem]) rfl ⟨rfl, ⟨A, ?_⟩, ?_⟩
  · exact YM.wide HS.out hlt
  · exact HO.out

set_option maxRecDepth 100000 in
set_option maxHeartbeats 4000000 in
theorem l7Do_zero0 (P o : Nat) (S : Nat → Prop) (A : SA) (D : SD) (I oi k ia ib : Nat) (op im : Int) (w : World) (H : DoH P o S A D I oi k ia ib op im w) (ho : op = 7 ∧ gt (gx D.cs k).1 ia = 0) :
    Calls Tryz.prog 83 #[.pointer (some ⟨P, o, none⟩), .pointer (some ⟨I, oi, none⟩)] w (DoP P o S ({ D with cs := D.cs.set k ((gx D.cs k).1, im, (gx D.cs k).2.2) }) (1) (0) w) := by
  obtain ⟨ho, hr0⟩ := ho
  subst ho
  have hlt := H.y.lt
  have h8 := H.l8
  have hia := H.hia
  have hib := H.hib
  have hk := H.hk
  obtain ⟨N, b0, lc0, ea, _, _, _, _, _, _, _, _, _, _, _, _, _⟩ := H.y.ctx H.hk (by omega)
  have x4 := H.y.cs.cell 4 rfl
  have x5 := H.y.cs.cell 5 rfl
  rw [ea] at x4
  rw [H.ac] at x5
  have i0 := H.hi.cell 0 rfl
  have i1 := H.hi.cell 1 rfl
  have i2 := H.hi.cell 2 rfl
  have i3 := H.hi.cell 3 rfl
  simp only [Nat.add_zero] at i0
  have k0 : (0 : Int) ≤ (k : Int) := by omega
  have k1 : (k : Int) < (A.xn : Int) := by omega
  have a0 : (0 : Int) ≤ (ia : Int) := by omega
  have a1 : (ia : Int) < 8 := by omega
  have b0' : (0 : Int) ≤ (ib : Int) := by omega
  have b1' : (ib : Int) < 8 := by omega
  have HH := hide H
  clear H
  go_enter Tryz.func83, Tryz.ntmps83
  go_wp2_with fail
  go_quiet (fail)
  obtain ⟨u, hu⟩ : ∃ u, u = w.drewN nq := ⟨_, rfl⟩
  have B2 : Below w.heap.size w u := by rw [hu]; exact bdrewN (Below.refl _ _) nq
  rw [← hu]
  clear i0 i1 i2 i3 x4 x5 hu
  have I2 : CsO I oi [.int .i64 7, .int .i64 (ia : Int), .int .i64 (ib : Int), .int .i64 im] u := fun i hl => (World.cell?_of_block (a := ⟨I, oi + i, none⟩) (B2.block I HH.out.il)).trans (HH.out.hi i hl)
  have i0 := I2.cell 0 rfl
  have i1 := I2.cell 1 rfl
  have i2 := I2.cell 2 rfl
  have i3 := I2.cell 3 rfl
  simp only [Nat.add_zero] at i0
  have Y3 := HH.out.y.below B2
  obtain ⟨N', b, lc, ea', sN, sb, ne, nP, bP, c0, c1, c2, fz, blk, f1, f2, f3⟩ := Y3.ctx hk (by omega)
  obtain rfl : N = N' := by have := ea.symm.trans ea'; simpa using this
  rw [h8] at c0
  have q2 : u.cell? ⟨N, k * 3, none⟩ = some (.slice (some ⟨b, 0, none⟩) 8 lc) := c0
  have rA : u.cell? ⟨b, ia, none⟩ = some (.int .i64 (gt (gx D.cs k).1 ia)) := blk.2.1 ia (by omega)
  have rB : u.cell? ⟨b, ib, none⟩ = some (.int .i64 (gt (gx D.cs k).1 ib)) := blk.2.1 ib (by omega)
  have q1 : u.frozen? ⟨N, k * 3 + 1, none⟩ = false := fz _
  have HY := hide Y3
  have HS := hide f1
  clear f1 f2 f3 fz c0 c2 blk Y3 I2
  rw [hr0] at rA
  go_wp2_with fail
  go_quiet (fail)
  go_wp2
  have YS := (HS.out im).below (bdrewN (Below.refl _ _) nq)
  have OS' := OutS.wide (P := P) (o := o) HH.out.y.ns hlt (((OutS.of_below (S := S) B2).setCell (p := ⟨N, k * 3 + 1, none⟩) (by exact sN) (.int .i64 im)).trans (OutS.of_below (bdrewN (Below.refl _ _) nq)))
  refine bodyPost_ret (v := .tuple #[.int .i64 (1), .int .i64 (0)]) (by simp [results, Tryz.results83, go_sem]) rfl ⟨rfl, ⟨A, ?_⟩, ?_⟩
  · exact YM.wide YS hlt
  · exact OS'

set_option maxRecDepth 100000 in
set_option maxHeartbeats 4000000 in
theorem l7Do_zero1 (P o : Nat) (S : Nat → Prop) (A : SA) (D : SD) (I oi k ia ib : Nat) (op im : Int) (w : World) (H : DoH P o S A D I oi k ia ib op im w) (ho : op = 7 ∧ gt (gx D.cs k).1 ia ≠ 0) :
    Calls Tryz.prog 83 #[.pointer (some ⟨P, o, none⟩), .pointer (some ⟨I, oi, none⟩)] w (DoP P o S (D) (1) (0) w) := by
  obtain ⟨ho, hr0⟩ := ho
  subst ho
  have hlt := H.y.lt
  have h8 := H.l8
  have hia := H.hia
  have hib := H.hib
  have hk := H.hk
  obtain ⟨N, b0, lc0, ea, _, _, _, _, _, _, _, _, _, _, _, _, _⟩ := H.y.ctx H.hk (by omega)
  have x4 := H.y.cs.cell 4 rfl
  have x5 := H.y.cs.cell 5 rfl
  rw [ea] at x4
  rw [H.ac] at x5
  have i0 := H.hi.cell 0 rfl
  have i1 := H.hi.cell 1 rfl
  have i2 := H.hi.cell 2 rfl
  have i3 := H.hi.cell 3 rfl
  simp only [Nat.add_zero] at i0
  have k0 : (0 : Int) ≤ (k : Int) := by omega
  have k1 : (k : Int) < (A.xn : Int) := by omega
  have a0 : (0 : Int) ≤ (ia : Int) := by omega
  have a1 : (ia : Int) < 8 := by omega
  have b0' : (0 : Int) ≤ (ib : Int) := by omega
  have b1' : (ib : Int) < 8 := by omega
  have HH := hide H
  clear H
  go_enter Tryz.func83, Tryz.ntmps83
  go_wp2_with fail
  go_quiet (fail)
  obtain ⟨u, hu⟩ : ∃ u, u = w.drewN nq := ⟨_, rfl⟩
  have B2 : Below w.heap.size w u := by rw [hu]; exact bdrewN (Below.refl _ _) nq
  rw [← hu]
  clear i0 i1 i2 i3 x4 x5 hu
  have I2 : CsO I oi [.int .i64 7, .int .i64 (ia : Int), .int .i64 (ib : Int), .int .i64 im] u := fun i hl => (World.cell?_of_block (a := ⟨I, oi + i, none⟩) (B2.block I HH.out.il)).trans (HH.out.hi i hl)
  have i0 := I2.cell 0 rfl
  have i1 := I2.cell 1 rfl
  have i2 := I2.cell 2 rfl
  have i3 := I2.cell 3 rfl
  simp only [Nat.add_zero] at i0
  have Y3 := HH.out.y.below B2
  obtain ⟨N', b, lc, ea', sN, sb, ne, nP, bP, c0, c1, c2, fz, blk, f1, f2, f3⟩ := Y3.ctx hk (by omega)
  obtain rfl : N = N' := by have := ea.symm.trans ea'; simpa using this
  rw [h8] at c0
  have q2 : u.cell? ⟨N, k * 3, none⟩ = some (.slice (some ⟨b, 0, none⟩) 8 lc) := c0
  have rA : u.cell? ⟨b, ia, none⟩ = some (.int .i64 (gt (gx D.cs k).1 ia)) := blk.2.1 ia (by omega)
  have rB : u.cell? ⟨b, ib, none⟩ = some (.int .i64 (gt (gx D.cs k).1 ib)) := blk.2.1 ib (by omega)
  have q1 : u.frozen? ⟨N, k * 3 + 1, none⟩ = false := fz _
  have HY := hide Y3
  have HS := hide f1
  clear f1 f2 f3 fz c0 c2 blk Y3 I2
  have hr1 : (gt (gx D.cs k).1 ia == 0) = false := by simpa using hr0
  go_wp2_with fail
  go_quiet (fail)
  go_wp2
  refine bodyPost_ret (v := .tuple #[.int .i64 (1), .int .i64 (0)]) (by simp [results, Tryz.results83, go_sem]) rfl ⟨rfl, ⟨A, ?_⟩, ?_⟩
  · exact YM.wide (HY.out.below (bdrewN (Below.refl _ _) _)) hlt
  · exact OutS.wide HH.out.y.ns hlt (OutS.of_below (bdrewN B2 _))

set_option maxRecDepth 100000 in
set_option maxHeartbeats 4000000 in
theorem l7Do_load (P o : Nat) (S : Nat → Prop) (A : SA) (D : SD) (I oi k ia ib : Nat) (op im : Int) (w : World) (H : DoH P o S A D I oi k ia ib op im w) (ho : op = 4) :
    Calls Tryz.prog 83 #[.pointer (some ⟨P, o, none⟩), .pointer (some ⟨I, oi, none⟩)] w (DoP P o S (mvD D k 4 ia ib im) (plK D (wrp (gt (gx D.cs k).1 ib + im)) 1) (plT D (wrp (gt (gx D.cs k).1 ib + im))) w) := by
  subst ho
  have hlt := H.y.lt
  have h8 := H.l8
  have hia := H.hia
  have hib := H.hib
  have hk := H.hk
  obtain ⟨N, b0, lc0, ea, _, _, _, _, _, _, _, _, _, _, _, _, _⟩ := H.y.ctx H.hk (by omega)
  have x4 := H.y.cs.cell 4 rfl
  have x5 := H.y.cs.cell 5 rfl
  rw [ea] at x4
  rw [H.ac] at x5
  have i0 := H.hi.cell 0 rfl
  have i1 := H.hi.cell 1 rfl
  have i2 := H.hi.cell 2 rfl
  have i3 := H.hi.cell 3 rfl
  simp only [Nat.add_zero] at i0
  have k0 : (0 : Int) ≤ (k : Int) := by omega
  have k1 : (k : Int) < (A.xn : Int) := by omega
  have a0 : (0 : Int) ≤ (ia : Int) := by omega
  have a1 : (ia : Int) < 8 := by omega
  have b0' : (0 : Int) ≤ (ib : Int) := by omega
  have b1' : (ib : Int) < 8 := by omega
  have HH := hide H
  clear H
  go_enter Tryz.func83, Tryz.ntmps83
  go_wp2_with fail
  go_quiet (fail)
  obtain ⟨u, hu⟩ : ∃ u, u = w.drewN nq := ⟨_, rfl⟩
  have B2 : Below w.heap.size w u := by rw [hu]; exact bdrewN (Below.refl _ _) nq
  rw [← hu]
  clear i0 i1 i2 i3 x4 x5 hu
  have I2 : CsO I oi [.int .i64 4, .int .i64 (ia : Int), .int .i64 (ib : Int), .int .i64 im] u := fun i hl => (World.cell?_of_block (a := ⟨I, oi + i, none⟩) (B2.block I HH.out.il)).trans (HH.out.hi i hl)
  have i0 := I2.cell 0 rfl
  simp only [Nat.add_zero] at i0
  have HC := hide (l7Move_calls P o S A D I oi k ia ib 4 im u (HH.out.y.below B2) HH.out.f HH.out.ac HH.out.hk HH.out.l8 HH.out.rg HH.out.hia HH.out.hib HH.out.him I2 (Nat.lt_of_lt_of_le HH.out.il B2.size))
  clear I2
  go_wp2_with fail
  refine HC.out.mono ?_
  rintro e w2 ⟨rfl, hy2, ho2⟩
  have HY2 := hide hy2
  clear hy2
  go_wp2
  refine bodyPost_ret (v := .tuple #[.int .i64 (plK D (wrp (gt (gx D.cs k).1 ib + im)) 1), .int .i64 (plT D (wrp (gt (gx D.cs k).1 ib + im)))]) (by simp [results, Tryz.results83, go_sem]) rfl ⟨rfl, ⟨A, ?_⟩, ?_⟩
  · exact YM.wide HY2.out hlt
  · exact OutS.wide HH.out.y.ns hlt ((OutS.of_below B2).trans ho2)

set_option maxRecDepth 100000 in
set_option maxHeartbeats 4000000 in
theorem l7Do_store (P o : Nat) (S : Nat → Prop) (A : SA) (D : SD) (I oi k ia ib : Nat) (op im : Int) (w : World) (H : DoH P o S A D I oi k ia ib op im w) (ho : op = 5) :
    Calls Tryz.prog 83 #[.pointer (some ⟨P, o, none⟩), .pointer (some ⟨I, oi, none⟩)] w (DoP P o S (mvD D k 5 ia ib im) (plK D (wrp (gt (gx D.cs k).1 ib + im)) 2) (plT D (wrp (gt (gx D.cs k).1 ib + im))) w) := by
  subst ho
  have hlt := H.y.lt
  have h8 := H.l8
  have hia := H.hia
  have hib := H.hib
  have hk := H.hk
  obtain ⟨N, b0, lc0, ea, _, _, _, _, _, _, _, _, _, _, _, _, _⟩ := H.y.ctx H.hk (by omega)
  have x4 := H.y.cs.cell 4 rfl
  have x5 := H.y.cs.cell 5 rfl
  rw [ea] at x4
  rw [H.ac] at x5
  have i0 := H.hi.cell 0 rfl
  have i1 := H.hi.cell 1 rfl
  have i2 := H.hi.cell 2 rfl
  have i3 := H.hi.cell 3 rfl
  simp only [Nat.add_zero] at i0
  have k0 : (0 : Int) ≤ (k : Int) := by omega
  have k1 : (k : Int) < (A.xn : Int) := by omega
  have a0 : (0 : Int) ≤ (ia : Int) := by omega
  have a1 : (ia : Int) < 8 := by omega
  have b0' : (0 : Int) ≤ (ib : Int) := by omega
  have b1' : (ib : Int) < 8 := by omega
  have HH := hide H
  clear H
  go_enter Tryz.func83, Tryz.ntmps83
  go_wp2_with fail
  go_quiet (fail)
  obtain ⟨u, hu⟩ : ∃ u, u = w.drewN nq := ⟨_, rfl⟩
  have B2 : Below w.heap.size w u := by rw [hu]; exact bdrewN (Below.refl _ _) nq
  rw [← hu]
  clear i0 i1 i2 i3 x4 x5 hu
  have I2 : CsO I oi [.int .i64 5, .int .i64 (ia : Int), .int .i64 (ib : Int), .int .i64 im] u := fun i hl => (World.cell?_of_block (a := ⟨I, oi + i, none⟩) (B2.block I HH.out.il)).trans (HH.out.hi i hl)
  have i0 := I2.cell 0 rfl
  simp only [Nat.add_zero] at i0
  have HC := hide (l7Move_calls P o S A D I oi k ia ib 5 im u (HH.out.y.below B2) HH.out.f HH.out.ac HH.out.hk HH.out.l8 HH.out.rg HH.out.hia HH.out.hib HH.out.him I2 (Nat.lt_of_lt_of_le HH.out.il B2.size))
  clear I2
  go_wp2_with fail
  refine HC.out.mono ?_
  rintro e w2 ⟨rfl, hy2, ho2⟩
  have HY2 := hide hy2
  clear hy2
  go_wp2
  refine bodyPost_ret (v := .tuple #[.int .i64 (plK D (wrp (gt (gx D.cs k).1 ib + im)) 2), .int .i64 (plT D (wrp (gt (gx D.cs k).1 ib + im)))]) (by simp [results, Tryz.results83, go_sem]) rfl ⟨rfl, ⟨A, ?_⟩, ?_⟩
  · exact YM.wide HY2.out hlt
  · exact OutS.wide HH.out.y.ns hlt ((OutS.of_below B2).trans ho2)

set_option maxRecDepth 100000 in
set_option maxHeartbeats 4000000 in
theorem l7Do_bad (P o : Nat) (S : Nat → Prop) (A : SA) (D : SD) (I oi k ia ib : Nat) (op im : Int) (w : World) (H : DoH P o S A D I oi k ia ib op im w) (ho : op < 0 ∨ 10 < op) :
    Calls Tryz.prog 83 #[.pointer (some ⟨P, o, none⟩), .pointer (some ⟨I, oi, none⟩)] w (DoP P o S (D) (3) (0) w) := by
  have e0 : (op == 0) = false := by simp; omega
  have e1 : (op == 1) = false := by simp; omega
  have e2 : (op == 2) = false := by simp; omega
  have e3 : (op == 3) = false := by simp; omega
  have e4 : (op == 4) = false := by simp; omega
  have e5 : (op == 5) = false := by simp; omega
  have e6 : (op == 6) = false := by simp; omega
  have e7 : (op == 7) = false := by simp; omega
  have e8 : (op == 8) = false := by simp; omega
  have e9 : (op == 9) = false := by simp; omega
  have e10 : (op == 10) = false := by simp; omega
  have hlt := H.y.lt
  have h8 := H.l8
  have hia := H.hia
  have hib := H.hib
  have hk := H.hk
  obtain ⟨N, b0, lc0, ea, _, _, _, _, _, _, _, _, _, _, _, _, _⟩ := H.y.ctx H.hk (by omega)
  have x4 := H.y.cs.cell 4 rfl
  have x5 := H.y.cs.cell 5 rfl
  rw [ea] at x4
  rw [H.ac] at x5
  have i0 := H.hi.cell 0 rfl
  have i1 := H.hi.cell 1 rfl
  have i2 := H.hi.cell 2 rfl
  have i3 := H.hi.cell 3 rfl
  simp only [Nat.add_zero] at i0
  have k0 : (0 : Int) ≤ (k : Int) := by omega
  have k1 : (k : Int) < (A.xn : Int) := by omega
  have a0 : (0 : Int) ≤ (ia : Int) := by omega
  have a1 : (ia : Int) < 8 := by omega
  have b0' : (0 : Int) ≤ (ib : Int) := by omega
  have b1' : (ib : Int) < 8 := by omega
  have HH := hide H
  clear H
  go_enter Tryz.func83, Tryz.ntmps83
  go_wp2_with fail
  go_quiet (fail)
  go_wp2
  refine bodyPost_ret (v := .tuple #[.int .i64 (3), .int .i64 (0)]) (by simp [results, Tryz.results83, go_sem]) rfl ⟨rfl, ⟨A, ?_⟩, ?_⟩
  · exact YM.wide (HH.out.y.below (bdrewN (Below.refl _ _) _)) hlt
  · exact OutS.wide HH.out.y.ns hlt (OutS.of_below (bdrewN (Below.refl _ _) _))

end Go.Proofs.YtcojgmecocjnkaaGreat
