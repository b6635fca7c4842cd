import Derived.Test.YtcojgmecocjnkaaGreatG27
import Derived.StillTailTactics
import Derived.WalkKit
import Derived.ProofKit
import Derived.OpenShut
import Derived.ShutString
import Derived.ChangeOld
import Derived.Below
import Derived.WalkSpells
import Derived.Deep.QuietTactic
import Derived.BigQuiet
import Derived.Deep.RegionWith
import Derived.Deep.WholeRow
import Derived.Deep.DeepCutAuto
import Derived.Deep.RegionHeld2
import Derived.Deep.AppendLies
import Derived.Deep.RegionLaw
namespace Go.Proofs.YtcojgmecocjnkaaGreat
open Go.ChangeShapes Go.WideShapes Go.ChangeAt Go.RowKit

/-- what moving does to a system: D of it behind. -/
def mvD (D : SD) (k : Nat) (op ia ib im : Int) : SD :=
  if plK D (wrp (gt (gx D.cs k).1 ib.toNat + im)) (if op = 5 then 2 else 1) = 1 then
    (if op = 5 then { D with ws := D.ws.set (wrp (gt (gx D.cs k).1 ib.toNat + im)).toNat (gt (gx D.cs k).1 ia.toNat, (gw D.ws (wrp (gt (gx D.cs k).1 ib.toNat + im)).toNat).2) }
     else { D with cs := D.cs.set k ((gx D.cs k).1.set ia.toNat (gw D.ws (wrp (gt (gx D.cs k).1 ib.toNat + im)).toNat).1, (gx D.cs k).2.1, (gx D.cs k).2.2) })
  else D

theorem plK_one {D : SD} {p bit : Int} (h : plK D p bit = 1) : 0 ≤ p ∧ p < (D.ws.length : Int) := by
  unfold plK at h
  split at h
  · rename_i hu
    have := up_iff.1 hu
    omega
  · omega

set_option maxRecDepth 100000 in
set_option maxHeartbeats 4000000 in
theorem l7Move_calls (P o : Nat) (S : Nat → Prop) (A : SA) (D : SD) (I oi k ia ib : Nat) (op im : Int) (w : World) (hy : YM P o S A D w) (hf : LB D.ls) (hac : D.ac = (k : Int)) (hk : k < A.xn) (h8 : (gx D.cs k).1.length = 8)
    (hrg : ∀ j, j < 8 → 0 ≤ gt (gx D.cs k).1 j ∧ gt (gx D.cs k).1 j ≤ 65535) (hia : ia < 8) (hib : ib < 8) (him : 0 ≤ im ∧ im ≤ 65535) (hi : CsO I oi [.int .i64 op, .int .i64 (ia : Int), .int .i64 (ib : Int), .int .i64 im] w) (hI : I < w.heap.size) :
    Calls Tryz.prog 154 #[.pointer (some ⟨P, o, none⟩), .pointer (some ⟨I, oi, none⟩)] w fun e w' => e = .returned (.tuple #[.int .i64 (plK D (wrp (gt (gx D.cs k).1 ib + im)) (if op = 5 then 2 else 1)), .int .i64 (plT D (wrp (gt (gx D.cs k).1 ib + im)))]) ∧ YM P o S A (mvD D k op ia ib im) w' ∧ OutS S w w' := by
  have hr := hy.y.oy.rs
  have hwl := hr.len.2.2.2.1
  obtain ⟨j, hj⟩ : ∃ j : Nat, wrp (gt (gx D.cs k).1 ib + im) = (j : Int) := ⟨(wrp (gt (gx D.cs k).1 ib + im)).toNat, by have := wrp_in (gt (gx D.cs k).1 ib + im); omega⟩
  have HM : Hid (mvD D k op ia ib im = if plK D (j : Int) (if op = 5 then 2 else 1) = 1 then (if op = 5 then { D with ws := D.ws.set j (gt (gx D.cs k).1 ia, (gw D.ws j).2) } else { D with cs := D.cs.set k ((gx D.cs k).1.set ia (gw D.ws j).1, (gx D.cs k).2.1, (gx D.cs k).2.2) }) else D) := by
    show _ = _
    unfold mvD
    simp only [Int.toNat_natCast, hj]
  have HI : Hid (∀ W, Below w.heap.size w W → CsO I oi [.int .i64 op, .int .i64 (ia : Int), .int .i64 (ib : Int), .int .i64 im] W) := fun W hb i hl => (World.cell?_of_block (a := ⟨I, oi + i, none⟩) (hb.block I hI)).trans (hi i hl)
  obtain ⟨N, b, lc, ea, sN, sb, ne, nP, bP, c0, c1, c2, fz, blk, f1, f2, f3⟩ := hy.ctx hk (by omega)
  have x4 := hy.cs.cell 4 rfl
  have x5 := hy.cs.cell 5 rfl
  rw [ea] at x4
  rw [hac] at x5
  rw [h8] at c0
  have i0 := hi.cell 0 rfl
  have i1 := hi.cell 1 rfl
  have i2 := hi.cell 2 rfl
  have i3 := hi.cell 3 rfl
  simp only [Nat.add_zero] at i0
  have rB := blk.2.1 ib (by omega)
  have k0 : (0 : Int) ≤ (k : Int) := by omega
  have k1 : (k : Int) < (A.xn : Int) := by omega
  have b0 : (0 : Int) ≤ (ib : Int) := by omega
  have b1 : (ib : Int) < 8 := by omega
  have a0 : (0 : Int) ≤ (ia : Int) := by omega
  have a1 : (ia : Int) < 8 := by omega
  obtain ⟨g0, g1⟩ := hrg ib hib
  have hwp : IntKind.i64.wrap (gt (gx D.cs k).1 ib + im) = gt (gx D.cs k).1 ib + im := IntWalk.i64_in _ (by omega)
  have HW : Hid (∀ W, Calls Tryz.prog 82 #[.int .i64 (gt (gx D.cs k).1 ib + im)] W fun e w' => e = .returned (.int .i64 (j : Int)) ∧ w' = W) := fun W => by
    have := l7Wrap_calls (gt (gx D.cs k).1 ib + im) W (by omega) (by omega)
    rw [hj] at this
    exact this
  have HY := hide hy
  clear f1 f2 f3 hy hi c1 c2 blk hr sN sb ne nP bP fz hwp
  have hwp : IntKind.i64.wrap (gt (gx D.cs k).1 ib + im) = gt (gx D.cs k).1 ib + im := IntWalk.i64_in _ (by omega)
  go_enter Tryz.func154, Tryz.ntmps154
  go_wp2_with fail
  go_quiet (fail)
  go_wp2_with fail
  go_quiet (first | (go_at_call 82; refine (HW.out _).mono (fun e w2 h => ⟨h.1, _, h.2⟩)))
  by_cases ho : op = 5
  · subst ho
    go_wp2_with fail
    refine (l7Place_calls P o A D (j : Int) 2 _ hf (by omega) ((HY.out.below (bdrewN (Below.refl _ _) _)).cs) ((HY.out.below (bdrewN (Below.refl _ _) _)).y.oy.rs)).mono ?_
    rintro e w2 ⟨rfl, g2⟩
    have B2 : Below w.heap.size w w2 := (bdrewN (Below.refl _ _) _).trans (g2.mono (by simp))
    clear c0 x4 x5 i0 i1 i2 i3 rB
    have i0 := (HI.out w2 B2).cell 0 rfl
    have i1 := (HI.out w2 B2).cell 1 rfl
    simp only [Nat.add_zero] at i0
    by_cases hp1 : plK D (j : Int) 2 = 1
    · rw [hp1]
      have hjw : j < A.wn := by have := plK_one hp1; omega
      have Y2 := HY.out.below B2
      have Y3 := Y2.below ((Below.refl _ _).drew)
      obtain ⟨N', b, lc, ea', sN, sb, ne, nP, bP, c0, c1, c2, fz, blk, f1, f2, f3⟩ := Y3.ctx hk (by omega)
      obtain rfl : N = N' := by have := ea.symm.trans ea'; simpa using this
      obtain ⟨bw, ew, sw, nw, lw, r0, r1, rf, rs⟩ := Y3.word hjw
      have HS := hide (rs (gt (gx D.cs k).1 ia))
      have HO : Hid (OutS S w (w2.drew.setCell ⟨bw, j * 2, none⟩ (.int .i64 (gt (gx D.cs k).1 ia)))) := (OutS.of_below B2.drew).setCell (by exact sw) _
      have q1 : w2.frozen? ⟨bw, j * 2, none⟩ = false := rf (j * 2)
      have x3 := Y2.cs.cell 3 rfl
      rw [ew] at x3
      rw [h8] at c0
      have rA : w2.cell? ⟨b, ia, none⟩ = some (.int .i64 (gt (gx D.cs k).1 ia)) := blk.2.1 ia (by omega)
      have j0 : (0 : Int) ≤ (j : Int) := by omega
      have j1 : (j : Int) < (A.wn : Int) := by omega
      have q0 : w2.cell? ⟨bw, j * 2, none⟩ = some (.int .i64 (gw D.ws j).1) := r0
      have q2 : w2.cell? ⟨N, k * 3, none⟩ = some (.slice (some ⟨b, 0, none⟩) 8 lc) := c0
      clear rs f1 f2 f3 fz c0 c1 c2 blk Y2 Y3 r0 r1 rf
      go_wp2_with fail
      go_still_tail 18, (by kernel_rfl)
      have hyw : { heap := w2.heap, tape := w2.tape, drawn := w2.drawn + 1, os := w2.os, output := w2.output } = w2.drew := rfl
      try rw [hyw]
      clear hyw
      go_wp2
      refine bodyPost_ret (v := .tuple #[.int .i64 1, .int .i64 (plT D (j : Int))]) (by simp [results, Tryz.results154, go_sem]) rfl ⟨by first | rfl | rw [hj, if_pos rfl, hp1], ?_, HO.out⟩
      rw [HM.out, if_pos trivial, if_pos hp1, if_pos trivial]
      exact HS.out
    · have hp2 : (plK D (j : Int) 2 == 1) = false := by simpa using hp1
      have hp3 : (plK D (j : Int) 2 != 1) = true := by simpa using hp1
      have Y2 := hide (HY.out.below B2)
      go_wp2
      refine bodyPost_ret (v := .tuple #[.int .i64 (plK D (j : Int) 2), .int .i64 (plT D (j : Int))]) (by simp [results, Tryz.results154, go_sem]) rfl ⟨by first | rfl | rw [hj, if_pos rfl], ?_, OutS.of_below B2⟩
      rw [HM.out, if_pos trivial, if_neg hp1]
      exact Y2.out
  · have he : (op == 5) = false := by simpa using ho
    go_wp2_with fail
    refine (l7Place_calls P o A D (j : Int) 1 _ hf (by omega) ((HY.out.below (bdrewN (Below.refl _ _) _)).cs) ((HY.out.below (bdrewN (Below.refl _ _) _)).y.oy.rs)).mono ?_
    rintro e w2 ⟨rfl, g2⟩
    have B2 : Below w.heap.size w w2 := (bdrewN (Below.refl _ _) _).trans (g2.mono (by simp))
    clear c0 x4 x5 i0 i1 i2 i3 rB
    have i0 := (HI.out w2 B2).cell 0 rfl
    have i1 := (HI.out w2 B2).cell 1 rfl
    simp only [Nat.add_zero] at i0
    by_cases hp1 : plK D (j : Int) 1 = 1
    · rw [hp1]
      have hjw : j < A.wn := by have := plK_one hp1; omega
      have Y2 := HY.out.below B2
      have Y3 := Y2.below ((Below.refl _ _).drew)
      obtain ⟨N', b, lc, ea', sN, sb, ne, nP, bP, c0, c1, c2, fz, blk, f1, f2, f3⟩ := Y3.ctx hk (by omega)
      obtain rfl : N = N' := by have := ea.symm.trans ea'; simpa using this
      obtain ⟨bw, ew, sw, nw, lw, r0, r1, rf, rs⟩ := Y3.word hjw
      have HS := hide (f3 ia (gw D.ws j).1 (by omega))
      have HO : Hid (OutS S w (w2.drew.setCell ⟨b, ia, none⟩ (.int .i64 (gw D.ws j).1))) := (OutS.of_below B2.drew).setCell (by exact sb) _
      have q1 : w2.frozen? ⟨b, ia, none⟩ = false := blk.2.2 ia
      have x3 := Y2.cs.cell 3 rfl
      rw [ew] at x3
      rw [h8] at c0
      have rA : w2.cell? ⟨b, ia, none⟩ = some (.int .i64 (gt (gx D.cs k).1 ia)) := blk.2.1 ia (by omega)
      have j0 : (0 : Int) ≤ (j : Int) := by omega
      have j1 : (j : Int) < (A.wn : Int) := by omega
      have q0 : w2.cell? ⟨bw, j * 2, none⟩ = some (.int .i64 (gw D.ws j).1) := r0
      have q2 : w2.cell? ⟨N, k * 3, none⟩ = some (.slice (some ⟨b, 0, none⟩) 8 lc) := c0
      clear rs f1 f2 f3 fz c0 c1 c2 blk Y2 Y3 r0 r1 rf
      go_wp2_with fail
      go_still_tail 18, (by kernel_rfl)
      have hyw : { heap := w2.heap, tape := w2.tape, drawn := w2.drawn + 1, os := w2.os, output := w2.output } = w2.drew := rfl
      try rw [hyw]
      clear hyw
      go_wp2
      refine bodyPost_ret (v := .tuple #[.int .i64 1, .int .i64 (plT D (j : Int))]) (by simp [results, Tryz.results154, go_sem]) rfl ⟨by first | rfl | rw [hj, if_neg ho, hp1], ?_, HO.out⟩
      rw [HM.out, if_neg ho, if_pos hp1, if_neg ho]
      exact HS.out
    · have hp2 : (plK D (j : Int) 1 == 1) = false := by simpa using hp1
      have hp3 : (plK D (j : Int) 1 != 1) = true := by simpa using hp1
      have Y2 := hide (HY.out.below B2)
      go_wp2
      refine bodyPost_ret (v := .tuple #[.int .i64 (plK D (j : Int) 1), .int .i64 (plT D (j : Int))]) (by simp [results, Tryz.results154, go_sem]) rfl ⟨by first | rfl | rw [hj, if_neg ho], ?_, OutS.of_below B2⟩
      rw [HM.out, if_neg ho, if_neg hp1]
      exact Y2.out

theorem RW.grown {S : Nat → Prop} {n cp g : Nat} {ts : List Int} {x : Int} {w : World} (hos : OS S (some ⟨g, 0, none⟩) (n + 1) (ts ++ [x]) w) (hown : w.ownsRow 0 2 1 (.slice (some ⟨g, 0, none⟩) (n + 1) cp) (n + 1) (ts.map (Value.int .i64) ++ [.int .i64 x])) : RW S (some ⟨g, 0, none⟩) (n + 1) cp (ts ++ [x]) w := by
  refine ⟨hos, by rw [List.map_append]; exact hown, fun g' hg => ?_⟩
  simp [Value.ownBlock] at hg
  subst hg
  rcases hos.2.2 with h | ⟨b, e, hb, _⟩
  · omega
  · injection e with e; injection e with e; rw [e]; exact hb

/-- the cells of block P ahead of o are as they were. -/
def KeepO (P o : Nat) (w w' : World) : Prop := ∀ q, q < o → w'.cell? ⟨P, q, none⟩ = w.cell? ⟨P, q, none⟩

theorem KeepO.refl (P o : Nat) (w : World) : KeepO P o w w := fun _ _ => rfl
theorem KeepO.trans {P o : Nat} {u v w : World} (h : KeepO P o u v) (k : KeepO P o v w) : KeepO P o u w := fun q hq => (k q hq).trans (h q hq)
theorem KeepO.of_below {P o : Nat} {w w' : World} (h : Below w.heap.size w w') (hP : P < w.heap.size) : KeepO P o w w' := fun q _ => World.cell?_of_block (a := ⟨P, q, none⟩) (h.block P hP)
theorem KeepO.of_out {P o : Nat} {S : Nat → Prop} {w w' : World} (h : OutS S w w') (hn : ¬ S P) (hP : P < w.heap.size) : KeepO P o w w' := fun q _ => World.cell?_of_block (a := ⟨P, q, none⟩) (h.block P hP hn)

/-- Out of a system of our own behind a pointer is appended to. -/
theorem YM.app {P o : Nat} {S : Nat → Prop} {A : SA} {D : SD} {X w5 : World} (h : YM P o S A D X) (hsz : szY A D + 1 ≤ 1048576) (hs : ∀ k, S k → k < X.heap.size) {g cp : Nat} {x : Int} (hg : X.grownBy w5 (Value.slice A.oa A.on A.oc).ownBlock) (hat : (Value.slice A.oa A.on A.oc).ownBlock = some g ∨ g = X.heap.size)
    (hown : w5.ownsRow 0 2 1 (.slice (some ⟨g, 0, none⟩) (A.on + 1) cp) (A.on + 1) (D.os.map (Value.int .i64) ++ [.int .i64 x])) :
    w5.cell? ⟨P, o + 9, none⟩ = some (.slice A.oa A.on A.oc) ∧ w5.frozen? ⟨P, o + 9, none⟩ = false ∧ w5.cell? ⟨P, o + 8, none⟩ = some (.int .i64 D.dv) ∧
    YM P o (fun k => S k ∨ (k = X.heap.size ∧ k < w5.heap.size)) { A with oa := some ⟨g, 0, none⟩, on := A.on + 1, oc := cp } { D with os := D.os ++ [x] } (w5.setCell ⟨P, o + 9, none⟩ (.slice (some ⟨g, 0, none⟩) (A.on + 1) cp)) ∧ OutS (fun k => S k ∨ k = P) X (w5.setCell ⟨P, o + 9, none⟩ (.slice (some ⟨g, 0, none⟩) (A.on + 1) cp)) ∧ OutS (fun k => (Value.slice A.oa A.on A.oc).ownBlock = some k ∨ k = P) X (w5.setCell ⟨P, o + 9, none⟩ (.slice (some ⟨g, 0, none⟩) (A.on + 1) cp)) ∧ KeepO P o X (w5.setCell ⟨P, o + 9, none⟩ (.slice (some ⟨g, 0, none⟩) (A.on + 1) cp)) := by
  obtain ⟨Q, q1, q2, q3, q4, q5, q6⟩ := h.y
  have hP := h.lt
  obtain ⟨x5, u5⟩ := q6.1.app hg hat hown (by unfold szY at hsz; omega)
  have z5 := u5.size
  have pb : w5.heap[P]? = X.heap[P]? := u5.block P hP (fun e => h.ns (q1 _ _ e))
  have h5 : CsO P o _ w5 := fun i hi => (World.cell?_of_block (a := ⟨P, o + i, none⟩) pb).trans (h.cs i hi)
  have f5 : ∀ j, w5.frozen? ⟨P, j, none⟩ = false := fun j => (World.frozen?_of_block (a := ⟨P, j, none⟩) pb).trans (h.fz j)
  have c9 := h5.cell 9 rfl
  refine ⟨c9, f5 _, h5.cell 8 rfl, ⟨?_, fun j => by simpa using f5 j, fun e => ?_, by simp; omega, ?_⟩, ?_, ?_, fun q hq => by rw [World.cell?_setCell_other _ _ _ _ (fun e => by injection e with _ e2; omega)]; exact World.cell?_of_block (a := ⟨P, q, none⟩) pb⟩
  · have ot : ∀ {i : Nat} {v : Value}, i ≠ 9 → w5.cell? ⟨P, o + i, none⟩ = some v → (w5.setCell ⟨P, o + 9, none⟩ (.slice (some ⟨g, 0, none⟩) (A.on + 1) cp)).cell? ⟨P, o + i, none⟩ = some v := fun {i v} hi hv => by
      rw [World.cell?_setCell_other _ _ _ _ (fun e => by injection e with _ e2; omega)]
      exact hv
    intro i hi
    simp only [List.length_cons, List.length_nil] at hi
    rcases (by omega : i = 0 ∨ i = 1 ∨ i = 2 ∨ i = 3 ∨ i = 4 ∨ i = 5 ∨ i = 6 ∨ i = 7 ∨ i = 8 ∨ i = 9 ∨ i = 10) with rfl | rfl | rfl | rfl | rfl | rfl | rfl | rfl | rfl | rfl | rfl
    · exact ot (by decide) (h5.cell 0 rfl)
    · exact ot (by decide) (h5.cell 1 rfl)
    · exact ot (by decide) (h5.cell 2 rfl)
    · exact ot (by decide) (h5.cell 3 rfl)
    · exact ot (by decide) (h5.cell 4 rfl)
    · exact ot (by decide) (h5.cell 5 rfl)
    · exact ot (by decide) (h5.cell 6 rfl)
    · exact ot (by decide) (h5.cell 7 rfl)
    · exact ot (by decide) (h5.cell 8 rfl)
    · exact World.cell?_setCell_same _ _ _ c9
    · exact ot (by decide) (h5.cell 10 rfl)
  · rcases e with e | e
    · exact h.ns e
    · omega
  · have hne : ∀ i k, Q i k → k ≠ P := fun i k e e2 => h.ns (e2 ▸ q1 _ _ e)
    have hk : ∀ j k, j ≠ 4 → Q j k → k < X.heap.size → (w5.setCell ⟨P, o + 9, none⟩ (.slice (some ⟨g, 0, none⟩) (A.on + 1) cp)).heap[k]? = X.heap[k]? := fun j k hj e hl => (Below.heap_setCell _ _ _ _ (hne j k e)).trans (u5.block k hl (q2 j 4 k hj e))
    have hR : RW (fun k => Q 4 k ∨ (k = X.heap.size ∧ k < w5.heap.size)) (some ⟨g, 0, none⟩) (A.on + 1) cp (D.os ++ [x]) (w5.setCell ⟨P, o + 9, none⟩ (.slice (some ⟨g, 0, none⟩) (A.on + 1) cp)) :=
      RW.loc _ _ (fun k e hl => Below.heap_setCell _ _ _ _ (by rcases e with e | e; exact hne 4 k e; show k ≠ P; omega)) (RW.grown (x5.mono (fun k e => by rcases e with e | e; exact .inl e; exact .inr e)) hown)
    refine ⟨fun i k => if i = 4 then (Q 4 k ∨ (k = X.heap.size ∧ k < w5.heap.size)) else Q i k, fun i k e => ?_, fun i j k hij e e2 => ?_, ?_, q4, ?_, ?_⟩
    · simp only at e
      split at e
      · rcases e with e | e
        · exact .inl (q1 _ _ e)
        · exact .inr e
      · exact .inl (q1 _ _ e)
    · simp only at e e2
      split at e
      · rename_i h4
        rw [if_neg (by omega)] at e2
        have := hs k (q1 _ _ e2)
        rcases e with e | e
        · exact q2 4 j k (by omega) e e2
        · omega
      · have := hs k (q1 _ _ e)
        split at e2
        · rcases e2 with e2 | e2
          · exact q2 i 4 k (by omega) e e2
          · omega
        · exact q2 i j k hij e e2
    · unfold szY at hsz ⊢
      simp only
      omega
    · refine ⟨OT.loc X _ (fun k e hl => hk 0 k (by decide) e hl) q5.t, OWd.loc X _ (fun k e hl => hk 1 k (by decide) e hl) q5.m, OX.loc X _ (fun k e hl => hk 2 k (by decide) e hl) q5.x, OL.loc X _ (fun k e hl => hk 3 k (by decide) e hl) q5.l, hR.1, OWd.loc X _ (fun k e hl => hk 5 k (by decide) e hl) q5.g⟩
    · exact ⟨hR, RLn.loc X _ (fun k e hl => hk 3 k (by decide) e hl) q6.2.1, RSl.loc X _ (fun k e hl => hk 0 k (by decide) e hl) q6.2.2⟩
  · exact (u5.mono (fun k e => .inl (q1 _ _ e))).setCell (by exact .inr rfl) _
  · exact OutS.setCell (S := fun k => (Value.slice A.oa A.on A.oc).ownBlock = some k ∨ k = P) ⟨hg.os, hg.tape, hg.output, hg.size, fun k hk hn => hg.block k hk (fun e => hn (.inl e.symm))⟩ (by exact .inr rfl) _

/-- what sending gives. -/
def sdK (D : SD) : Int := if 40 ≤ D.os.length then 3 else askK D D.dv 2
def sdT (D : SD) : Int := if 40 ≤ D.os.length then 0 else D.dv
def sdD (D : SD) (v : Int) : SD := if sdK D = 1 then { D with os := D.os ++ [v] } else D

set_option maxRecDepth 100000 in
set_option maxHeartbeats 4000000 in
theorem l7Send_calls (P o : Nat) (S : Nat → Prop) (A : SA) (D : SD) (v : Int) (w : World) (hy : YM P o S A D w) (hf : LB D.ls) (hsz : szY A D + 1 ≤ 1048576) (hs : ∀ k, S k → k < w.heap.size) :
    Calls Tryz.prog 155 #[.pointer (some ⟨P, o, none⟩), .int .i64 v] w fun e w' => e = .returned (.tuple #[.int .i64 (sdK D), .int .i64 (sdT D)]) ∧ (∃ B : SA, YM P o (fun k => S k ∨ (w.heap.size ≤ k ∧ k < w'.heap.size)) B (sdD D v) w') ∧ OutS (fun k => S k ∨ k = P) w w' ∧ OutS (fun k => (Value.slice A.oa A.on A.oc).ownBlock = some k ∨ k = P) w w' ∧ KeepO P o w w' := by
  have hr := hy.y.oy.rs
  have hol := hr.len.2.2.2.2.2.2.1
  have hPl := hy.lt
  have hPn := hy.ns
  have hon : A.on + 1 ≤ 1048576 := by unfold szY at hsz; omega
  have x9 := hy.cs.cell 9 rfl
  have x8 := hy.cs.cell 8 rfl
  by_cases h40 : 40 ≤ A.on
  · have HK : Hid (sdK D = 3) := if_pos (by omega)
    have HT : Hid (sdT D = 0) := if_pos (by omega)
    have HD : Hid (sdD D v = D) := if_neg (by rw [HK.out]; decide)
    have h40' : (40 : Int) ≤ (A.on : Int) := by omega
    have HY := hide hy
    clear hy hr
    go_enter Tryz.func155, Tryz.ntmps155
    go_wp2
    refine bodyPost_ret (v := .tuple #[.int .i64 3, .int .i64 0]) (by simp [results, Tryz.results155, go_sem]) rfl ⟨by rw [HK.out, HT.out], ⟨A, ?_⟩, OutS.refl _ _, OutS.refl _ _, KeepO.refl _ _ _⟩
    rw [HD.out]
    exact HY.out.mono (fun k e => .inl e) (fun e => by rcases e with e | e; exact hPn e; omega)
  · have HK : Hid (sdK D = askK D D.dv 2) := if_neg (by omega)
    have HT : Hid (sdT D = D.dv) := if_neg (by omega)
    have h40' : ¬ (40 : Int) ≤ (A.on : Int) := by omega
    have HY := hide hy
    have HR := hide hr
    clear hy hr
    go_enter Tryz.func155, Tryz.ntmps155
    go_wp2_with fail
    refine (l7Asked_calls P o A D _ 2 _ hf (by omega) HY.out.cs HR.out).mono ?_
    rintro e w2 ⟨rfl, g2⟩
    have Y2 := HY.out.below g2
    have z2 := g2.size
    clear x9 x8
    by_cases ha : askK D D.dv 2 = 1
    · have HD : Hid (sdD D v = { D with os := D.os ++ [v] }) := if_pos (by rw [HK.out]; exact ha)
      rw [ha]
      have x9 := Y2.cs.cell 9 rfl
      have al3 := (Below.refl w2.heap.size w2).alloc (Nat.le_refl _) (.cells #[.int .i64 v] 2)
      have Y3 := Y2.below al3
      have HW3 : Hid ((w2.alloc (.cells #[.int .i64 v] 2)).ownsRow 0 2 1 (.slice A.oa A.on A.oc) A.on (D.os.map (Value.int .i64))) := by
        obtain ⟨Q, _, _, _, _, _, q6⟩ := Y3.y
        exact q6.1.2.1
      have HY3 := hide Y3
      have HB := hide (g2.trans (al3.mono z2))
      obtain ⟨i0, hi, hz0, hzz1, hzz2⟩ := info_parts info2
      clear Y2 Y3 al3
      go_wp2_with (first
        | (at_builtin; refine wpList_append_lies _ rfl _ _ 25 rfl 0 2 i0 (.int .i64 0) 1 8 Tryz.underlying25 hi hz0 hzz1 hzz2 rfl (by decide) _ A.on (D.os.map (Value.int .i64)) rfl HW3.out ⟨w2.heap.size, 0, none⟩ 1 1 [.int .i64 v] rfl rfl (one_new (by go_simp)) (by simp [Value.oneCell']) (by omega) (by unfold maxLen; omega) (by omega) (Nat.zero_le _) (w2.heap.size + 1) (by simp) ?_)
        | go_in)
      intro g cp w5 hown5 hgrow hat hlt5
      obtain ⟨c9, f9, c8, Y5, u5, u6, k5⟩ := HY3.out.app hsz (fun k e => by have := hs k e; simp; omega) hgrow (by rw [World.size_alloc]; exact hat) hown5
      have HY5 := hide Y5
      have HO : Hid (OutS (fun k => S k ∨ k = P) w (w5.setCell ⟨P, o + 9, none⟩ (.slice (some ⟨g, 0, none⟩) (A.on + 1) cp))) := (OutS.of_below HB.out).trans u5
      have HO6 := hide (OutS.trans (OutS.of_below HB.out) u6)
      have HK5 := hide (KeepO.trans (KeepO.of_below HB.out hPl) k5)
      clear Y5 u5 u6 k5 hown5 hgrow hat x9
      go_wp2_with fail
      go_quiet (fail)
      go_wp2
      refine bodyPost_ret (v := .tuple #[.int .i64 1, .int .i64 D.dv]) (by simp [results, Tryz.results155, go_sem]) rfl ⟨by rw [HK.out, HT.out, ha], ⟨{ A with oa := some ⟨g, 0, none⟩, on := A.on + 1, oc := cp }, ?_⟩, ?_, ?_, ?_⟩
      rotate_left
      · exact OutS.trans HO.out (OutS.of_below (bdrewN (Below.refl _ _) _))
      · exact OutS.trans HO6.out (OutS.of_below (bdrewN (Below.refl _ _) _))
      · exact KeepO.trans HK5.out (KeepO.of_below (bdrewN (Below.refl _ _) _) HY5.out.lt)
      rw [HD.out]
      refine (HY5.out.below (bdrewN (Below.refl _ _) _)).mono (fun k e => ?_) (fun e => by rcases e with e | e; exact hPn e; omega)
      rcases e with e | e
      · exact .inl e
      · refine .inr ⟨?_, ?_⟩
        · have := e.1; simp only [World.size_alloc] at this; omega
        · have := e.2; simpa using this
    · have HD : Hid (sdD D v = D) := if_neg (by rw [HK.out]; exact ha)
      have ha' : (askK D D.dv 2 == 1) = false := by simpa using ha
      have x8 := Y2.cs.cell 8 rfl
      have HY2 := hide Y2
      clear Y2
      go_wp2_with fail
      go_quiet (fail)
      go_wp2
      refine bodyPost_ret (v := .tuple #[.int .i64 (askK D D.dv 2), .int .i64 D.dv]) (by simp [results, Tryz.results155, go_sem]) rfl ⟨by rw [HK.out, HT.out], ⟨A, ?_⟩, OutS.of_below (bdrewN g2 _), OutS.of_below (bdrewN g2 _), KeepO.of_below (bdrewN g2 _) hPl⟩
      rw [HD.out]
      exact (HY2.out.below (bdrewN (Below.refl _ _) _)).mono (fun k e => .inl e) (fun e => by rcases e with e | e; exact hPn e; omega)

/-- Out's own block is none of a context's. -/
theorem YM.far {P o : Nat} {S : Nat → Prop} {A : SA} {D : SD} {w : World} (h : YM P o S A D w) {i : Nat} (hi : i < A.xn) (h8 : 0 < (gx D.cs i).1.length) {N b n lc : Nat} (ea : A.xa = some ⟨N, 0, none⟩) (hc : w.cell? ⟨N, i * 3, none⟩ = some (.slice (some ⟨b, 0, none⟩) n lc)) {g : Nat} (hg : (Value.slice A.oa A.on A.oc).ownBlock = some g) : N ≠ g ∧ b ≠ g := by
  obtain ⟨Q, q1, q2, q3, q4, q5, q6⟩ := h.y
  obtain ⟨N', b', lc', ea', sN, sb, _, c0, _⟩ := q5.x.at hi h8
  obtain rfl : N = N' := by have := ea.symm.trans ea'; simpa using this
  obtain rfl : b = b' := by have := hc.symm.trans c0; simp at this; exact this.1
  have sg := q6.1.2.2 g hg
  exact ⟨fun e => q2 2 4 N (by decide) sN (e ▸ sg), fun e => q2 2 4 b (by decide) sb (e ▸ sg)⟩

end Go.Proofs.YtcojgmecocjnkaaGreat
