import Derived.Test.YtgkjmeogdomgmaaGreatG17
import Derived.Test.YtgkjmeogdomgmaaGreatG34
import Derived.Test.YtgkjmeogdomgmaaGreatG1
import Derived.WalkKit
import Derived.ProofKit
import Derived.OpenShut
import Derived.ShutString
import Derived.ChangeOld
import Derived.Below
import Derived.WalkSpells
import Derived.Deep.QuietTactic
import Derived.BigQuiet
import Derived.Deep.RegionWith
import Derived.Deep.WholeRow
import Derived.Deep.DeepCutAuto
import Derived.Deep.RegionHeld2
import Derived.Deep.AppendLies
import Derived.Deep.RegionLaw
namespace Go.Proofs.YtgkjmeogdomgmaaGreat
open Go.ChangeShapes Go.WideShapes Go.ChangeAt Go.RowKit
/-- the cells of a block from o on. -/
def CsO (P o : Nat) (vs : List Value) (w : World) : Prop := ∀ i, i < vs.length → w.cell? ⟨P, o + i, none⟩ = some (vs.getD i undef)

theorem CsO.cell {P o : Nat} {vs : List Value} {w : World} (h : CsO P o vs w) (i : Nat) {v : Value} (hv : vs[i]? = some v) : w.cell? ⟨P, o + i, none⟩ = some v := by
  obtain ⟨hi, e⟩ := List.getElem?_eq_some_iff.1 hv
  rw [h i hi]
  simp [hi, e]

/-- the rows of a cache that a step goes on with: few, each one within its bounds. -/
def LB (ls : List (Int × Int × Int)) : Prop := ls.length ≤ 8 ∧ ∀ j, j < ls.length → okL (g3 ls j) = true

theorem LB.of {s : Int} {ls : List (Int × Int × Int)} (h : faultC s ls = 0) : LB ls := by
  obtain ⟨h1, h2, h3, h4⟩ := faultC_inv h
  exact ⟨by omega, fun j hj => (h4 j hj).1⟩

theorem gt_set (zs : List Int) {i : Nat} (hi : i < zs.length) (x : Int) (j : Nat) : gt (zs.set i x) j = if j = i then x else gt zs j := by
  unfold gt
  by_cases e : j = i
  · subst e; simp [hi]
  · rw [if_neg e]
    simp [Ne.symm e]

/-- one number of a block is written. -/
theorem Blk.set {w : World} {b : Nat} {zs : List Int} (h : Blk w b zs) {i : Nat} (hi : i < zs.length) (v : Int) : Blk (w.setCell ⟨b, i, none⟩ (.int .i64 v)) b (zs.set i v) := by
  refine ⟨by simpa using h.1, fun j hj => ?_, fun j => by simpa using h.2.2 j⟩
  rw [List.length_set] at hj
  rw [gt_set zs hi]
  by_cases e : j = i
  · subst e; rw [if_pos rfl]; exact World.cell?_setCell_same _ _ _ (h.2.1 j hj)
  · rw [if_neg e, World.cell?_setCell_other _ _ _ _ (fun h => by injection h with _ h2; exact e h2.symm)]; exact h.2.1 j hj

/-- a system of our own behind the pointer ⟨P, o⟩: what it holds lies in blocks of S, P is none of them. -/
structure YM (P o : Nat) (S : Nat → Prop) (A : SA) (D : SD) (w : World) : Prop where
  cs : CsO P o [.slice A.a A.n A.c, .slice A.ta A.tn A.tc, .slice A.da A.dn A.dc, .slice A.wa A.wn A.wc, .slice A.xa A.xn A.xc, .int .i64 D.ac, .int .i64 D.cz, .slice A.la A.ln A.lc, .int .i64 D.dv, .slice A.oa A.on A.oc, .slice A.ga A.gn A.gc] w
  fz : ∀ j, w.frozen? ⟨P, j, none⟩ = false
  ns : ¬ S P
  lt : P < w.heap.size
  y : OYR S A D w

theorem YM.loc {P o : Nat} {S : Nat → Prop} {A : SA} {D : SD} {w w' : World} (h : YM P o S A D w) (hz : w.heap.size ≤ w'.heap.size) (hk : ∀ k, (k = P ∨ S k) → k < w.heap.size → w'.heap[k]? = w.heap[k]?) : YM P o S A D w' :=
  ⟨fun i hi => (World.cell?_of_block (a := ⟨P, o + i, none⟩) (hk P (.inl rfl) h.lt)).trans (h.cs i hi), fun j => (World.frozen?_of_block (a := ⟨P, j, none⟩) (hk P (.inl rfl) h.lt)).trans (h.fz j), h.ns, Nat.lt_of_lt_of_le h.lt hz, OYR.loc w w' (fun k e hl => hk k (.inr e) hl) h.y⟩

theorem YM.below {P o : Nat} {S : Nat → Prop} {A : SA} {D : SD} {w w' : World} (h : YM P o S A D w) (hb : Below w.heap.size w w') : YM P o S A D w' := h.loc hb.size (fun k _ hk => hb.block k hk)

theorem YM.mono {P o : Nat} {S S' : Nat → Prop} {A : SA} {D : SD} {w : World} (h : YM P o S A D w) (hs : ∀ k, S k → S' k) (hp : ¬ S' P) : YM P o S' A D w := ⟨h.cs, h.fz, hp, h.lt, h.y.mono hs⟩

/-- a system of nothing. -/
def zeroD : SD := ⟨[], [], [], [], [], 0, 0, [], 0, [], []⟩

def zeroA : SA := ⟨none, 0, 0, none, 0, 0, none, 0, 0, none, 0, 0, none, 0, 0, none, 0, 0, none, 0, 0, none, 0, 0⟩

theorem OY.zero (S : Nat → Prop) (w : World) : OY S zeroA zeroD w :=
  ⟨fun _ _ => False, fun _ _ h => h.elim, fun _ _ _ _ h => h.elim, by simp [szY, zeroA, zeroD, lenSum, lenX], Nat.le_refl _,
    ⟨⟨fun _ => False, fun _ => False, fun _ => False, fun _ h => h.elim, fun _ h => h.elim, fun _ h => h.elim, fun _ h => h.elim, fun _ h => h.elim, fun _ h => h.elim, ⟨rfl, by simp [lenSum, zeroD, zeroA], .inl rfl⟩, ⟨rfl, by simp [zeroA], .inl rfl⟩, ⟨rfl, by simp [zeroA], .inl rfl⟩⟩, ⟨rfl, by simp [zeroA], .inl rfl⟩, ⟨rfl, by simp [zeroA, zeroD, lenX], .inl rfl⟩, ⟨rfl, by simp [zeroA], .inl rfl⟩, ⟨rfl, by simp [zeroA], .inl rfl⟩, ⟨rfl, by simp [zeroA], .inl rfl⟩⟩⟩

/-- what is known of a right system. -/
structure SysR (A : SA) (D : SD) (k : Nat) : Prop where
  ac : D.ac = (k : Int)
  hk : k < A.dn
  xd : A.xn = A.dn
  d4 : A.dn ≤ 4
  t6 : A.tn ≤ 6
  g3 : A.gn ≤ 3
  o40 : A.on ≤ 40
  good : Good D.ss
  sd : allS D.ss D.ds = true
  st : allS D.ss D.ts = true
  fc : LB D.ls
  tf : tabF D.ss D.ts D.ds = 0
  mf : mfC (D.ts.length : Int) D.ws = 0
  cx : ∀ j, j < A.dn → (gx D.cs j).1.length = 8 ∧ (∀ i, i < 8 → 0 ≤ gt (gx D.cs j).1 i ∧ gt (gx D.cs j).1 i ≤ 65535) ∧ 0 ≤ (gx D.cs j).2.1 ∧ (gx D.cs j).2.1 ≤ 65535
  gg : ∀ g, g < A.gn → 0 ≤ (gw D.gs g).1 ∧ (gw D.gs g).1 < (A.dn : Int) ∧ 0 ≤ (gw D.gs g).2 ∧ (gw D.gs g).2 ≤ 65535

theorem okv_in {v : Int} (h : okv v = true) : 0 ≤ v ∧ v ≤ 65535 := by
  have := up_iff.1 h
  omega

theorem endsF_inv {dn : Nat} {os : List Int} {gs : List (Int × Int)} (h : endsF dn os gs = 0) : os.length ≤ 40 ∧ gs.length ≤ 3 ∧ gs.all (gateB dn) = true := by
  unfold endsF at h
  by_cases h1 : 40 < os.length ∨ 3 < gs.length
  · rw [if_pos h1] at h; omega
  · rw [if_neg h1] at h
    by_cases h2 : os.all okv = true
    · rw [if_pos h2] at h
      by_cases h3 : gs.all (gateB dn) = true
      · exact ⟨by omega, by omega, h3⟩
      · rw [if_neg h3] at h; omega
    · rw [if_neg h2] at h; omega

theorem RS.right {w : World} {A : SA} {D : SD} (hr : RS w A D) (hf : sysF D = 0) : ∃ k, SysR A D k := by
  obtain ⟨k0, k1, k2, k3, k4, k5, k6, k7⟩ := hr.len
  obtain ⟨h1, h2, _, h4, _, h6, _, h8⟩ := sysF_inv hf
  obtain ⟨x1, x2, x3, x4⟩ := sysF_ctx hf
  obtain ⟨r1, r2, r3, r4, _⟩ := tabF_zero h1
  have hm := many_len r2
  have hu := up_iff.1 h4
  obtain ⟨e1, e2, e3⟩ := endsF_inv h8
  refine ⟨D.ac.toNat, by omega, by omega, by omega, by omega, by omega, by omega, by omega, good_of r1, r4, r3, LB.of h6, h1, h2, fun j hj => ?_, fun g hg => ?_⟩
  · obtain ⟨a, b, c⟩ := x4 j (by omega)
    refine ⟨a, fun i hi => ?_, okv_in c⟩
    rw [List.all_eq_true] at b
    have hm := b ((gx D.cs j).1[i]'(by omega)) (List.getElem_mem _)
    have := okv_in hm
    have hi' : i < (gx D.cs j).1.length := by omega
    have e : gt (gx D.cs j).1 i = (gx D.cs j).1[i] := by unfold gt; simp [hi']
    rw [e]
    exact this
  · rw [List.all_eq_true] at e3
    have := e3 _ (gw_mem (by omega : g < D.gs.length))
    unfold gateB at this
    rw [Bool.and_eq_true] at this
    have a := up_iff.1 this.1
    have b := okv_in this.2
    omega

theorem CsO.ofCs {P : Nat} {vs : List Value} {w : World} (h : Cs P vs w) : CsO P 0 vs w := fun i hi => by rw [Nat.zero_add]; exact (h.2 i hi).1

/-- what is known of a system is known of it where else it lies. -/
theorem SysR.move {w w' : World} {A B : SA} {D : SD} {k : Nat} (h : SysR A D k) (ha : RS w A D) (hb : RS w' B D) : SysR B D k := by
  obtain ⟨a0, a1, a2, a3, a4, a5, a6, a7⟩ := ha.len
  obtain ⟨b0, b1, b2, b3, b4, b5, b6, b7⟩ := hb.len
  have e1 : B.dn = A.dn := by omega
  have e2 : B.gn = A.gn := by omega
  exact ⟨h.ac, by have := h.hk; omega, by have := h.xd; omega, by have := h.d4; omega, by have := h.t6; omega, by have := h.g3; omega, by have := h.o40; omega, h.good, h.sd, h.st, h.fc, h.tf, h.mf, fun j hj => h.cx j (by omega), fun g hg => by rw [e1]; exact h.gg g (by omega)⟩

theorem below_set13 {B : Nat} {w u : World} (h : Below B w u) {P : Nat} (hP : B ≤ P) (v0 v1 v2 v3 v4 v5 v6 v7 v8 v9 v10 v11 v12 : Value) : Below B w (((((((((((((u.setCell ⟨P, 0, none⟩ v0).setCell ⟨P, 1, none⟩ v1).setCell ⟨P, 2, none⟩ v2).setCell ⟨P, 3, none⟩ v3).setCell ⟨P, 4, none⟩ v4).setCell ⟨P, 5, none⟩ v5).setCell ⟨P, 6, none⟩ v6).setCell ⟨P, 7, none⟩ v7).setCell ⟨P, 8, none⟩ v8).setCell ⟨P, 9, none⟩ v9).setCell ⟨P, 10, none⟩ v10).setCell ⟨P, 11, none⟩ v11).setCell ⟨P, 12, none⟩ v12) :=
  (Below.setCell (Below.setCell (Below.setCell (Below.setCell (Below.setCell (Below.setCell (Below.setCell (Below.setCell (Below.setCell (Below.setCell (Below.setCell (Below.setCell (Below.setCell h (by exact hP) v0) (by exact hP) v1) (by exact hP) v2) (by exact hP) v3) (by exact hP) v4) (by exact hP) v5) (by exact hP) v6) (by exact hP) v7) (by exact hP) v8) (by exact hP) v9) (by exact hP) v10) (by exact hP) v11) (by exact hP) v12)

theorem loc_set13 {S : Nat → Prop} {Q : World → Prop} (hl : Loc S Q) {w : World} (h : Q w) {P : Nat} (hP : ¬ S P) (v0 v1 v2 v3 v4 v5 v6 v7 v8 v9 v10 v11 v12 : Value) : Q (((((((((((((w.setCell ⟨P, 0, none⟩ v0).setCell ⟨P, 1, none⟩ v1).setCell ⟨P, 2, none⟩ v2).setCell ⟨P, 3, none⟩ v3).setCell ⟨P, 4, none⟩ v4).setCell ⟨P, 5, none⟩ v5).setCell ⟨P, 6, none⟩ v6).setCell ⟨P, 7, none⟩ v7).setCell ⟨P, 8, none⟩ v8).setCell ⟨P, 9, none⟩ v9).setCell ⟨P, 10, none⟩ v10).setCell ⟨P, 11, none⟩ v11).setCell ⟨P, 12, none⟩ v12) :=
  (hl.setC (hl.setC (hl.setC (hl.setC (hl.setC (hl.setC (hl.setC (hl.setC (hl.setC (hl.setC (hl.setC (hl.setC (hl.setC h (by exact hP) v0) (by exact hP) v1) (by exact hP) v2) (by exact hP) v3) (by exact hP) v4) (by exact hP) v5) (by exact hP) v6) (by exact hP) v7) (by exact hP) v8) (by exact hP) v9) (by exact hP) v10) (by exact hP) v11) (by exact hP) v12)

theorem outs_set13 {S : Nat → Prop} {w u : World} (h : OutS S w u) {P : Nat} (hP : S P) (v0 v1 v2 v3 v4 v5 v6 v7 v8 v9 v10 v11 v12 : Value) : OutS S w (((((((((((((u.setCell ⟨P, 0, none⟩ v0).setCell ⟨P, 1, none⟩ v1).setCell ⟨P, 2, none⟩ v2).setCell ⟨P, 3, none⟩ v3).setCell ⟨P, 4, none⟩ v4).setCell ⟨P, 5, none⟩ v5).setCell ⟨P, 6, none⟩ v6).setCell ⟨P, 7, none⟩ v7).setCell ⟨P, 8, none⟩ v8).setCell ⟨P, 9, none⟩ v9).setCell ⟨P, 10, none⟩ v10).setCell ⟨P, 11, none⟩ v11).setCell ⟨P, 12, none⟩ v12) :=
  (OutS.setCell (OutS.setCell (OutS.setCell (OutS.setCell (OutS.setCell (OutS.setCell (OutS.setCell (OutS.setCell (OutS.setCell (OutS.setCell (OutS.setCell (OutS.setCell (OutS.setCell h (by exact hP) v0) (by exact hP) v1) (by exact hP) v2) (by exact hP) v3) (by exact hP) v4) (by exact hP) v5) (by exact hP) v6) (by exact hP) v7) (by exact hP) v8) (by exact hP) v9) (by exact hP) v10) (by exact hP) v11) (by exact hP) v12)

theorem set13_at0 (X : World) (P : Nat) (v0 v1 v2 v3 v4 v5 v6 v7 v8 v9 v10 v11 v12 : Value) (h : ∃ u, X.cell? ⟨P, 0, none⟩ = some u) : (((((((((((((X.setCell ⟨P, 0, none⟩ v0).setCell ⟨P, 1, none⟩ v1).setCell ⟨P, 2, none⟩ v2).setCell ⟨P, 3, none⟩ v3).setCell ⟨P, 4, none⟩ v4).setCell ⟨P, 5, none⟩ v5).setCell ⟨P, 6, none⟩ v6).setCell ⟨P, 7, none⟩ v7).setCell ⟨P, 8, none⟩ v8).setCell ⟨P, 9, none⟩ v9).setCell ⟨P, 10, none⟩ v10).setCell ⟨P, 11, none⟩ v11).setCell ⟨P, 12, none⟩ v12).cell? ⟨P, 0, none⟩ = some v0 := by
  obtain ⟨u, h⟩ := h
  rw [World.cell?_setCell_other _ _ _ _ (fun e => by injection e with _ e2; omega)]
  rw [World.cell?_setCell_other _ _ _ _ (fun e => by injection e with _ e2; omega)]
  rw [World.cell?_setCell_other _ _ _ _ (fun e => by injection e with _ e2; omega)]
  rw [World.cell?_setCell_other _ _ _ _ (fun e => by injection e with _ e2; omega)]
  rw [World.cell?_setCell_other _ _ _ _ (fun e => by injection e with _ e2; omega)]
  rw [World.cell?_setCell_other _ _ _ _ (fun e => by injection e with _ e2; omega)]
  rw [World.cell?_setCell_other _ _ _ _ (fun e => by injection e with _ e2; omega)]
  rw [World.cell?_setCell_other _ _ _ _ (fun e => by injection e with _ e2; omega)]
  rw [World.cell?_setCell_other _ _ _ _ (fun e => by injection e with _ e2; omega)]
  rw [World.cell?_setCell_other _ _ _ _ (fun e => by injection e with _ e2; omega)]
  rw [World.cell?_setCell_other _ _ _ _ (fun e => by injection e with _ e2; omega)]
  rw [World.cell?_setCell_other _ _ _ _ (fun e => by injection e with _ e2; omega)]
  exact World.cell?_setCell_same _ _ _ h

theorem set13_at1 (X : World) (P : Nat) (v0 v1 v2 v3 v4 v5 v6 v7 v8 v9 v10 v11 v12 : Value) (h : ∃ u, X.cell? ⟨P, 1, none⟩ = some u) : (((((((((((((X.setCell ⟨P, 0, none⟩ v0).setCell ⟨P, 1, none⟩ v1).setCell ⟨P, 2, none⟩ v2).setCell ⟨P, 3, none⟩ v3).setCell ⟨P, 4, none⟩ v4).setCell ⟨P, 5, none⟩ v5).setCell ⟨P, 6, none⟩ v6).setCell ⟨P, 7, none⟩ v7).setCell ⟨P, 8, none⟩ v8).setCell ⟨P, 9, none⟩ v9).setCell ⟨P, 10, none⟩ v10).setCell ⟨P, 11, none⟩ v11).setCell ⟨P, 12, none⟩ v12).cell? ⟨P, 1, none⟩ = some v1 := by
  obtain ⟨u, h⟩ := h
  rw [World.cell?_setCell_other _ _ _ _ (fun e => by injection e with _ e2; omega)]
  rw [World.cell?_setCell_other _ _ _ _ (fun e => by injection e with _ e2; omega)]
  rw [World.cell?_setCell_other _ _ _ _ (fun e => by injection e with _ e2; omega)]
  rw [World.cell?_setCell_other _ _ _ _ (fun e => by injection e with _ e2; omega)]
  rw [World.cell?_setCell_other _ _ _ _ (fun e => by injection e with _ e2; omega)]
  rw [World.cell?_setCell_other _ _ _ _ (fun e => by injection e with _ e2; omega)]
  rw [World.cell?_setCell_other _ _ _ _ (fun e => by injection e with _ e2; omega)]
  rw [World.cell?_setCell_other _ _ _ _ (fun e => by injection e with _ e2; omega)]
  rw [World.cell?_setCell_other _ _ _ _ (fun e => by injection e with _ e2; omega)]
  rw [World.cell?_setCell_other _ _ _ _ (fun e => by injection e with _ e2; omega)]
  rw [World.cell?_setCell_other _ _ _ _ (fun e => by injection e with _ e2; omega)]
  exact World.cell?_setCell_same _ _ _ ((World.cell?_setCell_other _ _ _ _ (fun e => by injection e with _ e2; omega)).trans h)

theorem set13_at2 (X : World) (P : Nat) (v0 v1 v2 v3 v4 v5 v6 v7 v8 v9 v10 v11 v12 : Value) (h : ∃ u, X.cell? ⟨P, 2, none⟩ = some u) : (((((((((((((X.setCell ⟨P, 0, none⟩ v0).setCell ⟨P, 1, none⟩ v1).setCell ⟨P, 2, none⟩ v2).setCell ⟨P, 3, none⟩ v3).setCell ⟨P, 4, none⟩ v4).setCell ⟨P, 5, none⟩ v5).setCell ⟨P, 6, none⟩ v6).setCell ⟨P, 7, none⟩ v7).setCell ⟨P, 8, none⟩ v8).setCell ⟨P, 9, none⟩ v9).setCell ⟨P, 10, none⟩ v10).setCell ⟨P, 11, none⟩ v11).setCell ⟨P, 12, none⟩ v12).cell? ⟨P, 2, none⟩ = some v2 := by
  obtain ⟨u, h⟩ := h
  rw [World.cell?_setCell_other _ _ _ _ (fun e => by injection e with _ e2; omega)]
  rw [World.cell?_setCell_other _ _ _ _ (fun e => by injection e with _ e2; omega)]
  rw [World.cell?_setCell_other _ _ _ _ (fun e => by injection e with _ e2; omega)]
  rw [World.cell?_setCell_other _ _ _ _ (fun e => by injection e with _ e2; omega)]
  rw [World.cell?_setCell_other _ _ _ _ (fun e => by injection e with _ e2; omega)]
  rw [World.cell?_setCell_other _ _ _ _ (fun e => by injection e with _ e2; omega)]
  rw [World.cell?_setCell_other _ _ _ _ (fun e => by injection e with _ e2; omega)]
  rw [World.cell?_setCell_other _ _ _ _ (fun e => by injection e with _ e2; omega)]
  rw [World.cell?_setCell_other _ _ _ _ (fun e => by injection e with _ e2; omega)]
  rw [World.cell?_setCell_other _ _ _ _ (fun e => by injection e with _ e2; omega)]
  exact World.cell?_setCell_same _ _ _ ((World.cell?_setCell_other _ _ _ _ (fun e => by injection e with _ e2; omega)).trans ((World.cell?_setCell_other _ _ _ _ (fun e => by injection e with _ e2; omega)).trans h))

theorem set13_at3 (X : World) (P : Nat) (v0 v1 v2 v3 v4 v5 v6 v7 v8 v9 v10 v11 v12 : Value) (h : ∃ u, X.cell? ⟨P, 3, none⟩ = some u) : (((((((((((((X.setCell ⟨P, 0, none⟩ v0).setCell ⟨P, 1, none⟩ v1).setCell ⟨P, 2, none⟩ v2).setCell ⟨P, 3, none⟩ v3).setCell ⟨P, 4, none⟩ v4).setCell ⟨P, 5, none⟩ v5).setCell ⟨P, 6, none⟩ v6).setCell ⟨P, 7, none⟩ v7).setCell ⟨P, 8, none⟩ v8).setCell ⟨P, 9, none⟩ v9).setCell ⟨P, 10, none⟩ v10).setCell ⟨P, 11, none⟩ v11).setCell ⟨P, 12, none⟩ v12).cell? ⟨P, 3, none⟩ = some v3 := by
  obtain ⟨u, h⟩ := h
  rw [World.cell?_setCell_other _ _ _ _ (fun e => by injection e with _ e2; omega)]
  rw [World.cell?_setCell_other _ _ _ _ (fun e => by injection e with _ e2; omega)]
  rw [World.cell?_setCell_other _ _ _ _ (fun e => by injection e with _ e2; omega)]
  rw [World.cell?_setCell_other _ _ _ _ (fun e => by injection e with _ e2; omega)]
  rw [World.cell?_setCell_other _ _ _ _ (fun e => by injection e with _ e2; omega)]
  rw [World.cell?_setCell_other _ _ _ _ (fun e => by injection e with _ e2; omega)]
  rw [World.cell?_setCell_other _ _ _ _ (fun e => by injection e with _ e2; omega)]
  rw [World.cell?_setCell_other _ _ _ _ (fun e => by injection e with _ e2; omega)]
  rw [World.cell?_setCell_other _ _ _ _ (fun e => by injection e with _ e2; omega)]
  exact World.cell?_setCell_same _ _ _ ((World.cell?_setCell_other _ _ _ _ (fun e => by injection e with _ e2; omega)).trans ((World.cell?_setCell_other _ _ _ _ (fun e => by injection e with _ e2; omega)).trans ((World.cell?_setCell_other _ _ _ _ (fun e => by injection e with _ e2; omega)).trans h)))

theorem set13_at4 (X : World) (P : Nat) (v0 v1 v2 v3 v4 v5 v6 v7 v8 v9 v10 v11 v12 : Value) (h : ∃ u, X.cell? ⟨P, 4, none⟩ = some u) : (((((((((((((X.setCell ⟨P, 0, none⟩ v0).setCell ⟨P, 1, none⟩ v1).setCell ⟨P, 2, none⟩ v2).setCell ⟨P, 3, none⟩ v3).setCell ⟨P, 4, none⟩ v4).setCell ⟨P, 5, none⟩ v5).setCell ⟨P, 6, none⟩ v6).setCell ⟨P, 7, none⟩ v7).setCell ⟨P, 8, none⟩ v8).setCell ⟨P, 9, none⟩ v9).setCell ⟨P, 10, none⟩ v10).setCell ⟨P, 11, none⟩ v11).setCell ⟨P, 12, none⟩ v12).cell? ⟨P, 4, none⟩ = some v4 := by
  obtain ⟨u, h⟩ := h
  rw [World.cell?_setCell_other _ _ _ _ (fun e => by injection e with _ e2; omega)]
  rw [World.cell?_setCell_other _ _ _ _ (fun e => by injection e with _ e2; omega)]
  rw [World.cell?_setCell_other _ _ _ _ (fun e => by injection e with _ e2; omega)]
  rw [World.cell?_setCell_other _ _ _ _ (fun e => by injection e with _ e2; omega)]
  rw [World.cell?_setCell_other _ _ _ _ (fun e => by injection e with _ e2; omega)]
  rw [World.cell?_setCell_other _ _ _ _ (fun e => by injection e with _ e2; omega)]
  rw [World.cell?_setCell_other _ _ _ _ (fun e => by injection e with _ e2; omega)]
  rw [World.cell?_setCell_other _ _ _ _ (fun e => by injection e with _ e2; omega)]
  exact World.cell?_setCell_same _ _ _ ((World.cell?_setCell_other _ _ _ _ (fun e => by injection e with _ e2; omega)).trans ((World.cell?_setCell_other _ _ _ _ (fun e => by injection e with _ e2; omega)).trans ((World.cell?_setCell_other _ _ _ _ (fun e => by injection e with _ e2; omega)).trans ((World.cell?_setCell_other _ _ _ _ (fun e => by injection e with _ e2; omega)).trans h))))

theorem set13_at5 (X : World) (P : Nat) (v0 v1 v2 v3 v4 v5 v6 v7 v8 v9 v10 v11 v12 : Value) (h : ∃ u, X.cell? ⟨P, 5, none⟩ = some u) : (((((((((((((X.setCell ⟨P, 0, none⟩ v0).setCell ⟨P, 1, none⟩ v1).setCell ⟨P, 2, none⟩ v2).setCell ⟨P, 3, none⟩ v3).setCell ⟨P, 4, none⟩ v4).setCell ⟨P, 5, none⟩ v5).setCell ⟨P, 6, none⟩ v6).setCell ⟨P, 7, none⟩ v7).setCell ⟨P, 8, none⟩ v8).setCell ⟨P, 9, none⟩ v9).setCell ⟨P, 10, none⟩ v10).setCell ⟨P, 11, none⟩ v11).setCell ⟨P, 12, none⟩ v12).cell? ⟨P, 5, none⟩ = some v5 := by
  obtain ⟨u, h⟩ := h
  rw [World.cell?_setCell_other _ _ _ _ (fun e => by injection e with _ e2; omega)]
  rw [World.cell?_setCell_other _ _ _ _ (fun e => by injection e with _ e2; omega)]
  rw [World.cell?_setCell_other _ _ _ _ (fun e => by injection e with _ e2; omega)]
  rw [World.cell?_setCell_other _ _ _ _ (fun e => by injection e with _ e2; omega)]
  rw [World.cell?_setCell_other _ _ _ _ (fun e => by injection e with _ e2; omega)]
  rw [World.cell?_setCell_other _ _ _ _ (fun e => by injection e with _ e2; omega)]
  rw [World.cell?_setCell_other _ _ _ _ (fun e => by injection e with _ e2; omega)]
  exact World.cell?_setCell_same _ _ _ ((World.cell?_setCell_other _ _ _ _ (fun e => by injection e with _ e2; omega)).trans ((World.cell?_setCell_other _ _ _ _ (fun e => by injection e with _ e2; omega)).trans ((World.cell?_setCell_other _ _ _ _ (fun e => by injection e with _ e2; omega)).trans ((World.cell?_setCell_other _ _ _ _ (fun e => by injection e with _ e2; omega)).trans ((World.cell?_setCell_other _ _ _ _ (fun e => by injection e with _ e2; omega)).trans h)))))

theorem set13_at6 (X : World) (P : Nat) (v0 v1 v2 v3 v4 v5 v6 v7 v8 v9 v10 v11 v12 : Value) (h : ∃ u, X.cell? ⟨P, 6, none⟩ = some u) : (((((((((((((X.setCell ⟨P, 0, none⟩ v0).setCell ⟨P, 1, none⟩ v1).setCell ⟨P, 2, none⟩ v2).setCell ⟨P, 3, none⟩ v3).setCell ⟨P, 4, none⟩ v4).setCell ⟨P, 5, none⟩ v5).setCell ⟨P, 6, none⟩ v6).setCell ⟨P, 7, none⟩ v7).setCell ⟨P, 8, none⟩ v8).setCell ⟨P, 9, none⟩ v9).setCell ⟨P, 10, none⟩ v10).setCell ⟨P, 11, none⟩ v11).setCell ⟨P, 12, none⟩ v12).cell? ⟨P, 6, none⟩ = some v6 := by
  obtain ⟨u, h⟩ := h
  rw [World.cell?_setCell_other _ _ _ _ (fun e => by injection e with _ e2; omega)]
  rw [World.cell?_setCell_other _ _ _ _ (fun e => by injection e with _ e2; omega)]
  rw [World.cell?_setCell_other _ _ _ _ (fun e => by injection e with _ e2; omega)]
  rw [World.cell?_setCell_other _ _ _ _ (fun e => by injection e with _ e2; omega)]
  rw [World.cell?_setCell_other _ _ _ _ (fun e => by injection e with _ e2; omega)]
  rw [World.cell?_setCell_other _ _ _ _ (fun e => by injection e with _ e2; omega)]
  exact World.cell?_setCell_same _ _ _ ((World.cell?_setCell_other _ _ _ _ (fun e => by injection e with _ e2; omega)).trans ((World.cell?_setCell_other _ _ _ _ (fun e => by injection e with _ e2; omega)).trans ((World.cell?_setCell_other _ _ _ _ (fun e => by injection e with _ e2; omega)).trans ((World.cell?_setCell_other _ _ _ _ (fun e => by injection e with _ e2; omega)).trans ((World.cell?_setCell_other _ _ _ _ (fun e => by injection e with _ e2; omega)).trans ((World.cell?_setCell_other _ _ _ _ (fun e => by injection e with _ e2; omega)).trans h))))))

theorem set13_at7 (X : World) (P : Nat) (v0 v1 v2 v3 v4 v5 v6 v7 v8 v9 v10 v11 v12 : Value) (h : ∃ u, X.cell? ⟨P, 7, none⟩ = some u) : (((((((((((((X.setCell ⟨P, 0, none⟩ v0).setCell ⟨P, 1, none⟩ v1).setCell ⟨P, 2, none⟩ v2).setCell ⟨P, 3, none⟩ v3).setCell ⟨P, 4, none⟩ v4).setCell ⟨P, 5, none⟩ v5).setCell ⟨P, 6, none⟩ v6).setCell ⟨P, 7, none⟩ v7).setCell ⟨P, 8, none⟩ v8).setCell ⟨P, 9, none⟩ v9).setCell ⟨P, 10, none⟩ v10).setCell ⟨P, 11, none⟩ v11).setCell ⟨P, 12, none⟩ v12).cell? ⟨P, 7, none⟩ = some v7 := by
  obtain ⟨u, h⟩ := h
  rw [World.cell?_setCell_other _ _ _ _ (fun e => by injection e with _ e2; omega)]
  rw [World.cell?_setCell_other _ _ _ _ (fun e => by injection e with _ e2; omega)]
  rw [World.cell?_setCell_other _ _ _ _ (fun e => by injection e with _ e2; omega)]
  rw [World.cell?_setCell_other _ _ _ _ (fun e => by injection e with _ e2; omega)]
  rw [World.cell?_setCell_other _ _ _ _ (fun e => by injection e with _ e2; omega)]
  exact World.cell?_setCell_same _ _ _ ((World.cell?_setCell_other _ _ _ _ (fun e => by injection e with _ e2; omega)).trans ((World.cell?_setCell_other _ _ _ _ (fun e => by injection e with _ e2; omega)).trans ((World.cell?_setCell_other _ _ _ _ (fun e => by injection e with _ e2; omega)).trans ((World.cell?_setCell_other _ _ _ _ (fun e => by injection e with _ e2; omega)).trans ((World.cell?_setCell_other _ _ _ _ (fun e => by injection e with _ e2; omega)).trans ((World.cell?_setCell_other _ _ _ _ (fun e => by injection e with _ e2; omega)).trans ((World.cell?_setCell_other _ _ _ _ (fun e => by injection e with _ e2; omega)).trans h)))))))

theorem set13_at8 (X : World) (P : Nat) (v0 v1 v2 v3 v4 v5 v6 v7 v8 v9 v10 v11 v12 : Value) (h : ∃ u, X.cell? ⟨P, 8, none⟩ = some u) : (((((((((((((X.setCell ⟨P, 0, none⟩ v0).setCell ⟨P, 1, none⟩ v1).setCell ⟨P, 2, none⟩ v2).setCell ⟨P, 3, none⟩ v3).setCell ⟨P, 4, none⟩ v4).setCell ⟨P, 5, none⟩ v5).setCell ⟨P, 6, none⟩ v6).setCell ⟨P, 7, none⟩ v7).setCell ⟨P, 8, none⟩ v8).setCell ⟨P, 9, none⟩ v9).setCell ⟨P, 10, none⟩ v10).setCell ⟨P, 11, none⟩ v11).setCell ⟨P, 12, none⟩ v12).cell? ⟨P, 8, none⟩ = some v8 := by
  obtain ⟨u, h⟩ := h
  rw [World.cell?_setCell_other _ _ _ _ (fun e => by injection e with _ e2; omega)]
  rw [World.cell?_setCell_other _ _ _ _ (fun e => by injection e with _ e2; omega)]
  rw [World.cell?_setCell_other _ _ _ _ (fun e => by injection e with _ e2; omega)]
  rw [World.cell?_setCell_other _ _ _ _ (fun e => by injection e with _ e2; omega)]
  exact World.cell?_setCell_same _ _ _ ((World.cell?_setCell_other _ _ _ _ (fun e => by injection e with _ e2; omega)).trans ((World.cell?_setCell_other _ _ _ _ (fun e => by injection e with _ e2; omega)).trans ((World.cell?_setCell_other _ _ _ _ (fun e => by injection e with _ e2; omega)).trans ((World.cell?_setCell_other _ _ _ _ (fun e => by injection e with _ e2; omega)).trans ((World.cell?_setCell_other _ _ _ _ (fun e => by injection e with _ e2; omega)).trans ((World.cell?_setCell_other _ _ _ _ (fun e => by injection e with _ e2; omega)).trans ((World.cell?_setCell_other _ _ _ _ (fun e => by injection e with _ e2; omega)).trans ((World.cell?_setCell_other _ _ _ _ (fun e => by injection e with _ e2; omega)).trans h))))))))

theorem set13_at9 (X : World) (P : Nat) (v0 v1 v2 v3 v4 v5 v6 v7 v8 v9 v10 v11 v12 : Value) (h : ∃ u, X.cell? ⟨P, 9, none⟩ = some u) : (((((((((((((X.setCell ⟨P, 0, none⟩ v0).setCell ⟨P, 1, none⟩ v1).setCell ⟨P, 2, none⟩ v2).setCell ⟨P, 3, none⟩ v3).setCell ⟨P, 4, none⟩ v4).setCell ⟨P, 5, none⟩ v5).setCell ⟨P, 6, none⟩ v6).setCell ⟨P, 7, none⟩ v7).setCell ⟨P, 8, none⟩ v8).setCell ⟨P, 9, none⟩ v9).setCell ⟨P, 10, none⟩ v10).setCell ⟨P, 11, none⟩ v11).setCell ⟨P, 12, none⟩ v12).cell? ⟨P, 9, none⟩ = some v9 := by
  obtain ⟨u, h⟩ := h
  rw [World.cell?_setCell_other _ _ _ _ (fun e => by injection e with _ e2; omega)]
  rw [World.cell?_setCell_other _ _ _ _ (fun e => by injection e with _ e2; omega)]
  rw [World.cell?_setCell_other _ _ _ _ (fun e => by injection e with _ e2; omega)]
  exact World.cell?_setCell_same _ _ _ ((World.cell?_setCell_other _ _ _ _ (fun e => by injection e with _ e2; omega)).trans ((World.cell?_setCell_other _ _ _ _ (fun e => by injection e with _ e2; omega)).trans ((World.cell?_setCell_other _ _ _ _ (fun e => by injection e with _ e2; omega)).trans ((World.cell?_setCell_other _ _ _ _ (fun e => by injection e with _ e2; omega)).trans ((World.cell?_setCell_other _ _ _ _ (fun e => by injection e with _ e2; omega)).trans ((World.cell?_setCell_other _ _ _ _ (fun e => by injection e with _ e2; omega)).trans ((World.cell?_setCell_other _ _ _ _ (fun e => by injection e with _ e2; omega)).trans ((World.cell?_setCell_other _ _ _ _ (fun e => by injection e with _ e2; omega)).trans ((World.cell?_setCell_other _ _ _ _ (fun e => by injection e with _ e2; omega)).trans h)))))))))

theorem set13_at10 (X : World) (P : Nat) (v0 v1 v2 v3 v4 v5 v6 v7 v8 v9 v10 v11 v12 : Value) (h : ∃ u, X.cell? ⟨P, 10, none⟩ = some u) : (((((((((((((X.setCell ⟨P, 0, none⟩ v0).setCell ⟨P, 1, none⟩ v1).setCell ⟨P, 2, none⟩ v2).setCell ⟨P, 3, none⟩ v3).setCell ⟨P, 4, none⟩ v4).setCell ⟨P, 5, none⟩ v5).setCell ⟨P, 6, none⟩ v6).setCell ⟨P, 7, none⟩ v7).setCell ⟨P, 8, none⟩ v8).setCell ⟨P, 9, none⟩ v9).setCell ⟨P, 10, none⟩ v10).setCell ⟨P, 11, none⟩ v11).setCell ⟨P, 12, none⟩ v12).cell? ⟨P, 10, none⟩ = some v10 := by
  obtain ⟨u, h⟩ := h
  rw [World.cell?_setCell_other _ _ _ _ (fun e => by injection e with _ e2; omega)]
  rw [World.cell?_setCell_other _ _ _ _ (fun e => by injection e with _ e2; omega)]
  exact World.cell?_setCell_same _ _ _ ((World.cell?_setCell_other _ _ _ _ (fun e => by injection e with _ e2; omega)).trans ((World.cell?_setCell_other _ _ _ _ (fun e => by injection e with _ e2; omega)).trans ((World.cell?_setCell_other _ _ _ _ (fun e => by injection e with _ e2; omega)).trans ((World.cell?_setCell_other _ _ _ _ (fun e => by injection e with _ e2; omega)).trans ((World.cell?_setCell_other _ _ _ _ (fun e => by injection e with _ e2; omega)).trans ((World.cell?_setCell_other _ _ _ _ (fun e => by injection e with _ e2; omega)).trans ((World.cell?_setCell_other _ _ _ _ (fun e => by injection e with _ e2; omega)).trans ((World.cell?_setCell_other _ _ _ _ (fun e => by injection e with _ e2; omega)).trans ((World.cell?_setCell_other _ _ _ _ (fun e => by injection e with _ e2; omega)).trans ((World.cell?_setCell_other _ _ _ _ (fun e => by injection e with _ e2; omega)).trans h))))))))))

theorem set13_at11 (X : World) (P : Nat) (v0 v1 v2 v3 v4 v5 v6 v7 v8 v9 v10 v11 v12 : Value) (h : ∃ u, X.cell? ⟨P, 11, none⟩ = some u) : (((((((((((((X.setCell ⟨P, 0, none⟩ v0).setCell ⟨P, 1, none⟩ v1).setCell ⟨P, 2, none⟩ v2).setCell ⟨P, 3, none⟩ v3).setCell ⟨P, 4, none⟩ v4).setCell ⟨P, 5, none⟩ v5).setCell ⟨P, 6, none⟩ v6).setCell ⟨P, 7, none⟩ v7).setCell ⟨P, 8, none⟩ v8).setCell ⟨P, 9, none⟩ v9).setCell ⟨P, 10, none⟩ v10).setCell ⟨P, 11, none⟩ v11).setCell ⟨P, 12, none⟩ v12).cell? ⟨P, 11, none⟩ = some v11 := by
  obtain ⟨u, h⟩ := h
  rw [World.cell?_setCell_other _ _ _ _ (fun e => by injection e with _ e2; omega)]
  exact World.cell?_setCell_same _ _ _ ((World.cell?_setCell_other _ _ _ _ (fun e => by injection e with _ e2; omega)).trans ((World.cell?_setCell_other _ _ _ _ (fun e => by injection e with _ e2; omega)).trans ((World.cell?_setCell_other _ _ _ _ (fun e => by injection e with _ e2; omega)).trans ((World.cell?_setCell_other _ _ _ _ (fun e => by injection e with _ e2; omega)).trans ((World.cell?_setCell_other _ _ _ _ (fun e => by injection e with _ e2; omega)).trans ((World.cell?_setCell_other _ _ _ _ (fun e => by injection e with _ e2; omega)).trans ((World.cell?_setCell_other _ _ _ _ (fun e => by injection e with _ e2; omega)).trans ((World.cell?_setCell_other _ _ _ _ (fun e => by injection e with _ e2; omega)).trans ((World.cell?_setCell_other _ _ _ _ (fun e => by injection e with _ e2; omega)).trans ((World.cell?_setCell_other _ _ _ _ (fun e => by injection e with _ e2; omega)).trans ((World.cell?_setCell_other _ _ _ _ (fun e => by injection e with _ e2; omega)).trans h)))))))))))

theorem set13_at12 (X : World) (P : Nat) (v0 v1 v2 v3 v4 v5 v6 v7 v8 v9 v10 v11 v12 : Value) (h : ∃ u, X.cell? ⟨P, 12, none⟩ = some u) : (((((((((((((X.setCell ⟨P, 0, none⟩ v0).setCell ⟨P, 1, none⟩ v1).setCell ⟨P, 2, none⟩ v2).setCell ⟨P, 3, none⟩ v3).setCell ⟨P, 4, none⟩ v4).setCell ⟨P, 5, none⟩ v5).setCell ⟨P, 6, none⟩ v6).setCell ⟨P, 7, none⟩ v7).setCell ⟨P, 8, none⟩ v8).setCell ⟨P, 9, none⟩ v9).setCell ⟨P, 10, none⟩ v10).setCell ⟨P, 11, none⟩ v11).setCell ⟨P, 12, none⟩ v12).cell? ⟨P, 12, none⟩ = some v12 := by
  obtain ⟨u, h⟩ := h
  exact World.cell?_setCell_same _ _ _ ((World.cell?_setCell_other _ _ _ _ (fun e => by injection e with _ e2; omega)).trans ((World.cell?_setCell_other _ _ _ _ (fun e => by injection e with _ e2; omega)).trans ((World.cell?_setCell_other _ _ _ _ (fun e => by injection e with _ e2; omega)).trans ((World.cell?_setCell_other _ _ _ _ (fun e => by injection e with _ e2; omega)).trans ((World.cell?_setCell_other _ _ _ _ (fun e => by injection e with _ e2; omega)).trans ((World.cell?_setCell_other _ _ _ _ (fun e => by injection e with _ e2; omega)).trans ((World.cell?_setCell_other _ _ _ _ (fun e => by injection e with _ e2; omega)).trans ((World.cell?_setCell_other _ _ _ _ (fun e => by injection e with _ e2; omega)).trans ((World.cell?_setCell_other _ _ _ _ (fun e => by injection e with _ e2; omega)).trans ((World.cell?_setCell_other _ _ _ _ (fun e => by injection e with _ e2; omega)).trans ((World.cell?_setCell_other _ _ _ _ (fun e => by injection e with _ e2; omega)).trans ((World.cell?_setCell_other _ _ _ _ (fun e => by injection e with _ e2; omega)).trans h))))))))))))

end Go.Proofs.YtgkjmeogdomgmaaGreat
