import Derived.Test.YtbfmdnnbiidlkaaGreatK14
import Derived.Test.YtbfmdnnbiidlkaaGreatK12
import Derived.Test.YtbfmdnnbiidlkaaGreatK9
import Derived.WalkKit
import Derived.ProofKit
import Derived.OpenShut
import Derived.ShutString
import Derived.ChangeOld
import Derived.Below
import Derived.WalkSpells
import Derived.Deep.QuietTactic
import Derived.BigQuiet
import Derived.Deep.RegionWith
import Derived.Deep.WholeRow
import Derived.Deep.DeepCutAuto
import Derived.Deep.RegionHeld2
import Derived.Deep.AppendLies
import Derived.Deep.RegionLaw
namespace Go.Proofs.YtbfmdnnbiidlkaaGreat
open Go.ChangeShapes Go.WideShapes Go.ChangeAt Go.RowKit

/-- where a system's slices lie. -/
structure SA where
  a : Option Addr
  n : Nat
  c : Nat
  ta : Option Addr
  tn : Nat
  tc : Nat
  da : Option Addr
  dn : Nat
  dc : Nat
  wa : Option Addr
  wn : Nat
  wc : Nat
  xa : Option Addr
  xn : Nat
  xc : Nat
  la : Option Addr
  ln : Nat
  lc : Nat
  oa : Option Addr
  on : Nat
  oc : Nat
  ga : Option Addr
  gn : Nat
  gc : Nat

/-- what a system reads as: slots, tags, domains, words, contexts, Active, the cache's size and lines, Device, Out, gates. -/
structure SD where
  ss : List (Int × List Int)
  ts : List Int
  ds : List Int
  ws : List (Int × Int)
  cs : List (List Int × Int × Bool)
  ac : Int
  cz : Int
  ls : List (Int × Int × Int)
  dv : Int
  os : List Int
  gs : List (Int × Int)

/-- a system in memory reads as D. -/
structure RS (w : World) (A : SA) (D : SD) : Prop where
  rt : RT w A.a A.n D.ss A.ta A.tn D.ts A.da A.dn D.ds
  wm : A.wn ≤ maxLen
  ws : Swd w A.wa A.wn D.ws
  xm : A.xn ≤ maxLen
  xs : Scx w A.xa A.xn D.cs
  lm : A.ln ≤ maxLen
  ls : Sln w A.la A.ln D.ls
  om : A.on ≤ maxLen
  os : Sl w A.oa A.on D.os
  gm : A.gn ≤ maxLen
  gs : Swd w A.ga A.gn D.gs

theorem RS.below {w w' : World} {A : SA} {D : SD} (h : RS w A D) {B : Nat} (hb : Below B w w') (hB : w.heap.size ≤ B) : RS w' A D :=
  ⟨h.rt.below hb hB, h.wm, h.ws.below hb hB, h.xm, h.xs.below hb hB, h.lm, h.ls.below hb hB, h.om, h.os.below hb hB, h.gm, h.gs.below hb hB⟩

/-- how much a system holds. -/
def szY (A : SA) (D : SD) : Nat := (A.n + lenSum D.ss + A.tn + A.dn) + A.wn + (A.xn + lenX D.cs) + A.ln + A.on + A.gn

/-- an owned system: six parts, each in blocks of its own. -/
structure OYb (Q : Nat → Nat → Prop) (A : SA) (D : SD) (w : World) : Prop where
  t : OT (Q 0) A.a A.n D.ss A.ta A.tn D.ts A.da A.dn D.ds w
  m : OWd (Q 1) A.wa A.wn D.ws w
  x : OX (Q 2) A.xa A.xn D.cs w
  l : OL (Q 3) A.la A.ln D.ls w
  o : OS (Q 4) A.oa A.on D.os w
  g : OWd (Q 5) A.ga A.gn D.gs w

def OY (S : Nat → Prop) (A : SA) (D : SD) (w : World) : Prop :=
  ∃ Q : Nat → Nat → Prop, (∀ i k, Q i k → S k) ∧ (∀ i j k, i ≠ j → Q i k → ¬ Q j k) ∧ szY A D ≤ 1048576 ∧ A.ln ≤ A.lc ∧ OYb Q A D w

theorem OYb.loc {S : Nat → Prop} {Q : Nat → Nat → Prop} {A : SA} {D : SD} (hQ : ∀ i k, Q i k → S k) : Loc S (OYb Q A D) := fun w w' hk h =>
  ⟨OT.loc w w' (fun k e hl => hk k (hQ _ _ e) hl) h.t, OWd.loc w w' (fun k e hl => hk k (hQ _ _ e) hl) h.m, OX.loc w w' (fun k e hl => hk k (hQ _ _ e) hl) h.x, OL.loc w w' (fun k e hl => hk k (hQ _ _ e) hl) h.l, OS.loc w w' (fun k e hl => hk k (hQ _ _ e) hl) h.o, OWd.loc w w' (fun k e hl => hk k (hQ _ _ e) hl) h.g⟩

theorem OY.loc {S : Nat → Prop} {A : SA} {D : SD} : Loc S (OY S A D) := fun w w' hk h => by
  obtain ⟨Q, h1, h2, h3, h4, h5⟩ := h
  exact ⟨Q, h1, h2, h3, h4, OYb.loc h1 w w' hk h5⟩

theorem OY.mono {S S' : Nat → Prop} {A : SA} {D : SD} {w : World} (h : OY S A D w) (hs : ∀ k, S k → S' k) : OY S' A D w := by
  obtain ⟨Q, h1, h2, h3⟩ := h
  exact ⟨Q, fun i k e => hs k (h1 i k e), h2, h3⟩

theorem OY.rs {S : Nat → Prop} {A : SA} {D : SD} {w : World} (h : OY S A D w) : RS w A D := by
  obtain ⟨Q, _, _, hz, _, h⟩ := h
  unfold szY at hz
  exact ⟨h.t.rt, by unfold maxLen; omega, h.m.swd, by unfold maxLen; omega, h.x.scx, by unfold maxLen; omega, h.l.sln, by unfold maxLen; omega, h.o.sl, by unfold maxLen; omega, h.g.swd⟩

theorem OY.sz {S : Nat → Prop} {A : SA} {D : SD} {w : World} (h : OY S A D w) : szY A D ≤ 1048576 := h.choose_spec.2.2.1

/-- the lengths of what reads as D. -/
theorem RS.len {w : World} {A : SA} {D : SD} (h : RS w A D) : D.ss.length = A.n ∧ D.ts.length = A.tn ∧ D.ds.length = A.dn ∧ D.ws.length = A.wn ∧ D.cs.length = A.xn ∧ D.ls.length = A.ln ∧ D.os.length = A.on ∧ D.gs.length = A.gn :=
  ⟨h.rt.2.1.1, h.rt.2.2.2.1.1, h.rt.2.2.2.2.2.1, h.ws.1, h.xs.1, h.ls.1, h.os.1, h.gs.1⟩

/-- the cells of a block, from the first on. -/
def Cs (P : Nat) (vs : List Value) (w : World) : Prop := P < w.heap.size ∧ ∀ i, i < vs.length → w.cell? ⟨P, i, none⟩ = some (vs.getD i undef) ∧ w.frozen? ⟨P, i, none⟩ = false

theorem Cs.loc {P : Nat} {vs : List Value} : Loc (InR P (P + 1)) (Cs P vs) := fun w w' hk h => by
  have e := hk P ⟨Nat.le_refl _, by omega⟩ h.1
  have hN' : P < w'.heap.size := by
    have h1 := h.1
    rw [Array.getElem?_eq_getElem h1] at e
    exact (Array.getElem?_eq_some_iff.1 e).1
  exact ⟨hN', fun i hi => ⟨(World.cell?_of_block (a := ⟨P, i, none⟩) e).trans (h.2 i hi).1, (World.frozen?_of_block (a := ⟨P, i, none⟩) e).trans (h.2 i hi).2⟩⟩

theorem Cs.cell {P : Nat} {vs : List Value} {w : World} (h : Cs P vs w) (i : Nat) {v : Value} (hv : vs[i]? = some v) : w.cell? ⟨P, i, none⟩ = some v := by
  obtain ⟨hi, e⟩ := List.getElem?_eq_some_iff.1 hv
  rw [(h.2 i hi).1]
  simp [hi, e]

theorem Cs.fz {P : Nat} {vs : List Value} {w : World} (h : Cs P vs w) (i : Nat) (hi : i < vs.length) : w.frozen? ⟨P, i, none⟩ = false := (h.2 i hi).2

theorem Cs.set {P : Nat} {vs : List Value} {w : World} (h : Cs P vs w) (i : Nat) (hi : i < vs.length) (v : Value) : Cs P (vs.set i v) (w.setCell ⟨P, i, none⟩ v) := by
  refine ⟨by simpa using h.1, fun j hj => ?_⟩
  rw [List.length_set] at hj
  refine ⟨?_, by simpa using (h.2 j hj).2⟩
  by_cases e : j = i
  · subst e
    rw [World.cell?_setCell_same _ _ _ (h.2 j hj).1]
    simp [hj]
  · rw [World.cell?_setCell_other _ _ _ _ (fun h => by injection h with _ h2; exact e h2.symm), (h.2 j hj).1]
    simp [Ne.symm e]

theorem Cs.alloc (w : World) (vs : List Value) (t : TypeId) : Cs w.heap.size vs (w.alloc (.cells vs.toArray t)) :=
  ⟨by simp, fun i hi => ⟨by rw [World.cell?_alloc_new]; simp [hi], by simp⟩⟩

theorem Mm.allocC {w u : World} {cs : List (Nat × Nat × Value)} {fs : List (Nat × Nat × (World → Prop))} (h : Mm w u cs fs) (vs : List Value) (t : TypeId) : Mm w (u.alloc (.cells vs.toArray t)) cs ((u.heap.size, u.heap.size + 1, Cs u.heap.size vs) :: fs) :=
  (h.below ((Below.refl _ _).alloc (Nat.le_refl _) (.cells vs.toArray t))).fact Cs.loc (Cs.alloc u vs t)

/-- a cell of a block among the facts is written. -/
theorem Mm.put {w u : World} {cs : List (Nat × Nat × Value)} {fs : List (Nat × Nat × (World → Prop))} (h : Mm w u cs fs) (i : Nat) {P : Nat} {vs : List Value} (hf : fs[i]? = some (P, P + 1, Cs P vs)) (j : Nat) (hj : j < vs.length) (v : Value) (hb : w.heap.size ≤ P)
    (hc : ∀ c ∈ cs, c.1 ≠ P) (hd : ∀ f ∈ fs.eraseIdx i, P < f.1 ∨ f.2.1 ≤ P) : Mm w (u.setCell ⟨P, j, none⟩ v) cs (fs.set i (P, P + 1, Cs P (vs.set j v))) := by
  have h0 := h.get i hf
  refine ⟨h.bel.setCell hb v, fun c k => ?_, fun f k => ?_⟩
  · have h1 := h.cells c k
    refine ⟨by simpa using h1.1, ?_, by simpa using h1.2.2⟩
    rw [World.cell?_setCell_other _ _ _ _ (fun e => by injection e with e1 e2; exact hc c k e1.symm)]
    exact h1.2.1
  · rcases mem_set_erase fs i _ f k with rfl | k
    · exact ⟨Cs.loc, h0.set j hj v⟩
    · have h1 := h.facts f (List.mem_of_mem_eraseIdx k)
      refine ⟨h1.1, h1.1.setC h1.2 (fun e => ?_) v⟩
      have a1 := e.1
      have a2 := e.2
      have := hd f k
      simp only at a1 a2
      omega

set_option maxRecDepth 100000 in
set_option maxHeartbeats 2000000 in
theorem eqSystem_O (S S' : Nat → Prop) (A B : SA) (D : SD) (w : World) (hx : OY S A D w) (hy : OY S' B D w) :
    Calls Tryz.prog 29 #[.agg #[.slice A.a A.n A.c, .slice A.ta A.tn A.tc, .slice A.da A.dn A.dc, .slice A.wa A.wn A.wc, .slice A.xa A.xn A.xc, .int .i64 D.ac, .int .i64 D.cz, .slice A.la A.ln A.lc, .int .i64 D.dv, .slice A.oa A.on A.oc, .slice A.ga A.gn A.gc], .agg #[.slice B.a B.n B.c, .slice B.ta B.tn B.tc, .slice B.da B.dn B.dc, .slice B.wa B.wn B.wc, .slice B.xa B.xn B.xc, .int .i64 D.ac, .int .i64 D.cz, .slice B.la B.ln B.lc, .int .i64 D.dv, .slice B.oa B.on B.oc, .slice B.ga B.gn B.gc]] w fun e w' => e = .returned (.bool true) ∧ Below w.heap.size w w' := by
  have r1 := hx.rs
  have r2 := hy.rs
  obtain ⟨⟨a, n, c, ta, tn, tc, da, dn, dc, wa, wn, wc, xa, xn, xc, la, ln, lc, oa, on, oc, ga, gn, gc⟩, eA⟩ : ∃ x, x = A := ⟨A, rfl⟩
  obtain ⟨⟨b, m, c2, tb, tm, tc2, db, dm, dc2, wb, wm, wc2, xb, xm, xc2, lb, lm, lc2, ob, om, oc2, gb, gm, gc2⟩, eB⟩ : ∃ x, x = B := ⟨B, rfl⟩
  subst eA eB
  have l1 := r1.len
  have l2 := r2.len
  dsimp only at l1 l2 r1 r2 ⊢
  obtain rfl : m = n := by omega
  obtain rfl : tm = tn := by omega
  obtain rfl : dm = dn := by omega
  obtain rfl : wm = wn := by omega
  obtain rfl : xm = xn := by omega
  obtain rfl : lm = ln := by omega
  obtain rfl : om = on := by omega
  obtain rfl : gm = gn := by omega
  clear l1 l2
  have e1 : (D.ac != D.ac) = false := by simp
  have e2 : (D.dv != D.dv) = false := by simp
  have M0 := ((Mm.start w).allocC [.slice a m c, .slice ta tm tc, .slice da dm dc, .slice wa wm wc, .slice xa xm xc, .int .i64 D.ac, .int .i64 D.cz, .slice la lm lc, .int .i64 D.dv, .slice oa om oc, .slice ga gm gc] 47).allocC [.slice b m c2, .slice tb tm tc2, .slice db dm dc2, .slice wb wm wc2, .slice xb xm xc2, .int .i64 D.ac, .int .i64 D.cz, .slice lb lm lc2, .int .i64 D.dv, .slice ob om oc2, .slice gb gm gc2] 47
  simp only [World.size_alloc] at M0
  obtain ⟨Q1, _, _, z1, _, o1⟩ := hx
  obtain ⟨Q2, _, _, z2, _, o2⟩ := hy
  go_enter Tryz.func29, Tryz.ntmps29
  go_wp2_with fail
  refine (eqTables_O _ _ a b m c c2 D.ss ta tb tm tc tc2 D.ts da db dm dc dc2 D.ds _ (OT.loc.below M0.bel o1.t) (OT.loc.below M0.bel o2.t)).mono ?_
  rintro e w1 ⟨rfl, g1⟩
  have M1 := M0.below g1
  clear g1 M0 
  have p1_3 := (M1.get 1 rfl).cell 3 rfl
  have q1_3 := (M1.get 0 rfl).cell 3 rfl
  go_wp2_with fail
  refine (eqMemory_calls wa wb wm wc wc2 D.ws _ r1.wm (r1.ws.below M1.bel (Nat.le_refl _)) (r2.ws.below M1.bel (Nat.le_refl _))).mono ?_
  rintro e w2 ⟨rfl, g2⟩
  have M2 := M1.below g2
  clear g2 M1 p1_3 q1_3
  have p2_4 := (M2.get 1 rfl).cell 4 rfl
  have q2_4 := (M2.get 0 rfl).cell 4 rfl
  go_wp2_with fail
  refine (eqContextS_calls xa xb xm xc xc2 D.cs _ r1.xm (r1.xs.below M2.bel (Nat.le_refl _)) (r2.xs.below M2.bel (Nat.le_refl _))).mono ?_
  rintro e w3 ⟨rfl, g3⟩
  have M3 := M2.below g3
  clear g3 M2 p2_4 q2_4
  have p3_6 := (M3.get 1 rfl).cell 6 rfl
  have q3_6 := (M3.get 0 rfl).cell 6 rfl
  have p3_7 := (M3.get 1 rfl).cell 7 rfl
  have q3_7 := (M3.get 0 rfl).cell 7 rfl
  have p3_5 := (M3.get 1 rfl).cell 5 rfl
  have q3_5 := (M3.get 0 rfl).cell 5 rfl
  go_wp2_with fail
  refine (eqCache_calls D.cz la lb lm lc lc2 D.ls _ r1.lm (r1.ls.below M3.bel (Nat.le_refl _)) (r2.ls.below M3.bel (Nat.le_refl _))).mono ?_
  rintro e w4 ⟨rfl, g4⟩
  have M4 := M3.below g4
  clear g4 M3 p3_6 q3_6 p3_7 q3_7 p3_5 q3_5
  have p4_9 := (M4.get 1 rfl).cell 9 rfl
  have q4_9 := (M4.get 0 rfl).cell 9 rfl
  have p4_8 := (M4.get 1 rfl).cell 8 rfl
  have q4_8 := (M4.get 0 rfl).cell 8 rfl
  go_wp2_with fail
  refine (eqInts_calls oa ob om oc om oc2 D.os D.os _ r1.om r1.om (r1.os.below M4.bel (Nat.le_refl _)) (r2.os.below M4.bel (Nat.le_refl _))).mono ?_
  rintro e w5 ⟨rfl, g5⟩
  rw [decide_eq_true rfl]
  have M5 := M4.below g5
  clear g5 M4 p4_9 q4_9 p4_8 q4_8
  have p5_10 := (M5.get 1 rfl).cell 10 rfl
  have q5_10 := (M5.get 0 rfl).cell 10 rfl
  go_wp2_with fail
  refine (eqGateS_calls ga gb gm gc gc2 D.gs _ r1.gm (r1.gs.below M5.bel (Nat.le_refl _)) (r2.gs.below M5.bel (Nat.le_refl _))).mono ?_
  rintro e w6 ⟨rfl, g6⟩
  have M6 := M5.below g6
  clear g6 M5 p5_10 q5_10
  have HB := hide M6.bel
  clear M6
  go_wp2
  go_ret
  exact ⟨rfl, HB.out⟩

end Go.Proofs.YtbfmdnnbiidlkaaGreat
