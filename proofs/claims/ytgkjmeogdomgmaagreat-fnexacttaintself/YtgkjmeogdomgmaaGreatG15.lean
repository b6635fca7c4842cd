import Derived.Test.YtgkjmeogdomgmaaGreatG14
import Derived.Test.YtgkjmeogdomgmaaGreatG12
import Derived.Test.YtgkjmeogdomgmaaGreatG9
import Derived.WalkKit
import Derived.ProofKit
import Derived.OpenShut
import Derived.ShutString
import Derived.ChangeOld
import Derived.Below
import Derived.WalkSpells
import Derived.Deep.QuietTactic
import Derived.BigQuiet
import Derived.Deep.RegionWith
import Derived.Deep.WholeRow
import Derived.Deep.DeepCutAuto
import Derived.Deep.RegionHeld2
import Derived.Deep.AppendLies
import Derived.Deep.RegionLaw
namespace Go.Proofs.YtgkjmeogdomgmaaGreat
open Go.ChangeShapes Go.WideShapes Go.ChangeAt Go.RowKit

/-- where a system's slices lie. -/
structure SA where
  a : Option Addr
  n : Nat
  c : Nat
  ta : Option Addr
  tn : Nat
  tc : Nat
  da : Option Addr
  dn : Nat
  dc : Nat
  wa : Option Addr
  wn : Nat
  wc : Nat
  xa : Option Addr
  xn : Nat
  xc : Nat
  la : Option Addr
  ln : Nat
  lc : Nat
  oa : Option Addr
  on : Nat
  oc : Nat
  ga : Option Addr
  gn : Nat
  gc : Nat

/-- what a system reads as: slots, tags, domains, words, contexts, Active, the cache's size and lines, Device, Out, gates. -/
structure SD where
  ss : List (Int × List Int)
  ts : List Int
  ds : List Int
  ws : List (Int × Int)
  cs : List (List Int × Int × Bool)
  ac : Int
  cz : Int
  ls : List (Int × Int × Int)
  dv : Int
  os : List Int
  gs : List (Int × Int)

/-- a system in memory reads as D. -/
structure RS (w : World) (A : SA) (D : SD) : Prop where
  rt : RT w A.a A.n D.ss A.ta A.tn D.ts A.da A.dn D.ds
  wm : A.wn ≤ maxLen
  ws : Swd w A.wa A.wn D.ws
  xm : A.xn ≤ maxLen
  xs : Scx w A.xa A.xn D.cs
  lm : A.ln ≤ maxLen
  ls : Sln w A.la A.ln D.ls
  om : A.on ≤ maxLen
  os : Sl w A.oa A.on D.os
  gm : A.gn ≤ maxLen
  gs : Swd w A.ga A.gn D.gs

theorem RS.below {w w' : World} {A : SA} {D : SD} (h : RS w A D) {B : Nat} (hb : Below B w w') (hB : w.heap.size ≤ B) : RS w' A D :=
  ⟨h.rt.below hb hB, h.wm, h.ws.below hb hB, h.xm, h.xs.below hb hB, h.lm, h.ls.below hb hB, h.om, h.os.below hb hB, h.gm, h.gs.below hb hB⟩

/-- how much a system holds. -/
def szY (A : SA) (D : SD) : Nat := (A.n + lenSum D.ss + A.tn + A.dn) + A.wn + (A.xn + lenX D.cs) + A.ln + A.on + A.gn

/-- an owned system: six parts, each in blocks of its own. -/
structure OYb (Q : Nat → Nat → Prop) (A : SA) (D : SD) (w : World) : Prop where
  t : OT (Q 0) A.a A.n D.ss A.ta A.tn D.ts A.da A.dn D.ds w
  m : OWd (Q 1) A.wa A.wn D.ws w
  x : OX (Q 2) A.xa A.xn D.cs w
  l : OL (Q 3) A.la A.ln D.ls w
  o : OS (Q 4) A.oa A.on D.os w
  g : OWd (Q 5) A.ga A.gn D.gs w

def OY (S : Nat → Prop) (A : SA) (D : SD) (w : World) : Prop :=
  ∃ Q : Nat → Nat → Prop, (∀ i k, Q i k → S k) ∧ (∀ i j k, i ≠ j → Q i k → ¬ Q j k) ∧ szY A D ≤ 1048576 ∧ A.ln ≤ A.lc ∧ OYb Q A D w

theorem OYb.loc {S : Nat → Prop} {Q : Nat → Nat → Prop} {A : SA} {D : SD} (hQ : ∀ i k, Q i k → S k) : Loc S (OYb Q A D) := fun w w' hk h =>
  ⟨OT.loc w w' (fun k e hl => hk k (hQ _ _ e) hl) h.t, OWd.loc w w' (fun k e hl => hk k (hQ _ _ e) hl) h.m, OX.loc w w' (fun k e hl => hk k (hQ _ _ e) hl) h.x, OL.loc w w' (fun k e hl => hk k (hQ _ _ e) hl) h.l, OS.loc w w' (fun k e hl => hk k (hQ _ _ e) hl) h.o, OWd.loc w w' (fun k e hl => hk k (hQ _ _ e) hl) h.g⟩

theorem OY.loc {S : Nat → Prop} {A : SA} {D : SD} : Loc S (OY S A D) := fun w w' hk h => by
  obtain ⟨Q, h1, h2, h3, h4, h5⟩ := h
  exact ⟨Q, h1, h2, h3, h4, OYb.loc h1 w w' hk h5⟩

theorem OY.mono {S S' : Nat → Prop} {A : SA} {D : SD} {w : World} (h : OY S A D w) (hs : ∀ k, S k → S' k) : OY S' A D w := by
  obtain ⟨Q, h1, h2, h3⟩ := h
  exact ⟨Q, fun i k e => hs k (h1 i k e), h2, h3⟩

theorem OY.rs {S : Nat → Prop} {A : SA} {D : SD} {w : World} (h : OY S A D w) : RS w A D := by
  obtain ⟨Q, _, _, hz, _, h⟩ := h
  unfold szY at hz
  exact ⟨h.t.rt, by unfold maxLen; omega, h.m.swd, by unfold maxLen; omega, h.x.scx, by unfold maxLen; omega, h.l.sln, by unfold maxLen; omega, h.o.sl, by unfold maxLen; omega, h.g.swd⟩

theorem OY.lk {S : Nat → Prop} {A : SA} {D : SD} {w : World} (h : OY S A D w) : A.ln ≤ A.lc := h.choose_spec.2.2.2.1

theorem OY.sz {S : Nat → Prop} {A : SA} {D : SD} {w : World} (h : OY S A D w) : szY A D ≤ 1048576 := h.choose_spec.2.2.1

/-- the lengths of what reads as D. -/
theorem RS.len {w : World} {A : SA} {D : SD} (h : RS w A D) : D.ss.length = A.n ∧ D.ts.length = A.tn ∧ D.ds.length = A.dn ∧ D.ws.length = A.wn ∧ D.cs.length = A.xn ∧ D.ls.length = A.ln ∧ D.os.length = A.on ∧ D.gs.length = A.gn :=
  ⟨h.rt.2.1.1, h.rt.2.2.2.1.1, h.rt.2.2.2.2.2.1, h.ws.1, h.xs.1, h.ls.1, h.os.1, h.gs.1⟩

/-- the cells of a block, from the first on. -/
def Cs (P : Nat) (vs : List Value) (w : World) : Prop := P < w.heap.size ∧ ∀ i, i < vs.length → w.cell? ⟨P, i, none⟩ = some (vs.getD i undef) ∧ w.frozen? ⟨P, i, none⟩ = false

theorem Cs.loc {P : Nat} {vs : List Value} : Loc (InR P (P + 1)) (Cs P vs) := fun w w' hk h => by
  have e := hk P ⟨Nat.le_refl _, by omega⟩ h.1
  have hN' : P < w'.heap.size := by
    have h1 := h.1
    rw [Array.getElem?_eq_getElem h1] at e
    exact (Array.getElem?_eq_some_iff.1 e).1
  exact ⟨hN', fun i hi => ⟨(World.cell?_of_block (a := ⟨P, i, none⟩) e).trans (h.2 i hi).1, (World.frozen?_of_block (a := ⟨P, i, none⟩) e).trans (h.2 i hi).2⟩⟩

theorem Cs.cell {P : Nat} {vs : List Value} {w : World} (h : Cs P vs w) (i : Nat) {v : Value} (hv : vs[i]? = some v) : w.cell? ⟨P, i, none⟩ = some v := by
  obtain ⟨hi, e⟩ := List.getElem?_eq_some_iff.1 hv
  rw [(h.2 i hi).1]
  simp [hi, e]

theorem Cs.fz {P : Nat} {vs : List Value} {w : World} (h : Cs P vs w) (i : Nat) (hi : i < vs.length) : w.frozen? ⟨P, i, none⟩ = false := (h.2 i hi).2

theorem Cs.set {P : Nat} {vs : List Value} {w : World} (h : Cs P vs w) (i : Nat) (hi : i < vs.length) (v : Value) : Cs P (vs.set i v) (w.setCell ⟨P, i, none⟩ v) := by
  refine ⟨by simpa using h.1, fun j hj => ?_⟩
  rw [List.length_set] at hj
  refine ⟨?_, by simpa using (h.2 j hj).2⟩
  by_cases e : j = i
  · subst e
    rw [World.cell?_setCell_same _ _ _ (h.2 j hj).1]
    simp [hj]
  · rw [World.cell?_setCell_other _ _ _ _ (fun h => by injection h with _ h2; exact e h2.symm), (h.2 j hj).1]
    simp [Ne.symm e]

theorem Cs.alloc (w : World) (vs : List Value) (t : TypeId) : Cs w.heap.size vs (w.alloc (.cells vs.toArray t)) :=
  ⟨by simp, fun i hi => ⟨by rw [World.cell?_alloc_new]; simp [hi], by simp⟩⟩

theorem Mm.allocC {w u : World} {cs : List (Nat × Nat × Value)} {fs : List (Nat × Nat × (World → Prop))} (h : Mm w u cs fs) (vs : List Value) (t : TypeId) : Mm w (u.alloc (.cells vs.toArray t)) cs ((u.heap.size, u.heap.size + 1, Cs u.heap.size vs) :: fs) :=
  (h.below ((Below.refl _ _).alloc (Nat.le_refl _) (.cells vs.toArray t))).fact Cs.loc (Cs.alloc u vs t)

/-- a cell of a block among the facts is written. -/
theorem Mm.put {w u : World} {cs : List (Nat × Nat × Value)} {fs : List (Nat × Nat × (World → Prop))} (h : Mm w u cs fs) (i : Nat) {P : Nat} {vs : List Value} (hf : fs[i]? = some (P, P + 1, Cs P vs)) (j : Nat) (hj : j < vs.length) (v : Value) (hb : w.heap.size ≤ P)
    (hc : ∀ c ∈ cs, c.1 ≠ P) (hd : ∀ f ∈ fs.eraseIdx i, P < f.1 ∨ f.2.1 ≤ P) : Mm w (u.setCell ⟨P, j, none⟩ v) cs (fs.set i (P, P + 1, Cs P (vs.set j v))) := by
  have h0 := h.get i hf
  refine ⟨h.bel.setCell hb v, fun c k => ?_, fun f k => ?_⟩
  · have h1 := h.cells c k
    refine ⟨by simpa using h1.1, ?_, by simpa using h1.2.2⟩
    rw [World.cell?_setCell_other _ _ _ _ (fun e => by injection e with e1 e2; exact hc c k e1.symm)]
    exact h1.2.1
  · rcases mem_set_erase fs i _ f k with rfl | k
    · exact ⟨Cs.loc, h0.set j hj v⟩
    · have h1 := h.facts f (List.mem_of_mem_eraseIdx k)
      refine ⟨h1.1, h1.1.setC h1.2 (fun e => ?_) v⟩
      have a1 := e.1
      have a2 := e.2
      have := hd f k
      simp only at a1 a2
      omega

theorem Mm.alloc11 {w u : World} {cs : List (Nat × Nat × Value)} {fs : List (Nat × Nat × (World → Prop))} (h : Mm w u cs fs) (v0 v1 v2 v3 v4 v5 v6 v7 v8 v9 v10 : Value) (t : TypeId) : Mm w (u.alloc (.cells #[v0, v1, v2, v3, v4, v5, v6, v7, v8, v9, v10] t)) ((u.heap.size, 0, v0) :: (u.heap.size, 1, v1) :: (u.heap.size, 2, v2) :: (u.heap.size, 3, v3) :: (u.heap.size, 4, v4) :: (u.heap.size, 5, v5) :: (u.heap.size, 6, v6) :: (u.heap.size, 7, v7) :: (u.heap.size, 8, v8) :: (u.heap.size, 9, v9) :: (u.heap.size, 10, v10) :: cs) fs :=
  (((((((((((h.below ((Below.refl _ _).alloc (Nat.le_refl _) (.cells #[v0, v1, v2, v3, v4, v5, v6, v7, v8, v9, v10] t))).cons (by simp) (by simp)).cons (by simp) (by simp)).cons (by simp) (by simp)).cons (by simp) (by simp)).cons (by simp) (by simp)).cons (by simp) (by simp)).cons (by simp) (by simp)).cons (by simp) (by simp)).cons (by simp) (by simp)).cons (by simp) (by simp)).cons (by simp) (by simp)

set_option maxRecDepth 100000 in
set_option maxHeartbeats 2000000 in
theorem szSystem_calls (A : SA) (D : SD) (left : Int) (w : World) (h0 : 0 ≤ left) (h1 : left ≤ 1048576) (hr : RS w A D) :
    Calls Tryz.prog 4 #[.agg #[.slice A.a A.n A.c, .slice A.ta A.tn A.tc, .slice A.da A.dn A.dc, .slice A.wa A.wn A.wc, .slice A.xa A.xn A.xc, .int .i64 D.ac, .int .i64 D.cz, .slice A.la A.ln A.lc, .int .i64 D.dv, .slice A.oa A.on A.oc, .slice A.ga A.gn A.gc], .int .i64 left] w fun e w' => e = .returned (.int .i64 (szI (szY A D) left)) ∧ Below w.heap.size w w' := by
  have M0 := (Mm.start w).allocC [.slice A.a A.n A.c, .slice A.ta A.tn A.tc, .slice A.da A.dn A.dc, .slice A.wa A.wn A.wc, .slice A.xa A.xn A.xc, .int .i64 D.ac, .int .i64 D.cz, .slice A.la A.ln A.lc, .int .i64 D.dv, .slice A.oa A.on A.oc, .slice A.ga A.gn A.gc] 37
  go_enter Tryz.func4, Tryz.ntmps4
  go_wp2_with fail
  refine (szTables_calls A.a A.n A.c D.ss A.ta A.tn A.tc D.ts A.da A.dn A.dc D.ds left _ h0 h1 (hr.rt.below M0.bel (Nat.le_refl _))).mono ?_
  rintro e w1 ⟨rfl, g1⟩
  have M1 := M0.below g1
  clear g1 M0
  by_cases n0 : left - ((A.n + lenSum D.ss + A.tn + A.dn : Nat) : Int) < 0
  · rw [szI_neg n0]
    have HR := hide (szI_neg (len := szY A D) (left := left) (by unfold szY; omega))
    clear n0
    have HB := hide M1.bel
    clear M1
    go_wp2
    go_ret
    exact ⟨ret_int HR.out.symm, HB.out⟩
  rw [szI_pos (by omega)]
  obtain ⟨l1, hl1⟩ : ∃ x, x = left - ((A.n + lenSum D.ss + A.tn + A.dn : Nat) : Int) := ⟨_, rfl⟩
  rw [← hl1] at n0 ⊢
  have hd1 : ¬ (l1 < 0) := n0
  have Hl1 := hide hl1
  have hp1 : 0 ≤ l1 := by omega
  have hq1 : l1 ≤ 1048576 := by omega
  clear hl1 n0
  have q1_3 := (M1.get 0 rfl).cell 3 rfl
  go_wp2_with fail
  refine (szMemory_calls A.wa A.wn A.wc l1 _ hp1 hq1 hr.wm).mono ?_
  rintro e w2 ⟨rfl, g2⟩
  have M2 := M1.below g2
  clear g2 M1 q1_3
  by_cases n1 : l1 - (A.wn : Int) < 0
  · rw [szI_neg n1]
    have HR := hide (szI_neg (len := szY A D) (left := left) (by have := Hl1.out; unfold szY; omega))
    clear n1
    have HB := hide M2.bel
    clear M2
    go_wp2
    go_ret
    exact ⟨ret_int HR.out.symm, HB.out⟩
  rw [szI_pos (by omega)]
  obtain ⟨l2, hl2⟩ : ∃ x, x = l1 - (A.wn : Int) := ⟨_, rfl⟩
  rw [← hl2] at n1 ⊢
  have hd2 : ¬ (l2 < 0) := n1
  have Hl2 := hide hl2
  have hp2 : 0 ≤ l2 := by omega
  have hq2 : l2 ≤ 1048576 := by omega
  clear hl2 n1
  have q2_4 := (M2.get 0 rfl).cell 4 rfl
  go_wp2_with fail
  refine (szContextS_calls A.xa A.xn A.xc D.cs l2 _ hp2 hq2 hr.xm (hr.xs.below M2.bel (Nat.le_refl _))).mono ?_
  rintro e w3 ⟨rfl, g3⟩
  have M3 := M2.below g3
  clear g3 M2 q2_4
  by_cases n2 : l2 - ((A.xn + lenX D.cs : Nat) : Int) < 0
  · rw [szI_neg n2]
    have HR := hide (szI_neg (len := szY A D) (left := left) (by have := Hl1.out; have := Hl2.out; unfold szY; omega))
    clear n2
    have HB := hide M3.bel
    clear M3
    go_wp2
    go_ret
    exact ⟨ret_int HR.out.symm, HB.out⟩
  rw [szI_pos (by omega)]
  obtain ⟨l3, hl3⟩ : ∃ x, x = l2 - ((A.xn + lenX D.cs : Nat) : Int) := ⟨_, rfl⟩
  rw [← hl3] at n2 ⊢
  have hd3 : ¬ (l3 < 0) := n2
  have Hl3 := hide hl3
  have hp3 : 0 ≤ l3 := by omega
  have hq3 : l3 ≤ 1048576 := by omega
  clear hl3 n2
  have q3_6 := (M3.get 0 rfl).cell 6 rfl
  have q3_7 := (M3.get 0 rfl).cell 7 rfl
  go_wp2_with fail
  refine (szCache_calls D.cz A.la A.ln A.lc l3 _ hp3 hq3 hr.lm).mono ?_
  rintro e w4 ⟨rfl, g4⟩
  have M4 := M3.below g4
  clear g4 M3 q3_6 q3_7
  by_cases n3 : l3 - (A.ln : Int) < 0
  · rw [szI_neg n3]
    have HR := hide (szI_neg (len := szY A D) (left := left) (by have := Hl1.out; have := Hl2.out; have := Hl3.out; unfold szY; omega))
    clear n3
    have HB := hide M4.bel
    clear M4
    go_wp2
    go_ret
    exact ⟨ret_int HR.out.symm, HB.out⟩
  rw [szI_pos (by omega)]
  obtain ⟨l4, hl4⟩ : ∃ x, x = l3 - (A.ln : Int) := ⟨_, rfl⟩
  rw [← hl4] at n3 ⊢
  have hd4 : ¬ (l4 < 0) := n3
  have Hl4 := hide hl4
  have hp4 : 0 ≤ l4 := by omega
  have hq4 : l4 ≤ 1048576 := by omega
  clear hl4 n3
  have q4_9 := (M4.get 0 rfl).cell 9 rfl
  go_wp2_with fail
  refine (sz_calls A.oa A.on A.oc l4 _ hp4 hq4 hr.om).mono ?_
  rintro e w5 ⟨rfl, g5⟩
  have M5 := M4.below g5
  clear g5 M4 q4_9
  by_cases n4 : l4 - (A.on : Int) < 0
  · rw [szI_neg n4]
    have HR := hide (szI_neg (len := szY A D) (left := left) (by have := Hl1.out; have := Hl2.out; have := Hl3.out; have := Hl4.out; unfold szY; omega))
    clear n4
    have HB := hide M5.bel
    clear M5
    go_wp2
    go_ret
    exact ⟨ret_int HR.out.symm, HB.out⟩
  rw [szI_pos (by omega)]
  obtain ⟨l5, hl5⟩ : ∃ x, x = l4 - (A.on : Int) := ⟨_, rfl⟩
  rw [← hl5] at n4 ⊢
  have hd5 : ¬ (l5 < 0) := n4
  have Hl5 := hide hl5
  have hp5 : 0 ≤ l5 := by omega
  have hq5 : l5 ≤ 1048576 := by omega
  clear hl5 n4
  have q5_10 := (M5.get 0 rfl).cell 10 rfl
  go_wp2_with fail
  refine (szGateS_calls A.ga A.gn A.gc l5 _ hp5 hq5 hr.gm).mono ?_
  rintro e w6 ⟨rfl, g6⟩
  have M6 := M5.below g6
  clear g6 M5 q5_10
  by_cases n5 : l5 - (A.gn : Int) < 0
  · rw [szI_neg n5]
    have HR := hide (szI_neg (len := szY A D) (left := left) (by have := Hl1.out; have := Hl2.out; have := Hl3.out; have := Hl4.out; have := Hl5.out; unfold szY; omega))
    clear n5
    have HB := hide M6.bel
    clear M6
    go_wp2
    go_ret
    exact ⟨ret_int HR.out.symm, HB.out⟩
  rw [szI_pos (by omega)]
  obtain ⟨l6, hl6⟩ : ∃ x, x = l5 - (A.gn : Int) := ⟨_, rfl⟩
  rw [← hl6] at n5 ⊢
  have hd6 : ¬ (l6 < 0) := n5
  have Hl6 := hide hl6
  have hp6 : 0 ≤ l6 := by omega
  have hq6 : l6 ≤ 1048576 := by omega
  clear hl6 n5
  have HR : Hid (szI (szY A D) left = l6) := by show _ = _; have := Hl1.out; have := Hl2.out; have := Hl3.out; have := Hl4.out; have := Hl5.out; have := Hl6.out; rw [szI_pos (by unfold szY; omega)]; unfold szY; omega
  have HB := hide M6.bel
  clear M6
  go_wp2
  go_ret
  exact ⟨ret_int HR.out.symm, HB.out⟩
set_option maxRecDepth 100000 in
set_option maxHeartbeats 2000000 in
theorem toSystem_S (A : SA) (D : SD) (w : World) (hm : szY A D ≤ 1048576) (hr : RS w A D) :
    Calls Tryz.prog 6 #[.agg #[.slice A.a A.n A.c, .slice A.ta A.tn A.tc, .slice A.da A.dn A.dc, .slice A.wa A.wn A.wc, .slice A.xa A.xn A.xc, .int .i64 D.ac, .int .i64 D.cz, .slice A.la A.ln A.lc, .int .i64 D.dv, .slice A.oa A.on A.oc, .slice A.ga A.gn A.gc]] w fun e w' => ∃ B : SA, e = .returned (.agg #[.slice B.a B.n B.c, .slice B.ta B.tn B.tc, .slice B.da B.dn B.dc, .slice B.wa B.wn B.wc, .slice B.xa B.xn B.xc, .int .i64 D.ac, .int .i64 D.cz, .slice B.la B.ln B.lc, .int .i64 D.dv, .slice B.oa B.on B.oc, .slice B.ga B.gn B.gc]) ∧ OY (InR w.heap.size w'.heap.size) B D w' ∧ szY B D = szY A D ∧ Below w.heap.size w w' := by
  unfold szY at hm
  obtain ⟨k0, k1, k2, k3, k4, k5, k6, k7⟩ := hr.len
  have M0 := (((Mm.start w).allocC [.slice A.a A.n A.c, .slice A.ta A.tn A.tc, .slice A.da A.dn A.dc, .slice A.wa A.wn A.wc, .slice A.xa A.xn A.xc, .int .i64 D.ac, .int .i64 D.cz, .slice A.la A.ln A.lc, .int .i64 D.dv, .slice A.oa A.on A.oc, .slice A.ga A.gn A.gc] 37).allocC [.slice none 0 0, .slice none 0 0, .slice none 0 0, .slice none 0 0, .slice none 0 0, .int .i64 0, .int .i64 0, .slice none 0 0, .int .i64 0, .slice none 0 0, .slice none 0 0] 53).allocC [.slice none 0 0, .slice none 0 0, .slice none 0 0, .slice none 0 0, .slice none 0 0, .int .i64 0, .int .i64 0, .slice none 0 0, .int .i64 0, .slice none 0 0, .slice none 0 0] 53
  simp only [World.size_alloc] at M0
  go_enter Tryz.func6, Tryz.ntmps6
  go_wp2_with fail
  refine (toTables_O A.a A.n A.c D.ss A.ta A.tn A.tc D.ts A.da A.dn A.dc D.ds _ (by omega) (hr.rt.below M0.bel (Nat.le_refl _))).mono ?_
  rintro e w1 ⟨b0, b1, b2, rfl, o1, g1⟩
  have z1 := g1.size
  simp only [World.size_alloc] at z1 o1
  have N1 := (M0.below g1).fact OT.loc o1
  have u1_0 := (N1.get 1 rfl).cell 0 rfl
  have f1_0 := (N1.get 1 rfl).fz 0 (by simp)
  have u1_1 := (N1.get 1 rfl).cell 1 rfl
  have f1_1 := (N1.get 1 rfl).fz 1 (by simp)
  have u1_2 := (N1.get 1 rfl).cell 2 rfl
  have f1_2 := (N1.get 1 rfl).fz 2 (by simp)
  have P1_0 := N1.put 1 rfl 0 (by simp) (.slice (some ⟨b0, 0, none⟩) A.n A.n) (by omega) (by simp) (by simp <;> omega)
  have P1_1 := P1_0.put 1 rfl 1 (by simp) (.slice (some ⟨b1, 0, none⟩) A.tn A.tn) (by omega) (by simp) (by simp <;> omega)
  have P1_2 := P1_1.put 1 rfl 2 (by simp) (.slice (some ⟨b2, 0, none⟩) A.dn A.dn) (by omega) (by simp) (by simp <;> omega)
  have X1 := P1_2
  simp only [List.set] at X1
  clear P1_2 P1_1 P1_0 N1 M0 g1 o1
  have q1_3 := (X1.get 3 rfl).cell 3 rfl
  go_wp2_with fail
  refine (toMemory_O A.wa A.wn A.wc D.ws _ (by omega) (hr.ws.below X1.bel (Nat.le_refl _))).mono ?_
  rintro e w2 ⟨b3, rfl, o2, g2⟩
  have z2 := g2.size
  simp only [World.size_setCell] at z2 o2
  have N2 := (X1.below g2).fact OWd.loc o2
  have u2_3 := (N2.get 2 rfl).cell 3 rfl
  have f2_3 := (N2.get 2 rfl).fz 3 (by simp)
  have P2_3 := N2.put 2 rfl 3 (by simp) (.slice (some ⟨b3, 0, none⟩) A.wn A.wn) (by omega) (by simp) (by simp <;> omega)
  have X2 := P2_3
  simp only [List.set] at X2
  clear P2_3 N2 X1 g2 o2 q1_3
  have q2_4 := (X2.get 4 rfl).cell 4 rfl
  go_wp2_with fail
  refine (toContextS_O A.xa A.xn A.xc D.cs _ (by omega) (hr.xs.below X2.bel (Nat.le_refl _))).mono ?_
  rintro e w3 ⟨b4, rfl, o3, g3⟩
  have z3 := g3.size
  simp only [World.size_setCell] at z3 o3
  have N3 := (X2.below g3).fact OX.loc o3
  have u3_4 := (N3.get 3 rfl).cell 4 rfl
  have f3_4 := (N3.get 3 rfl).fz 4 (by simp)
  have P3_4 := N3.put 3 rfl 4 (by simp) (.slice (some ⟨b4, 0, none⟩) A.xn A.xn) (by omega) (by simp) (by simp <;> omega)
  have q5 := (N3.get 5 rfl).cell 5 rfl
  have u5 := (N3.get 3 rfl).cell 5 rfl
  have f5 := (N3.get 3 rfl).fz 5 (by simp)
  have P3_5 := P3_4.put 3 rfl 5 (by simp) (.int .i64 D.ac) (by omega) (by simp) (by simp <;> omega)
  have X3 := P3_5
  simp only [List.set] at X3
  clear P3_5 P3_4 N3 X2 g3 o3 q2_4
  have q3_6 := (X3.get 5 rfl).cell 6 rfl
  have q3_7 := (X3.get 5 rfl).cell 7 rfl
  go_wp2_with fail
  refine (toCache_O D.cz A.la A.ln A.lc D.ls _ (by omega) (hr.ls.below X3.bel (Nat.le_refl _))).mono ?_
  rintro e w4 ⟨b7, rfl, o4, g4⟩
  have z4 := g4.size
  simp only [World.size_setCell] at z4 o4
  have N4 := (X3.below g4).fact OL.loc o4
  have u4_6 := (N4.get 4 rfl).cell 6 rfl
  have f4_6 := (N4.get 4 rfl).fz 6 (by simp)
  have u4_7 := (N4.get 4 rfl).cell 7 rfl
  have f4_7 := (N4.get 4 rfl).fz 7 (by simp)
  have P4_6 := N4.put 4 rfl 6 (by simp) (.int .i64 D.cz) (by omega) (by simp) (by simp <;> omega)
  have P4_7 := P4_6.put 4 rfl 7 (by simp) (.slice (some ⟨b7, 0, none⟩) A.ln A.ln) (by omega) (by simp) (by simp <;> omega)
  have q8 := (N4.get 6 rfl).cell 8 rfl
  have u8 := (N4.get 4 rfl).cell 8 rfl
  have f8 := (N4.get 4 rfl).fz 8 (by simp)
  have P4_8 := P4_7.put 4 rfl 8 (by simp) (.int .i64 D.dv) (by omega) (by simp) (by simp <;> omega)
  have X4 := P4_8
  simp only [List.set] at X4
  clear P4_8 P4_7 P4_6 N4 X3 g4 o4 q3_6 q3_7
  have q4_9 := (X4.get 6 rfl).cell 9 rfl
  go_wp2_with fail
  refine (toInts_calls A.oa A.on A.oc D.os _ (by omega) (hr.os.below X4.bel (Nat.le_refl _))).mono ?_
  rintro e w5 ⟨b9, rfl, n9, blk9, g5⟩
  have z5 := g5.size
  simp only [World.size_setCell] at z5 n9
  have o5 : OS (InR (w4.heap.size) w5.heap.size) (some ⟨b9, 0, none⟩) A.on D.os w5 := OS.ofBlk (n := A.on) blk9 ⟨n9, blk9.1⟩ hr.os.1 (by omega)
  have N5 := (X4.below g5).fact OS.loc o5
  have u5_9 := (N5.get 5 rfl).cell 9 rfl
  have f5_9 := (N5.get 5 rfl).fz 9 (by simp)
  have P5_9 := N5.put 5 rfl 9 (by simp) (.slice (some ⟨b9, 0, none⟩) A.on A.on) (by omega) (by simp) (by simp <;> omega)
  have X5 := P5_9
  simp only [List.set] at X5
  clear P5_9 N5 X4 g5 o5 q4_9 blk9
  have q5_10 := (X5.get 7 rfl).cell 10 rfl
  go_wp2_with fail
  refine (toGateS_O A.ga A.gn A.gc D.gs _ (by omega) (hr.gs.below X5.bel (Nat.le_refl _))).mono ?_
  rintro e w6 ⟨b10, rfl, o6, g6⟩
  have z6 := g6.size
  simp only [World.size_setCell] at z6 o6
  have N6 := (X5.below g6).fact OWd.loc o6
  have u6_10 := (N6.get 6 rfl).cell 10 rfl
  have f6_10 := (N6.get 6 rfl).fz 10 (by simp)
  have P6_10 := N6.put 6 rfl 10 (by simp) (.slice (some ⟨b10, 0, none⟩) A.gn A.gn) (by omega) (by simp) (by simp <;> omega)
  have X6 := P6_10
  simp only [List.set] at X6
  clear P6_10 N6 X5 g6 o6 q5_10
  have x0 := (X6.get 6 rfl).cell 0 rfl
  have r0 := (X6.get 7 rfl).cell 0 rfl
  have s0 := (X6.get 7 rfl).fz 0 (by simp)
  have x1 := (X6.get 6 rfl).cell 1 rfl
  have r1 := (X6.get 7 rfl).cell 1 rfl
  have s1 := (X6.get 7 rfl).fz 1 (by simp)
  have x2 := (X6.get 6 rfl).cell 2 rfl
  have r2 := (X6.get 7 rfl).cell 2 rfl
  have s2 := (X6.get 7 rfl).fz 2 (by simp)
  have x3 := (X6.get 6 rfl).cell 3 rfl
  have r3 := (X6.get 7 rfl).cell 3 rfl
  have s3 := (X6.get 7 rfl).fz 3 (by simp)
  have x4 := (X6.get 6 rfl).cell 4 rfl
  have r4 := (X6.get 7 rfl).cell 4 rfl
  have s4 := (X6.get 7 rfl).fz 4 (by simp)
  have x5 := (X6.get 6 rfl).cell 5 rfl
  have r5 := (X6.get 7 rfl).cell 5 rfl
  have s5 := (X6.get 7 rfl).fz 5 (by simp)
  have x6 := (X6.get 6 rfl).cell 6 rfl
  have r6 := (X6.get 7 rfl).cell 6 rfl
  have s6 := (X6.get 7 rfl).fz 6 (by simp)
  have x7 := (X6.get 6 rfl).cell 7 rfl
  have r7 := (X6.get 7 rfl).cell 7 rfl
  have s7 := (X6.get 7 rfl).fz 7 (by simp)
  have x8 := (X6.get 6 rfl).cell 8 rfl
  have r8 := (X6.get 7 rfl).cell 8 rfl
  have s8 := (X6.get 7 rfl).fz 8 (by simp)
  have x9 := (X6.get 6 rfl).cell 9 rfl
  have r9 := (X6.get 7 rfl).cell 9 rfl
  have s9 := (X6.get 7 rfl).fz 9 (by simp)
  have x10 := (X6.get 6 rfl).cell 10 rfl
  have r10 := (X6.get 7 rfl).cell 10 rfl
  have s10 := (X6.get 7 rfl).fz 10 (by simp)
  have R_0 := X6.put 7 rfl 0 (by simp) (.slice (some ⟨b0, 0, none⟩) A.n A.n) (by omega) (by simp) (by simp <;> omega)
  have R_1 := R_0.put 7 rfl 1 (by simp) (.slice (some ⟨b1, 0, none⟩) A.tn A.tn) (by omega) (by simp) (by simp <;> omega)
  have R_2 := R_1.put 7 rfl 2 (by simp) (.slice (some ⟨b2, 0, none⟩) A.dn A.dn) (by omega) (by simp) (by simp <;> omega)
  have R_3 := R_2.put 7 rfl 3 (by simp) (.slice (some ⟨b3, 0, none⟩) A.wn A.wn) (by omega) (by simp) (by simp <;> omega)
  have R_4 := R_3.put 7 rfl 4 (by simp) (.slice (some ⟨b4, 0, none⟩) A.xn A.xn) (by omega) (by simp) (by simp <;> omega)
  have R_5 := R_4.put 7 rfl 5 (by simp) (.int .i64 D.ac) (by omega) (by simp) (by simp <;> omega)
  have R_6 := R_5.put 7 rfl 6 (by simp) (.int .i64 D.cz) (by omega) (by simp) (by simp <;> omega)
  have R_7 := R_6.put 7 rfl 7 (by simp) (.slice (some ⟨b7, 0, none⟩) A.ln A.ln) (by omega) (by simp) (by simp <;> omega)
  have R_8 := R_7.put 7 rfl 8 (by simp) (.int .i64 D.dv) (by omega) (by simp) (by simp <;> omega)
  have R_9 := R_8.put 7 rfl 9 (by simp) (.slice (some ⟨b9, 0, none⟩) A.on A.on) (by omega) (by simp) (by simp <;> omega)
  have R_10 := R_9.put 7 rfl 10 (by simp) (.slice (some ⟨b10, 0, none⟩) A.gn A.gn) (by omega) (by simp) (by simp <;> omega)
  have HR := hide R_10
  clear R_10 R_9 R_8 R_7 R_6 R_5 R_4 R_3 R_2 R_1 R_0 X6
  go_wp2
  have HM := HR.out
  simp only [List.set] at HM
  have y0 := (HM.get 7 rfl).cell 0 rfl
  have y1 := (HM.get 7 rfl).cell 1 rfl
  have y2 := (HM.get 7 rfl).cell 2 rfl
  have y3 := (HM.get 7 rfl).cell 3 rfl
  have y4 := (HM.get 7 rfl).cell 4 rfl
  have y5 := (HM.get 7 rfl).cell 5 rfl
  have y6 := (HM.get 7 rfl).cell 6 rfl
  have y7 := (HM.get 7 rfl).cell 7 rfl
  have y8 := (HM.get 7 rfl).cell 8 rfl
  have y9 := (HM.get 7 rfl).cell 9 rfl
  have y10 := (HM.get 7 rfl).cell 10 rfl
  refine bodyPost_ret (v := .agg #[.slice (some ⟨b0, 0, none⟩) A.n A.n, .slice (some ⟨b1, 0, none⟩) A.tn A.tn, .slice (some ⟨b2, 0, none⟩) A.dn A.dn, .slice (some ⟨b3, 0, none⟩) A.wn A.wn, .slice (some ⟨b4, 0, none⟩) A.xn A.xn, .int .i64 D.ac, .int .i64 D.cz, .slice (some ⟨b7, 0, none⟩) A.ln A.ln, .int .i64 D.dv, .slice (some ⟨b9, 0, none⟩) A.on A.on, .slice (some ⟨b10, 0, none⟩) A.gn A.gn]) (by simp [results, Tryz.results6, go_sem, y0, y1, y2, y3, y4, y5, y6, y7, y8, y9, y10]) rfl ⟨⟨some ⟨b0, 0, none⟩, A.n, A.n, some ⟨b1, 0, none⟩, A.tn, A.tn, some ⟨b2, 0, none⟩, A.dn, A.dn, some ⟨b3, 0, none⟩, A.wn, A.wn, some ⟨b4, 0, none⟩, A.xn, A.xn, some ⟨b7, 0, none⟩, A.ln, A.ln, some ⟨b9, 0, none⟩, A.on, A.on, some ⟨b10, 0, none⟩, A.gn, A.gn⟩, rfl, ?_, rfl, HM.bel⟩
  refine ⟨fun i => if i = 0 then InR (w.heap.size + 1 + 1 + 1) (w1.heap.size) else if i = 1 then InR (w1.heap.size) (w2.heap.size) else if i = 2 then InR (w2.heap.size) (w3.heap.size) else if i = 3 then InR (w3.heap.size) (w4.heap.size) else if i = 4 then InR (w4.heap.size) (w5.heap.size) else if i = 5 then InR (w5.heap.size) (w6.heap.size) else fun _ => False, fun i k hk => ?_, fun i j k hij h1 h2 => ?_, by unfold szY; dsimp only; omega, Nat.le_refl _, HM.get 5 rfl, HM.get 4 rfl, HM.get 3 rfl, HM.get 2 rfl, HM.get 1 rfl, HM.get 0 rfl⟩
  · simp only [World.size_setCell]
    dsimp only at hk
    (repeat (split at hk; (have e1 := hk.1; have e2 := hk.2; exact ⟨by omega, by omega⟩)))
    exact hk.elim
  · dsimp only at h1 h2
    (repeat (split at h1; (have e1 := h1.1; have e2 := h1.2; (repeat (split at h2; first | omega | (have e3 := h2.1; have e4 := h2.2; omega))); exact h2)))
    exact h1

theorem toSystem_O (A : SA) (D : SD) (w : World) (hm : szY A D ≤ 1048576) (hr : RS w A D) :
    Calls Tryz.prog 6 #[.agg #[.slice A.a A.n A.c, .slice A.ta A.tn A.tc, .slice A.da A.dn A.dc, .slice A.wa A.wn A.wc, .slice A.xa A.xn A.xc, .int .i64 D.ac, .int .i64 D.cz, .slice A.la A.ln A.lc, .int .i64 D.dv, .slice A.oa A.on A.oc, .slice A.ga A.gn A.gc]] w fun e w' => ∃ B : SA, e = .returned (.agg #[.slice B.a B.n B.c, .slice B.ta B.tn B.tc, .slice B.da B.dn B.dc, .slice B.wa B.wn B.wc, .slice B.xa B.xn B.xc, .int .i64 D.ac, .int .i64 D.cz, .slice B.la B.ln B.lc, .int .i64 D.dv, .slice B.oa B.on B.oc, .slice B.ga B.gn B.gc]) ∧ OY (InR w.heap.size w'.heap.size) B D w' ∧ Below w.heap.size w w' :=
  (toSystem_S A D w hm hr).mono (fun _ _ h => by obtain ⟨B, h1, h2, _, h4⟩ := h; exact ⟨B, h1, h2, h4⟩)

set_option maxRecDepth 100000 in
set_option maxHeartbeats 2000000 in
theorem eqSystem_O (S S' : Nat → Prop) (A B : SA) (D : SD) (w : World) (hx : OY S A D w) (hy : OY S' B D w) :
    Calls Tryz.prog 9 #[.agg #[.slice A.a A.n A.c, .slice A.ta A.tn A.tc, .slice A.da A.dn A.dc, .slice A.wa A.wn A.wc, .slice A.xa A.xn A.xc, .int .i64 D.ac, .int .i64 D.cz, .slice A.la A.ln A.lc, .int .i64 D.dv, .slice A.oa A.on A.oc, .slice A.ga A.gn A.gc], .agg #[.slice B.a B.n B.c, .slice B.ta B.tn B.tc, .slice B.da B.dn B.dc, .slice B.wa B.wn B.wc, .slice B.xa B.xn B.xc, .int .i64 D.ac, .int .i64 D.cz, .slice B.la B.ln B.lc, .int .i64 D.dv, .slice B.oa B.on B.oc, .slice B.ga B.gn B.gc]] w fun e w' => e = .returned (.bool true) ∧ Below w.heap.size w w' := by
  have r1 := hx.rs
  have r2 := hy.rs
  obtain ⟨⟨a, n, c, ta, tn, tc, da, dn, dc, wa, wn, wc, xa, xn, xc, la, ln, lc, oa, on, oc, ga, gn, gc⟩, eA⟩ : ∃ x, x = A := ⟨A, rfl⟩
  obtain ⟨⟨b, m, c2, tb, tm, tc2, db, dm, dc2, wb, wm, wc2, xb, xm, xc2, lb, lm, lc2, ob, om, oc2, gb, gm, gc2⟩, eB⟩ : ∃ x, x = B := ⟨B, rfl⟩
  subst eA eB
  have l1 := r1.len
  have l2 := r2.len
  dsimp only at l1 l2 r1 r2 ⊢
  obtain rfl : m = n := by omega
  obtain rfl : tm = tn := by omega
  obtain rfl : dm = dn := by omega
  obtain rfl : wm = wn := by omega
  obtain rfl : xm = xn := by omega
  obtain rfl : lm = ln := by omega
  obtain rfl : om = on := by omega
  obtain rfl : gm = gn := by omega
  clear l1 l2
  have e1 : (D.ac != D.ac) = false := by simp
  have e2 : (D.dv != D.dv) = false := by simp
  have M0 := ((Mm.start w).allocC [.slice a m c, .slice ta tm tc, .slice da dm dc, .slice wa wm wc, .slice xa xm xc, .int .i64 D.ac, .int .i64 D.cz, .slice la lm lc, .int .i64 D.dv, .slice oa om oc, .slice ga gm gc] 53).allocC [.slice b m c2, .slice tb tm tc2, .slice db dm dc2, .slice wb wm wc2, .slice xb xm xc2, .int .i64 D.ac, .int .i64 D.cz, .slice lb lm lc2, .int .i64 D.dv, .slice ob om oc2, .slice gb gm gc2] 53
  simp only [World.size_alloc] at M0
  obtain ⟨Q1, _, _, z1, _, o1⟩ := hx
  obtain ⟨Q2, _, _, z2, _, o2⟩ := hy
  go_enter Tryz.func9, Tryz.ntmps9
  go_wp2_with fail
  refine (eqTables_O _ _ a b m c c2 D.ss ta tb tm tc tc2 D.ts da db dm dc dc2 D.ds _ (OT.loc.below M0.bel o1.t) (OT.loc.below M0.bel o2.t)).mono ?_
  rintro e w1 ⟨rfl, g1⟩
  have M1 := M0.below g1
  clear g1 M0 
  have p1_3 := (M1.get 1 rfl).cell 3 rfl
  have q1_3 := (M1.get 0 rfl).cell 3 rfl
  go_wp2_with fail
  refine (eqMemory_calls wa wb wm wc wc2 D.ws _ r1.wm (r1.ws.below M1.bel (Nat.le_refl _)) (r2.ws.below M1.bel (Nat.le_refl _))).mono ?_
  rintro e w2 ⟨rfl, g2⟩
  have M2 := M1.below g2
  clear g2 M1 p1_3 q1_3
  have p2_4 := (M2.get 1 rfl).cell 4 rfl
  have q2_4 := (M2.get 0 rfl).cell 4 rfl
  go_wp2_with fail
  refine (eqContextS_calls xa xb xm xc xc2 D.cs _ r1.xm (r1.xs.below M2.bel (Nat.le_refl _)) (r2.xs.below M2.bel (Nat.le_refl _))).mono ?_
  rintro e w3 ⟨rfl, g3⟩
  have M3 := M2.below g3
  clear g3 M2 p2_4 q2_4
  have p3_6 := (M3.get 1 rfl).cell 6 rfl
  have q3_6 := (M3.get 0 rfl).cell 6 rfl
  have p3_7 := (M3.get 1 rfl).cell 7 rfl
  have q3_7 := (M3.get 0 rfl).cell 7 rfl
  have p3_5 := (M3.get 1 rfl).cell 5 rfl
  have q3_5 := (M3.get 0 rfl).cell 5 rfl
  go_wp2_with fail
  refine (eqCache_calls D.cz la lb lm lc lc2 D.ls _ r1.lm (r1.ls.below M3.bel (Nat.le_refl _)) (r2.ls.below M3.bel (Nat.le_refl _))).mono ?_
  rintro e w4 ⟨rfl, g4⟩
  have M4 := M3.below g4
  clear g4 M3 p3_6 q3_6 p3_7 q3_7 p3_5 q3_5
  have p4_9 := (M4.get 1 rfl).cell 9 rfl
  have q4_9 := (M4.get 0 rfl).cell 9 rfl
  have p4_8 := (M4.get 1 rfl).cell 8 rfl
  have q4_8 := (M4.get 0 rfl).cell 8 rfl
  go_wp2_with fail
  refine (eqInts_calls oa ob om oc om oc2 D.os D.os _ r1.om r1.om (r1.os.below M4.bel (Nat.le_refl _)) (r2.os.below M4.bel (Nat.le_refl _))).mono ?_
  rintro e w5 ⟨rfl, g5⟩
  rw [decide_eq_true rfl]
  have M5 := M4.below g5
  clear g5 M4 p4_9 q4_9 p4_8 q4_8
  have p5_10 := (M5.get 1 rfl).cell 10 rfl
  have q5_10 := (M5.get 0 rfl).cell 10 rfl
  go_wp2_with fail
  refine (eqGateS_calls ga gb gm gc gc2 D.gs _ r1.gm (r1.gs.below M5.bel (Nat.le_refl _)) (r2.gs.below M5.bel (Nat.le_refl _))).mono ?_
  rintro e w6 ⟨rfl, g6⟩
  have M6 := M5.below g6
  clear g6 M5 p5_10 q5_10
  have HB := hide M6.bel
  clear M6
  go_wp2
  go_ret
  exact ⟨rfl, HB.out⟩

end Go.Proofs.YtgkjmeogdomgmaaGreat
