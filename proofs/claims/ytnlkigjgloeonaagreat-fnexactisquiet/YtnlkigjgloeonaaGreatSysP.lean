import Derived.Test.YtnlkigjgloeonaaGreatCxP
import Derived.Test.YtnlkigjgloeonaaGreatWt
import Derived.Test.YtnlkigjgloeonaaGreatLnT
import Derived.Test.YtnlkigjgloeonaaGreatTabK
import Derived.WalkKit
import Derived.ProofKit
import Derived.OpenShut
import Derived.ShutString
import Derived.ChangeOld
import Derived.Below
import Derived.WalkSpells
import Derived.Deep.QuietTactic
import Derived.BigQuiet
import Derived.Deep.RegionWith
import Derived.Deep.WholeRow
import Derived.Deep.DeepCutAuto
import Derived.Deep.RegionHeld2
import Derived.Deep.AppendLies
import Derived.Deep.RegionLaw
namespace Go.Proofs.YtnlkigjgloeonaaGreat
open Go.ChangeShapes Go.WideShapes Go.ChangeAt Go.RowKit

/-- where a system's slices lie. -/
structure SA where
  a : Option Addr
  n : Nat
  c : Nat
  ta : Option Addr
  tn : Nat
  tc : Nat
  da : Option Addr
  dn : Nat
  dc : Nat
  wa : Option Addr
  wn : Nat
  wc : Nat
  xa : Option Addr
  xn : Nat
  xc : Nat
  la : Option Addr
  ln : Nat
  lc : Nat
  oa : Option Addr
  on : Nat
  oc : Nat
  ga : Option Addr
  gn : Nat
  gc : Nat

/-- what a system reads as: slots, tags, domains, words, contexts, Active, the cache's size and lines, Device, Out, gates. -/
structure SD where
  ss : List (Int × List Int)
  ts : List Int
  ds : List Int
  ws : List (Int × Int)
  cs : List (List Int × Int × Bool)
  ac : Int
  cz : Int
  ls : List (Int × Int × Int)
  dv : Int
  os : List Int
  gs : List (Int × Int)

/-- a system in memory reads as D. -/
structure RS (w : World) (A : SA) (D : SD) : Prop where
  rt : RT w A.a A.n D.ss A.ta A.tn D.ts A.da A.dn D.ds
  wm : A.wn ≤ maxLen
  ws : Swd w A.wa A.wn D.ws
  xm : A.xn ≤ maxLen
  xs : Scx w A.xa A.xn D.cs
  lm : A.ln ≤ maxLen
  ls : Sln w A.la A.ln D.ls
  om : A.on ≤ maxLen
  os : Sl w A.oa A.on D.os
  gm : A.gn ≤ maxLen
  gs : Swd w A.ga A.gn D.gs

theorem RS.below {w w' : World} {A : SA} {D : SD} (h : RS w A D) {B : Nat} (hb : Below B w w') (hB : w.heap.size ≤ B) : RS w' A D :=
  ⟨h.rt.below hb hB, h.wm, h.ws.below hb hB, h.xm, h.xs.below hb hB, h.lm, h.ls.below hb hB, h.om, h.os.below hb hB, h.gm, h.gs.below hb hB⟩

/-- how much a system holds. -/
def szY (A : SA) (D : SD) : Nat := (A.n + lenSum D.ss + A.tn + A.dn) + A.wn + (A.xn + lenX D.cs) + A.ln + A.on + A.gn

/-- an owned system: six parts, each in blocks of its own. -/
structure OYb (Q : Nat → Nat → Prop) (A : SA) (D : SD) (w : World) : Prop where
  t : OT (Q 0) A.a A.n D.ss A.ta A.tn D.ts A.da A.dn D.ds w
  m : OWd (Q 1) A.wa A.wn D.ws w
  x : OX (Q 2) A.xa A.xn D.cs w
  l : OL (Q 3) A.la A.ln D.ls w
  o : OS (Q 4) A.oa A.on D.os w
  g : OWd (Q 5) A.ga A.gn D.gs w

def OY (S : Nat → Prop) (A : SA) (D : SD) (w : World) : Prop :=
  ∃ Q : Nat → Nat → Prop, (∀ i k, Q i k → S k) ∧ (∀ i j k, i ≠ j → Q i k → ¬ Q j k) ∧ szY A D ≤ 1048576 ∧ A.ln ≤ A.lc ∧ OYb Q A D w

theorem OYb.loc {S : Nat → Prop} {Q : Nat → Nat → Prop} {A : SA} {D : SD} (hQ : ∀ i k, Q i k → S k) : Loc S (OYb Q A D) := fun w w' hk h =>
  ⟨OT.loc w w' (fun k e hl => hk k (hQ _ _ e) hl) h.t, OWd.loc w w' (fun k e hl => hk k (hQ _ _ e) hl) h.m, OX.loc w w' (fun k e hl => hk k (hQ _ _ e) hl) h.x, OL.loc w w' (fun k e hl => hk k (hQ _ _ e) hl) h.l, OS.loc w w' (fun k e hl => hk k (hQ _ _ e) hl) h.o, OWd.loc w w' (fun k e hl => hk k (hQ _ _ e) hl) h.g⟩

theorem OY.loc {S : Nat → Prop} {A : SA} {D : SD} : Loc S (OY S A D) := fun w w' hk h => by
  obtain ⟨Q, h1, h2, h3, h4, h5⟩ := h
  exact ⟨Q, h1, h2, h3, h4, OYb.loc h1 w w' hk h5⟩

theorem OY.mono {S S' : Nat → Prop} {A : SA} {D : SD} {w : World} (h : OY S A D w) (hs : ∀ k, S k → S' k) : OY S' A D w := by
  obtain ⟨Q, h1, h2, h3⟩ := h
  exact ⟨Q, fun i k e => hs k (h1 i k e), h2, h3⟩

theorem OY.rs {S : Nat → Prop} {A : SA} {D : SD} {w : World} (h : OY S A D w) : RS w A D := by
  obtain ⟨Q, _, _, hz, _, h⟩ := h
  unfold szY at hz
  exact ⟨h.t.rt, by unfold maxLen; omega, h.m.swd, by unfold maxLen; omega, h.x.scx, by unfold maxLen; omega, h.l.sln, by unfold maxLen; omega, h.o.sl, by unfold maxLen; omega, h.g.swd⟩

theorem OY.lk {S : Nat → Prop} {A : SA} {D : SD} {w : World} (h : OY S A D w) : A.ln ≤ A.lc := h.choose_spec.2.2.2.1

theorem OY.sz {S : Nat → Prop} {A : SA} {D : SD} {w : World} (h : OY S A D w) : szY A D ≤ 1048576 := h.choose_spec.2.2.1

/-- the lengths of what reads as D. -/
theorem RS.len {w : World} {A : SA} {D : SD} (h : RS w A D) : D.ss.length = A.n ∧ D.ts.length = A.tn ∧ D.ds.length = A.dn ∧ D.ws.length = A.wn ∧ D.cs.length = A.xn ∧ D.ls.length = A.ln ∧ D.os.length = A.on ∧ D.gs.length = A.gn :=
  ⟨h.rt.2.1.1, h.rt.2.2.2.1.1, h.rt.2.2.2.2.2.1, h.ws.1, h.xs.1, h.ls.1, h.os.1, h.gs.1⟩

/-- the cells of a block, from the first on. -/
def Cs (P : Nat) (vs : List Value) (w : World) : Prop := P < w.heap.size ∧ ∀ i, i < vs.length → w.cell? ⟨P, i, none⟩ = some (vs.getD i undef) ∧ w.frozen? ⟨P, i, none⟩ = false

theorem Cs.loc {P : Nat} {vs : List Value} : Loc (InR P (P + 1)) (Cs P vs) := fun w w' hk h => by
  have e := hk P ⟨Nat.le_refl _, by omega⟩ h.1
  have hN' : P < w'.heap.size := by
    have h1 := h.1
    rw [Array.getElem?_eq_getElem h1] at e
    exact (Array.getElem?_eq_some_iff.1 e).1
  exact ⟨hN', fun i hi => ⟨(World.cell?_of_block (a := ⟨P, i, none⟩) e).trans (h.2 i hi).1, (World.frozen?_of_block (a := ⟨P, i, none⟩) e).trans (h.2 i hi).2⟩⟩

theorem Cs.cell {P : Nat} {vs : List Value} {w : World} (h : Cs P vs w) (i : Nat) {v : Value} (hv : vs[i]? = some v) : w.cell? ⟨P, i, none⟩ = some v := by
  obtain ⟨hi, e⟩ := List.getElem?_eq_some_iff.1 hv
  rw [(h.2 i hi).1]
  simp [hi, e]

theorem Cs.fz {P : Nat} {vs : List Value} {w : World} (h : Cs P vs w) (i : Nat) (hi : i < vs.length) : w.frozen? ⟨P, i, none⟩ = false := (h.2 i hi).2

theorem Cs.set {P : Nat} {vs : List Value} {w : World} (h : Cs P vs w) (i : Nat) (hi : i < vs.length) (v : Value) : Cs P (vs.set i v) (w.setCell ⟨P, i, none⟩ v) := by
  refine ⟨by simpa using h.1, fun j hj => ?_⟩
  rw [List.length_set] at hj
  refine ⟨?_, by simpa using (h.2 j hj).2⟩
  by_cases e : j = i
  · subst e
    rw [World.cell?_setCell_same _ _ _ (h.2 j hj).1]
    simp [hj]
  · rw [World.cell?_setCell_other _ _ _ _ (fun h => by injection h with _ h2; exact e h2.symm), (h.2 j hj).1]
    simp [Ne.symm e]

theorem Cs.alloc (w : World) (vs : List Value) (t : TypeId) : Cs w.heap.size vs (w.alloc (.cells vs.toArray t)) :=
  ⟨by simp, fun i hi => ⟨by rw [World.cell?_alloc_new]; simp [hi], by simp⟩⟩

theorem Mm.allocC {w u : World} {cs : List (Nat × Nat × Value)} {fs : List (Nat × Nat × (World → Prop))} (h : Mm w u cs fs) (vs : List Value) (t : TypeId) : Mm w (u.alloc (.cells vs.toArray t)) cs ((u.heap.size, u.heap.size + 1, Cs u.heap.size vs) :: fs) :=
  (h.below ((Below.refl _ _).alloc (Nat.le_refl _) (.cells vs.toArray t))).fact Cs.loc (Cs.alloc u vs t)

/-- a cell of a block among the facts is written. -/
theorem Mm.put {w u : World} {cs : List (Nat × Nat × Value)} {fs : List (Nat × Nat × (World → Prop))} (h : Mm w u cs fs) (i : Nat) {P : Nat} {vs : List Value} (hf : fs[i]? = some (P, P + 1, Cs P vs)) (j : Nat) (hj : j < vs.length) (v : Value) (hb : w.heap.size ≤ P)
    (hc : ∀ c ∈ cs, c.1 ≠ P) (hd : ∀ f ∈ fs.eraseIdx i, P < f.1 ∨ f.2.1 ≤ P) : Mm w (u.setCell ⟨P, j, none⟩ v) cs (fs.set i (P, P + 1, Cs P (vs.set j v))) := by
  have h0 := h.get i hf
  refine ⟨h.bel.setCell hb v, fun c k => ?_, fun f k => ?_⟩
  · have h1 := h.cells c k
    refine ⟨by simpa using h1.1, ?_, by simpa using h1.2.2⟩
    rw [World.cell?_setCell_other _ _ _ _ (fun e => by injection e with e1 e2; exact hc c k e1.symm)]
    exact h1.2.1
  · rcases mem_set_erase fs i _ f k with rfl | k
    · exact ⟨Cs.loc, h0.set j hj v⟩
    · have h1 := h.facts f (List.mem_of_mem_eraseIdx k)
      refine ⟨h1.1, h1.1.setC h1.2 (fun e => ?_) v⟩
      have a1 := e.1
      have a2 := e.2
      have := hd f k
      simp only at a1 a2
      omega

theorem Mm.alloc11 {w u : World} {cs : List (Nat × Nat × Value)} {fs : List (Nat × Nat × (World → Prop))} (h : Mm w u cs fs) (v0 v1 v2 v3 v4 v5 v6 v7 v8 v9 v10 : Value) (t : TypeId) : Mm w (u.alloc (.cells #[v0, v1, v2, v3, v4, v5, v6, v7, v8, v9, v10] t)) ((u.heap.size, 0, v0) :: (u.heap.size, 1, v1) :: (u.heap.size, 2, v2) :: (u.heap.size, 3, v3) :: (u.heap.size, 4, v4) :: (u.heap.size, 5, v5) :: (u.heap.size, 6, v6) :: (u.heap.size, 7, v7) :: (u.heap.size, 8, v8) :: (u.heap.size, 9, v9) :: (u.heap.size, 10, v10) :: cs) fs :=
  (((((((((((h.below ((Below.refl _ _).alloc (Nat.le_refl _) (.cells #[v0, v1, v2, v3, v4, v5, v6, v7, v8, v9, v10] t))).cons (by simp) (by simp)).cons (by simp) (by simp)).cons (by simp) (by simp)).cons (by simp) (by simp)).cons (by simp) (by simp)).cons (by simp) (by simp)).cons (by simp) (by simp)).cons (by simp) (by simp)).cons (by simp) (by simp)).cons (by simp) (by simp)).cons (by simp) (by simp)

end Go.Proofs.YtnlkigjgloeonaaGreat
