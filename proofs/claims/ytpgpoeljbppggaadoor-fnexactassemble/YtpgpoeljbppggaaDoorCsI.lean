import Derived.Test.YtpgpoeljbppggaaDoorSepI
import Derived.WalkKit
import Derived.ProofKit
import Derived.OpenShut
import Derived.ShutString
import Derived.ChangeOld
import Derived.Below
import Derived.WalkSpells
import Derived.Deep.QuietTactic
import Derived.BigQuiet
import Derived.Deep.RegionWith
import Derived.Deep.WholeRow
import Derived.Deep.DeepCutAuto
import Derived.Deep.RegionHeld2
import Derived.Deep.AppendLies
import Derived.Deep.RegionLaw
namespace Go.Proofs.YtpgpoeljbppggaaDoor
open Go.ChangeShapes Go.WideShapes Go.ChangeAt Go.RowKit

/-- the cells of a block, from the first on. -/
def Cs (P : Nat) (vs : List Value) (w : World) : Prop := P < w.heap.size ∧ ∀ i, i < vs.length → w.cell? ⟨P, i, none⟩ = some (vs.getD i undef) ∧ w.frozen? ⟨P, i, none⟩ = false

theorem Cs.loc {P : Nat} {vs : List Value} : Loc (InR P (P + 1)) (Cs P vs) := fun w w' hk h => by
  have e := hk P ⟨Nat.le_refl _, by omega⟩ h.1
  have hN' : P < w'.heap.size := by
    have h1 := h.1
    rw [Array.getElem?_eq_getElem h1] at e
    exact (Array.getElem?_eq_some_iff.1 e).1
  exact ⟨hN', fun i hi => ⟨(World.cell?_of_block (a := ⟨P, i, none⟩) e).trans (h.2 i hi).1, (World.frozen?_of_block (a := ⟨P, i, none⟩) e).trans (h.2 i hi).2⟩⟩

theorem Cs.cell {P : Nat} {vs : List Value} {w : World} (h : Cs P vs w) (i : Nat) {v : Value} (hv : vs[i]? = some v) : w.cell? ⟨P, i, none⟩ = some v := by
  obtain ⟨hi, e⟩ := List.getElem?_eq_some_iff.1 hv
  rw [(h.2 i hi).1]
  simp [hi, e]

theorem Cs.fz {P : Nat} {vs : List Value} {w : World} (h : Cs P vs w) (i : Nat) (hi : i < vs.length) : w.frozen? ⟨P, i, none⟩ = false := (h.2 i hi).2

theorem Cs.set {P : Nat} {vs : List Value} {w : World} (h : Cs P vs w) (i : Nat) (hi : i < vs.length) (v : Value) : Cs P (vs.set i v) (w.setCell ⟨P, i, none⟩ v) := by
  refine ⟨by simpa using h.1, fun j hj => ?_⟩
  rw [List.length_set] at hj
  refine ⟨?_, by simpa using (h.2 j hj).2⟩
  by_cases e : j = i
  · subst e
    rw [World.cell?_setCell_same _ _ _ (h.2 j hj).1]
    simp [hj]
  · rw [World.cell?_setCell_other _ _ _ _ (fun h => by injection h with _ h2; exact e h2.symm), (h.2 j hj).1]
    simp [Ne.symm e]

theorem Cs.alloc (w : World) (vs : List Value) (t : TypeId) : Cs w.heap.size vs (w.alloc (.cells vs.toArray t)) :=
  ⟨by simp, fun i hi => ⟨by rw [World.cell?_alloc_new]; simp [hi], by simp⟩⟩

theorem Mm.allocC {w u : World} {cs : List (Nat × Nat × Value)} {fs : List (Nat × Nat × (World → Prop))} (h : Mm w u cs fs) (vs : List Value) (t : TypeId) : Mm w (u.alloc (.cells vs.toArray t)) cs ((u.heap.size, u.heap.size + 1, Cs u.heap.size vs) :: fs) :=
  (h.below ((Below.refl _ _).alloc (Nat.le_refl _) (.cells vs.toArray t))).fact Cs.loc (Cs.alloc u vs t)

/-- a cell of a block among the facts is written. -/
theorem Mm.put {w u : World} {cs : List (Nat × Nat × Value)} {fs : List (Nat × Nat × (World → Prop))} (h : Mm w u cs fs) (i : Nat) {P : Nat} {vs : List Value} (hf : fs[i]? = some (P, P + 1, Cs P vs)) (j : Nat) (hj : j < vs.length) (v : Value) (hb : w.heap.size ≤ P)
    (hc : ∀ c ∈ cs, c.1 ≠ P) (hd : ∀ f ∈ fs.eraseIdx i, P < f.1 ∨ f.2.1 ≤ P) : Mm w (u.setCell ⟨P, j, none⟩ v) cs (fs.set i (P, P + 1, Cs P (vs.set j v))) := by
  have h0 := h.get i hf
  refine ⟨h.bel.setCell hb v, fun c k => ?_, fun f k => ?_⟩
  · have h1 := h.cells c k
    refine ⟨by simpa using h1.1, ?_, by simpa using h1.2.2⟩
    rw [World.cell?_setCell_other _ _ _ _ (fun e => by injection e with e1 e2; exact hc c k e1.symm)]
    exact h1.2.1
  · rcases mem_set_erase fs i _ f k with rfl | k
    · exact ⟨Cs.loc, h0.set j hj v⟩
    · have h1 := h.facts f (List.mem_of_mem_eraseIdx k)
      refine ⟨h1.1, h1.1.setC h1.2 (fun e => ?_) v⟩
      have a1 := e.1
      have a2 := e.2
      have := hd f k
      simp only at a1 a2
      omega

end Go.Proofs.YtpgpoeljbppggaaDoor
