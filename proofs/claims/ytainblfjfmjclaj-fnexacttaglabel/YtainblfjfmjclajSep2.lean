import Derived.Test.YtainblfjfmjclajSep
import Derived.WalkKit
import Derived.ProofKit
import Derived.OpenShut
import Derived.ShutString
import Derived.ChangeOld
import Derived.Below
import Derived.WalkSpells
import Derived.Deep.QuietTactic
import Derived.BigQuiet
import Derived.Deep.RegionWith
import Derived.Deep.WholeRow
import Derived.Deep.DeepCutAuto
import Derived.Deep.RegionHeld2
import Derived.Deep.AppendLies
import Derived.Deep.RegionLaw
namespace Go.Proofs.Ytainblfjfmjclaj
open Go.ChangeShapes Go.WideShapes Go.ChangeAt Go.RowKit

theorem Loc.alloc {S : Nat → Prop} {P : World → Prop} (h : Loc S P) {w : World} (p : P w) (o : Obj) : P (w.alloc o) := h.below ((Below.refl _ _).alloc (Nat.le_refl _) o) p

theorem Loc.setC {S : Nat → Prop} {P : World → Prop} (h : Loc S P) {w : World} (p : P w) {q : Addr} (hq : ¬ S q.block) (v : Value) : P (w.setCell q v) := h w _ (fun _ hk _ => Below.heap_setCell _ _ _ _ (fun e => hq (e ▸ hk))) p

theorem Loc.belowA {S : Nat → Prop} {P : World → Prop} (h : Loc S P) {wa X wb : World} (p : P wa) (hb : Below X.heap.size X wb) (ha : Below wa.heap.size wa X) : P wb := h.below hb (h.below ha p)

theorem Loc.belowB {S : Nat → Prop} {P : World → Prop} (h : Loc S P) {wa X : World} (p : P wa) (ha : Below wa.heap.size wa X) : P X := h.below ha p

theorem bcellQ {X Y : World} (hb : Below X.heap.size X Y) : (∀ b o, b < X.heap.size → Y.cell? ⟨b, o, none⟩ = X.cell? ⟨b, o, none⟩) ∧ (∀ b o, b < X.heap.size → Y.frozen? ⟨b, o, none⟩ = X.frozen? ⟨b, o, none⟩) :=
  ⟨fun b o h => hb.cell (p := ⟨b, o, none⟩) h, fun b o h => hb.frozen (p := ⟨b, o, none⟩) h⟩

theorem mem_set_erase {α : Type} : ∀ (l : List α) (i : Nat) (x c : α), c ∈ l.set i x → c = x ∨ c ∈ l.eraseIdx i
  | [], _, _, _, h => by simp at h
  | y :: r, 0, x, c, h => by
    simp at h ⊢
    exact h
  | y :: r, i + 1, x, c, h => by
    simp only [List.set_cons_succ, List.mem_cons] at h
    simp only [List.eraseIdx_cons_succ, List.mem_cons]
    rcases h with h | h
    · exact .inr (.inl h)
    · rcases mem_set_erase r i x c h with h | h
      · exact .inl h
      · exact .inr (.inr h)

/-- a cell of the bundle is written. -/
theorem Mm.set {w u : World} {cs : List (Nat × Nat × Value)} {fs : List (Nat × Nat × (World → Prop))} (h : Mm w u cs fs) (i : Nat) {b o : Nat} {old : Value} (hc : cs[i]? = some (b, o, old)) (v : Value) (hb : w.heap.size ≤ b)
    (hd : ∀ c ∈ cs.eraseIdx i, c.1 ≠ b ∨ c.2.1 ≠ o) (hf : ∀ f ∈ fs, b < f.1 ∨ f.2.1 ≤ b) : Mm w (u.setCell ⟨b, o, none⟩ v) (cs.set i (b, o, v)) fs := by
  have h0 := h.cells _ (List.mem_of_getElem? hc)
  refine ⟨h.bel.setCell hb v, fun c k => ?_, fun f k => ⟨(h.facts f k).1, (h.facts f k).1.setC (h.facts f k).2 (fun e => by have := hf f k; have h1 := e.1; have h2 := e.2; simp only at h1 h2; omega) v⟩⟩
  rcases mem_set_erase cs i _ c k with rfl | k
  · exact ⟨by simpa using h0.1, World.cell?_setCell_same _ _ _ h0.2.1, by simpa using h0.2.2⟩
  · have h1 := h.cells c (List.mem_of_mem_eraseIdx k)
    refine ⟨by simpa using h1.1, ?_, by simpa using h1.2.2⟩
    rw [World.cell?_setCell_other _ _ _ _ (fun e => by injection e with e1 e2; rcases hd c k with h | h; exact h e1.symm; exact h e2.symm)]
    exact h1.2.1

end Go.Proofs.Ytainblfjfmjclaj
