import Derived.Test.YtipfaoecodclaaaKgS
import Derived.Test.YtipfaoecodclaaaCsK
import Derived.Test.YtipfaoecodclaaaApp
import Derived.Deep.AppendLies
import Derived.WalkKit
import Derived.ProofKit
import Derived.OpenShut
import Derived.ShutString
import Derived.ChangeOld
import Derived.Below
import Derived.WalkSpells
import Derived.Deep.QuietTactic
import Derived.BigQuiet
import Derived.Deep.RegionWith
import Derived.Deep.WholeRow
import Derived.Deep.DeepCutAuto
import Derived.Deep.RegionHeld2
import Derived.Deep.AppendLies
import Derived.Deep.RegionLaw
namespace Go.Proofs.Ytipfaoecodclaaa
open Go.ChangeShapes Go.WideShapes Go.ChangeAt Go.RowKit

theorem ownR_below {w w' : World} {B n size : Nat} {e : TypeId} {v : Value} {xs : List Value} (h : w.ownsRow B e size v n xs) (hb : Below w.heap.size w w') : w'.ownsRow B e size v n xs := by
  refine ⟨h.1, ?_⟩
  rcases h.2 with h' | ⟨g, cap, cur, h', hB, hg, r⟩
  · exact .inl h'
  · exact .inr ⟨g, cap, cur, h', hB, (hb.block g (Array.getElem?_eq_some_iff.1 hg).1).trans hg, r⟩

theorem kidO_next_y {f : Nat → OB} {p : Int} {k : Nat} (h1 : 1 ≤ k) (h : (f k).1 = p) : kidO f p (k + 1) = kidO f p k ++ [(f k).2.1] := by
  show kidO f p k ++ (if 1 ≤ k ∧ (f k).1 = p then [(f k).2.1] else []) = _
  rw [if_pos ⟨h1, h⟩]
theorem kidO_next_n {f : Nat → OB} {p : Int} {k : Nat} (h : (f k).1 ≠ p) : kidO f p (k + 1) = kidO f p k := by
  show kidO f p k ++ (if 1 ≤ k ∧ (f k).1 = p then [(f k).2.1] else []) = _
  rw [if_neg (fun e => h e.2), List.append_nil]

theorem ownR_set {w : World} {B e s : Nat} {v : Value} {k : Nat} {xs : List Value} (h : w.ownsRow B e s v k xs) {P o : Nat} (hP : P < B) (y : Value) : (w.setCell ⟨P, o, none⟩ y).ownsRow B e s v k xs := by
  refine ⟨h.1, ?_⟩
  rcases h.2 with h' | ⟨g, cap, cur, h', hB, hg, r⟩
  · exact .inl h'
  · exact .inr ⟨g, cap, cur, h', hB, (Below.heap_setCell _ _ _ _ (by show g ≠ P; omega)).trans hg, r⟩

theorem Mm.grownN {w u X w1 : World} {cs : List (Nat × Nat × Value)} {fs : List (Nat × Nat × (World → Prop))} (h : Mm w u cs fs) (hc : Below u.heap.size u X) {row : Option Nat} (hg : X.grownBy w1 row) {B : Nat} (hB : w.heap.size ≤ B) (hBu : B ≤ u.heap.size) (hrow : ∀ q, row = some q → B ≤ q)
    (hcs : ∀ c ∈ cs, c.1 < B) (hfs : ∀ f ∈ fs, f.2.1 ≤ B) : Mm w w1 cs fs := by
  have hsz := hc.size
  have hgs := hg.size
  have far : ∀ q, q < B → w1.heap[q]? = u.heap[q]? := fun q hq => (hg.block q (by omega) (fun e => by have := hrow q e.symm; omega)).trans (hc.block q (by omega))
  refine ⟨(h.bel.trans (hc.mono h.bel.size)).grown hg (by have := h.bel.size; omega) (fun g hg' => by have := hrow g hg'; omega), fun c k => ?_, fun f k => ?_⟩
  · have h1 := h.cells c k
    have e := far c.1 (hcs c k)
    exact ⟨by omega, (World.cell?_of_block (a := ⟨c.1, c.2.1, none⟩) e).trans h1.2.1, (World.frozen?_of_block (a := ⟨c.1, c.2.1, none⟩) e).trans h1.2.2⟩
  · have h1 := h.facts f k
    refine ⟨h1.1, h1.1 u w1 (fun q hq _ => far q ?_) h1.2⟩
    have := hq.2
    have := hfs f k
    omega

end Go.Proofs.Ytipfaoecodclaaa
