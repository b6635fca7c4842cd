import Derived.Test.YtbfmdnnbiidlkaaGreatK23
import Derived.Test.YtbfmdnnbiidlkaaGreatK15
import Derived.Test.YtbfmdnnbiidlkaaGreatK21
import Derived.Test.YtbfmdnnbiidlkaaGreatK33
import Derived.Test.YtbfmdnnbiidlkaaGreatK24
import Derived.Test.YtbfmdnnbiidlkaaGreatK2
import Derived.WalkKit
import Derived.ProofKit
import Derived.OpenShut
import Derived.ShutString
import Derived.ChangeOld
import Derived.Below
import Derived.WalkSpells
import Derived.Deep.QuietTactic
import Derived.BigQuiet
import Derived.Deep.RegionWith
import Derived.Deep.WholeRow
import Derived.Deep.DeepCutAuto
import Derived.Deep.RegionHeld2
import Derived.Deep.AppendLies
import Derived.Deep.RegionLaw
namespace Go.Proofs.YtbfmdnnbiidlkaaGreat
open Go.ChangeShapes Go.WideShapes Go.ChangeAt Go.RowKit

theorem owns_loc {w w' : World} {B m n : Nat} {e : TypeId} {v : Value} {L : List Value} {S : Nat → Prop} (hs : ∀ g, v.ownBlock = some g → S g) (hk : ∀ k, S k → k < w.heap.size → w'.heap[k]? = w.heap[k]?) (h : w.ownsRow B e m v n L) : w'.ownsRow B e m v n L := by
  refine ⟨h.1, ?_⟩
  rcases h.2 with h0 | ⟨g, cap, cur, hv, hb, hg, rest⟩
  · exact .inl h0
  · refine .inr ⟨g, cap, cur, hv, hb, ?_, rest⟩
    rw [hk g (hs g (by rw [hv]; rfl)) (Array.getElem?_eq_some_iff.1 hg).1]
    exact hg

/-- a row of lines with its room. -/
def RLn (S : Nat → Prop) (a : Option Addr) (n c : Nat) (ls : List (Int × Int × Int)) (w : World) : Prop :=
  w.ownsRow 0 188 3 (.slice a n c) n (vs3 ls) ∧ ∀ g, (Value.slice a n c).ownBlock = some g → S g

theorem RLn.loc {S : Nat → Prop} {a : Option Addr} {n c : Nat} {ls : List (Int × Int × Int)} : Loc S (RLn S a n c ls) := fun _ _ hk h => ⟨owns_loc h.2 hk h.1, h.2⟩

/-- a row of slots with its room. -/
def RSl (S : Nat → Prop) (a : Option Addr) (n c : Nat) (w : World) : Prop :=
  (∃ xs, w.ownsRow 0 160 2 (.slice a n c) n xs) ∧ ∀ g, (Value.slice a n c).ownBlock = some g → S g

theorem RSl.loc {S : Nat → Prop} {a : Option Addr} {n c : Nat} : Loc S (RSl S a n c) := fun _ _ hk h => ⟨h.1.elim fun xs hx => ⟨xs, owns_loc h.2 hk hx⟩, h.2⟩

/-- owned tables, the slots with their room. -/
def OTK (S : Nat → Prop) (a : Option Addr) (n c : Nat) (ss : List (Int × List Int)) (ta : Option Addr) (tn : Nat) (ts : List Int) (da : Option Addr) (dn : Nat) (ds : List Int) (w : World) : Prop :=
  OT S a n ss ta tn ts da dn ds w ∧ RSl S a n c w

theorem OTK.loc {S : Nat → Prop} {a : Option Addr} {n c : Nat} {ss : List (Int × List Int)} {ta : Option Addr} {tn : Nat} {ts : List Int} {da : Option Addr} {dn : Nat} {ds : List Int} : Loc S (OTK S a n c ss ta tn ts da dn ds) := fun w w' hk h => ⟨OT.loc w w' hk h.1, RSl.loc w w' hk h.2⟩

/-- owned lines with their room. -/
def OLK (S : Nat → Prop) (a : Option Addr) (n c : Nat) (ls : List (Int × Int × Int)) (w : World) : Prop := OL S a n ls w ∧ RLn S a n c ls w

theorem OLK.loc {S : Nat → Prop} {a : Option Addr} {n c : Nat} {ls : List (Int × Int × Int)} : Loc S (OLK S a n c ls) := fun w w' hk h => ⟨OL.loc w w' hk h.1, RLn.loc w w' hk h.2⟩

/-- tables in three rows of blocks, the slots with their room. -/
def L3K (B : Nat) (a : Option Addr) (n rc : Nat) (ss : List (Int × List Int)) (ta : Option Addr) (tn : Nat) (ts : List Int) (da : Option Addr) (dn : Nat) (ds : List Int) (w : World) : Prop :=
  ∃ B1 B2 B3 B4, B ≤ B1 ∧ B1 ≤ B2 ∧ B2 ≤ B3 ∧ B3 ≤ B4 ∧ B4 ≤ w.heap.size ∧ RG B1 B2 a n rc ss w ∧ OS (InR B2 B3) ta tn ts w ∧ OS (InR B3 B4) da dn ds w

theorem L3R.k {B : Nat} {a : Option Addr} {n rc : Nat} {ss : List (Int × List Int)} {ta : Option Addr} {tn xc : Nat} {ts : List Int} {da : Option Addr} {dn yc : Nat} {ds : List Int} {w : World} (h : L3R B a n rc ss ta tn xc ts da dn yc ds w) : L3K B a n rc ss ta tn ts da dn ds w := by
  obtain ⟨B1, B2, B3, B4, h1, h2, h3, h4, h5, o1, o2, o3⟩ := h
  exact ⟨B1, B2, B3, B4, h1, h2, h3, h4, h5, o1, o2.1, o3.1⟩

theorem L3K.setC {B P o : Nat} {a : Option Addr} {n rc : Nat} {ss : List (Int × List Int)} {ta : Option Addr} {tn : Nat} {ts : List Int} {da : Option Addr} {dn : Nat} {ds : List Int} {w : World} (h : L3K B a n rc ss ta tn ts da dn ds w) (hP : P < B) (v : Value) : L3K B a n rc ss ta tn ts da dn ds (w.setCell ⟨P, o, none⟩ v) := by
  obtain ⟨B1, B2, B3, B4, h1, h2, h3, h4, h5, o1, o2, o3⟩ := h
  exact ⟨B1, B2, B3, B4, h1, h2, h3, h4, by simpa using h5, RG.loc.setC o1 (fun e => by have := e.1; simp only at this; omega) v, OS.loc.setC o2 (fun e => by have := e.1; simp only at this; omega) v, OS.loc.setC o3 (fun e => by have := e.1; simp only at this; omega) v⟩

theorem L3K.otk {B T : Nat} {a : Option Addr} {n rc : Nat} {ss : List (Int × List Int)} {ta : Option Addr} {tn : Nat} {ts : List Int} {da : Option Addr} {dn : Nat} {ds : List Int} {w : World} (h : L3K B a n rc ss ta tn ts da dn ds w) (hT : w.heap.size ≤ T) : OTK (InR B T) a n rc ss ta tn ts da dn ds w := by
  obtain ⟨B1, B2, B3, B4, h1, h2, h3, h4, h5, o1, o2, o3⟩ := h
  refine ⟨L3.ot ⟨B1, B2, B3, B4, h1, h2, h3, h4, h5, o1.1, o2, o3⟩ hT, ?_, fun g e => ?_⟩
  · obtain ⟨xs, hx⟩ := o1.2.1
    exact ⟨xs, owns_base hx⟩
  · have := o1.2.2 g e
    exact ⟨by have := this.1; omega, by have := this.2; omega⟩

/-- the rows of an owned system that may grow: Out, the lines, the slots. -/
def RwY (Q : Nat → Nat → Prop) (A : SA) (D : SD) (w : World) : Prop :=
  RW (Q 4) A.oa A.on A.oc D.os w ∧ RLn (Q 3) A.la A.ln A.lc D.ls w ∧ RSl (Q 0) A.a A.n A.c w

theorem RwY.keep {Q : Nat → Nat → Prop} {A : SA} {D : SD} {w w' : World} (hk : ∀ j k, (j = 0 ∨ j = 3 ∨ j = 4) → Q j k → k < w.heap.size → w'.heap[k]? = w.heap[k]?) (h : RwY Q A D w) : RwY Q A D w' :=
  ⟨RW.loc w w' (fun k e hl => hk 4 k (by decide) e hl) h.1, RLn.loc w w' (fun k e hl => hk 3 k (by decide) e hl) h.2.1, RSl.loc w w' (fun k e hl => hk 0 k (by decide) e hl) h.2.2⟩

/-- an owned system, its Out with the room behind it. -/
def OYR (S : Nat → Prop) (A : SA) (D : SD) (w : World) : Prop :=
  ∃ Q : Nat → Nat → Prop, (∀ i k, Q i k → S k) ∧ (∀ i j k, i ≠ j → Q i k → ¬ Q j k) ∧ szY A D ≤ 1048576 ∧ A.ln ≤ A.lc ∧ OYb Q A D w ∧ RwY Q A D w

theorem OYR.oy {S : Nat → Prop} {A : SA} {D : SD} {w : World} (h : OYR S A D w) : OY S A D w := by
  obtain ⟨Q, h1, h2, h3, h4, h5, _⟩ := h
  exact ⟨Q, h1, h2, h3, h4, h5⟩

theorem OYR.loc {S : Nat → Prop} {A : SA} {D : SD} : Loc S (OYR S A D) := fun w w' hk h => by
  obtain ⟨Q, h1, h2, h3, h4, h5, h6⟩ := h
  exact ⟨Q, h1, h2, h3, h4, OYb.loc h1 w w' hk h5, RwY.keep (fun j k _ e hl => hk k (h1 _ _ e) hl) h6⟩

theorem OYR.mono {S S' : Nat → Prop} {A : SA} {D : SD} {w : World} (h : OYR S A D w) (hs : ∀ k, S k → S' k) : OYR S' A D w := by
  obtain ⟨Q, h1, h2⟩ := h
  exact ⟨Q, fun i k e => hs k (h1 i k e), h2⟩

/-- a row that lies behind B grows: what lies before B is kept. -/
theorem Mm.grown {w u X w1 : World} {cs : List (Nat × Nat × Value)} {fs : List (Nat × Nat × (World → Prop))} (h : Mm w u cs fs) (hc : Below u.heap.size u X) {row : Option Nat} (hg : X.grownBy w1 row) {B : Nat} (hB : w.heap.size ≤ B) (hBu : B ≤ u.heap.size) (hrow : ∀ q, row = some q → B ≤ q)
    (hcs : ∀ c ∈ cs, c.1 < B) (hfs : ∀ f ∈ fs, f.2.1 ≤ B) : Mm w w1 cs fs := by
  have hsz := hc.size
  have hgs := hg.size
  have far : ∀ q, q < B → w1.heap[q]? = u.heap[q]? := fun q hq => (hg.block q (by omega) (fun e => by have := hrow q e.symm; omega)).trans (hc.block q (by omega))
  refine ⟨(h.bel.trans (hc.mono h.bel.size)).grown hg (by have := h.bel.size; omega) (fun g hg' => by have := hrow g hg'; omega), fun c k => ?_, fun f k => ?_⟩
  · have h1 := h.cells c k
    have e := far c.1 (hcs c k)
    exact ⟨by omega, (World.cell?_of_block (a := ⟨c.1, c.2.1, none⟩) e).trans h1.2.1, (World.frozen?_of_block (a := ⟨c.1, c.2.1, none⟩) e).trans h1.2.2⟩
  · have h1 := h.facts f k
    exact ⟨h1.1, h1.1 u w1 (fun j hj _ => far j (by have := hj.2; have := hfs f k; omega)) h1.2⟩

/-- what a round of a copy of contexts leaves. -/
def L7r (w : World) (B : Nat) (fs : Value → List (Nat × Nat × (World → Prop))) (cs : List (List Int × Int × Bool)) (k : Nat) (wr : World) : Prop :=
  ∃ (v : Value) (la : Nat → Option Addr) (lc lb : Nat → Nat) (xs : List Value), CX wr B cs k v la lc lb xs ∧ Mm w wr [] (fs v) ∧ B ≤ wr.heap.size

theorem own_ol2 {w : World} {B0 : Nat} {e : TypeId} {a : Option Addr} {n c : Nat} {ls : List (Int × Int × Int)} (hn : n ≤ 1048576) (hl : ls.length = n) (h : w.ownsRow B0 e 3 (.slice a n c) n (vs3 ls)) : OL (InR B0 w.heap.size) a n ls w ∧ n ≤ c := by
  obtain ⟨a', c', e1, h1⟩ := own_ol hn hl h
  injection e1 with e1 _ e2
  subst e1
  refine ⟨h1, ?_⟩
  rcases h.2 with ⟨_, h0⟩ | ⟨g, cap, cur, e3, _⟩
  · omega
  · injection e3 with e4 _ e5
    subst e4 e5
    exact (own_room h).1

theorem infoGate2 : (Tryz.prog.info? 111).map (fun i => (i.zero, i.size, i.bytes)) = some (some (.agg #[.int .i64 0, .int .i64 0]), 2, 16) := by kernel_rfl

end Go.Proofs.YtbfmdnnbiidlkaaGreat
