import Derived.Test.YtgkjmeogdomgmaaAddDomW
import Derived.Test.YtgkjmeogdomgmaaL3Some
import Derived.Test.YtgkjmeogdomgmaaOpenTab
import Derived.Test.YtgkjmeogdomgmaaCsK
import Derived.WalkKit
import Derived.ProofKit
import Derived.OpenShut
import Derived.ShutString
import Derived.ChangeOld
import Derived.Below
import Derived.WalkSpells
import Derived.Deep.QuietTactic
import Derived.BigQuiet
import Derived.Deep.RegionWith
import Derived.Deep.WholeRow
import Derived.Deep.DeepCutAuto
import Derived.Deep.RegionHeld2
import Derived.Deep.AppendLies
import Derived.Deep.RegionLaw
namespace Go.Proofs.Ytgkjmeogdomgmaa
open Go.ChangeShapes Go.WideShapes Go.ChangeAt Go.RowKit

theorem set5_at0 (X : World) (P : Nat) (v0 v1 v2 v3 v4 : Value) (h : ∃ u, X.cell? ⟨P, 0, none⟩ = some u) : (((((X.setCell ⟨P, 0, none⟩ v0).setCell ⟨P, 1, none⟩ v1).setCell ⟨P, 2, none⟩ v2).setCell ⟨P, 3, none⟩ v3).setCell ⟨P, 4, none⟩ v4).cell? ⟨P, 0, none⟩ = some v0 := by
  obtain ⟨u, h⟩ := h
  rw [World.cell?_setCell_other _ _ _ _ (fun e => by injection e with _ e2; omega)]
  rw [World.cell?_setCell_other _ _ _ _ (fun e => by injection e with _ e2; omega)]
  rw [World.cell?_setCell_other _ _ _ _ (fun e => by injection e with _ e2; omega)]
  rw [World.cell?_setCell_other _ _ _ _ (fun e => by injection e with _ e2; omega)]
  exact World.cell?_setCell_same _ _ _ h

theorem set5_at1 (X : World) (P : Nat) (v0 v1 v2 v3 v4 : Value) (h : ∃ u, X.cell? ⟨P, 1, none⟩ = some u) : (((((X.setCell ⟨P, 0, none⟩ v0).setCell ⟨P, 1, none⟩ v1).setCell ⟨P, 2, none⟩ v2).setCell ⟨P, 3, none⟩ v3).setCell ⟨P, 4, none⟩ v4).cell? ⟨P, 1, none⟩ = some v1 := by
  obtain ⟨u, h⟩ := h
  rw [World.cell?_setCell_other _ _ _ _ (fun e => by injection e with _ e2; omega)]
  rw [World.cell?_setCell_other _ _ _ _ (fun e => by injection e with _ e2; omega)]
  rw [World.cell?_setCell_other _ _ _ _ (fun e => by injection e with _ e2; omega)]
  exact World.cell?_setCell_same _ _ _ ((World.cell?_setCell_other _ _ _ _ (fun e => by injection e with _ e2; omega)).trans h)

theorem set5_at2 (X : World) (P : Nat) (v0 v1 v2 v3 v4 : Value) (h : ∃ u, X.cell? ⟨P, 2, none⟩ = some u) : (((((X.setCell ⟨P, 0, none⟩ v0).setCell ⟨P, 1, none⟩ v1).setCell ⟨P, 2, none⟩ v2).setCell ⟨P, 3, none⟩ v3).setCell ⟨P, 4, none⟩ v4).cell? ⟨P, 2, none⟩ = some v2 := by
  obtain ⟨u, h⟩ := h
  rw [World.cell?_setCell_other _ _ _ _ (fun e => by injection e with _ e2; omega)]
  rw [World.cell?_setCell_other _ _ _ _ (fun e => by injection e with _ e2; omega)]
  exact World.cell?_setCell_same _ _ _ ((World.cell?_setCell_other _ _ _ _ (fun e => by injection e with _ e2; omega)).trans ((World.cell?_setCell_other _ _ _ _ (fun e => by injection e with _ e2; omega)).trans h))

theorem set5_at3 (X : World) (P : Nat) (v0 v1 v2 v3 v4 : Value) (h : ∃ u, X.cell? ⟨P, 3, none⟩ = some u) : (((((X.setCell ⟨P, 0, none⟩ v0).setCell ⟨P, 1, none⟩ v1).setCell ⟨P, 2, none⟩ v2).setCell ⟨P, 3, none⟩ v3).setCell ⟨P, 4, none⟩ v4).cell? ⟨P, 3, none⟩ = some v3 := by
  obtain ⟨u, h⟩ := h
  rw [World.cell?_setCell_other _ _ _ _ (fun e => by injection e with _ e2; omega)]
  exact World.cell?_setCell_same _ _ _ ((World.cell?_setCell_other _ _ _ _ (fun e => by injection e with _ e2; omega)).trans ((World.cell?_setCell_other _ _ _ _ (fun e => by injection e with _ e2; omega)).trans ((World.cell?_setCell_other _ _ _ _ (fun e => by injection e with _ e2; omega)).trans h)))

theorem set5_at4 (X : World) (P : Nat) (v0 v1 v2 v3 v4 : Value) (h : ∃ u, X.cell? ⟨P, 4, none⟩ = some u) : (((((X.setCell ⟨P, 0, none⟩ v0).setCell ⟨P, 1, none⟩ v1).setCell ⟨P, 2, none⟩ v2).setCell ⟨P, 3, none⟩ v3).setCell ⟨P, 4, none⟩ v4).cell? ⟨P, 4, none⟩ = some v4 := by
  obtain ⟨u, h⟩ := h
  exact World.cell?_setCell_same _ _ _ ((World.cell?_setCell_other _ _ _ _ (fun e => by injection e with _ e2; omega)).trans ((World.cell?_setCell_other _ _ _ _ (fun e => by injection e with _ e2; omega)).trans ((World.cell?_setCell_other _ _ _ _ (fun e => by injection e with _ e2; omega)).trans ((World.cell?_setCell_other _ _ _ _ (fun e => by injection e with _ e2; omega)).trans h))))

theorem OTW.rt {S : Nat → Prop} {a : Option Addr} {n : Nat} {ss : List (Int × List Int)} {ta : Option Addr} {tn tc : Nat} {ts : List Int} {da : Option Addr} {dn : Nat} {ds : List Int} {w : World} (h : OTW S a n ss ta tn tc ts da dn ds w) : RT w a n ss ta tn ts da dn ds := by
  obtain ⟨S1, S2, S3, _, _, _, _, _, _, o1, o2, o3⟩ := h
  have h1 := o1.2.1
  have h2 := o2.1.2.1
  have h3 := o3.2.1
  exact ⟨by unfold maxLen; omega, o1.sls, by unfold maxLen; omega, o2.1.sl, by unfold maxLen; omega, o3.sl⟩

theorem OTW.keep {S : Nat → Prop} {a : Option Addr} {n : Nat} {ss : List (Int × List Int)} {ta : Option Addr} {tn tc : Nat} {ts : List Int} {da : Option Addr} {dn : Nat} {ds : List Int} {w w' : World} (h : OTW S a n ss ta tn tc ts da dn ds w) (hk : ∀ k, S k → k < w.heap.size → w'.heap[k]? = w.heap[k]?) : OTW S a n ss ta tn tc ts da dn ds w' := by
  obtain ⟨S1, S2, S3, h1, h2, h3, d12, d13, d23, o1, o2, o3⟩ := h
  exact ⟨S1, S2, S3, h1, h2, h3, d12, d13, d23, OR.loc w w' (fun k hk1 hl => hk k (h1 k hk1) hl) o1, RW.loc w w' (fun k hk1 hl => hk k (h2 k hk1) hl) o2, OS.loc w w' (fun k hk1 hl => hk k (h3 k hk1) hl) o3⟩

theorem OTW.mono {S S' : Nat → Prop} {a : Option Addr} {n : Nat} {ss : List (Int × List Int)} {ta : Option Addr} {tn tc : Nat} {ts : List Int} {da : Option Addr} {dn : Nat} {ds : List Int} {w : World} (h : OTW S a n ss ta tn tc ts da dn ds w) (hs : ∀ k, S k → S' k) : OTW S' a n ss ta tn tc ts da dn ds w := by
  obtain ⟨S1, S2, S3, h1, h2, h3, r⟩ := h
  exact ⟨S1, S2, S3, fun k h => hs k (h1 k h), fun k h => hs k (h2 k h), fun k h => hs k (h3 k h), r⟩

/-- a variable of tables at block q; what it holds lies behind q. -/
structure TV (q : Nat) (a : Option Addr) (n c : Nat) (ss : List (Int × List Int)) (ta : Option Addr) (tn tc : Nat) (ts : List Int) (da : Option Addr) (dn dc : Nat) (ds : List Int) (X : World) : Prop where
  c0 : X.cell? ⟨q, 0, none⟩ = some (.slice a n c)
  c1 : X.cell? ⟨q, 1, none⟩ = some (.slice ta tn tc)
  c2 : X.cell? ⟨q, 2, none⟩ = some (.slice da dn dc)
  f : ∀ j, X.frozen? ⟨q, j, none⟩ = false
  o : OTW (InR (q + 1) X.heap.size) a n ss ta tn tc ts da dn ds X
  lt : q < X.heap.size

theorem TV.keep {q : Nat} {a : Option Addr} {n c : Nat} {ss : List (Int × List Int)} {ta : Option Addr} {tn tc : Nat} {ts : List Int} {da : Option Addr} {dn dc : Nat} {ds : List Int} {X Y : World} (h : TV q a n c ss ta tn tc ts da dn dc ds X) (hz : X.heap.size ≤ Y.heap.size) (hk : ∀ k, q ≤ k → k < X.heap.size → Y.heap[k]? = X.heap[k]?) : TV q a n c ss ta tn tc ts da dn dc ds Y := by
  have hq := hk q (Nat.le_refl _) h.lt
  exact ⟨(World.cell?_of_block (a := ⟨q, 0, none⟩) hq).trans h.c0, (World.cell?_of_block (a := ⟨q, 1, none⟩) hq).trans h.c1, (World.cell?_of_block (a := ⟨q, 2, none⟩) hq).trans h.c2, fun j => (World.frozen?_of_block (a := ⟨q, j, none⟩) hq).trans (h.f j), (h.o.keep (fun k hS hl => hk k (by have := hS.1; omega) hl)).mono (fun k hS => ⟨hS.1, by have := hS.2; omega⟩), by have := h.lt; omega⟩

theorem TV.below {q : Nat} {a : Option Addr} {n c : Nat} {ss : List (Int × List Int)} {ta : Option Addr} {tn tc : Nat} {ts : List Int} {da : Option Addr} {dn dc : Nat} {ds : List Int} {X Y : World} (h : TV q a n c ss ta tn tc ts da dn dc ds X) (hb : Below X.heap.size X Y) : TV q a n c ss ta tn tc ts da dn dc ds Y := h.keep hb.size (fun k _ hk => hb.block k hk)

theorem TV.outside {q p : Nat} {a : Option Addr} {n c : Nat} {ss : List (Int × List Int)} {ta : Option Addr} {tn tc : Nat} {ts : List Int} {da : Option Addr} {dn dc : Nat} {ds : List Int} {X Y : World} (h : TV q a n c ss ta tn tc ts da dn dc ds X) (ho : Outside p (p + 1) X Y) (hp : p < q) : TV q a n c ss ta tn tc ts da dn dc ds Y := h.keep ho.size (fun k hq hk => ho.block k hk (.inr (by omega)))

theorem TV.new (X : World) (t : TypeId) : TV X.heap.size none 0 0 [] none 0 0 [] none 0 0 [] (X.alloc (.cells #[.slice none 0 0, .slice none 0 0, .slice none 0 0] t)) :=
  ⟨by simp, by simp, by simp, fun j => by simp, OTW.nil _ _, by simp⟩

/-- as TV, but what it holds lies before T. -/
structure TW (q T : Nat) (a : Option Addr) (n c : Nat) (ss : List (Int × List Int)) (ta : Option Addr) (tn tc : Nat) (ts : List Int) (da : Option Addr) (dn dc : Nat) (ds : List Int) (X : World) : Prop where
  c0 : X.cell? ⟨q, 0, none⟩ = some (.slice a n c)
  c1 : X.cell? ⟨q, 1, none⟩ = some (.slice ta tn tc)
  c2 : X.cell? ⟨q, 2, none⟩ = some (.slice da dn dc)
  f : ∀ j, X.frozen? ⟨q, j, none⟩ = false
  o : OTW (InR (q + 1) T) a n ss ta tn tc ts da dn ds X
  lt : q < T
  le : T ≤ X.heap.size

theorem TV.tw {q : Nat} {a : Option Addr} {n c : Nat} {ss : List (Int × List Int)} {ta : Option Addr} {tn tc : Nat} {ts : List Int} {da : Option Addr} {dn dc : Nat} {ds : List Int} {X : World} (h : TV q a n c ss ta tn tc ts da dn dc ds X) : TW q X.heap.size a n c ss ta tn tc ts da dn dc ds X := ⟨h.c0, h.c1, h.c2, h.f, h.o, h.lt, Nat.le_refl _⟩

theorem TW.tv {q T : Nat} {a : Option Addr} {n c : Nat} {ss : List (Int × List Int)} {ta : Option Addr} {tn tc : Nat} {ts : List Int} {da : Option Addr} {dn dc : Nat} {ds : List Int} {X : World} (h : TW q T a n c ss ta tn tc ts da dn dc ds X) : TV q a n c ss ta tn tc ts da dn dc ds X := ⟨h.c0, h.c1, h.c2, h.f, h.o.mono (fun _ hk => ⟨hk.1, Nat.lt_of_lt_of_le hk.2 h.le⟩), Nat.lt_of_lt_of_le h.lt h.le⟩

theorem TW.keep {q T : Nat} {a : Option Addr} {n c : Nat} {ss : List (Int × List Int)} {ta : Option Addr} {tn tc : Nat} {ts : List Int} {da : Option Addr} {dn dc : Nat} {ds : List Int} {X Y : World} (h : TW q T a n c ss ta tn tc ts da dn dc ds X) (hz : X.heap.size ≤ Y.heap.size) (hk : ∀ k, q ≤ k → k < T → Y.heap[k]? = X.heap[k]?) : TW q T a n c ss ta tn tc ts da dn dc ds Y := by
  have hq := hk q (Nat.le_refl _) h.lt
  exact ⟨(World.cell?_of_block (a := ⟨q, 0, none⟩) hq).trans h.c0, (World.cell?_of_block (a := ⟨q, 1, none⟩) hq).trans h.c1, (World.cell?_of_block (a := ⟨q, 2, none⟩) hq).trans h.c2, fun j => (World.frozen?_of_block (a := ⟨q, j, none⟩) hq).trans (h.f j), h.o.keep (fun k hS _ => hk k (by have := hS.1; omega) hS.2), h.lt, Nat.le_trans h.le hz⟩

theorem TW.below {q T : Nat} {a : Option Addr} {n c : Nat} {ss : List (Int × List Int)} {ta : Option Addr} {tn tc : Nat} {ts : List Int} {da : Option Addr} {dn dc : Nat} {ds : List Int} {X Y : World} (h : TW q T a n c ss ta tn tc ts da dn dc ds X) (hb : Below X.heap.size X Y) : TW q T a n c ss ta tn tc ts da dn dc ds Y := h.keep hb.size (fun k _ hk => hb.block k (Nat.lt_of_lt_of_le hk h.le))

theorem TW.outside {q T p : Nat} {a : Option Addr} {n c : Nat} {ss : List (Int × List Int)} {ta : Option Addr} {tn tc : Nat} {ts : List Int} {da : Option Addr} {dn dc : Nat} {ds : List Int} {X Y : World} (h : TW q T a n c ss ta tn tc ts da dn dc ds X) (ho : Outside p (p + 1) X Y) (hp : p < q) : TW q T a n c ss ta tn tc ts da dn dc ds Y := h.keep ho.size (fun k hq hk => ho.block k (Nat.lt_of_lt_of_le hk h.le) (.inr (by omega)))

theorem heap_set5 (X : World) (B : Nat) (v0 v1 v2 v3 v4 : Value) (k : Nat) (hk : k ≠ B) : (((((X.setCell ⟨B, 0, none⟩ v0).setCell ⟨B, 1, none⟩ v1).setCell ⟨B, 2, none⟩ v2).setCell ⟨B, 3, none⟩ v3).setCell ⟨B, 4, none⟩ v4).heap[k]? = X.heap[k]? := by
  rw [Below.heap_setCell _ _ _ _ (by simpa using hk), Below.heap_setCell _ _ _ _ (by simpa using hk), Below.heap_setCell _ _ _ _ (by simpa using hk), Below.heap_setCell _ _ _ _ (by simpa using hk), Below.heap_setCell _ _ _ _ (by simpa using hk)]

theorem TW.set5 {q T B : Nat} {a : Option Addr} {n c : Nat} {ss : List (Int × List Int)} {ta : Option Addr} {tn tc : Nat} {ts : List Int} {da : Option Addr} {dn dc : Nat} {ds : List Int} {X : World} (h : TW q T a n c ss ta tn tc ts da dn dc ds X) (hB : T ≤ B) (v0 v1 v2 v3 v4 : Value) : TW q T a n c ss ta tn tc ts da dn dc ds (((((X.setCell ⟨B, 0, none⟩ v0).setCell ⟨B, 1, none⟩ v1).setCell ⟨B, 2, none⟩ v2).setCell ⟨B, 3, none⟩ v3).setCell ⟨B, 4, none⟩ v4) :=
  h.keep (by simp) (fun k _ hk => heap_set5 X B v0 v1 v2 v3 v4 k (by omega))

theorem OTW.set5 {S S' : Nat → Prop} {B : Nat} {a : Option Addr} {n : Nat} {ss : List (Int × List Int)} {ta : Option Addr} {tn tc : Nat} {ts : List Int} {da : Option Addr} {dn : Nat} {ds : List Int} {X : World} (h : OTW S a n ss ta tn tc ts da dn ds X) (hB : ∀ k, S k → k ≠ B) (hs : ∀ k, S k → S' k) (v0 v1 v2 v3 v4 : Value) : OTW S' a n ss ta tn tc ts da dn ds (((((X.setCell ⟨B, 0, none⟩ v0).setCell ⟨B, 1, none⟩ v1).setCell ⟨B, 2, none⟩ v2).setCell ⟨B, 3, none⟩ v3).setCell ⟨B, 4, none⟩ v4) :=
  (h.keep (fun k hS _ => heap_set5 X B v0 v1 v2 v3 v4 k (hB k hS))).mono hs

theorem OTW.allocW {B B' T : Nat} {a : Option Addr} {n : Nat} {ss : List (Int × List Int)} {ta : Option Addr} {tn tc : Nat} {ts : List Int} {da : Option Addr} {dn : Nat} {ds : List Int} {X : World} (h : OTW (InR B' T) a n ss ta tn tc ts da dn ds X) (hB : B ≤ B') (hT : T ≤ X.heap.size) (o : Obj) : OTW (InR B (X.alloc o).heap.size) a n ss ta tn tc ts da dn ds (X.alloc o) :=
  (h.keep (fun k _ hl => ((Below.refl _ _).alloc (Nat.le_refl _) o).block k hl)).mono (fun k hk => ⟨by have := hk.1; omega, by have := hk.2; simp; omega⟩)

theorem OTW.set5W {B B' T P : Nat} {a : Option Addr} {n : Nat} {ss : List (Int × List Int)} {ta : Option Addr} {tn tc : Nat} {ts : List Int} {da : Option Addr} {dn : Nat} {ds : List Int} {X : World} (h : OTW (InR B' T) a n ss ta tn tc ts da dn ds X) (hB : B ≤ B') (hT : T ≤ X.heap.size) (hP : P < B') (v0 v1 v2 v3 v4 : Value) :
    OTW (InR B (((((X.setCell ⟨P, 0, none⟩ v0).setCell ⟨P, 1, none⟩ v1).setCell ⟨P, 2, none⟩ v2).setCell ⟨P, 3, none⟩ v3).setCell ⟨P, 4, none⟩ v4).heap.size) a n ss ta tn tc ts da dn ds (((((X.setCell ⟨P, 0, none⟩ v0).setCell ⟨P, 1, none⟩ v1).setCell ⟨P, 2, none⟩ v2).setCell ⟨P, 3, none⟩ v3).setCell ⟨P, 4, none⟩ v4) :=
  OTW.set5 h (fun k hk => by have := hk.1; omega) (fun k hk => ⟨by have := hk.1; omega, by have := hk.2; simp; omega⟩) v0 v1 v2 v3 v4

/-- a cell that is none of the bundle's, nor older, is written. -/
theorem Mo.off {p : Nat} {w u : World} {cs : List (Nat × Nat × Value)} {fs : List (Nat × Nat × (World → Prop))} (h : Mo p w u cs fs) {P o : Nat} (hb : w.heap.size ≤ P) (hc : ∀ c ∈ cs, c.1 ≠ P) (hf : ∀ f ∈ fs, P < f.1 ∨ f.2.1 ≤ P) (v : Value) : Mo p w (u.setCell ⟨P, o, none⟩ v) cs fs := by
  refine ⟨h.out.setNew hb v, fun c k => ?_, fun f k => ?_⟩
  · obtain ⟨h1, h2, h3, h4⟩ := h.cells c k
    refine ⟨h1, by simpa using h2, ?_, by simpa using h4⟩
    rw [World.cell?_setCell_other _ _ _ _ (fun e => by injection e with e1 e2; exact hc c k e1.symm)]
    exact h3
  · obtain ⟨h1, h2, h3⟩ := h.facts f k
    refine ⟨h1, h2, h2.setC h3 (fun e => ?_) v⟩
    have a1 := e.1
    have a2 := e.2
    have := hf f k
    simp only at a1 a2
    omega

end Go.Proofs.Ytgkjmeogdomgmaa
