/-
  PROVED: for every code (a slice of bytes) that FnTaints is called with, the call returns true, and the code reads afterwards as it read before.
  CONDITIONS: none beyond the row's own (no cell narrows it).
-/
import Derived.Test.YtgkjmeogdomgmaaP1
import Derived.Test.YtgkjmeogdomgmaaL3Draw
import Derived.Test.YtgkjmeogdomgmaaL2EnterF
import Derived.Test.YtgkjmeogdomgmaaL2Copy
import Derived.Test.YtgkjmeogdomgmaaMap
import Derived.Test.YtgkjmeogdomgmaaR4
import Derived.Test.YtgkjmeogdomgmaaP2
import Derived.Test.YtgkjmeogdomgmaaQs
import Derived.WalkKit
import Derived.ProofKit
import Derived.OpenShut
import Derived.ShutString
import Derived.ChangeOld
import Derived.Below
import Derived.WalkSpells
import Derived.Deep.QuietTactic
import Derived.BigQuiet
import Derived.Deep.RegionWith
import Derived.Deep.WholeRow
import Derived.Deep.DeepCutAuto
import Derived.Deep.RegionHeld2
import Derived.Deep.AppendLies
import Derived.Deep.RegionLaw
namespace Go.Proofs.Ytgkjmeogdomgmaa
open Go.ChangeShapes Go.WideShapes Go.ChangeAt Go.RowKit

theorem set3_at0 (X : World) (P : Nat) (v0 v1 v2 : Value) (h : ∃ u, X.cell? ⟨P, 0, none⟩ = some u) : (((X.setCell ⟨P, 0, none⟩ v0).setCell ⟨P, 1, none⟩ v1).setCell ⟨P, 2, none⟩ v2).cell? ⟨P, 0, none⟩ = some v0 := by
  obtain ⟨u, h⟩ := h
  rw [World.cell?_setCell_other _ _ _ _ (fun e => by injection e with _ e2; omega)]
  rw [World.cell?_setCell_other _ _ _ _ (fun e => by injection e with _ e2; omega)]
  exact World.cell?_setCell_same _ _ _ h

theorem set3_at1 (X : World) (P : Nat) (v0 v1 v2 : Value) (h : ∃ u, X.cell? ⟨P, 1, none⟩ = some u) : (((X.setCell ⟨P, 0, none⟩ v0).setCell ⟨P, 1, none⟩ v1).setCell ⟨P, 2, none⟩ v2).cell? ⟨P, 1, none⟩ = some v1 := by
  obtain ⟨u, h⟩ := h
  rw [World.cell?_setCell_other _ _ _ _ (fun e => by injection e with _ e2; omega)]
  exact World.cell?_setCell_same _ _ _ ((World.cell?_setCell_other _ _ _ _ (fun e => by injection e with _ e2; omega)).trans h)

theorem set3_at2 (X : World) (P : Nat) (v0 v1 v2 : Value) (h : ∃ u, X.cell? ⟨P, 2, none⟩ = some u) : (((X.setCell ⟨P, 0, none⟩ v0).setCell ⟨P, 1, none⟩ v1).setCell ⟨P, 2, none⟩ v2).cell? ⟨P, 2, none⟩ = some v2 := by
  obtain ⟨u, h⟩ := h
  exact World.cell?_setCell_same _ _ _ ((World.cell?_setCell_other _ _ _ _ (fun e => by injection e with _ e2; omega)).trans ((World.cell?_setCell_other _ _ _ _ (fun e => by injection e with _ e2; omega)).trans h))

/-- tables that lie in blocks of S and read as ss, ts, ds. -/
def TbS (S : Nat → Prop) (a : Option Addr) (n : Nat) (ss : List (Int × List Int)) (ta : Option Addr) (tn : Nat) (ts : List Int) (da : Option Addr) (dn : Nat) (ds : List Int) (w : World) : Prop :=
  n ≤ 1048576 ∧ RgS S a n ss w ∧ tn ≤ 1048576 ∧ FrS S ta tn ts w ∧ dn ≤ 1048576 ∧ FrS S da dn ds w

theorem TbS.loc {S : Nat → Prop} {a : Option Addr} {n : Nat} {ss : List (Int × List Int)} {ta : Option Addr} {tn : Nat} {ts : List Int} {da : Option Addr} {dn : Nat} {ds : List Int} : Loc S (TbS S a n ss ta tn ts da dn ds) := fun w w' hk h =>
  ⟨h.1, RgS.loc w w' hk h.2.1, h.2.2.1, FrS.loc w w' hk h.2.2.2.1, h.2.2.2.2.1, FrS.loc w w' hk h.2.2.2.2.2⟩

theorem TbS.mono {S S' : Nat → Prop} {a : Option Addr} {n : Nat} {ss : List (Int × List Int)} {ta : Option Addr} {tn : Nat} {ts : List Int} {da : Option Addr} {dn : Nat} {ds : List Int} {w : World} (h : TbS S a n ss ta tn ts da dn ds w) (hs : ∀ k, S k → S' k) : TbS S' a n ss ta tn ts da dn ds w :=
  ⟨h.1, h.2.1.mono hs, h.2.2.1, h.2.2.2.1.mono hs, h.2.2.2.2.1, h.2.2.2.2.2.mono hs⟩

theorem TbS.rt {S : Nat → Prop} {a : Option Addr} {n : Nat} {ss : List (Int × List Int)} {ta : Option Addr} {tn : Nat} {ts : List Int} {da : Option Addr} {dn : Nat} {ds : List Int} {w : World} (h : TbS S a n ss ta tn ts da dn ds w) : RT w a n ss ta tn ts da dn ds :=
  ⟨by have := h.1; unfold maxLen; omega, h.2.1.sls, by have := h.2.2.1; unfold maxLen; omega, h.2.2.2.1.sl, by have := h.2.2.2.2.1; unfold maxLen; omega, h.2.2.2.2.2.sl⟩

theorem TbS.of3 {S1 S2 S3 S : Nat → Prop} {a : Option Addr} {n : Nat} {ss : List (Int × List Int)} {ta : Option Addr} {tn : Nat} {ts : List Int} {da : Option Addr} {dn : Nat} {ds : List Int} {w : World} (o1 : OR S1 a n ss w) (o2 : OS S2 ta tn ts w) (o3 : OS S3 da dn ds w) (h1 : ∀ k, S1 k → S k) (h2 : ∀ k, S2 k → S k) (h3 : ∀ k, S3 k → S k) : TbS S a n ss ta tn ts da dn ds w :=
  ⟨by have := o1.2.1; omega, o1.rgS.mono h1, o2.2.1, o2.frS h2, o3.2.1, o3.frS h3⟩

theorem OTW.tbS {S : Nat → Prop} {tc : Nat} {a : Option Addr} {n : Nat} {ss : List (Int × List Int)} {ta : Option Addr} {tn : Nat} {ts : List Int} {da : Option Addr} {dn : Nat} {ds : List Int} {w : World} (h : OTW S a n ss ta tn tc ts da dn ds w) : TbS S a n ss ta tn ts da dn ds w := by
  obtain ⟨S1, S2, S3, h1, h2, h3, _, _, _, o1, o2, o3⟩ := h
  exact TbS.of3 o1 o2.1 o3 h1 h2 h3

/-- tables whose row of tags was appended to. -/
theorem tb_app {S1 S2 S3 S : Nat → Prop} {tc g cp : Nat} {x : Int} {a : Option Addr} {n : Nat} {ss : List (Int × List Int)} {ta : Option Addr} {tn : Nat} {ts : List Int} {da : Option Addr} {dn : Nat} {ds : List Int} {X w5 : World} {o : Obj} (h1 : ∀ k, S1 k → S k) (h2 : ∀ k, S2 k → S k) (h3 : ∀ k, S3 k → S k) (d12 : ∀ k, S1 k → ¬ S2 k) (d23 : ∀ k, S2 k → ¬ S3 k) (o1 : OR S1 a n ss X) (o2 : RW S2 ta tn tc ts X) (o3 : OS S3 da dn ds X)
    (hg : (X.alloc o).grownBy w5 (Value.slice ta tn tc).ownBlock) (hat : (Value.slice ta tn tc).ownBlock = some g ∨ g = X.heap.size + 1) (hown : w5.ownsRow 0 2 1 (.slice (some ⟨g, 0, none⟩) (tn + 1) cp) (tn + 1) (ts.map (Value.int .i64) ++ [.int .i64 x])) (hn : tn + 1 ≤ 1048576) :
    TbS (fun k => S k ∨ InR X.heap.size w5.heap.size k) a n ss (some ⟨g, 0, none⟩) (tn + 1) (ts ++ [x]) da dn ds w5 ∧ OutS S2 (X.alloc o) w5 := by
  obtain ⟨x5, u5⟩ := (RW.loc.alloc o2 o).app hg (by rw [World.size_alloc]; exact hat) hown hn
  refine ⟨TbS.of3 (OR.loc.out u5 d12 (OR.loc.alloc o1 o)) x5 (OS.loc.out u5 (fun k h h' => d23 k h' h) (OS.loc.alloc o3 o)) (fun k h => .inl (h1 k h)) (fun k h => ?_) (fun k h => .inl (h3 k h)), u5⟩
  rcases h with h | ⟨h, h'⟩
  · exact .inl (h2 k h)
  · exact .inr ⟨by rw [h]; simp, h'⟩

theorem bent_keep {X w5 : World} {o : Obj} {S : Nat → Prop} (u : OutS S (X.alloc o) w5) {k : Nat} (hk : k < X.heap.size) (hn : ¬ S k) : w5.heap[k]? = X.heap[k]? := (u.block k (by simp; omega) hn).trans (Below.heap_alloc X o k hk)

theorem bent_app {p : Nat} {a : Option Addr} {len cap t : Nat} {w X w5 : World} {o : Obj} {S : Nat → Prop} (u : OutS S (X.alloc o) w5) (hS : ∀ k, S k → w.heap.size + 1 ≤ k) (hz : w.heap.size + 1 ≤ X.heap.size) (hp : p < w.heap.size) (hs : Src X p a len cap t) (ho : Outside p (p + 1) w X) : Src w5 p a len cap t ∧ Outside p (p + 1) w w5 := by
  have B5 : Below (w.heap.size + 1) X w5 := ((Below.refl (w.heap.size + 1) X).alloc (by omega) o).trans (u.below hS (by simp; omega))
  exact ⟨hs.belowB B5 (by omega), ho.trans' B5 (by omega)⟩

/-- what l3Bent gives. -/
def BentT (p : Nat) (a : Option Addr) (len cap t : Nat) (w : World) (e : Ending) (w' : World) : Prop :=
  ∃ (ra : Option Addr) (n rc : Nat) (ss : List (Int × List Int)) (ta : Option Addr) (tn tc : Nat) (ts : List Int) (da : Option Addr) (dn dc : Nat) (ds : List Int) (t' : Nat), e = .returned (.agg #[.slice ra n rc, .slice ta tn tc, .slice da dn dc]) ∧ TbS (InR (w.heap.size + 1) w'.heap.size) ra n ss ta tn ts da dn ds w' ∧ Src w' p a len cap t' ∧ t' ≤ t + 300 ∧ Outside p (p + 1) w w'

theorem BentT.fin {p : Nat} {pa : Option Addr} {len cap t t' rc tc dc : Nat} {S : Nat → Prop} {a : Option Addr} {n : Nat} {ss : List (Int × List Int)} {ta : Option Addr} {tn : Nat} {ts : List Int} {da : Option Addr} {dn : Nat} {ds : List Int} {w X : World} (hp : p < w.heap.size) (h1 : TbS S a n ss ta tn ts da dn ds X) (hS : ∀ k, S k → w.heap.size + 1 ≤ k ∧ k < X.heap.size) (h5 : Src X p pa len cap t') (h6 : t' ≤ t + 300) (h7 : Outside p (p + 1) w X) (v0 v1 v2 : Value) :
    BentT p pa len cap t w (.returned (.agg #[.slice a n rc, .slice ta tn tc, .slice da dn dc])) (((X.setCell ⟨w.heap.size, 0, none⟩ v0).setCell ⟨w.heap.size, 1, none⟩ v1).setCell ⟨w.heap.size, 2, none⟩ v2) := by
  have hn : ¬ S w.heap.size := fun e => by have := (hS _ e).1; omega
  exact ⟨a, n, rc, ss, ta, tn, tc, ts, da, dn, dc, ds, t', rfl, (TbS.loc.setC (TbS.loc.setC (TbS.loc.setC h1 (q := ⟨w.heap.size, 0, none⟩) hn v0) (q := ⟨w.heap.size, 1, none⟩) hn v1) (q := ⟨w.heap.size, 2, none⟩) hn v2).mono (fun k hk => ⟨(hS k hk).1, by have := (hS k hk).2; simpa using this⟩),
    ((h5.setCell (by exact hp) _).setCell (by exact hp) _).setCell (by exact hp) _, h6, ((h7.setNew (Nat.le_refl _) _).setNew (Nat.le_refl _) _).setNew (Nat.le_refl _) _⟩

/-- the variable at q and the result at r, in one. -/
structure V6 (q r : Nat) (x0 x1 x2 : Value) (X : World) : Prop where
  q0 : X.cell? ⟨q, 0, none⟩ = some x0
  q1 : X.cell? ⟨q, 1, none⟩ = some x1
  q2 : X.cell? ⟨q, 2, none⟩ = some x2
  qf : ∀ j, X.frozen? ⟨q, j, none⟩ = false
  d0 : X.cell? ⟨r, 0, none⟩ = some (.slice none 0 0)
  d1 : X.cell? ⟨r, 1, none⟩ = some (.slice none 0 0)
  d2 : X.cell? ⟨r, 2, none⟩ = some (.slice none 0 0)
  df : ∀ j, X.frozen? ⟨r, j, none⟩ = false

theorem V6.keep {q r : Nat} {x0 x1 x2 : Value} {X Y : World} (h : V6 q r x0 x1 x2 X) (hq : Y.heap[q]? = X.heap[q]?) (hr : Y.heap[r]? = X.heap[r]?) : V6 q r x0 x1 x2 Y :=
  ⟨(World.cell?_of_block (a := ⟨q, 0, none⟩) hq).trans h.q0, (World.cell?_of_block (a := ⟨q, 1, none⟩) hq).trans h.q1, (World.cell?_of_block (a := ⟨q, 2, none⟩) hq).trans h.q2, fun j => (World.frozen?_of_block (a := ⟨q, j, none⟩) hq).trans (h.qf j),
   (World.cell?_of_block (a := ⟨r, 0, none⟩) hr).trans h.d0, (World.cell?_of_block (a := ⟨r, 1, none⟩) hr).trans h.d1, (World.cell?_of_block (a := ⟨r, 2, none⟩) hr).trans h.d2, fun j => (World.frozen?_of_block (a := ⟨r, j, none⟩) hr).trans (h.df j)⟩

theorem V6.out {p q r : Nat} {x0 x1 x2 : Value} {X Y : World} (h : V6 q r x0 x1 x2 X) (ho : Outside p (p + 1) X Y) (hq : p < q) (hr : p < r) : V6 q r x0 x1 x2 Y :=
  h.keep (ho.block q (World.block_lt_of_cell? _ _ h.q0) (.inr hq)) (ho.block r (World.block_lt_of_cell? _ _ h.d0) (.inr hr))

theorem V6.set0 {q r : Nat} {x0 x1 x2 : Value} {X : World} (h : V6 q r x0 x1 x2 X) (hqr : q ≠ r) (v : Value) : V6 q r v x1 x2 (X.setCell ⟨q, 0, none⟩ v) := by
  have hr := Below.heap_setCell X ⟨q, 0, none⟩ v r (fun e => hqr e.symm)
  exact ⟨World.cell?_setCell_same _ _ _ h.q0, (World.cell?_setCell_other _ _ _ _ (fun e => by injection e with _ e2; omega)).trans h.q1, (World.cell?_setCell_other _ _ _ _ (fun e => by injection e with _ e2; omega)).trans h.q2, fun j => by simpa using h.qf j,
   (World.cell?_of_block (a := ⟨r, 0, none⟩) hr).trans h.d0, (World.cell?_of_block (a := ⟨r, 1, none⟩) hr).trans h.d1, (World.cell?_of_block (a := ⟨r, 2, none⟩) hr).trans h.d2, fun j => (World.frozen?_of_block (a := ⟨r, j, none⟩) hr).trans (h.df j)⟩

theorem V6.set1 {q r : Nat} {x0 x1 x2 : Value} {X : World} (h : V6 q r x0 x1 x2 X) (hqr : q ≠ r) (v : Value) : V6 q r x0 v x2 (X.setCell ⟨q, 1, none⟩ v) := by
  have hr := Below.heap_setCell X ⟨q, 1, none⟩ v r (fun e => hqr e.symm)
  exact ⟨(World.cell?_setCell_other _ _ _ _ (fun e => by injection e with _ e2; omega)).trans h.q0, World.cell?_setCell_same _ _ _ h.q1, (World.cell?_setCell_other _ _ _ _ (fun e => by injection e with _ e2; omega)).trans h.q2, fun j => by simpa using h.qf j,
   (World.cell?_of_block (a := ⟨r, 0, none⟩) hr).trans h.d0, (World.cell?_of_block (a := ⟨r, 1, none⟩) hr).trans h.d1, (World.cell?_of_block (a := ⟨r, 2, none⟩) hr).trans h.d2, fun j => (World.frozen?_of_block (a := ⟨r, j, none⟩) hr).trans (h.df j)⟩

theorem V6.set2 {q r : Nat} {x0 x1 x2 : Value} {X : World} (h : V6 q r x0 x1 x2 X) (hqr : q ≠ r) (v : Value) : V6 q r x0 x1 v (X.setCell ⟨q, 2, none⟩ v) := by
  have hr := Below.heap_setCell X ⟨q, 2, none⟩ v r (fun e => hqr e.symm)
  exact ⟨(World.cell?_setCell_other _ _ _ _ (fun e => by injection e with _ e2; omega)).trans h.q0, (World.cell?_setCell_other _ _ _ _ (fun e => by injection e with _ e2; omega)).trans h.q1, World.cell?_setCell_same _ _ _ h.q2, fun j => by simpa using h.qf j,
   (World.cell?_of_block (a := ⟨r, 0, none⟩) hr).trans h.d0, (World.cell?_of_block (a := ⟨r, 1, none⟩) hr).trans h.d1, (World.cell?_of_block (a := ⟨r, 2, none⟩) hr).trans h.d2, fun j => (World.frozen?_of_block (a := ⟨r, j, none⟩) hr).trans (h.df j)⟩

theorem one_newB {W : World} {N : Nat} {x : Value} (h0 : W.cell? ⟨N, 0, none⟩ = some x) : ∀ j u, [x][j]? = some u → W.cell? ((Addr.mk N 0 none).add j) = some u := by
  intro j u hj
  match j, hj with
  | 0, hj => simp at hj; subst hj; simpa [Addr.add] using h0

/-- numbers that a make has just laid. -/
theorem made_fr (U : World) (m : Nat) (t : TypeId) (S : Nat → Prop) (hS : S U.heap.size) : FrS S (some ⟨U.heap.size, 0, none⟩) m (List.replicate m 0) (U.alloc (.cells (madeCells #[.int .i64 0] m) t)) := by
  refine ⟨by simp, fun _ => ⟨U.heap.size, 0, rfl, hS, by simp, fun i hi => ?_⟩⟩
  have g0 : gt (List.replicate m (0 : Int)) i = 0 := by simp [gt, hi]
  rw [World.cell?_alloc_new, g0]
  have i1 : i % 1 = 0 := by omega
  simp [madeCells, hi, i1]

theorem V6.alloc {q r : Nat} {x0 x1 x2 : Value} {X : World} (h : V6 q r x0 x1 x2 X) (o : Obj) : V6 q r x0 x1 x2 (X.alloc o) :=
  h.keep (Below.heap_alloc X o q (World.block_lt_of_cell? _ _ h.q0)) (Below.heap_alloc X o r (World.block_lt_of_cell? _ _ h.d0))

theorem V6.below {q r : Nat} {x0 x1 x2 : Value} {X Y : World} (h : V6 q r x0 x1 x2 X) (hb : Below X.heap.size X Y) : V6 q r x0 x1 x2 Y :=
  h.keep (hb.block q (World.block_lt_of_cell? _ _ h.q0)) (hb.block r (World.block_lt_of_cell? _ _ h.d0))

/-- what stands behind an entering into drawn tables. -/
structure CutB (p : Nat) (pa : Option Addr) (len cap t c : Nat) (w w1 w2 : World) (x0 x1 x2 : Value) (a : Option Addr) (n : Nat) (ss : List (Int × List Int)) (ta : Option Addr) (tn : Nat) (ts : List Int) (da : Option Addr) (dn : Nat) (ds : List Int) (tc : Nat) (ea : Option Addr) (en : Nat) (es : List (Int × List Int)) (W : World) : Prop where
  v : V6 w1.heap.size w.heap.size x0 x1 x2 W
  o : OTW (InR (w.heap.size + 1 + 1 + 1) w1.heap.size) a n ss ta tn tc ts da dn ds W
  r : OR (InR c W.heap.size) ea en es W
  s : Src W p pa len cap t
  u : Outside p (p + 1) w W
  l : w1.heap.size < c ∧ c ≤ W.heap.size

theorem CutB.alloc {p : Nat} {pa : Option Addr} {len cap t c : Nat} {w w1 w2 : World} {x0 x1 x2 : Value} {a : Option Addr} {n : Nat} {ss : List (Int × List Int)} {ta : Option Addr} {tn : Nat} {ts : List Int} {da : Option Addr} {dn : Nat} {ds : List Int} {tc : Nat} {ea : Option Addr} {en : Nat} {es : List (Int × List Int)} {W : World} (h : CutB p pa len cap t c w w1 w2 x0 x1 x2 a n ss ta tn ts da dn ds tc ea en es W) (o : Obj) : CutB p pa len cap t c w w1 w2 x0 x1 x2 a n ss ta tn ts da dn ds tc ea en es (W.alloc o) := by
  have b := (Below.refl W.heap.size W).alloc (Nat.le_refl _) o
  exact ⟨h.v.alloc o, h.o.keep (fun k _ hl => b.block k hl), (OR.loc.alloc h.r o).mono (fun k hk => ⟨hk.1, by have := hk.2; simp; omega⟩), h.s.below b, h.u.trans (Outside.of_below b), ⟨h.l.1, by have := h.l.2; simp; omega⟩⟩

theorem CutB.set1 {p : Nat} {pa : Option Addr} {len cap t c B i : Nat} {w w1 w2 : World} {x0 x1 x2 : Value} {a : Option Addr} {n : Nat} {ss : List (Int × List Int)} {ta : Option Addr} {tn : Nat} {ts : List Int} {da : Option Addr} {dn : Nat} {ds : List Int} {tc : Nat} {ea : Option Addr} {en : Nat} {es : List (Int × List Int)} {W : World} (h : CutB p pa len cap t c w w1 w2 x0 x1 x2 a n ss ta tn ts da dn ds tc ea en es W) (hB : B < c) (h1 : w1.heap.size < B) (h2 : w.heap.size < B) (hp : p < w.heap.size) (v : Value) : CutB p pa len cap t c w w1 w2 x0 x1 x2 a n ss ta tn ts da dn ds tc ea en es (W.setCell ⟨B, i, none⟩ v) := by
  have kp : ∀ k, k ≠ B → (W.setCell ⟨B, i, none⟩ v).heap[k]? = W.heap[k]? := fun k hk => Below.heap_setCell _ _ _ _ (fun e => hk e)
  exact ⟨h.v.keep (kp _ (by omega)) (kp _ (by omega)), h.o.keep (fun k hk _ => kp k (by have := hk.2; omega)), (OR.loc.setC h.r (q := ⟨B, i, none⟩) (fun e => by have := e.1; simp only at this; omega) v).mono (fun k hk => ⟨hk.1, by have := hk.2; simpa using this⟩), h.s.setCell (q := ⟨B, i, none⟩) (by show p < B; omega) v, h.u.setNew (q := ⟨B, i, none⟩) (by show w.heap.size ≤ B; omega) v, ⟨h.l.1, by have := h.l.2; simpa using this⟩⟩

theorem CutB.set3 {p : Nat} {pa : Option Addr} {len cap t c B : Nat} {w w1 w2 : World} {x0 x1 x2 : Value} {a : Option Addr} {n : Nat} {ss : List (Int × List Int)} {ta : Option Addr} {tn : Nat} {ts : List Int} {da : Option Addr} {dn : Nat} {ds : List Int} {tc : Nat} {ea : Option Addr} {en : Nat} {es : List (Int × List Int)} {W : World} (h : CutB p pa len cap t c w w1 w2 x0 x1 x2 a n ss ta tn ts da dn ds tc ea en es W) (hB : B < c) (h1 : w1.heap.size < B) (h2 : w.heap.size < B) (hp : p < w.heap.size) (v0 v1 v2 : Value) : CutB p pa len cap t c w w1 w2 x0 x1 x2 a n ss ta tn ts da dn ds tc ea en es (((W.setCell ⟨B, 0, none⟩ v0).setCell ⟨B, 1, none⟩ v1).setCell ⟨B, 2, none⟩ v2) :=
  ((h.set1 hB h1 h2 hp v0).set1 hB h1 h2 hp v1).set1 hB h1 h2 hp v2

theorem infoInt3 : (Try.prog.info? 2).map (fun i => (i.zero, i.size, i.bytes)) = some (some (.int .i64 0), 1, 8) := by kernel_rfl

def elC (ss : List (Int × List Int)) (zs : List Int) : Int := if codeFor ss zs = 0 then etC ss zs else codeFor ss zs

def elV (ss : List (Int × List Int)) (zs : List Int) : Int := if elC ss zs = 0 then (enQ ss zs : Int) else 0

def elL (ss : List (Int × List Int)) (zs : List Int) : List (Int × List Int) := if elC ss zs = 0 then enS ss zs else []

set_option maxRecDepth 100000 in
set_option maxHeartbeats 1000000 in
theorem specEnterLabel_calls (a : Option Addr) (n ca : Nat) (ss : List (Int × List Int)) (b : Option Addr) (lb cb : Nat) (zs : List Int) (w : World) (hn : n ≤ maxLen) (hx : Sls w a n ss) (hlb : lb ≤ maxLen) (hy : Sl w b lb zs) :
    Calls Try.prog 115 #[.agg #[.slice a n ca], .agg #[.slice b lb cb]] w fun e w' => ∃ ra rn rc, e = .returned (.agg #[.int .i64 (elC ss zs), .int .i64 (elV ss zs), .slice ra rn rc]) ∧ OR (InR w.heap.size w'.heap.size) ra rn (elL ss zs) w' ∧ Below w.heap.size w w' := by
  have M0 := (((Mm.start w).alloc1 (.slice a n ca) 34).alloc1 (.slice b lb cb) 41).alloc3 (.int .i64 0) (.int .i64 0) (.slice none 0 0) 160
  simp only [World.size_alloc] at M0
  have hx0 := hx.below M0.bel (Nat.le_refl _)
  have hy0 := hy.below M0.bel (Nat.le_refl _)
  have hlen := hx.1
  by_cases hr : faultR ss = 0
  · have er : (faultR ss != 0) = false := by simp [hr]
    have HCF : Hid (codeFor ss zs = fault zs) := if_pos hr
    have good := good_of hr
    have few := good.few
    clear hr
    by_cases hz : fault zs = 0
    · have ez : (fault zs != 0) = false := by simp [hz]
      obtain rfl : lb = 4 := by have := fault_len hz; have := hy.1; omega
      have HE : Hid (elC ss zs = etC ss zs) := if_pos (HCF.out.trans hz)
      have Hz := hide hz
      have hsum := good_sum good
      clear hz
      go_enter Try.func115, Try.ntmps115
      go_wp2_with fail
      refine (l2Fault_calls _ a n ca ss _ hn (M0.lt 4 rfl) (M0.cell 4 rfl) hx0).mono ?_
      rintro e w1 ⟨rfl, g1⟩
      have M1 := M0.below g1
      have hzw := g1.size
      simp only [World.size_alloc] at hzw
      have hx1 := hx0.below g1 (Nat.le_refl _)
      have hy1 := hy0.below g1 (Nat.le_refl _)
      clear g1 hx0 hy0 M0
      go_wp2_with fail
      refine (l1FaultO_calls _ 0 b 4 cb zs _ hlb (M1.lt 3 rfl) (M1.cell 3 rfl) hy1).mono ?_
      rintro e w2 ⟨rfl, g2⟩
      have M2 := M1.below g2
      have hz2 := g2.size
      have hx2 := hx1.below g2 (Nat.le_refl _)
      have hy2 := hy1.below g2 (Nat.le_refl _)
      have c2 := M2.cell 4 rfl
      clear g2 hx1 hy1 M1
      go_wp2_with fail
      refine (l2Copy_R a n ca ss _ (by omega) hx2).mono ?_
      rintro e w3 ⟨ra, rc, rfl, o3, ⟨xs, x3⟩, g3⟩
      have hz3 := g3.size
      have M3 := ((M2.below g3).fact OR.loc o3).alloc1 (.slice ra n rc) 34
      have hy3 := (hy2.below g3 (Nat.le_refl _)).below ((Below.refl w3.heap.size w3).alloc (Nat.le_refl _) (.cells #[.slice ra n rc] 34)) (Nat.le_refl _)
      have HvT : Hid (∀ g, (Value.slice ra n rc).ownBlock = some g → g < w3.heap.size) := fun g hg => (x3.lt g hg).2
      have x4 := x3.alloc (.cells #[.slice ra n rc] 34)
      clear g3 hx2 hy2 M2 c2 o3 x3
      go_wp2_with fail
      refine (l2Enter_O w3.heap.size (w.heap.size + 1) w2.heap.size w3.heap.size ra b n rc cb ss zs xs _ (M3.lt 0 rfl) (Nat.le_refl _) (by omega) hz3 (M3.cell 0 rfl) (M3.fz 0 rfl) (M3.cell 4 rfl) (M3.get 0 rfl) x4 HvT.out good hy3 Hz.out).mono ?_
      rintro e w4 ⟨rfl, hfin, u4, _⟩
      have M4 : Mm w w4 [(w.heap.size + 1 + 1, 0, .int .i64 0), (w.heap.size + 1 + 1, 1, .int .i64 0), (w.heap.size + 1 + 1, 2, .slice none 0 0)] [] := (M3.sub (by simp) (by simp)).out (B := w2.heap.size) (T := w3.heap.size + 1) (u4.mono (fun k hk => by rcases hk with hk | hk; exact ⟨hk.1, by have := hk.2; omega⟩; exact ⟨by omega, by omega⟩)) (by omega) (by simp <;> omega) (by simp)
      have hz4 := u4.size
      simp only [World.size_alloc] at hz4
      have hzz : w.heap.size + 1 + 1 < w2.heap.size ∧ w.heap.size + 1 + 1 < w4.heap.size := ⟨by omega, by omega⟩
      have HZ := hide hzz
      have HZ3 : Hid (w2.heap.size ≤ w3.heap.size ∧ w3.heap.size < w4.heap.size) := ⟨hz3, by omega⟩
      clear u4 M3 hy3 x4 HvT hzz
      by_cases ht : etC ss zs = 0
      · obtain ⟨a4, ca4, c4, o4⟩ := hfin ht
        rw [if_pos ht]
        have HV : Hid (elV ss zs = (enQ ss zs : Int)) := if_pos (HE.out.trans ht)
        have HL : Hid (elL ss zs = enS ss zs) := if_pos (HE.out.trans ht)
        have Ht := hide ht
        have r0 := M4.cell 0 rfl
        have r1 := M4.cell 1 rfl
        have r2 := M4.cell 2 rfl
        have f0 := M4.fz 0 rfl
        have f1 := M4.fz 1 rfl
        have f2 := M4.fz 2 rfl
        have HB := hide M4.bel
        have HO := hide o4
        clear hfin ht M4 o4 hz3 hz4 hz2 hzw
        go_wp2
        refine bodyPost_ret (v := .agg #[.int .i64 0, .int .i64 (enQ ss zs : Int), .slice a4 (enS ss zs).length ca4]) (by simp [results, Try.results115, go_sem, r0, r1, r2]) rfl ⟨_, _, _, by rw [HE.out, Ht.out, HV.out], ?_, ((HB.out.setCell (by simp; omega) _).setCell (by simp; omega) _).setCell (by simp; omega) _⟩
        rw [HL.out]
        exact (OR.set3 HO.out (fun e => by have := HZ.out; rcases e with e | e; have := e.1; omega; have := e.1; simp only [World.size_alloc] at this; have := HZ3.out; omega) _ _ _).mono (fun k hk => by have := HZ.out; have := HZ3.out; rcases hk with hk | hk; exact ⟨by have := hk.1; omega, by have := hk.2; simp; omega⟩; exact ⟨by have := hk.1; simp only [World.size_alloc] at this; omega, by have := hk.2; simpa using this⟩)
      · rw [if_neg ht]
        have h7 : etC ss zs = 7 := by unfold etC at ht ⊢; split at ht <;> simp_all
        have HN : Hid (elC ss zs ≠ 0) := by show _ ≠ _; rw [HE.out]; exact ht
        have HC : Hid (elC ss zs = 7) := HE.out.trans h7
        have HV : Hid (elV ss zs = 0) := if_neg HN.out
        have HL : Hid (elL ss zs = []) := if_neg HN.out
        clear hfin ht h7 hz3 hz4 hz2 hzw
        go_wp2_with fail
        refine (l2Bad_calls _ _).mono ?_
        rintro e wz ⟨rfl, gz⟩
        have Mz := M4.below gz
        have r0 := Mz.cell 0 rfl
        have r1 := Mz.cell 1 rfl
        have r2 := Mz.cell 2 rfl
        have f0 := Mz.fz 0 rfl
        have f1 := Mz.fz 1 rfl
        have f2 := Mz.fz 2 rfl
        have HB := hide Mz.bel
        clear Mz gz M4
        go_wp2
        refine bodyPost_ret (v := .agg #[.int .i64 (7), .int .i64 0, .slice none 0 0]) (by simp [results, Try.results115, go_sem, r0, r1, r2]) rfl ⟨none, 0, 0, by rw [HC.out, HV.out], ?_, ((HB.out.setCell (by simp; omega) _).setCell (by simp; omega) _).setCell (by simp; omega) _⟩
        rw [HL.out]
        exact OR.nil _ _ _
    · have ez : (fault zs != 0) = true := by simp [hz]
      have HC : Hid (elC ss zs = fault zs) := by show elC ss zs = _; unfold elC; rw [HCF.out, if_neg hz]
      have HN : Hid (elC ss zs ≠ 0) := by show _ ≠ _; rw [HC.out]; exact hz
      have HV : Hid (elV ss zs = 0) := if_neg HN.out
      have HL : Hid (elL ss zs = []) := if_neg HN.out
      clear hz
      go_enter Try.func115, Try.ntmps115
      go_wp2_with fail
      refine (l2Fault_calls _ a n ca ss _ hn (M0.lt 4 rfl) (M0.cell 4 rfl) hx0).mono ?_
      rintro e w1 ⟨rfl, g1⟩
      have M1 := M0.below g1
      have hy1 := hy0.below g1 (Nat.le_refl _)
      clear g1 hx0 hy0 M0
      go_wp2_with fail
      refine (l1FaultO_calls _ 0 b lb cb zs _ hlb (M1.lt 3 rfl) (M1.cell 3 rfl) hy1).mono ?_
      rintro e w2 ⟨rfl, g2⟩
      have M2 := M1.below g2
      clear g2 hy1 M1
      go_wp2_with fail
      refine (l2Bad_calls _ _).mono ?_
      rintro e wz ⟨rfl, gz⟩
      have Mz := M2.below gz
      have r0 := Mz.cell 0 rfl
      have r1 := Mz.cell 1 rfl
      have r2 := Mz.cell 2 rfl
      have f0 := Mz.fz 0 rfl
      have f1 := Mz.fz 1 rfl
      have f2 := Mz.fz 2 rfl
      have HB := hide Mz.bel
      clear Mz gz M2
      go_wp2
      refine bodyPost_ret (v := .agg #[.int .i64 (fault zs), .int .i64 0, .slice none 0 0]) (by simp [results, Try.results115, go_sem, r0, r1, r2]) rfl ⟨none, 0, 0, by rw [HC.out, HV.out], ?_, ((HB.out.setCell (by simp; omega) _).setCell (by simp; omega) _).setCell (by simp; omega) _⟩
      rw [HL.out]
      exact OR.nil _ _ _
  · have er : (faultR ss != 0) = true := by simp [hr]
    have HCF : Hid (codeFor ss zs = faultR ss) := if_neg hr
    have HC : Hid (elC ss zs = faultR ss) := by show elC ss zs = _; unfold elC; rw [HCF.out, if_neg hr]
    have HN : Hid (elC ss zs ≠ 0) := by show _ ≠ _; rw [HC.out]; exact hr
    have HV : Hid (elV ss zs = 0) := if_neg HN.out
    have HL : Hid (elL ss zs = []) := if_neg HN.out
    clear hr
    go_enter Try.func115, Try.ntmps115
    go_wp2_with fail
    refine (l2Fault_calls _ a n ca ss _ hn (M0.lt 4 rfl) (M0.cell 4 rfl) hx0).mono ?_
    rintro e w1 ⟨rfl, g1⟩
    have M1 := M0.below g1
    clear g1 hx0 hy0 M0
    go_wp2_with fail
    refine (l2Bad_calls _ _).mono ?_
    rintro e wz ⟨rfl, gz⟩
    have Mz := M1.below gz
    have r0 := Mz.cell 0 rfl
    have r1 := Mz.cell 1 rfl
    have r2 := Mz.cell 2 rfl
    have f0 := Mz.fz 0 rfl
    have f1 := Mz.fz 1 rfl
    have f2 := Mz.fz 2 rfl
    have HB := hide Mz.bel
    clear Mz gz M1
    go_wp2
    refine bodyPost_ret (v := .agg #[.int .i64 (faultR ss), .int .i64 0, .slice none 0 0]) (by simp [results, Try.results115, go_sem, r0, r1, r2]) rfl ⟨none, 0, 0, by rw [HC.out, HV.out], ?_, ((HB.out.setCell (by simp; omega) _).setCell (by simp; omega) _).setCell (by simp; omega) _⟩
    rw [HL.out]
    exact OR.nil _ _ _

set_option maxRecDepth 100000 in
set_option maxHeartbeats 8000000 in
theorem l3Bent_calls (p : Nat) (a : Option Addr) (len cap t : Nat) (w : World) (ht : t ≤ 970000) (hs : Src w p a len cap t) :
    Calls Try.prog 92 #[.pointer (some ⟨p, 0, none⟩)] w (BentT p a len cap t w) := by
  have hp : p < w.heap.size := hs.1
  have M0 := (Mo.start p w).alloc3 hp (.slice none 0 0) (.slice none 0 0) (.slice none 0 0) 36
  have s0 := hs.below ((Below.refl _ _).alloc (Nat.le_refl _) (.cells #[.slice none 0 0, .slice none 0 0, .slice none 0 0] 36))
  go_enter Try.func92, Try.ntmps92
  go_wp2_with fail
  refine (l3Draw_calls p a len cap t _ (by omega) s0).mono ?_
  rintro e w1 ⟨ra, n, rc, ss, ta, tn, tc, ts, da, dn, dc, ds, t1, rfl, htn, _, oo, s1, ht1, o1⟩
  simp only [World.size_alloc] at oo
  have z1 := o1.size
  simp only [World.size_alloc] at z1
  have hp1 : p < w1.heap.size := by omega
  have al := (Below.refl w1.heap.size w1).alloc (Nat.le_refl _) (.cells #[.slice ra n rc, .slice ta tn tc, .slice da dn dc] 36)
  have M1 := (M0.next o1).alloc3 hp1 (.slice ra n rc) (.slice ta tn tc) (.slice da dn dc) 36
  have s1' := s1.below al
  have oo1 := oo.keep (fun k _ hl => al.block k hl)
  have HF0 : Hid (∀ j, w1.frozen? ⟨w.heap.size, j, none⟩ = false) := fun j => (World.frozen?_of_block (a := ⟨w.heap.size, j, none⟩) (o1.block w.heap.size (by simp) (.inr hp))).trans (by simp)
  clear M0 s0 o1 s1 oo al
  go_wp2_with fail
  refine (l1Next_calls p a len cap t1 14 _ (by omega) (by omega) (by omega) s1').mono ?_
  rintro e w2 ⟨r, rfl, r0, r1, s2, o2⟩
  have M2 := M1.next o2
  have z2 := o2.size
  simp only [World.size_alloc] at z2
  have oo2 := oo1.keep (fun k hk hl => o2.block k hl (.inr (by have := hk.1; omega)))
  have HV2 : Hid (V6 w1.heap.size w.heap.size (.slice ra n rc) (.slice ta tn tc) (.slice da dn dc) w2) := by
    have b1 : ∀ j, (w1.alloc (.cells #[.slice ra n rc, .slice ta tn tc, .slice da dn dc] 36)).frozen? ⟨w1.heap.size, j, none⟩ = false := fun j => by simp
    have f1 := fun j => (World.frozen?_of_block (a := ⟨w1.heap.size, j, none⟩) (o2.block w1.heap.size (by simp) (.inr hp1))).trans (b1 j)
    refine ⟨M2.cell 0 rfl, M2.cell 1 rfl, M2.cell 2 rfl, f1, M2.cell 3 rfl, M2.cell 4 rfl, M2.cell 5 rfl, fun j => ?_⟩
    exact (World.frozen?_of_block (a := ⟨w.heap.size, j, none⟩) (o2.block w.heap.size (by simp; omega) (.inr hp))).trans ((World.frozen?_of_block (a := ⟨w.heap.size, j, none⟩) (Below.heap_alloc w1 _ w.heap.size (by omega))).trans (HF0.out j))
  have HO2 := hide M2.out
  have HS2 := hide s2
  have HT2 := hide oo2
  have hw2 : p < w2.heap.size := by omega
  have hVw : w1.heap.size < w2.heap.size := by omega
  have hRw : w.heap.size < w2.heap.size := by omega
  have hqr : w1.heap.size ≠ w.heap.size := by omega
  have hwV : w.heap.size + 1 ≤ w1.heap.size := by omega
  have Htn := hide htn
  clear M2 M1 s2 oo2 oo1 s1' o2 htn
  by_cases q0 : r = 0
  · have e0 : (r == 0) = true := by simp [q0]
    clear q0 r0 r1
    obtain ⟨S1, S2, S3, hs1, hs2, hs3, d12, d13, d23, oR, oW, oD⟩ := HT2.out
    have HR2 := hide oR
    have HW2 := hide oW
    have HD2 := hide oD
    have H1 := hide hs1
    have H2 := hide hs2
    have H3 := hide hs3
    have H12 := hide d12
    have H23 := hide d23
    have HBa := hide (Src.drew (HS2.out.below ((Below.refl w2.heap.size w2).alloc (Nat.le_refl _) (.cells #[.int .i64 0, .int .i64 7, .int .i64 (-1)] 2))))
    have HOB := hide (Outside.drew (Outside.alloc p (p + 1) w2 (.cells #[.int .i64 0, .int .i64 7, .int .i64 (-1)] 2)))
    have hgs2 : w2.heap.size < ((w2.alloc (.cells #[.int .i64 0, .int .i64 7, .int .i64 (-1)] 2)).drew).heap.size := by simp
    have HG := hide hgs2
    have htt : t1 + 1 ≤ 1000000 := by omega
    have x2 := HV2.out.q1
    have hpV : p + 1 ≤ w1.heap.size := hp1
    obtain ⟨i0, hi, hz0, hz1, hz2⟩ := info_parts infoInt3
    clear hgs2 oR oW oD hs1 hs2 hs3 d12 d13 d23
    go_wp2_with fail
    go_region_law (first
      | (refine step_append_lies _ rfl _ _ 25 rfl 0 2 i0 (.int .i64 0) 1 8 Try.underlying25 hi hz0 hz1 hz2 rfl (by decide) (.slice ta tn tc) tn (ts.map (Value.int .i64)) rfl (HW3.out.2.1.alloc _) ⟨w3.heap.size, 0, none⟩ 1 1 [.int .i64 y] rfl rfl (one_newB (by go_simp)) (by simp [Value.oneCell']) (by omega) (by unfold maxLen; have := Htn.out; omega) (by have := Htn.out; omega) (Nat.zero_le _) (w3.heap.size + 1) (by simp) ?_; intro g cp w5 hown5 hgrow hat hlt5; obtain ⟨tb, u5⟩ := tb_app H1.out H2.out H3.out H12.out H23.out HR3.out HW3.out HD3.out hgrow hat hown5 (by have := Htn.out; omega); have HTB := hide tb; have HU5 := hide u5; have V5 := V3.out.keep (bent_keep u5 hV3 (fun e => by have := (H2.out _ e).2; omega)) (bent_keep u5 hR3 (fun e => by have := (H2.out _ e).1; omega)); have gq1 := V5.q1; have gqf := V5.qf 1; have HV5 := hide V5; have HLT : Hid (w3.heap.size ≤ w5.heap.size) := (by have := u5.size; simp only [World.size_alloc] at this; show w3.heap.size ≤ w5.heap.size; omega); clear hown5 hgrow hat hlt5 tb u5 V5)
      | (go_simp; go_at_call 113; refine (l1Pick_calls p a len cap (t1 + 1) w2.heap.size 3 3 [0, 7, -1] _ (by decide) (by decide) htt HBa.out hw2 HG.out rfl ?_).mono ?_; exact lit3; rintro e w3 ⟨y, rfl, s3, o3⟩; have o23 : Outside p (p + 1) w2 w3 := Outside.trans HOB.out o3; have x3 := Outside.cell (q := ⟨w1.heap.size, 1, none⟩) o23 hVw hpV x2; have KP : Hid (∀ k, InR (w.heap.size + 1 + 1 + 1) w1.heap.size k → w3.heap[k]? = w2.heap[k]?) := (fun k hk => o23.block k (by have := hk.2; omega) (.inr (by have := hk.1; omega))); have HR3 := hide (OR.loc w2 w3 (fun k hk _ => KP.out k (H1.out k hk)) HR2.out); have HW3 := hide (RW.loc w2 w3 (fun k hk _ => KP.out k (H2.out k hk)) HW2.out); have HD3 := hide (OS.loc w2 w3 (fun k hk _ => KP.out k (H3.out k hk)) HD2.out); have V3 := hide (HV2.out.out o23 hp1 hp); have hV3 : w1.heap.size < w3.heap.size := (by have := o23.size; omega); have hR3 : w.heap.size < w3.heap.size := (by omega); have S3' := hide s3; have O3 := hide (HO2.out.trans o23); clear s3 o3 o23))
    all_goals (
      obtain ⟨s5, o5⟩ := bent_app (w := w) HU5.out (fun k hk => by have := (H2.out k hk).1; omega) (by omega) hp S3'.out O3.out
      have HV := hide (HV5.out.set1 hqr (.slice (some ⟨g, 0, none⟩) (tn + 1) cp))
      have HS5 := hide (s5.setCell (q := ⟨w1.heap.size, 1, none⟩) hp1 (.slice (some ⟨g, 0, none⟩) (tn + 1) cp))
      have HO5 := hide (o5.setNew (q := ⟨w1.heap.size, 1, none⟩) (by show w.heap.size ≤ w1.heap.size; omega) (.slice (some ⟨g, 0, none⟩) (tn + 1) cp))
      have HTB5 := hide (TbS.loc.setC HTB.out (q := ⟨w1.heap.size, 1, none⟩) (fun e => by rcases e with e | e; have := e.2; simp only at this; omega; have := e.1; simp only at this; omega) (.slice (some ⟨g, 0, none⟩) (tn + 1) cp))
      have HIN : Hid (∀ k, (InR (w.heap.size + 1 + 1 + 1) w1.heap.size k ∨ InR w3.heap.size w5.heap.size k) → w.heap.size + 1 ≤ k ∧ k < (w5.setCell ⟨w1.heap.size, 1, none⟩ (.slice (some ⟨g, 0, none⟩) (tn + 1) cp)).heap.size) := (fun k hk => by have := HLT.out; rcases hk with hk | hk; exact ⟨by have := hk.1; omega, by have := hk.2; simp; omega⟩; exact ⟨by have := hk.1; omega, by have := hk.2; simpa using this⟩)
      obtain ⟨X, hX⟩ : ∃ x, x = w5.setCell ⟨w1.heap.size, 1, none⟩ (.slice (some ⟨g, 0, none⟩) (tn + 1) cp) := ⟨_, rfl⟩
      rw [← hX] at HV HS5 HO5 HTB5 HIN ⊢
      clear s5 o5 x2 x3 gq1 gqf hX
      have q0 := HV.out.q0
      have q1 := HV.out.q1
      have q2 := HV.out.q2
      have d0 := HV.out.d0
      have d1 := HV.out.d1
      have d2 := HV.out.d2
      have f0 := HV.out.df 0
      have f1 := HV.out.df 1
      have f2 := HV.out.df 2
      go_wp2
      exact bodyPost_ret (v := .agg #[.slice ra n rc, .slice (some ⟨g, 0, none⟩) (tn + 1) cp, .slice da dn dc]) (by simp [results, Try.results92, go_sem, d0, d1, d2]) rfl (BentT.fin hp HTB5.out HIN.out HS5.out (by omega) HO5.out _ _ _))
  · have e0 : (r == 0) = false := by simp [q0]
    by_cases q1 : r = 1
    · have e1 : (r == 1) = true := by simp [q1]
      clear q0 q1 r0 r1
      have x0 := HV2.out.q0
      have xf := HV2.out.qf 0
      go_wp2_with fail
      refine (l2Bent_calls p a len cap (t1 + 1) _ (by omega) HS2.out).mono ?_
      rintro e w3 ⟨ra', n', rc', ss', t3, rfl, rg3, hn', s3, ht3, o3⟩
      have z3 := o3.size
      have V3 := HV2.out.out o3 hp1 hp
      have y0 := V3.q0
      have yf := V3.qf 0
      have oo3 := (HT2.out.keep (fun k hk hl => o3.block k hl (.inr (by have := hk.1; omega)))).tbS
      have HTB : Hid (TbS (fun k => InR (w.heap.size + 1 + 1 + 1) w1.heap.size k ∨ InR (w2.heap.size + 1) w3.heap.size k) ra' n' ss' ta tn ts da dn ds w3) := ⟨by omega, rg3.mono (fun k hk => .inr hk), oo3.2.2.1, oo3.2.2.2.1.mono (fun k hk => .inl hk), oo3.2.2.2.2.1, oo3.2.2.2.2.2.mono (fun k hk => .inl hk)⟩
      have HV := hide (V3.set0 hqr (.slice ra' n' rc'))
      have HS5 := hide (s3.setCell (q := ⟨w1.heap.size, 0, none⟩) hp1 (.slice ra' n' rc'))
      have HO5 := hide ((HO2.out.trans o3).setNew (q := ⟨w1.heap.size, 0, none⟩) (by show w.heap.size ≤ w1.heap.size; omega) (.slice ra' n' rc'))
      have HTB5 := hide (TbS.loc.setC HTB.out (q := ⟨w1.heap.size, 0, none⟩) (fun e => by rcases e with e | e; have := e.2; simp only at this; omega; have := e.1; simp only at this; omega) (.slice ra' n' rc'))
      have HIN : Hid (∀ k, (InR (w.heap.size + 1 + 1 + 1) w1.heap.size k ∨ InR (w2.heap.size + 1) w3.heap.size k) → w.heap.size + 1 ≤ k ∧ k < (w3.setCell ⟨w1.heap.size, 0, none⟩ (.slice ra' n' rc')).heap.size) := (fun k hk => by rcases hk with hk | hk; exact ⟨by have := hk.1; omega, by have := hk.2; simp; omega⟩; exact ⟨by have := hk.1; omega, by have := hk.2; simpa using this⟩)
      clear rg3 s3 o3 V3 oo3 x0 xf
      go_upto_region 14 with fail
      obtain ⟨X, hX⟩ : ∃ x, x = w3.setCell ⟨w1.heap.size, 0, none⟩ (.slice ra' n' rc') := ⟨_, rfl⟩
      rw [← hX] at HV HS5 HO5 HTB5 HIN ⊢
      clear y0 yf hX
      have q0 := HV.out.q0
      have q1 := HV.out.q1
      have q2 := HV.out.q2
      have d0 := HV.out.d0
      have d1 := HV.out.d1
      have d2 := HV.out.d2
      have f0 := HV.out.df 0
      have f1 := HV.out.df 1
      have f2 := HV.out.df 2
      go_wp2
      exact bodyPost_ret (v := .agg #[.slice ra' n' rc', .slice ta tn tc, .slice da dn dc]) (by simp [results, Try.results92, go_sem, d0, d1, d2]) rfl (BentT.fin hp HTB5.out HIN.out HS5.out (by omega) HO5.out _ _ _)
    · have e1 : (r == 1) = false := by simp [q1]
      by_cases q2 : r = 2
      · have e2 : (r == 2) = true := by simp [q2]
        clear q0 q1 q2 r0 r1
        have sA := HS2.out.below ((Below.refl w2.heap.size w2).alloc (Nat.le_refl _) (.cells #[.int .i64 4, .int .i64 5] 2))
        obtain ⟨i0, hi, hz0, hz1, hz2⟩ := info_parts infoInt3
        go_wp2_with fail
        refine (l1PickM_calls p a len cap (t1 + 1) w2.heap.size 2 2 [4, 5] _ (by omega) (by omega) (by omega) sA hw2 (by simp) rfl lit2).mono ?_
        rintro e w3 ⟨j, hj, rfl, s3, o3⟩
        have o23 := (Outside.alloc p (p + 1) w2 (.cells #[.int .i64 4, .int .i64 5] 2)).trans o3
        obtain ⟨m, hm, hm33⟩ : ∃ m : Nat, gt [4, 5] j = (m : Int) ∧ m ≤ 5 := by
          rcases (by omega : j = 0 ∨ j = 1) with rfl | rfl
          · exact ⟨4, rfl, by omega⟩
          · exact ⟨5, rfl, by omega⟩
        rw [hm]
        have hmk : ∀ u : World, (Instr.makeSlice 25 (.int .i64 (m : Int)) (.int .i64 (m : Int))).run Try.prog u =
            .ok (.slice (some ⟨u.heap.size, 0, none⟩) m m) (u.alloc (.cells (madeCells #[.int .i64 0] m) 2)) := fun u => by
          have h := run_make (P := Try.prog) u 25 2 i0 (.int .i64 0) Try.underlying25 hi hz0 .i64 .i64 (m : Int) (m : Int) (by omega) (Int.le_refl _) (by rw [hz2]; omega) (by omega)
          simpa [hz1, Value.cells] using h
        have z3 := o23.size
        have V3 := HV2.out.out o23 hp1 hp
        have y2 := V3.q2
        have yf := V3.qf 2
        have oo3 := (HT2.out.keep (fun k hk hl => o23.block k hl (.inr (by have := hk.1; omega)))).tbS
        have hVX : w1.heap.size < w3.heap.size := by omega
        clear sA
        go_upto_region 14 with fail
        obtain ⟨Y, hY⟩ : ∃ x, x = w3.setCell ⟨w1.heap.size, 2, none⟩ (.slice (some ⟨w3.heap.size, 0, none⟩) m m) := ⟨_, rfl⟩
        have hsY : Y.heap.size = w3.heap.size := by rw [hY]; simp
        have ooY : TbS (InR (w.heap.size + 1 + 1 + 1) w1.heap.size) ra n ss ta tn ts da dn ds Y := by rw [hY]; exact TbS.loc.setC oo3 (q := ⟨w1.heap.size, 2, none⟩) (fun e => by have := e.2; simp only at this; omega) _
        have VY : V6 w1.heap.size w.heap.size (.slice ra n rc) (.slice ta tn tc) (.slice (some ⟨w3.heap.size, 0, none⟩) m m) Y := by rw [hY]; exact V3.set2 hqr _
        have sY : Src Y p a len cap (t1 + 1 + 1) := by rw [hY]; exact s3.setCell (q := ⟨w1.heap.size, 2, none⟩) hp1 _
        have oY : Outside p (p + 1) w Y := by rw [hY]; exact (HO2.out.trans o23).setNew (q := ⟨w1.heap.size, 2, none⟩) (by show w.heap.size ≤ w1.heap.size; omega) _
        rw [← hY]
        have al := (Below.refl Y.heap.size Y).alloc (Nat.le_refl _) (.cells (madeCells #[.int .i64 0] m) 2)
        have ooX := TbS.loc.below al ooY
        have hmd := made_fr Y m 2 (fun k => InR (w.heap.size + 1 + 1 + 1) w1.heap.size k ∨ k = w3.heap.size) (.inr hsY)
        rw [hsY] at hmd
        have HTB5 : Hid (TbS (fun k => InR (w.heap.size + 1 + 1 + 1) w1.heap.size k ∨ k = w3.heap.size) ra n ss ta tn ts (some ⟨w3.heap.size, 0, none⟩) m (List.replicate m 0) (Y.alloc (.cells (madeCells #[.int .i64 0] m) 2))) := ⟨ooX.1, ooX.2.1.mono (fun k hk => .inl hk), ooX.2.2.1, ooX.2.2.2.1.mono (fun k hk => .inl hk), by omega, hmd⟩
        have HV := hide (VY.alloc (.cells (madeCells #[.int .i64 0] m) 2))
        have HS5 := hide (sY.below al)
        have HO5 := hide (oY.trans (Outside.of_below al))
        have HIN : Hid (∀ k, (InR (w.heap.size + 1 + 1 + 1) w1.heap.size k ∨ k = w3.heap.size) → w.heap.size + 1 ≤ k ∧ k < (Y.alloc (.cells (madeCells #[.int .i64 0] m) 2)).heap.size) := (fun k hk => by rcases hk with hk | hk; exact ⟨by have := hk.1; omega, by have := hk.2; simp; omega⟩; exact ⟨by omega, by simp; omega⟩)
        obtain ⟨X, hX⟩ : ∃ x, x = Y.alloc (.cells (madeCells #[.int .i64 0] m) 2) := ⟨_, rfl⟩
        rw [← hX] at HV HS5 HO5 HTB5 HIN ⊢
        clear s3 o3 o23 V3 oo3 y2 yf hmk hY hsY ooY VY sY oY al ooX hmd hX
        have q0 := HV.out.q0
        have q1 := HV.out.q1
        have q2 := HV.out.q2
        have d0 := HV.out.d0
        have d1 := HV.out.d1
        have d2 := HV.out.d2
        have f0 := HV.out.df 0
        have f1 := HV.out.df 1
        have f2 := HV.out.df 2
        go_wp2
        exact bodyPost_ret (v := .agg #[.slice ra n rc, .slice ta tn tc, .slice (some ⟨w3.heap.size, 0, none⟩) m m]) (by simp [results, Try.results92, go_sem, d0, d1, d2]) rfl (BentT.fin hp HTB5.out HIN.out HS5.out (by omega) HO5.out _ _ _)
      · have e2 : (r == 2) = false := by simp [q2]
        by_cases q3 : r = 3
        · have e3 : (r == 3) = true := by simp [q3]
          clear q0 q1 q2 q3 r0 r1
          have x0 := HV2.out.q0
          have HSa := hide (HS2.out.below (Below.refl _ _).drew)
          have HSb := hide (HS2.out.below (((Below.refl w2.heap.size w2).alloc (Nat.le_refl _) (.cells #[.int .i64 0, .int .i64 0, .slice none 0 0] 160)).drew))
          have HOa := hide (Outside.drew (Outside.refl p (p + 1) w2))
          have HOb := hide (Outside.drew (Outside.alloc p (p + 1) w2 (.cells #[.int .i64 0, .int .i64 0, .slice none 0 0] 160)))
          have HCa : Hid (Cs w2.heap.size [.int .i64 0, .int .i64 0, .slice none 0 0] (w2.alloc (.cells #[.int .i64 0, .int .i64 0, .slice none 0 0] 160)).drew) := Cs.loc.below (Below.refl _ _).drew (Cs.alloc w2 _ _)
          have HJ0 := hide (HV2.out.below (Below.refl _ _).drew).q0
          have HJ1 := hide (HV2.out.below (((Below.refl w2.heap.size w2).alloc (Nat.le_refl _) (.cells #[.int .i64 0, .int .i64 0, .slice none 0 0] 160)).drew)).q0
          have htt : t1 + 1 ≤ 990000 := by omega
          have hnn : n ≤ maxLen := HT2.out.rt.1
          go_upto_region 10 with fail
          go_cut [4] (fun v wd => ∃ (B t3 : Nat) (zs : List Int) (ea : Option Addr) (en ec : Nat), v = .pointer (some ⟨B, 0, none⟩) ∧ w1.heap.size < B ∧ wd.cell? ⟨B, 0, none⟩ = some (.int .i64 (elC ss zs)) ∧ wd.cell? ⟨B, 1, none⟩ = some (.int .i64 (elV ss zs)) ∧ wd.cell? ⟨B, 2, none⟩ = some (.slice ea en ec) ∧ t3 ≤ t1 + 1 + 10 ∧ ∃ c, CutB p a len cap t3 c w w1 w2 (.slice ra n rc) (.slice ta tn tc) (.slice da dn dc) ra n ss ta tn ts da dn ds tc ea en (elL ss zs) wd)
          case first =>
            go_region_held2 (fun W => W.cell? ⟨w1.heap.size, 0, none⟩ = some (.slice ra n rc))
             (first | with_reducible assumption | with_reducible exact HJ0.out | with_reducible exact HJ1.out | with_reducible exact HV1.out.q0 | with_reducible exact (HV1.out.alloc _).q0 | with_reducible exact HC2.out.v.q0 | with_reducible exact (HC2.out.alloc _).v.q0 | with_reducible exact (HC2.out.set3 (by omega) (by omega) (by omega) hp _ _ _).v.q0)
             (first
              | (go_at_call 95; refine (l1Bent_calls p a len cap (t1 + 1) _ htt ?_).mono ?_; (first | with_reducible exact HSa.out | with_reducible exact HSb.out); rintro e u1 ⟨la, ll, lc, zs, t3, rfl, fr, s1, ht3, o1⟩; have o1w : Outside p (p + 1) w2 u1 := (by first | with_reducible exact Outside.trans HOa.out o1 | with_reducible exact Outside.trans HOb.out o1); have V1 := HV2.out.out o1w hp1 hp; have y0 := V1.q0; have HV1 := hide V1; have HS1 := hide s1; have HO1 := hide (HO2.out.trans o1w); have HL1 := hide fr.frS.sl; have hll : ll ≤ maxLen := (by have := fr.2.1; unfold maxLen; omega); have HT1 := hide (HT2.out.keep (fun k hk hl => o1w.block k hl (.inr (by have := hk.1; omega)))); have zu1 := o1.size; (try simp only [World.size_drew, World.size_alloc] at zu1); (try (have K1 := Cs.loc.out (OutS.of_outside o1) (fun j hj e => by have := hj.1; have := e.2; omega) HCa.out; have s0 := K1.cell 0 rfl; have HK1 := hide K1; clear K1 s0)); have zw1 := o1w.size; clear V1 s1 o1 fr o1w)
              | (go_at_call 115; refine (specEnterLabel_calls ra n rc ss la ll lc zs _ hnn ?_ hll ?_).mono ?_; (first | exact HT1.out.rt.2.1 | exact HT1.out.rt.2.1.below ((Below.refl _ _).alloc (Nat.le_refl _) _) (Nat.le_refl _)); (first | exact HL1.out | exact HL1.out.below ((Below.refl _ _).alloc (Nat.le_refl _) _) (Nat.le_refl _)); rintro e u2 ⟨ea, en, ec, rfl, or2, g2⟩; have gw : Below u1.heap.size u1 u2 := (by first | exact g2 | exact ((Below.refl _ _).alloc (Nat.le_refl _) _).trans (g2.mono (by simp))); have zu2 := gw.size; have zg2 := g2.size; (try simp only [World.size_alloc] at zg2 or2); have HC2 : Hid (CutB p a len cap t3 _ w w1 w2 (.slice ra n rc) (.slice ta tn tc) (.slice da dn dc) ra n ss ta tn ts da dn ds tc ea en (elL ss zs) u2) := ⟨HV1.out.below gw, HT1.out.keep (fun k _ hl => gw.block k hl), or2, HS1.out.below gw, HO1.out.trans (Outside.of_below gw), ⟨by omega, by omega⟩⟩; (try (have K2 := Cs.loc.below gw HK1.out; have s0 := K2.cell 0 rfl; have s1 := K2.cell 1 rfl; have s2 := K2.cell 2 rfl; have r0 := K2.fz 0 (by simp); have r1 := K2.fz 1 (by simp); have r2 := K2.fz 2 (by simp); clear K2)); (try (have K3 : Cs u1.heap.size [.int .i64 0, .int .i64 0, .slice none 0 0] u2 := Cs.loc.below g2 (Cs.alloc u1 _ _); have s0 := K3.cell 0 rfl; have s1 := K3.cell 1 rfl; have s2 := K3.cell 2 rfl; have r0 := K3.fz 0 (by simp); have r1 := K3.fz 1 (by simp); have r2 := K3.fz 2 (by simp); clear K3)); clear or2 g2 gw))
            all_goals go_wp2_with fail
            all_goals go_meet
            all_goals (
              refine ⟨_, t3, zs, ea, en, ec, rfl, ?lt, ?c0, ?c1, ?c2, ht3, ?cb⟩
              case lt => omega
              case c0 => first | (with_reducible refine set3_at0 _ _ _ _ _ ?_; exact ⟨_, s0⟩) | (go_simp; done)
              case c1 => first | (with_reducible refine set3_at1 _ _ _ _ _ ?_; exact ⟨_, s1⟩) | (go_simp; done)
              case c2 => first | (with_reducible refine set3_at2 _ _ _ _ _ ?_; exact ⟨_, s2⟩) | (go_simp; done)
              case cb => first | (with_reducible exact ⟨_, HC2.out.alloc _⟩) | (with_reducible exact ⟨_, HC2.out.set3 (by omega) (by omega) (by omega) hp _ _ _⟩))
          case rest =>
            obtain ⟨B, t3, zs, ea, en, ec, rfl, hBq, c0, c1, c2, ht3, c, cb⟩ := hcut
            have hl := cb.l
            have HCB := hide cb
            have lB := World.block_lt_of_cell? _ _ c0
            by_cases hz : elC ss zs = 0
            · have ez : (elC ss zs == 0) = true := by simpa using hz
              have p0 := cb.v.q0
              have pf := cb.v.qf 0
              have HVY := hide (cb.v.set0 hqr (.slice ea en ec))
              clear hz cb x0
              go_upto_region 13 with fail
              obtain ⟨Y, hY⟩ : ∃ x, x = wc.setCell ⟨w1.heap.size, 0, none⟩ (.slice ea en ec) := ⟨_, rfl⟩
              have y1 : Y.cell? ⟨B, 1, none⟩ = some (.int .i64 (elV ss zs)) := by
                rw [hY, World.cell?_setCell_other _ _ _ _ (fun e => by injection e with e1 _; omega)]; exact c1
              have hsY : Y.heap.size = wc.heap.size := by rw [hY]; simp
              obtain ⟨S1, S2, S3, hs1, hs2, hs3, d12, d13, d23, oR, oW, oD⟩ := HCB.out.o
              have nQ : ∀ k, InR (w.heap.size + 1 + 1 + 1) w1.heap.size k → ¬ k = w1.heap.size := fun k hk e => by have := hk.2; omega
              have oWY : RW S2 ta tn tc ts Y := by rw [hY]; exact RW.loc.setC oW (q := ⟨w1.heap.size, 0, none⟩) (fun e => nQ _ (hs2 _ e) rfl) _
              have oDY : OS S3 da dn ds Y := by rw [hY]; exact OS.loc.setC oD (q := ⟨w1.heap.size, 0, none⟩) (fun e => nQ _ (hs3 _ e) rfl) _
              have oRY : OR (InR c wc.heap.size) ea en (elL ss zs) Y := by rw [hY]; exact OR.loc.setC HCB.out.r (q := ⟨w1.heap.size, 0, none⟩) (fun e => by have := e.1; simp only at this; omega) _
              have sY : Src Y p a len cap t3 := by rw [hY]; exact HCB.out.s.setCell (q := ⟨w1.heap.size, 0, none⟩) hp1 _
              have oY : Outside p (p + 1) w Y := by rw [hY]; exact HCB.out.u.setNew (q := ⟨w1.heap.size, 0, none⟩) (by show w.heap.size ≤ w1.heap.size; omega) _
              rw [← hY] at HVY ⊢
              have y0 := HVY.out.q1
              have yf := HVY.out.qf 1
              have HW3 := hide oWY
              have HD3 := hide oDY
              have HR3 := hide oRY
              have H2 := hide hs2
              have H3 := hide hs3
              have H23 := hide d23
              have HSY := hide sY
              have HOY := hide oY
              have HsY : Hid (wc.heap.size ≤ Y.heap.size ∧ Y.heap.size ≤ wc.heap.size) := ⟨by omega, by omega⟩
              obtain ⟨i0, hi, hz0, hz1, hz2⟩ := info_parts infoInt3
              clear oR oW oD hs1 hs2 hs3 d12 d13 d23 nQ oWY oDY oRY sY oY hY hsY c0 c1 c2 p0 pf
              go_upto_region 14 with (first
                | (at_builtin; refine wpList_append_lies _ rfl _ _ 25 rfl 0 2 i0 (.int .i64 0) 1 8 Try.underlying25 hi hz0 hz1 hz2 rfl (by decide) _ tn (ts.map (Value.int .i64)) rfl (HW3.out.2.1.alloc _) ⟨Y.heap.size, 0, none⟩ 1 1 [.int .i64 (elV ss zs)] rfl rfl (one_newB (by go_simp)) (by simp [Value.oneCell']) (by omega) (by unfold maxLen; have := Htn.out; omega) (by have := Htn.out; omega) (Nat.zero_le _) (Y.heap.size + 1) (by simp) ?_; intro g cp w5 hown5 hgrow hat hlt5; obtain ⟨tb, u5⟩ := tb_app (S := fun k => InR (w.heap.size + 1 + 1 + 1) w1.heap.size k ∨ InR c wc.heap.size k) (fun k hk => Or.inr hk) (fun k hk => Or.inl (H2.out k hk)) (fun k hk => Or.inl (H3.out k hk)) (fun k h1 h2 => by have := h1.1; have := (H2.out k h2).2; omega) H23.out HR3.out HW3.out HD3.out hgrow hat hown5 (by have := Htn.out; omega); have HTB := hide tb; have HU5 := hide u5; have V5 := HVY.out.keep (bent_keep u5 (by have := HsY.out; omega) (fun e => by have := (H2.out _ e).2; omega)) (bent_keep u5 (by have := HsY.out; omega) (fun e => by have := (H2.out _ e).1; omega)); have gq1 := V5.q1; have gqf := V5.qf 1; have HV5 := hide V5; have HLT : Hid (Y.heap.size ≤ w5.heap.size) := (by have := u5.size; simp only [World.size_alloc] at this; show Y.heap.size ≤ w5.heap.size; omega); clear hown5 hgrow hat hlt5 tb u5 V5)
                | go_in)
              obtain ⟨s5, o5⟩ := bent_app (w := w) HU5.out (fun k hk => by have := (H2.out k hk).1; omega) (by have := HsY.out; omega) hp HSY.out HOY.out
              have HV := hide (HV5.out.set1 hqr (.slice (some ⟨g, 0, none⟩) (tn + 1) cp))
              have HS5 := hide (s5.setCell (q := ⟨w1.heap.size, 1, none⟩) hp1 (.slice (some ⟨g, 0, none⟩) (tn + 1) cp))
              have HO5 := hide (o5.setNew (q := ⟨w1.heap.size, 1, none⟩) (by show w.heap.size ≤ w1.heap.size; omega) (.slice (some ⟨g, 0, none⟩) (tn + 1) cp))
              have HTB5 := hide (TbS.loc.setC HTB.out (q := ⟨w1.heap.size, 1, none⟩) (fun e => by have := HsY.out; rcases e with (e | e) | e; have := e.2; simp only at this; omega; have := e.1; simp only at this; omega; have := e.1; simp only at this; omega) (.slice (some ⟨g, 0, none⟩) (tn + 1) cp))
              have HIN : Hid (∀ k, ((InR (w.heap.size + 1 + 1 + 1) w1.heap.size k ∨ InR c wc.heap.size k) ∨ InR Y.heap.size w5.heap.size k) → w.heap.size + 1 ≤ k ∧ k < (w5.setCell ⟨w1.heap.size, 1, none⟩ (.slice (some ⟨g, 0, none⟩) (tn + 1) cp)).heap.size) := (fun k hk => by have := HLT.out; have := HsY.out; rcases hk with (hk | hk) | hk; exact ⟨by have := hk.1; omega, by have := hk.2; simp; omega⟩; exact ⟨by have := hk.1; omega, by have := hk.2; simp; omega⟩; exact ⟨by have := hk.1; omega, by have := hk.2; simpa using this⟩)
              obtain ⟨X, hX⟩ : ∃ x, x = w5.setCell ⟨w1.heap.size, 1, none⟩ (.slice (some ⟨g, 0, none⟩) (tn + 1) cp) := ⟨_, rfl⟩
              rw [← hX] at HV HS5 HO5 HTB5 HIN ⊢
              clear s5 o5 gq1 gqf hX y0 y1 yf
              have q0 := HV.out.q0
              have q1 := HV.out.q1
              have q2 := HV.out.q2
              have d0 := HV.out.d0
              have d1 := HV.out.d1
              have d2 := HV.out.d2
              have f0 := HV.out.df 0
              have f1 := HV.out.df 1
              have f2 := HV.out.df 2
              go_wp2
              exact bodyPost_ret (v := .agg #[.slice ea en ec, .slice (some ⟨g, 0, none⟩) (tn + 1) cp, .slice da dn dc]) (by simp [results, Try.results92, go_sem, d0, d1, d2]) rfl (BentT.fin hp HTB5.out HIN.out HS5.out (by omega) HO5.out _ _ _)
            · have ez : (elC ss zs == 0) = false := by simpa using hz
              have HV := hide cb.v
              clear hz cb x0
              have q0 := HV.out.q0
              have q1 := HV.out.q1
              have q2 := HV.out.q2
              have d0 := HV.out.d0
              have d1 := HV.out.d1
              have d2 := HV.out.d2
              have f0 := HV.out.df 0
              have f1 := HV.out.df 1
              have f2 := HV.out.df 2
              go_wp2
              exact bodyPost_ret (v := .agg #[.slice ra n rc, .slice ta tn tc, .slice da dn dc]) (by simp [results, Try.results92, go_sem, d0, d1, d2]) rfl (BentT.fin hp HCB.out.o.tbS (fun k hk => ⟨by have := hk.1; omega, by have := hk.2; omega⟩) HCB.out.s (by omega) HCB.out.u _ _ _)
        · have e3 : (r == 3) = false := by simp [q3]
          clear q0 q1 q2 q3 r0 r1
          have HV := HV2
          have q0 := HV.out.q0
          have q1 := HV.out.q1
          have q2 := HV.out.q2
          have d0 := HV.out.d0
          have d1 := HV.out.d1
          have d2 := HV.out.d2
          have f0 := HV.out.df 0
          have f1 := HV.out.df 1
          have f2 := HV.out.df 2
          go_wp2
          exact bodyPost_ret (v := .agg #[.slice ra n rc, .slice ta tn tc, .slice da dn dc]) (by simp [results, Try.results92, go_sem, d0, d1, d2]) rfl (BentT.fin hp HT2.out.tbS (fun k hk => ⟨by have := hk.1; omega, by have := hk.2; omega⟩) HS2.out (by omega) HO2.out _ _ _)

/-- the bytes of a code. -/
def Cd (w : World) (a : Option Addr) (len : Nat) : Prop :=
  len ≤ 1048576 ∧ (0 < len → ∃ b off, a = some ⟨b, off, none⟩ ∧ b < w.heap.size ∧ ∀ i, i < len → ∃ v : Int, 0 ≤ v ∧ v ≤ 255 ∧ w.cell? ⟨b, off + i, none⟩ = some (.int .u8 v))

theorem Cd.below {w u : World} {a : Option Addr} {len : Nat} (h : Cd w a len) (hb : Below w.heap.size w u) : Cd u a len :=
  ⟨h.1, fun hp => by
    obtain ⟨b, off, e, h1, h2⟩ := h.2 hp
    exact ⟨b, off, e, by have := hb.size; omega, fun i hi => by obtain ⟨v, v0, v1, hv⟩ := h2 i hi; exact ⟨v, v0, v1, (hb.cell (p := ⟨b, off + i, none⟩) h1).trans hv⟩⟩⟩

theorem Cd.src {w : World} {a : Option Addr} {len cap : Nat} (h : Cd w a len) (t : TypeId) : Src (w.alloc (.cells #[.slice a len cap, .int .i64 0] t)) w.heap.size a len cap 0 :=
  ⟨by simp, by simp, by simp, by simp, h.1, fun hp => by
    obtain ⟨b, off, e, h1, h2⟩ := h.2 hp
    exact ⟨b, off, e, h1, fun i hi => by obtain ⟨v, v0, v1, hv⟩ := h2 i hi; exact ⟨v, v0, v1, (World.cell?_alloc_past _ _ _ h1).trans hv⟩⟩⟩

set_option maxRecDepth 100000 in
theorem l1Source_calls (a : Option Addr) (len cap : Nat) (w : World) :
    Calls Try.prog 91 #[.slice a len cap] w fun e w' => e = .returned (.pointer (some ⟨w.heap.size, 0, none⟩)) ∧ w' = w.alloc (.cells #[.slice a len cap, .int .i64 0] 140) := by
  go_enter Try.func91, Try.ntmps91
  go_wp2
  go_ret
  exact ⟨rfl, rfl⟩

/-- what a draw of tables and numbers gives. -/
def DrewTb1 (w : World) (e : Ending) (w' : World) : Prop :=
  ∃ (ra : Option Addr) (n rc : Nat) (ss : List (Int × List Int)) (ta : Option Addr) (tn tc : Nat) (ts : List Int) (da : Option Addr) (dn dc : Nat) (ds : List Int) (x : Int), e = .returned (.tuple #[.agg #[.slice ra n rc, .slice ta tn tc, .slice da dn dc], .int .i64 x]) ∧ TbS (InR w.heap.size w'.heap.size) ra n ss ta tn ts da dn ds w' ∧ Below w.heap.size w w'

def DrewTb2 (w : World) (e : Ending) (w' : World) : Prop :=
  ∃ (ra : Option Addr) (n rc : Nat) (ss : List (Int × List Int)) (ta : Option Addr) (tn tc : Nat) (ts : List Int) (da : Option Addr) (dn dc : Nat) (ds : List Int) (x y : Int), e = .returned (.tuple #[.agg #[.slice ra n rc, .slice ta tn tc, .slice da dn dc], .int .i64 x, .int .i64 y]) ∧ TbS (InR w.heap.size w'.heap.size) ra n ss ta tn ts da dn ds w' ∧ Below w.heap.size w w'

/-- the result's three cells are written: what it holds stays. -/
theorem tb_fin {w X : World} {B T : Nat} {cs : List (Nat × Nat × Value)} {ra : Option Addr} {n : Nat} {ss : List (Int × List Int)} {ta : Option Addr} {tn : Nat} {ts : List Int} {da : Option Addr} {dn : Nat} {ds : List Int} (M : Mm w X cs [(B, T, TbS (InR B T) ra n ss ta tn ts da dn ds)]) (hB : w.heap.size < B) (hT : T ≤ X.heap.size) (v0 v1 v2 : Value) :
    TbS (InR w.heap.size (((X.setCell ⟨w.heap.size, 0, none⟩ v0).setCell ⟨w.heap.size, 1, none⟩ v1).setCell ⟨w.heap.size, 2, none⟩ v2).heap.size) ra n ss ta tn ts da dn ds (((X.setCell ⟨w.heap.size, 0, none⟩ v0).setCell ⟨w.heap.size, 1, none⟩ v1).setCell ⟨w.heap.size, 2, none⟩ v2) ∧ Below w.heap.size w (((X.setCell ⟨w.heap.size, 0, none⟩ v0).setCell ⟨w.heap.size, 1, none⟩ v1).setCell ⟨w.heap.size, 2, none⟩ v2) := by
  have hn : ¬ InR B T w.heap.size := fun e => by have := e.1; omega
  exact ⟨(TbS.loc.setC (TbS.loc.setC (TbS.loc.setC (M.get 0 rfl) (q := ⟨w.heap.size, 0, none⟩) hn v0) (q := ⟨w.heap.size, 1, none⟩) hn v1) (q := ⟨w.heap.size, 2, none⟩) hn v2).mono (fun k hk => ⟨by have := hk.1; omega, by have := hk.2; simp; omega⟩), ((M.bel.setCell (by simp) _).setCell (by simp) _).setCell (by simp) _⟩

/-- a cell that is none of the bundle's is written. -/
theorem Mm.off {w u : World} {cs : List (Nat × Nat × Value)} {fs : List (Nat × Nat × (World → Prop))} (h : Mm w u cs fs) {P o : Nat} (v : Value) (hb : w.heap.size ≤ P) (hc : ∀ c ∈ cs, c.1 ≠ P) (hf : ∀ f ∈ fs, P < f.1 ∨ f.2.1 ≤ P) : Mm w (u.setCell ⟨P, o, none⟩ v) cs fs := by
  refine ⟨h.bel.setCell hb v, fun c k => ?_, fun f k => ?_⟩
  · have h1 := h.cells c k
    refine ⟨by simpa using h1.1, ?_, by simpa using h1.2.2⟩
    rw [World.cell?_setCell_other _ _ _ _ (fun e => by injection e with e1 e2; exact hc c k e1.symm)]
    exact h1.2.1
  · have h1 := h.facts f k
    refine ⟨h1.1, h1.1.setC h1.2 (fun e => ?_) v⟩
    have a1 := e.1
    have a2 := e.2
    have := hf f k
    simp only at a1 a2
    omega

theorem keepC {X : World} {q o R i : Nat} {v x : Value} (h : q ≠ R) (hc : X.cell? ⟨q, o, none⟩ = some v) : (X.setCell ⟨R, i, none⟩ x).cell? ⟨q, o, none⟩ = some v := by
  rw [World.cell?_setCell_other _ _ _ _ (fun e => h (by injection e with e1 _; exact e1.symm))]; exact hc

/-- a variable of tables at q; what it holds lies behind P, before T, and not at q. -/
structure DW (P q T : Nat) (ra : Option Addr) (n rc : Nat) (ss : List (Int × List Int)) (ta : Option Addr) (tn tc : Nat) (ts : List Int) (da : Option Addr) (dn dc : Nat) (ds : List Int) (X : World) : Prop where
  c0 : X.cell? ⟨q, 0, none⟩ = some (.slice ra n rc)
  c1 : X.cell? ⟨q, 1, none⟩ = some (.slice ta tn tc)
  c2 : X.cell? ⟨q, 2, none⟩ = some (.slice da dn dc)
  f : ∀ j, X.frozen? ⟨q, j, none⟩ = false
  o : TbS (fun k => P < k ∧ k ≠ q ∧ k < T) ra n ss ta tn ts da dn ds X
  lt : P < q ∧ q < T
  le : T ≤ X.heap.size

theorem DW.keep {P q T : Nat} {ra : Option Addr} {n rc : Nat} {ss : List (Int × List Int)} {ta : Option Addr} {tn tc : Nat} {ts : List Int} {da : Option Addr} {dn dc : Nat} {ds : List Int} {X Y : World} (h : DW P q T ra n rc ss ta tn tc ts da dn dc ds X) (hz : X.heap.size ≤ Y.heap.size) (hk : ∀ k, P < k → k < T → Y.heap[k]? = X.heap[k]?) : DW P q T ra n rc ss ta tn tc ts da dn dc ds Y := by
  have hq := hk q h.lt.1 h.lt.2
  exact ⟨(World.cell?_of_block (a := ⟨q, 0, none⟩) hq).trans h.c0, (World.cell?_of_block (a := ⟨q, 1, none⟩) hq).trans h.c1, (World.cell?_of_block (a := ⟨q, 2, none⟩) hq).trans h.c2, fun j => (World.frozen?_of_block (a := ⟨q, j, none⟩) hq).trans (h.f j), TbS.loc X Y (fun k hS _ => hk k hS.1 hS.2.2) h.o, h.lt, Nat.le_trans h.le hz⟩

theorem DW.below {P q T : Nat} {ra : Option Addr} {n rc : Nat} {ss : List (Int × List Int)} {ta : Option Addr} {tn tc : Nat} {ts : List Int} {da : Option Addr} {dn dc : Nat} {ds : List Int} {X Y : World} (h : DW P q T ra n rc ss ta tn tc ts da dn dc ds X) (hb : Below X.heap.size X Y) : DW P q T ra n rc ss ta tn tc ts da dn dc ds Y := h.keep hb.size (fun k _ hk => hb.block k (Nat.lt_of_lt_of_le hk h.le))

theorem DW.outside {P q T : Nat} {ra : Option Addr} {n rc : Nat} {ss : List (Int × List Int)} {ta : Option Addr} {tn tc : Nat} {ts : List Int} {da : Option Addr} {dn dc : Nat} {ds : List Int} {X Y : World} (h : DW P q T ra n rc ss ta tn tc ts da dn dc ds X) (ho : Outside P (P + 1) X Y) : DW P q T ra n rc ss ta tn tc ts da dn dc ds Y := h.keep ho.size (fun k hq hk => ho.block k (Nat.lt_of_lt_of_le hk h.le) (.inr hq))

theorem DW.set5 {P q T B : Nat} {ra : Option Addr} {n rc : Nat} {ss : List (Int × List Int)} {ta : Option Addr} {tn tc : Nat} {ts : List Int} {da : Option Addr} {dn dc : Nat} {ds : List Int} {X : World} (h : DW P q T ra n rc ss ta tn tc ts da dn dc ds X) (hB : T ≤ B) (v0 v1 v2 v3 v4 : Value) : DW P q T ra n rc ss ta tn tc ts da dn dc ds (((((X.setCell ⟨B, 0, none⟩ v0).setCell ⟨B, 1, none⟩ v1).setCell ⟨B, 2, none⟩ v2).setCell ⟨B, 3, none⟩ v3).setCell ⟨B, 4, none⟩ v4) :=
  h.keep (by simp) (fun k _ hk => heap_set5 X B v0 v1 v2 v3 v4 k (by omega))

theorem DW.alloc {P q T : Nat} {ra : Option Addr} {n rc : Nat} {ss : List (Int × List Int)} {ta : Option Addr} {tn tc : Nat} {ts : List Int} {da : Option Addr} {dn dc : Nat} {ds : List Int} {X : World} (h : DW P q T ra n rc ss ta tn tc ts da dn dc ds X) (o : Obj) : DW P q T ra n rc ss ta tn tc ts da dn dc ds (X.alloc o) := h.below ((Below.refl _ _).alloc (Nat.le_refl _) o)

theorem Mm.allocS {w X : World} {cs : List (Nat × Nat × Value)} {fs : List (Nat × Nat × (World → Prop))} (h : Mm w X cs fs) (o : Obj) : Mm w (X.alloc o) cs fs := h.below ((Below.refl _ _).alloc (Nat.le_refl _) o)

theorem Mm.set5S {w X : World} {cs : List (Nat × Nat × Value)} {B : Nat} (h : Mm w X cs []) (hb : w.heap.size ≤ B) (hc : ∀ c ∈ cs, c.1 ≠ B) (v0 v1 v2 v3 v4 : Value) : Mm w (((((X.setCell ⟨B, 0, none⟩ v0).setCell ⟨B, 1, none⟩ v1).setCell ⟨B, 2, none⟩ v2).setCell ⟨B, 3, none⟩ v3).setCell ⟨B, 4, none⟩ v4) cs [] :=
  ((((h.off v0 hb hc (by simp)).off v1 hb hc (by simp)).off v2 hb hc (by simp)).off v3 hb hc (by simp)).off v4 hb hc (by simp)

theorem DW.s3 {P q T : Nat} {ra : Option Addr} {n rc : Nat} {ss : List (Int × List Int)} {ta : Option Addr} {tn tc : Nat} {ts : List Int} {da : Option Addr} {dn dc : Nat} {ds : List Int} {X : World} (h : DW P q T ra n rc ss ta tn tc ts da dn dc ds X) : X.cell? ⟨q, 0, none⟩ = some (.slice ra n rc) ∧ X.cell? ⟨q, 1, none⟩ = some (.slice ta tn tc) ∧ X.cell? ⟨q, 2, none⟩ = some (.slice da dn dc) := ⟨h.c0, h.c1, h.c2⟩

theorem DW.wide {P q T : Nat} {ra : Option Addr} {n rc : Nat} {ss : List (Int × List Int)} {ta : Option Addr} {tn tc : Nat} {ts : List Int} {da : Option Addr} {dn dc : Nat} {ds : List Int} {X : World} (h : DW P q T ra n rc ss ta tn tc ts da dn dc ds X) : DW P q X.heap.size ra n rc ss ta tn tc ts da dn dc ds X := ⟨h.c0, h.c1, h.c2, h.f, h.o.mono (fun _ hk => ⟨hk.1, hk.2.1, Nat.lt_of_lt_of_le hk.2.2 h.le⟩), ⟨h.lt.1, Nat.lt_of_lt_of_le h.lt.2 h.le⟩, Nat.le_refl _⟩

theorem DW.put {P q : Nat} {ra : Option Addr} {n rc : Nat} {ss : List (Int × List Int)} {ta : Option Addr} {tn tc : Nat} {ts : List Int} {da : Option Addr} {dn dc : Nat} {ds : List Int} {X : World} {x0 x1 x2 : Value} {S : Nat → Prop} (h0 : X.cell? ⟨q, 0, none⟩ = some x0) (h1 : X.cell? ⟨q, 1, none⟩ = some x1) (h2 : X.cell? ⟨q, 2, none⟩ = some x2) (hf : ∀ j, X.frozen? ⟨q, j, none⟩ = false) (hP : P < q) (ho : TbS S ra n ss ta tn ts da dn ds X) (hS : ∀ k, S k → P < k ∧ k ≠ q ∧ k < X.heap.size) :
    DW P q X.heap.size ra n rc ss ta tn tc ts da dn dc ds (((X.setCell ⟨q, 0, none⟩ (.slice ra n rc)).setCell ⟨q, 1, none⟩ (.slice ta tn tc)).setCell ⟨q, 2, none⟩ (.slice da dn dc)) := by
  have hq := World.block_lt_of_cell? _ _ h0
  have hn : ¬ S q := fun e => (hS q e).2.1 rfl
  refine ⟨?_, ?_, ?_, fun j => by simpa using hf j, ?_, ⟨hP, by simpa using hq⟩, by simp⟩
  · rw [World.cell?_setCell_other _ _ _ _ (fun e => by injection e with _ e2; omega), World.cell?_setCell_other _ _ _ _ (fun e => by injection e with _ e2; omega)]
    exact World.cell?_setCell_same _ _ _ h0
  · rw [World.cell?_setCell_other _ _ _ _ (fun e => by injection e with _ e2; omega)]
    exact World.cell?_setCell_same _ _ _ ((World.cell?_setCell_other _ _ _ _ (fun e => by injection e with _ e2; omega)).trans h1)
  · exact World.cell?_setCell_same _ _ _ ((World.cell?_setCell_other _ _ _ _ (fun e => by injection e with _ e2; omega)).trans ((World.cell?_setCell_other _ _ _ _ (fun e => by injection e with _ e2; omega)).trans h2))
  · exact (TbS.loc.setC (TbS.loc.setC (TbS.loc.setC ho (q := ⟨q, 0, none⟩) hn _) (q := ⟨q, 1, none⟩) hn _) (q := ⟨q, 2, none⟩) hn _).mono hS

theorem OTW.set5T {S : Nat → Prop} {B : Nat} {a : Option Addr} {n : Nat} {ss : List (Int × List Int)} {ta : Option Addr} {tn tc : Nat} {ts : List Int} {da : Option Addr} {dn : Nat} {ds : List Int} {X : World} (h : OTW S a n ss ta tn tc ts da dn ds X) (hB : ¬ S B) (v0 v1 v2 v3 v4 : Value) : TbS S a n ss ta tn ts da dn ds (((((X.setCell ⟨B, 0, none⟩ v0).setCell ⟨B, 1, none⟩ v1).setCell ⟨B, 2, none⟩ v2).setCell ⟨B, 3, none⟩ v3).setCell ⟨B, 4, none⟩ v4) := loc_set5 TbS.loc h.tbS hB v0 v1 v2 v3 v4

theorem OTW.cutA {c b : Nat} {a : Option Addr} {n : Nat} {ss : List (Int × List Int)} {ta : Option Addr} {tn tc : Nat} {ts : List Int} {da : Option Addr} {dn : Nat} {ds : List Int} {X : World} (h : OTW (InR c X.heap.size) a n ss ta tn tc ts da dn ds X) (hc : b ≤ c) (o : Obj) : ∃ S : Nat → Prop, TbS S a n ss ta tn ts da dn ds (X.alloc o) ∧ ∀ k, S k → b ≤ k ∧ k < (X.alloc o).heap.size :=
  ⟨_, TbS.loc.alloc h.tbS o, fun k hk => ⟨by have := hk.1; omega, by have := hk.2; simp; omega⟩⟩

theorem OTW.cutS {c b B : Nat} {a : Option Addr} {n : Nat} {ss : List (Int × List Int)} {ta : Option Addr} {tn tc : Nat} {ts : List Int} {da : Option Addr} {dn : Nat} {ds : List Int} {X : World} (h : OTW (InR c X.heap.size) a n ss ta tn tc ts da dn ds X) (hc : b ≤ c) (hB : B < c) (v0 v1 v2 v3 v4 : Value) : ∃ S : Nat → Prop, TbS S a n ss ta tn ts da dn ds (((((X.setCell ⟨B, 0, none⟩ v0).setCell ⟨B, 1, none⟩ v1).setCell ⟨B, 2, none⟩ v2).setCell ⟨B, 3, none⟩ v3).setCell ⟨B, 4, none⟩ v4) ∧ ∀ k, S k → b ≤ k ∧ k < (((((X.setCell ⟨B, 0, none⟩ v0).setCell ⟨B, 1, none⟩ v1).setCell ⟨B, 2, none⟩ v2).setCell ⟨B, 3, none⟩ v3).setCell ⟨B, 4, none⟩ v4).heap.size :=
  ⟨_, OTW.set5T h (fun e => by have := e.1; omega) v0 v1 v2 v3 v4, fun k hk => ⟨by have := hk.1; omega, by have := hk.2; simpa using this⟩⟩

/-- what DrawAddTag gives. -/
def DrewAT (w : World) (e : Ending) (w' : World) : Prop :=
  ∃ (ra : Option Addr) (n rc : Nat) (ss : List (Int × List Int)) (ta : Option Addr) (tn tc : Nat) (ts : List Int) (da : Option Addr) (dn dc : Nat) (ds : List Int) (la : Option Addr) (ll lc : Nat) (zs : List Int), e = .returned (.tuple #[.agg #[.slice ra n rc, .slice ta tn tc, .slice da dn dc], .agg #[.slice la ll lc]]) ∧ TbS (InR w.heap.size w'.heap.size) ra n ss ta tn ts da dn ds w' ∧ FrS (InR w.heap.size w'.heap.size) la ll zs w' ∧ ll ≤ 1048576 ∧ Below w.heap.size w w'

theorem FrS.set4 {S S' : Nat → Prop} {a : Option Addr} {n : Nat} {xs : List Int} {X : World} {B C : Nat} (h : FrS S a n xs X) (hB : ¬ S B) (hC : ¬ S C) (hs : ∀ k, S k → S' k) (v0 v1 v2 v3 : Value) : FrS S' a n xs ((((X.setCell ⟨B, 0, none⟩ v0).setCell ⟨B, 1, none⟩ v1).setCell ⟨B, 2, none⟩ v2).setCell ⟨C, 0, none⟩ v3) :=
  (FrS.loc.setC (FrS.loc.setC (FrS.loc.setC (FrS.loc.setC h (q := ⟨B, 0, none⟩) hB v0) (q := ⟨B, 1, none⟩) hB v1) (q := ⟨B, 2, none⟩) hB v2) (q := ⟨C, 0, none⟩) hC v3).mono hs

theorem TbS.set4 {S S' : Nat → Prop} {a : Option Addr} {n : Nat} {ss : List (Int × List Int)} {ta : Option Addr} {tn : Nat} {ts : List Int} {da : Option Addr} {dn : Nat} {ds : List Int} {X : World} {B C : Nat} (h : TbS S a n ss ta tn ts da dn ds X) (hB : ¬ S B) (hC : ¬ S C) (hs : ∀ k, S k → S' k) (v0 v1 v2 v3 : Value) : TbS S' a n ss ta tn ts da dn ds ((((X.setCell ⟨B, 0, none⟩ v0).setCell ⟨B, 1, none⟩ v1).setCell ⟨B, 2, none⟩ v2).setCell ⟨C, 0, none⟩ v3) :=
  (TbS.loc.setC (TbS.loc.setC (TbS.loc.setC (TbS.loc.setC h (q := ⟨B, 0, none⟩) hB v0) (q := ⟨B, 1, none⟩) hB v1) (q := ⟨B, 2, none⟩) hB v2) (q := ⟨C, 0, none⟩) hC v3).mono hs

set_option maxRecDepth 100000 in
set_option maxHeartbeats 40000000 in
theorem drawAddTag_calls (a : Option Addr) (len cap : Nat) (w : World) (hc : Cd w a len) :
    Calls Try.prog 51 #[.slice a len cap] w (DrewAT w) := by
  have M0 := ((Mm.start w).alloc3 (.slice none 0 0) (.slice none 0 0) (.slice none 0 0) 36).alloc1 (.slice none 0 0) 41
  simp only [World.size_alloc] at M0
  have S0 := (hc.below M0.bel).src (cap := cap) 140
  have M1 := M0.below ((Below.refl _ _).alloc (Nat.le_refl _) (.cells #[.slice a len cap, .int .i64 0] 140))
  simp only [World.size_alloc] at S0
  clear M0
  go_enter Try.func51, Try.ntmps51
  go_wp2_with (go_at_call 91; refine (l1Source_calls a len cap _).mono ?_; rintro e w0 ⟨rfl, rfl⟩)
  refine (l3Bent_calls (w.heap.size + 1 + 1) a len cap 0 _ (by omega) S0).mono ?_
  rintro e w1 ⟨ra, n, rc, ss, ta, tn, tc, ts, da, dn, dc, ds, t1, rfl, tb, s1, ht1, u1⟩
  have z1 := u1.size
  simp only [World.size_alloc] at z1 tb
  have M2 := (M1.out (OutS.of_outside u1) (by omega) (by simp <;> omega) (by simp)).below ((Below.refl _ _).alloc (Nat.le_refl _) (.cells #[.slice ra n rc, .slice ta tn tc, .slice da dn dc] 36))
  have s1' := s1.below ((Below.refl _ _).alloc (Nat.le_refl _) (.cells #[.slice ra n rc, .slice ta tn tc, .slice da dn dc] 36))
  have V1 : DW (w.heap.size + 1 + 1) w1.heap.size (w1.heap.size + 1) ra n rc ss ta tn tc ts da dn dc ds (w1.alloc (.cells #[.slice ra n rc, .slice ta tn tc, .slice da dn dc] 36)) :=
    ⟨by simp, by simp, by simp, fun j => by simp, (TbS.loc.alloc tb _).mono (fun k hk => ⟨by have := hk.1; omega, by have := hk.2; omega, by have := hk.2; omega⟩), ⟨by omega, by omega⟩, by simp⟩
  have hq : w.heap.size + 1 + 1 < w1.heap.size := by omega
  clear M1 S0 u1 tb s1
  go_wp2_with fail
  refine (l1Next_calls (w.heap.size + 1 + 1) a len cap t1 4 _ (by omega) (by omega) (by omega) s1').mono ?_
  rintro e w2 ⟨r, rfl, r0, r1, s2, o2⟩
  have M3 := M2.out (OutS.of_outside o2) (by omega) (by simp <;> omega) (by simp)
  have V2 := (V1.outside o2).wide
  clear M2 V1 s1' o2
  obtain ⟨K, rfl⟩ : ∃ K : Nat, r = (K : Int) := ⟨r.toNat, by omega⟩
  have hK3 : K ≤ 3 := by omega
  go_wp2
  go_loopw [6] (fun i wr => ∃ (k : Nat) (ra : Option Addr) (n rc : Nat) (ss : List (Int × List Int)) (ta : Option Addr) (tn tc : Nat) (ts : List Int) (da : Option Addr) (dn dc : Nat) (ds : List Int) (t' : Nat), k ≤ 3 ∧ i = .int .i64 k ∧ DW (w.heap.size + 1 + 1) w1.heap.size wr.heap.size ra n rc ss ta tn tc ts da dn dc ds wr ∧ Src wr (w.heap.size + 1 + 1) a len cap t' ∧ t' + 4 * k ≤ t1 + 1 + 12 ∧ Mm w wr [(w.heap.size + 1, 0, .slice none 0 0), (w.heap.size, 0, .slice none 0 0), (w.heap.size, 1, .slice none 0 0), (w.heap.size, 2, .slice none 0 0)] []) (fun i _ => (intOf i).toNat)
  case atStart => exact ⟨K, _, _, _, _, _, _, _, _, _, _, _, _, t1 + 1, hK3, rfl, V2, s2, by omega, M3⟩
  case round =>
    clear M3 V2 s2 r0 r1
    obtain ⟨k, ra, n, rc, ss, ta, tn, tc, ts, da, dn, dc, ds, t', hk, rfl, V, src, htk, M⟩ := hrel
    by_cases hlt : 0 < k
    · have hlt' : (0 : Int) < (k : Int) := by omega
      have x0 := V.c0
      have x1 := V.c1
      have x2 := V.c2
      have HV := hide V
      have HSa := hide (src.below (Below.refl _ _).drew)
      have HSb := hide (src.below (((Below.refl wr.heap.size wr).alloc (Nat.le_refl _) (.cells #[.int .i64 0, .int .i64 0, .slice none 0 0, .slice none 0 0, .slice none 0 0] 38)).drew))
      have HOa := hide (Outside.drew (Outside.refl (w.heap.size + 1 + 1) (w.heap.size + 1 + 1 + 1) wr))
      have HOb := hide (Outside.drew (Outside.alloc (w.heap.size + 1 + 1) (w.heap.size + 1 + 1 + 1) wr (.cells #[.int .i64 0, .int .i64 0, .slice none 0 0, .slice none 0 0, .slice none 0 0] 38)))
      have HCa : Hid (Cs wr.heap.size [.int .i64 0, .int .i64 0, .slice none 0 0, .slice none 0 0, .slice none 0 0] (wr.alloc (.cells #[.int .i64 0, .int .i64 0, .slice none 0 0, .slice none 0 0, .slice none 0 0] 38)).drew) := Cs.loc.below (Below.refl _ _).drew (Cs.alloc wr _ _)
      have HJ0 := hide (HV.out.below (Below.refl _ _).drew).s3
      have HJ1 := hide (HV.out.below (((Below.refl wr.heap.size wr).alloc (Nat.le_refl _) (.cells #[.int .i64 0, .int .i64 0, .slice none 0 0, .slice none 0 0, .slice none 0 0] 38)).drew)).s3
      have HM := hide M
      have htt : t' ≤ 990000 := by omega
      have hqw := V.lt.2
      have hpw : w.heap.size + 1 + 1 < wr.heap.size := src.1
      clear V src M
      go_upto_region 6 with fail
      go_cut [7] (fun v wd => ∃ (B t3 : Nat) (zs : List Int) (ra' : Option Addr) (rn' rc' : Nat) (s' : List (Int × List Int)) (xa' : Option Addr) (xn' xc' : Nat) (x' : List Int) (ya' : Option Addr) (yn' yc' : Nat) (y' : List Int), v = .pointer (some ⟨B, 0, none⟩) ∧ wd.cell? ⟨B, 0, none⟩ = some (.int .i64 (agC ss ts ds zs)) ∧ wd.cell? ⟨B, 2, none⟩ = some (.slice ra' rn' rc') ∧ wd.cell? ⟨B, 3, none⟩ = some (.slice xa' xn' xc') ∧ wd.cell? ⟨B, 4, none⟩ = some (.slice ya' yn' yc') ∧ w1.heap.size < B ∧ DW (w.heap.size + 1 + 1) w1.heap.size wr.heap.size ra n rc ss ta tn tc ts da dn dc ds wd ∧ (∃ S : Nat → Prop, TbS S ra' rn' s' xa' xn' x' ya' yn' y' wd ∧ ∀ k, S k → wr.heap.size ≤ k ∧ k < wd.heap.size) ∧ Src wd (w.heap.size + 1 + 1) a len cap t3 ∧ t3 ≤ t' + 4 ∧ Mm w wd [(w.heap.size + 1, 0, .slice none 0 0), (w.heap.size, 0, .slice none 0 0), (w.heap.size, 1, .slice none 0 0), (w.heap.size, 2, .slice none 0 0)] [])
      case first =>
        go_region_held2 (fun W => W.cell? ⟨w1.heap.size, 0, none⟩ = some (.slice ra n rc) ∧ W.cell? ⟨w1.heap.size, 1, none⟩ = some (.slice ta tn tc) ∧ W.cell? ⟨w1.heap.size, 2, none⟩ = some (.slice da dn dc))
         (first | with_reducible assumption | with_reducible exact HJ0.out | with_reducible exact HJ1.out | with_reducible exact HV1.out.s3 | with_reducible exact (HV1.out.below ((Below.refl _ _).alloc (Nat.le_refl _) _)).s3 | with_reducible exact HV2.out.s3 | with_reducible exact (HV2.out.below ((Below.refl _ _).alloc (Nat.le_refl _) _)).s3 | with_reducible exact (HV2.out.set5 (by omega) _ _ _ _ _).s3)
         (first
          | (go_at_call 94; refine (l1Plain_calls (w.heap.size + 1 + 1) a len cap t' _ (by omega) ?_).mono ?_; (first | with_reducible exact HSa.out | with_reducible exact HSb.out); rintro e u1 ⟨la, lc, zs, rfl, hlc, ol, s1, o1⟩; have o1w : Outside (w.heap.size + 1 + 1) (w.heap.size + 1 + 1 + 1) wr u1 := (by first | with_reducible exact Outside.trans HOa.out o1 | with_reducible exact Outside.trans HOb.out o1); have V1 := HV.out.outside o1w; have y0 := V1.c0; have y1 := V1.c1; have y2 := V1.c2; have HV1 := hide V1; have HS1 := hide s1; have HM1 := hide (HM.out.out (OutS.of_outside o1w) (by omega) (by simp <;> omega) (by simp)); have HL1 := hide (OS.ofOSl ol).sl; have zu1 := o1.size; (try simp only [World.size_drew, World.size_alloc] at zu1); (try (have K1 := Cs.loc.out (OutS.of_outside o1) (fun j hj e => by have := hj.1; have := e.2; omega) HCa.out; have s0 := K1.cell 0 rfl; have HK1 := hide K1; clear K1 s0)); have zw1 := o1w.size; clear V1 s1 o1 ol)
          | (go_at_call 93; refine (specAddTagW_calls ra n rc ss ta tn tc ts da dn dc ds la 4 lc zs _ ?_ (by unfold maxLen; omega) ?_).mono ?_; (first | exact HV1.out.o.rt | exact (HV1.out.below ((Below.refl _ _).alloc (Nat.le_refl _) _)).o.rt); (first | exact HL1.out | exact HL1.out.below ((Below.refl _ _).alloc (Nat.le_refl _) _) (Nat.le_refl _)); rintro e u2 ⟨ra', rn', rc', xa', xn', xc', ya', yn', yc', rfl, ot, g2⟩; have gw : Below u1.heap.size u1 u2 := (by first | exact g2 | exact ((Below.refl _ _).alloc (Nat.le_refl _) _).trans (g2.mono (by simp))); have zu2 := gw.size; have zg2 := g2.size; (try simp only [World.size_alloc] at zg2 ot); have HV2 := hide (HV1.out.below gw); have HS2 := hide (HS1.out.below gw); have HM2 := hide (HM1.out.below gw); have HOT := hide ot; (try (have K2 := Cs.loc.below gw HK1.out; have s0 := K2.cell 0 rfl; have s1 := K2.cell 1 rfl; have s2 := K2.cell 2 rfl; have s3 := K2.cell 3 rfl; have s4 := K2.cell 4 rfl; have r0 := K2.fz 0 (by simp); have r1 := K2.fz 1 (by simp); have r2 := K2.fz 2 (by simp); have r3 := K2.fz 3 (by simp); have r4 := K2.fz 4 (by simp); clear K2)); (try (have K3 : Cs u1.heap.size [.int .i64 0, .int .i64 0, .slice none 0 0, .slice none 0 0, .slice none 0 0] u2 := Cs.loc.below g2 (Cs.alloc u1 _ _); have s0 := K3.cell 0 rfl; have s1 := K3.cell 1 rfl; have s2 := K3.cell 2 rfl; have s3 := K3.cell 3 rfl; have s4 := K3.cell 4 rfl; have r0 := K3.fz 0 (by simp); have r1 := K3.fz 1 (by simp); have r2 := K3.fz 2 (by simp); have r3 := K3.fz 3 (by simp); have r4 := K3.fz 4 (by simp); clear K3)); clear ot g2 gw))
        all_goals go_wp2_with fail
        all_goals go_meet
        all_goals (
          refine ⟨_, t' + 4, zs, ra', rn', rc', agS ss ts ds zs, xa', xn', xc', agT ss ts ds zs, ya', yn', yc', agD ss ts ds zs, rfl, ?c0, ?c2, ?c3, ?c4, ?lt, ?tv, ?ow, ?sr, Nat.le_refl _, ?mo⟩
          case lt => omega
          case c0 => first | (with_reducible exact al5_at0 _ _ _ _ _ _ _) | (with_reducible refine set5_at0 _ _ _ _ _ _ _ ?_; exact ⟨_, s0⟩)
          case c2 => first | (with_reducible exact al5_at2 _ _ _ _ _ _ _) | (with_reducible refine set5_at2 _ _ _ _ _ _ _ ?_; exact ⟨_, s2⟩)
          case c3 => first | (with_reducible exact al5_at3 _ _ _ _ _ _ _) | (with_reducible refine set5_at3 _ _ _ _ _ _ _ ?_; exact ⟨_, s3⟩)
          case c4 => first | (with_reducible exact al5_at4 _ _ _ _ _ _ _) | (with_reducible refine set5_at4 _ _ _ _ _ _ _ ?_; exact ⟨_, s4⟩)
          case tv => first | (with_reducible exact HV2.out.alloc _) | (with_reducible exact HV2.out.set5 (by omega) _ _ _ _ _)
          case ow => first | (with_reducible exact HOT.out.cutA (by omega) _) | (with_reducible exact HOT.out.cutS (by omega) (by omega) _ _ _ _ _)
          case sr => first | (with_reducible exact HS2.out.allocS _) | (with_reducible exact HS2.out.set5S (by omega) _ _ _ _ _)
          case mo => first | (with_reducible exact HM2.out.allocS _) | (with_reducible exact HM2.out.set5S (by omega) (by simp <;> omega) _ _ _ _ _))
      case rest =>
        obtain ⟨B, t3, zs, ra', rn', rc', s', xa', xn', xc', x', ya', yn', yc', y', rfl, c0, c2, c3, c4, hBq, V, ⟨S, ow, hS⟩, src, ht3, M⟩ := hcut
        obtain ⟨k', rfl⟩ : ∃ j, k = j + 1 := ⟨k - 1, by omega⟩
        have x0 := V.c0
        have x1 := V.c1
        have x2 := V.c2
        have f0 := V.f 0
        have f1 := V.f 1
        have f2 := V.f 2
        have lq : w1.heap.size < wc.heap.size := (by have := V.lt; have := V.le; omega)
        have lB := World.block_lt_of_cell? _ _ c0
        by_cases hz : agC ss ts ds zs = 0
        · have ez : (agC ss ts ds zs == 0) = true := by simpa using hz
          have HV := hide (DW.put (rc := rc') (tc := xc') (dc := yc') V.c0 V.c1 V.c2 V.f hq ow (fun k hk => ⟨by have := (hS k hk).1; omega, by have := (hS k hk).1; omega, (hS k hk).2⟩))
          have HS := hide (((src.setCell (q := ⟨w1.heap.size, 0, none⟩) hq (.slice ra' rn' rc')).setCell (q := ⟨w1.heap.size, 1, none⟩) hq (.slice xa' xn' xc')).setCell (q := ⟨w1.heap.size, 2, none⟩) hq (.slice ya' yn' yc'))
          have HMM := hide (((M.off (P := w1.heap.size) (o := 0) (.slice ra' rn' rc') (by omega) (by simp <;> omega) (by simp)).off (P := w1.heap.size) (o := 1) (.slice xa' xn' xc') (by omega) (by simp <;> omega) (by simp)).off (P := w1.heap.size) (o := 2) (.slice ya' yn' yc') (by omega) (by simp <;> omega) (by simp))
          clear V M src ow hz hS
          go_wp2
          go_roundw
          case rel => exact ⟨k', _, _, _, _, _, _, _, _, _, _, _, _, t3, by omega, by go_num, HV.out.wide, HS.out, by omega, HMM.out⟩
          case measure => simp [intOf]
        · have ez : (agC ss ts ds zs == 0) = false := by simpa using hz
          have HV := hide V.wide
          have HS := hide src
          have HMM := hide M
          clear V M src ow hz hS
          go_wp2
          go_roundw
          case rel => exact ⟨k', _, _, _, _, _, _, _, _, _, _, _, _, t3, by omega, by go_num, HV.out, HS.out, by omega, HMM.out⟩
          case measure => simp [intOf]
    · have hk0 : k = 0 := by omega
      subst hk0
      have hlt' : ¬ (0 : Int) < 0 := by omega
      have x0 := V.c0
      have x1 := V.c1
      have x2 := V.c2
      have HV := hide V
      have HM := hide M
      have HSa := hide (src.below (Below.refl _ _).drew)
      have HJ0 := hide (V.below (Below.refl _ _).drew).s3
      have hqw := V.lt.2
      clear V src M
      go_upto_region 9 with fail
      go_region_held2 (fun W => W.cell? ⟨w1.heap.size, 0, none⟩ = some (.slice ra n rc) ∧ W.cell? ⟨w1.heap.size, 1, none⟩ = some (.slice ta tn tc) ∧ W.cell? ⟨w1.heap.size, 2, none⟩ = some (.slice da dn dc))
        (first | with_reducible assumption | with_reducible exact HJ0.out | with_reducible exact HV1.out.s3 | (refine ⟨?_, ?_, ?_⟩ <;> (repeat (with_reducible refine keepC (by omega) ?_)) <;> first | with_reducible exact HV1.out.c0 | with_reducible exact HV1.out.c1 | with_reducible exact HV1.out.c2))
        (first
          | (go_at_call 95; refine (l1Bent_calls (w.heap.size + 1 + 1) a len cap t' _ (by omega) HSa.out).mono ?_; rintro e u1 ⟨la, ll, lc, zs, t3, rfl, fr, s1, ht3, o1⟩; have o1w : Outside (w.heap.size + 1 + 1) (w.heap.size + 1 + 1 + 1) wr u1 := Outside.trans (Outside.drew (Outside.refl (w.heap.size + 1 + 1) (w.heap.size + 1 + 1 + 1) wr)) o1; have HV1 := hide (HV.out.outside o1w); have y3 := HV1.out.s3; have M1 := HM.out.out (OutS.of_outside o1w) (by omega) (by simp <;> omega) (by simp); have c0 := M1.cell 0 rfl; have c1 := M1.cell 1 rfl; have c2 := M1.cell 2 rfl; have c3 := M1.cell 3 rfl; have f0 := M1.fz 0 rfl; have f1 := M1.fz 1 rfl; have f2 := M1.fz 2 rfl; have f3 := M1.fz 3 rfl; have HM1 := hide M1; have HF1 := hide fr.frS; have hll : ll ≤ 1048576 := (by have := fr.2.1; omega); have zu1 := o1.size; (try simp only [World.size_drew] at zu1 HF1); clear M1 s1 o1 fr o1w))
      have HD1 := hide HV1.out.o
      go_wp2
      refine bodyPost_ret (v := .tuple #[.agg #[.slice ra n rc, .slice ta tn tc, .slice da dn dc], .agg #[.slice la ll lc]]) (by simp [results, Try.results51, go_sem, c0, c1, c2, c3]) rfl ⟨ra, n, rc, ss, ta, tn, tc, ts, da, dn, dc, ds, la, ll, lc, zs, rfl, TbS.set4 HD1.out (fun e => by have := e.1; omega) (fun e => by have := e.1; omega) (fun k hk => ⟨by have := hk.1; omega, by have := hk.2.2; simp; omega⟩) _ _ _ _, FrS.set4 HF1.out (fun e => by have := e.1; omega) (fun e => by have := e.1; omega) (fun k hk => ⟨by have := hk.1; omega, by have := hk.2; simpa using this⟩) _ _ _ _, hll, (((HM1.out.bel.setCell (by simp) _).setCell (by simp) _).setCell (by simp) _).setCell (by simp) _⟩

set_option maxRecDepth 100000 in
theorem l1Later_calls (a : Option Addr) (len cap : Nat) (w : World) :
    Calls Try.prog 52 #[.slice a len cap, .int .i64 3] w fun e w' => e = .returned (.pointer (some ⟨w.heap.size, 0, none⟩)) ∧ w' = w.alloc (.cells #[.slice a len cap, .int .i64 26] 140) := by
  go_enter Try.func52, Try.ntmps52
  go_wp2
  go_ret
  exact ⟨rfl, rfl⟩

theorem Cd.src26 {w : World} {a : Option Addr} {len cap : Nat} (h : Cd w a len) (t : TypeId) : Src (w.alloc (.cells #[.slice a len cap, .int .i64 26] t)) w.heap.size a len cap 26 :=
  ⟨by simp, by simp, by simp, by simp, h.1, fun hp => by
    obtain ⟨b, off, e, h1, h2⟩ := h.2 hp
    exact ⟨b, off, e, h1, fun i hi => by obtain ⟨v, v0, v1, hv⟩ := h2 i hi; exact ⟨v, v0, v1, (World.cell?_alloc_past _ _ _ h1).trans hv⟩⟩⟩

/-- what DrawTaintDomain gives. -/
def DrewTD (w : World) (e : Ending) (w' : World) : Prop :=
  ∃ (ra : Option Addr) (n rc : Nat) (ss : List (Int × List Int)) (ta : Option Addr) (tn tc : Nat) (ts : List Int) (da : Option Addr) (dn dc : Nat) (ds : List Int) (x : Int) (la : Option Addr) (ll lc : Nat) (zs : List Int), e = .returned (.tuple #[.agg #[.slice ra n rc, .slice ta tn tc, .slice da dn dc], .int .i64 x, .agg #[.slice la ll lc]]) ∧ TbS (InR w.heap.size w'.heap.size) ra n ss ta tn ts da dn ds w' ∧ FrS (InR w.heap.size w'.heap.size) la ll zs w' ∧ ll ≤ 1048576 ∧ Below w.heap.size w w'

set_option maxRecDepth 100000 in
set_option maxHeartbeats 4000000 in
theorem drawTaintDomain_calls (a : Option Addr) (len cap : Nat) (w : World) (hc : Cd w a len) :
    Calls Try.prog 19 #[.slice a len cap] w (DrewTD w) := by
  have M0 := ((Mm.start w).alloc3 (.slice none 0 0) (.slice none 0 0) (.slice none 0 0) 36).alloc1 (.slice none 0 0) 41
  simp only [World.size_alloc] at M0
  go_enter Try.func19, Try.ntmps19
  go_wp2_with fail
  refine (drawAddTag_calls a len cap _ (hc.below M0.bel)).mono ?_
  rintro e w1 ⟨ra, n, rc, ss, ta, tn, tc, ts, da, dn, dc, ds, la, ll, lc, zs, rfl, tb, fr, hll, g1⟩
  have z1 := g1.size
  simp only [World.size_alloc] at z1 tb fr
  have M1 := ((((M0.below g1).fact TbS.loc tb).fact FrS.loc fr).alloc3 (.slice ra n rc) (.slice ta tn tc) (.slice da dn dc) 36).alloc1 (.slice la ll lc) 41
  simp only [World.size_alloc] at M1
  have S1 := (hc.below M1.bel).src26 (cap := cap) 140
  have M2 := M1.allocS (.cells #[.slice a len cap, .int .i64 26] 140)
  simp only [World.size_alloc] at S1
  clear M0 M1 g1 tb fr
  go_wp2_with (go_at_call 52; refine (l1Later_calls a len cap _).mono ?_; rintro e w0 ⟨rfl, rfl⟩)
  obtain ⟨X, hX⟩ : ∃ x, x = ((w1.alloc (.cells #[.slice ra n rc, .slice ta tn tc, .slice da dn dc] 36)).alloc (.cells #[.slice la ll lc] 41)).alloc (.cells #[.slice a len cap, .int .i64 26] 140) := ⟨_, rfl⟩
  have hXz : X.heap.size = w1.heap.size + 1 + 1 + 1 := by rw [hX]; simp
  rw [← hX] at M2 S1
  have HX := hide hX
  have SX := hide S1.drew
  have HM := hide M2
  have HS0 : Hid (X.drew.cell? ⟨w1.heap.size, 0, none⟩ = some (.slice ra n rc) ∧ X.drew.cell? ⟨w1.heap.size, 1, none⟩ = some (.slice ta tn tc) ∧ X.drew.cell? ⟨w1.heap.size, 2, none⟩ = some (.slice da dn dc) ∧ X.drew.cell? ⟨w1.heap.size + 1, 0, none⟩ = some (.slice la ll lc)) := ⟨M2.cell 1 rfl, M2.cell 2 rfl, M2.cell 3 rfl, M2.cell 0 rfl⟩
  have HXz := hide hXz
  clear M2 S1 hX hXz
  go_upto_region 3 with fail
  rw [← HX.out]
  go_region_held2 (fun W => W.cell? ⟨w1.heap.size, 0, none⟩ = some (.slice ra n rc) ∧ W.cell? ⟨w1.heap.size, 1, none⟩ = some (.slice ta tn tc) ∧ W.cell? ⟨w1.heap.size, 2, none⟩ = some (.slice da dn dc) ∧ W.cell? ⟨w1.heap.size + 1, 0, none⟩ = some (.slice la ll lc))
    (first | with_reducible assumption | with_reducible exact HS0.out | with_reducible exact h3 | (refine ⟨?_, ?_, ?_, ?_⟩ <;> (repeat (with_reducible refine keepC (by omega) ?_)) <;> first | with_reducible exact h3.1 | with_reducible exact h3.2.1 | with_reducible exact h3.2.2.1 | with_reducible exact h3.2.2.2))
    (first
      | (go_at_call 53; refine (l1Next_calls (w1.heap.size + 1 + 1) a len cap 26 5 _ (by omega) (by omega) (by omega) SX.out).mono ?_; rintro e u1 ⟨j, rfl, j0, j1, s3, u3⟩; have hw2 : IntKind.i64.wrap (j - 1) = j - 1 := (by rw [IntKind.wrap_i64]; omega); have M4 := HM.out.drew.out (OutS.of_outside u3) (by omega) (by simp <;> omega) (by simp <;> omega); have h3 : u1.cell? ⟨w1.heap.size, 0, none⟩ = some (.slice ra n rc) ∧ u1.cell? ⟨w1.heap.size, 1, none⟩ = some (.slice ta tn tc) ∧ u1.cell? ⟨w1.heap.size, 2, none⟩ = some (.slice da dn dc) ∧ u1.cell? ⟨w1.heap.size + 1, 0, none⟩ = some (.slice la ll lc) := ⟨M4.cell 1 rfl, M4.cell 2 rfl, M4.cell 3 rfl, M4.cell 0 rfl⟩; have z3 : X.heap.size ≤ u1.heap.size := u3.size; have c0 := M4.cell 4 rfl; have c1 := M4.cell 5 rfl; have c2 := M4.cell 6 rfl; have c3 := M4.cell 7 rfl; have f0 := M4.fz 4 rfl; have f1 := M4.fz 5 rfl; have f2 := M4.fz 6 rfl; have f3 := M4.fz 7 rfl; have HM4 := hide M4; clear M4 s3 u3))
  all_goals (
    have hz := HXz.out
    go_wp2
    exact bodyPost_ret (v := .tuple #[.agg #[.slice ra n rc, .slice ta tn tc, .slice da dn dc], .int .i64 (j - 1), .agg #[.slice la ll lc]]) (by simp [results, Try.results19, go_sem, c0, c1, c2, c3]) rfl ⟨ra, n, rc, ss, ta, tn, tc, ts, da, dn, dc, ds, j - 1, la, ll, lc, zs, rfl, TbS.set4 (HM4.out.get 1 rfl) (fun e => by have := e.1; omega) (fun e => by have := e.1; omega) (fun k hk => ⟨by have := hk.1; omega, by have := hk.2; simp; omega⟩) _ _ _ _, FrS.set4 (HM4.out.get 0 rfl) (fun e => by have := e.1; omega) (fun e => by have := e.1; omega) (fun k hk => ⟨by have := hk.1; omega, by have := hk.2; simp; omega⟩) _ _ _ _, hll, (((HM4.out.bel.setCell (by simp) _).setCell (by simp) _).setCell (by simp) _).setCell (by simp) _⟩)

set_option maxRecDepth 100000 in
theorem lwBig_calls (a : Option Addr) (len cap : Nat) (w : World) (_hl : len ≤ maxLen) :
    Calls Try.prog 18 #[.slice a len cap] w fun e w' => e = .returned (.bool (decide (1048576 < (len : Int)))) ∧ w' = w := by
  go_enter Try.func18, Try.ntmps18
  go_wp2
  go_ret
  exact ⟨rfl, rfl⟩

set_option maxRecDepth 100000 in
theorem lwNums_calls (a b : Option Addr) (la ca lb cb : Nat) (xs ys : List Int) (w : World) (hla : la ≤ maxLen) (hlb : lb ≤ maxLen) (hx : Sl w a la xs) (hy : Sl w b lb ys) :
    Calls Try.prog 22 #[.slice a la ca, .slice b lb cb] w fun e w' => e = .returned (.bool (decide (xs = ys))) ∧ Below w.heap.size w w' := by
  unfold maxLen at hla hlb
  obtain ⟨hxl, hx⟩ := hx
  obtain ⟨hyl, hy⟩ := hy
  by_cases hne : la = lb
  · subst hne
    have hn : ((la : Int) == (la : Int)) = true := by simp
    · go_enter Try.func22, Try.ntmps22
      go_wp2
      go_loopw [5] (fun i wr => ∃ k : Nat, k ≤ la ∧ i = .int .i64 k ∧ Below w.heap.size w wr ∧ ∀ j, j < k → gt xs j = gt ys j) (fun i _ => la - (intOf i).toNat)
      case atStart => exact ⟨0, Nat.zero_le _, rfl, Below.refl _ _, fun j hj => by omega⟩
      case round =>
        obtain ⟨k, hk, rfl, hbel, hall⟩ := hrel
        have Hall : Hid (∀ j, j < k → gt xs j = gt ys j) := hall
        clear hall
        by_cases hlt : k < la
        · obtain ⟨b1, o1, rfl, hb1, hc1⟩ := hx (by omega)
          obtain ⟨b2, o2, rfl, hb2, hc2⟩ := hy (by omega)
          have hck1 := (hbel.cell (p := ⟨b1, o1 + k, none⟩) hb1).trans (hc1 k hlt)
          have hck2 := (hbel.cell (p := ⟨b2, o2 + k, none⟩) hb2).trans (hc2 k hlt)
          have hki : (k : Int) < (la : Int) := by omega
          by_cases he : gt xs k = gt ys k
          · have hbq : (gt xs k != gt ys k) = false := by simp [he]
            have He : Hid (gt xs k = gt ys k) := he
            clear he
            go_wp2_with fail
            go_quiet (fail)
            go_wp2
            go_roundw
            case rel => exact ⟨k + 1, by omega, by go_num, bdrewN hbel _, fun j hj => by (by_cases e : j = k); (subst e; exact He.out); exact Hall.out j (by omega)⟩
            case measure => simp [intOf]; omega
          · have hbq : (gt xs k != gt ys k) = true := by simp [he]
            go_wp2_with fail
            go_quiet (fail)
            go_wp2
            go_ret
            exact ⟨ret_bool (by simp; intro e; exact he (by rw [e])), bdrewN hbel _⟩
        · go_wp2
          go_ret
          exact ⟨ret_bool (by simp; exact getD_ext (by omega) (fun i hi => Hall.out i (by omega))), hbel⟩
  · have hn : ((la : Int) == (lb : Int)) = false := by simp; omega
    go_enter Try.func22, Try.ntmps22
    go_wp2
    go_ret
    exact ⟨ret_bool (by simp; intro e; rw [e] at hxl; omega), Below.refl _ _⟩

theorem q5_bel {W X : World} {A0 A1 A2 A3 A4 : Addr} {v0 v1 v2 v3 v4 : Value} (h : X.cell? A0 = some v0 ∧ X.cell? A1 = some v1 ∧ X.cell? A2 = some v2 ∧ X.cell? A3 = some v3 ∧ X.cell? A4 = some v4 ∧ Below W.heap.size W X) : Below W.heap.size W X := h.2.2.2.2.2

theorem q5_below {W X Y : World} {A0 A1 A2 A3 A4 : Addr} {v0 v1 v2 v3 v4 : Value} (h0 : A0.block < W.heap.size) (h1 : A1.block < W.heap.size) (h2 : A2.block < W.heap.size) (h3 : A3.block < W.heap.size) (h4 : A4.block < W.heap.size) (h : X.cell? A0 = some v0 ∧ X.cell? A1 = some v1 ∧ X.cell? A2 = some v2 ∧ X.cell? A3 = some v3 ∧ X.cell? A4 = some v4 ∧ Below W.heap.size W X) (g : Below X.heap.size X Y) : Y.cell? A0 = some v0 ∧ Y.cell? A1 = some v1 ∧ Y.cell? A2 = some v2 ∧ Y.cell? A3 = some v3 ∧ Y.cell? A4 = some v4 ∧ Below W.heap.size W Y := by
  have hz := (h.2.2.2.2.2).size
  exact ⟨(g.cell (by omega)).trans h.1, (g.cell (by omega)).trans h.2.1, (g.cell (by omega)).trans h.2.2.1, (g.cell (by omega)).trans h.2.2.2.1, (g.cell (by omega)).trans h.2.2.2.2.1, (h.2.2.2.2.2).trans (g.mono hz)⟩

theorem q5_alloc {W X : World} {A0 A1 A2 A3 A4 : Addr} {v0 v1 v2 v3 v4 : Value} (h0 : A0.block < W.heap.size) (h1 : A1.block < W.heap.size) (h2 : A2.block < W.heap.size) (h3 : A3.block < W.heap.size) (h4 : A4.block < W.heap.size) (h : X.cell? A0 = some v0 ∧ X.cell? A1 = some v1 ∧ X.cell? A2 = some v2 ∧ X.cell? A3 = some v3 ∧ X.cell? A4 = some v4 ∧ Below W.heap.size W X) (o : Obj) : (X.alloc o).cell? A0 = some v0 ∧ (X.alloc o).cell? A1 = some v1 ∧ (X.alloc o).cell? A2 = some v2 ∧ (X.alloc o).cell? A3 = some v3 ∧ (X.alloc o).cell? A4 = some v4 ∧ Below W.heap.size W (X.alloc o) := q5_below h0 h1 h2 h3 h4 h ((Below.refl _ _).alloc (Nat.le_refl _) o)

theorem q5_allocd {W X : World} {A0 A1 A2 A3 A4 : Addr} {v0 v1 v2 v3 v4 : Value} (h0 : A0.block < W.heap.size) (h1 : A1.block < W.heap.size) (h2 : A2.block < W.heap.size) (h3 : A3.block < W.heap.size) (h4 : A4.block < W.heap.size) (h : X.drew.cell? A0 = some v0 ∧ X.drew.cell? A1 = some v1 ∧ X.drew.cell? A2 = some v2 ∧ X.drew.cell? A3 = some v3 ∧ X.drew.cell? A4 = some v4 ∧ Below W.heap.size W X.drew) (o : Obj) : (X.alloc o).drew.cell? A0 = some v0 ∧ (X.alloc o).drew.cell? A1 = some v1 ∧ (X.alloc o).drew.cell? A2 = some v2 ∧ (X.alloc o).drew.cell? A3 = some v3 ∧ (X.alloc o).drew.cell? A4 = some v4 ∧ Below W.heap.size W (X.alloc o).drew := q5_alloc h0 h1 h2 h3 h4 h o

theorem q5_set {W X : World} {A0 A1 A2 A3 A4 : Addr} {v0 v1 v2 v3 v4 : Value} (h0 : A0.block < W.heap.size) (h1 : A1.block < W.heap.size) (h2 : A2.block < W.heap.size) (h3 : A3.block < W.heap.size) (h4 : A4.block < W.heap.size) (h : X.cell? A0 = some v0 ∧ X.cell? A1 = some v1 ∧ X.cell? A2 = some v2 ∧ X.cell? A3 = some v3 ∧ X.cell? A4 = some v4 ∧ Below W.heap.size W X) {p : Addr} (hp : W.heap.size ≤ p.block) (y : Value) : (X.setCell p y).cell? A0 = some v0 ∧ (X.setCell p y).cell? A1 = some v1 ∧ (X.setCell p y).cell? A2 = some v2 ∧ (X.setCell p y).cell? A3 = some v3 ∧ (X.setCell p y).cell? A4 = some v4 ∧ Below W.heap.size W (X.setCell p y) :=
  ⟨(World.cell?_setCell_other _ _ _ _ (fun e => by rw [e] at hp; omega)).trans h.1, (World.cell?_setCell_other _ _ _ _ (fun e => by rw [e] at hp; omega)).trans h.2.1, (World.cell?_setCell_other _ _ _ _ (fun e => by rw [e] at hp; omega)).trans h.2.2.1, (World.cell?_setCell_other _ _ _ _ (fun e => by rw [e] at hp; omega)).trans h.2.2.2.1, (World.cell?_setCell_other _ _ _ _ (fun e => by rw [e] at hp; omega)).trans h.2.2.2.2.1, (h.2.2.2.2.2).setCell hp y⟩

theorem q6_bel {W X : World} {A0 A1 A2 A3 A4 A5 : Addr} {v0 v1 v2 v3 v4 v5 : Value} (h : X.cell? A0 = some v0 ∧ X.cell? A1 = some v1 ∧ X.cell? A2 = some v2 ∧ X.cell? A3 = some v3 ∧ X.cell? A4 = some v4 ∧ X.cell? A5 = some v5 ∧ Below W.heap.size W X) : Below W.heap.size W X := h.2.2.2.2.2.2

theorem q6_below {W X Y : World} {A0 A1 A2 A3 A4 A5 : Addr} {v0 v1 v2 v3 v4 v5 : Value} (h0 : A0.block < W.heap.size) (h1 : A1.block < W.heap.size) (h2 : A2.block < W.heap.size) (h3 : A3.block < W.heap.size) (h4 : A4.block < W.heap.size) (h5 : A5.block < W.heap.size) (h : X.cell? A0 = some v0 ∧ X.cell? A1 = some v1 ∧ X.cell? A2 = some v2 ∧ X.cell? A3 = some v3 ∧ X.cell? A4 = some v4 ∧ X.cell? A5 = some v5 ∧ Below W.heap.size W X) (g : Below X.heap.size X Y) : Y.cell? A0 = some v0 ∧ Y.cell? A1 = some v1 ∧ Y.cell? A2 = some v2 ∧ Y.cell? A3 = some v3 ∧ Y.cell? A4 = some v4 ∧ Y.cell? A5 = some v5 ∧ Below W.heap.size W Y := by
  have hz := (h.2.2.2.2.2.2).size
  exact ⟨(g.cell (by omega)).trans h.1, (g.cell (by omega)).trans h.2.1, (g.cell (by omega)).trans h.2.2.1, (g.cell (by omega)).trans h.2.2.2.1, (g.cell (by omega)).trans h.2.2.2.2.1, (g.cell (by omega)).trans h.2.2.2.2.2.1, (h.2.2.2.2.2.2).trans (g.mono hz)⟩

theorem q6_alloc {W X : World} {A0 A1 A2 A3 A4 A5 : Addr} {v0 v1 v2 v3 v4 v5 : Value} (h0 : A0.block < W.heap.size) (h1 : A1.block < W.heap.size) (h2 : A2.block < W.heap.size) (h3 : A3.block < W.heap.size) (h4 : A4.block < W.heap.size) (h5 : A5.block < W.heap.size) (h : X.cell? A0 = some v0 ∧ X.cell? A1 = some v1 ∧ X.cell? A2 = some v2 ∧ X.cell? A3 = some v3 ∧ X.cell? A4 = some v4 ∧ X.cell? A5 = some v5 ∧ Below W.heap.size W X) (o : Obj) : (X.alloc o).cell? A0 = some v0 ∧ (X.alloc o).cell? A1 = some v1 ∧ (X.alloc o).cell? A2 = some v2 ∧ (X.alloc o).cell? A3 = some v3 ∧ (X.alloc o).cell? A4 = some v4 ∧ (X.alloc o).cell? A5 = some v5 ∧ Below W.heap.size W (X.alloc o) := q6_below h0 h1 h2 h3 h4 h5 h ((Below.refl _ _).alloc (Nat.le_refl _) o)

theorem q6_allocd {W X : World} {A0 A1 A2 A3 A4 A5 : Addr} {v0 v1 v2 v3 v4 v5 : Value} (h0 : A0.block < W.heap.size) (h1 : A1.block < W.heap.size) (h2 : A2.block < W.heap.size) (h3 : A3.block < W.heap.size) (h4 : A4.block < W.heap.size) (h5 : A5.block < W.heap.size) (h : X.drew.cell? A0 = some v0 ∧ X.drew.cell? A1 = some v1 ∧ X.drew.cell? A2 = some v2 ∧ X.drew.cell? A3 = some v3 ∧ X.drew.cell? A4 = some v4 ∧ X.drew.cell? A5 = some v5 ∧ Below W.heap.size W X.drew) (o : Obj) : (X.alloc o).drew.cell? A0 = some v0 ∧ (X.alloc o).drew.cell? A1 = some v1 ∧ (X.alloc o).drew.cell? A2 = some v2 ∧ (X.alloc o).drew.cell? A3 = some v3 ∧ (X.alloc o).drew.cell? A4 = some v4 ∧ (X.alloc o).drew.cell? A5 = some v5 ∧ Below W.heap.size W (X.alloc o).drew := q6_alloc h0 h1 h2 h3 h4 h5 h o

theorem q6_set {W X : World} {A0 A1 A2 A3 A4 A5 : Addr} {v0 v1 v2 v3 v4 v5 : Value} (h0 : A0.block < W.heap.size) (h1 : A1.block < W.heap.size) (h2 : A2.block < W.heap.size) (h3 : A3.block < W.heap.size) (h4 : A4.block < W.heap.size) (h5 : A5.block < W.heap.size) (h : X.cell? A0 = some v0 ∧ X.cell? A1 = some v1 ∧ X.cell? A2 = some v2 ∧ X.cell? A3 = some v3 ∧ X.cell? A4 = some v4 ∧ X.cell? A5 = some v5 ∧ Below W.heap.size W X) {p : Addr} (hp : W.heap.size ≤ p.block) (y : Value) : (X.setCell p y).cell? A0 = some v0 ∧ (X.setCell p y).cell? A1 = some v1 ∧ (X.setCell p y).cell? A2 = some v2 ∧ (X.setCell p y).cell? A3 = some v3 ∧ (X.setCell p y).cell? A4 = some v4 ∧ (X.setCell p y).cell? A5 = some v5 ∧ Below W.heap.size W (X.setCell p y) :=
  ⟨(World.cell?_setCell_other _ _ _ _ (fun e => by rw [e] at hp; omega)).trans h.1, (World.cell?_setCell_other _ _ _ _ (fun e => by rw [e] at hp; omega)).trans h.2.1, (World.cell?_setCell_other _ _ _ _ (fun e => by rw [e] at hp; omega)).trans h.2.2.1, (World.cell?_setCell_other _ _ _ _ (fun e => by rw [e] at hp; omega)).trans h.2.2.2.1, (World.cell?_setCell_other _ _ _ _ (fun e => by rw [e] at hp; omega)).trans h.2.2.2.2.1, (World.cell?_setCell_other _ _ _ _ (fun e => by rw [e] at hp; omega)).trans h.2.2.2.2.2.1, (h.2.2.2.2.2.2).setCell hp y⟩

theorem q7_bel {W X : World} {A0 A1 A2 A3 A4 A5 A6 : Addr} {v0 v1 v2 v3 v4 v5 v6 : Value} (h : X.cell? A0 = some v0 ∧ X.cell? A1 = some v1 ∧ X.cell? A2 = some v2 ∧ X.cell? A3 = some v3 ∧ X.cell? A4 = some v4 ∧ X.cell? A5 = some v5 ∧ X.cell? A6 = some v6 ∧ Below W.heap.size W X) : Below W.heap.size W X := h.2.2.2.2.2.2.2

theorem q7_below {W X Y : World} {A0 A1 A2 A3 A4 A5 A6 : Addr} {v0 v1 v2 v3 v4 v5 v6 : Value} (h0 : A0.block < W.heap.size) (h1 : A1.block < W.heap.size) (h2 : A2.block < W.heap.size) (h3 : A3.block < W.heap.size) (h4 : A4.block < W.heap.size) (h5 : A5.block < W.heap.size) (h6 : A6.block < W.heap.size) (h : X.cell? A0 = some v0 ∧ X.cell? A1 = some v1 ∧ X.cell? A2 = some v2 ∧ X.cell? A3 = some v3 ∧ X.cell? A4 = some v4 ∧ X.cell? A5 = some v5 ∧ X.cell? A6 = some v6 ∧ Below W.heap.size W X) (g : Below X.heap.size X Y) : Y.cell? A0 = some v0 ∧ Y.cell? A1 = some v1 ∧ Y.cell? A2 = some v2 ∧ Y.cell? A3 = some v3 ∧ Y.cell? A4 = some v4 ∧ Y.cell? A5 = some v5 ∧ Y.cell? A6 = some v6 ∧ Below W.heap.size W Y := by
  have hz := (h.2.2.2.2.2.2.2).size
  exact ⟨(g.cell (by omega)).trans h.1, (g.cell (by omega)).trans h.2.1, (g.cell (by omega)).trans h.2.2.1, (g.cell (by omega)).trans h.2.2.2.1, (g.cell (by omega)).trans h.2.2.2.2.1, (g.cell (by omega)).trans h.2.2.2.2.2.1, (g.cell (by omega)).trans h.2.2.2.2.2.2.1, (h.2.2.2.2.2.2.2).trans (g.mono hz)⟩

theorem q7_alloc {W X : World} {A0 A1 A2 A3 A4 A5 A6 : Addr} {v0 v1 v2 v3 v4 v5 v6 : Value} (h0 : A0.block < W.heap.size) (h1 : A1.block < W.heap.size) (h2 : A2.block < W.heap.size) (h3 : A3.block < W.heap.size) (h4 : A4.block < W.heap.size) (h5 : A5.block < W.heap.size) (h6 : A6.block < W.heap.size) (h : X.cell? A0 = some v0 ∧ X.cell? A1 = some v1 ∧ X.cell? A2 = some v2 ∧ X.cell? A3 = some v3 ∧ X.cell? A4 = some v4 ∧ X.cell? A5 = some v5 ∧ X.cell? A6 = some v6 ∧ Below W.heap.size W X) (o : Obj) : (X.alloc o).cell? A0 = some v0 ∧ (X.alloc o).cell? A1 = some v1 ∧ (X.alloc o).cell? A2 = some v2 ∧ (X.alloc o).cell? A3 = some v3 ∧ (X.alloc o).cell? A4 = some v4 ∧ (X.alloc o).cell? A5 = some v5 ∧ (X.alloc o).cell? A6 = some v6 ∧ Below W.heap.size W (X.alloc o) := q7_below h0 h1 h2 h3 h4 h5 h6 h ((Below.refl _ _).alloc (Nat.le_refl _) o)

theorem q7_allocd {W X : World} {A0 A1 A2 A3 A4 A5 A6 : Addr} {v0 v1 v2 v3 v4 v5 v6 : Value} (h0 : A0.block < W.heap.size) (h1 : A1.block < W.heap.size) (h2 : A2.block < W.heap.size) (h3 : A3.block < W.heap.size) (h4 : A4.block < W.heap.size) (h5 : A5.block < W.heap.size) (h6 : A6.block < W.heap.size) (h : X.drew.cell? A0 = some v0 ∧ X.drew.cell? A1 = some v1 ∧ X.drew.cell? A2 = some v2 ∧ X.drew.cell? A3 = some v3 ∧ X.drew.cell? A4 = some v4 ∧ X.drew.cell? A5 = some v5 ∧ X.drew.cell? A6 = some v6 ∧ Below W.heap.size W X.drew) (o : Obj) : (X.alloc o).drew.cell? A0 = some v0 ∧ (X.alloc o).drew.cell? A1 = some v1 ∧ (X.alloc o).drew.cell? A2 = some v2 ∧ (X.alloc o).drew.cell? A3 = some v3 ∧ (X.alloc o).drew.cell? A4 = some v4 ∧ (X.alloc o).drew.cell? A5 = some v5 ∧ (X.alloc o).drew.cell? A6 = some v6 ∧ Below W.heap.size W (X.alloc o).drew := q7_alloc h0 h1 h2 h3 h4 h5 h6 h o

theorem q7_set {W X : World} {A0 A1 A2 A3 A4 A5 A6 : Addr} {v0 v1 v2 v3 v4 v5 v6 : Value} (h0 : A0.block < W.heap.size) (h1 : A1.block < W.heap.size) (h2 : A2.block < W.heap.size) (h3 : A3.block < W.heap.size) (h4 : A4.block < W.heap.size) (h5 : A5.block < W.heap.size) (h6 : A6.block < W.heap.size) (h : X.cell? A0 = some v0 ∧ X.cell? A1 = some v1 ∧ X.cell? A2 = some v2 ∧ X.cell? A3 = some v3 ∧ X.cell? A4 = some v4 ∧ X.cell? A5 = some v5 ∧ X.cell? A6 = some v6 ∧ Below W.heap.size W X) {p : Addr} (hp : W.heap.size ≤ p.block) (y : Value) : (X.setCell p y).cell? A0 = some v0 ∧ (X.setCell p y).cell? A1 = some v1 ∧ (X.setCell p y).cell? A2 = some v2 ∧ (X.setCell p y).cell? A3 = some v3 ∧ (X.setCell p y).cell? A4 = some v4 ∧ (X.setCell p y).cell? A5 = some v5 ∧ (X.setCell p y).cell? A6 = some v6 ∧ Below W.heap.size W (X.setCell p y) :=
  ⟨(World.cell?_setCell_other _ _ _ _ (fun e => by rw [e] at hp; omega)).trans h.1, (World.cell?_setCell_other _ _ _ _ (fun e => by rw [e] at hp; omega)).trans h.2.1, (World.cell?_setCell_other _ _ _ _ (fun e => by rw [e] at hp; omega)).trans h.2.2.1, (World.cell?_setCell_other _ _ _ _ (fun e => by rw [e] at hp; omega)).trans h.2.2.2.1, (World.cell?_setCell_other _ _ _ _ (fun e => by rw [e] at hp; omega)).trans h.2.2.2.2.1, (World.cell?_setCell_other _ _ _ _ (fun e => by rw [e] at hp; omega)).trans h.2.2.2.2.2.1, (World.cell?_setCell_other _ _ _ _ (fun e => by rw [e] at hp; omega)).trans h.2.2.2.2.2.2.1, (h.2.2.2.2.2.2.2).setCell hp y⟩

theorem lrF0 (c : Int) (l : Value) (w : World) : (Instr.field 55 (.agg #[.int .i64 c, l]) 0).run Try.prog w = .ok (.int .i64 c) w := by kernel_rfl

theorem lrF1 (c v : Value) (w : World) : (Instr.field 55 (.agg #[c, v]) 1).run Try.prog w = .ok (.agg #[v]) w := by kernel_rfl

theorem lbF0 (v : Value) (w : World) : (Instr.field 41 (.agg #[v]) 0).run Try.prog w = .ok v w := by kernel_rfl

theorem trF0 (c v : Int) (x y z : Value) (w : World) : (Instr.field 38 (.agg #[.int .i64 c, .int .i64 v, x, y, z]) 0).run Try.prog w = .ok (.int .i64 c) w := by kernel_rfl

theorem undef_no {b : Bool} (h : some undef = some (Value.bool b)) : False := by
  injection h with h
  cases h

theorem lwNums_as (a b : Option Addr) (la ca lb cb : Nat) (xs ys : List Int) (w : World) (h : xs = ys) (hla : la ≤ maxLen) (hlb : lb ≤ maxLen) (hx : Sl w a la xs) (hy : Sl w b lb ys) :
    Calls Try.prog 22 #[.slice a la ca, .slice b lb cb] w fun e w' => e = .returned (.bool true) ∧ Below w.heap.size w w' :=
  (lwNums_calls a b la ca lb cb xs ys w hla hlb hx hy).mono fun _ _ ⟨h1, h2⟩ => ⟨by rw [h1, decide_eq_true h], h2⟩

theorem tabF_as (a : Option Addr) (n ca : Nat) (ss : List (Int × List Int)) (ta : Option Addr) (tl tc : Nat) (ts : List Int) (da : Option Addr) (dl dc : Nat) (ds : List Int) (w : World) (h : tabF ss ts ds = 0) (hrt : RT w a n ss ta tl ts da dl ds) :
    Calls Try.prog 24 #[.agg #[.slice a n ca, .slice ta tl tc, .slice da dl dc]] w fun e w' => e = .returned (.int .i64 0) ∧ Below w.heap.size w w' :=
  (implTablesFault_calls a n ca ss ta tl tc ts da dl dc ds w hrt).mono fun _ _ ⟨h1, h2⟩ => ⟨by rw [h1, h], h2⟩

theorem os_max {S : Nat → Prop} {a : Option Addr} {n : Nat} {xs : List Int} {w : World} (h : OS S a n xs w) : n ≤ maxLen := by have := h.2.1; unfold maxLen; omega

theorem irF1 (c v : Int) (w : World) : (Instr.field 59 (.agg #[.int .i64 c, .int .i64 v]) 1).run Try.prog w = .ok (.int .i64 v) w := by kernel_rfl

theorem canObserve_as (a b : Option Addr) (la ca lb cb : Nat) (xs ys : List Int) (w : World) (h : obsB xs ys = true) (hla : la ≤ maxLen) (hlb : lb ≤ maxLen) (hx : Sl w a la xs) (hy : Sl w b lb ys) :
    Calls Try.prog 26 #[.agg #[.slice a la ca], .agg #[.slice b lb cb]] w fun e w' => e = .returned (.bool true) ∧ Below w.heap.size w w' :=
  (implCanObserve_calls a b la ca lb cb xs ys w hla hlb hx hy).mono fun _ _ ⟨h1, h2⟩ => ⟨by rw [h1, h], h2⟩

theorem isBelow_as (a b : Option Addr) (la ca lb cb : Nat) (xs ys : List Int) (w : World) (h : isBelowB xs ys = true) (hla : la ≤ maxLen) (hlb : lb ≤ maxLen) (hx : Sl w a la xs) (hy : Sl w b lb ys) :
    Calls Try.prog 25 #[.agg #[.slice a la ca], .agg #[.slice b lb cb]] w fun e w' => e = .returned (.bool true) ∧ Below w.heap.size w w' :=
  (implIsBelow_calls a b la ca lb cb xs ys w hla hlb hx hy).mono fun _ _ ⟨h1, h2⟩ => ⟨by rw [h1, h], h2⟩

theorem owns_as (a : Option Addr) (len cap : Nat) (zs : List Int) (v : Bool) (w : World) (h : ownsB zs = v) (hl : len ≤ maxLen) (hs : Sl w a len zs) :
    Calls Try.prog 27 #[.agg #[.slice a len cap]] w fun e w' => e = .returned (.bool v) ∧ Below w.heap.size w w' :=
  (implOwnsAny_calls a len cap zs w hl hs).mono fun _ _ ⟨h1, h2⟩ => ⟨by rw [h1, h], h2⟩

set_option maxRecDepth 100000 in
theorem taints_big (a : Option Addr) (len cap : Nat) (w : World) (hl : len ≤ maxLen) (hbig : 1048576 < len) :
    Calls Try.prog 4 #[.slice a len cap] w fun e w' => e = .returned (.bool true) ∧ Below w.heap.size w w' := by
  go_enter Try.func4, Try.ntmps4
  go_wp2_with fail
  refine (lwBig_calls a len cap _ hl).mono ?_
  rintro e w1 ⟨rfl, hw⟩
  obtain rfl : w = w1 := hw.symm
  clear hw
  rw [decide_eq_true (by omega)]
  go_wp2
  go_ret
  exact ⟨rfl, Below.refl _ _⟩

set_option maxRecDepth 100000 in
set_option maxHeartbeats 20000000 in
theorem taints_small (a : Option Addr) (len cap : Nat) (w : World) (hc : Cd w a len) :
    Calls Try.prog 4 #[.slice a len cap] w fun e w' => e = .returned (.bool true) ∧ Below w.heap.size w w' := by
  have hlm : len ≤ maxLen := by have := hc.1; unfold maxLen; omega
  have M0 := Mm.start w
  have fd0 := lrF0
  have fd1 := lrF1
  have fd2 := lbF0
  have fd3 := trF0
  have fd4 := irF1
  go_enter Try.func4, Try.ntmps4
  go_wp2_with fail
  refine (lwBig_calls a len cap _ hlm).mono ?_
  rintro e w0 ⟨rfl, hw⟩
  obtain rfl : w = w0 := hw.symm
  rw [decide_eq_false (by have := hc.1; omega)]
  clear hw
  go_wp2_with fail
  refine (drawTaintDomain_calls a len cap _ hc).mono ?_
  rintro e w1 ⟨t1a, t1n, t1c, ss, t2a, t2n, t2c, ts, t3a, t3n, t3c, ds, x, la, ll, lc, lv, rfl, tb, fr, hll, g1⟩
  have z1 := g1.size
  have M1 := ((((M0.below g1).fact TbS.loc tb).fact FrS.loc fr).alloc3 (.slice t1a t1n t1c) (.slice t2a t2n t2c) (.slice t3a t3n t3c) 36).alloc1 (.slice la ll lc) 41
  simp only [World.size_alloc] at M1
  have hllm : ll ≤ maxLen := by unfold maxLen; omega
  have Htl := hide tb.rt.2.2.2.1.1
  have Htm := hide tb.2.2.1
  have Hdl := hide tb.rt.2.2.2.2.2.1
  have Hdm := hide tb.2.2.2.2.1
  clear M0 g1 tb fr
  go_wp2_with fail
  refine (implTaintDomain_calls t1a t1n t1c ss t2a t2n t2c ts t3a t3n t3c ds x la ll lc lv _ (M1.get 1 rfl).rt hllm (M1.get 0 rfl).sl).mono ?_
  rintro e w2 ⟨e1a, e1n, e1c, e2a, e2n, e2c, e3a, e3n, e3c, rfl, o2, g2⟩
  have z2 := g2.size
  simp only [World.size_alloc] at z2 o2
  have M2 := ((M1.below g2).fact OT.loc o2).alloc5 (.int .i64 (txC ss ts ds x lv)) (.int .i64 (txV ss ts ds x lv)) (.slice e1a e1n e1c) (.slice e2a e2n e2c) (.slice e3a e3n e3c) 38
  obtain ⟨W, hW⟩ : ∃ y, y = w2.alloc (.cells #[.int .i64 (txC ss ts ds x lv), .int .i64 (txV ss ts ds x lv), .slice e1a e1n e1c, .slice e2a e2n e2c, .slice e3a e3n e3c] 38) := ⟨_, rfl⟩
  have v0 := M2.cell 0 rfl
  by_cases hf : txC ss ts ds x lv = 0
  rotate_left
  · have ef : (txC ss ts ds x lv != 0) = true := by simpa using hf
    have eA : (txC ss ts ds x lv == txC ss ts ds x lv) = true := by simp
    have eB : (tgC ss ts ds ds x == tgC ss ts ds ds x) = true := by simp
    clear hf M1 g2 o2 hW
    as_aux_lemma =>
      clear W
      obtain ⟨W3, hW⟩ : ∃ W3 : World, W3 = w2.alloc (.cells #[.int .i64 (txC ss ts ds x lv), .int .i64 (txV ss ts ds x lv), .slice e1a e1n e1c, .slice e2a e2n e2c, .slice e3a e3n e3c] 38) := ⟨_, rfl⟩
      rw [← hW] at M2
      have HW := hide hW
      have lt0 : (Addr.mk (w2.heap.size) 0 none).block < W3.heap.size := M2.lt 0 rfl
      have lt1 : (Addr.mk (w1.heap.size + 1) 0 none).block < W3.heap.size := M2.lt 5 rfl
      have lt2 : (Addr.mk (w1.heap.size) 0 none).block < W3.heap.size := M2.lt 6 rfl
      have lt3 : (Addr.mk (w1.heap.size) 1 none).block < W3.heap.size := M2.lt 7 rfl
      have lt4 : (Addr.mk (w1.heap.size) 2 none).block < W3.heap.size := M2.lt 8 rfl
      have HM := hide M2
      have HLS := hide ((M2.get 1 rfl).sl)
      have HTS := hide ((M2.get 2 rfl).rt)
      have HS0 : Hid (W3.drew.cell? ⟨w2.heap.size, 0, none⟩ = some (.int .i64 (txC ss ts ds x lv)) ∧ W3.drew.cell? ⟨w1.heap.size + 1, 0, none⟩ = some (.slice la ll lc) ∧ W3.drew.cell? ⟨w1.heap.size, 0, none⟩ = some (.slice t1a t1n t1c) ∧ W3.drew.cell? ⟨w1.heap.size, 1, none⟩ = some (.slice t2a t2n t2c) ∧ W3.drew.cell? ⟨w1.heap.size, 2, none⟩ = some (.slice t3a t3n t3c) ∧ Below W3.heap.size W3 W3.drew) := ⟨M2.cell 0 rfl, M2.cell 5 rfl, M2.cell 6 rfl, M2.cell 7 rfl, M2.cell 8 rfl, (Below.refl _ _).drew⟩
      clear M2 hW
      go_upto_region 6 with fail
      rw [← HW.out]
      clear v0
      go_region_held2 (fun w' => w'.cell? ⟨w2.heap.size, 0, none⟩ = some (.int .i64 (txC ss ts ds x lv)) ∧ w'.cell? ⟨w1.heap.size + 1, 0, none⟩ = some (.slice la ll lc) ∧ w'.cell? ⟨w1.heap.size, 0, none⟩ = some (.slice t1a t1n t1c) ∧ w'.cell? ⟨w1.heap.size, 1, none⟩ = some (.slice t2a t2n t2c) ∧ w'.cell? ⟨w1.heap.size, 2, none⟩ = some (.slice t3a t3n t3c) ∧ Below W3.heap.size W3 w')
        (first | with_reducible exact HS0.out | with_reducible assumption)
        (first
          | (go_at_call 7; (with_reducible refine (specTaintDomain_calls t1a t1n t1c ss t2a t2n t2c ts t3a t3n t3c ds x la ll lc lv _ ?_ hllm ?_).mono ?_); exact HTS.out.below (q5_bel (by with_reducible assumption)) (Nat.le_refl _); exact HLS.out.below (q5_bel (by with_reducible assumption)) (Nat.le_refl _); rintro e y1 ⟨_, _, _, _, _, _, _, _, _, rfl, _, ga⟩; have hs1 := q5_below lt0 lt1 lt2 lt3 lt4 (by with_reducible assumption) ga; clear ga)
          | (go_at_call 20; (with_reducible refine (implDomainLabel_calls t1a t1n t1c ss t2a t2n t2c ts t3a t3n t3c ds x _ ?_).mono ?_); exact HTS.out.below (q5_bel (by with_reducible assumption)) (Nat.le_refl _); rintro e y1 ⟨_, _, _, rfl, _, ga⟩; have hs1 := q5_below lt0 lt1 lt2 lt3 lt4 (by with_reducible assumption) ga; clear ga)
          | (go_at_call 21; (with_reducible refine (specDomainLabel_calls t1a t1n t1c ss t2a t2n t2c ts t3a t3n t3c ds x _ ?_).mono ?_); exact HTS.out.below (q5_bel (by with_reducible assumption)) (Nat.le_refl _); rintro e y1 ⟨_, _, _, rfl, _, ga⟩; have hs1 := q5_below lt0 lt1 lt2 lt3 lt4 (by with_reducible assumption) ga; clear ga))
      have HE := hide (HM.out.below (q5_bel hs1)).bel
      clear hs1 HS0 HM
      go_wp2
      go_ret
      exact ⟨rfl, HE.out⟩
  clear hW W
  have ef : (txC ss ts ds x lv != 0) = false := by simp [hf]
  obtain ⟨a1, a2, a3, a4, a5, a6, a7⟩ := tx_right hf
  have HA1 := hide a1
  have HA2 := hide a2
  have HA3 := hide a3
  have HA4 := hide a4
  have HA5 := hide a5
  have HA6 := hide a6
  have HA7 := hide a7
  have htl1 : ts.length ≤ t2n := Nat.le_of_eq Htl.out
  have htl2 : t2n ≤ ts.length := Nat.le_of_eq Htl.out.symm
  have htm : t2n ≤ 1048576 := Htm.out
  have hdl1 : ds.length ≤ t3n := Nat.le_of_eq Hdl.out
  have hdl2 : t3n ≤ ds.length := Nat.le_of_eq Hdl.out.symm
  have hdm : t3n ≤ 1048576 := Hdm.out
  clear hf a1 a2 a3 a4 a5 a6 a7 M1 g2 o2
  have u0 := M2.cell 6 rfl
  have u1 := M2.cell 7 rfl
  have u2 := M2.cell 8 rfl
  go_wp2_with fail
  refine (implDomainLabel_calls t1a t1n t1c ss t2a t2n t2c ts t3a t3n t3c ds x _ (M2.get 2 rfl).rt).mono ?_
  rintro e w3 ⟨wa, wn, wc, rfl, o3, g3⟩
  rw [HA2.out]
  have z3 := g3.size
  simp only [World.size_alloc] at z3 o3
  have M3 := ((M2.below g3).fact OS.loc o3).alloc2 (.int .i64 0) (.slice wa wn wc) 55
  have hwm := os_max o3
  clear M2 g3 o3 v0 u0 u1 u2
  have u0 := M3.cell 4 rfl
  have u1 := M3.cell 5 rfl
  have u2 := M3.cell 6 rfl
  go_wp2_with fail
  refine (implDomainLabel_calls e1a e1n e1c (txS ss ts ds x lv) e2a e2n e2c (txT ss ts ds x lv) e3a e3n e3c (txD ss ts ds x lv) x _ (M3.get 1 rfl).rt).mono ?_
  rintro e w4 ⟨na, nn, nc, rfl, o4, g4⟩
  have z4 := g4.size
  simp only [World.size_alloc] at z4 o4
  have M4 := ((M3.below g4).fact OS.loc o4).alloc2 (.int .i64 (tgC (txS ss ts ds x lv) (txT ss ts ds x lv) (txD ss ts ds x lv) (txD ss ts ds x lv) x)) (.slice na nn nc) 55
  have hnm := os_max o4
  clear M3 g4 o4 u0 u1 u2
  go_wp2
  go_loopw [9] (fun i wr => ∃ k : Nat, k ≤ t3n ∧ i = .int .i64 k ∧ Mm w wr [(w4.heap.size, 0, .int .i64 (tgC (txS ss ts ds x lv) (txT ss ts ds x lv) (txD ss ts ds x lv) (txD ss ts ds x lv) x)), (w4.heap.size, 1, .slice na nn nc), (w3.heap.size, 0, .int .i64 0), (w3.heap.size, 1, .slice wa wn wc), (w2.heap.size, 0, .int .i64 (txC ss ts ds x lv)), (w2.heap.size, 1, .int .i64 (txV ss ts ds x lv)), (w2.heap.size, 2, .slice e1a e1n e1c), (w2.heap.size, 3, .slice e2a e2n e2c), (w2.heap.size, 4, .slice e3a e3n e3c), (w1.heap.size + 1, 0, .slice la ll lc), (w1.heap.size, 0, .slice t1a t1n t1c), (w1.heap.size, 1, .slice t2a t2n t2c), (w1.heap.size, 2, .slice t3a t3n t3c)] [(w3.heap.size + 1, w4.heap.size, OS (InR (w3.heap.size + 1) w4.heap.size) na nn (tgL (txS ss ts ds x lv) (txT ss ts ds x lv) (txD ss ts ds x lv) (txD ss ts ds x lv) x)), (w2.heap.size + 1, w3.heap.size, OS (InR (w2.heap.size + 1) w3.heap.size) wa wn (tgL ss ts ds ds x)), (w1.heap.size + 1 + 1, w2.heap.size, OT (InR (w1.heap.size + 1 + 1) w2.heap.size) e1a e1n (txS ss ts ds x lv) e2a e2n (txT ss ts ds x lv) e3a e3n (txD ss ts ds x lv)), (w.heap.size, w1.heap.size, FrS (InR w.heap.size w1.heap.size) la ll lv), (w.heap.size, w1.heap.size, TbS (InR w.heap.size w1.heap.size) t1a t1n ss t2a t2n ts t3a t3n ds)]) (fun i _ => t3n - (intOf i).toNat)
  case atStart => exact ⟨0, Nat.zero_le _, rfl, M4⟩
  case round =>
    clear M4
    obtain ⟨k, hk, rfl, M⟩ := hrel
    have a3 := M.cell 12 rfl
    by_cases hlt : k < t3n
    · have i1 : (k : Int) < (t3n : Int) := by omega
      by_cases hx : (k : Int) = x
      · have e1 : ((k : Int) != x) = false := by simp [hx]
        clear hx
        as_aux_lemma =>
          have lt0 : (Addr.mk (w1.heap.size) 0 none).block < wr.heap.size := M.lt 10 rfl
          have lt1 : (Addr.mk (w1.heap.size) 1 none).block < wr.heap.size := M.lt 11 rfl
          have lt2 : (Addr.mk (w1.heap.size) 2 none).block < wr.heap.size := M.lt 12 rfl
          have lt3 : (Addr.mk (w2.heap.size) 2 none).block < wr.heap.size := M.lt 6 rfl
          have lt4 : (Addr.mk (w2.heap.size) 3 none).block < wr.heap.size := M.lt 7 rfl
          have lt5 : (Addr.mk (w2.heap.size) 4 none).block < wr.heap.size := M.lt 8 rfl
          have HM := hide M
          have HTS := hide ((M.get 4 rfl).rt)
          have HAS := hide ((M.get 2 rfl).rt)
          have HS0 : Hid (wr.drew.cell? ⟨w1.heap.size, 0, none⟩ = some (.slice t1a t1n t1c) ∧ wr.drew.cell? ⟨w1.heap.size, 1, none⟩ = some (.slice t2a t2n t2c) ∧ wr.drew.cell? ⟨w1.heap.size, 2, none⟩ = some (.slice t3a t3n t3c) ∧ wr.drew.cell? ⟨w2.heap.size, 2, none⟩ = some (.slice e1a e1n e1c) ∧ wr.drew.cell? ⟨w2.heap.size, 3, none⟩ = some (.slice e2a e2n e2c) ∧ wr.drew.cell? ⟨w2.heap.size, 4, none⟩ = some (.slice e3a e3n e3c) ∧ Below wr.heap.size wr wr.drew) := ⟨M.cell 10 rfl, M.cell 11 rfl, M.cell 12 rfl, M.cell 6 rfl, M.cell 7 rfl, M.cell 8 rfl, (Below.refl _ _).drew⟩
          clear M
          go_upto_region 12 with fail
          clear a3
          refine wp_region_held_drew (S := (fun w' => w'.cell? ⟨w1.heap.size, 0, none⟩ = some (.slice t1a t1n t1c) ∧ w'.cell? ⟨w1.heap.size, 1, none⟩ = some (.slice t2a t2n t2c) ∧ w'.cell? ⟨w1.heap.size, 2, none⟩ = some (.slice t3a t3n t3c) ∧ w'.cell? ⟨w2.heap.size, 2, none⟩ = some (.slice e1a e1n e1c) ∧ w'.cell? ⟨w2.heap.size, 3, none⟩ = some (.slice e2a e2n e2c) ∧ w'.cell? ⟨w2.heap.size, 4, none⟩ = some (.slice e3a e3n e3c) ∧ Below wr.heap.size wr w')) (by kernel_rfl) HS0.out (fun hHeld => ?_)
          refine wpAnyH_take (i := 0) (oi := { dst := some 61, op := Go.Op.move (Go.Operand.tmp 9), type := 2, pos := "laws.go:175", after := #[], guard := none }) (v := ?_) rfl (by kernel_rfl) (by kernel_rfl) (by kernel_rfl) (fun _ _ _ h => h) (Or.inl ⟨by rfl, ?_⟩) (by assumption) ?_
          rotate_left
          · (intro w hSw; (try dsimp only at hSw); go_simp; (try with_reducible rfl))
          (try simp only [Act.put, List.setIfInBounds_toArray, List.set_cons_zero, List.set_cons_succ])
          refine wpAnyH_take (i := 1) (oi := { dst := some 62, op := Go.Op.move (Go.Operand.tmp 4), type := 2, pos := "laws.go:175", after := #[], guard := none }) (v := ?_) rfl (by kernel_rfl) (by kernel_rfl) (by kernel_rfl) (fun _ _ _ h => h) (Or.inl ⟨by rfl, ?_⟩) (by assumption) ?_
          rotate_left
          · (intro w hSw; (try dsimp only at hSw); go_simp; (try with_reducible rfl))
          (try simp only [Act.put, List.setIfInBounds_toArray, List.set_cons_zero, List.set_cons_succ])
          refine wpAnyH_take (i := 2) (oi := { dst := some 63, op := Go.Op.binOp Go.BinOp.neq 2 (Go.Operand.tmp 61) (Go.Operand.tmp 62) 2, type := 4, pos := "laws.go:175", after := #[{ on := 0, ground := Go.Ground.data }, { on := 1, ground := Go.Ground.data }], guard := none }) (v := ?_) rfl (by kernel_rfl) (by kernel_rfl) (by kernel_rfl) (fun _ _ _ h => h) (Or.inl ⟨by rfl, ?_⟩) (by assumption) ?_
          rotate_left
          · (intro w hSw; (try dsimp only at hSw); go_simp; (try with_reducible rfl))
          (try simp only [Act.put, List.setIfInBounds_toArray, List.set_cons_zero, List.set_cons_succ])
          refine wpAnyH_take (i := 3) (oi := { dst := some 64, op := Go.Op.move (Go.Operand.tmp 63), type := 4, pos := "laws.go:175", after := #[{ on := 2, ground := Go.Ground.data }], guard := none }) (v := ?_) rfl (by kernel_rfl) (by kernel_rfl) (by kernel_rfl) (fun _ _ _ h => h) (Or.inl ⟨by rfl, ?_⟩) (by assumption) ?_
          rotate_left
          · (intro w hSw; (try dsimp only at hSw); go_simp; (try with_reducible rfl))
          (try simp only [Act.put, List.setIfInBounds_toArray, List.set_cons_zero, List.set_cons_succ])
          refine wpAnyH_take (i := 4) (oi := { dst := some 65, op := Go.Op.load 36 (Go.Operand.tmp 3), type := 36, pos := "laws.go:175", after := #[{ on := 3, ground := Go.Ground.guard }], guard := some (3, true) }) (v := undef) rfl (by kernel_rfl) (by kernel_rfl) (by kernel_rfl) (fun _ _ _ h => h) (Or.inr ⟨by rfl, rfl⟩) (by assumption) ?_
          (try simp only [Act.put, List.setIfInBounds_toArray, List.set_cons_zero, List.set_cons_succ])
          refine wpAnyH_take (i := 5) (oi := { dst := some 66, op := Go.Op.move (Go.Operand.tmp 9), type := 2, pos := "laws.go:175", after := #[{ on := 3, ground := Go.Ground.guard }], guard := some (3, true) }) (v := undef) rfl (by kernel_rfl) (by kernel_rfl) (by kernel_rfl) (fun _ _ _ h => h) (Or.inr ⟨by rfl, rfl⟩) (by assumption) ?_
          (try simp only [Act.put, List.setIfInBounds_toArray, List.set_cons_zero, List.set_cons_succ])
          refine wpAnyH_take (i := 6) (oi := { dst := some 67, op := Go.Op.call { callee := Go.Callee.value (Go.Operand.func 20), args := #[Go.Operand.tmp 65, Go.Operand.tmp 66], argTypes := #[36, 2] }, type := 55, pos := "laws.go:175", after := #[{ on := 4, ground := Go.Ground.data }, { on := 5, ground := Go.Ground.data }, { on := 3, ground := Go.Ground.chain }, { on := 3, ground := Go.Ground.guard }], guard := some (3, true) }) (v := undef) rfl (by kernel_rfl) (by kernel_rfl) (by kernel_rfl) (fun _ _ _ h => h) (Or.inr ⟨by rfl, rfl⟩) (by assumption) ?_
          (try simp only [Act.put, List.setIfInBounds_toArray, List.set_cons_zero, List.set_cons_succ])
          refine wpAnyH_take (i := 7) (oi := { dst := some 68, op := Go.Op.field 55 (Go.Operand.tmp 67) 1, type := 41, pos := "laws.go:175", after := #[{ on := 6, ground := Go.Ground.data }, { on := 3, ground := Go.Ground.guard }], guard := some (3, true) }) (v := undef) rfl (by kernel_rfl) (by kernel_rfl) (by kernel_rfl) (fun _ _ _ h => h) (Or.inr ⟨by rfl, rfl⟩) (by assumption) ?_
          (try simp only [Act.put, List.setIfInBounds_toArray, List.set_cons_zero, List.set_cons_succ])
          refine wpAnyH_take (i := 8) (oi := { dst := some 69, op := Go.Op.field 41 (Go.Operand.tmp 68) 0, type := 25, pos := "laws.go:175", after := #[{ on := 7, ground := Go.Ground.data }, { on := 3, ground := Go.Ground.guard }], guard := some (3, true) }) (v := undef) rfl (by kernel_rfl) (by kernel_rfl) (by kernel_rfl) (fun _ _ _ h => h) (Or.inr ⟨by rfl, rfl⟩) (by assumption) ?_
          (try simp only [Act.put, List.setIfInBounds_toArray, List.set_cons_zero, List.set_cons_succ])
          refine wpAnyH_take (i := 9) (oi := { dst := some 70, op := Go.Op.fieldAddr 38 (Go.Operand.tmp 6) 2, type := 0, pos := "laws.go:175", after := #[{ on := 3, ground := Go.Ground.guard }], guard := some (3, true) }) (v := undef) rfl (by kernel_rfl) (by kernel_rfl) (by kernel_rfl) (fun _ _ _ h => h) (Or.inr ⟨by rfl, rfl⟩) (by assumption) ?_
          (try simp only [Act.put, List.setIfInBounds_toArray, List.set_cons_zero, List.set_cons_succ])
          refine wpAnyH_take (i := 10) (oi := { dst := some 71, op := Go.Op.load 36 (Go.Operand.tmp 70), type := 36, pos := "laws.go:175", after := #[{ on := 9, ground := Go.Ground.data }, { on := 3, ground := Go.Ground.guard }], guard := some (3, true) }) (v := undef) rfl (by kernel_rfl) (by kernel_rfl) (by kernel_rfl) (fun _ _ _ h => h) (Or.inr ⟨by rfl, rfl⟩) (by assumption) ?_
          (try simp only [Act.put, List.setIfInBounds_toArray, List.set_cons_zero, List.set_cons_succ])
          refine wpAnyH_take (i := 11) (oi := { dst := some 72, op := Go.Op.move (Go.Operand.tmp 9), type := 2, pos := "laws.go:175", after := #[{ on := 3, ground := Go.Ground.guard }], guard := some (3, true) }) (v := undef) rfl (by kernel_rfl) (by kernel_rfl) (by kernel_rfl) (fun _ _ _ h => h) (Or.inr ⟨by rfl, rfl⟩) (by assumption) ?_
          (try simp only [Act.put, List.setIfInBounds_toArray, List.set_cons_zero, List.set_cons_succ])
          refine wpAnyH_take (i := 12) (oi := { dst := some 73, op := Go.Op.call { callee := Go.Callee.value (Go.Operand.func 20), args := #[Go.Operand.tmp 71, Go.Operand.tmp 72], argTypes := #[36, 2] }, type := 55, pos := "laws.go:175", after := #[{ on := 10, ground := Go.Ground.data }, { on := 11, ground := Go.Ground.data }, { on := 6, ground := Go.Ground.chain }, { on := 3, ground := Go.Ground.guard }], guard := some (3, true) }) (v := undef) rfl (by kernel_rfl) (by kernel_rfl) (by kernel_rfl) (fun _ _ _ h => h) (Or.inr ⟨by rfl, rfl⟩) (by assumption) ?_
          (try simp only [Act.put, List.setIfInBounds_toArray, List.set_cons_zero, List.set_cons_succ])
          refine wpAnyH_take (i := 13) (oi := { dst := some 74, op := Go.Op.field 55 (Go.Operand.tmp 73) 1, type := 41, pos := "laws.go:175", after := #[{ on := 12, ground := Go.Ground.data }, { on := 3, ground := Go.Ground.guard }], guard := some (3, true) }) (v := undef) rfl (by kernel_rfl) (by kernel_rfl) (by kernel_rfl) (fun _ _ _ h => h) (Or.inr ⟨by rfl, rfl⟩) (by assumption) ?_
          (try simp only [Act.put, List.setIfInBounds_toArray, List.set_cons_zero, List.set_cons_succ])
          refine wpAnyH_take (i := 14) (oi := { dst := some 75, op := Go.Op.field 41 (Go.Operand.tmp 74) 0, type := 25, pos := "laws.go:175", after := #[{ on := 13, ground := Go.Ground.data }, { on := 3, ground := Go.Ground.guard }], guard := some (3, true) }) (v := undef) rfl (by kernel_rfl) (by kernel_rfl) (by kernel_rfl) (fun _ _ _ h => h) (Or.inr ⟨by rfl, rfl⟩) (by assumption) ?_
          (try simp only [Act.put, List.setIfInBounds_toArray, List.set_cons_zero, List.set_cons_succ])
          refine wpAnyH_take (i := 15) (oi := { dst := some 76, op := Go.Op.call { callee := Go.Callee.value (Go.Operand.func 22), args := #[Go.Operand.tmp 69, Go.Operand.tmp 75], argTypes := #[25, 25] }, type := 4, pos := "laws.go:175", after := #[{ on := 8, ground := Go.Ground.data }, { on := 14, ground := Go.Ground.data }, { on := 12, ground := Go.Ground.chain }, { on := 3, ground := Go.Ground.guard }], guard := some (3, true) }) (v := undef) rfl (by kernel_rfl) (by kernel_rfl) (by kernel_rfl) (fun _ _ _ h => h) (Or.inr ⟨by rfl, rfl⟩) (by assumption) ?_
          (try simp only [Act.put, List.setIfInBounds_toArray, List.set_cons_zero, List.set_cons_succ])
          refine wpAnyH_take (i := 16) (oi := { dst := some 77, op := Go.Op.unOp Go.UnOp.not 4 (Go.Operand.tmp 76), type := 4, pos := "laws.go:175", after := #[{ on := 15, ground := Go.Ground.data }, { on := 3, ground := Go.Ground.guard }], guard := some (3, true) }) (v := undef) rfl (by kernel_rfl) (by kernel_rfl) (by kernel_rfl) (fun _ _ _ h => h) (Or.inr ⟨by rfl, rfl⟩) (by assumption) ?_
          (try simp only [Act.put, List.setIfInBounds_toArray, List.set_cons_zero, List.set_cons_succ])
          refine wpAnyH_take (i := 17) (oi := { dst := some 78, op := Go.Op.pick (Go.Operand.tmp 64) (Go.Operand.tmp 77) (Go.Operand.const (Go.Value.bool false)), type := 4, pos := "laws.go:175", after := #[{ on := 3, ground := Go.Ground.data }, { on := 16, ground := Go.Ground.data }], guard := none }) (v := ?_) rfl (by kernel_rfl) (by kernel_rfl) (by kernel_rfl) (fun _ _ _ h => h) (Or.inl ⟨by rfl, ?_⟩) (by assumption) ?_
          rotate_left
          · (intro w hSw; (try dsimp only at hSw); go_simp; (try with_reducible rfl))
          (try simp only [Act.put, List.setIfInBounds_toArray, List.set_cons_zero, List.set_cons_succ])
          refine wpAnyH_done (by kernel_rfl) ?_ _
          have M' := HM.out.drew
          clear HS0 HM
          go_wp2
          go_roundw
          case rel => exact ⟨k + 1, by omega, by go_num, M'⟩
          case measure => simp [intOf]; omega
      · have e1 : ((k : Int) != x) = true := by simpa using hx
        have hkt := HA3.out k (by omega) hx
        clear hx
        as_aux_lemma =>
          have lt0 : (Addr.mk (w1.heap.size) 0 none).block < wr.heap.size := M.lt 10 rfl
          have lt1 : (Addr.mk (w1.heap.size) 1 none).block < wr.heap.size := M.lt 11 rfl
          have lt2 : (Addr.mk (w1.heap.size) 2 none).block < wr.heap.size := M.lt 12 rfl
          have lt3 : (Addr.mk (w2.heap.size) 2 none).block < wr.heap.size := M.lt 6 rfl
          have lt4 : (Addr.mk (w2.heap.size) 3 none).block < wr.heap.size := M.lt 7 rfl
          have lt5 : (Addr.mk (w2.heap.size) 4 none).block < wr.heap.size := M.lt 8 rfl
          have HM := hide M
          have HTS := hide ((M.get 4 rfl).rt)
          have HAS := hide ((M.get 2 rfl).rt)
          have HS0 : Hid (wr.drew.cell? ⟨w1.heap.size, 0, none⟩ = some (.slice t1a t1n t1c) ∧ wr.drew.cell? ⟨w1.heap.size, 1, none⟩ = some (.slice t2a t2n t2c) ∧ wr.drew.cell? ⟨w1.heap.size, 2, none⟩ = some (.slice t3a t3n t3c) ∧ wr.drew.cell? ⟨w2.heap.size, 2, none⟩ = some (.slice e1a e1n e1c) ∧ wr.drew.cell? ⟨w2.heap.size, 3, none⟩ = some (.slice e2a e2n e2c) ∧ wr.drew.cell? ⟨w2.heap.size, 4, none⟩ = some (.slice e3a e3n e3c) ∧ Below wr.heap.size wr wr.drew) := ⟨M.cell 10 rfl, M.cell 11 rfl, M.cell 12 rfl, M.cell 6 rfl, M.cell 7 rfl, M.cell 8 rfl, (Below.refl _ _).drew⟩
          clear M
          go_upto_region 12 with fail
          clear a3
          go_region_held2 (fun w' => w'.cell? ⟨w1.heap.size, 0, none⟩ = some (.slice t1a t1n t1c) ∧ w'.cell? ⟨w1.heap.size, 1, none⟩ = some (.slice t2a t2n t2c) ∧ w'.cell? ⟨w1.heap.size, 2, none⟩ = some (.slice t3a t3n t3c) ∧ w'.cell? ⟨w2.heap.size, 2, none⟩ = some (.slice e1a e1n e1c) ∧ w'.cell? ⟨w2.heap.size, 3, none⟩ = some (.slice e2a e2n e2c) ∧ w'.cell? ⟨w2.heap.size, 4, none⟩ = some (.slice e3a e3n e3c) ∧ Below wr.heap.size wr w')
            (first | with_reducible exact HS0.out | with_reducible assumption)
            (first
              | (go_at_call 20; (with_reducible refine (implDomainLabel_calls t1a t1n t1c ss t2a t2n t2c ts t3a t3n t3c ds (k : Int) _ ?_).mono ?_); exact HTS.out.below (q6_bel (by with_reducible assumption)) (Nat.le_refl _); rintro e y1 ⟨k1a, k1n, k1c, rfl, ok, ga⟩; have hk1 := os_max ok; have HK1 := hide ok.sl; have HG1 := hide ga; have hs1 := q6_below lt0 lt1 lt2 lt3 lt4 lt5 (by with_reducible assumption) ga; clear ga ok)
              | (go_at_call 20; (with_reducible refine (implDomainLabel_calls e1a e1n e1c (txS ss ts ds x lv) e2a e2n e2c (txT ss ts ds x lv) e3a e3n e3c (txD ss ts ds x lv) (k : Int) _ ?_).mono ?_); exact HAS.out.below (q6_bel (by with_reducible assumption)) (Nat.le_refl _); rintro e y2 ⟨k2a, k2n, k2c, rfl, ok, ga⟩; have hk2 := os_max ok; have HK2 := hide ok.sl; have HG2 := hide ga; have hs1 := q6_below lt0 lt1 lt2 lt3 lt4 lt5 (by with_reducible assumption) ga; clear ga ok)
              | (go_at_call 22; (with_reducible refine (lwNums_as k1a k2a k1n k1c k2n k2c _ _ _ hkt hk1 hk2 ?_ ?_).mono ?_); (first | exact HK1.out | exact HK1.out.below HG2.out (Nat.le_refl _)); (first | exact HK2.out | exact HK2.out.below HG1.out (Nat.le_refl _)); rintro e y3 ⟨rfl, ga⟩; have hs1 := q6_below lt0 lt1 lt2 lt3 lt4 lt5 (by with_reducible assumption) ga; clear ga))
          all_goals (
            have M' := HM.out.below (q6_bel hs1)
            clear hs1 HS0 HM
            go_wp2
            go_roundw
            case rel => exact ⟨k + 1, by omega, by go_num, M'⟩
            case measure => simp [intOf]; omega)
    · obtain rfl : k = t3n := by omega
      have i2 : ¬ ((k : Int) < (k : Int)) := by omega
      go_wp2
      go_loopw [10] (fun i wr => ∃ j : Nat, j ≤ t2n ∧ i = .int .i64 ((j : Int) + 1) ∧ Mm w wr [(w4.heap.size, 0, .int .i64 (tgC (txS ss ts ds x lv) (txT ss ts ds x lv) (txD ss ts ds x lv) (txD ss ts ds x lv) x)), (w4.heap.size, 1, .slice na nn nc), (w3.heap.size, 0, .int .i64 0), (w3.heap.size, 1, .slice wa wn wc), (w2.heap.size, 0, .int .i64 (txC ss ts ds x lv)), (w2.heap.size, 1, .int .i64 (txV ss ts ds x lv)), (w2.heap.size, 2, .slice e1a e1n e1c), (w2.heap.size, 3, .slice e2a e2n e2c), (w2.heap.size, 4, .slice e3a e3n e3c), (w1.heap.size + 1, 0, .slice la ll lc), (w1.heap.size, 0, .slice t1a t1n t1c), (w1.heap.size, 1, .slice t2a t2n t2c), (w1.heap.size, 2, .slice t3a k t3c)] [(w3.heap.size + 1, w4.heap.size, OS (InR (w3.heap.size + 1) w4.heap.size) na nn (tgL (txS ss ts ds x lv) (txT ss ts ds x lv) (txD ss ts ds x lv) (txD ss ts ds x lv) x)), (w2.heap.size + 1, w3.heap.size, OS (InR (w2.heap.size + 1) w3.heap.size) wa wn (tgL ss ts ds ds x)), (w1.heap.size + 1 + 1, w2.heap.size, OT (InR (w1.heap.size + 1 + 1) w2.heap.size) e1a e1n (txS ss ts ds x lv) e2a e2n (txT ss ts ds x lv) e3a e3n (txD ss ts ds x lv)), (w.heap.size, w1.heap.size, FrS (InR w.heap.size w1.heap.size) la ll lv), (w.heap.size, w1.heap.size, TbS (InR w.heap.size w1.heap.size) t1a t1n ss t2a t2n ts t3a k ds)]) (fun i _ => t2n + 1 - (intOf i).toNat)
      case atStart => exact ⟨0, Nat.zero_le _, rfl, M⟩
      case round =>
        clear M a3 i2
        obtain ⟨j, hj, rfl, M⟩ := hrel
        have a3 := M.cell 11 rfl
        by_cases hlt : j < t2n
        · have i1 : (j : Int) + 1 ≤ (t2n : Int) := by omega
          have hpm := HA7.out j (by omega)
          as_aux_lemma =>
            have u0 := M.cell 10 rfl
            have u2 := M.cell 12 rfl
            rcases hpm with ⟨hp, hq | hq | hq⟩ | ⟨hp | hp, hq | hq⟩
            all_goals (
              go_wp2_with fail
              refine (implPermOf_calls t1a t1n t1c ss t2a t2n t2c ts t3a k t3c ds x ((j : Int) + 1) _ (M.get 4 rfl).rt).mono ?_
              rintro e w5 ⟨rfl, g5⟩
              rw [hp]
              have M5 := M.below g5
              clear g5 u0 u2 a3 M
              have u0 := M5.cell 6 rfl
              have u1 := M5.cell 7 rfl
              have u2 := M5.cell 8 rfl
              go_wp2_with fail
              refine (implPermOf_calls e1a e1n e1c (txS ss ts ds x lv) e2a e2n e2c (txT ss ts ds x lv) e3a e3n e3c (txD ss ts ds x lv) x ((j : Int) + 1) _ (M5.get 2 rfl).rt).mono ?_
              rintro e w6 ⟨rfl, g6⟩
              rw [hq]
              have M6 := M5.below g6
              clear g6 u0 u1 u2 M5 hp hq
              go_wp2
              go_roundw
              case rel => exact ⟨j + 1, by omega, by go_num, M6⟩
              case measure => simp [intOf]; omega)
        · obtain rfl : j = t2n := by omega
          have i2 : ¬ ((j : Int) + 1 ≤ (j : Int)) := by omega
          obtain ⟨b, HB⟩ : ∃ b, Hid (ownsB (tgL ss ts ds ds x) = b) := ⟨_, hide rfl⟩
          have HB6 := hide (HA6.out.symm.trans HB.out)
          cases b
          · skip
            as_aux_lemma =>
              have lt0 : (Addr.mk (w2.heap.size) 2 none).block < wr.heap.size := M.lt 6 rfl
              have lt1 : (Addr.mk (w2.heap.size) 3 none).block < wr.heap.size := M.lt 7 rfl
              have lt2 : (Addr.mk (w2.heap.size) 4 none).block < wr.heap.size := M.lt 8 rfl
              have lt3 : (Addr.mk (w3.heap.size) 0 none).block < wr.heap.size := M.lt 2 rfl
              have lt4 : (Addr.mk (w3.heap.size) 1 none).block < wr.heap.size := M.lt 3 rfl
              have lt5 : (Addr.mk (w4.heap.size) 1 none).block < wr.heap.size := M.lt 1 rfl
              have lt6 : (Addr.mk (w1.heap.size + 1) 0 none).block < wr.heap.size := M.lt 9 rfl
              have HM := hide M
              have HAS := hide ((M.get 2 rfl).rt)
              have HWS := hide ((M.get 1 rfl).sl)
              have HNS := hide ((M.get 0 rfl).sl)
              have HLS := hide ((M.get 3 rfl).sl)
              have HS0 : Hid (wr.drew.cell? ⟨w2.heap.size, 2, none⟩ = some (.slice e1a e1n e1c) ∧ wr.drew.cell? ⟨w2.heap.size, 3, none⟩ = some (.slice e2a e2n e2c) ∧ wr.drew.cell? ⟨w2.heap.size, 4, none⟩ = some (.slice e3a e3n e3c) ∧ wr.drew.cell? ⟨w3.heap.size, 0, none⟩ = some (.int .i64 0) ∧ wr.drew.cell? ⟨w3.heap.size, 1, none⟩ = some (.slice wa wn wc) ∧ wr.drew.cell? ⟨w4.heap.size, 1, none⟩ = some (.slice na nn nc) ∧ wr.drew.cell? ⟨w1.heap.size + 1, 0, none⟩ = some (.slice la ll lc) ∧ Below wr.heap.size wr wr.drew) := ⟨M.cell 6 rfl, M.cell 7 rfl, M.cell 8 rfl, M.cell 2 rfl, M.cell 3 rfl, M.cell 1 rfl, M.cell 9 rfl, (Below.refl _ _).drew⟩
              clear M
              go_wp2_with fail
              clear a3 i2
              go_region_held2 (fun w' => w'.cell? ⟨w2.heap.size, 2, none⟩ = some (.slice e1a e1n e1c) ∧ w'.cell? ⟨w2.heap.size, 3, none⟩ = some (.slice e2a e2n e2c) ∧ w'.cell? ⟨w2.heap.size, 4, none⟩ = some (.slice e3a e3n e3c) ∧ w'.cell? ⟨w3.heap.size, 0, none⟩ = some (.int .i64 0) ∧ w'.cell? ⟨w3.heap.size, 1, none⟩ = some (.slice wa wn wc) ∧ w'.cell? ⟨w4.heap.size, 1, none⟩ = some (.slice na nn nc) ∧ w'.cell? ⟨w1.heap.size + 1, 0, none⟩ = some (.slice la ll lc) ∧ Below wr.heap.size wr w')
                (first | with_reducible exact HS0.out | with_reducible assumption)
                (first
                  | (go_at_call 24; (with_reducible refine (tabF_as e1a e1n e1c (txS ss ts ds x lv) e2a e2n e2c (txT ss ts ds x lv) e3a e3n e3c (txD ss ts ds x lv) _ HA1.out ?_).mono ?_); exact HAS.out.below (q7_bel (by with_reducible assumption)) (Nat.le_refl _); rintro e y1 ⟨rfl, ga⟩; have hs1 := q7_below lt0 lt1 lt2 lt3 lt4 lt5 lt6 (by with_reducible assumption) ga; clear ga)
                  | (go_at_call 25; (with_reducible refine (isBelow_as wa na wn wc nn nc (tgL ss ts ds ds x) (tgL (txS ss ts ds x lv) (txT ss ts ds x lv) (txD ss ts ds x lv) (txD ss ts ds x lv) x) _ HA4.out hwm hnm ?_ ?_).mono ?_); exact HWS.out.below (q7_bel (by with_reducible assumption)) (Nat.le_refl _); exact HNS.out.below (q7_bel (by with_reducible assumption)) (Nat.le_refl _); rintro e y1 ⟨rfl, ga⟩; have hs1 := q7_below lt0 lt1 lt2 lt3 lt4 lt5 lt6 (by with_reducible assumption) ga; clear ga)
                  | (go_at_call 26; (with_reducible refine (canObserve_as na la nn nc ll lc (tgL (txS ss ts ds x lv) (txT ss ts ds x lv) (txD ss ts ds x lv) (txD ss ts ds x lv) x) lv _ HA5.out hnm hllm ?_ ?_).mono ?_); exact HNS.out.below (q7_bel (by with_reducible assumption)) (Nat.le_refl _); exact HLS.out.below (q7_bel (by with_reducible assumption)) (Nat.le_refl _); rintro e y1 ⟨rfl, ga⟩; have hs1 := q7_below lt0 lt1 lt2 lt3 lt4 lt5 lt6 (by with_reducible assumption) ga; clear ga)
                  | (go_at_call 27; (with_reducible refine (owns_as wa wn wc (tgL ss ts ds ds x) false _ HB.out hwm ?_).mono ?_); exact HWS.out.below (q7_bel (by with_reducible assumption)) (Nat.le_refl _); rintro e y1 ⟨rfl, ga⟩; have hs1 := q7_below lt0 lt1 lt2 lt3 lt4 lt5 lt6 (by with_reducible assumption) ga; clear ga)
                  | (go_at_call 27; (with_reducible refine (owns_as na nn nc (tgL (txS ss ts ds x lv) (txT ss ts ds x lv) (txD ss ts ds x lv) (txD ss ts ds x lv) x) false _ HB6.out hnm ?_).mono ?_); exact HNS.out.below (q7_bel (by with_reducible assumption)) (Nat.le_refl _); rintro e y1 ⟨rfl, ga⟩; have hs1 := q7_below lt0 lt1 lt2 lt3 lt4 lt5 lt6 (by with_reducible assumption) ga; clear ga))
              all_goals (
                have HE := hide (HM.out.below (q7_bel hs1)).bel
                clear hs1 HS0 HM
                go_wp2
                go_ret
                exact ⟨rfl, HE.out⟩)
          · skip
            as_aux_lemma =>
              have lt0 : (Addr.mk (w2.heap.size) 2 none).block < wr.heap.size := M.lt 6 rfl
              have lt1 : (Addr.mk (w2.heap.size) 3 none).block < wr.heap.size := M.lt 7 rfl
              have lt2 : (Addr.mk (w2.heap.size) 4 none).block < wr.heap.size := M.lt 8 rfl
              have lt3 : (Addr.mk (w3.heap.size) 0 none).block < wr.heap.size := M.lt 2 rfl
              have lt4 : (Addr.mk (w3.heap.size) 1 none).block < wr.heap.size := M.lt 3 rfl
              have lt5 : (Addr.mk (w4.heap.size) 1 none).block < wr.heap.size := M.lt 1 rfl
              have lt6 : (Addr.mk (w1.heap.size + 1) 0 none).block < wr.heap.size := M.lt 9 rfl
              have HM := hide M
              have HAS := hide ((M.get 2 rfl).rt)
              have HWS := hide ((M.get 1 rfl).sl)
              have HNS := hide ((M.get 0 rfl).sl)
              have HLS := hide ((M.get 3 rfl).sl)
              have HS0 : Hid (wr.drew.cell? ⟨w2.heap.size, 2, none⟩ = some (.slice e1a e1n e1c) ∧ wr.drew.cell? ⟨w2.heap.size, 3, none⟩ = some (.slice e2a e2n e2c) ∧ wr.drew.cell? ⟨w2.heap.size, 4, none⟩ = some (.slice e3a e3n e3c) ∧ wr.drew.cell? ⟨w3.heap.size, 0, none⟩ = some (.int .i64 0) ∧ wr.drew.cell? ⟨w3.heap.size, 1, none⟩ = some (.slice wa wn wc) ∧ wr.drew.cell? ⟨w4.heap.size, 1, none⟩ = some (.slice na nn nc) ∧ wr.drew.cell? ⟨w1.heap.size + 1, 0, none⟩ = some (.slice la ll lc) ∧ Below wr.heap.size wr wr.drew) := ⟨M.cell 6 rfl, M.cell 7 rfl, M.cell 8 rfl, M.cell 2 rfl, M.cell 3 rfl, M.cell 1 rfl, M.cell 9 rfl, (Below.refl _ _).drew⟩
              clear M
              go_wp2_with fail
              clear a3 i2
              go_region_held2 (fun w' => w'.cell? ⟨w2.heap.size, 2, none⟩ = some (.slice e1a e1n e1c) ∧ w'.cell? ⟨w2.heap.size, 3, none⟩ = some (.slice e2a e2n e2c) ∧ w'.cell? ⟨w2.heap.size, 4, none⟩ = some (.slice e3a e3n e3c) ∧ w'.cell? ⟨w3.heap.size, 0, none⟩ = some (.int .i64 0) ∧ w'.cell? ⟨w3.heap.size, 1, none⟩ = some (.slice wa wn wc) ∧ w'.cell? ⟨w4.heap.size, 1, none⟩ = some (.slice na nn nc) ∧ w'.cell? ⟨w1.heap.size + 1, 0, none⟩ = some (.slice la ll lc) ∧ Below wr.heap.size wr w')
                (first | with_reducible exact HS0.out | with_reducible assumption)
                (first
                  | (go_at_call 24; (with_reducible refine (tabF_as e1a e1n e1c (txS ss ts ds x lv) e2a e2n e2c (txT ss ts ds x lv) e3a e3n e3c (txD ss ts ds x lv) _ HA1.out ?_).mono ?_); exact HAS.out.below (q7_bel (by with_reducible assumption)) (Nat.le_refl _); rintro e y1 ⟨rfl, ga⟩; have hs1 := q7_below lt0 lt1 lt2 lt3 lt4 lt5 lt6 (by with_reducible assumption) ga; clear ga)
                  | (go_at_call 25; (with_reducible refine (isBelow_as wa na wn wc nn nc (tgL ss ts ds ds x) (tgL (txS ss ts ds x lv) (txT ss ts ds x lv) (txD ss ts ds x lv) (txD ss ts ds x lv) x) _ HA4.out hwm hnm ?_ ?_).mono ?_); exact HWS.out.below (q7_bel (by with_reducible assumption)) (Nat.le_refl _); exact HNS.out.below (q7_bel (by with_reducible assumption)) (Nat.le_refl _); rintro e y1 ⟨rfl, ga⟩; have hs1 := q7_below lt0 lt1 lt2 lt3 lt4 lt5 lt6 (by with_reducible assumption) ga; clear ga)
                  | (go_at_call 26; (with_reducible refine (canObserve_as na la nn nc ll lc (tgL (txS ss ts ds x lv) (txT ss ts ds x lv) (txD ss ts ds x lv) (txD ss ts ds x lv) x) lv _ HA5.out hnm hllm ?_ ?_).mono ?_); exact HNS.out.below (q7_bel (by with_reducible assumption)) (Nat.le_refl _); exact HLS.out.below (q7_bel (by with_reducible assumption)) (Nat.le_refl _); rintro e y1 ⟨rfl, ga⟩; have hs1 := q7_below lt0 lt1 lt2 lt3 lt4 lt5 lt6 (by with_reducible assumption) ga; clear ga)
                  | (go_at_call 27; (with_reducible refine (owns_as wa wn wc (tgL ss ts ds ds x) true _ HB.out hwm ?_).mono ?_); exact HWS.out.below (q7_bel (by with_reducible assumption)) (Nat.le_refl _); rintro e y1 ⟨rfl, ga⟩; have hs1 := q7_below lt0 lt1 lt2 lt3 lt4 lt5 lt6 (by with_reducible assumption) ga; clear ga)
                  | (go_at_call 27; (with_reducible refine (owns_as na nn nc (tgL (txS ss ts ds x lv) (txT ss ts ds x lv) (txD ss ts ds x lv) (txD ss ts ds x lv) x) true _ HB6.out hnm ?_).mono ?_); exact HNS.out.below (q7_bel (by with_reducible assumption)) (Nat.le_refl _); rintro e y1 ⟨rfl, ga⟩; have hs1 := q7_below lt0 lt1 lt2 lt3 lt4 lt5 lt6 (by with_reducible assumption) ga; clear ga))
              all_goals (
                have HE := hide (HM.out.below (q7_bel hs1)).bel
                clear hs1 HS0 HM
                go_wp2
                go_ret
                exact ⟨rfl, HE.out⟩)

theorem own : ownKnob Try.prog.godebug = none := by kernel_rfl

theorem laidOut : laidOutB Try.prog = true := by kernel_rfl

theorem walk_Taints (a : Option Addr) (len cap : Nat) (w : World) (hl : len ≤ maxLen) (hc : len ≤ 1048576 → Cd w a len) :
    Calls Try.prog 4 #[.slice a len cap] w fun e w' => e = .returned (.bool true) ∧ Below w.heap.size w w' := by
  by_cases h : len ≤ 1048576
  · exact taints_small a len cap w (hc h)
  · exact taints_big a len cap w hl (by omega)

theorem open_code {H : Type} {enc : TypeId × Value → H} {P : Program} {w : World} {t e : TypeId} {a : Option Addr} {len cap fuel : Nat} {x : DataW H × List MemPlace}
    (hsl : P.underlying t = some (.slice e)) (he : P.underlying e = some (.int .u8)) (hce : P.cellsOf e = 1)
    (h : DataW.trod enc P w 0 (fun _ => true) true fuel t (Value.slice a len cap).cells.toList = some x) : len ≤ maxLen ∧ (len ≤ 1048576 → Cd w a len) := by
  rcases open_ints hsl he hce h with ⟨hcs, _⟩ | ⟨y, l, c', zs, hcs, _, hl, hm, hz, _, hcell, hwf⟩
  · simp [Value.cells] at hcs
    obtain ⟨rfl, rfl, rfl⟩ := hcs
    exact ⟨Nat.zero_le _, fun _ => ⟨by omega, fun h => by omega⟩⟩
  · simp [Value.cells] at hcs
    obtain ⟨rfl, rfl, rfl⟩ := hcs
    simp at hz
    refine ⟨by omega, fun hsm => ⟨hsm, fun hp => ?_⟩⟩
    obtain ⟨b, off, spot⟩ := y
    have hc0 := hcell 0 (by omega)
    have hspot : spot = none := by simpa [Addr.add] using World.cell?_spot hc0
    subst hspot
    refine ⟨b, off, rfl, World.block_lt_of_cell? _ _ hc0, fun i hi => ?_⟩
    have hadd : (Addr.mk b off none).add i = ⟨b, off + i, none⟩ := by cases i <;> simp [Addr.add]
    have hci := hcell i (by omega)
    rw [hadd] at hci
    have hil : i < zs.length := by omega
    have hge : zs.getD i 0 = zs[i] := by simp [List.getD, hil]
    have hw := hwf (zs.getD i 0) (by rw [hge]; exact List.getElem_mem hil)
    have hb : 0 ≤ zs.getD i 0 ∧ zs.getD i 0 ≤ 255 := by simpa [Lit.wf, IntKind.min, IntKind.max, IntKind.signed, IntKind.bits] using hw
    exact ⟨_, hb.1, hb.2, hci⟩

set_option maxRecDepth 100000 in
theorem lifted_Taints (os : Os) (started : os.Started) (H : Type) (enc : TypeId × Value → H) :
    ReturnsInHanded {} Try.checked os 4 .any (Rows.fnTaintsSpec.pre6 enc Try.prog Try.f4 Rows.fnTaintsRow.domain false) (Rows.fnTaintsSpec.post enc Try.prog Try.f4 false true false false) := by
  refine returnsInHanded_of_change (C := Try.checked) own started (by kernel_rfl) Try.func4
    (ChangeSpec.witness6 (enc := enc) (C := Try.checked) false ⟨#[], #[.slice none 0 0], []⟩ 8 (by kernel_rfl) (by kernel_rfl) (by kernel_rfl) (by kernel_rfl)) ?_
  intro W base args ds gs before hval0 hW hcnd _
  have hval : ∀ (j : Nat) t v, Try.f4.params[j]? = some t → args[j]? = some v → Value.okWide Try.prog W .any base t v := hval0
  have hW' := hW
  obtain ⟨p, q, hA0, hV, rfl, hfz, hnd⟩ := hW
  have hA : DataW.TrodAll enc Try.prog W 0 (fun _ => true) true Try.f4.params.toList args.toList ds p := hA0
  rw [Try.params4] at hA hval
  obtain ⟨v0, vs0, d0, ds0, p0, q0, hargs, rfl, rfl, h0, r0⟩ := trodAll_cons hA
  obtain ⟨rfl, rfl, rfl⟩ := trodAll_nil r0
  obtain rfl : args = #[v0] := by cases args; simp_all
  obtain ⟨rfl, rfl⟩ := trodVars_none hV
  obtain ⟨a0, len0, cap0, rfl⟩ := okWide_slice Try.underlying50 (hval 0 50 v0 rfl rfl)
  have k0 := h0
  have lt0 : ∀ x ∈ p0, x.block < W.heap.size := by obtain ⟨m, hm⟩ := k0; exact DataW.trod_lt m _ _ _ hm
  obtain ⟨hl0, hc0⟩ : len0 ≤ maxLen ∧ (len0 ≤ 1048576 → Cd W a0 len0) := by
    obtain ⟨fuel, hf⟩ := h0
    exact open_code Try.underlying50 Try.underlying5 (by kernel_rfl) hf
  clear hA0 hval0
  refine (walk_Taints a0 len0 cap0 W hl0 hc0).mono fun e W' ⟨he, bel⟩ => ?_
  subst he
  exact ⟨_, rfl, _, _, _, [], _, [], hW', trodAll_mk1 (shut_bool Try.underlying4 _), (trodAll_cons_mk (Below.trod laidOut (by kernel_rfl) (of_decide_eq_true (by kernel_rfl)) k0 bel lt0) trodAll_mk0), rfl, bel.frame _, fun h => by cases h⟩

theorem fnTaints_holds : Rows.FnTaintsSaid :=
  OpenClaim.holds_of_wide 4 Try.f4 rfl rfl rfl rfl rfl rfl rfl ⟨rfl, rfl, rfl, rfl, rfl⟩ rfl rfl rfl rfl rfl (by kernel_rfl) Try.func4 (by kernel_rfl)
    (of_decide_eq_true (by kernel_rfl)) (by unfold Func.isWrapper; first | (rw [if_pos (by decide +kernel)]; kernel_rfl) | (rw [if_neg (by decide +kernel)]; exact ⟨rfl, rfl⟩))
    (fun os started H enc _ => lifted_Taints os started H enc)
#print axioms fnTaints_holds

end Go.Proofs.Ytgkjmeogdomgmaa
