import Derived.Test.YtnibngigbcakkaaGreatF33
import Derived.Test.YtnibngigbcakkaaGreatF40
import Derived.Test.YtnibngigbcakkaaGreatF36
import Derived.Test.YtnibngigbcakkaaGreatF30
import Derived.Test.YtnibngigbcakkaaGreatF37
import Derived.Test.YtnibngigbcakkaaGreatF11
import Derived.WalkKit
import Derived.ProofKit
import Derived.OpenShut
import Derived.ShutString
import Derived.ChangeOld
import Derived.Below
import Derived.WalkSpells
import Derived.Deep.QuietTactic
import Derived.BigQuiet
import Derived.Deep.RegionWith
import Derived.Deep.WholeRow
import Derived.Deep.DeepCutAuto
import Derived.Deep.RegionHeld2
import Derived.Deep.AppendLies
import Derived.Deep.RegionLaw
namespace Go.Proofs.YtnibngigbcakkaaGreat
open Go.ChangeShapes Go.WideShapes Go.ChangeAt Go.RowKit

theorem set3_at0 (X : World) (P : Nat) (v0 v1 v2 : Value) (h : ∃ u, X.cell? ⟨P, 0, none⟩ = some u) : (((X.setCell ⟨P, 0, none⟩ v0).setCell ⟨P, 1, none⟩ v1).setCell ⟨P, 2, none⟩ v2).cell? ⟨P, 0, none⟩ = some v0 := by
  obtain ⟨u, h⟩ := h
  rw [World.cell?_setCell_other _ _ _ _ (fun e => by injection e with _ e2; omega)]
  rw [World.cell?_setCell_other _ _ _ _ (fun e => by injection e with _ e2; omega)]
  exact World.cell?_setCell_same _ _ _ h

theorem set3_at1 (X : World) (P : Nat) (v0 v1 v2 : Value) (h : ∃ u, X.cell? ⟨P, 1, none⟩ = some u) : (((X.setCell ⟨P, 0, none⟩ v0).setCell ⟨P, 1, none⟩ v1).setCell ⟨P, 2, none⟩ v2).cell? ⟨P, 1, none⟩ = some v1 := by
  obtain ⟨u, h⟩ := h
  rw [World.cell?_setCell_other _ _ _ _ (fun e => by injection e with _ e2; omega)]
  exact World.cell?_setCell_same _ _ _ ((World.cell?_setCell_other _ _ _ _ (fun e => by injection e with _ e2; omega)).trans h)

theorem set3_at2 (X : World) (P : Nat) (v0 v1 v2 : Value) (h : ∃ u, X.cell? ⟨P, 2, none⟩ = some u) : (((X.setCell ⟨P, 0, none⟩ v0).setCell ⟨P, 1, none⟩ v1).setCell ⟨P, 2, none⟩ v2).cell? ⟨P, 2, none⟩ = some v2 := by
  obtain ⟨u, h⟩ := h
  exact World.cell?_setCell_same _ _ _ ((World.cell?_setCell_other _ _ _ _ (fun e => by injection e with _ e2; omega)).trans ((World.cell?_setCell_other _ _ _ _ (fun e => by injection e with _ e2; omega)).trans h))

/-- tables that lie in blocks of S and read as ss, ts, ds. -/
def TbS (S : Nat → Prop) (a : Option Addr) (n : Nat) (ss : List (Int × List Int)) (ta : Option Addr) (tn : Nat) (ts : List Int) (da : Option Addr) (dn : Nat) (ds : List Int) (w : World) : Prop :=
  n ≤ 1048576 ∧ RgS S a n ss w ∧ tn ≤ 1048576 ∧ FrS S ta tn ts w ∧ dn ≤ 1048576 ∧ FrS S da dn ds w

theorem TbS.loc {S : Nat → Prop} {a : Option Addr} {n : Nat} {ss : List (Int × List Int)} {ta : Option Addr} {tn : Nat} {ts : List Int} {da : Option Addr} {dn : Nat} {ds : List Int} : Loc S (TbS S a n ss ta tn ts da dn ds) := fun w w' hk h =>
  ⟨h.1, RgS.loc w w' hk h.2.1, h.2.2.1, FrS.loc w w' hk h.2.2.2.1, h.2.2.2.2.1, FrS.loc w w' hk h.2.2.2.2.2⟩

theorem TbS.mono {S S' : Nat → Prop} {a : Option Addr} {n : Nat} {ss : List (Int × List Int)} {ta : Option Addr} {tn : Nat} {ts : List Int} {da : Option Addr} {dn : Nat} {ds : List Int} {w : World} (h : TbS S a n ss ta tn ts da dn ds w) (hs : ∀ k, S k → S' k) : TbS S' a n ss ta tn ts da dn ds w :=
  ⟨h.1, h.2.1.mono hs, h.2.2.1, h.2.2.2.1.mono hs, h.2.2.2.2.1, h.2.2.2.2.2.mono hs⟩

theorem TbS.rt {S : Nat → Prop} {a : Option Addr} {n : Nat} {ss : List (Int × List Int)} {ta : Option Addr} {tn : Nat} {ts : List Int} {da : Option Addr} {dn : Nat} {ds : List Int} {w : World} (h : TbS S a n ss ta tn ts da dn ds w) : RT w a n ss ta tn ts da dn ds :=
  ⟨by have := h.1; unfold maxLen; omega, h.2.1.sls, by have := h.2.2.1; unfold maxLen; omega, h.2.2.2.1.sl, by have := h.2.2.2.2.1; unfold maxLen; omega, h.2.2.2.2.2.sl⟩

theorem TbS.of3 {S1 S2 S3 S : Nat → Prop} {a : Option Addr} {n : Nat} {ss : List (Int × List Int)} {ta : Option Addr} {tn : Nat} {ts : List Int} {da : Option Addr} {dn : Nat} {ds : List Int} {w : World} (o1 : OR S1 a n ss w) (o2 : OS S2 ta tn ts w) (o3 : OS S3 da dn ds w) (h1 : ∀ k, S1 k → S k) (h2 : ∀ k, S2 k → S k) (h3 : ∀ k, S3 k → S k) : TbS S a n ss ta tn ts da dn ds w :=
  ⟨by have := o1.2.1; omega, o1.rgS.mono h1, o2.2.1, o2.frS h2, o3.2.1, o3.frS h3⟩

theorem OTW.tbS {S : Nat → Prop} {tc : Nat} {a : Option Addr} {n : Nat} {ss : List (Int × List Int)} {ta : Option Addr} {tn : Nat} {ts : List Int} {da : Option Addr} {dn : Nat} {ds : List Int} {w : World} (h : OTW S a n ss ta tn tc ts da dn ds w) : TbS S a n ss ta tn ts da dn ds w := by
  obtain ⟨S1, S2, S3, h1, h2, h3, _, _, _, o1, o2, o3⟩ := h
  exact TbS.of3 o1 o2.1 o3 h1 h2 h3

/-- tables whose row of tags was appended to. -/
theorem tb_app {S1 S2 S3 S : Nat → Prop} {tc g cp : Nat} {x : Int} {a : Option Addr} {n : Nat} {ss : List (Int × List Int)} {ta : Option Addr} {tn : Nat} {ts : List Int} {da : Option Addr} {dn : Nat} {ds : List Int} {X w5 : World} {o : Obj} (h1 : ∀ k, S1 k → S k) (h2 : ∀ k, S2 k → S k) (h3 : ∀ k, S3 k → S k) (d12 : ∀ k, S1 k → ¬ S2 k) (d23 : ∀ k, S2 k → ¬ S3 k) (o1 : OR S1 a n ss X) (o2 : RW S2 ta tn tc ts X) (o3 : OS S3 da dn ds X)
    (hg : (X.alloc o).grownBy w5 (Value.slice ta tn tc).ownBlock) (hat : (Value.slice ta tn tc).ownBlock = some g ∨ g = X.heap.size + 1) (hown : w5.ownsRow 0 2 1 (.slice (some ⟨g, 0, none⟩) (tn + 1) cp) (tn + 1) (ts.map (Value.int .i64) ++ [.int .i64 x])) (hn : tn + 1 ≤ 1048576) :
    TbS (fun k => S k ∨ InR X.heap.size w5.heap.size k) a n ss (some ⟨g, 0, none⟩) (tn + 1) (ts ++ [x]) da dn ds w5 ∧ OutS S2 (X.alloc o) w5 := by
  obtain ⟨x5, u5⟩ := (RW.loc.alloc o2 o).app hg (by rw [World.size_alloc]; exact hat) hown hn
  refine ⟨TbS.of3 (OR.loc.out u5 d12 (OR.loc.alloc o1 o)) x5 (OS.loc.out u5 (fun k h h' => d23 k h' h) (OS.loc.alloc o3 o)) (fun k h => .inl (h1 k h)) (fun k h => ?_) (fun k h => .inl (h3 k h)), u5⟩
  rcases h with h | ⟨h, h'⟩
  · exact .inl (h2 k h)
  · exact .inr ⟨by rw [h]; simp, h'⟩

theorem bent_keep {X w5 : World} {o : Obj} {S : Nat → Prop} (u : OutS S (X.alloc o) w5) {k : Nat} (hk : k < X.heap.size) (hn : ¬ S k) : w5.heap[k]? = X.heap[k]? := (u.block k (by simp; omega) hn).trans (Below.heap_alloc X o k hk)

theorem bent_app {p : Nat} {a : Option Addr} {len cap t : Nat} {w X w5 : World} {o : Obj} {S : Nat → Prop} (u : OutS S (X.alloc o) w5) (hS : ∀ k, S k → w.heap.size + 1 ≤ k) (hz : w.heap.size + 1 ≤ X.heap.size) (hp : p < w.heap.size) (hs : Src X p a len cap t) (ho : Outside p (p + 1) w X) : Src w5 p a len cap t ∧ Outside p (p + 1) w w5 := by
  have B5 : Below (w.heap.size + 1) X w5 := ((Below.refl (w.heap.size + 1) X).alloc (by omega) o).trans (u.below hS (by simp; omega))
  exact ⟨hs.belowB B5 (by omega), ho.trans' B5 (by omega)⟩

/-- what l3Bent gives. -/
def BentT (p : Nat) (a : Option Addr) (len cap t : Nat) (w : World) (e : Ending) (w' : World) : Prop :=
  ∃ (ra : Option Addr) (n rc : Nat) (ss : List (Int × List Int)) (ta : Option Addr) (tn tc : Nat) (ts : List Int) (da : Option Addr) (dn dc : Nat) (ds : List Int) (t' : Nat), e = .returned (.agg #[.slice ra n rc, .slice ta tn tc, .slice da dn dc]) ∧ TbS (InR (w.heap.size + 1) w'.heap.size) ra n ss ta tn ts da dn ds w' ∧ Src w' p a len cap t' ∧ t' ≤ t + 300 ∧ Outside p (p + 1) w w'

theorem BentT.fin {p : Nat} {pa : Option Addr} {len cap t t' rc tc dc : Nat} {S : Nat → Prop} {a : Option Addr} {n : Nat} {ss : List (Int × List Int)} {ta : Option Addr} {tn : Nat} {ts : List Int} {da : Option Addr} {dn : Nat} {ds : List Int} {w X : World} (hp : p < w.heap.size) (h1 : TbS S a n ss ta tn ts da dn ds X) (hS : ∀ k, S k → w.heap.size + 1 ≤ k ∧ k < X.heap.size) (h5 : Src X p pa len cap t') (h6 : t' ≤ t + 300) (h7 : Outside p (p + 1) w X) (v0 v1 v2 : Value) :
    BentT p pa len cap t w (.returned (.agg #[.slice a n rc, .slice ta tn tc, .slice da dn dc])) (((X.setCell ⟨w.heap.size, 0, none⟩ v0).setCell ⟨w.heap.size, 1, none⟩ v1).setCell ⟨w.heap.size, 2, none⟩ v2) := by
  have hn : ¬ S w.heap.size := fun e => by have := (hS _ e).1; omega
  exact ⟨a, n, rc, ss, ta, tn, tc, ts, da, dn, dc, ds, t', rfl, (TbS.loc.setC (TbS.loc.setC (TbS.loc.setC h1 (q := ⟨w.heap.size, 0, none⟩) hn v0) (q := ⟨w.heap.size, 1, none⟩) hn v1) (q := ⟨w.heap.size, 2, none⟩) hn v2).mono (fun k hk => ⟨(hS k hk).1, by have := (hS k hk).2; simpa using this⟩),
    ((h5.setCell (by exact hp) _).setCell (by exact hp) _).setCell (by exact hp) _, h6, ((h7.setNew (Nat.le_refl _) _).setNew (Nat.le_refl _) _).setNew (Nat.le_refl _) _⟩

/-- the variable at q and the result at r, in one. -/
structure V6 (q r : Nat) (x0 x1 x2 : Value) (X : World) : Prop where
  q0 : X.cell? ⟨q, 0, none⟩ = some x0
  q1 : X.cell? ⟨q, 1, none⟩ = some x1
  q2 : X.cell? ⟨q, 2, none⟩ = some x2
  qf : ∀ j, X.frozen? ⟨q, j, none⟩ = false
  d0 : X.cell? ⟨r, 0, none⟩ = some (.slice none 0 0)
  d1 : X.cell? ⟨r, 1, none⟩ = some (.slice none 0 0)
  d2 : X.cell? ⟨r, 2, none⟩ = some (.slice none 0 0)
  df : ∀ j, X.frozen? ⟨r, j, none⟩ = false

theorem V6.keep {q r : Nat} {x0 x1 x2 : Value} {X Y : World} (h : V6 q r x0 x1 x2 X) (hq : Y.heap[q]? = X.heap[q]?) (hr : Y.heap[r]? = X.heap[r]?) : V6 q r x0 x1 x2 Y :=
  ⟨(World.cell?_of_block (a := ⟨q, 0, none⟩) hq).trans h.q0, (World.cell?_of_block (a := ⟨q, 1, none⟩) hq).trans h.q1, (World.cell?_of_block (a := ⟨q, 2, none⟩) hq).trans h.q2, fun j => (World.frozen?_of_block (a := ⟨q, j, none⟩) hq).trans (h.qf j),
   (World.cell?_of_block (a := ⟨r, 0, none⟩) hr).trans h.d0, (World.cell?_of_block (a := ⟨r, 1, none⟩) hr).trans h.d1, (World.cell?_of_block (a := ⟨r, 2, none⟩) hr).trans h.d2, fun j => (World.frozen?_of_block (a := ⟨r, j, none⟩) hr).trans (h.df j)⟩

theorem V6.out {p q r : Nat} {x0 x1 x2 : Value} {X Y : World} (h : V6 q r x0 x1 x2 X) (ho : Outside p (p + 1) X Y) (hq : p < q) (hr : p < r) : V6 q r x0 x1 x2 Y :=
  h.keep (ho.block q (World.block_lt_of_cell? _ _ h.q0) (.inr hq)) (ho.block r (World.block_lt_of_cell? _ _ h.d0) (.inr hr))

theorem V6.set0 {q r : Nat} {x0 x1 x2 : Value} {X : World} (h : V6 q r x0 x1 x2 X) (hqr : q ≠ r) (v : Value) : V6 q r v x1 x2 (X.setCell ⟨q, 0, none⟩ v) := by
  have hr := Below.heap_setCell X ⟨q, 0, none⟩ v r (fun e => hqr e.symm)
  exact ⟨World.cell?_setCell_same _ _ _ h.q0, (World.cell?_setCell_other _ _ _ _ (fun e => by injection e with _ e2; omega)).trans h.q1, (World.cell?_setCell_other _ _ _ _ (fun e => by injection e with _ e2; omega)).trans h.q2, fun j => by simpa using h.qf j,
   (World.cell?_of_block (a := ⟨r, 0, none⟩) hr).trans h.d0, (World.cell?_of_block (a := ⟨r, 1, none⟩) hr).trans h.d1, (World.cell?_of_block (a := ⟨r, 2, none⟩) hr).trans h.d2, fun j => (World.frozen?_of_block (a := ⟨r, j, none⟩) hr).trans (h.df j)⟩

theorem V6.set1 {q r : Nat} {x0 x1 x2 : Value} {X : World} (h : V6 q r x0 x1 x2 X) (hqr : q ≠ r) (v : Value) : V6 q r x0 v x2 (X.setCell ⟨q, 1, none⟩ v) := by
  have hr := Below.heap_setCell X ⟨q, 1, none⟩ v r (fun e => hqr e.symm)
  exact ⟨(World.cell?_setCell_other _ _ _ _ (fun e => by injection e with _ e2; omega)).trans h.q0, World.cell?_setCell_same _ _ _ h.q1, (World.cell?_setCell_other _ _ _ _ (fun e => by injection e with _ e2; omega)).trans h.q2, fun j => by simpa using h.qf j,
   (World.cell?_of_block (a := ⟨r, 0, none⟩) hr).trans h.d0, (World.cell?_of_block (a := ⟨r, 1, none⟩) hr).trans h.d1, (World.cell?_of_block (a := ⟨r, 2, none⟩) hr).trans h.d2, fun j => (World.frozen?_of_block (a := ⟨r, j, none⟩) hr).trans (h.df j)⟩

theorem V6.set2 {q r : Nat} {x0 x1 x2 : Value} {X : World} (h : V6 q r x0 x1 x2 X) (hqr : q ≠ r) (v : Value) : V6 q r x0 x1 v (X.setCell ⟨q, 2, none⟩ v) := by
  have hr := Below.heap_setCell X ⟨q, 2, none⟩ v r (fun e => hqr e.symm)
  exact ⟨(World.cell?_setCell_other _ _ _ _ (fun e => by injection e with _ e2; omega)).trans h.q0, (World.cell?_setCell_other _ _ _ _ (fun e => by injection e with _ e2; omega)).trans h.q1, World.cell?_setCell_same _ _ _ h.q2, fun j => by simpa using h.qf j,
   (World.cell?_of_block (a := ⟨r, 0, none⟩) hr).trans h.d0, (World.cell?_of_block (a := ⟨r, 1, none⟩) hr).trans h.d1, (World.cell?_of_block (a := ⟨r, 2, none⟩) hr).trans h.d2, fun j => (World.frozen?_of_block (a := ⟨r, j, none⟩) hr).trans (h.df j)⟩

theorem one_newB {W : World} {N : Nat} {x : Value} (h0 : W.cell? ⟨N, 0, none⟩ = some x) : ∀ j u, [x][j]? = some u → W.cell? ((Addr.mk N 0 none).add j) = some u := by
  intro j u hj
  match j, hj with
  | 0, hj => simp at hj; subst hj; simpa [Addr.add] using h0

/-- numbers that a make has just laid. -/
theorem made_fr (U : World) (m : Nat) (t : TypeId) (S : Nat → Prop) (hS : S U.heap.size) : FrS S (some ⟨U.heap.size, 0, none⟩) m (List.replicate m 0) (U.alloc (.cells (madeCells #[.int .i64 0] m) t)) := by
  refine ⟨by simp, fun _ => ⟨U.heap.size, 0, rfl, hS, by simp, fun i hi => ?_⟩⟩
  have g0 : gt (List.replicate m (0 : Int)) i = 0 := by simp [gt, hi]
  rw [World.cell?_alloc_new, g0]
  have i1 : i % 1 = 0 := by omega
  simp [madeCells, hi, i1]

theorem V6.alloc {q r : Nat} {x0 x1 x2 : Value} {X : World} (h : V6 q r x0 x1 x2 X) (o : Obj) : V6 q r x0 x1 x2 (X.alloc o) :=
  h.keep (Below.heap_alloc X o q (World.block_lt_of_cell? _ _ h.q0)) (Below.heap_alloc X o r (World.block_lt_of_cell? _ _ h.d0))

theorem V6.below {q r : Nat} {x0 x1 x2 : Value} {X Y : World} (h : V6 q r x0 x1 x2 X) (hb : Below X.heap.size X Y) : V6 q r x0 x1 x2 Y :=
  h.keep (hb.block q (World.block_lt_of_cell? _ _ h.q0)) (hb.block r (World.block_lt_of_cell? _ _ h.d0))

/-- what stands behind an entering into drawn tables. -/
structure CutB (p : Nat) (pa : Option Addr) (len cap t c : Nat) (w w1 w2 : World) (x0 x1 x2 : Value) (a : Option Addr) (n : Nat) (ss : List (Int × List Int)) (ta : Option Addr) (tn : Nat) (ts : List Int) (da : Option Addr) (dn : Nat) (ds : List Int) (tc : Nat) (ea : Option Addr) (en : Nat) (es : List (Int × List Int)) (W : World) : Prop where
  v : V6 w1.heap.size w.heap.size x0 x1 x2 W
  o : OTW (InR (w.heap.size + 1 + 1 + 1) w1.heap.size) a n ss ta tn tc ts da dn ds W
  r : OR (InR c W.heap.size) ea en es W
  s : Src W p pa len cap t
  u : Outside p (p + 1) w W
  l : w1.heap.size < c ∧ c ≤ W.heap.size

theorem CutB.alloc {p : Nat} {pa : Option Addr} {len cap t c : Nat} {w w1 w2 : World} {x0 x1 x2 : Value} {a : Option Addr} {n : Nat} {ss : List (Int × List Int)} {ta : Option Addr} {tn : Nat} {ts : List Int} {da : Option Addr} {dn : Nat} {ds : List Int} {tc : Nat} {ea : Option Addr} {en : Nat} {es : List (Int × List Int)} {W : World} (h : CutB p pa len cap t c w w1 w2 x0 x1 x2 a n ss ta tn ts da dn ds tc ea en es W) (o : Obj) : CutB p pa len cap t c w w1 w2 x0 x1 x2 a n ss ta tn ts da dn ds tc ea en es (W.alloc o) := by
  have b := (Below.refl W.heap.size W).alloc (Nat.le_refl _) o
  exact ⟨h.v.alloc o, h.o.keep (fun k _ hl => b.block k hl), (OR.loc.alloc h.r o).mono (fun k hk => ⟨hk.1, by have := hk.2; simp; omega⟩), h.s.below b, h.u.trans (Outside.of_below b), ⟨h.l.1, by have := h.l.2; simp; omega⟩⟩

theorem CutB.set1 {p : Nat} {pa : Option Addr} {len cap t c B i : Nat} {w w1 w2 : World} {x0 x1 x2 : Value} {a : Option Addr} {n : Nat} {ss : List (Int × List Int)} {ta : Option Addr} {tn : Nat} {ts : List Int} {da : Option Addr} {dn : Nat} {ds : List Int} {tc : Nat} {ea : Option Addr} {en : Nat} {es : List (Int × List Int)} {W : World} (h : CutB p pa len cap t c w w1 w2 x0 x1 x2 a n ss ta tn ts da dn ds tc ea en es W) (hB : B < c) (h1 : w1.heap.size < B) (h2 : w.heap.size < B) (hp : p < w.heap.size) (v : Value) : CutB p pa len cap t c w w1 w2 x0 x1 x2 a n ss ta tn ts da dn ds tc ea en es (W.setCell ⟨B, i, none⟩ v) := by
  have kp : ∀ k, k ≠ B → (W.setCell ⟨B, i, none⟩ v).heap[k]? = W.heap[k]? := fun k hk => Below.heap_setCell _ _ _ _ (fun e => hk e)
  exact ⟨h.v.keep (kp _ (by omega)) (kp _ (by omega)), h.o.keep (fun k hk _ => kp k (by have := hk.2; omega)), (OR.loc.setC h.r (q := ⟨B, i, none⟩) (fun e => by have := e.1; simp only at this; omega) v).mono (fun k hk => ⟨hk.1, by have := hk.2; simpa using this⟩), h.s.setCell (q := ⟨B, i, none⟩) (by show p < B; omega) v, h.u.setNew (q := ⟨B, i, none⟩) (by show w.heap.size ≤ B; omega) v, ⟨h.l.1, by have := h.l.2; simpa using this⟩⟩

theorem CutB.set3 {p : Nat} {pa : Option Addr} {len cap t c B : Nat} {w w1 w2 : World} {x0 x1 x2 : Value} {a : Option Addr} {n : Nat} {ss : List (Int × List Int)} {ta : Option Addr} {tn : Nat} {ts : List Int} {da : Option Addr} {dn : Nat} {ds : List Int} {tc : Nat} {ea : Option Addr} {en : Nat} {es : List (Int × List Int)} {W : World} (h : CutB p pa len cap t c w w1 w2 x0 x1 x2 a n ss ta tn ts da dn ds tc ea en es W) (hB : B < c) (h1 : w1.heap.size < B) (h2 : w.heap.size < B) (hp : p < w.heap.size) (v0 v1 v2 : Value) : CutB p pa len cap t c w w1 w2 x0 x1 x2 a n ss ta tn ts da dn ds tc ea en es (((W.setCell ⟨B, 0, none⟩ v0).setCell ⟨B, 1, none⟩ v1).setCell ⟨B, 2, none⟩ v2) :=
  ((h.set1 hB h1 h2 hp v0).set1 hB h1 h2 hp v1).set1 hB h1 h2 hp v2

theorem infoInt3 : (Tryz.prog.info? 2).map (fun i => (i.zero, i.size, i.bytes)) = some (some (.int .i64 0), 1, 8) := by kernel_rfl

def elC (ss : List (Int × List Int)) (zs : List Int) : Int := if codeFor ss zs = 0 then etC ss zs else codeFor ss zs

def elV (ss : List (Int × List Int)) (zs : List Int) : Int := if elC ss zs = 0 then (enQ ss zs : Int) else 0

def elL (ss : List (Int × List Int)) (zs : List Int) : List (Int × List Int) := if elC ss zs = 0 then enS ss zs else []

set_option maxRecDepth 100000 in
set_option maxHeartbeats 1000000 in
theorem specEnterLabel_calls (a : Option Addr) (n ca : Nat) (ss : List (Int × List Int)) (b : Option Addr) (lb cb : Nat) (zs : List Int) (w : World) (hn : n ≤ maxLen) (hx : Sls w a n ss) (hlb : lb ≤ maxLen) (hy : Sl w b lb zs) :
    Calls Tryz.prog 47 #[.agg #[.slice a n ca], .agg #[.slice b lb cb]] w fun e w' => ∃ ra rn rc, e = .returned (.agg #[.int .i64 (elC ss zs), .int .i64 (elV ss zs), .slice ra rn rc]) ∧ OR (InR w.heap.size w'.heap.size) ra rn (elL ss zs) w' ∧ Below w.heap.size w w' := by
  have M0 := (((Mm.start w).alloc1 (.slice a n ca) 37).alloc1 (.slice b lb cb) 84).alloc3 (.int .i64 0) (.int .i64 0) (.slice none 0 0) 88
  simp only [World.size_alloc] at M0
  have hx0 := hx.below M0.bel (Nat.le_refl _)
  have hy0 := hy.below M0.bel (Nat.le_refl _)
  have hlen := hx.1
  by_cases hr : faultR ss = 0
  · have er : (faultR ss != 0) = false := by simp [hr]
    have HCF : Hid (codeFor ss zs = fault zs) := if_pos hr
    have good := good_of hr
    have few := good.few
    clear hr
    by_cases hz : fault zs = 0
    · have ez : (fault zs != 0) = false := by simp [hz]
      obtain rfl : lb = 4 := by have := fault_len hz; have := hy.1; omega
      have HE : Hid (elC ss zs = etC ss zs) := if_pos (HCF.out.trans hz)
      have Hz := hide hz
      have hsum := good_sum good
      clear hz
      go_enter Tryz.func47, Tryz.ntmps47
      go_wp2_with fail
      refine (l2Fault_calls _ a n ca ss _ hn (M0.lt 4 rfl) (M0.cell 4 rfl) hx0).mono ?_
      rintro e w1 ⟨rfl, g1⟩
      have M1 := M0.below g1
      have hzw := g1.size
      simp only [World.size_alloc] at hzw
      have hx1 := hx0.below g1 (Nat.le_refl _)
      have hy1 := hy0.below g1 (Nat.le_refl _)
      clear g1 hx0 hy0 M0
      go_wp2_with fail
      refine (l1FaultO_calls _ 0 b 4 cb zs _ hlb (M1.lt 3 rfl) (M1.cell 3 rfl) hy1).mono ?_
      rintro e w2 ⟨rfl, g2⟩
      have M2 := M1.below g2
      have hz2 := g2.size
      have hx2 := hx1.below g2 (Nat.le_refl _)
      have hy2 := hy1.below g2 (Nat.le_refl _)
      have c2 := M2.cell 4 rfl
      clear g2 hx1 hy1 M1
      go_wp2_with fail
      refine (l2Copy_R a n ca ss _ (by omega) hx2).mono ?_
      rintro e w3 ⟨ra, rc, rfl, o3, ⟨xs, x3⟩, g3⟩
      have hz3 := g3.size
      have M3 := ((M2.below g3).fact OR.loc o3).alloc1 (.slice ra n rc) 37
      have hy3 := (hy2.below g3 (Nat.le_refl _)).below ((Below.refl w3.heap.size w3).alloc (Nat.le_refl _) (.cells #[.slice ra n rc] 37)) (Nat.le_refl _)
      have HvT : Hid (∀ g, (Value.slice ra n rc).ownBlock = some g → g < w3.heap.size) := fun g hg => (x3.lt g hg).2
      have x4 := x3.alloc (.cells #[.slice ra n rc] 37)
      clear g3 hx2 hy2 M2 c2 o3 x3
      go_wp2_with fail
      refine (l2Enter_O w3.heap.size (w.heap.size + 1) w2.heap.size w3.heap.size ra b n rc cb ss zs xs _ (M3.lt 0 rfl) (Nat.le_refl _) (by omega) hz3 (M3.cell 0 rfl) (M3.fz 0 rfl) (M3.cell 4 rfl) (M3.get 0 rfl) x4 HvT.out good hy3 Hz.out).mono ?_
      rintro e w4 ⟨rfl, hfin, u4, _⟩
      have M4 : Mm w w4 [(w.heap.size + 1 + 1, 0, .int .i64 0), (w.heap.size + 1 + 1, 1, .int .i64 0), (w.heap.size + 1 + 1, 2, .slice none 0 0)] [] := (M3.sub (by simp) (by simp)).out (B := w2.heap.size) (T := w3.heap.size + 1) (u4.mono (fun k hk => by rcases hk with hk | hk; exact ⟨hk.1, by have := hk.2; omega⟩; exact ⟨by omega, by omega⟩)) (by omega) (by simp <;> omega) (by simp)
      have hz4 := u4.size
      simp only [World.size_alloc] at hz4
      have hzz : w.heap.size + 1 + 1 < w2.heap.size ∧ w.heap.size + 1 + 1 < w4.heap.size := ⟨by omega, by omega⟩
      have HZ := hide hzz
      have HZ3 : Hid (w2.heap.size ≤ w3.heap.size ∧ w3.heap.size < w4.heap.size) := ⟨hz3, by omega⟩
      clear u4 M3 hy3 x4 HvT hzz
      by_cases ht : etC ss zs = 0
      · obtain ⟨a4, ca4, c4, o4⟩ := hfin ht
        rw [if_pos ht]
        have HV : Hid (elV ss zs = (enQ ss zs : Int)) := if_pos (HE.out.trans ht)
        have HL : Hid (elL ss zs = enS ss zs) := if_pos (HE.out.trans ht)
        have Ht := hide ht
        have r0 := M4.cell 0 rfl
        have r1 := M4.cell 1 rfl
        have r2 := M4.cell 2 rfl
        have f0 := M4.fz 0 rfl
        have f1 := M4.fz 1 rfl
        have f2 := M4.fz 2 rfl
        have HB := hide M4.bel
        have HO := hide o4
        clear hfin ht M4 o4 hz3 hz4 hz2 hzw
        go_wp2
        refine bodyPost_ret (v := .agg #[.int .i64 0, .int .i64 (enQ ss zs : Int), .slice a4 (enS ss zs).length ca4]) (by simp [results, Tryz.results47, go_sem, r0, r1, r2]) rfl ⟨_, _, _, by rw [HE.out, Ht.out, HV.out], ?_, ((HB.out.setCell (by simp; omega) _).setCell (by simp; omega) _).setCell (by simp; omega) _⟩
        rw [HL.out]
        exact (OR.set3 HO.out (fun e => by have := HZ.out; rcases e with e | e; have := e.1; omega; have := e.1; simp only [World.size_alloc] at this; have := HZ3.out; omega) _ _ _).mono (fun k hk => by have := HZ.out; have := HZ3.out; rcases hk with hk | hk; exact ⟨by have := hk.1; omega, by have := hk.2; simp; omega⟩; exact ⟨by have := hk.1; simp only [World.size_alloc] at this; omega, by have := hk.2; simpa using this⟩)
      · rw [if_neg ht]
        have h7 : etC ss zs = 7 := by unfold etC at ht ⊢; split at ht <;> simp_all
        have HN : Hid (elC ss zs ≠ 0) := by show _ ≠ _; rw [HE.out]; exact ht
        have HC : Hid (elC ss zs = 7) := HE.out.trans h7
        have HV : Hid (elV ss zs = 0) := if_neg HN.out
        have HL : Hid (elL ss zs = []) := if_neg HN.out
        clear hfin ht h7 hz3 hz4 hz2 hzw
        go_wp2_with fail
        refine (l2Bad_calls _ _).mono ?_
        rintro e wz ⟨rfl, gz⟩
        have Mz := M4.below gz
        have r0 := Mz.cell 0 rfl
        have r1 := Mz.cell 1 rfl
        have r2 := Mz.cell 2 rfl
        have f0 := Mz.fz 0 rfl
        have f1 := Mz.fz 1 rfl
        have f2 := Mz.fz 2 rfl
        have HB := hide Mz.bel
        clear Mz gz M4
        go_wp2
        refine bodyPost_ret (v := .agg #[.int .i64 (7), .int .i64 0, .slice none 0 0]) (by simp [results, Tryz.results47, go_sem, r0, r1, r2]) rfl ⟨none, 0, 0, by rw [HC.out, HV.out], ?_, ((HB.out.setCell (by simp; omega) _).setCell (by simp; omega) _).setCell (by simp; omega) _⟩
        rw [HL.out]
        exact OR.nil _ _ _
    · have ez : (fault zs != 0) = true := by simp [hz]
      have HC : Hid (elC ss zs = fault zs) := by show elC ss zs = _; unfold elC; rw [HCF.out, if_neg hz]
      have HN : Hid (elC ss zs ≠ 0) := by show _ ≠ _; rw [HC.out]; exact hz
      have HV : Hid (elV ss zs = 0) := if_neg HN.out
      have HL : Hid (elL ss zs = []) := if_neg HN.out
      clear hz
      go_enter Tryz.func47, Tryz.ntmps47
      go_wp2_with fail
      refine (l2Fault_calls _ a n ca ss _ hn (M0.lt 4 rfl) (M0.cell 4 rfl) hx0).mono ?_
      rintro e w1 ⟨rfl, g1⟩
      have M1 := M0.below g1
      have hy1 := hy0.below g1 (Nat.le_refl _)
      clear g1 hx0 hy0 M0
      go_wp2_with fail
      refine (l1FaultO_calls _ 0 b lb cb zs _ hlb (M1.lt 3 rfl) (M1.cell 3 rfl) hy1).mono ?_
      rintro e w2 ⟨rfl, g2⟩
      have M2 := M1.below g2
      clear g2 hy1 M1
      go_wp2_with fail
      refine (l2Bad_calls _ _).mono ?_
      rintro e wz ⟨rfl, gz⟩
      have Mz := M2.below gz
      have r0 := Mz.cell 0 rfl
      have r1 := Mz.cell 1 rfl
      have r2 := Mz.cell 2 rfl
      have f0 := Mz.fz 0 rfl
      have f1 := Mz.fz 1 rfl
      have f2 := Mz.fz 2 rfl
      have HB := hide Mz.bel
      clear Mz gz M2
      go_wp2
      refine bodyPost_ret (v := .agg #[.int .i64 (fault zs), .int .i64 0, .slice none 0 0]) (by simp [results, Tryz.results47, go_sem, r0, r1, r2]) rfl ⟨none, 0, 0, by rw [HC.out, HV.out], ?_, ((HB.out.setCell (by simp; omega) _).setCell (by simp; omega) _).setCell (by simp; omega) _⟩
      rw [HL.out]
      exact OR.nil _ _ _
  · have er : (faultR ss != 0) = true := by simp [hr]
    have HCF : Hid (codeFor ss zs = faultR ss) := if_neg hr
    have HC : Hid (elC ss zs = faultR ss) := by show elC ss zs = _; unfold elC; rw [HCF.out, if_neg hr]
    have HN : Hid (elC ss zs ≠ 0) := by show _ ≠ _; rw [HC.out]; exact hr
    have HV : Hid (elV ss zs = 0) := if_neg HN.out
    have HL : Hid (elL ss zs = []) := if_neg HN.out
    clear hr
    go_enter Tryz.func47, Tryz.ntmps47
    go_wp2_with fail
    refine (l2Fault_calls _ a n ca ss _ hn (M0.lt 4 rfl) (M0.cell 4 rfl) hx0).mono ?_
    rintro e w1 ⟨rfl, g1⟩
    have M1 := M0.below g1
    clear g1 hx0 hy0 M0
    go_wp2_with fail
    refine (l2Bad_calls _ _).mono ?_
    rintro e wz ⟨rfl, gz⟩
    have Mz := M1.below gz
    have r0 := Mz.cell 0 rfl
    have r1 := Mz.cell 1 rfl
    have r2 := Mz.cell 2 rfl
    have f0 := Mz.fz 0 rfl
    have f1 := Mz.fz 1 rfl
    have f2 := Mz.fz 2 rfl
    have HB := hide Mz.bel
    clear Mz gz M1
    go_wp2
    refine bodyPost_ret (v := .agg #[.int .i64 (faultR ss), .int .i64 0, .slice none 0 0]) (by simp [results, Tryz.results47, go_sem, r0, r1, r2]) rfl ⟨none, 0, 0, by rw [HC.out, HV.out], ?_, ((HB.out.setCell (by simp; omega) _).setCell (by simp; omega) _).setCell (by simp; omega) _⟩
    rw [HL.out]
    exact OR.nil _ _ _

end Go.Proofs.YtnibngigbcakkaaGreat
