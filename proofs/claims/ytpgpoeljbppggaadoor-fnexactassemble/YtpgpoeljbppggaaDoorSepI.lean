import Derived.Test.YtpgpoeljbppggaaDoorPlainI
import Derived.WalkKit
import Derived.ProofKit
import Derived.OpenShut
import Derived.ShutString
import Derived.ChangeOld
import Derived.Below
import Derived.WalkSpells
import Derived.Deep.QuietTactic
import Derived.BigQuiet
import Derived.Deep.RegionWith
import Derived.Deep.WholeRow
import Derived.Deep.DeepCutAuto
import Derived.Deep.RegionHeld2
import Derived.Deep.AppendLies
import Derived.Deep.RegionLaw
namespace Go.Proofs.YtpgpoeljbppggaaDoor
open Go.ChangeShapes Go.WideShapes Go.ChangeAt Go.RowKit

/-- a property that hangs on the blocks of S alone. -/
def Loc (S : Nat → Prop) (P : World → Prop) : Prop := ∀ w w' : World, (∀ k, S k → k < w.heap.size → w'.heap[k]? = w.heap[k]?) → P w → P w'

def InR (B T k : Nat) : Prop := B ≤ k ∧ k < T

/-- blocks that are not of S are as they were. -/
structure OutS (S : Nat → Prop) (w w' : World) : Prop where
  os : w'.os = w.os
  tape : w'.tape = w.tape
  output : w'.output = w.output
  size : w.heap.size ≤ w'.heap.size
  block : ∀ k, k < w.heap.size → ¬ S k → w'.heap[k]? = w.heap[k]?

theorem OutS.refl (S : Nat → Prop) (w : World) : OutS S w w := ⟨rfl, rfl, rfl, Nat.le_refl _, fun _ _ _ => rfl⟩

theorem OutS.trans {S : Nat → Prop} {u v w : World} (h : OutS S u v) (k : OutS S v w) : OutS S u w :=
  ⟨k.os.trans h.os, k.tape.trans h.tape, k.output.trans h.output, Nat.le_trans h.size k.size, fun i hi hn => (k.block i (Nat.lt_of_lt_of_le hi h.size) hn).trans (h.block i hi hn)⟩

theorem OutS.mono {S S' : Nat → Prop} {w w' : World} (h : OutS S w w') (hs : ∀ k, S k → S' k) : OutS S' w w' := ⟨h.os, h.tape, h.output, h.size, fun k hk hn => h.block k hk (fun e => hn (hs k e))⟩

theorem OutS.of_below {S : Nat → Prop} {w w' : World} (h : Below w.heap.size w w') : OutS S w w' := ⟨h.os, h.tape, h.output, h.size, fun k hk _ => h.block k hk⟩

theorem OutS.setCell {S : Nat → Prop} {w u : World} (h : OutS S w u) {p : Addr} (hp : S p.block) (v : Value) : OutS S w (u.setCell p v) :=
  h.trans ⟨rfl, rfl, rfl, by simp, fun k _ hn => Below.heap_setCell _ _ _ _ (fun e => hn (e ▸ hp))⟩

theorem OutS.below {S : Nat → Prop} {w w' : World} (h : OutS S w w') {B : Nat} (hs : ∀ k, S k → B ≤ k) (hB : B ≤ w.heap.size) : Below B w w' :=
  ⟨h.os, h.tape, h.output, h.size, fun k hk => h.block k (by omega) (fun e => by have := hs k e; omega)⟩

theorem Loc.below {S : Nat → Prop} {P : World → Prop} (h : Loc S P) {w w' : World} (hb : Below w.heap.size w w') (p : P w) : P w' := h w w' (fun k _ hk => hb.block k hk) p

theorem Loc.out {S S' : Nat → Prop} {P : World → Prop} (h : Loc S P) {w w' : World} (hb : OutS S' w w') (hd : ∀ k, S k → ¬ S' k) (p : P w) : P w' := h w w' (fun k hk hl => hb.block k hl (hd k hk)) p

theorem Loc.mono {S S' : Nat → Prop} {P : World → Prop} (h : Loc S P) (hs : ∀ k, S k → S' k) : Loc S' P := fun w w' hk p => h w w' (fun k hS hl => hk k (hs k hS) hl) p

theorem Blk.loc {S : Nat → Prop} {b : Nat} {zs : List Int} (hb : S b) : Loc S (fun w => Blk w b zs) := fun w w' hk h => by
  have e := hk b hb h.1
  refine ⟨?_, fun i hi => (World.cell?_of_block (a := ⟨b, i, none⟩) e).trans (h.2.1 i hi), fun i => (World.frozen?_of_block (a := ⟨b, i, none⟩) e).trans (h.2.2 i)⟩
  obtain ⟨h1, _⟩ := h
  have : ∃ o, w.heap[b]? = some o := ⟨w.heap[b], Array.getElem?_eq_getElem h1⟩
  obtain ⟨o, ho⟩ := this
  rw [ho] at e
  exact (Array.getElem?_eq_some_iff.1 e).1

/-- an owned slice of numbers: nil, or a whole block of S. -/
def OS (S : Nat → Prop) (a : Option Addr) (n : Nat) (rs : List Int) (w : World) : Prop :=
  rs.length = n ∧ n ≤ 1048576 ∧ ((n = 0) ∨ ∃ b, a = some ⟨b, 0, none⟩ ∧ S b ∧ Blk w b rs)

theorem OS.loc {S : Nat → Prop} {a : Option Addr} {n : Nat} {rs : List Int} : Loc S (OS S a n rs) := fun w w' hk h => by
  obtain ⟨h1, h2, h3⟩ := h
  refine ⟨h1, h2, ?_⟩
  rcases h3 with h3 | ⟨b, e, hb, h3⟩
  · exact .inl h3
  · exact .inr ⟨b, e, hb, Blk.loc hb w w' hk h3⟩

theorem OS.sl {S : Nat → Prop} {a : Option Addr} {n : Nat} {rs : List Int} {w : World} (h : OS S a n rs w) : Sl w a n rs := by
  obtain ⟨h1, _, h2⟩ := h
  refine ⟨h1, fun hp => ?_⟩
  rcases h2 with h2 | ⟨b, rfl, _, hb⟩
  · omega
  · obtain ⟨b1, o1, e, h3, h4⟩ := hb.sl.2 (by omega)
    exact ⟨b1, o1, e, h3, fun i hi => h4 i (by omega)⟩

theorem OS.mono {S S' : Nat → Prop} {a : Option Addr} {n : Nat} {rs : List Int} {w : World} (h : OS S a n rs w) (hs : ∀ k, S k → S' k) : OS S' a n rs w := by
  obtain ⟨h1, h0, h2⟩ := h
  refine ⟨h1, h0, ?_⟩
  rcases h2 with h2 | ⟨b, e, h3, h4⟩
  · exact .inl h2
  · exact .inr ⟨b, e, hs b h3, h4⟩

theorem OS.ofBlk {S : Nat → Prop} {b : Nat} {rs : List Int} {n : Nat} {w : World} (h : Blk w b rs) (hb : S b) (hn : rs.length = n) (hl : n ≤ 1048576) : OS S (some ⟨b, 0, none⟩) n rs w := ⟨hn, hl, .inr ⟨b, rfl, hb, h⟩⟩

theorem OS.ofOSl {B T : Nat} {a : Option Addr} {n : Nat} {rs : List Int} {w : World} (h : OSl w B T a n rs) : OS (InR B T) a n rs w := by
  obtain ⟨h1, h0, h2⟩ := h
  refine ⟨h1, h0, ?_⟩
  rcases h2 with h2 | ⟨b, e, h3, h4, h5⟩
  · exact .inl h2.2
  · exact .inr ⟨b, e, ⟨h3, h4⟩, h5⟩

/-- an owned slice of slots: nil, or a whole block N of S, each label in a block of S of its own. -/
def OR (S : Nat → Prop) (a : Option Addr) (n : Nat) (ss : List (Int × List Int)) (w : World) : Prop :=
  ss.length = n ∧ n + lenSum ss ≤ 1048576 ∧ ((n = 0) ∨ ∃ (N : Nat) (la : Nat → Option Addr) (lc : Nat → Nat) (lb : Nat → Nat), a = some ⟨N, 0, none⟩ ∧ S N ∧ N < w.heap.size ∧ (∀ j, w.frozen? ⟨N, j, none⟩ = false) ∧
    (∀ i, i < n → w.cell? ⟨N, i * 2, none⟩ = some (.int .i64 (gc ss i)) ∧ w.cell? ⟨N, i * 2 + 1, none⟩ = some (.slice (la i) (gl ss i).length (lc i)) ∧ OS (fun k => k = lb i ∧ 0 < (gl ss i).length) (la i) (gl ss i).length (gl ss i) w ∧ (0 < (gl ss i).length → S (lb i) ∧ lb i ≠ N)) ∧
    ∀ i j, i < n → j < n → i ≠ j → 0 < (gl ss i).length → 0 < (gl ss j).length → lb i ≠ lb j)

theorem OR.loc {S : Nat → Prop} {a : Option Addr} {n : Nat} {ss : List (Int × List Int)} : Loc S (OR S a n ss) := fun w w' hk h => by
  obtain ⟨h1, h2, h3⟩ := h
  refine ⟨h1, h2, ?_⟩
  rcases h3 with h3 | ⟨N, la, lc, lb, e, hS, hN, hf, hc, hd⟩
  · exact .inl h3
  · have eN := hk N hS hN
    have hN' : N < w'.heap.size := by
      rw [Array.getElem?_eq_getElem hN] at eN
      exact (Array.getElem?_eq_some_iff.1 eN).1
    refine .inr ⟨N, la, lc, lb, e, hS, hN', fun j => (World.frozen?_of_block (a := ⟨N, j, none⟩) eN).trans (hf j), fun i hi => ?_, hd⟩
    obtain ⟨c0, c1, c2, c3⟩ := hc i hi
    exact ⟨(World.cell?_of_block (a := ⟨N, i * 2, none⟩) eN).trans c0, (World.cell?_of_block (a := ⟨N, i * 2 + 1, none⟩) eN).trans c1, OS.loc w w' (fun k e hl => hk k (e.1 ▸ (c3 e.2).1) hl) c2, c3⟩

theorem OR.sls {S : Nat → Prop} {a : Option Addr} {n : Nat} {ss : List (Int × List Int)} {w : World} (h : OR S a n ss w) : Sls w a n ss := by
  obtain ⟨h1, h2, h3⟩ := h
  refine ⟨h1, fun hp => ?_⟩
  rcases h3 with h3 | ⟨N, la, lc, lb, rfl, hS, hN, hf, hc, hd⟩
  · omega
  · refine ⟨N, 0, rfl, hN, fun i hi => ?_⟩
    obtain ⟨c0, c1, c2, _⟩ := hc i hi
    have hl := gl_le ss i (by omega)
    exact ⟨by simpa using c0, la i, _, _, by simpa using c1, by unfold maxLen; omega, c2.sl⟩

theorem OR.mono {S S' : Nat → Prop} {a : Option Addr} {n : Nat} {ss : List (Int × List Int)} {w : World} (h : OR S a n ss w) (hs : ∀ k, S k → S' k) : OR S' a n ss w := by
  obtain ⟨h1, h2, h3⟩ := h
  refine ⟨h1, h2, ?_⟩
  rcases h3 with h3 | ⟨N, la, lc, lb, e, hS, hN, hf, hc, hd⟩
  · exact .inl h3
  · exact .inr ⟨N, la, lc, lb, e, hs N hS, hN, hf, fun i hi => ⟨(hc i hi).1, (hc i hi).2.1, (hc i hi).2.2.1, fun h => ⟨hs _ ((hc i hi).2.2.2 h).1, ((hc i hi).2.2.2 h).2⟩⟩, hd⟩

/-- what is kept of a world: below w's size all is as in w; cells; facts, each over its blocks. -/
structure Mm (w u : World) (cs : List (Nat × Nat × Value)) (fs : List (Nat × Nat × (World → Prop))) : Prop where
  bel : Below w.heap.size w u
  cells : ∀ c ∈ cs, c.1 < u.heap.size ∧ u.cell? ⟨c.1, c.2.1, none⟩ = some c.2.2 ∧ u.frozen? ⟨c.1, c.2.1, none⟩ = false
  facts : ∀ f ∈ fs, Loc (InR f.1 f.2.1) f.2.2 ∧ f.2.2 u

theorem Mm.start (w : World) : Mm w w [] [] := ⟨Below.refl _ _, fun c hc => (by cases hc), fun s hs => (by cases hs)⟩

theorem Mm.below {w u u' : World} {cs : List (Nat × Nat × Value)} {fs : List (Nat × Nat × (World → Prop))} (h : Mm w u cs fs) (hb : Below u.heap.size u u') : Mm w u' cs fs :=
  ⟨h.bel.trans (hb.mono h.bel.size), fun c hc => ⟨by have := (h.cells c hc).1; have := hb.size; omega, (hb.cell (p := ⟨c.1, c.2.1, none⟩) (h.cells c hc).1).trans (h.cells c hc).2.1, (hb.frozen (p := ⟨c.1, c.2.1, none⟩) (h.cells c hc).1).trans (h.cells c hc).2.2⟩, fun f hf => ⟨(h.facts f hf).1, (h.facts f hf).1.below hb (h.facts f hf).2⟩⟩

theorem Mm.out {w u u' : World} {cs : List (Nat × Nat × Value)} {fs : List (Nat × Nat × (World → Prop))} (h : Mm w u cs fs) {B T : Nat} (ho : OutS (InR B T) u u') (hB : w.heap.size ≤ B)
    (hc : ∀ c ∈ cs, c.1 < B ∨ T ≤ c.1) (hs : ∀ s ∈ fs, s.2.1 ≤ B ∨ T ≤ s.1) : Mm w u' cs fs :=
  ⟨h.bel.trans (ho.below (fun k hk => by have := hk.1; omega) h.bel.size), fun c k => ⟨by have := (h.cells c k).1; have := ho.size; omega, (World.cell?_of_block (a := ⟨c.1, c.2.1, none⟩) (ho.block c.1 (h.cells c k).1 (fun e => by have := hc c k; have := e.1; have := e.2; omega))).trans (h.cells c k).2.1, (World.frozen?_of_block (a := ⟨c.1, c.2.1, none⟩) (ho.block c.1 (h.cells c k).1 (fun e => by have := hc c k; have := e.1; have := e.2; omega))).trans (h.cells c k).2.2⟩,
    fun s k => ⟨(h.facts s k).1, (h.facts s k).1.out ho (fun j hj e => by have := hs s k; have := hj.1; have := hj.2; have := e.1; have := e.2; omega) (h.facts s k).2⟩⟩

theorem Mm.cons {w u : World} {cs : List (Nat × Nat × Value)} {fs : List (Nat × Nat × (World → Prop))} (h : Mm w u cs fs) {b o : Nat} {v : Value} (hc : u.cell? ⟨b, o, none⟩ = some v) (hf : u.frozen? ⟨b, o, none⟩ = false) : Mm w u ((b, o, v) :: cs) fs :=
  ⟨h.bel, fun c k => by rcases List.mem_cons.1 k with rfl | k; exact ⟨World.block_lt_of_cell? _ _ hc, hc, hf⟩; exact h.cells c k, h.facts⟩

theorem Mm.fact {w u : World} {cs : List (Nat × Nat × Value)} {fs : List (Nat × Nat × (World → Prop))} (h : Mm w u cs fs) {B T : Nat} {P : World → Prop} (hl : Loc (InR B T) P) (hp : P u) : Mm w u cs ((B, T, P) :: fs) :=
  ⟨h.bel, h.cells, fun f k => by rcases List.mem_cons.1 k with rfl | k; exact ⟨hl, hp⟩; exact h.facts f k⟩

theorem Mm.sub {w u : World} {cs cs' : List (Nat × Nat × Value)} {fs fs' : List (Nat × Nat × (World → Prop))} (h : Mm w u cs fs) (hc : ∀ c ∈ cs', c ∈ cs) (hs : ∀ s ∈ fs', s ∈ fs) : Mm w u cs' fs' := ⟨h.bel, fun c k => h.cells c (hc c k), fun s k => h.facts s (hs s k)⟩

theorem Mm.cell {w u : World} {cs : List (Nat × Nat × Value)} {fs : List (Nat × Nat × (World → Prop))} (h : Mm w u cs fs) (i : Nat) {b o : Nat} {v : Value} (hc : cs[i]? = some (b, o, v)) : u.cell? ⟨b, o, none⟩ = some v := (h.cells _ (List.mem_of_getElem? hc)).2.1

theorem Mm.fz {w u : World} {cs : List (Nat × Nat × Value)} {fs : List (Nat × Nat × (World → Prop))} (h : Mm w u cs fs) (i : Nat) {b o : Nat} {v : Value} (hc : cs[i]? = some (b, o, v)) : u.frozen? ⟨b, o, none⟩ = false := (h.cells _ (List.mem_of_getElem? hc)).2.2

theorem Mm.lt {w u : World} {cs : List (Nat × Nat × Value)} {fs : List (Nat × Nat × (World → Prop))} (h : Mm w u cs fs) (i : Nat) {b o : Nat} {v : Value} (hc : cs[i]? = some (b, o, v)) : b < u.heap.size := (h.cells _ (List.mem_of_getElem? hc)).1

theorem Mm.get {w u : World} {cs : List (Nat × Nat × Value)} {fs : List (Nat × Nat × (World → Prop))} (h : Mm w u cs fs) (i : Nat) {B T : Nat} {P : World → Prop} (hs : fs[i]? = some (B, T, P)) : P u := (h.facts _ (List.mem_of_getElem? hs)).2

theorem Mm.drew {w u : World} {cs : List (Nat × Nat × Value)} {fs : List (Nat × Nat × (World → Prop))} (h : Mm w u cs fs) : Mm w u.drew cs fs := h.below (Below.refl _ _).drew

theorem Mm.alloc1 {w u : World} {cs : List (Nat × Nat × Value)} {fs : List (Nat × Nat × (World → Prop))} (h : Mm w u cs fs) (v : Value) (t : TypeId) : Mm w (u.alloc (.cells #[v] t)) ((u.heap.size, 0, v) :: cs) fs :=
  (h.below ((Below.refl _ _).alloc (Nat.le_refl _) (.cells #[v] t))).cons (by simp) (by simp)

theorem Mm.alloc2 {w u : World} {cs : List (Nat × Nat × Value)} {fs : List (Nat × Nat × (World → Prop))} (h : Mm w u cs fs) (v v' : Value) (t : TypeId) : Mm w (u.alloc (.cells #[v, v'] t)) ((u.heap.size, 0, v) :: (u.heap.size, 1, v') :: cs) fs :=
  ((h.below ((Below.refl _ _).alloc (Nat.le_refl _) (.cells #[v, v'] t))).cons (by simp) (by simp)).cons (by simp) (by simp)

theorem Mm.alloc3 {w u : World} {cs : List (Nat × Nat × Value)} {fs : List (Nat × Nat × (World → Prop))} (h : Mm w u cs fs) (v v' v'' : Value) (t : TypeId) : Mm w (u.alloc (.cells #[v, v', v''] t)) ((u.heap.size, 0, v) :: (u.heap.size, 1, v') :: (u.heap.size, 2, v'') :: cs) fs :=
  (((h.below ((Below.refl _ _).alloc (Nat.le_refl _) (.cells #[v, v', v''] t))).cons (by simp) (by simp)).cons (by simp) (by simp)).cons (by simp) (by simp)

theorem Mm.alloc4 {w u : World} {cs : List (Nat × Nat × Value)} {fs : List (Nat × Nat × (World → Prop))} (h : Mm w u cs fs) (v0 v1 v2 v3 : Value) (t : TypeId) : Mm w (u.alloc (.cells #[v0, v1, v2, v3] t)) ((u.heap.size, 0, v0) :: (u.heap.size, 1, v1) :: (u.heap.size, 2, v2) :: (u.heap.size, 3, v3) :: cs) fs :=
  ((((h.below ((Below.refl _ _).alloc (Nat.le_refl _) (.cells #[v0, v1, v2, v3] t))).cons (by simp) (by simp)).cons (by simp) (by simp)).cons (by simp) (by simp)).cons (by simp) (by simp)

theorem Loc.alloc {S : Nat → Prop} {P : World → Prop} (h : Loc S P) {w : World} (p : P w) (o : Obj) : P (w.alloc o) := h.below ((Below.refl _ _).alloc (Nat.le_refl _) o) p

theorem Loc.setC {S : Nat → Prop} {P : World → Prop} (h : Loc S P) {w : World} (p : P w) {q : Addr} (hq : ¬ S q.block) (v : Value) : P (w.setCell q v) := h w _ (fun _ hk _ => Below.heap_setCell _ _ _ _ (fun e => hq (e ▸ hk))) p

theorem Loc.belowA {S : Nat → Prop} {P : World → Prop} (h : Loc S P) {wa X wb : World} (p : P wa) (hb : Below X.heap.size X wb) (ha : Below wa.heap.size wa X) : P wb := h.below hb (h.below ha p)

theorem Loc.belowB {S : Nat → Prop} {P : World → Prop} (h : Loc S P) {wa X : World} (p : P wa) (ha : Below wa.heap.size wa X) : P X := h.below ha p

theorem bcellQ {X Y : World} (hb : Below X.heap.size X Y) : (∀ b o, b < X.heap.size → Y.cell? ⟨b, o, none⟩ = X.cell? ⟨b, o, none⟩) ∧ (∀ b o, b < X.heap.size → Y.frozen? ⟨b, o, none⟩ = X.frozen? ⟨b, o, none⟩) :=
  ⟨fun b o h => hb.cell (p := ⟨b, o, none⟩) h, fun b o h => hb.frozen (p := ⟨b, o, none⟩) h⟩

theorem mem_set_erase {α : Type} : ∀ (l : List α) (i : Nat) (x c : α), c ∈ l.set i x → c = x ∨ c ∈ l.eraseIdx i
  | [], _, _, _, h => by simp at h
  | y :: r, 0, x, c, h => by
    simp at h ⊢
    exact h
  | y :: r, i + 1, x, c, h => by
    simp only [List.set_cons_succ, List.mem_cons] at h
    simp only [List.eraseIdx_cons_succ, List.mem_cons]
    rcases h with h | h
    · exact .inr (.inl h)
    · rcases mem_set_erase r i x c h with h | h
      · exact .inl h
      · exact .inr (.inr h)

/-- a cell of the bundle is written. -/
theorem Mm.set {w u : World} {cs : List (Nat × Nat × Value)} {fs : List (Nat × Nat × (World → Prop))} (h : Mm w u cs fs) (i : Nat) {b o : Nat} {old : Value} (hc : cs[i]? = some (b, o, old)) (v : Value) (hb : w.heap.size ≤ b)
    (hd : ∀ c ∈ cs.eraseIdx i, c.1 ≠ b ∨ c.2.1 ≠ o) (hf : ∀ f ∈ fs, b < f.1 ∨ f.2.1 ≤ b) : Mm w (u.setCell ⟨b, o, none⟩ v) (cs.set i (b, o, v)) fs := by
  have h0 := h.cells _ (List.mem_of_getElem? hc)
  refine ⟨h.bel.setCell hb v, fun c k => ?_, fun f k => ⟨(h.facts f k).1, (h.facts f k).1.setC (h.facts f k).2 (fun e => by have := hf f k; have h1 := e.1; have h2 := e.2; simp only at h1 h2; omega) v⟩⟩
  rcases mem_set_erase cs i _ c k with rfl | k
  · exact ⟨by simpa using h0.1, World.cell?_setCell_same _ _ _ h0.2.1, by simpa using h0.2.2⟩
  · have h1 := h.cells c (List.mem_of_mem_eraseIdx k)
    refine ⟨by simpa using h1.1, ?_, by simpa using h1.2.2⟩
    rw [World.cell?_setCell_other _ _ _ _ (fun e => by injection e with e1 e2; rcases hd c k with h | h; exact h e1.symm; exact h e2.symm)]
    exact h1.2.1

end Go.Proofs.YtpgpoeljbppggaaDoor
