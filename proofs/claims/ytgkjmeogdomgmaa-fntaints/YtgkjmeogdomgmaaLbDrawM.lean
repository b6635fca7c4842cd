import Derived.Test.YtgkjmeogdomgmaaRows
import Derived.Test.YtgkjmeogdomgmaaSep
import Derived.Test.YtgkjmeogdomgmaaBase
import Derived.Test.YtgkjmeogdomgmaaApp
import Derived.WalkKit
import Derived.ProofKit
import Derived.OpenShut
import Derived.ShutString
import Derived.ChangeOld
import Derived.Below
import Derived.WalkSpells
import Derived.Deep.QuietTactic
import Derived.BigQuiet
import Derived.Deep.RegionWith
import Derived.Deep.WholeRow
import Derived.Deep.DeepCutAuto
import Derived.Deep.RegionHeld2
import Derived.Deep.AppendLies
import Derived.Deep.RegionLaw
namespace Go.Proofs.Ytgkjmeogdomgmaa
open Go.ChangeShapes Go.WideShapes Go.ChangeAt Go.RowKit

/-- a source at block p: the bytes of a code that lies below p, and where it reads next. -/
def Src (w : World) (p : Nat) (a : Option Addr) (len cap : Nat) (t : Nat) : Prop :=
  p < w.heap.size ∧ w.cell? ⟨p, 0, none⟩ = some (.slice a len cap) ∧ w.cell? ⟨p, 1, none⟩ = some (.int .i64 (t : Int)) ∧ w.frozen? ⟨p, 1, none⟩ = false ∧ len ≤ 1048576 ∧
    (0 < len → ∃ b off, a = some ⟨b, off, none⟩ ∧ b < p ∧ ∀ i, i < len → ∃ v : Int, 0 ≤ v ∧ v ≤ 255 ∧ w.cell? ⟨b, off + i, none⟩ = some (.int .u8 v))

theorem Src.step {w : World} {p : Nat} {a : Option Addr} {len cap t : Nat} (h : Src w p a len cap t) : Src (w.setCell ⟨p, 1, none⟩ (.int .i64 ((t : Int) + 1))) p a len cap (t + 1) := by
  obtain ⟨h1, h2, h3, h4, h5, h6⟩ := h
  refine ⟨by simpa using h1, ?_, ?_, by simpa using h4, h5, fun hp => ?_⟩
  · rw [World.cell?_setCell_other _ _ _ _ (by simp)]; exact h2
  · rw [World.cell?_setCell_same _ _ _ h3]; simp
  · obtain ⟨b, off, e, hb, hc⟩ := h6 hp
    refine ⟨b, off, e, hb, fun i hi => ?_⟩
    obtain ⟨v, v0, v1, hv⟩ := hc i hi
    exact ⟨v, v0, v1, by rw [World.cell?_setCell_other _ _ _ _ (fun e => by injection e with e1; omega)]; exact hv⟩

theorem Src.below {w w' : World} {p : Nat} {a : Option Addr} {len cap t : Nat} (h : Src w p a len cap t) (hb : Below w.heap.size w w') : Src w' p a len cap t := by
  obtain ⟨h1, h2, h3, h4, h5, h6⟩ := h
  refine ⟨by have := hb.size; omega, (hb.cell (p := ⟨p, 0, none⟩) h1).trans h2, (hb.cell (p := ⟨p, 1, none⟩) h1).trans h3, (hb.frozen (p := ⟨p, 1, none⟩) h1).trans h4, h5, fun hp => ?_⟩
  obtain ⟨b, off, e, hb', hc⟩ := h6 hp
  refine ⟨b, off, e, hb', fun i hi => ?_⟩
  obtain ⟨v, v0, v1, hv⟩ := hc i hi
  exact ⟨v, v0, v1, (hb.cell (p := ⟨b, off + i, none⟩) (by show b < _; omega)).trans hv⟩

theorem Src.setCell {w : World} {p : Nat} {a : Option Addr} {len cap t : Nat} (h : Src w p a len cap t) {q : Addr} (hq : p < q.block) (x : Value) : Src (w.setCell q x) p a len cap t := by
  obtain ⟨h1, h2, h3, h4, h5, h6⟩ := h
  refine ⟨by simpa using h1, ?_, ?_, by simpa using h4, h5, fun hp => ?_⟩
  · rw [World.cell?_setCell_other _ _ _ _ (fun e => by rw [e] at hq; simp at hq)]; exact h2
  · rw [World.cell?_setCell_other _ _ _ _ (fun e => by rw [e] at hq; simp at hq)]; exact h3
  · obtain ⟨b, off, e, hb, hc⟩ := h6 hp
    refine ⟨b, off, e, hb, fun i hi => ?_⟩
    obtain ⟨v, v0, v1, hv⟩ := hc i hi
    exact ⟨v, v0, v1, by rw [World.cell?_setCell_other _ _ _ _ (fun e => by rw [e] at hq; simp at hq; omega)]; exact hv⟩

theorem outside_drewN {B T : Nat} {w u : World} (h : Outside B T w u) (n : Nat) : Outside B T w (u.drewN n) := h.trans ⟨rfl, rfl, rfl, Nat.le_refl _, fun _ _ _ => rfl⟩

theorem src_drewN {w : World} {p : Nat} {a : Option Addr} {len cap t : Nat} (h : Src w p a len cap t) (n : Nat) : Src (w.drewN n) p a len cap t := h.below (bdrewN (Below.refl _ _) n)

theorem Src.same {w u : World} {p : Nat} {a : Option Addr} {len cap t : Nat} (h : Src w p a len cap t) (hs : w.heap.size ≤ u.heap.size) (hk : ∀ q : Addr, q.block ≤ p → u.cell? q = w.cell? q ∧ u.frozen? q = w.frozen? q) : Src u p a len cap t := by
  obtain ⟨h1, h2, h3, h4, h5, h6⟩ := h
  refine ⟨by omega, (hk ⟨p, 0, none⟩ (Nat.le_refl _)).1.trans h2, (hk ⟨p, 1, none⟩ (Nat.le_refl _)).1.trans h3, (hk ⟨p, 1, none⟩ (Nat.le_refl _)).2.trans h4, h5, fun hp => ?_⟩
  obtain ⟨b, off, e, hb, hc⟩ := h6 hp
  refine ⟨b, off, e, hb, fun i hi => ?_⟩
  obtain ⟨v, v0, v1, hv⟩ := hc i hi
  exact ⟨v, v0, v1, (hk ⟨b, off + i, none⟩ (by show b ≤ p; omega)).1.trans hv⟩

theorem Outside.setNew {B T : Nat} {w u : World} (h : Outside B T w u) {q : Addr} (hq : w.heap.size ≤ q.block) (v : Value) : Outside B T w (u.setCell q v) :=
  ⟨h.os, h.tape, h.output, by have := h.size; simpa using this, fun k hk hn => (Below.heap_setCell _ _ _ _ (by omega)).trans (h.block k hk hn)⟩

theorem Outside.wide {B T : Nat} {w u v : World} (h : Outside B T w u) (k : Outside B T u v) : Outside B T w v := h.trans k

theorem owns_outside {w u : World} {p B0 : Nat} {e : TypeId} {v : Value} {k : Nat} {L : List Value} (h : w.ownsRow B0 e 1 v k L) (ho : Outside p (p + 1) w u) (hp : p < B0) : u.ownsRow B0 e 1 v k L := by
  obtain ⟨h1, h2⟩ := h
  refine ⟨h1, ?_⟩
  rcases h2 with h2 | ⟨g, cap, cur, hv, hg, hh, r⟩
  · exact .inl h2
  · exact .inr ⟨g, cap, cur, hv, hg, by rw [ho.block g (Array.getElem?_eq_some_iff.1 hh).1 (.inr (by omega))]; exact hh, r⟩

theorem grow_cell' {w1 w2 : World} {o : Obj} {B0 : Nat} {e : TypeId} {v : Value} {k : Nat} {L : List Value} (hown : w1.ownsRow B0 e 1 v k L) (hg : (w1.alloc o).grownBy w2 v.ownBlock) (hs : B0 ≤ w1.heap.size) {q : Addr} (hq : q.block < B0) :
    w2.cell? q = w1.cell? q ∧ w2.frozen? q = w1.frozen? q := by
  have hlt : q.block < w1.heap.size := by omega
  have hne : some q.block ≠ v.ownBlock := fun e => by have := (hown.lt q.block e.symm).1; omega
  have hb : w2.heap[q.block]? = w1.heap[q.block]? := (hg.block q.block (by simp; omega) hne).trans (Below.heap_alloc w1 o q.block hlt)
  exact ⟨World.cell?_of_block hb, World.frozen?_of_block hb⟩

theorem app_stepO {w w1 w2 : World} {o : Obj} {B0 P p : Nat} {e : TypeId} {v nv : Value} {k : Nat} {L L' : List Value} {a : Option Addr} {len cap t : Nat} (ho : Outside p (p + 1) w w1) (hw : w.heap.size ≤ P) (hP : P < B0) (hs : B0 ≤ w1.heap.size) (hp : p < w.heap.size)
    (hv : w1.cell? ⟨P, 0, none⟩ = some v) (hvf : w1.frozen? ⟨P, 0, none⟩ = false) (hown : w1.ownsRow B0 e 1 v k L) (hg : (w1.alloc o).grownBy w2 v.ownBlock) (hown1 : w2.ownsRow B0 e 1 nv (k + 1) L') (hsrc : Src w1 p a len cap t) :
    (w2.setCell ⟨P, 0, none⟩ nv).cell? ⟨P, 0, none⟩ = some nv ∧ (w2.setCell ⟨P, 0, none⟩ nv).frozen? ⟨P, 0, none⟩ = false ∧ (w2.setCell ⟨P, 0, none⟩ nv).ownsRow B0 e 1 nv (k + 1) L' ∧
      (∀ q : Addr, q.block < B0 → q.block ≠ P → (w2.setCell ⟨P, 0, none⟩ nv).cell? q = w1.cell? q ∧ (w2.setCell ⟨P, 0, none⟩ nv).frozen? q = w1.frozen? q) ∧ Outside p (p + 1) w (w2.setCell ⟨P, 0, none⟩ nv) ∧ B0 ≤ (w2.setCell ⟨P, 0, none⟩ nv).heap.size ∧ Src (w2.setCell ⟨P, 0, none⟩ nv) p a len cap t := by
  have g0 := grow_cell' hown hg hs (q := ⟨P, 0, none⟩) hP
  have hsz : w1.heap.size ≤ w2.heap.size := by have := hg.size; simp at this; omega
  have hrest : ∀ q : Addr, q.block < B0 → q.block ≠ P → (w2.setCell ⟨P, 0, none⟩ nv).cell? q = w1.cell? q ∧ (w2.setCell ⟨P, 0, none⟩ nv).frozen? q = w1.frozen? q := fun q hq hne => by
    have g1 := grow_cell' hown hg hs (q := q) hq
    exact ⟨by rw [World.cell?_setCell_other _ _ _ _ (fun h => hne (by rw [← h]))]; exact g1.1, by rw [World.frozen?_setCell]; exact g1.2⟩
  refine ⟨World.cell?_setCell_same _ _ _ (g0.1.trans hv), by rw [World.frozen?_setCell]; exact g0.2.trans hvf, ownsRow_setCell_below hown1 hP _, hrest, ?_, by simp; omega, hsrc.same (by simpa using hsz) (fun q hq => hrest q (by omega) (by omega))⟩
  refine Outside.setNew ?_ (by exact hw) _
  refine ⟨hg.os.trans ho.os, hg.tape.trans ho.tape, hg.output.trans ho.output, by have := ho.size; omega, fun i hi hn => ?_⟩
  have hne : some i ≠ v.ownBlock := fun e => by have := (hown.lt i e.symm).1; omega
  have hi1 : i < w1.heap.size := by have := ho.size; omega
  exact (hg.block i (by simp; omega) hne).trans ((Below.heap_alloc w1 o i hi1).trans (ho.block i hi hn))

theorem ints_snoc (L : List Int) (r : Int) : L.map (Value.int .i64) ++ [.int .i64 r] = (L ++ [r]).map (Value.int .i64) := by simp

theorem six_at {wr : World} {t : TypeId} : ∀ i, i < 6 → ((wr.alloc (.cells #[.int .i64 2, .int .i64 2, .int .i64 2, .int .i64 3, .int .i64 4, .int .i64 1] t)).drew).cell? ⟨wr.heap.size, i, none⟩ = some (.int .i64 (gt [2, 2, 2, 3, 4, 1] i)) := by
  intro i hi
  rw [World.cell?_drew, World.cell?_alloc_new]
  rcases (by omega : i = 0 ∨ i = 1 ∨ i = 2 ∨ i = 3 ∨ i = 4 ∨ i = 5) with rfl | rfl | rfl | rfl | rfl | rfl <;> rfl

theorem Outside.drew {B T : Nat} {w u : World} (h : Outside B T w u) : Outside B T w u.drew := h.trans ⟨rfl, rfl, rfl, Nat.le_refl _, fun _ _ _ => rfl⟩

theorem Outside.cell {B T : Nat} {w u : World} (h : Outside B T w u) {q : Addr} {v : Value} (hq : q.block < w.heap.size) (hn : T ≤ q.block) (hv : w.cell? q = some v) : u.cell? q = some v := (World.cell?_of_block (h.block q.block hq (.inr hn))).trans hv

theorem Outside.frozen {B T : Nat} {w u : World} (h : Outside B T w u) {q : Addr} {v : Bool} (hq : q.block < w.heap.size) (hn : T ≤ q.block) (hv : w.frozen? q = v) : u.frozen? q = v := (World.frozen?_of_block (h.block q.block hq (.inr hn))).trans hv

theorem owns_cap {w : World} {B0 : Nat} {e : TypeId} {v : Value} {n : Nat} {L : List Value} {a : Option Addr} {c : Nat} (h : w.ownsRow B0 e 1 v n L) (hv : v = .slice a n c) : n ≤ c := by
  rcases h.2 with ⟨_, h0⟩ | ⟨g, cap, cur, rfl, _, _, hc, _⟩
  · omega
  · injection hv with _ _ h3; omega

theorem Blk.store {w : World} {b r : Nat} {zs : List Int} {x : Int} (h : Blk w b zs) (hr : r < zs.length) : Blk (w.setCell ⟨b, r, none⟩ (.int .i64 x)) b (zs.set r x) := by
  refine ⟨by simpa using h.1, fun i hi => ?_, fun i => by simpa using h.2.2 i⟩
  simp at hi
  by_cases e : i = r
  · subst e; rw [World.cell?_setCell_same _ _ _ (h.2.1 i hi)]; simp [gt, hi]
  · rw [World.cell?_setCell_other _ _ _ _ (fun h => e (by injection h with _ h2; exact h2.symm)), h.2.1 i hi]
    simp [gt, hi, Ne.symm e]

theorem OSl.four {w : World} {B T : Nat} {a : Option Addr} {zs : List Int} (h : OSl w B T a 4 zs) : ∃ b, a = some ⟨b, 0, none⟩ ∧ B ≤ b ∧ b < T ∧ Blk w b zs ∧ zs.length = 4 := by
  obtain ⟨h1, _, h2⟩ := h
  rcases h2 with ⟨_, h2⟩ | ⟨b, rfl, h3, h5, h4⟩
  · omega
  · exact ⟨b, rfl, h3, h5, h4, h1⟩

theorem Src.out {w u : World} {p : Nat} {a : Option Addr} {len cap t : Nat} (h : Src w p a len cap t) (hb : Below w.heap.size w u) : Src u p a len cap t := h.below hb

theorem Blk.outside {w u : World} {p b : Nat} {zs : List Int} (h : Blk w b zs) (ho : Outside p (p + 1) w u) (hp : p < b) : Blk u b zs := ho.blk h (.inr hp)

theorem idx_lt {r : Int} (h0 : 0 ≤ r) (h4 : r < 4) : r.toNat < 4 := by omega

theorem Src.drew {w : World} {p : Nat} {a : Option Addr} {len cap t : Nat} (h : Src w p a len cap t) : Src w.drew p a len cap t := h.below (Below.refl _ _).drew

theorem Outside.of_below {B T : Nat} {u u' : World} (h : Below u.heap.size u u') : Outside B T u u' := ⟨h.os, h.tape, h.output, h.size, fun k hk _ => h.block k hk⟩

theorem OutS.of_outside {B T : Nat} {u u' : World} (h : Outside B T u u') : OutS (InR B T) u u' :=
  ⟨h.os, h.tape, h.output, h.size, fun k hk hn => h.block k hk (by unfold InR at hn; omega)⟩

theorem Src.belowB {w w' : World} {p B : Nat} {a : Option Addr} {len cap t : Nat} (h : Src w p a len cap t) (hb : Below B w w') (hp : p < B) : Src w' p a len cap t := by
  obtain ⟨h1, h2, h3, h4, h5, h6⟩ := h
  have hk : w'.heap[p]? = w.heap[p]? := hb.block p hp
  refine ⟨by have := hb.size; omega, (World.cell?_of_block (a := ⟨p, 0, none⟩) hk).trans h2, (World.cell?_of_block (a := ⟨p, 1, none⟩) hk).trans h3, (World.frozen?_of_block (a := ⟨p, 1, none⟩) hk).trans h4, h5, fun hl => ?_⟩
  obtain ⟨b, off, e, hbp, hc⟩ := h6 hl
  refine ⟨b, off, e, hbp, fun i hi => ?_⟩
  obtain ⟨v, v0, v1, hv⟩ := hc i hi
  exact ⟨v, v0, v1, (World.cell?_of_block (a := ⟨b, off + i, none⟩) (hb.block b (by omega))).trans hv⟩

/-- what is kept of a world while a source at p is read: all older blocks but p are as in w; cells; facts, each over its blocks. -/
structure Mo (p : Nat) (w u : World) (cs : List (Nat × Nat × Value)) (fs : List (Nat × Nat × (World → Prop))) : Prop where
  out : Outside p (p + 1) w u
  cells : ∀ c ∈ cs, p < c.1 ∧ c.1 < u.heap.size ∧ u.cell? ⟨c.1, c.2.1, none⟩ = some c.2.2 ∧ u.frozen? ⟨c.1, c.2.1, none⟩ = false
  facts : ∀ f ∈ fs, p < f.1 ∧ Loc (InR f.1 f.2.1) f.2.2 ∧ f.2.2 u

theorem Mo.start (p : Nat) (w : World) : Mo p w w [] [] := ⟨Outside.refl _ _ _, fun c hc => (by cases hc), fun s hs => (by cases hs)⟩

theorem Mo.below {p : Nat} {w u u' : World} {cs : List (Nat × Nat × Value)} {fs : List (Nat × Nat × (World → Prop))} (h : Mo p w u cs fs) (hb : Below u.heap.size u u') : Mo p w u' cs fs :=
  ⟨h.out.trans (Outside.of_below hb), fun c hc => by
    obtain ⟨h1, h2, h3, h4⟩ := h.cells c hc
    exact ⟨h1, by have := hb.size; omega, (hb.cell (p := ⟨c.1, c.2.1, none⟩) h2).trans h3, (hb.frozen (p := ⟨c.1, c.2.1, none⟩) h2).trans h4⟩,
   fun f hf => ⟨(h.facts f hf).1, (h.facts f hf).2.1, (h.facts f hf).2.1.below hb (h.facts f hf).2.2⟩⟩

theorem Mo.next {p : Nat} {w u u' : World} {cs : List (Nat × Nat × Value)} {fs : List (Nat × Nat × (World → Prop))} (h : Mo p w u cs fs) (ho : Outside p (p + 1) u u') : Mo p w u' cs fs :=
  ⟨h.out.trans ho, fun c hc => by
    obtain ⟨h1, h2, h3, h4⟩ := h.cells c hc
    have e := ho.block c.1 h2 (.inr h1)
    exact ⟨h1, by have := ho.size; omega, (World.cell?_of_block (a := ⟨c.1, c.2.1, none⟩) e).trans h3, (World.frozen?_of_block (a := ⟨c.1, c.2.1, none⟩) e).trans h4⟩,
   fun f hf => ⟨(h.facts f hf).1, (h.facts f hf).2.1, (h.facts f hf).2.1.out (OutS.of_outside ho) (fun k hk e => by have := hk.1; have := e.2; have := (h.facts f hf).1; omega) (h.facts f hf).2.2⟩⟩

theorem Mo.belowB {p B : Nat} {w u u' : World} {cs : List (Nat × Nat × Value)} {fs : List (Nat × Nat × (World → Prop))} (h : Mo p w u cs fs) (hb : Below B u u') (hB : w.heap.size ≤ B) (hc : ∀ c ∈ cs, c.1 < B) (hf : ∀ f ∈ fs, f.2.1 ≤ B) : Mo p w u' cs fs :=
  ⟨⟨hb.os.trans h.out.os, hb.tape.trans h.out.tape, hb.output.trans h.out.output, Nat.le_trans h.out.size hb.size, fun k hk hn => (hb.block k (by omega)).trans (h.out.block k hk hn)⟩, fun c k => by
    obtain ⟨h1, h2, h3, h4⟩ := h.cells c k
    have e := hb.block c.1 (hc c k)
    exact ⟨h1, by have := hb.size; omega, (World.cell?_of_block (a := ⟨c.1, c.2.1, none⟩) e).trans h3, (World.frozen?_of_block (a := ⟨c.1, c.2.1, none⟩) e).trans h4⟩,
   fun f k => ⟨(h.facts f k).1, (h.facts f k).2.1, (h.facts f k).2.1 u u' (fun j hj _ => hb.block j (by have := hj.2; have := hf f k; omega)) (h.facts f k).2.2⟩⟩

theorem Mo.cons {p : Nat} {w u : World} {cs : List (Nat × Nat × Value)} {fs : List (Nat × Nat × (World → Prop))} (h : Mo p w u cs fs) {b o : Nat} {v : Value} (hp : p < b) (hc : u.cell? ⟨b, o, none⟩ = some v) (hf : u.frozen? ⟨b, o, none⟩ = false) : Mo p w u ((b, o, v) :: cs) fs :=
  ⟨h.out, fun c k => by rcases List.mem_cons.1 k with rfl | k; exact ⟨hp, World.block_lt_of_cell? _ _ hc, hc, hf⟩; exact h.cells c k, h.facts⟩

theorem Mo.fact {p : Nat} {w u : World} {cs : List (Nat × Nat × Value)} {fs : List (Nat × Nat × (World → Prop))} (h : Mo p w u cs fs) {B T : Nat} {P : World → Prop} (hp : p < B) (hl : Loc (InR B T) P) (hx : P u) : Mo p w u cs ((B, T, P) :: fs) :=
  ⟨h.out, h.cells, fun f k => by rcases List.mem_cons.1 k with rfl | k; exact ⟨hp, hl, hx⟩; exact h.facts f k⟩

theorem Mo.sub {p : Nat} {w u : World} {cs cs' : List (Nat × Nat × Value)} {fs fs' : List (Nat × Nat × (World → Prop))} (h : Mo p w u cs fs) (hc : ∀ c ∈ cs', c ∈ cs) (hs : ∀ s ∈ fs', s ∈ fs) : Mo p w u cs' fs' := ⟨h.out, fun c k => h.cells c (hc c k), fun s k => h.facts s (hs s k)⟩

theorem Mo.cell {p : Nat} {w u : World} {cs : List (Nat × Nat × Value)} {fs : List (Nat × Nat × (World → Prop))} (h : Mo p w u cs fs) (i : Nat) {b o : Nat} {v : Value} (hc : cs[i]? = some (b, o, v)) : u.cell? ⟨b, o, none⟩ = some v := (h.cells _ (List.mem_of_getElem? hc)).2.2.1

theorem Mo.fz {p : Nat} {w u : World} {cs : List (Nat × Nat × Value)} {fs : List (Nat × Nat × (World → Prop))} (h : Mo p w u cs fs) (i : Nat) {b o : Nat} {v : Value} (hc : cs[i]? = some (b, o, v)) : u.frozen? ⟨b, o, none⟩ = false := (h.cells _ (List.mem_of_getElem? hc)).2.2.2

theorem Mo.lt {p : Nat} {w u : World} {cs : List (Nat × Nat × Value)} {fs : List (Nat × Nat × (World → Prop))} (h : Mo p w u cs fs) (i : Nat) {b o : Nat} {v : Value} (hc : cs[i]? = some (b, o, v)) : b < u.heap.size := (h.cells _ (List.mem_of_getElem? hc)).2.1

theorem Mo.get {p : Nat} {w u : World} {cs : List (Nat × Nat × Value)} {fs : List (Nat × Nat × (World → Prop))} (h : Mo p w u cs fs) (i : Nat) {B T : Nat} {P : World → Prop} (hs : fs[i]? = some (B, T, P)) : P u := (h.facts _ (List.mem_of_getElem? hs)).2.2

theorem Mo.alloc1 {p : Nat} {w u : World} {cs : List (Nat × Nat × Value)} {fs : List (Nat × Nat × (World → Prop))} (h : Mo p w u cs fs) (hp : p < u.heap.size) (v : Value) (t : TypeId) : Mo p w (u.alloc (.cells #[v] t)) ((u.heap.size, 0, v) :: cs) fs :=
  (h.below ((Below.refl _ _).alloc (Nat.le_refl _) (.cells #[v] t))).cons hp (by simp) (by simp)

theorem Mo.alloc2 {p : Nat} {w u : World} {cs : List (Nat × Nat × Value)} {fs : List (Nat × Nat × (World → Prop))} (h : Mo p w u cs fs) (hp : p < u.heap.size) (v0 v1 : Value) (t : TypeId) : Mo p w (u.alloc (.cells #[v0, v1] t)) ((u.heap.size, 0, v0) :: (u.heap.size, 1, v1) :: cs) fs :=
  ((h.below ((Below.refl _ _).alloc (Nat.le_refl _) (.cells #[v0, v1] t))).cons hp (by simp) (by simp)).cons hp (by simp) (by simp)

theorem Mo.alloc3 {p : Nat} {w u : World} {cs : List (Nat × Nat × Value)} {fs : List (Nat × Nat × (World → Prop))} (h : Mo p w u cs fs) (hp : p < u.heap.size) (v0 v1 v2 : Value) (t : TypeId) : Mo p w (u.alloc (.cells #[v0, v1, v2] t)) ((u.heap.size, 0, v0) :: (u.heap.size, 1, v1) :: (u.heap.size, 2, v2) :: cs) fs :=
  (((h.below ((Below.refl _ _).alloc (Nat.le_refl _) (.cells #[v0, v1, v2] t))).cons hp (by simp) (by simp)).cons hp (by simp) (by simp)).cons hp (by simp) (by simp)

/-- a cell of the bundle is written. -/
theorem Mo.set {p : Nat} {w u : World} {cs : List (Nat × Nat × Value)} {fs : List (Nat × Nat × (World → Prop))} (h : Mo p w u cs fs) (i : Nat) {b o : Nat} {old : Value} (hc : cs[i]? = some (b, o, old)) (v : Value) (hb : w.heap.size ≤ b)
    (hd : ∀ c ∈ cs.eraseIdx i, c.1 ≠ b ∨ c.2.1 ≠ o) (hf : ∀ f ∈ fs, b < f.1 ∨ f.2.1 ≤ b) : Mo p w (u.setCell ⟨b, o, none⟩ v) (cs.set i (b, o, v)) fs := by
  have h0 := h.cells _ (List.mem_of_getElem? hc)
  refine ⟨h.out.setNew hb v, fun c k => ?_, fun f k => ⟨(h.facts f k).1, (h.facts f k).2.1, (h.facts f k).2.1.setC (h.facts f k).2.2 (fun e => by have := hf f k; have h1 := e.1; have h2 := e.2; simp only at h1 h2; omega) v⟩⟩
  rcases mem_set_erase cs i _ c k with rfl | k
  · exact ⟨h0.1, by simpa using h0.2.1, World.cell?_setCell_same _ _ _ h0.2.2.1, by simpa using h0.2.2.2⟩
  · have h1 := h.cells c (List.mem_of_mem_eraseIdx k)
    refine ⟨h1.1, by simpa using h1.2.1, ?_, by simpa using h1.2.2.2⟩
    rw [World.cell?_setCell_other _ _ _ _ (fun e => by injection e with e1 e2; rcases hd c k with h | h; exact h e1.symm; exact h e2.symm)]
    exact h1.2.2.1

/-- a slice of numbers that a call has just laid reads as its numbers. -/
theorem new_at {wr : World} {t : TypeId} (zs : List Int) : ∀ i, i < zs.length → (wr.alloc (.cells (zs.map (Value.int .i64)).toArray t)).cell? ⟨wr.heap.size, i, none⟩ = some (.int .i64 (gt zs i)) := by
  intro i hi
  rw [World.cell?_alloc_new]
  simp [gt, hi]

theorem mod_nn {x n : Int} (hn : 1 ≤ n) : 0 ≤ x % n := Int.emod_nonneg _ (by omega)

theorem mod_lt {x n : Int} (hn : 1 ≤ n) : x % n < n := Int.emod_lt_of_pos _ (by omega)

set_option maxRecDepth 100000 in
set_option maxHeartbeats 1000000 in
theorem l1Next_calls (p : Nat) (a : Option Addr) (len cap t : Nat) (n : Int) (w : World) (h1 : 1 ≤ n) (h2 : n ≤ 200) (ht : t ≤ 1000000) (hs : Src w p a len cap t) :
    Calls Try.prog 53 #[.pointer (some ⟨p, 0, none⟩), .int .i64 n] w fun e w' => ∃ r : Int, e = .returned (.int .i64 r) ∧ 0 ≤ r ∧ r < n ∧ Src w' p a len cap (t + 1) ∧ Outside p (p + 1) w w' := by
  have st := hs.step
  have so : Outside p (p + 1) w (w.setCell ⟨p, 1, none⟩ (.int .i64 ((t : Int) + 1))) := (Outside.refl _ _ _).setCell (Nat.le_refl _) (Nat.lt_succ_self _) _
  obtain ⟨hp, hc0, hc1, hf1, hl, hb⟩ := hs
  have sc1 := st.2.2.1
  have sc0 := st.2.1
  have HST := hide st
  clear st
  have hn1 : ¬ n < 1 := by omega
  have hn2 : ¬ 200 < n := by omega
  by_cases h0 : len = 0
  · subst h0
    go_enter Try.func53, Try.ntmps53
    go_wp2
    go_ret
    exact ⟨_, rfl, mod_nn h1, mod_lt h1, HST.out, so⟩
  · have h0' : ((len : Int) == 0) = false := by simp; omega
    obtain ⟨b, off, rfl, hbp, hcb⟩ := hb (by omega)
    obtain ⟨v, v0, v1, hv⟩ := hcb (t % len) (Nat.mod_lt _ (by omega))
    have hvs : (w.setCell ⟨p, 1, none⟩ (.int .i64 ((t : Int) + 1))).cell? ⟨b, off + t % len, none⟩ = some (.int .u8 v) := by
      rw [World.cell?_setCell_other _ _ _ _ (fun e => by injection e with e1; omega)]; exact hv
    have hlp : (0 : Int) < (len : Int) := by omega
    have hm0 : 0 ≤ (t : Int) % (len : Int) := Int.emod_nonneg _ (by omega)
    have hm1 : (t : Int) % (len : Int) < (len : Int) := Int.emod_lt_of_pos _ hlp
    have hme : t % len = ((t : Int) % (len : Int)).toNat := by omega
    rw [hme] at hvs
    have htm : (t : Int).tmod (len : Int) = (t : Int) % (len : Int) := Int.tmod_eq_emod_of_nonneg (by omega)
    have htd : (t : Int).tdiv (len : Int) = (t : Int) / (len : Int) := Int.tdiv_eq_ediv_of_nonneg (by omega)
    have hq0 : 0 ≤ (t : Int) / (len : Int) := Int.ediv_nonneg (by omega) (by omega)
    have hq1 : (t : Int) / (len : Int) ≤ 1000000 := Int.le_trans (Int.ediv_le_self _ (by omega)) (by omega)
    clear hcb hb hv hme
    go_enter Try.func53, Try.ntmps53
    go_wp2_with fail
    go_quiet (fail)
    go_wp2
    go_ret
    exact ⟨_, rfl, mod_nn h1, mod_lt h1, src_drewN HST.out _, outside_drewN so _⟩

set_option maxRecDepth 100000 in
theorem l1Chance_calls (p : Nat) (a : Option Addr) (len cap t : Nat) (n : Int) (w : World) (h1 : 1 ≤ n) (h2 : n ≤ 200) (ht : t ≤ 1000000) (hs : Src w p a len cap t) :
    Calls Try.prog 125 #[.pointer (some ⟨p, 0, none⟩), .int .i64 n] w fun e w' => ∃ r : Bool, e = .returned (.bool r) ∧ Src w' p a len cap (t + 1) ∧ Outside p (p + 1) w w' := by
  go_enter Try.func125, Try.ntmps125
  go_wp2_with fail
  refine (l1Next_calls p a len cap t n _ h1 h2 ht hs).mono ?_
  rintro e w1 ⟨r, rfl, _, _, s1, o1⟩
  go_wp2
  go_ret
  exact ⟨_, rfl, s1, o1⟩

set_option maxRecDepth 100000 in
theorem l1Pick_calls (p : Nat) (a : Option Addr) (len cap t : Nat) (g m mc : Nat) (zs : List Int) (w : World) (hm1 : 1 ≤ m) (hm2 : m ≤ 200) (ht : t ≤ 1000000) (hs : Src w p a len cap t) (hg : p < g) (hgs : g < w.heap.size) (hz : zs.length = m)
    (hc : ∀ i, i < m → w.cell? ⟨g, i, none⟩ = some (.int .i64 (gt zs i))) :
    Calls Try.prog 113 #[.pointer (some ⟨p, 0, none⟩), .slice (some ⟨g, 0, none⟩) m mc] w fun e w' => ∃ r : Int, e = .returned (.int .i64 r) ∧ Src w' p a len cap (t + 1) ∧ Outside p (p + 1) w w' := by
  go_enter Try.func113, Try.ntmps113
  go_wp2_with fail
  refine (l1Next_calls p a len cap t (m : Int) _ (by omega) (by omega) ht hs).mono ?_
  rintro e w1 ⟨r, rfl, r0, r1, s1, o1⟩
  have hcr : w1.cell? ⟨g, r.toNat, none⟩ = some (.int .i64 (gt zs r.toNat)) := (World.cell?_of_block (a := ⟨g, r.toNat, none⟩) (o1.block g hgs (.inr hg))).trans (hc r.toNat (by omega))
  go_wp2
  go_ret
  exact ⟨_, rfl, s1, o1⟩

set_option maxRecDepth 100000 in
theorem l1PickM_calls (p : Nat) (a : Option Addr) (len cap t : Nat) (g m mc : Nat) (zs : List Int) (w : World) (hm1 : 1 ≤ m) (hm2 : m ≤ 200) (ht : t ≤ 1000000) (hs : Src w p a len cap t) (hg : p < g) (hgs : g < w.heap.size) (_ : zs.length = m)
    (hc : ∀ i, i < m → w.cell? ⟨g, i, none⟩ = some (.int .i64 (gt zs i))) :
    Calls Try.prog 113 #[.pointer (some ⟨p, 0, none⟩), .slice (some ⟨g, 0, none⟩) m mc] w fun e w' => ∃ j, j < m ∧ e = .returned (.int .i64 (gt zs j)) ∧ Src w' p a len cap (t + 1) ∧ Outside p (p + 1) w w' := by
  go_enter Try.func113, Try.ntmps113
  go_wp2_with fail
  refine (l1Next_calls p a len cap t (m : Int) _ (by omega) (by omega) ht hs).mono ?_
  rintro e w1 ⟨r, rfl, r0, r1, s1, o1⟩
  have hcr : w1.cell? ⟨g, r.toNat, none⟩ = some (.int .i64 (gt zs r.toNat)) := (World.cell?_of_block (a := ⟨g, r.toNat, none⟩) (o1.block g hgs (.inr hg))).trans (hc r.toNat (by omega))
  go_wp2
  go_ret
  exact ⟨r.toNat, by omega, rfl, s1, o1⟩

end Go.Proofs.Ytgkjmeogdomgmaa
