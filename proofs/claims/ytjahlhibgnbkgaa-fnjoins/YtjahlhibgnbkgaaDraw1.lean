import Derived.Test.YtjahlhibgnbkgaaDraw0
import Derived.WalkKit
import Derived.ProofKit
import Derived.OpenShut
import Derived.ShutString
import Derived.ChangeOld
import Derived.Below
import Derived.WalkSpells
import Derived.Deep.QuietTactic
import Derived.BigQuiet
import Derived.Deep.RegionWith
import Derived.Deep.WholeRow
import Derived.Deep.DeepCutAuto
import Derived.Deep.RegionHeld2
import Derived.Deep.AppendLies
import Derived.Deep.RegionLaw
namespace Go.Proofs.Ytjahlhibgnbkgaa
open Go.ChangeShapes Go.WideShapes Go.ChangeAt Go.RowKit

theorem Src.same {w u : World} {p : Nat} {a : Option Addr} {len cap t : Nat} (h : Src w p a len cap t) (hs : w.heap.size ≤ u.heap.size) (hk : ∀ q : Addr, q.block ≤ p → u.cell? q = w.cell? q ∧ u.frozen? q = w.frozen? q) : Src u p a len cap t := by
  obtain ⟨h1, h2, h3, h4, h5, h6⟩ := h
  refine ⟨by omega, (hk ⟨p, 0, none⟩ (Nat.le_refl _)).1.trans h2, (hk ⟨p, 1, none⟩ (Nat.le_refl _)).1.trans h3, (hk ⟨p, 1, none⟩ (Nat.le_refl _)).2.trans h4, h5, fun hp => ?_⟩
  obtain ⟨b, off, e, hb, hc⟩ := h6 hp
  refine ⟨b, off, e, hb, fun i hi => ?_⟩
  obtain ⟨v, v0, v1, hv⟩ := hc i hi
  exact ⟨v, v0, v1, (hk ⟨b, off + i, none⟩ (by show b ≤ p; omega)).1.trans hv⟩

theorem Outside.setNew {B T : Nat} {w u : World} (h : Outside B T w u) {q : Addr} (hq : w.heap.size ≤ q.block) (v : Value) : Outside B T w (u.setCell q v) :=
  ⟨h.os, h.tape, h.output, by have := h.size; simpa using this, fun k hk hn => (Below.heap_setCell _ _ _ _ (by omega)).trans (h.block k hk hn)⟩

theorem Outside.wide {B T : Nat} {w u v : World} (h : Outside B T w u) (k : Outside B T u v) : Outside B T w v := h.trans k

theorem owns_outside {w u : World} {p B0 : Nat} {e : TypeId} {v : Value} {k : Nat} {L : List Value} (h : w.ownsRow B0 e 1 v k L) (ho : Outside p (p + 1) w u) (hp : p < B0) : u.ownsRow B0 e 1 v k L := by
  obtain ⟨h1, h2⟩ := h
  refine ⟨h1, ?_⟩
  rcases h2 with h2 | ⟨g, cap, cur, hv, hg, hh, r⟩
  · exact .inl h2
  · exact .inr ⟨g, cap, cur, hv, hg, by rw [ho.block g (Array.getElem?_eq_some_iff.1 hh).1 (.inr (by omega))]; exact hh, r⟩

theorem grow_cell' {w1 w2 : World} {o : Obj} {B0 : Nat} {e : TypeId} {v : Value} {k : Nat} {L : List Value} (hown : w1.ownsRow B0 e 1 v k L) (hg : (w1.alloc o).grownBy w2 v.ownBlock) (hs : B0 ≤ w1.heap.size) {q : Addr} (hq : q.block < B0) :
    w2.cell? q = w1.cell? q ∧ w2.frozen? q = w1.frozen? q := by
  have hlt : q.block < w1.heap.size := by omega
  have hne : some q.block ≠ v.ownBlock := fun e => by have := (hown.lt q.block e.symm).1; omega
  have hb : w2.heap[q.block]? = w1.heap[q.block]? := (hg.block q.block (by simp; omega) hne).trans (Below.heap_alloc w1 o q.block hlt)
  exact ⟨World.cell?_of_block hb, World.frozen?_of_block hb⟩

theorem app_stepO {w w1 w2 : World} {o : Obj} {B0 P p : Nat} {e : TypeId} {v nv : Value} {k : Nat} {L L' : List Value} {a : Option Addr} {len cap t : Nat} (ho : Outside p (p + 1) w w1) (hw : w.heap.size ≤ P) (hP : P < B0) (hs : B0 ≤ w1.heap.size) (hp : p < w.heap.size)
    (hv : w1.cell? ⟨P, 0, none⟩ = some v) (hvf : w1.frozen? ⟨P, 0, none⟩ = false) (hown : w1.ownsRow B0 e 1 v k L) (hg : (w1.alloc o).grownBy w2 v.ownBlock) (hown1 : w2.ownsRow B0 e 1 nv (k + 1) L') (hsrc : Src w1 p a len cap t) :
    (w2.setCell ⟨P, 0, none⟩ nv).cell? ⟨P, 0, none⟩ = some nv ∧ (w2.setCell ⟨P, 0, none⟩ nv).frozen? ⟨P, 0, none⟩ = false ∧ (w2.setCell ⟨P, 0, none⟩ nv).ownsRow B0 e 1 nv (k + 1) L' ∧
      (∀ q : Addr, q.block < B0 → q.block ≠ P → (w2.setCell ⟨P, 0, none⟩ nv).cell? q = w1.cell? q ∧ (w2.setCell ⟨P, 0, none⟩ nv).frozen? q = w1.frozen? q) ∧ Outside p (p + 1) w (w2.setCell ⟨P, 0, none⟩ nv) ∧ B0 ≤ (w2.setCell ⟨P, 0, none⟩ nv).heap.size ∧ Src (w2.setCell ⟨P, 0, none⟩ nv) p a len cap t := by
  have g0 := grow_cell' hown hg hs (q := ⟨P, 0, none⟩) hP
  have hsz : w1.heap.size ≤ w2.heap.size := by have := hg.size; simp at this; omega
  have hrest : ∀ q : Addr, q.block < B0 → q.block ≠ P → (w2.setCell ⟨P, 0, none⟩ nv).cell? q = w1.cell? q ∧ (w2.setCell ⟨P, 0, none⟩ nv).frozen? q = w1.frozen? q := fun q hq hne => by
    have g1 := grow_cell' hown hg hs (q := q) hq
    exact ⟨by rw [World.cell?_setCell_other _ _ _ _ (fun h => hne (by rw [← h]))]; exact g1.1, by rw [World.frozen?_setCell]; exact g1.2⟩
  refine ⟨World.cell?_setCell_same _ _ _ (g0.1.trans hv), by rw [World.frozen?_setCell]; exact g0.2.trans hvf, ownsRow_setCell_below hown1 hP _, hrest, ?_, by simp; omega, hsrc.same (by simpa using hsz) (fun q hq => hrest q (by omega) (by omega))⟩
  refine Outside.setNew ?_ (by exact hw) _
  refine ⟨hg.os.trans ho.os, hg.tape.trans ho.tape, hg.output.trans ho.output, by have := ho.size; omega, fun i hi hn => ?_⟩
  have hne : some i ≠ v.ownBlock := fun e => by have := (hown.lt i e.symm).1; omega
  have hi1 : i < w1.heap.size := by have := ho.size; omega
  exact (hg.block i (by simp; omega) hne).trans ((Below.heap_alloc w1 o i hi1).trans (ho.block i hi hn))

theorem ints_snoc (L : List Int) (r : Int) : L.map (Value.int .i64) ++ [.int .i64 r] = (L ++ [r]).map (Value.int .i64) := by simp

theorem six_at {wr : World} {t : TypeId} : ∀ i, i < 6 → ((wr.alloc (.cells #[.int .i64 2, .int .i64 2, .int .i64 2, .int .i64 3, .int .i64 4, .int .i64 1] t)).drew).cell? ⟨wr.heap.size, i, none⟩ = some (.int .i64 (gt [2, 2, 2, 3, 4, 1] i)) := by
  intro i hi
  rw [World.cell?_drew, World.cell?_alloc_new]
  rcases (by omega : i = 0 ∨ i = 1 ∨ i = 2 ∨ i = 3 ∨ i = 4 ∨ i = 5) with rfl | rfl | rfl | rfl | rfl | rfl <;> rfl

theorem Outside.drew {B T : Nat} {w u : World} (h : Outside B T w u) : Outside B T w u.drew := h.trans ⟨rfl, rfl, rfl, Nat.le_refl _, fun _ _ _ => rfl⟩

theorem Outside.cell {B T : Nat} {w u : World} (h : Outside B T w u) {q : Addr} {v : Value} (hq : q.block < w.heap.size) (hn : T ≤ q.block) (hv : w.cell? q = some v) : u.cell? q = some v := (World.cell?_of_block (h.block q.block hq (.inr hn))).trans hv

theorem Outside.frozen {B T : Nat} {w u : World} (h : Outside B T w u) {q : Addr} {v : Bool} (hq : q.block < w.heap.size) (hn : T ≤ q.block) (hv : w.frozen? q = v) : u.frozen? q = v := (World.frozen?_of_block (h.block q.block hq (.inr hn))).trans hv

theorem owns_cap {w : World} {B0 : Nat} {e : TypeId} {v : Value} {n : Nat} {L : List Value} {a : Option Addr} {c : Nat} (h : w.ownsRow B0 e 1 v n L) (hv : v = .slice a n c) : n ≤ c := by
  rcases h.2 with ⟨_, h0⟩ | ⟨g, cap, cur, rfl, _, _, hc, _⟩
  · omega
  · injection hv with _ _ h3; omega

end Go.Proofs.Ytjahlhibgnbkgaa
