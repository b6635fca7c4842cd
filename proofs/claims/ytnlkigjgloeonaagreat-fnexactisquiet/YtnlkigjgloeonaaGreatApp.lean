import Derived.Test.YtnlkigjgloeonaaGreatBase
import Derived.WalkKit
import Derived.ProofKit
import Derived.OpenShut
import Derived.ShutString
import Derived.ChangeOld
import Derived.Below
import Derived.WalkSpells
import Derived.Deep.QuietTactic
import Derived.BigQuiet
import Derived.Deep.RegionWith
import Derived.Deep.WholeRow
import Derived.Deep.DeepCutAuto
import Derived.Deep.RegionHeld2
import Derived.Deep.AppendLies
import Derived.Deep.RegionLaw
namespace Go.Proofs.YtnlkigjgloeonaaGreat
open Go.ChangeShapes Go.WideShapes Go.ChangeAt Go.RowKit

theorem mix_take (f : Int → Int → Int) (xs ys : List Int) (k : Nat) (h : k < xs.length) : ((mix f xs ys).take (k + 1)).map (Value.int .i64) = ((mix f xs ys).take k).map (Value.int .i64) ++ [.int .i64 (f (gt xs k) (gt ys k))] := by
  rw [List.take_succ_eq_append_getElem (by rw [length_mix]; exact h), List.map_append]
  simp [mix]

theorem one_new {W : World} {B : Nat} {v : Value} (h : W.cell? ⟨B, 0, none⟩ = some v) : ∀ j u, [v][j]? = some u → W.cell? ((Addr.mk B 0 none).add j) = some u := by
  intro j u hj
  match j, hj with
  | 0, hj => simp at hj; subst hj; simpa [Addr.add] using h

theorem grow_cell {wr w1 : World} {o : Obj} {B0 : Nat} {e : TypeId} {v : Value} {k : Nat} {L : List Value} (hown : wr.ownsRow B0 e 1 v k L) (hg : ((wr.alloc o).drew).grownBy w1 v.ownBlock) (hs : B0 ≤ wr.heap.size) {p : Addr} (hp : p.block < B0) :
    w1.cell? p = wr.cell? p ∧ w1.frozen? p = wr.frozen? p := by
  have hlt : p.block < wr.heap.size := by omega
  have hne : some p.block ≠ v.ownBlock := fun e => by have := (hown.lt p.block e.symm).1; omega
  have hb : w1.heap[p.block]? = wr.heap[p.block]? := (hg.block p.block (by simp; omega) hne).trans (Below.heap_alloc wr o p.block hlt)
  exact ⟨World.cell?_of_block hb, World.frozen?_of_block hb⟩

/-- 'x.f = append(x.f, y)': the field's cell lies at block P, the row from B0 on. -/
theorem app_step {w wr w1 : World} {o : Obj} {B0 P : Nat} {e : TypeId} {v nv : Value} {k : Nat} {L L' : List Value} (hbel : Below w.heap.size w wr) (hs : B0 ≤ wr.heap.size) (hP : P < B0) (hw : w.heap.size ≤ P) (hv : wr.cell? ⟨P, 0, none⟩ = some v) (hvf : wr.frozen? ⟨P, 0, none⟩ = false)
    (hown : wr.ownsRow B0 e 1 v k L) (hg : ((wr.alloc o).drew).grownBy w1 v.ownBlock) (hown1 : w1.ownsRow B0 e 1 nv (k + 1) L') :
    (w1.setCell ⟨P, 0, none⟩ nv).cell? ⟨P, 0, none⟩ = some nv ∧ (w1.setCell ⟨P, 0, none⟩ nv).frozen? ⟨P, 0, none⟩ = false ∧ (w1.setCell ⟨P, 0, none⟩ nv).ownsRow B0 e 1 nv (k + 1) L' ∧
      (∀ p : Addr, p.block < B0 → p.block ≠ P → (w1.setCell ⟨P, 0, none⟩ nv).cell? p = wr.cell? p ∧ (w1.setCell ⟨P, 0, none⟩ nv).frozen? p = wr.frozen? p) ∧ Below w.heap.size w (w1.setCell ⟨P, 0, none⟩ nv) ∧ B0 ≤ (w1.setCell ⟨P, 0, none⟩ nv).heap.size := by
  have g0 := grow_cell hown hg hs (p := ⟨P, 0, none⟩) hP
  refine ⟨World.cell?_setCell_same _ _ _ (g0.1.trans hv), by rw [World.frozen?_setCell]; exact g0.2.trans hvf, ownsRow_setCell_below hown1 hP _, fun p hp hne => ?_, ?_, ?_⟩
  · have g1 := grow_cell hown hg hs (p := p) hp
    exact ⟨by rw [World.cell?_setCell_other _ _ _ _ (fun h => hne (by rw [← h]))]; exact g1.1, by rw [World.frozen?_setCell]; exact g1.2⟩
  · refine Below.setCell ?_ (by exact hw) _
    exact ((hbel.alloc hbel.size o).drew).grown hg (by have := hbel.size; simp; omega) (fun g hg' => by have := (hown.lt g hg').1; omega)
  · have := hg.size
    simp at this ⊢
    omega

theorem owns_osl {w : World} {B0 : Nat} {e : TypeId} {v : Value} {n : Nat} {zs : List Int} (hn : n ≤ 1048576) (h : w.ownsRow B0 e 1 v n (zs.map (Value.int .i64))) : ∃ a c, v = .slice a n c ∧ OSl w B0 w.heap.size a n zs := by
  have hlen : zs.length = n := by simpa using h.1
  by_cases h0 : n = 0
  · subst h0
    rcases h.2 with ⟨rfl, _⟩ | ⟨g, cap, cur, rfl, hb, hg, _, _, _, _⟩
    · exact ⟨none, 0, rfl, hlen, hn, .inl ⟨rfl, rfl⟩⟩
    · exact ⟨_, _, rfl, hlen, hn, .inr ⟨g, rfl, hb, (Array.getElem?_eq_some_iff.1 hg).1, (Array.getElem?_eq_some_iff.1 hg).1, fun i hi => by omega, fun i => by simp [World.frozen?, hg]⟩⟩
  · obtain ⟨g, cap, rfl, hb, _, _, blk⟩ := owns_blk (by omega) h
    exact ⟨_, _, rfl, hlen, hn, .inr ⟨g, rfl, hb, blk.1, blk⟩⟩

end Go.Proofs.YtnlkigjgloeonaaGreat
