import Derived.Test.YtipfaoecodclaaaSep
import Derived.WalkKit
import Derived.ProofKit
import Derived.OpenShut
import Derived.ShutString
import Derived.ChangeOld
import Derived.Below
import Derived.WalkSpells
import Derived.Deep.QuietTactic
import Derived.BigQuiet
import Derived.Deep.RegionWith
import Derived.Deep.WholeRow
import Derived.Deep.DeepCutAuto
import Derived.Deep.RegionHeld2
import Derived.Deep.AppendLies
import Derived.Deep.RegionLaw
namespace Go.Proofs.Ytipfaoecodclaaa
open Go.ChangeShapes Go.WideShapes Go.ChangeAt Go.RowKit

/-- values are stored from a place on. -/
def setL : World → Nat → Nat → List Value → World
  | w, _, _, [] => w
  | w, N, o, v :: r => setL (w.setCell ⟨N, o, none⟩ v) N (o + 1) r

theorem setL_size : ∀ (vs : List Value) (w : World) (N o : Nat), (setL w N o vs).heap.size = w.heap.size
  | [], _, _, _ => rfl
  | v :: r, w, N, o => by rw [setL, setL_size r]; simp

theorem setL_fz : ∀ (vs : List Value) (w : World) (N o : Nat) (p : Addr), (setL w N o vs).frozen? p = w.frozen? p
  | [], _, _, _, _ => rfl
  | v :: r, w, N, o, p => by rw [setL, setL_fz r]; simp

theorem setL_other : ∀ (vs : List Value) (w : World) (N o j : Nat), (j < o ∨ o + vs.length ≤ j) → (setL w N o vs).cell? ⟨N, j, none⟩ = w.cell? ⟨N, j, none⟩
  | [], _, _, _, _, _ => rfl
  | v :: r, w, N, o, j, h => by
    rw [setL, setL_other r _ N (o + 1) j (by simp at h; omega), World.cell?_setCell_other _ _ _ _ (fun e => by injection e with _ e2; simp at h; omega)]

theorem setL_some : ∀ (vs : List Value) (w : World) (N o : Nat) (p : Addr), (∃ v, w.cell? p = some v) → ∃ v, (setL w N o vs).cell? p = some v
  | [], _, _, _, _, h => h
  | v :: r, w, N, o, p, h => by
    rw [setL]
    exact setL_some r _ N (o + 1) p (cell?_setCell_some h.choose_spec)

theorem setL_at : ∀ (vs : List Value) (w : World) (N o : Nat), (∀ i, i < vs.length → ∃ v, w.cell? ⟨N, o + i, none⟩ = some v) → ∀ i v, vs[i]? = some v → (setL w N o vs).cell? ⟨N, o + i, none⟩ = some v
  | [], _, _, _, _, i, v, h => by simp at h
  | v :: r, w, N, o, hc, 0, x, h => by
    obtain rfl : v = x := by simpa using h
    show (setL (w.setCell ⟨N, o, none⟩ v) N (o + 1) r).cell? ⟨N, o, none⟩ = some v
    rw [setL_other r _ N (o + 1) o (by omega)]
    exact World.cell?_setCell_same _ _ _ (hc 0 (by simp)).choose_spec
  | v :: r, w, N, o, hc, i + 1, x, h => by
    rw [setL, show o + (i + 1) = o + 1 + i by omega]
    refine setL_at r _ N (o + 1) (fun k hk => ?_) i x (by simpa using h)
    have := hc (k + 1) (by simpa using hk)
    rw [show o + (k + 1) = o + 1 + k by omega] at this
    exact cell?_setCell_some this.choose_spec

theorem setL_blk : ∀ (vs : List Value) (w : World) (N o q : Nat), q ≠ N → (setL w N o vs).heap[q]? = w.heap[q]?
  | [], _, _, _, _, _ => rfl
  | v :: r, w, N, o, q, h => by rw [setL, setL_blk r _ N (o + 1) q h]; exact Below.heap_setCell _ _ _ _ h

theorem below_setL : ∀ (vs : List Value) {B : Nat} {w u : World} (N o : Nat), Below B w u → B ≤ N → Below B w (setL u N o vs)
  | [], _, _, _, _, _, h, _ => h
  | v :: r, _, _, _, N, o, h, hN => below_setL r N (o + 1) (h.setCell (by exact hN) v) hN

theorem outs_setL : ∀ (vs : List Value) {S : Nat → Prop} {w u : World} (N o : Nat), OutS S w u → S N → OutS S w (setL u N o vs)
  | [], _, _, _, _, _, h, _ => h
  | v :: r, _, _, _, N, o, h, hN => outs_setL r N (o + 1) (h.setCell (by exact hN) v) hN

theorem loc_setL {S : Nat → Prop} {Q : World → Prop} (hl : Loc S Q) {w : World} (h : Q w) {N : Nat} (o : Nat) (hN : ¬ S N) (vs : List Value) : Q (setL w N o vs) :=
  hl w _ (fun q hq _ => setL_blk vs w N o q (fun e => hN (e ▸ hq))) h

end Go.Proofs.Ytipfaoecodclaaa
