import Derived.Test.YtjahlhibgnbkgaaPlain3
import Derived.WalkKit
import Derived.ProofKit
import Derived.OpenShut
import Derived.ShutString
import Derived.ChangeOld
import Derived.Below
import Derived.WalkSpells
import Derived.Deep.QuietTactic
import Derived.BigQuiet
import Derived.Deep.RegionWith
import Derived.Deep.WholeRow
import Derived.Deep.DeepCutAuto
import Derived.Deep.RegionHeld2
import Derived.Deep.AppendLies
import Derived.Deep.RegionLaw
namespace Go.Proofs.Ytjahlhibgnbkgaa
open Go.ChangeShapes Go.WideShapes Go.ChangeAt Go.RowKit

/-- a source at block p: the bytes of a code that lies below p, and where it reads next. -/
def Src (w : World) (p : Nat) (a : Option Addr) (len cap : Nat) (t : Nat) : Prop :=
  p < w.heap.size ∧ w.cell? ⟨p, 0, none⟩ = some (.slice a len cap) ∧ w.cell? ⟨p, 1, none⟩ = some (.int .i64 (t : Int)) ∧ w.frozen? ⟨p, 1, none⟩ = false ∧ len ≤ 1048576 ∧
    (0 < len → ∃ b off, a = some ⟨b, off, none⟩ ∧ b < p ∧ ∀ i, i < len → ∃ v : Int, 0 ≤ v ∧ v ≤ 255 ∧ w.cell? ⟨b, off + i, none⟩ = some (.int .u8 v))

theorem Src.step {w : World} {p : Nat} {a : Option Addr} {len cap t : Nat} (h : Src w p a len cap t) : Src (w.setCell ⟨p, 1, none⟩ (.int .i64 ((t : Int) + 1))) p a len cap (t + 1) := by
  obtain ⟨h1, h2, h3, h4, h5, h6⟩ := h
  refine ⟨by simpa using h1, ?_, ?_, by simpa using h4, h5, fun hp => ?_⟩
  · rw [World.cell?_setCell_other _ _ _ _ (by simp)]; exact h2
  · rw [World.cell?_setCell_same _ _ _ h3]; simp
  · obtain ⟨b, off, e, hb, hc⟩ := h6 hp
    refine ⟨b, off, e, hb, fun i hi => ?_⟩
    obtain ⟨v, v0, v1, hv⟩ := hc i hi
    exact ⟨v, v0, v1, by rw [World.cell?_setCell_other _ _ _ _ (fun e => by injection e with e1; omega)]; exact hv⟩

theorem Src.below {w w' : World} {p : Nat} {a : Option Addr} {len cap t : Nat} (h : Src w p a len cap t) (hb : Below w.heap.size w w') : Src w' p a len cap t := by
  obtain ⟨h1, h2, h3, h4, h5, h6⟩ := h
  refine ⟨by have := hb.size; omega, (hb.cell (p := ⟨p, 0, none⟩) h1).trans h2, (hb.cell (p := ⟨p, 1, none⟩) h1).trans h3, (hb.frozen (p := ⟨p, 1, none⟩) h1).trans h4, h5, fun hp => ?_⟩
  obtain ⟨b, off, e, hb', hc⟩ := h6 hp
  refine ⟨b, off, e, hb', fun i hi => ?_⟩
  obtain ⟨v, v0, v1, hv⟩ := hc i hi
  exact ⟨v, v0, v1, (hb.cell (p := ⟨b, off + i, none⟩) (by show b < _; omega)).trans hv⟩

theorem Src.setCell {w : World} {p : Nat} {a : Option Addr} {len cap t : Nat} (h : Src w p a len cap t) {q : Addr} (hq : p < q.block) (x : Value) : Src (w.setCell q x) p a len cap t := by
  obtain ⟨h1, h2, h3, h4, h5, h6⟩ := h
  refine ⟨by simpa using h1, ?_, ?_, by simpa using h4, h5, fun hp => ?_⟩
  · rw [World.cell?_setCell_other _ _ _ _ (fun e => by rw [e] at hq; simp at hq)]; exact h2
  · rw [World.cell?_setCell_other _ _ _ _ (fun e => by rw [e] at hq; simp at hq)]; exact h3
  · obtain ⟨b, off, e, hb, hc⟩ := h6 hp
    refine ⟨b, off, e, hb, fun i hi => ?_⟩
    obtain ⟨v, v0, v1, hv⟩ := hc i hi
    exact ⟨v, v0, v1, by rw [World.cell?_setCell_other _ _ _ _ (fun e => by rw [e] at hq; simp at hq; omega)]; exact hv⟩

theorem outside_drewN {B T : Nat} {w u : World} (h : Outside B T w u) (n : Nat) : Outside B T w (u.drewN n) := h.trans ⟨rfl, rfl, rfl, Nat.le_refl _, fun _ _ _ => rfl⟩

theorem src_drewN {w : World} {p : Nat} {a : Option Addr} {len cap t : Nat} (h : Src w p a len cap t) (n : Nat) : Src (w.drewN n) p a len cap t := h.below (bdrewN (Below.refl _ _) n)

end Go.Proofs.Ytjahlhibgnbkgaa
