import Derived.Test.YtjahlhibgnbkgaaDraw1
import Derived.WalkKit
import Derived.ProofKit
import Derived.OpenShut
import Derived.ShutString
import Derived.ChangeOld
import Derived.Below
import Derived.WalkSpells
import Derived.Deep.QuietTactic
import Derived.BigQuiet
import Derived.Deep.RegionWith
import Derived.Deep.WholeRow
import Derived.Deep.DeepCutAuto
import Derived.Deep.RegionHeld2
import Derived.Deep.AppendLies
import Derived.Deep.RegionLaw
namespace Go.Proofs.Ytjahlhibgnbkgaa
open Go.ChangeShapes Go.WideShapes Go.ChangeAt Go.RowKit

theorem Blk.store {w : World} {b r : Nat} {zs : List Int} {x : Int} (h : Blk w b zs) (hr : r < zs.length) : Blk (w.setCell ⟨b, r, none⟩ (.int .i64 x)) b (zs.set r x) := by
  refine ⟨by simpa using h.1, fun i hi => ?_, fun i => by simpa using h.2.2 i⟩
  simp at hi
  by_cases e : i = r
  · subst e; rw [World.cell?_setCell_same _ _ _ (h.2.1 i hi)]; simp [gt, hi]
  · rw [World.cell?_setCell_other _ _ _ _ (fun h => e (by injection h with _ h2; exact h2.symm)), h.2.1 i hi]
    simp [gt, hi, Ne.symm e]

theorem OSl.four {w : World} {B T : Nat} {a : Option Addr} {zs : List Int} (h : OSl w B T a 4 zs) : ∃ b, a = some ⟨b, 0, none⟩ ∧ B ≤ b ∧ b < T ∧ Blk w b zs ∧ zs.length = 4 := by
  obtain ⟨h1, _, h2⟩ := h
  rcases h2 with ⟨_, h2⟩ | ⟨b, rfl, h3, h5, h4⟩
  · omega
  · exact ⟨b, rfl, h3, h5, h4, h1⟩

theorem Src.out {w u : World} {p : Nat} {a : Option Addr} {len cap t : Nat} (h : Src w p a len cap t) (hb : Below w.heap.size w u) : Src u p a len cap t := h.below hb

theorem Blk.outside {w u : World} {p b : Nat} {zs : List Int} (h : Blk w b zs) (ho : Outside p (p + 1) w u) (hp : p < b) : Blk u b zs := ho.blk h (.inr hp)

theorem idx_lt {r : Int} (h0 : 0 ≤ r) (h4 : r < 4) : r.toNat < 4 := by omega

theorem Src.drew {w : World} {p : Nat} {a : Option Addr} {len cap t : Nat} (h : Src w p a len cap t) : Src w.drew p a len cap t := h.below (Below.refl _ _).drew

end Go.Proofs.Ytjahlhibgnbkgaa
