import Derived.Test.YthmeebpaaegoiabKiG
import Derived.WalkKit
import Derived.ProofKit
import Derived.OpenShut
import Derived.ShutString
import Derived.ChangeOld
import Derived.Below
import Derived.WalkSpells
import Derived.Deep.QuietTactic
import Derived.BigQuiet
import Derived.Deep.RegionWith
import Derived.Deep.WholeRow
import Derived.Deep.DeepCutAuto
import Derived.Deep.RegionHeld2
import Derived.Deep.AppendLies
import Derived.Deep.RegionLaw
namespace Go.Proofs.Ythmeebpaaegoiab
open Go.ChangeShapes Go.WideShapes Go.ChangeAt Go.RowKit

theorem BX.congr {w w' : World} {xs : List OB} {i nx : Int} {ka : Option Addr} {kl : Nat} (h : BX w xs i nx ka kl) (hb : Below w.heap.size w w') : BX w' xs i nx ka kl := by
  unfold BX at h ⊢
  by_cases hc : boxC xs i = 0
  · rw [if_pos hc] at h ⊢; exact ⟨h.1, h.2.1, h.2.2.below hb (Nat.le_refl _)⟩
  · rw [if_neg hc] at h ⊢; exact h

theorem box_quotas {xs : List OB} {i : Int} (h : kerF xs = 0) : (kidX (gO xs) i xs.length).length ≤ 12 ∧ ∀ j, j < (kidX (gO xs) i xs.length).length → 0 ≤ (gO (kidX (gO xs) i xs.length) j).2.2.2.2.1 ∧ (gO (kidX (gO xs) i xs.length) j).2.2.2.2.1 ≤ 200 := by
  obtain ⟨h1, h12, hone, _⟩ := kerF_inv h
  refine ⟨Nat.le_trans (kidX_le _ _ _) h12, fun j hj => ?_⟩
  obtain ⟨q, hq, e⟩ := kidX_at hj
  rw [← e]
  exact (rngB_inv (oneF_inv (hone q hq)).2.2.2.1).1

end Go.Proofs.Ythmeebpaaegoiab
