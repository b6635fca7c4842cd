import Derived.Test.YtainblfjfmjclajBase
import Derived.Test.YtainblfjfmjclajPlain3
import Derived.WalkKit
import Derived.ProofKit
import Derived.OpenShut
import Derived.ShutString
import Derived.ChangeOld
import Derived.Below
import Derived.WalkSpells
import Derived.Deep.QuietTactic
import Derived.BigQuiet
import Derived.Deep.RegionWith
import Derived.Deep.WholeRow
import Derived.Deep.DeepCutAuto
import Derived.Deep.RegionHeld2
import Derived.Deep.AppendLies
import Derived.Deep.RegionLaw
namespace Go.Proofs.Ytainblfjfmjclaj
open Go.ChangeShapes Go.WideShapes Go.ChangeAt Go.RowKit

/-- marks k, k+1, .. -/
def marksFrom (k : Int) (n : Nat) : List Int := (List.range n).map (fun j : Nat => k + (j : Int))

theorem length_marksFrom (k : Int) (n : Nat) : (marksFrom k n).length = n := by simp [marksFrom]

theorem gt_marksFrom (k : Int) (n j : Nat) (h : j < n) : gt (marksFrom k n) j = k + j := by simp [marksFrom, gt, h]

/-- a row that is being marked: the first k hold marks, all n are there. -/
def MRow (w : World) (b n k : Nat) (m : Int) : Prop :=
  b < w.heap.size ∧ (∀ j, j < k → w.cell? ⟨b, j, none⟩ = some (.int .i64 (m + j))) ∧ (∀ j, j < n → ∃ v, w.cell? ⟨b, j, none⟩ = some v) ∧ ∀ j, w.frozen? ⟨b, j, none⟩ = false

theorem MRow.start {w : World} {b : Nat} {rs : List Int} {m : Int} (h : Blk w b rs) : MRow w b rs.length 0 m := ⟨h.1, fun j hj => by omega, fun j hj => ⟨_, h.2.1 j hj⟩, h.2.2⟩

theorem MRow.store {w : World} {b n k : Nat} {m : Int} (h : MRow w b n k m) (hk : k < n) : MRow (w.setCell ⟨b, k, none⟩ (.int .i64 (m + k))) b n (k + 1) m := by
  obtain ⟨h1, h2, h3, h4⟩ := h
  obtain ⟨v, hv⟩ := h3 k hk
  refine ⟨by simpa using h1, fun j hj => ?_, fun j hj => ?_, fun j => by simpa using h4 j⟩
  · by_cases e : j = k
    · subst e; exact World.cell?_setCell_same _ _ _ hv
    · rw [World.cell?_setCell_other _ _ _ _ (fun h => e (by injection h with _ h2; exact h2.symm))]; exact h2 j (by omega)
  · exact cell?_setCell_some (h3 j hj).choose_spec

theorem MRow.done {w : World} {b n : Nat} {m : Int} (h : MRow w b n n m) : Blk w b (marksFrom m n) :=
  ⟨h.1, fun j hj => by rw [length_marksFrom] at hj; rw [gt_marksFrom m n j hj]; exact h.2.1 j hj, h.2.2.2⟩

end Go.Proofs.Ytainblfjfmjclaj
