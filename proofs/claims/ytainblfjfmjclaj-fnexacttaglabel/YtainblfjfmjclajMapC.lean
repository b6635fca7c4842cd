import Derived.Test.YtainblfjfmjclajMapB
import Derived.WalkKit
import Derived.ProofKit
import Derived.OpenShut
import Derived.ShutString
import Derived.ChangeOld
import Derived.Below
import Derived.WalkSpells
import Derived.Deep.QuietTactic
import Derived.BigQuiet
import Derived.Deep.RegionWith
import Derived.Deep.WholeRow
import Derived.Deep.DeepCutAuto
import Derived.Deep.RegionHeld2
import Derived.Deep.AppendLies
import Derived.Deep.RegionLaw
namespace Go.Proofs.Ytainblfjfmjclaj
open Go.ChangeShapes Go.WideShapes Go.ChangeAt Go.RowKit

theorem zeroSt (w : World) : (zeroValue 142).run Try.prog w = .ok (.agg #[.int .i64 0, .int .i64 0]) w := by kernel_rfl

/-- a look-up finds the same in every world in which the block is that map. -/
theorem look_run {w : World} {M n : Nat} {D : DataW Unit} {zs : List Int} (h : w.ownsMap Try.prog 116 Rst M n D) (hf : fault zs = 0) :
    ∃ p c, D.atKey (kl zs) (st 0 0) = st p c ∧ ∀ w' : World, w'.ownsMap Try.prog 116 Rst M n D →
      (Instr.lookup 75 (.map (some M)) (.agg (ints4 zs)) true).run Try.prog w' = .ok (.tuple #[.agg #[.int .i64 p, .int .i64 c], .bool (Go.Maps.has D (kl zs))]) w' := by
  obtain ⟨v, ps, _, hv⟩ := h.look_ok lawK Try.underlying75 (zeroSt w) (Rst_mk 0 0) (key_mk hf)
  obtain ⟨p, c, rfl, hy⟩ := Rst_inv hv
  have hat : D.atKey (kl zs) (st 0 0) = st p c := by injection hy
  refine ⟨p, c, hat, fun w' h' => ?_⟩
  obtain ⟨v', ps', hrun, hv'⟩ := h'.look_ok lawK Try.underlying75 (zeroSt w') (Rst_mk 0 0) (key_mk hf)
  obtain ⟨p', c', rfl, hy'⟩ := Rst_inv hv'
  have hat' : D.atKey (kl zs) (st 0 0) = st p' c' := by injection hy'
  obtain ⟨rfl, rfl⟩ := st_inj (hat.symm.trans hat')
  exact hrun

end Go.Proofs.Ytainblfjfmjclaj
