import Derived.Test.YtdcfdmcooonfkabPaP
import Derived.Test.YtdcfdmcooonfkabQs
import Derived.Test.YtdcfdmcooonfkabSep
import Derived.WalkKit
import Derived.ProofKit
import Derived.OpenShut
import Derived.ShutString
import Derived.ChangeOld
import Derived.Below
import Derived.WalkSpells
import Derived.Deep.QuietTactic
import Derived.BigQuiet
import Derived.Deep.RegionWith
import Derived.Deep.WholeRow
import Derived.Deep.DeepCutAuto
import Derived.Deep.RegionHeld2
import Derived.Deep.AppendLies
import Derived.Deep.RegionLaw
namespace Go.Proofs.Ytdcfdmcooonfkab
open Go.ChangeShapes Go.WideShapes Go.ChangeAt Go.RowKit

theorem ARow.mk4 {w : World} {g : Nat} {f : Nat → Int} (h0 : w.cell? ⟨g, 0, none⟩ = some (.int .i64 (f 0))) (h1 : w.cell? ⟨g, 1, none⟩ = some (.int .i64 (f 1))) (h2 : w.cell? ⟨g, 2, none⟩ = some (.int .i64 (f 2))) (h3 : w.cell? ⟨g, 3, none⟩ = some (.int .i64 (f 3))) (hf : ∀ j, w.frozen? ⟨g, j, none⟩ = false) : ARow w g f :=
  ⟨fun j hj => by rcases (by omega : j = 0 ∨ j = 1 ∨ j = 2 ∨ j = 3) with rfl | rfl | rfl | rfl <;> assumption, hf⟩

theorem mix4 (f : Int → Int → Int) {xs ys : List Int} (h : xs.length = 4) : mix f xs ys = [f (gt xs 0) (gt ys 0), f (gt xs 1) (gt ys 1), f (gt xs 2) (gt ys 2), f (gt xs 3) (gt ys 3)] := by
  rw [list4 (zs := mix f xs ys) (by rw [length_mix]; exact h), gt_mix f xs ys 0 (by omega), gt_mix f xs ys 1 (by omega), gt_mix f xs ys 2 (by omega), gt_mix f xs ys 3 (by omega)]



end Go.Proofs.Ytdcfdmcooonfkab
