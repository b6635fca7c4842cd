import Derived.Test.YtainblfjfmjclajRows
import Derived.Test.YtainblfjfmjclajPlain3
import Derived.Maps.RangeWalk
import Derived.Maps.Ext
import Derived.Maps.OwnOps
import Derived.DeepKeys4
import Derived.WalkKit
import Derived.ProofKit
import Derived.OpenShut
import Derived.ShutString
import Derived.ChangeOld
import Derived.Below
import Derived.WalkSpells
import Derived.Deep.QuietTactic
import Derived.BigQuiet
import Derived.Deep.RegionWith
import Derived.Deep.WholeRow
import Derived.Deep.DeepCutAuto
import Derived.Deep.RegionHeld2
import Derived.Deep.AppendLies
import Derived.Deep.RegionLaw
namespace Go.Proofs.Ytainblfjfmjclaj
open Go.ChangeShapes Go.WideShapes Go.ChangeAt Go.RowKit

/-- what a label reads as, as a map's key. -/
def kl (zs : List Int) : Lit := .string (keyBytes [.int .i64 (gt zs 0), .int .i64 (gt zs 1), .int .i64 (gt zs 2), .int .i64 (gt zs 3)])

set_option maxRecDepth 100000 in
theorem typesSize : ∃ m, Try.prog.types.size = m + 3 := ⟨Try.prog.types.size - 3, by kernel_rfl⟩
set_option maxRecDepth 100000 in
theorem laidOutK : laidOutB Try.prog = true := by kernel_rfl
set_option maxRecDepth 100000 in
theorem rowK : (116 : TypeId) < Try.prog.types.size := of_decide_eq_true (by kernel_rfl)
set_option maxRecDepth 100000 in
theorem wideK : (match Try.prog.underlying 116 with | some (.array _ _) | some (.struct _) => true | _ => false) = true := by rw [Try.underlying116]
set_option maxRecDepth 100000 in
theorem lawK : Go.Maps.Keyed Try.prog 116 := Go.Maps.Keyed.of_law (deep_law_laid laidOutK (m := 3) (by omega) rowK (by kernel_rfl) wideK)
set_option maxRecDepth 100000 in
theorem keyTypeK : Try.prog.keyType 116 = true := by kernel_rfl
set_option maxRecDepth 100000 in
theorem cellsK : Try.prog.cellsOf 116 = 4 := by kernel_rfl
set_option maxRecDepth 100000 in
theorem cellsL : Try.prog.cellsOf 114 = 4 := by kernel_rfl
set_option maxRecDepth 100000 in
theorem cellsI : Try.prog.cellsOf 2 = 1 := by kernel_rfl

theorem wf5 {x : Int} (h : 0 ≤ x ∧ x ≤ 5) : (Lit.int .i64 x).wf = true := by
  simp [Lit.wf, IntKind.min, IntKind.max, IntKind.signed, IntKind.bits]
  omega

set_option maxRecDepth 100000 in
theorem key_mk {zs : List Int} (h : fault zs = 0) : keyOf Try.prog 116 (.agg (ints4 zs)) = some (kl zs) := by
  have h4 := fault_len h
  have w0 := wf5 (fault_all h 0 (by omega))
  have w1 := wf5 (fault_all h 1 (by omega))
  have w2 := wf5 (fault_all h 2 (by omega))
  have w3 := wf5 (fault_all h 3 (by omega))
  obtain ⟨m, hm⟩ := typesSize
  have hf : (Value.agg (ints4 zs)).formed Try.prog 116 = true := by simp [Value.formed, Try.underlying116, cellsK, ints4]
  unfold keyOf
  rw [Try.underlying116]
  simp only [keyTypeK, hf, Bool.and_self, if_true, hm]
  simp [Program.keyLits, Try.underlying116, Try.underlying114, Try.underlying2, cellsK, cellsL, cellsI, ints4, Value.cells, w0, w1, w2, w3, List.range_succ, kl]

end Go.Proofs.Ytainblfjfmjclaj
