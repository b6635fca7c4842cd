/-
  No cell of these rows narrows 'for every input' (looked for: loops, veiled, ifaces, maps, wideKeys, modest, calm, conditions, laid).
  DERIVED. THE GIVEN ROWS OF THIS SEAT. 4 by the template 'for every input the law returns true; each argument reads behind the call as it read before'; 0 by the template 'total and deterministic' (their statements: YtbfmdnnbiidlkaaGreatTotals.lean).
  GIVEN WITH THE SEED: the statements are not yours to turn. If you find one false, say at which input.
  Laid BY PROGRAM, IN A SANDBOX (cutbox-rows.mjs): the forced cells as the released guide's own fill.sh prints them over the translation fa4509e1ed4b41c4… (all of the seat's roots in one cut). By AI agents, Wed Nov 11 2026. No macro, syntax, notation, axiom, sorry.
-/
import Derived.Test.YtbfmdnnbiidlkaaGreatChecked
import GoSem.Claim
import GoSem.ClaimJoined
import GoSem.ClaimMapViews
import Derived.JoinedTies
import Derived.KernelRfl
namespace Go.Proofs.YtbfmdnnbiidlkaaGreat
/- THE CELL 'sum', in the pinned program and in every row, IS THE sha256 OF THE DUMP (.gsa) THAT YtbfmdnnbiidlkaaGreatProg.lean LOADS. Nothing in Lean hashes anything: it is a label: what it is worth is what the hold of that sum in a sandbox is worth. -/
noncomputable def Tryz.pinned : Pinned := { name := "ytbfmdnnbiidlkaagreat", sum := "fa4509e1ed4b41c43ffd9a2a84777a6057655f04796586bbee3563801e1f38e7", checked := Tryz.checked }
namespace Rows
def none {H : Type} : Left H := { results := [], args := [] }

/-- 'laws.FnExactNewSystem': WHATEVER THE INPUT: true; the input reads as it did. -/
def fnExactNewSystemSpec : ChangeSpec := { name := "fnExactNewSystem", fn := fun _ => fun
  | [d1, d2, d3, d4, d5] => { results := [.lit (.bool true)], args := [d1, d2, d3, d4, d5] }
  | _ => none }
def fnExactNewSystemRow : OpenClaim := { program := "ytbfmdnnbiidlkaagreat", sum := "fa4509e1ed4b41c43ffd9a2a84777a6057655f04796586bbee3563801e1f38e7", func := "loop.example/g00530/laws.FnExactNewSystem", spec := "fnExactNewSystem", plainKeys := false, apart := false }
def FnExactNewSystemSaid : Prop := fnExactNewSystemRow.holds Tryz.pinned (OpenSpec.ofChange fnExactNewSystemSpec)

/-- ITS FALSE NEIGHBOUR: 'it returns false'. Refute it at one input. -/
def fnExactNewSystemWrong : ChangeSpec := { name := "fnExactNewSystem", fn := fun _ => fun
  | [d1, d2, d3, d4, d5] => { results := [.lit (.bool false)], args := [d1, d2, d3, d4, d5] }
  | _ => none }
def FnExactNewSystemWrongFalsely : Prop := fnExactNewSystemRow.holds Tryz.pinned (OpenSpec.ofChange fnExactNewSystemWrong)

/-- 'laws.FnExactAccessesOf': WHATEVER THE INPUT: true; the input reads as it did. -/
def fnExactAccessesOfSpec : ChangeSpec := { name := "fnExactAccessesOf", fn := fun _ => fun
  | [d] => { results := [.lit (.bool true)], args := [d] }
  | _ => none }
def fnExactAccessesOfRow : OpenClaim := { program := "ytbfmdnnbiidlkaagreat", sum := "fa4509e1ed4b41c43ffd9a2a84777a6057655f04796586bbee3563801e1f38e7", func := "loop.example/g00530/laws.FnExactAccessesOf", spec := "fnExactAccessesOf", plainKeys := false, apart := false }
def FnExactAccessesOfSaid : Prop := fnExactAccessesOfRow.holds Tryz.pinned (OpenSpec.ofChange fnExactAccessesOfSpec)

/-- ITS FALSE NEIGHBOUR: 'it returns false'. Refute it at one input. -/
def fnExactAccessesOfWrong : ChangeSpec := { name := "fnExactAccessesOf", fn := fun _ => fun
  | [d] => { results := [.lit (.bool false)], args := [d] }
  | _ => none }
def FnExactAccessesOfWrongFalsely : Prop := fnExactAccessesOfRow.holds Tryz.pinned (OpenSpec.ofChange fnExactAccessesOfWrong)

/-- 'laws.FnExactSwitchDomain': WHATEVER THE INPUT: true; the input reads as it did. -/
def fnExactSwitchDomainSpec : ChangeSpec := { name := "fnExactSwitchDomain", fn := fun _ => fun
  | [d1, d2] => { results := [.lit (.bool true)], args := [d1, d2] }
  | _ => none }
def fnExactSwitchDomainRow : OpenClaim := { program := "ytbfmdnnbiidlkaagreat", sum := "fa4509e1ed4b41c43ffd9a2a84777a6057655f04796586bbee3563801e1f38e7", func := "loop.example/g00530/laws.FnExactSwitchDomain", spec := "fnExactSwitchDomain", plainKeys := false, apart := false }
def FnExactSwitchDomainSaid : Prop := fnExactSwitchDomainRow.holds Tryz.pinned (OpenSpec.ofChange fnExactSwitchDomainSpec)

/-- ITS FALSE NEIGHBOUR: 'it returns false'. Refute it at one input. -/
def fnExactSwitchDomainWrong : ChangeSpec := { name := "fnExactSwitchDomain", fn := fun _ => fun
  | [d1, d2] => { results := [.lit (.bool false)], args := [d1, d2] }
  | _ => none }
def FnExactSwitchDomainWrongFalsely : Prop := fnExactSwitchDomainRow.holds Tryz.pinned (OpenSpec.ofChange fnExactSwitchDomainWrong)

/-- 'laws.FnExactIsRight': WHATEVER THE INPUT: true; the input reads as it did. -/
def fnExactIsRightSpec : ChangeSpec := { name := "fnExactIsRight", fn := fun _ => fun
  | [d1, d2] => { results := [.lit (.bool true)], args := [d1, d2] }
  | _ => none }
def fnExactIsRightRow : OpenClaim := { program := "ytbfmdnnbiidlkaagreat", sum := "fa4509e1ed4b41c43ffd9a2a84777a6057655f04796586bbee3563801e1f38e7", func := "loop.example/g00530/laws.FnExactIsRight", spec := "fnExactIsRight", plainKeys := false, apart := false }
def FnExactIsRightSaid : Prop := fnExactIsRightRow.holds Tryz.pinned (OpenSpec.ofChange fnExactIsRightSpec)

/-- ITS FALSE NEIGHBOUR: 'it returns false'. Refute it at one input. -/
def fnExactIsRightWrong : ChangeSpec := { name := "fnExactIsRight", fn := fun _ => fun
  | [d1, d2] => { results := [.lit (.bool false)], args := [d1, d2] }
  | _ => none }
def FnExactIsRightWrongFalsely : Prop := fnExactIsRightRow.holds Tryz.pinned (OpenSpec.ofChange fnExactIsRightWrong)

/- THE SECOND FORM. 'bulk': how many values and letters a reading holds, each counted each time it is reached (what is shared counts as often as it is met; a slice's spare places count too). A statement '..UptoSaid' is the law's where the arguments, and the package variables that the reading takes, are together of bulk at most 1048576: NARROWER than '..Said'. Prove '..Said' where nothing that the law and all that it calls make is longer than what came in: it says more and counts as full. Else prove '..UptoSaid'. A law counts once. -/
mutual
def uptoBulk {H : Type} : DataW H → Nat
  | .lit (.string bytes) => bytes.length + 1
  | .lit _ => 1
  | .nil => 1
  | .ptr d => uptoBulk d + 1
  | .slice elems spare => uptoBulkAll elems + uptoBulkAll spare + 1
  | .agg parts => uptoBulkAll parts + 1
  | .iface _ d => uptoBulk d + 1
  | .map entries => uptoBulkEntries entries + 1
  | .held _ => 1
def uptoBulkAll {H : Type} : List (DataW H) → Nat
  | [] => 0
  | d :: r => uptoBulk d + uptoBulkAll r
def uptoBulkEntries {H : Type} : List (Lit × DataW H) → Nat
  | [] => 0
  | x :: r => uptoBulkEntry x + uptoBulkEntries r
def uptoBulkEntry {H : Type} : Lit × DataW H → Nat
  | (.string bytes, d) => bytes.length + uptoBulk d + 1
  | (_, d) => uptoBulk d + 1
 end
def uptoSmall : (H : Type) → List (DataW H) → Bool := fun _ ds => decide (uptoBulkAll ds ≤ 1048576)
def OpenSpec.upto (s : _root_.Go.ChangeSpec) : _root_.Go.OpenSpec := { _root_.Go.OpenSpec.ofChange s with cond := some uptoSmall }

/-- 'laws.FnExactNewSystem', WHERE WHAT IT READS IS OF BULK AT MOST 1048576: true; the input reads as it did. -/
def fnExactNewSystemUptoRow : OpenClaim := { program := "ytbfmdnnbiidlkaagreat", sum := "fa4509e1ed4b41c43ffd9a2a84777a6057655f04796586bbee3563801e1f38e7", func := "loop.example/g00530/laws.FnExactNewSystem", spec := "fnExactNewSystem", plainKeys := false, apart := false, narrowed := true }
def FnExactNewSystemUptoSaid : Prop := fnExactNewSystemUptoRow.holds Tryz.pinned (OpenSpec.upto fnExactNewSystemSpec)

/-- 'laws.FnExactAccessesOf', WHERE WHAT IT READS IS OF BULK AT MOST 1048576: true; the input reads as it did. -/
def fnExactAccessesOfUptoRow : OpenClaim := { program := "ytbfmdnnbiidlkaagreat", sum := "fa4509e1ed4b41c43ffd9a2a84777a6057655f04796586bbee3563801e1f38e7", func := "loop.example/g00530/laws.FnExactAccessesOf", spec := "fnExactAccessesOf", plainKeys := false, apart := false, narrowed := true }
def FnExactAccessesOfUptoSaid : Prop := fnExactAccessesOfUptoRow.holds Tryz.pinned (OpenSpec.upto fnExactAccessesOfSpec)

/-- 'laws.FnExactSwitchDomain', WHERE WHAT IT READS IS OF BULK AT MOST 1048576: true; the input reads as it did. -/
def fnExactSwitchDomainUptoRow : OpenClaim := { program := "ytbfmdnnbiidlkaagreat", sum := "fa4509e1ed4b41c43ffd9a2a84777a6057655f04796586bbee3563801e1f38e7", func := "loop.example/g00530/laws.FnExactSwitchDomain", spec := "fnExactSwitchDomain", plainKeys := false, apart := false, narrowed := true }
def FnExactSwitchDomainUptoSaid : Prop := fnExactSwitchDomainUptoRow.holds Tryz.pinned (OpenSpec.upto fnExactSwitchDomainSpec)

/-- 'laws.FnExactIsRight', WHERE WHAT IT READS IS OF BULK AT MOST 1048576: true; the input reads as it did. -/
def fnExactIsRightUptoRow : OpenClaim := { program := "ytbfmdnnbiidlkaagreat", sum := "fa4509e1ed4b41c43ffd9a2a84777a6057655f04796586bbee3563801e1f38e7", func := "loop.example/g00530/laws.FnExactIsRight", spec := "fnExactIsRight", plainKeys := false, apart := false, narrowed := true }
def FnExactIsRightUptoSaid : Prop := fnExactIsRightUptoRow.holds Tryz.pinned (OpenSpec.upto fnExactIsRightSpec)

end Rows
end Go.Proofs.YtbfmdnnbiidlkaaGreat
