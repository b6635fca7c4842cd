/-
  No cell of these rows narrows 'for every input' (looked for: loops, veiled, ifaces, maps, wideKeys, modest, calm, conditions, laid).
  DERIVED. THE GIVEN ROWS OF THIS SEAT. 4 by the template 'for every input the law returns true; each argument reads behind the call as it read before'; 0 by the template 'total and deterministic' (their statements: YtainblfjfmjclahTotals.lean).
  GIVEN WITH THE SEED: the statements are not yours to turn. If you find one false, say at which input.
  Laid BY PROGRAM, IN A SANDBOX (cutbox-rows.mjs): the forced cells as the released guide's own fill.sh prints them over the translation 67bc42d0d0d8de67… (all of the seat's roots in one cut). By AI agents, Wed Nov 11 2026. No macro, syntax, notation, axiom, sorry.
-/
import Derived.Test.YtainblfjfmjclahChecked
import GoSem.Claim
import GoSem.ClaimJoined
import GoSem.ClaimMapViews
import Derived.JoinedTies
import Derived.KernelRfl
namespace Go.Proofs.Ytainblfjfmjclah
/- THE CELL 'sum', in the pinned program and in every row, IS THE sha256 OF THE DUMP (.gsa) THAT YtainblfjfmjclahProg.lean LOADS. Nothing in Lean hashes anything: it is a label: what it is worth is what the hold of that sum in a sandbox is worth. -/
noncomputable def Try.pinned : Pinned := { name := "ytainblfjfmjclah", sum := "67bc42d0d0d8de672077c12abf66371c7510805a5558678e069b80f0bf2da278", checked := Try.checked }
namespace Rows
def none {H : Type} : Left H := { results := [], args := [] }

/-- 'laws.FnExactCanModify': WHATEVER THE INPUT: true; the input reads as it did. -/
def fnExactCanModifySpec : ChangeSpec := { name := "fnExactCanModify", fn := fun _ => fun
  | [d1, d2] => { results := [.lit (.bool true)], args := [d1, d2] }
  | _ => none }
def fnExactCanModifyRow : OpenClaim := { program := "ytainblfjfmjclah", sum := "67bc42d0d0d8de672077c12abf66371c7510805a5558678e069b80f0bf2da278", func := "loop.example/g00530/laws.FnExactCanModify", spec := "fnExactCanModify", plainKeys := false, apart := false }
def FnExactCanModifySaid : Prop := fnExactCanModifyRow.holds Try.pinned (OpenSpec.ofChange fnExactCanModifySpec)

/-- ITS FALSE NEIGHBOUR: 'it returns false'. Refute it at one input. -/
def fnExactCanModifyWrong : ChangeSpec := { name := "fnExactCanModify", fn := fun _ => fun
  | [d1, d2] => { results := [.lit (.bool false)], args := [d1, d2] }
  | _ => none }
def FnExactCanModifyWrongFalsely : Prop := fnExactCanModifyRow.holds Try.pinned (OpenSpec.ofChange fnExactCanModifyWrong)

/-- 'laws.FnExactRegistryFault': WHATEVER THE INPUT: true; the input reads as it did. -/
def fnExactRegistryFaultSpec : ChangeSpec := { name := "fnExactRegistryFault", fn := fun _ => fun
  | [d] => { results := [.lit (.bool true)], args := [d] }
  | _ => none }
def fnExactRegistryFaultRow : OpenClaim := { program := "ytainblfjfmjclah", sum := "67bc42d0d0d8de672077c12abf66371c7510805a5558678e069b80f0bf2da278", func := "loop.example/g00530/laws.FnExactRegistryFault", spec := "fnExactRegistryFault", plainKeys := false, apart := false }
def FnExactRegistryFaultSaid : Prop := fnExactRegistryFaultRow.holds Try.pinned (OpenSpec.ofChange fnExactRegistryFaultSpec)

/-- ITS FALSE NEIGHBOUR: 'it returns false'. Refute it at one input. -/
def fnExactRegistryFaultWrong : ChangeSpec := { name := "fnExactRegistryFault", fn := fun _ => fun
  | [d] => { results := [.lit (.bool false)], args := [d] }
  | _ => none }
def FnExactRegistryFaultWrongFalsely : Prop := fnExactRegistryFaultRow.holds Try.pinned (OpenSpec.ofChange fnExactRegistryFaultWrong)

/-- 'laws.FnExactEnterLabel': WHATEVER THE INPUT: true; the input reads as it did. -/
def fnExactEnterLabelSpec : ChangeSpec := { name := "fnExactEnterLabel", fn := fun _ => fun
  | [d1, d2] => { results := [.lit (.bool true)], args := [d1, d2] }
  | _ => none }
def fnExactEnterLabelRow : OpenClaim := { program := "ytainblfjfmjclah", sum := "67bc42d0d0d8de672077c12abf66371c7510805a5558678e069b80f0bf2da278", func := "loop.example/g00530/laws.FnExactEnterLabel", spec := "fnExactEnterLabel", plainKeys := false, apart := false }
def FnExactEnterLabelSaid : Prop := fnExactEnterLabelRow.holds Try.pinned (OpenSpec.ofChange fnExactEnterLabelSpec)

/-- ITS FALSE NEIGHBOUR: 'it returns false'. Refute it at one input. -/
def fnExactEnterLabelWrong : ChangeSpec := { name := "fnExactEnterLabel", fn := fun _ => fun
  | [d1, d2] => { results := [.lit (.bool false)], args := [d1, d2] }
  | _ => none }
def FnExactEnterLabelWrongFalsely : Prop := fnExactEnterLabelRow.holds Try.pinned (OpenSpec.ofChange fnExactEnterLabelWrong)

/-- 'laws.FnExactLeaveLabel': WHATEVER THE INPUT: true; the input reads as it did. -/
def fnExactLeaveLabelSpec : ChangeSpec := { name := "fnExactLeaveLabel", fn := fun _ => fun
  | [d1, d2] => { results := [.lit (.bool true)], args := [d1, d2] }
  | _ => none }
def fnExactLeaveLabelRow : OpenClaim := { program := "ytainblfjfmjclah", sum := "67bc42d0d0d8de672077c12abf66371c7510805a5558678e069b80f0bf2da278", func := "loop.example/g00530/laws.FnExactLeaveLabel", spec := "fnExactLeaveLabel", plainKeys := false, apart := false }
def FnExactLeaveLabelSaid : Prop := fnExactLeaveLabelRow.holds Try.pinned (OpenSpec.ofChange fnExactLeaveLabelSpec)

/-- ITS FALSE NEIGHBOUR: 'it returns false'. Refute it at one input. -/
def fnExactLeaveLabelWrong : ChangeSpec := { name := "fnExactLeaveLabel", fn := fun _ => fun
  | [d1, d2] => { results := [.lit (.bool false)], args := [d1, d2] }
  | _ => none }
def FnExactLeaveLabelWrongFalsely : Prop := fnExactLeaveLabelRow.holds Try.pinned (OpenSpec.ofChange fnExactLeaveLabelWrong)

/- THE SECOND FORM. 'bulk': how many values and letters a reading holds, each counted each time it is reached (what is shared counts as often as it is met; a slice's spare places count too). A statement '..UptoSaid' is the law's where the arguments, and the package variables that the reading takes, are together of bulk at most 1048576: NARROWER than '..Said'. Prove '..Said' where nothing that the law and all that it calls make is longer than what came in: it says more and counts as full. Else prove '..UptoSaid'. A law counts once. -/
mutual
def uptoBulk {H : Type} : DataW H → Nat
  | .lit (.string bytes) => bytes.length + 1
  | .lit _ => 1
  | .nil => 1
  | .ptr d => uptoBulk d + 1
  | .slice elems spare => uptoBulkAll elems + uptoBulkAll spare + 1
  | .agg parts => uptoBulkAll parts + 1
  | .iface _ d => uptoBulk d + 1
  | .map entries => uptoBulkEntries entries + 1
  | .held _ => 1
def uptoBulkAll {H : Type} : List (DataW H) → Nat
  | [] => 0
  | d :: r => uptoBulk d + uptoBulkAll r
def uptoBulkEntries {H : Type} : List (Lit × DataW H) → Nat
  | [] => 0
  | x :: r => uptoBulkEntry x + uptoBulkEntries r
def uptoBulkEntry {H : Type} : Lit × DataW H → Nat
  | (.string bytes, d) => bytes.length + uptoBulk d + 1
  | (_, d) => uptoBulk d + 1
 end
def uptoSmall : (H : Type) → List (DataW H) → Bool := fun _ ds => decide (uptoBulkAll ds ≤ 1048576)
def OpenSpec.upto (s : _root_.Go.ChangeSpec) : _root_.Go.OpenSpec := { _root_.Go.OpenSpec.ofChange s with cond := some uptoSmall }

/-- 'laws.FnExactCanModify', WHERE WHAT IT READS IS OF BULK AT MOST 1048576: true; the input reads as it did. -/
def fnExactCanModifyUptoRow : OpenClaim := { program := "ytainblfjfmjclah", sum := "67bc42d0d0d8de672077c12abf66371c7510805a5558678e069b80f0bf2da278", func := "loop.example/g00530/laws.FnExactCanModify", spec := "fnExactCanModify", plainKeys := false, apart := false, narrowed := true }
def FnExactCanModifyUptoSaid : Prop := fnExactCanModifyUptoRow.holds Try.pinned (OpenSpec.upto fnExactCanModifySpec)

/-- 'laws.FnExactRegistryFault', WHERE WHAT IT READS IS OF BULK AT MOST 1048576: true; the input reads as it did. -/
def fnExactRegistryFaultUptoRow : OpenClaim := { program := "ytainblfjfmjclah", sum := "67bc42d0d0d8de672077c12abf66371c7510805a5558678e069b80f0bf2da278", func := "loop.example/g00530/laws.FnExactRegistryFault", spec := "fnExactRegistryFault", plainKeys := false, apart := false, narrowed := true }
def FnExactRegistryFaultUptoSaid : Prop := fnExactRegistryFaultUptoRow.holds Try.pinned (OpenSpec.upto fnExactRegistryFaultSpec)

/-- 'laws.FnExactEnterLabel', WHERE WHAT IT READS IS OF BULK AT MOST 1048576: true; the input reads as it did. -/
def fnExactEnterLabelUptoRow : OpenClaim := { program := "ytainblfjfmjclah", sum := "67bc42d0d0d8de672077c12abf66371c7510805a5558678e069b80f0bf2da278", func := "loop.example/g00530/laws.FnExactEnterLabel", spec := "fnExactEnterLabel", plainKeys := false, apart := false, narrowed := true }
def FnExactEnterLabelUptoSaid : Prop := fnExactEnterLabelUptoRow.holds Try.pinned (OpenSpec.upto fnExactEnterLabelSpec)

/-- 'laws.FnExactLeaveLabel', WHERE WHAT IT READS IS OF BULK AT MOST 1048576: true; the input reads as it did. -/
def fnExactLeaveLabelUptoRow : OpenClaim := { program := "ytainblfjfmjclah", sum := "67bc42d0d0d8de672077c12abf66371c7510805a5558678e069b80f0bf2da278", func := "loop.example/g00530/laws.FnExactLeaveLabel", spec := "fnExactLeaveLabel", plainKeys := false, apart := false, narrowed := true }
def FnExactLeaveLabelUptoSaid : Prop := fnExactLeaveLabelUptoRow.holds Try.pinned (OpenSpec.upto fnExactLeaveLabelSpec)

end Rows
end Go.Proofs.Ytainblfjfmjclah
