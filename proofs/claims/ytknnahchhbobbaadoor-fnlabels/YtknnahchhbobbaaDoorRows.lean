/-
  NARROWER THAN 'FOR EVERY INPUT', by the rows' own cells (each row's printed sentence says how): FnLabels: laid · FnExactLabelText: laid · FnExactParseLabel: laid.
  DERIVED. THE GIVEN ROWS OF THIS SEAT. 3 by the template 'for every input the law returns true; each argument reads behind the call as it read before'; 0 by the template 'total and deterministic' (their statements: YtknnahchhbobbaaDoorTotals.lean).
  GIVEN WITH THE SEED: the statements are not yours to turn. If you find one false, say at which input.
  Laid BY PROGRAM, IN A SANDBOX (cutbox-rows.mjs): the forced cells as the released guide's own fill.sh prints them over the translation f84297533bc4c854… (all of the seat's roots in one cut). By AI agents, Wed Nov 11 2026. No macro, syntax, notation, axiom, sorry.
-/
import Derived.Test.YtknnahchhbobbaaDoorChecked
import GoSem.Claim
import GoSem.ClaimJoined
import GoSem.ClaimMapViews
import Derived.JoinedTies
import Derived.KernelRfl
namespace Go.Proofs.YtknnahchhbobbaaDoor
/- THE CELL 'sum', in the pinned program and in every row, IS THE sha256 OF THE DUMP (.gsa) THAT YtknnahchhbobbaaDoorProg.lean LOADS. Nothing in Lean hashes anything: it is a label: what it is worth is what the hold of that sum in a sandbox is worth. -/
noncomputable def Tryd.pinned : Pinned := { name := "ytknnahchhbobbaadoor", sum := "f84297533bc4c854efd98b3b83b9455c9fe51bd289d9b2a3ec12f5b67972e822", checked := Tryd.checked }
namespace Rows
def none {H : Type} : Left H := { results := [], args := [] }

/- WHAT THE LISTED PACKAGE-LEVEL VARIABLES READ AS WHEN THE CALL BEGINS. Each datum BY PROGRAM (the guide's laid-datum.mjs) off the statement by which the dump's own 'gosem.cut.vars' lays the variable. In a bare row this is a premise. The card (YtknnahchhbobbaaDoorCards.lean) ties it to the program's text. -/
def laid_loop_example_g00530_impl_signs {H : Type} : DataW H := .agg [.lit (.int .u8 42), .lit (.int .u8 48), .lit (.int .u8 49), .lit (.int .u8 50), .lit (.int .u8 51), .lit (.int .u8 74)]

/-- 'laws.FnLabels': WHATEVER THE INPUT: true; the input reads as it did. -/
def fnLabelsSpec : ChangeSpec := { name := "fnLabels", vars := ["loop.example/g00530/impl.signs"], fn := fun _ => fun
  | [d, g1] => { results := [.lit (.bool true)], args := [d], vars := [g1] }
  | _ => none }
def fnLabelsRow : OpenClaim := { program := "ytknnahchhbobbaadoor", sum := "f84297533bc4c854efd98b3b83b9455c9fe51bd289d9b2a3ec12f5b67972e822", func := "loop.example/g00530/laws.FnLabels", spec := "fnLabels", named := ["loop.example/g00530/impl.signs"], apart := false, laid := [("loop.example/g00530/impl.signs", laid_loop_example_g00530_impl_signs)] }
def FnLabelsSaid : Prop := fnLabelsRow.holds Tryd.pinned (OpenSpec.ofChange fnLabelsSpec)

/-- ITS FALSE NEIGHBOUR: 'it returns false'. Refute it at one input. -/
def fnLabelsWrong : ChangeSpec := { name := "fnLabels", vars := ["loop.example/g00530/impl.signs"], fn := fun _ => fun
  | [d, g1] => { results := [.lit (.bool false)], args := [d], vars := [g1] }
  | _ => none }
def FnLabelsWrongFalsely : Prop := fnLabelsRow.holds Tryd.pinned (OpenSpec.ofChange fnLabelsWrong)

/-- 'laws.FnExactLabelText': WHATEVER THE INPUT: true; the input reads as it did. -/
def fnExactLabelTextSpec : ChangeSpec := { name := "fnExactLabelText", vars := ["loop.example/g00530/impl.signs"], fn := fun _ => fun
  | [d, g1] => { results := [.lit (.bool true)], args := [d], vars := [g1] }
  | _ => none }
def fnExactLabelTextRow : OpenClaim := { program := "ytknnahchhbobbaadoor", sum := "f84297533bc4c854efd98b3b83b9455c9fe51bd289d9b2a3ec12f5b67972e822", func := "loop.example/g00530/laws.FnExactLabelText", spec := "fnExactLabelText", named := ["loop.example/g00530/impl.signs"], apart := false, laid := [("loop.example/g00530/impl.signs", laid_loop_example_g00530_impl_signs)] }
def FnExactLabelTextSaid : Prop := fnExactLabelTextRow.holds Tryd.pinned (OpenSpec.ofChange fnExactLabelTextSpec)

/-- ITS FALSE NEIGHBOUR: 'it returns false'. Refute it at one input. -/
def fnExactLabelTextWrong : ChangeSpec := { name := "fnExactLabelText", vars := ["loop.example/g00530/impl.signs"], fn := fun _ => fun
  | [d, g1] => { results := [.lit (.bool false)], args := [d], vars := [g1] }
  | _ => none }
def FnExactLabelTextWrongFalsely : Prop := fnExactLabelTextRow.holds Tryd.pinned (OpenSpec.ofChange fnExactLabelTextWrong)

/-- 'laws.FnExactParseLabel': WHATEVER THE INPUT: true; the input reads as it did. -/
def fnExactParseLabelSpec : ChangeSpec := { name := "fnExactParseLabel", vars := ["loop.example/g00530/impl.signs"], fn := fun _ => fun
  | [d, g1] => { results := [.lit (.bool true)], args := [d], vars := [g1] }
  | _ => none }
def fnExactParseLabelRow : OpenClaim := { program := "ytknnahchhbobbaadoor", sum := "f84297533bc4c854efd98b3b83b9455c9fe51bd289d9b2a3ec12f5b67972e822", func := "loop.example/g00530/laws.FnExactParseLabel", spec := "fnExactParseLabel", named := ["loop.example/g00530/impl.signs"], apart := false, laid := [("loop.example/g00530/impl.signs", laid_loop_example_g00530_impl_signs)] }
def FnExactParseLabelSaid : Prop := fnExactParseLabelRow.holds Tryd.pinned (OpenSpec.ofChange fnExactParseLabelSpec)

/-- ITS FALSE NEIGHBOUR: 'it returns false'. Refute it at one input. -/
def fnExactParseLabelWrong : ChangeSpec := { name := "fnExactParseLabel", vars := ["loop.example/g00530/impl.signs"], fn := fun _ => fun
  | [d, g1] => { results := [.lit (.bool false)], args := [d], vars := [g1] }
  | _ => none }
def FnExactParseLabelWrongFalsely : Prop := fnExactParseLabelRow.holds Tryd.pinned (OpenSpec.ofChange fnExactParseLabelWrong)

/- THE SECOND FORM. 'bulk': how many values and letters a reading holds, each counted each time it is reached (what is shared counts as often as it is met; a slice's spare places count too). A statement '..UptoSaid' is the law's where the arguments, and the package variables that the reading takes, are together of bulk at most 1048576: NARROWER than '..Said'. Prove '..Said' where nothing that the law and all that it calls make is longer than what came in: it says more and counts as full. Else prove '..UptoSaid'. A law counts once. -/
mutual
def uptoBulk {H : Type} : DataW H → Nat
  | .lit (.string bytes) => bytes.length + 1
  | .lit _ => 1
  | .nil => 1
  | .ptr d => uptoBulk d + 1
  | .slice elems spare => uptoBulkAll elems + uptoBulkAll spare + 1
  | .agg parts => uptoBulkAll parts + 1
  | .iface _ d => uptoBulk d + 1
  | .map entries => uptoBulkEntries entries + 1
  | .held _ => 1
def uptoBulkAll {H : Type} : List (DataW H) → Nat
  | [] => 0
  | d :: r => uptoBulk d + uptoBulkAll r
def uptoBulkEntries {H : Type} : List (Lit × DataW H) → Nat
  | [] => 0
  | x :: r => uptoBulkEntry x + uptoBulkEntries r
def uptoBulkEntry {H : Type} : Lit × DataW H → Nat
  | (.string bytes, d) => bytes.length + uptoBulk d + 1
  | (_, d) => uptoBulk d + 1
 end
def uptoSmall : (H : Type) → List (DataW H) → Bool := fun _ ds => decide (uptoBulkAll ds ≤ 1048576)
def OpenSpec.upto (s : _root_.Go.ChangeSpec) : _root_.Go.OpenSpec := { _root_.Go.OpenSpec.ofChange s with cond := some uptoSmall }

/-- 'laws.FnLabels', WHERE WHAT IT READS IS OF BULK AT MOST 1048576: true; the input reads as it did. -/
def fnLabelsUptoRow : OpenClaim := { program := "ytknnahchhbobbaadoor", sum := "f84297533bc4c854efd98b3b83b9455c9fe51bd289d9b2a3ec12f5b67972e822", func := "loop.example/g00530/laws.FnLabels", spec := "fnLabels", named := ["loop.example/g00530/impl.signs"], apart := false, laid := [("loop.example/g00530/impl.signs", laid_loop_example_g00530_impl_signs)], narrowed := true }
def FnLabelsUptoSaid : Prop := fnLabelsUptoRow.holds Tryd.pinned (OpenSpec.upto fnLabelsSpec)

/-- 'laws.FnExactLabelText', WHERE WHAT IT READS IS OF BULK AT MOST 1048576: true; the input reads as it did. -/
def fnExactLabelTextUptoRow : OpenClaim := { program := "ytknnahchhbobbaadoor", sum := "f84297533bc4c854efd98b3b83b9455c9fe51bd289d9b2a3ec12f5b67972e822", func := "loop.example/g00530/laws.FnExactLabelText", spec := "fnExactLabelText", named := ["loop.example/g00530/impl.signs"], apart := false, laid := [("loop.example/g00530/impl.signs", laid_loop_example_g00530_impl_signs)], narrowed := true }
def FnExactLabelTextUptoSaid : Prop := fnExactLabelTextUptoRow.holds Tryd.pinned (OpenSpec.upto fnExactLabelTextSpec)

/-- 'laws.FnExactParseLabel', WHERE WHAT IT READS IS OF BULK AT MOST 1048576: true; the input reads as it did. -/
def fnExactParseLabelUptoRow : OpenClaim := { program := "ytknnahchhbobbaadoor", sum := "f84297533bc4c854efd98b3b83b9455c9fe51bd289d9b2a3ec12f5b67972e822", func := "loop.example/g00530/laws.FnExactParseLabel", spec := "fnExactParseLabel", named := ["loop.example/g00530/impl.signs"], apart := false, laid := [("loop.example/g00530/impl.signs", laid_loop_example_g00530_impl_signs)], narrowed := true }
def FnExactParseLabelUptoSaid : Prop := fnExactParseLabelUptoRow.holds Tryd.pinned (OpenSpec.upto fnExactParseLabelSpec)

end Rows
end Go.Proofs.YtknnahchhbobbaaDoor
