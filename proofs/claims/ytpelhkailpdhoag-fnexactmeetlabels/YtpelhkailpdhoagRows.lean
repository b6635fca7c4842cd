/-
  No cell of these rows narrows 'for every input' (looked for: loops, veiled, ifaces, maps, wideKeys, modest, calm, conditions, laid).
  DERIVED. THE GIVEN ROWS OF THIS SEAT. 6 by the template 'for every input the law returns true; each argument reads behind the call as it read before'; 0 by the template 'total and deterministic' (their statements: YtpelhkailpdhoagTotals.lean).
  GIVEN WITH THE SEED: the statements are not yours to turn. If you find one false, say at which input.
  Laid BY PROGRAM, IN A SANDBOX (cutbox-rows.mjs): the forced cells as the released guide's own fill.sh prints them over the translation e114fa364ac6f284… (all of the seat's roots in one cut). By AI agents, Wed Nov 11 2026. No macro, syntax, notation, axiom, sorry.
-/
import Derived.Test.YtpelhkailpdhoagChecked
import GoSem.Claim
import GoSem.ClaimJoined
import GoSem.ClaimMapViews
import Derived.JoinedTies
import Derived.KernelRfl
namespace Go.Proofs.Ytpelhkailpdhoag
/- THE CELL 'sum', in the pinned program and in every row, IS THE sha256 OF THE DUMP (.gsa) THAT YtpelhkailpdhoagProg.lean LOADS. Nothing in Lean hashes anything: it is a label: what it is worth is what the hold of that sum in a sandbox is worth. -/
noncomputable def Try.pinned : Pinned := { name := "ytpelhkailpdhoag", sum := "e114fa364ac6f284a59c4387c5970620f7956e7fb92c1d1eb192bace77a8f78a", checked := Try.checked }
namespace Rows
def none {H : Type} : Left H := { results := [], args := [] }

/-- 'laws.FnExactIsBelow': WHATEVER THE INPUT: true; the input reads as it did. -/
def fnExactIsBelowSpec : ChangeSpec := { name := "fnExactIsBelow", fn := fun _ => fun
  | [d1, d2] => { results := [.lit (.bool true)], args := [d1, d2] }
  | _ => none }
def fnExactIsBelowRow : OpenClaim := { program := "ytpelhkailpdhoag", sum := "e114fa364ac6f284a59c4387c5970620f7956e7fb92c1d1eb192bace77a8f78a", func := "loop.example/g00530/laws.FnExactIsBelow", spec := "fnExactIsBelow", apart := false }
def FnExactIsBelowSaid : Prop := fnExactIsBelowRow.holds Try.pinned (OpenSpec.ofChange fnExactIsBelowSpec)

/-- ITS FALSE NEIGHBOUR: 'it returns false'. Refute it at one input. -/
def fnExactIsBelowWrong : ChangeSpec := { name := "fnExactIsBelow", fn := fun _ => fun
  | [d1, d2] => { results := [.lit (.bool false)], args := [d1, d2] }
  | _ => none }
def FnExactIsBelowWrongFalsely : Prop := fnExactIsBelowRow.holds Try.pinned (OpenSpec.ofChange fnExactIsBelowWrong)

/-- 'laws.FnExactJoinLabels': WHATEVER THE INPUT: true; the input reads as it did. -/
def fnExactJoinLabelsSpec : ChangeSpec := { name := "fnExactJoinLabels", fn := fun _ => fun
  | [d1, d2] => { results := [.lit (.bool true)], args := [d1, d2] }
  | _ => none }
def fnExactJoinLabelsRow : OpenClaim := { program := "ytpelhkailpdhoag", sum := "e114fa364ac6f284a59c4387c5970620f7956e7fb92c1d1eb192bace77a8f78a", func := "loop.example/g00530/laws.FnExactJoinLabels", spec := "fnExactJoinLabels", apart := false }
def FnExactJoinLabelsSaid : Prop := fnExactJoinLabelsRow.holds Try.pinned (OpenSpec.ofChange fnExactJoinLabelsSpec)

/-- ITS FALSE NEIGHBOUR: 'it returns false'. Refute it at one input. -/
def fnExactJoinLabelsWrong : ChangeSpec := { name := "fnExactJoinLabels", fn := fun _ => fun
  | [d1, d2] => { results := [.lit (.bool false)], args := [d1, d2] }
  | _ => none }
def FnExactJoinLabelsWrongFalsely : Prop := fnExactJoinLabelsRow.holds Try.pinned (OpenSpec.ofChange fnExactJoinLabelsWrong)

/-- 'laws.FnExactMeetLabels': WHATEVER THE INPUT: true; the input reads as it did. -/
def fnExactMeetLabelsSpec : ChangeSpec := { name := "fnExactMeetLabels", fn := fun _ => fun
  | [d1, d2] => { results := [.lit (.bool true)], args := [d1, d2] }
  | _ => none }
def fnExactMeetLabelsRow : OpenClaim := { program := "ytpelhkailpdhoag", sum := "e114fa364ac6f284a59c4387c5970620f7956e7fb92c1d1eb192bace77a8f78a", func := "loop.example/g00530/laws.FnExactMeetLabels", spec := "fnExactMeetLabels", apart := false }
def FnExactMeetLabelsSaid : Prop := fnExactMeetLabelsRow.holds Try.pinned (OpenSpec.ofChange fnExactMeetLabelsSpec)

/-- ITS FALSE NEIGHBOUR: 'it returns false'. Refute it at one input. -/
def fnExactMeetLabelsWrong : ChangeSpec := { name := "fnExactMeetLabels", fn := fun _ => fun
  | [d1, d2] => { results := [.lit (.bool false)], args := [d1, d2] }
  | _ => none }
def FnExactMeetLabelsWrongFalsely : Prop := fnExactMeetLabelsRow.holds Try.pinned (OpenSpec.ofChange fnExactMeetLabelsWrong)

/-- 'laws.FnExactHighLabel': WHATEVER THE INPUT: true; the input reads as it did. -/
def fnExactHighLabelSpec : ChangeSpec := { name := "fnExactHighLabel", fn := fun _ => fun
  | [d] => { results := [.lit (.bool true)], args := [d] }
  | _ => none }
def fnExactHighLabelRow : OpenClaim := { program := "ytpelhkailpdhoag", sum := "e114fa364ac6f284a59c4387c5970620f7956e7fb92c1d1eb192bace77a8f78a", func := "loop.example/g00530/laws.FnExactHighLabel", spec := "fnExactHighLabel", apart := false }
def FnExactHighLabelSaid : Prop := fnExactHighLabelRow.holds Try.pinned (OpenSpec.ofChange fnExactHighLabelSpec)

/-- ITS FALSE NEIGHBOUR: 'it returns false'. Refute it at one input. -/
def fnExactHighLabelWrong : ChangeSpec := { name := "fnExactHighLabel", fn := fun _ => fun
  | [d] => { results := [.lit (.bool false)], args := [d] }
  | _ => none }
def FnExactHighLabelWrongFalsely : Prop := fnExactHighLabelRow.holds Try.pinned (OpenSpec.ofChange fnExactHighLabelWrong)

/-- 'laws.FnExactOwnsAny': WHATEVER THE INPUT: true; the input reads as it did. -/
def fnExactOwnsAnySpec : ChangeSpec := { name := "fnExactOwnsAny", fn := fun _ => fun
  | [d] => { results := [.lit (.bool true)], args := [d] }
  | _ => none }
def fnExactOwnsAnyRow : OpenClaim := { program := "ytpelhkailpdhoag", sum := "e114fa364ac6f284a59c4387c5970620f7956e7fb92c1d1eb192bace77a8f78a", func := "loop.example/g00530/laws.FnExactOwnsAny", spec := "fnExactOwnsAny", apart := false }
def FnExactOwnsAnySaid : Prop := fnExactOwnsAnyRow.holds Try.pinned (OpenSpec.ofChange fnExactOwnsAnySpec)

/-- ITS FALSE NEIGHBOUR: 'it returns false'. Refute it at one input. -/
def fnExactOwnsAnyWrong : ChangeSpec := { name := "fnExactOwnsAny", fn := fun _ => fun
  | [d] => { results := [.lit (.bool false)], args := [d] }
  | _ => none }
def FnExactOwnsAnyWrongFalsely : Prop := fnExactOwnsAnyRow.holds Try.pinned (OpenSpec.ofChange fnExactOwnsAnyWrong)

/-- 'laws.FnExactCanObserve': WHATEVER THE INPUT: true; the input reads as it did. -/
def fnExactCanObserveSpec : ChangeSpec := { name := "fnExactCanObserve", fn := fun _ => fun
  | [d1, d2] => { results := [.lit (.bool true)], args := [d1, d2] }
  | _ => none }
def fnExactCanObserveRow : OpenClaim := { program := "ytpelhkailpdhoag", sum := "e114fa364ac6f284a59c4387c5970620f7956e7fb92c1d1eb192bace77a8f78a", func := "loop.example/g00530/laws.FnExactCanObserve", spec := "fnExactCanObserve", apart := false }
def FnExactCanObserveSaid : Prop := fnExactCanObserveRow.holds Try.pinned (OpenSpec.ofChange fnExactCanObserveSpec)

/-- ITS FALSE NEIGHBOUR: 'it returns false'. Refute it at one input. -/
def fnExactCanObserveWrong : ChangeSpec := { name := "fnExactCanObserve", fn := fun _ => fun
  | [d1, d2] => { results := [.lit (.bool false)], args := [d1, d2] }
  | _ => none }
def FnExactCanObserveWrongFalsely : Prop := fnExactCanObserveRow.holds Try.pinned (OpenSpec.ofChange fnExactCanObserveWrong)

/- THE SECOND FORM. 'bulk': how many values and letters a reading holds, each counted each time it is reached (what is shared counts as often as it is met; a slice's spare places count too). A statement '..UptoSaid' is the law's where the arguments, and the package variables that the reading takes, are together of bulk at most 1048576: NARROWER than '..Said'. Prove '..Said' where nothing that the law and all that it calls make is longer than what came in: it says more and counts as full. Else prove '..UptoSaid'. A law counts once. -/
mutual
def uptoBulk {H : Type} : DataW H → Nat
  | .lit (.string bytes) => bytes.length + 1
  | .lit _ => 1
  | .nil => 1
  | .ptr d => uptoBulk d + 1
  | .slice elems spare => uptoBulkAll elems + uptoBulkAll spare + 1
  | .agg parts => uptoBulkAll parts + 1
  | .iface _ d => uptoBulk d + 1
  | .map entries => uptoBulkEntries entries + 1
  | .held _ => 1
def uptoBulkAll {H : Type} : List (DataW H) → Nat
  | [] => 0
  | d :: r => uptoBulk d + uptoBulkAll r
def uptoBulkEntries {H : Type} : List (Lit × DataW H) → Nat
  | [] => 0
  | x :: r => uptoBulkEntry x + uptoBulkEntries r
def uptoBulkEntry {H : Type} : Lit × DataW H → Nat
  | (.string bytes, d) => bytes.length + uptoBulk d + 1
  | (_, d) => uptoBulk d + 1
 end
def uptoSmall : (H : Type) → List (DataW H) → Bool := fun _ ds => decide (uptoBulkAll ds ≤ 1048576)
def OpenSpec.upto (s : _root_.Go.ChangeSpec) : _root_.Go.OpenSpec := { _root_.Go.OpenSpec.ofChange s with cond := some uptoSmall }

/-- 'laws.FnExactIsBelow', WHERE WHAT IT READS IS OF BULK AT MOST 1048576: true; the input reads as it did. -/
def fnExactIsBelowUptoRow : OpenClaim := { program := "ytpelhkailpdhoag", sum := "e114fa364ac6f284a59c4387c5970620f7956e7fb92c1d1eb192bace77a8f78a", func := "loop.example/g00530/laws.FnExactIsBelow", spec := "fnExactIsBelow", apart := false, narrowed := true }
def FnExactIsBelowUptoSaid : Prop := fnExactIsBelowUptoRow.holds Try.pinned (OpenSpec.upto fnExactIsBelowSpec)

/-- 'laws.FnExactJoinLabels', WHERE WHAT IT READS IS OF BULK AT MOST 1048576: true; the input reads as it did. -/
def fnExactJoinLabelsUptoRow : OpenClaim := { program := "ytpelhkailpdhoag", sum := "e114fa364ac6f284a59c4387c5970620f7956e7fb92c1d1eb192bace77a8f78a", func := "loop.example/g00530/laws.FnExactJoinLabels", spec := "fnExactJoinLabels", apart := false, narrowed := true }
def FnExactJoinLabelsUptoSaid : Prop := fnExactJoinLabelsUptoRow.holds Try.pinned (OpenSpec.upto fnExactJoinLabelsSpec)

/-- 'laws.FnExactMeetLabels', WHERE WHAT IT READS IS OF BULK AT MOST 1048576: true; the input reads as it did. -/
def fnExactMeetLabelsUptoRow : OpenClaim := { program := "ytpelhkailpdhoag", sum := "e114fa364ac6f284a59c4387c5970620f7956e7fb92c1d1eb192bace77a8f78a", func := "loop.example/g00530/laws.FnExactMeetLabels", spec := "fnExactMeetLabels", apart := false, narrowed := true }
def FnExactMeetLabelsUptoSaid : Prop := fnExactMeetLabelsUptoRow.holds Try.pinned (OpenSpec.upto fnExactMeetLabelsSpec)

/-- 'laws.FnExactHighLabel', WHERE WHAT IT READS IS OF BULK AT MOST 1048576: true; the input reads as it did. -/
def fnExactHighLabelUptoRow : OpenClaim := { program := "ytpelhkailpdhoag", sum := "e114fa364ac6f284a59c4387c5970620f7956e7fb92c1d1eb192bace77a8f78a", func := "loop.example/g00530/laws.FnExactHighLabel", spec := "fnExactHighLabel", apart := false, narrowed := true }
def FnExactHighLabelUptoSaid : Prop := fnExactHighLabelUptoRow.holds Try.pinned (OpenSpec.upto fnExactHighLabelSpec)

/-- 'laws.FnExactOwnsAny', WHERE WHAT IT READS IS OF BULK AT MOST 1048576: true; the input reads as it did. -/
def fnExactOwnsAnyUptoRow : OpenClaim := { program := "ytpelhkailpdhoag", sum := "e114fa364ac6f284a59c4387c5970620f7956e7fb92c1d1eb192bace77a8f78a", func := "loop.example/g00530/laws.FnExactOwnsAny", spec := "fnExactOwnsAny", apart := false, narrowed := true }
def FnExactOwnsAnyUptoSaid : Prop := fnExactOwnsAnyUptoRow.holds Try.pinned (OpenSpec.upto fnExactOwnsAnySpec)

/-- 'laws.FnExactCanObserve', WHERE WHAT IT READS IS OF BULK AT MOST 1048576: true; the input reads as it did. -/
def fnExactCanObserveUptoRow : OpenClaim := { program := "ytpelhkailpdhoag", sum := "e114fa364ac6f284a59c4387c5970620f7956e7fb92c1d1eb192bace77a8f78a", func := "loop.example/g00530/laws.FnExactCanObserve", spec := "fnExactCanObserve", apart := false, narrowed := true }
def FnExactCanObserveUptoSaid : Prop := fnExactCanObserveUptoRow.holds Try.pinned (OpenSpec.upto fnExactCanObserveSpec)

end Rows
end Go.Proofs.Ytpelhkailpdhoag
