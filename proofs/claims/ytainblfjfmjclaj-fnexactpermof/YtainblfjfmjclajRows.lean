/-
  No cell of these rows narrows 'for every input' (looked for: loops, veiled, ifaces, maps, wideKeys, modest, calm, conditions, laid).
  DERIVED. THE GIVEN ROWS OF THIS SEAT. 5 by the template 'for every input the law returns true; each argument reads behind the call as it read before'; 0 by the template 'total and deterministic' (their statements: YtainblfjfmjclajTotals.lean).
  GIVEN WITH THE SEED: the statements are not yours to turn. If you find one false, say at which input.
  Laid BY PROGRAM, IN A SANDBOX (cutbox-rows.mjs): the forced cells as the released guide's own fill.sh prints them over the translation 0a613d10f0057fcb… (all of the seat's roots in one cut). By AI agents, Wed Nov 11 2026. No macro, syntax, notation, axiom, sorry.
-/
import Derived.Test.YtainblfjfmjclajChecked
import GoSem.Claim
import GoSem.ClaimJoined
import GoSem.ClaimMapViews
import Derived.JoinedTies
import Derived.KernelRfl
namespace Go.Proofs.Ytainblfjfmjclaj
/- THE CELL 'sum', in the pinned program and in every row, IS THE sha256 OF THE DUMP (.gsa) THAT YtainblfjfmjclajProg.lean LOADS. Nothing in Lean hashes anything: it is a label: what it is worth is what the hold of that sum in a sandbox is worth. -/
noncomputable def Try.pinned : Pinned := { name := "ytainblfjfmjclaj", sum := "0a613d10f0057fcb5a1e630f90cb76575a0827728a0e75b42b6cbe0b07261dc6", checked := Try.checked }
namespace Rows
def none {H : Type} : Left H := { results := [], args := [] }

/-- 'laws.FnExactAddDomain': WHATEVER THE INPUT: true; the input reads as it did. -/
def fnExactAddDomainSpec : ChangeSpec := { name := "fnExactAddDomain", fn := fun _ => fun
  | [d1, d2] => { results := [.lit (.bool true)], args := [d1, d2] }
  | _ => none }
def fnExactAddDomainRow : OpenClaim := { program := "ytainblfjfmjclaj", sum := "0a613d10f0057fcb5a1e630f90cb76575a0827728a0e75b42b6cbe0b07261dc6", func := "loop.example/g00530/laws.FnExactAddDomain", spec := "fnExactAddDomain", plainKeys := false, apart := false }
def FnExactAddDomainSaid : Prop := fnExactAddDomainRow.holds Try.pinned (OpenSpec.ofChange fnExactAddDomainSpec)

/-- ITS FALSE NEIGHBOUR: 'it returns false'. Refute it at one input. -/
def fnExactAddDomainWrong : ChangeSpec := { name := "fnExactAddDomain", fn := fun _ => fun
  | [d1, d2] => { results := [.lit (.bool false)], args := [d1, d2] }
  | _ => none }
def FnExactAddDomainWrongFalsely : Prop := fnExactAddDomainRow.holds Try.pinned (OpenSpec.ofChange fnExactAddDomainWrong)

/-- 'laws.FnExactTaintDomain': WHATEVER THE INPUT: true; the input reads as it did. -/
def fnExactTaintDomainSpec : ChangeSpec := { name := "fnExactTaintDomain", fn := fun _ => fun
  | [d1, d2, d3] => { results := [.lit (.bool true)], args := [d1, d2, d3] }
  | _ => none }
def fnExactTaintDomainRow : OpenClaim := { program := "ytainblfjfmjclaj", sum := "0a613d10f0057fcb5a1e630f90cb76575a0827728a0e75b42b6cbe0b07261dc6", func := "loop.example/g00530/laws.FnExactTaintDomain", spec := "fnExactTaintDomain", plainKeys := false, apart := false }
def FnExactTaintDomainSaid : Prop := fnExactTaintDomainRow.holds Try.pinned (OpenSpec.ofChange fnExactTaintDomainSpec)

/-- ITS FALSE NEIGHBOUR: 'it returns false'. Refute it at one input. -/
def fnExactTaintDomainWrong : ChangeSpec := { name := "fnExactTaintDomain", fn := fun _ => fun
  | [d1, d2, d3] => { results := [.lit (.bool false)], args := [d1, d2, d3] }
  | _ => none }
def FnExactTaintDomainWrongFalsely : Prop := fnExactTaintDomainRow.holds Try.pinned (OpenSpec.ofChange fnExactTaintDomainWrong)

/-- 'laws.FnExactTagLabel': WHATEVER THE INPUT: true; the input reads as it did. -/
def fnExactTagLabelSpec : ChangeSpec := { name := "fnExactTagLabel", fn := fun _ => fun
  | [d1, d2] => { results := [.lit (.bool true)], args := [d1, d2] }
  | _ => none }
def fnExactTagLabelRow : OpenClaim := { program := "ytainblfjfmjclaj", sum := "0a613d10f0057fcb5a1e630f90cb76575a0827728a0e75b42b6cbe0b07261dc6", func := "loop.example/g00530/laws.FnExactTagLabel", spec := "fnExactTagLabel", plainKeys := false, apart := false }
def FnExactTagLabelSaid : Prop := fnExactTagLabelRow.holds Try.pinned (OpenSpec.ofChange fnExactTagLabelSpec)

/-- ITS FALSE NEIGHBOUR: 'it returns false'. Refute it at one input. -/
def fnExactTagLabelWrong : ChangeSpec := { name := "fnExactTagLabel", fn := fun _ => fun
  | [d1, d2] => { results := [.lit (.bool false)], args := [d1, d2] }
  | _ => none }
def FnExactTagLabelWrongFalsely : Prop := fnExactTagLabelRow.holds Try.pinned (OpenSpec.ofChange fnExactTagLabelWrong)

/-- 'laws.FnExactDomainLabel': WHATEVER THE INPUT: true; the input reads as it did. -/
def fnExactDomainLabelSpec : ChangeSpec := { name := "fnExactDomainLabel", fn := fun _ => fun
  | [d1, d2] => { results := [.lit (.bool true)], args := [d1, d2] }
  | _ => none }
def fnExactDomainLabelRow : OpenClaim := { program := "ytainblfjfmjclaj", sum := "0a613d10f0057fcb5a1e630f90cb76575a0827728a0e75b42b6cbe0b07261dc6", func := "loop.example/g00530/laws.FnExactDomainLabel", spec := "fnExactDomainLabel", plainKeys := false, apart := false }
def FnExactDomainLabelSaid : Prop := fnExactDomainLabelRow.holds Try.pinned (OpenSpec.ofChange fnExactDomainLabelSpec)

/-- ITS FALSE NEIGHBOUR: 'it returns false'. Refute it at one input. -/
def fnExactDomainLabelWrong : ChangeSpec := { name := "fnExactDomainLabel", fn := fun _ => fun
  | [d1, d2] => { results := [.lit (.bool false)], args := [d1, d2] }
  | _ => none }
def FnExactDomainLabelWrongFalsely : Prop := fnExactDomainLabelRow.holds Try.pinned (OpenSpec.ofChange fnExactDomainLabelWrong)

/-- 'laws.FnExactPermOf': WHATEVER THE INPUT: true; the input reads as it did. -/
def fnExactPermOfSpec : ChangeSpec := { name := "fnExactPermOf", fn := fun _ => fun
  | [d1, d2, d3] => { results := [.lit (.bool true)], args := [d1, d2, d3] }
  | _ => none }
def fnExactPermOfRow : OpenClaim := { program := "ytainblfjfmjclaj", sum := "0a613d10f0057fcb5a1e630f90cb76575a0827728a0e75b42b6cbe0b07261dc6", func := "loop.example/g00530/laws.FnExactPermOf", spec := "fnExactPermOf", plainKeys := false, apart := false }
def FnExactPermOfSaid : Prop := fnExactPermOfRow.holds Try.pinned (OpenSpec.ofChange fnExactPermOfSpec)

/-- ITS FALSE NEIGHBOUR: 'it returns false'. Refute it at one input. -/
def fnExactPermOfWrong : ChangeSpec := { name := "fnExactPermOf", fn := fun _ => fun
  | [d1, d2, d3] => { results := [.lit (.bool false)], args := [d1, d2, d3] }
  | _ => none }
def FnExactPermOfWrongFalsely : Prop := fnExactPermOfRow.holds Try.pinned (OpenSpec.ofChange fnExactPermOfWrong)

/- THE SECOND FORM. 'bulk': how many values and letters a reading holds, each counted each time it is reached (what is shared counts as often as it is met; a slice's spare places count too). A statement '..UptoSaid' is the law's where the arguments, and the package variables that the reading takes, are together of bulk at most 1048576: NARROWER than '..Said'. Prove '..Said' where nothing that the law and all that it calls make is longer than what came in: it says more and counts as full. Else prove '..UptoSaid'. A law counts once. -/
mutual
def uptoBulk {H : Type} : DataW H → Nat
  | .lit (.string bytes) => bytes.length + 1
  | .lit _ => 1
  | .nil => 1
  | .ptr d => uptoBulk d + 1
  | .slice elems spare => uptoBulkAll elems + uptoBulkAll spare + 1
  | .agg parts => uptoBulkAll parts + 1
  | .iface _ d => uptoBulk d + 1
  | .map entries => uptoBulkEntries entries + 1
  | .held _ => 1
def uptoBulkAll {H : Type} : List (DataW H) → Nat
  | [] => 0
  | d :: r => uptoBulk d + uptoBulkAll r
def uptoBulkEntries {H : Type} : List (Lit × DataW H) → Nat
  | [] => 0
  | x :: r => uptoBulkEntry x + uptoBulkEntries r
def uptoBulkEntry {H : Type} : Lit × DataW H → Nat
  | (.string bytes, d) => bytes.length + uptoBulk d + 1
  | (_, d) => uptoBulk d + 1
 end
def uptoSmall : (H : Type) → List (DataW H) → Bool := fun _ ds => decide (uptoBulkAll ds ≤ 1048576)
def OpenSpec.upto (s : _root_.Go.ChangeSpec) : _root_.Go.OpenSpec := { _root_.Go.OpenSpec.ofChange s with cond := some uptoSmall }

/-- 'laws.FnExactAddDomain', WHERE WHAT IT READS IS OF BULK AT MOST 1048576: true; the input reads as it did. -/
def fnExactAddDomainUptoRow : OpenClaim := { program := "ytainblfjfmjclaj", sum := "0a613d10f0057fcb5a1e630f90cb76575a0827728a0e75b42b6cbe0b07261dc6", func := "loop.example/g00530/laws.FnExactAddDomain", spec := "fnExactAddDomain", plainKeys := false, apart := false, narrowed := true }
def FnExactAddDomainUptoSaid : Prop := fnExactAddDomainUptoRow.holds Try.pinned (OpenSpec.upto fnExactAddDomainSpec)

/-- 'laws.FnExactTaintDomain', WHERE WHAT IT READS IS OF BULK AT MOST 1048576: true; the input reads as it did. -/
def fnExactTaintDomainUptoRow : OpenClaim := { program := "ytainblfjfmjclaj", sum := "0a613d10f0057fcb5a1e630f90cb76575a0827728a0e75b42b6cbe0b07261dc6", func := "loop.example/g00530/laws.FnExactTaintDomain", spec := "fnExactTaintDomain", plainKeys := false, apart := false, narrowed := true }
def FnExactTaintDomainUptoSaid : Prop := fnExactTaintDomainUptoRow.holds Try.pinned (OpenSpec.upto fnExactTaintDomainSpec)

/-- 'laws.FnExactTagLabel', WHERE WHAT IT READS IS OF BULK AT MOST 1048576: true; the input reads as it did. -/
def fnExactTagLabelUptoRow : OpenClaim := { program := "ytainblfjfmjclaj", sum := "0a613d10f0057fcb5a1e630f90cb76575a0827728a0e75b42b6cbe0b07261dc6", func := "loop.example/g00530/laws.FnExactTagLabel", spec := "fnExactTagLabel", plainKeys := false, apart := false, narrowed := true }
def FnExactTagLabelUptoSaid : Prop := fnExactTagLabelUptoRow.holds Try.pinned (OpenSpec.upto fnExactTagLabelSpec)

/-- 'laws.FnExactDomainLabel', WHERE WHAT IT READS IS OF BULK AT MOST 1048576: true; the input reads as it did. -/
def fnExactDomainLabelUptoRow : OpenClaim := { program := "ytainblfjfmjclaj", sum := "0a613d10f0057fcb5a1e630f90cb76575a0827728a0e75b42b6cbe0b07261dc6", func := "loop.example/g00530/laws.FnExactDomainLabel", spec := "fnExactDomainLabel", plainKeys := false, apart := false, narrowed := true }
def FnExactDomainLabelUptoSaid : Prop := fnExactDomainLabelUptoRow.holds Try.pinned (OpenSpec.upto fnExactDomainLabelSpec)

/-- 'laws.FnExactPermOf', WHERE WHAT IT READS IS OF BULK AT MOST 1048576: true; the input reads as it did. -/
def fnExactPermOfUptoRow : OpenClaim := { program := "ytainblfjfmjclaj", sum := "0a613d10f0057fcb5a1e630f90cb76575a0827728a0e75b42b6cbe0b07261dc6", func := "loop.example/g00530/laws.FnExactPermOf", spec := "fnExactPermOf", plainKeys := false, apart := false, narrowed := true }
def FnExactPermOfUptoSaid : Prop := fnExactPermOfUptoRow.holds Try.pinned (OpenSpec.upto fnExactPermOfSpec)

end Rows
end Go.Proofs.Ytainblfjfmjclaj
