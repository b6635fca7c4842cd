/-
  No cell of these rows narrows 'for every input' (looked for: loops, veiled, ifaces, maps, wideKeys, modest, calm, conditions, laid).
  DERIVED. THE GIVEN ROWS OF THIS SEAT. 5 by the template 'for every input the law returns true; each argument reads behind the call as it read before'; 0 by the template 'total and deterministic' (their statements: YtcojgmecocjnkaaGreatTotals.lean).
  GIVEN WITH THE SEED: the statements are not yours to turn. If you find one false, say at which input.
  Laid BY PROGRAM, IN A SANDBOX (cutbox-rows.mjs): the forced cells as the released guide's own fill.sh prints them over the translation 2123d74221021746… (all of the seat's roots in one cut). By AI agents, Wed Nov 11 2026. No macro, syntax, notation, axiom, sorry.
-/
import Derived.Test.YtcojgmecocjnkaaGreatChecked
import GoSem.Claim
import GoSem.ClaimJoined
import GoSem.ClaimMapViews
import Derived.JoinedTies
import Derived.KernelRfl
namespace Go.Proofs.YtcojgmecocjnkaaGreat
/- THE CELL 'sum', in the pinned program and in every row, IS THE sha256 OF THE DUMP (.gsa) THAT YtcojgmecocjnkaaGreatProg.lean LOADS. Nothing in Lean hashes anything: it is a label: what it is worth is what the hold of that sum in a sandbox is worth. -/
noncomputable def Tryz.pinned : Pinned := { name := "ytcojgmecocjnkaagreat", sum := "2123d7422102174649f153ba161ac828e46001c561eb13fdcc469f81ac9fa429", checked := Tryz.checked }
namespace Rows
def none {H : Type} : Left H := { results := [], args := [] }

/-- 'laws.FnExactTryStep': WHATEVER THE INPUT: true; the input reads as it did. -/
def fnExactTryStepSpec : ChangeSpec := { name := "fnExactTryStep", fn := fun _ => fun
  | [d] => { results := [.lit (.bool true)], args := [d] }
  | _ => none }
def fnExactTryStepRow : OpenClaim := { program := "ytcojgmecocjnkaagreat", sum := "2123d7422102174649f153ba161ac828e46001c561eb13fdcc469f81ac9fa429", func := "loop.example/g00530/laws.FnExactTryStep", spec := "fnExactTryStep", unfollowed := true, recurses := true, plainKeys := false, apart := false }
def FnExactTryStepSaid : Prop := fnExactTryStepRow.holds Tryz.pinned (OpenSpec.ofChange fnExactTryStepSpec)

/-- ITS FALSE NEIGHBOUR: 'it returns false'. Refute it at one input. -/
def fnExactTryStepWrong : ChangeSpec := { name := "fnExactTryStep", fn := fun _ => fun
  | [d] => { results := [.lit (.bool false)], args := [d] }
  | _ => none }
def FnExactTryStepWrongFalsely : Prop := fnExactTryStepRow.holds Tryz.pinned (OpenSpec.ofChange fnExactTryStepWrong)

/-- 'laws.FnExactTaintSelf': WHATEVER THE INPUT: true; the input reads as it did. -/
def fnExactTaintSelfSpec : ChangeSpec := { name := "fnExactTaintSelf", fn := fun _ => fun
  | [d1, d2] => { results := [.lit (.bool true)], args := [d1, d2] }
  | _ => none }
def fnExactTaintSelfRow : OpenClaim := { program := "ytcojgmecocjnkaagreat", sum := "2123d7422102174649f153ba161ac828e46001c561eb13fdcc469f81ac9fa429", func := "loop.example/g00530/laws.FnExactTaintSelf", spec := "fnExactTaintSelf", unfollowed := true, recurses := true, plainKeys := false, apart := false }
def FnExactTaintSelfSaid : Prop := fnExactTaintSelfRow.holds Tryz.pinned (OpenSpec.ofChange fnExactTaintSelfSpec)

/-- ITS FALSE NEIGHBOUR: 'it returns false'. Refute it at one input. -/
def fnExactTaintSelfWrong : ChangeSpec := { name := "fnExactTaintSelf", fn := fun _ => fun
  | [d1, d2] => { results := [.lit (.bool false)], args := [d1, d2] }
  | _ => none }
def FnExactTaintSelfWrongFalsely : Prop := fnExactTaintSelfRow.holds Tryz.pinned (OpenSpec.ofChange fnExactTaintSelfWrong)

/-- 'laws.FnExactRetagSelf': WHATEVER THE INPUT: true; the input reads as it did. -/
def fnExactRetagSelfSpec : ChangeSpec := { name := "fnExactRetagSelf", fn := fun _ => fun
  | [d1, d2, d3, d4] => { results := [.lit (.bool true)], args := [d1, d2, d3, d4] }
  | _ => none }
def fnExactRetagSelfRow : OpenClaim := { program := "ytcojgmecocjnkaagreat", sum := "2123d7422102174649f153ba161ac828e46001c561eb13fdcc469f81ac9fa429", func := "loop.example/g00530/laws.FnExactRetagSelf", spec := "fnExactRetagSelf", unfollowed := true, recurses := true, plainKeys := false, apart := false }
def FnExactRetagSelfSaid : Prop := fnExactRetagSelfRow.holds Tryz.pinned (OpenSpec.ofChange fnExactRetagSelfSpec)

/-- ITS FALSE NEIGHBOUR: 'it returns false'. Refute it at one input. -/
def fnExactRetagSelfWrong : ChangeSpec := { name := "fnExactRetagSelf", fn := fun _ => fun
  | [d1, d2, d3, d4] => { results := [.lit (.bool false)], args := [d1, d2, d3, d4] }
  | _ => none }
def FnExactRetagSelfWrongFalsely : Prop := fnExactRetagSelfRow.holds Tryz.pinned (OpenSpec.ofChange fnExactRetagSelfWrong)

/-- 'laws.FnExactEnterGate': WHATEVER THE INPUT: true; the input reads as it did. -/
def fnExactEnterGateSpec : ChangeSpec := { name := "fnExactEnterGate", fn := fun _ => fun
  | [d1, d2, d3] => { results := [.lit (.bool true)], args := [d1, d2, d3] }
  | _ => none }
def fnExactEnterGateRow : OpenClaim := { program := "ytcojgmecocjnkaagreat", sum := "2123d7422102174649f153ba161ac828e46001c561eb13fdcc469f81ac9fa429", func := "loop.example/g00530/laws.FnExactEnterGate", spec := "fnExactEnterGate", unfollowed := true, recurses := true, plainKeys := false, apart := false }
def FnExactEnterGateSaid : Prop := fnExactEnterGateRow.holds Tryz.pinned (OpenSpec.ofChange fnExactEnterGateSpec)

/-- ITS FALSE NEIGHBOUR: 'it returns false'. Refute it at one input. -/
def fnExactEnterGateWrong : ChangeSpec := { name := "fnExactEnterGate", fn := fun _ => fun
  | [d1, d2, d3] => { results := [.lit (.bool false)], args := [d1, d2, d3] }
  | _ => none }
def FnExactEnterGateWrongFalsely : Prop := fnExactEnterGateRow.holds Tryz.pinned (OpenSpec.ofChange fnExactEnterGateWrong)

/-- 'laws.FnExactMakeCall': WHATEVER THE INPUT: true; the input reads as it did. -/
def fnExactMakeCallSpec : ChangeSpec := { name := "fnExactMakeCall", fn := fun _ => fun
  | [d1, d2] => { results := [.lit (.bool true)], args := [d1, d2] }
  | _ => none }
def fnExactMakeCallRow : OpenClaim := { program := "ytcojgmecocjnkaagreat", sum := "2123d7422102174649f153ba161ac828e46001c561eb13fdcc469f81ac9fa429", func := "loop.example/g00530/laws.FnExactMakeCall", spec := "fnExactMakeCall", unfollowed := true, recurses := true, plainKeys := false, apart := false }
def FnExactMakeCallSaid : Prop := fnExactMakeCallRow.holds Tryz.pinned (OpenSpec.ofChange fnExactMakeCallSpec)

/-- ITS FALSE NEIGHBOUR: 'it returns false'. Refute it at one input. -/
def fnExactMakeCallWrong : ChangeSpec := { name := "fnExactMakeCall", fn := fun _ => fun
  | [d1, d2] => { results := [.lit (.bool false)], args := [d1, d2] }
  | _ => none }
def FnExactMakeCallWrongFalsely : Prop := fnExactMakeCallRow.holds Tryz.pinned (OpenSpec.ofChange fnExactMakeCallWrong)

/- THE SECOND FORM. 'bulk': how many values and letters a reading holds, each counted each time it is reached (what is shared counts as often as it is met; a slice's spare places count too). A statement '..UptoSaid' is the law's where the arguments, and the package variables that the reading takes, are together of bulk at most 1048576: NARROWER than '..Said'. Prove '..Said' where nothing that the law and all that it calls make is longer than what came in: it says more and counts as full. Else prove '..UptoSaid'. A law counts once. -/
mutual
def uptoBulk {H : Type} : DataW H → Nat
  | .lit (.string bytes) => bytes.length + 1
  | .lit _ => 1
  | .nil => 1
  | .ptr d => uptoBulk d + 1
  | .slice elems spare => uptoBulkAll elems + uptoBulkAll spare + 1
  | .agg parts => uptoBulkAll parts + 1
  | .iface _ d => uptoBulk d + 1
  | .map entries => uptoBulkEntries entries + 1
  | .held _ => 1
def uptoBulkAll {H : Type} : List (DataW H) → Nat
  | [] => 0
  | d :: r => uptoBulk d + uptoBulkAll r
def uptoBulkEntries {H : Type} : List (Lit × DataW H) → Nat
  | [] => 0
  | x :: r => uptoBulkEntry x + uptoBulkEntries r
def uptoBulkEntry {H : Type} : Lit × DataW H → Nat
  | (.string bytes, d) => bytes.length + uptoBulk d + 1
  | (_, d) => uptoBulk d + 1
 end
def uptoSmall : (H : Type) → List (DataW H) → Bool := fun _ ds => decide (uptoBulkAll ds ≤ 1048576)
def OpenSpec.upto (s : _root_.Go.ChangeSpec) : _root_.Go.OpenSpec := { _root_.Go.OpenSpec.ofChange s with cond := some uptoSmall }

/-- 'laws.FnExactTryStep', WHERE WHAT IT READS IS OF BULK AT MOST 1048576: true; the input reads as it did. -/
def fnExactTryStepUptoRow : OpenClaim := { program := "ytcojgmecocjnkaagreat", sum := "2123d7422102174649f153ba161ac828e46001c561eb13fdcc469f81ac9fa429", func := "loop.example/g00530/laws.FnExactTryStep", spec := "fnExactTryStep", unfollowed := true, recurses := true, plainKeys := false, apart := false, narrowed := true }
def FnExactTryStepUptoSaid : Prop := fnExactTryStepUptoRow.holds Tryz.pinned (OpenSpec.upto fnExactTryStepSpec)

/-- 'laws.FnExactTaintSelf', WHERE WHAT IT READS IS OF BULK AT MOST 1048576: true; the input reads as it did. -/
def fnExactTaintSelfUptoRow : OpenClaim := { program := "ytcojgmecocjnkaagreat", sum := "2123d7422102174649f153ba161ac828e46001c561eb13fdcc469f81ac9fa429", func := "loop.example/g00530/laws.FnExactTaintSelf", spec := "fnExactTaintSelf", unfollowed := true, recurses := true, plainKeys := false, apart := false, narrowed := true }
def FnExactTaintSelfUptoSaid : Prop := fnExactTaintSelfUptoRow.holds Tryz.pinned (OpenSpec.upto fnExactTaintSelfSpec)

/-- 'laws.FnExactRetagSelf', WHERE WHAT IT READS IS OF BULK AT MOST 1048576: true; the input reads as it did. -/
def fnExactRetagSelfUptoRow : OpenClaim := { program := "ytcojgmecocjnkaagreat", sum := "2123d7422102174649f153ba161ac828e46001c561eb13fdcc469f81ac9fa429", func := "loop.example/g00530/laws.FnExactRetagSelf", spec := "fnExactRetagSelf", unfollowed := true, recurses := true, plainKeys := false, apart := false, narrowed := true }
def FnExactRetagSelfUptoSaid : Prop := fnExactRetagSelfUptoRow.holds Tryz.pinned (OpenSpec.upto fnExactRetagSelfSpec)

/-- 'laws.FnExactEnterGate', WHERE WHAT IT READS IS OF BULK AT MOST 1048576: true; the input reads as it did. -/
def fnExactEnterGateUptoRow : OpenClaim := { program := "ytcojgmecocjnkaagreat", sum := "2123d7422102174649f153ba161ac828e46001c561eb13fdcc469f81ac9fa429", func := "loop.example/g00530/laws.FnExactEnterGate", spec := "fnExactEnterGate", unfollowed := true, recurses := true, plainKeys := false, apart := false, narrowed := true }
def FnExactEnterGateUptoSaid : Prop := fnExactEnterGateUptoRow.holds Tryz.pinned (OpenSpec.upto fnExactEnterGateSpec)

/-- 'laws.FnExactMakeCall', WHERE WHAT IT READS IS OF BULK AT MOST 1048576: true; the input reads as it did. -/
def fnExactMakeCallUptoRow : OpenClaim := { program := "ytcojgmecocjnkaagreat", sum := "2123d7422102174649f153ba161ac828e46001c561eb13fdcc469f81ac9fa429", func := "loop.example/g00530/laws.FnExactMakeCall", spec := "fnExactMakeCall", unfollowed := true, recurses := true, plainKeys := false, apart := false, narrowed := true }
def FnExactMakeCallUptoSaid : Prop := fnExactMakeCallUptoRow.holds Tryz.pinned (OpenSpec.upto fnExactMakeCallSpec)

end Rows
end Go.Proofs.YtcojgmecocjnkaaGreat
