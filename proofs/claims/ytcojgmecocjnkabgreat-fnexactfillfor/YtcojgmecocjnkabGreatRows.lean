/-
  No cell of these rows narrows 'for every input' (looked for: loops, veiled, ifaces, maps, wideKeys, modest, calm, conditions, laid).
  DERIVED. THE GIVEN ROWS OF THIS SEAT. 3 by the template 'for every input the law returns true; each argument reads behind the call as it read before'; 0 by the template 'total and deterministic' (their statements: YtcojgmecocjnkabGreatTotals.lean).
  GIVEN WITH THE SEED: the statements are not yours to turn. If you find one false, say at which input.
  Laid BY PROGRAM, IN A SANDBOX (cutbox-rows.mjs): the forced cells as the released guide's own fill.sh prints them over the translation 52fd6b0cc4a62cfd… (all of the seat's roots in one cut). By AI agents, Wed Nov 11 2026. No macro, syntax, notation, axiom, sorry.
-/
import Derived.Test.YtcojgmecocjnkabGreatChecked
import GoSem.Claim
import GoSem.ClaimJoined
import GoSem.ClaimMapViews
import Derived.JoinedTies
import Derived.KernelRfl
namespace Go.Proofs.YtcojgmecocjnkabGreat
/- THE CELL 'sum', in the pinned program and in every row, IS THE sha256 OF THE DUMP (.gsa) THAT YtcojgmecocjnkabGreatProg.lean LOADS. Nothing in Lean hashes anything: it is a label: what it is worth is what the hold of that sum in a sandbox is worth. -/
noncomputable def Tryz.pinned : Pinned := { name := "ytcojgmecocjnkabgreat", sum := "52fd6b0cc4a62cfd9d49b46d3777f47d7e8d3344615611a13745debb72685cb2", checked := Tryz.checked }
namespace Rows
def none {H : Type} : Left H := { results := [], args := [] }

/-- 'laws.FnExactStepSystem': WHATEVER THE INPUT: true; the input reads as it did. -/
def fnExactStepSystemSpec : ChangeSpec := { name := "fnExactStepSystem", fn := fun _ => fun
  | [d1, d2] => { results := [.lit (.bool true)], args := [d1, d2] }
  | _ => none }
def fnExactStepSystemRow : OpenClaim := { program := "ytcojgmecocjnkabgreat", sum := "52fd6b0cc4a62cfd9d49b46d3777f47d7e8d3344615611a13745debb72685cb2", func := "loop.example/g00530/laws.FnExactStepSystem", spec := "fnExactStepSystem", unfollowed := true, recurses := true, plainKeys := false, apart := false }
def FnExactStepSystemSaid : Prop := fnExactStepSystemRow.holds Tryz.pinned (OpenSpec.ofChange fnExactStepSystemSpec)

/-- ITS FALSE NEIGHBOUR: 'it returns false'. Refute it at one input. -/
def fnExactStepSystemWrong : ChangeSpec := { name := "fnExactStepSystem", fn := fun _ => fun
  | [d1, d2] => { results := [.lit (.bool false)], args := [d1, d2] }
  | _ => none }
def FnExactStepSystemWrongFalsely : Prop := fnExactStepSystemRow.holds Tryz.pinned (OpenSpec.ofChange fnExactStepSystemWrong)

/-- 'laws.FnExactFillFor': WHATEVER THE INPUT: true; the input reads as it did. -/
def fnExactFillForSpec : ChangeSpec := { name := "fnExactFillFor", fn := fun _ => fun
  | [d1, d2, d3] => { results := [.lit (.bool true)], args := [d1, d2, d3] }
  | _ => none }
def fnExactFillForRow : OpenClaim := { program := "ytcojgmecocjnkabgreat", sum := "52fd6b0cc4a62cfd9d49b46d3777f47d7e8d3344615611a13745debb72685cb2", func := "loop.example/g00530/laws.FnExactFillFor", spec := "fnExactFillFor", plainKeys := false, apart := false }
def FnExactFillForSaid : Prop := fnExactFillForRow.holds Tryz.pinned (OpenSpec.ofChange fnExactFillForSpec)

/-- ITS FALSE NEIGHBOUR: 'it returns false'. Refute it at one input. -/
def fnExactFillForWrong : ChangeSpec := { name := "fnExactFillFor", fn := fun _ => fun
  | [d1, d2, d3] => { results := [.lit (.bool false)], args := [d1, d2, d3] }
  | _ => none }
def FnExactFillForWrongFalsely : Prop := fnExactFillForRow.holds Tryz.pinned (OpenSpec.ofChange fnExactFillForWrong)

/-- 'laws.FnExactNewSystem': WHATEVER THE INPUT: true; the input reads as it did. -/
def fnExactNewSystemSpec : ChangeSpec := { name := "fnExactNewSystem", fn := fun _ => fun
  | [d1, d2, d3, d4, d5] => { results := [.lit (.bool true)], args := [d1, d2, d3, d4, d5] }
  | _ => none }
def fnExactNewSystemRow : OpenClaim := { program := "ytcojgmecocjnkabgreat", sum := "52fd6b0cc4a62cfd9d49b46d3777f47d7e8d3344615611a13745debb72685cb2", func := "loop.example/g00530/laws.FnExactNewSystem", spec := "fnExactNewSystem", plainKeys := false, apart := false }
def FnExactNewSystemSaid : Prop := fnExactNewSystemRow.holds Tryz.pinned (OpenSpec.ofChange fnExactNewSystemSpec)

/-- ITS FALSE NEIGHBOUR: 'it returns false'. Refute it at one input. -/
def fnExactNewSystemWrong : ChangeSpec := { name := "fnExactNewSystem", fn := fun _ => fun
  | [d1, d2, d3, d4, d5] => { results := [.lit (.bool false)], args := [d1, d2, d3, d4, d5] }
  | _ => none }
def FnExactNewSystemWrongFalsely : Prop := fnExactNewSystemRow.holds Tryz.pinned (OpenSpec.ofChange fnExactNewSystemWrong)

/- THE SECOND FORM. 'bulk': how many values and letters a reading holds, each counted each time it is reached (what is shared counts as often as it is met; a slice's spare places count too). A statement '..UptoSaid' is the law's where the arguments, and the package variables that the reading takes, are together of bulk at most 1048576: NARROWER than '..Said'. Prove '..Said' where nothing that the law and all that it calls make is longer than what came in: it says more and counts as full. Else prove '..UptoSaid'. A law counts once. -/
mutual
def uptoBulk {H : Type} : DataW H → Nat
  | .lit (.string bytes) => bytes.length + 1
  | .lit _ => 1
  | .nil => 1
  | .ptr d => uptoBulk d + 1
  | .slice elems spare => uptoBulkAll elems + uptoBulkAll spare + 1
  | .agg parts => uptoBulkAll parts + 1
  | .iface _ d => uptoBulk d + 1
  | .map entries => uptoBulkEntries entries + 1
  | .held _ => 1
def uptoBulkAll {H : Type} : List (DataW H) → Nat
  | [] => 0
  | d :: r => uptoBulk d + uptoBulkAll r
def uptoBulkEntries {H : Type} : List (Lit × DataW H) → Nat
  | [] => 0
  | x :: r => uptoBulkEntry x + uptoBulkEntries r
def uptoBulkEntry {H : Type} : Lit × DataW H → Nat
  | (.string bytes, d) => bytes.length + uptoBulk d + 1
  | (_, d) => uptoBulk d + 1
 end
def uptoSmall : (H : Type) → List (DataW H) → Bool := fun _ ds => decide (uptoBulkAll ds ≤ 1048576)
def OpenSpec.upto (s : _root_.Go.ChangeSpec) : _root_.Go.OpenSpec := { _root_.Go.OpenSpec.ofChange s with cond := some uptoSmall }

/-- 'laws.FnExactStepSystem', WHERE WHAT IT READS IS OF BULK AT MOST 1048576: true; the input reads as it did. -/
def fnExactStepSystemUptoRow : OpenClaim := { program := "ytcojgmecocjnkabgreat", sum := "52fd6b0cc4a62cfd9d49b46d3777f47d7e8d3344615611a13745debb72685cb2", func := "loop.example/g00530/laws.FnExactStepSystem", spec := "fnExactStepSystem", unfollowed := true, recurses := true, plainKeys := false, apart := false, narrowed := true }
def FnExactStepSystemUptoSaid : Prop := fnExactStepSystemUptoRow.holds Tryz.pinned (OpenSpec.upto fnExactStepSystemSpec)

/-- 'laws.FnExactFillFor', WHERE WHAT IT READS IS OF BULK AT MOST 1048576: true; the input reads as it did. -/
def fnExactFillForUptoRow : OpenClaim := { program := "ytcojgmecocjnkabgreat", sum := "52fd6b0cc4a62cfd9d49b46d3777f47d7e8d3344615611a13745debb72685cb2", func := "loop.example/g00530/laws.FnExactFillFor", spec := "fnExactFillFor", plainKeys := false, apart := false, narrowed := true }
def FnExactFillForUptoSaid : Prop := fnExactFillForUptoRow.holds Tryz.pinned (OpenSpec.upto fnExactFillForSpec)

/-- 'laws.FnExactNewSystem', WHERE WHAT IT READS IS OF BULK AT MOST 1048576: true; the input reads as it did. -/
def fnExactNewSystemUptoRow : OpenClaim := { program := "ytcojgmecocjnkabgreat", sum := "52fd6b0cc4a62cfd9d49b46d3777f47d7e8d3344615611a13745debb72685cb2", func := "loop.example/g00530/laws.FnExactNewSystem", spec := "fnExactNewSystem", plainKeys := false, apart := false, narrowed := true }
def FnExactNewSystemUptoSaid : Prop := fnExactNewSystemUptoRow.holds Tryz.pinned (OpenSpec.upto fnExactNewSystemSpec)

end Rows
end Go.Proofs.YtcojgmecocjnkabGreat
