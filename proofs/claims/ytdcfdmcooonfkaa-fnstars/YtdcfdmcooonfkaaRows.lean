/-
  No cell of these rows narrows 'for every input' (looked for: loops, veiled, ifaces, maps, wideKeys, modest, calm, conditions, laid).
  DERIVED. THE GIVEN ROWS OF THIS SEAT. 6 by the template 'for every input the law returns true; each argument reads behind the call as it read before'; 0 by the template 'total and deterministic' (their statements: YtdcfdmcooonfkaaTotals.lean).
  GIVEN WITH THE SEED: the statements are not yours to turn. If you find one false, say at which input.
  Laid BY PROGRAM, IN A SANDBOX (cutbox-rows.mjs): the forced cells as the released guide's own fill.sh prints them over the translation 0240631bec43c4be… (all of the seat's roots in one cut). By AI agents, Wed Nov 11 2026. No macro, syntax, notation, axiom, sorry.
-/
import Derived.Test.YtdcfdmcooonfkaaChecked
import GoSem.Claim
import GoSem.ClaimJoined
import GoSem.ClaimMapViews
import Derived.JoinedTies
import Derived.KernelRfl
namespace Go.Proofs.Ytdcfdmcooonfkaa
/- THE CELL 'sum', in the pinned program and in every row, IS THE sha256 OF THE DUMP (.gsa) THAT YtdcfdmcooonfkaaProg.lean LOADS. Nothing in Lean hashes anything: it is a label: what it is worth is what the hold of that sum in a sandbox is worth. -/
noncomputable def Try.pinned : Pinned := { name := "ytdcfdmcooonfkaa", sum := "0240631bec43c4beac3f897ca42d1af5a67dd199d5bac4ca98da327ae5124eac", checked := Try.checked }
namespace Rows
def none {H : Type} : Left H := { results := [], args := [] }

/-- 'laws.FnPasses': WHATEVER THE INPUT: true; the input reads as it did. -/
def fnPassesSpec : ChangeSpec := { name := "fnPasses", fn := fun _ => fun
  | [d] => { results := [.lit (.bool true)], args := [d] }
  | _ => none }
def fnPassesRow : OpenClaim := { program := "ytdcfdmcooonfkaa", sum := "0240631bec43c4beac3f897ca42d1af5a67dd199d5bac4ca98da327ae5124eac", func := "loop.example/g00530/laws.FnPasses", spec := "fnPasses", unfollowed := true, recurses := true, apart := false }
def FnPassesSaid : Prop := fnPassesRow.holds Try.pinned (OpenSpec.ofChange fnPassesSpec)

/-- ITS FALSE NEIGHBOUR: 'it returns false'. Refute it at one input. -/
def fnPassesWrong : ChangeSpec := { name := "fnPasses", fn := fun _ => fun
  | [d] => { results := [.lit (.bool false)], args := [d] }
  | _ => none }
def FnPassesWrongFalsely : Prop := fnPassesRow.holds Try.pinned (OpenSpec.ofChange fnPassesWrong)

/-- 'laws.FnStars': WHATEVER THE INPUT: true; the input reads as it did. -/
def fnStarsSpec : ChangeSpec := { name := "fnStars", fn := fun _ => fun
  | [d] => { results := [.lit (.bool true)], args := [d] }
  | _ => none }
def fnStarsRow : OpenClaim := { program := "ytdcfdmcooonfkaa", sum := "0240631bec43c4beac3f897ca42d1af5a67dd199d5bac4ca98da327ae5124eac", func := "loop.example/g00530/laws.FnStars", spec := "fnStars", apart := false }
def FnStarsSaid : Prop := fnStarsRow.holds Try.pinned (OpenSpec.ofChange fnStarsSpec)

/-- ITS FALSE NEIGHBOUR: 'it returns false'. Refute it at one input. -/
def fnStarsWrong : ChangeSpec := { name := "fnStars", fn := fun _ => fun
  | [d] => { results := [.lit (.bool false)], args := [d] }
  | _ => none }
def FnStarsWrongFalsely : Prop := fnStarsRow.holds Try.pinned (OpenSpec.ofChange fnStarsWrong)

/-- 'laws.FnExactPassFault': WHATEVER THE INPUT: true; the input reads as it did. -/
def fnExactPassFaultSpec : ChangeSpec := { name := "fnExactPassFault", fn := fun _ => fun
  | [d] => { results := [.lit (.bool true)], args := [d] }
  | _ => none }
def fnExactPassFaultRow : OpenClaim := { program := "ytdcfdmcooonfkaa", sum := "0240631bec43c4beac3f897ca42d1af5a67dd199d5bac4ca98da327ae5124eac", func := "loop.example/g00530/laws.FnExactPassFault", spec := "fnExactPassFault", apart := false }
def FnExactPassFaultSaid : Prop := fnExactPassFaultRow.holds Try.pinned (OpenSpec.ofChange fnExactPassFaultSpec)

/-- ITS FALSE NEIGHBOUR: 'it returns false'. Refute it at one input. -/
def fnExactPassFaultWrong : ChangeSpec := { name := "fnExactPassFault", fn := fun _ => fun
  | [d] => { results := [.lit (.bool false)], args := [d] }
  | _ => none }
def FnExactPassFaultWrongFalsely : Prop := fnExactPassFaultRow.holds Try.pinned (OpenSpec.ofChange fnExactPassFaultWrong)

/-- 'laws.FnExactMayEnter': WHATEVER THE INPUT: true; the input reads as it did. -/
def fnExactMayEnterSpec : ChangeSpec := { name := "fnExactMayEnter", fn := fun _ => fun
  | [d1, d2] => { results := [.lit (.bool true)], args := [d1, d2] }
  | _ => none }
def fnExactMayEnterRow : OpenClaim := { program := "ytdcfdmcooonfkaa", sum := "0240631bec43c4beac3f897ca42d1af5a67dd199d5bac4ca98da327ae5124eac", func := "loop.example/g00530/laws.FnExactMayEnter", spec := "fnExactMayEnter", apart := false }
def FnExactMayEnterSaid : Prop := fnExactMayEnterRow.holds Try.pinned (OpenSpec.ofChange fnExactMayEnterSpec)

/-- ITS FALSE NEIGHBOUR: 'it returns false'. Refute it at one input. -/
def fnExactMayEnterWrong : ChangeSpec := { name := "fnExactMayEnter", fn := fun _ => fun
  | [d1, d2] => { results := [.lit (.bool false)], args := [d1, d2] }
  | _ => none }
def FnExactMayEnterWrongFalsely : Prop := fnExactMayEnterRow.holds Try.pinned (OpenSpec.ofChange fnExactMayEnterWrong)

/-- 'laws.FnExactEnterPass': WHATEVER THE INPUT: true; the input reads as it did. -/
def fnExactEnterPassSpec : ChangeSpec := { name := "fnExactEnterPass", fn := fun _ => fun
  | [d1, d2] => { results := [.lit (.bool true)], args := [d1, d2] }
  | _ => none }
def fnExactEnterPassRow : OpenClaim := { program := "ytdcfdmcooonfkaa", sum := "0240631bec43c4beac3f897ca42d1af5a67dd199d5bac4ca98da327ae5124eac", func := "loop.example/g00530/laws.FnExactEnterPass", spec := "fnExactEnterPass", unfollowed := true, recurses := true, apart := false }
def FnExactEnterPassSaid : Prop := fnExactEnterPassRow.holds Try.pinned (OpenSpec.ofChange fnExactEnterPassSpec)

/-- ITS FALSE NEIGHBOUR: 'it returns false'. Refute it at one input. -/
def fnExactEnterPassWrong : ChangeSpec := { name := "fnExactEnterPass", fn := fun _ => fun
  | [d1, d2] => { results := [.lit (.bool false)], args := [d1, d2] }
  | _ => none }
def FnExactEnterPassWrongFalsely : Prop := fnExactEnterPassRow.holds Try.pinned (OpenSpec.ofChange fnExactEnterPassWrong)

/-- 'laws.FnExactTaintLabel': WHATEVER THE INPUT: true; the input reads as it did. -/
def fnExactTaintLabelSpec : ChangeSpec := { name := "fnExactTaintLabel", fn := fun _ => fun
  | [d1, d2] => { results := [.lit (.bool true)], args := [d1, d2] }
  | _ => none }
def fnExactTaintLabelRow : OpenClaim := { program := "ytdcfdmcooonfkaa", sum := "0240631bec43c4beac3f897ca42d1af5a67dd199d5bac4ca98da327ae5124eac", func := "loop.example/g00530/laws.FnExactTaintLabel", spec := "fnExactTaintLabel", unfollowed := true, recurses := true, apart := false }
def FnExactTaintLabelSaid : Prop := fnExactTaintLabelRow.holds Try.pinned (OpenSpec.ofChange fnExactTaintLabelSpec)

/-- ITS FALSE NEIGHBOUR: 'it returns false'. Refute it at one input. -/
def fnExactTaintLabelWrong : ChangeSpec := { name := "fnExactTaintLabel", fn := fun _ => fun
  | [d1, d2] => { results := [.lit (.bool false)], args := [d1, d2] }
  | _ => none }
def FnExactTaintLabelWrongFalsely : Prop := fnExactTaintLabelRow.holds Try.pinned (OpenSpec.ofChange fnExactTaintLabelWrong)

/- THE SECOND FORM. 'bulk': how many values and letters a reading holds, each counted each time it is reached (what is shared counts as often as it is met; a slice's spare places count too). A statement '..UptoSaid' is the law's where the arguments, and the package variables that the reading takes, are together of bulk at most 1048576: NARROWER than '..Said'. Prove '..Said' where nothing that the law and all that it calls make is longer than what came in: it says more and counts as full. Else prove '..UptoSaid'. A law counts once. -/
mutual
def uptoBulk {H : Type} : DataW H → Nat
  | .lit (.string bytes) => bytes.length + 1
  | .lit _ => 1
  | .nil => 1
  | .ptr d => uptoBulk d + 1
  | .slice elems spare => uptoBulkAll elems + uptoBulkAll spare + 1
  | .agg parts => uptoBulkAll parts + 1
  | .iface _ d => uptoBulk d + 1
  | .map entries => uptoBulkEntries entries + 1
  | .held _ => 1
def uptoBulkAll {H : Type} : List (DataW H) → Nat
  | [] => 0
  | d :: r => uptoBulk d + uptoBulkAll r
def uptoBulkEntries {H : Type} : List (Lit × DataW H) → Nat
  | [] => 0
  | x :: r => uptoBulkEntry x + uptoBulkEntries r
def uptoBulkEntry {H : Type} : Lit × DataW H → Nat
  | (.string bytes, d) => bytes.length + uptoBulk d + 1
  | (_, d) => uptoBulk d + 1
 end
def uptoSmall : (H : Type) → List (DataW H) → Bool := fun _ ds => decide (uptoBulkAll ds ≤ 1048576)
def OpenSpec.upto (s : _root_.Go.ChangeSpec) : _root_.Go.OpenSpec := { _root_.Go.OpenSpec.ofChange s with cond := some uptoSmall }

/-- 'laws.FnPasses', WHERE WHAT IT READS IS OF BULK AT MOST 1048576: true; the input reads as it did. -/
def fnPassesUptoRow : OpenClaim := { program := "ytdcfdmcooonfkaa", sum := "0240631bec43c4beac3f897ca42d1af5a67dd199d5bac4ca98da327ae5124eac", func := "loop.example/g00530/laws.FnPasses", spec := "fnPasses", unfollowed := true, recurses := true, apart := false, narrowed := true }
def FnPassesUptoSaid : Prop := fnPassesUptoRow.holds Try.pinned (OpenSpec.upto fnPassesSpec)

/-- 'laws.FnStars', WHERE WHAT IT READS IS OF BULK AT MOST 1048576: true; the input reads as it did. -/
def fnStarsUptoRow : OpenClaim := { program := "ytdcfdmcooonfkaa", sum := "0240631bec43c4beac3f897ca42d1af5a67dd199d5bac4ca98da327ae5124eac", func := "loop.example/g00530/laws.FnStars", spec := "fnStars", apart := false, narrowed := true }
def FnStarsUptoSaid : Prop := fnStarsUptoRow.holds Try.pinned (OpenSpec.upto fnStarsSpec)

/-- 'laws.FnExactPassFault', WHERE WHAT IT READS IS OF BULK AT MOST 1048576: true; the input reads as it did. -/
def fnExactPassFaultUptoRow : OpenClaim := { program := "ytdcfdmcooonfkaa", sum := "0240631bec43c4beac3f897ca42d1af5a67dd199d5bac4ca98da327ae5124eac", func := "loop.example/g00530/laws.FnExactPassFault", spec := "fnExactPassFault", apart := false, narrowed := true }
def FnExactPassFaultUptoSaid : Prop := fnExactPassFaultUptoRow.holds Try.pinned (OpenSpec.upto fnExactPassFaultSpec)

/-- 'laws.FnExactMayEnter', WHERE WHAT IT READS IS OF BULK AT MOST 1048576: true; the input reads as it did. -/
def fnExactMayEnterUptoRow : OpenClaim := { program := "ytdcfdmcooonfkaa", sum := "0240631bec43c4beac3f897ca42d1af5a67dd199d5bac4ca98da327ae5124eac", func := "loop.example/g00530/laws.FnExactMayEnter", spec := "fnExactMayEnter", apart := false, narrowed := true }
def FnExactMayEnterUptoSaid : Prop := fnExactMayEnterUptoRow.holds Try.pinned (OpenSpec.upto fnExactMayEnterSpec)

/-- 'laws.FnExactEnterPass', WHERE WHAT IT READS IS OF BULK AT MOST 1048576: true; the input reads as it did. -/
def fnExactEnterPassUptoRow : OpenClaim := { program := "ytdcfdmcooonfkaa", sum := "0240631bec43c4beac3f897ca42d1af5a67dd199d5bac4ca98da327ae5124eac", func := "loop.example/g00530/laws.FnExactEnterPass", spec := "fnExactEnterPass", unfollowed := true, recurses := true, apart := false, narrowed := true }
def FnExactEnterPassUptoSaid : Prop := fnExactEnterPassUptoRow.holds Try.pinned (OpenSpec.upto fnExactEnterPassSpec)

/-- 'laws.FnExactTaintLabel', WHERE WHAT IT READS IS OF BULK AT MOST 1048576: true; the input reads as it did. -/
def fnExactTaintLabelUptoRow : OpenClaim := { program := "ytdcfdmcooonfkaa", sum := "0240631bec43c4beac3f897ca42d1af5a67dd199d5bac4ca98da327ae5124eac", func := "loop.example/g00530/laws.FnExactTaintLabel", spec := "fnExactTaintLabel", unfollowed := true, recurses := true, apart := false, narrowed := true }
def FnExactTaintLabelUptoSaid : Prop := fnExactTaintLabelUptoRow.holds Try.pinned (OpenSpec.upto fnExactTaintLabelSpec)

end Rows
end Go.Proofs.Ytdcfdmcooonfkaa
