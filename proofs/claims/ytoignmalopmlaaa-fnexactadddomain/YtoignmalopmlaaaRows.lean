/-
  No cell of these rows narrows 'for every input' (looked for: loops, veiled, ifaces, maps, wideKeys, modest, calm, conditions, laid).
  DERIVED. THE GIVEN ROWS OF THIS SEAT. 5 by the template 'for every input the law returns true; each argument reads behind the call as it read before'; 0 by the template 'total and deterministic' (their statements: YtoignmalopmlaaaTotals.lean).
  GIVEN WITH THE SEED: the statements are not yours to turn. If you find one false, say at which input.
  Laid BY PROGRAM, IN A SANDBOX (cutbox-rows.mjs): the forced cells as the released guide's own fill.sh prints them over the translation f4266589ac359c32… (all of the seat's roots in one cut). By AI agents, Wed Nov 11 2026. No macro, syntax, notation, axiom, sorry.
-/
import Derived.Test.YtoignmalopmlaaaChecked
import GoSem.Claim
import GoSem.ClaimJoined
import GoSem.ClaimMapViews
import Derived.JoinedTies
import Derived.KernelRfl
namespace Go.Proofs.Ytoignmalopmlaaa
/- THE CELL 'sum', in the pinned program and in every row, IS THE sha256 OF THE DUMP (.gsa) THAT YtoignmalopmlaaaProg.lean LOADS. Nothing in Lean hashes anything: it is a label: what it is worth is what the hold of that sum in a sandbox is worth. -/
noncomputable def Try.pinned : Pinned := { name := "ytoignmalopmlaaa", sum := "f4266589ac359c32a7375f3716b4619409eec797e70a6795ba5937be45966446", checked := Try.checked }
namespace Rows
def none {H : Type} : Left H := { results := [], args := [] }

/-- 'laws.FnExactAddTag': WHATEVER THE INPUT: true; the input reads as it did. -/
def fnExactAddTagSpec : ChangeSpec := { name := "fnExactAddTag", fn := fun _ => fun
  | [d1, d2] => { results := [.lit (.bool true)], args := [d1, d2] }
  | _ => none }
def fnExactAddTagRow : OpenClaim := { program := "ytoignmalopmlaaa", sum := "f4266589ac359c32a7375f3716b4619409eec797e70a6795ba5937be45966446", func := "loop.example/g00530/laws.FnExactAddTag", spec := "fnExactAddTag", plainKeys := false, apart := false }
def FnExactAddTagSaid : Prop := fnExactAddTagRow.holds Try.pinned (OpenSpec.ofChange fnExactAddTagSpec)

/-- ITS FALSE NEIGHBOUR: 'it returns false'. Refute it at one input. -/
def fnExactAddTagWrong : ChangeSpec := { name := "fnExactAddTag", fn := fun _ => fun
  | [d1, d2] => { results := [.lit (.bool false)], args := [d1, d2] }
  | _ => none }
def FnExactAddTagWrongFalsely : Prop := fnExactAddTagRow.holds Try.pinned (OpenSpec.ofChange fnExactAddTagWrong)

/-- 'laws.FnExactDropTag': WHATEVER THE INPUT: true; the input reads as it did. -/
def fnExactDropTagSpec : ChangeSpec := { name := "fnExactDropTag", fn := fun _ => fun
  | [d] => { results := [.lit (.bool true)], args := [d] }
  | _ => none }
def fnExactDropTagRow : OpenClaim := { program := "ytoignmalopmlaaa", sum := "f4266589ac359c32a7375f3716b4619409eec797e70a6795ba5937be45966446", func := "loop.example/g00530/laws.FnExactDropTag", spec := "fnExactDropTag", plainKeys := false, apart := false }
def FnExactDropTagSaid : Prop := fnExactDropTagRow.holds Try.pinned (OpenSpec.ofChange fnExactDropTagSpec)

/-- ITS FALSE NEIGHBOUR: 'it returns false'. Refute it at one input. -/
def fnExactDropTagWrong : ChangeSpec := { name := "fnExactDropTag", fn := fun _ => fun
  | [d] => { results := [.lit (.bool false)], args := [d] }
  | _ => none }
def FnExactDropTagWrongFalsely : Prop := fnExactDropTagRow.holds Try.pinned (OpenSpec.ofChange fnExactDropTagWrong)

/-- 'laws.FnExactAddDomain': WHATEVER THE INPUT: true; the input reads as it did. -/
def fnExactAddDomainSpec : ChangeSpec := { name := "fnExactAddDomain", fn := fun _ => fun
  | [d1, d2] => { results := [.lit (.bool true)], args := [d1, d2] }
  | _ => none }
def fnExactAddDomainRow : OpenClaim := { program := "ytoignmalopmlaaa", sum := "f4266589ac359c32a7375f3716b4619409eec797e70a6795ba5937be45966446", func := "loop.example/g00530/laws.FnExactAddDomain", spec := "fnExactAddDomain", plainKeys := false, apart := false }
def FnExactAddDomainSaid : Prop := fnExactAddDomainRow.holds Try.pinned (OpenSpec.ofChange fnExactAddDomainSpec)

/-- ITS FALSE NEIGHBOUR: 'it returns false'. Refute it at one input. -/
def fnExactAddDomainWrong : ChangeSpec := { name := "fnExactAddDomain", fn := fun _ => fun
  | [d1, d2] => { results := [.lit (.bool false)], args := [d1, d2] }
  | _ => none }
def FnExactAddDomainWrongFalsely : Prop := fnExactAddDomainRow.holds Try.pinned (OpenSpec.ofChange fnExactAddDomainWrong)

/-- 'laws.FnExactTaintDomain': WHATEVER THE INPUT: true; the input reads as it did. -/
def fnExactTaintDomainSpec : ChangeSpec := { name := "fnExactTaintDomain", fn := fun _ => fun
  | [d1, d2, d3] => { results := [.lit (.bool true)], args := [d1, d2, d3] }
  | _ => none }
def fnExactTaintDomainRow : OpenClaim := { program := "ytoignmalopmlaaa", sum := "f4266589ac359c32a7375f3716b4619409eec797e70a6795ba5937be45966446", func := "loop.example/g00530/laws.FnExactTaintDomain", spec := "fnExactTaintDomain", plainKeys := false, apart := false }
def FnExactTaintDomainSaid : Prop := fnExactTaintDomainRow.holds Try.pinned (OpenSpec.ofChange fnExactTaintDomainSpec)

/-- ITS FALSE NEIGHBOUR: 'it returns false'. Refute it at one input. -/
def fnExactTaintDomainWrong : ChangeSpec := { name := "fnExactTaintDomain", fn := fun _ => fun
  | [d1, d2, d3] => { results := [.lit (.bool false)], args := [d1, d2, d3] }
  | _ => none }
def FnExactTaintDomainWrongFalsely : Prop := fnExactTaintDomainRow.holds Try.pinned (OpenSpec.ofChange fnExactTaintDomainWrong)

/-- 'laws.FnExactCacheTrue': WHATEVER THE INPUT: true; the input reads as it did. -/
def fnExactCacheTrueSpec : ChangeSpec := { name := "fnExactCacheTrue", fn := fun _ => fun
  | [d1, d2] => { results := [.lit (.bool true)], args := [d1, d2] }
  | _ => none }
def fnExactCacheTrueRow : OpenClaim := { program := "ytoignmalopmlaaa", sum := "f4266589ac359c32a7375f3716b4619409eec797e70a6795ba5937be45966446", func := "loop.example/g00530/laws.FnExactCacheTrue", spec := "fnExactCacheTrue", plainKeys := false, apart := false }
def FnExactCacheTrueSaid : Prop := fnExactCacheTrueRow.holds Try.pinned (OpenSpec.ofChange fnExactCacheTrueSpec)

/-- ITS FALSE NEIGHBOUR: 'it returns false'. Refute it at one input. -/
def fnExactCacheTrueWrong : ChangeSpec := { name := "fnExactCacheTrue", fn := fun _ => fun
  | [d1, d2] => { results := [.lit (.bool false)], args := [d1, d2] }
  | _ => none }
def FnExactCacheTrueWrongFalsely : Prop := fnExactCacheTrueRow.holds Try.pinned (OpenSpec.ofChange fnExactCacheTrueWrong)

/- THE SECOND FORM. 'bulk': how many values and letters a reading holds, each counted each time it is reached (what is shared counts as often as it is met; a slice's spare places count too). A statement '..UptoSaid' is the law's where the arguments, and the package variables that the reading takes, are together of bulk at most 1048576: NARROWER than '..Said'. Prove '..Said' where nothing that the law and all that it calls make is longer than what came in: it says more and counts as full. Else prove '..UptoSaid'. A law counts once. -/
mutual
def uptoBulk {H : Type} : DataW H → Nat
  | .lit (.string bytes) => bytes.length + 1
  | .lit _ => 1
  | .nil => 1
  | .ptr d => uptoBulk d + 1
  | .slice elems spare => uptoBulkAll elems + uptoBulkAll spare + 1
  | .agg parts => uptoBulkAll parts + 1
  | .iface _ d => uptoBulk d + 1
  | .map entries => uptoBulkEntries entries + 1
  | .held _ => 1
def uptoBulkAll {H : Type} : List (DataW H) → Nat
  | [] => 0
  | d :: r => uptoBulk d + uptoBulkAll r
def uptoBulkEntries {H : Type} : List (Lit × DataW H) → Nat
  | [] => 0
  | x :: r => uptoBulkEntry x + uptoBulkEntries r
def uptoBulkEntry {H : Type} : Lit × DataW H → Nat
  | (.string bytes, d) => bytes.length + uptoBulk d + 1
  | (_, d) => uptoBulk d + 1
 end
def uptoSmall : (H : Type) → List (DataW H) → Bool := fun _ ds => decide (uptoBulkAll ds ≤ 1048576)
def OpenSpec.upto (s : _root_.Go.ChangeSpec) : _root_.Go.OpenSpec := { _root_.Go.OpenSpec.ofChange s with cond := some uptoSmall }

/-- 'laws.FnExactAddTag', WHERE WHAT IT READS IS OF BULK AT MOST 1048576: true; the input reads as it did. -/
def fnExactAddTagUptoRow : OpenClaim := { program := "ytoignmalopmlaaa", sum := "f4266589ac359c32a7375f3716b4619409eec797e70a6795ba5937be45966446", func := "loop.example/g00530/laws.FnExactAddTag", spec := "fnExactAddTag", plainKeys := false, apart := false, narrowed := true }
def FnExactAddTagUptoSaid : Prop := fnExactAddTagUptoRow.holds Try.pinned (OpenSpec.upto fnExactAddTagSpec)

/-- 'laws.FnExactDropTag', WHERE WHAT IT READS IS OF BULK AT MOST 1048576: true; the input reads as it did. -/
def fnExactDropTagUptoRow : OpenClaim := { program := "ytoignmalopmlaaa", sum := "f4266589ac359c32a7375f3716b4619409eec797e70a6795ba5937be45966446", func := "loop.example/g00530/laws.FnExactDropTag", spec := "fnExactDropTag", plainKeys := false, apart := false, narrowed := true }
def FnExactDropTagUptoSaid : Prop := fnExactDropTagUptoRow.holds Try.pinned (OpenSpec.upto fnExactDropTagSpec)

/-- 'laws.FnExactAddDomain', WHERE WHAT IT READS IS OF BULK AT MOST 1048576: true; the input reads as it did. -/
def fnExactAddDomainUptoRow : OpenClaim := { program := "ytoignmalopmlaaa", sum := "f4266589ac359c32a7375f3716b4619409eec797e70a6795ba5937be45966446", func := "loop.example/g00530/laws.FnExactAddDomain", spec := "fnExactAddDomain", plainKeys := false, apart := false, narrowed := true }
def FnExactAddDomainUptoSaid : Prop := fnExactAddDomainUptoRow.holds Try.pinned (OpenSpec.upto fnExactAddDomainSpec)

/-- 'laws.FnExactTaintDomain', WHERE WHAT IT READS IS OF BULK AT MOST 1048576: true; the input reads as it did. -/
def fnExactTaintDomainUptoRow : OpenClaim := { program := "ytoignmalopmlaaa", sum := "f4266589ac359c32a7375f3716b4619409eec797e70a6795ba5937be45966446", func := "loop.example/g00530/laws.FnExactTaintDomain", spec := "fnExactTaintDomain", plainKeys := false, apart := false, narrowed := true }
def FnExactTaintDomainUptoSaid : Prop := fnExactTaintDomainUptoRow.holds Try.pinned (OpenSpec.upto fnExactTaintDomainSpec)

/-- 'laws.FnExactCacheTrue', WHERE WHAT IT READS IS OF BULK AT MOST 1048576: true; the input reads as it did. -/
def fnExactCacheTrueUptoRow : OpenClaim := { program := "ytoignmalopmlaaa", sum := "f4266589ac359c32a7375f3716b4619409eec797e70a6795ba5937be45966446", func := "loop.example/g00530/laws.FnExactCacheTrue", spec := "fnExactCacheTrue", plainKeys := false, apart := false, narrowed := true }
def FnExactCacheTrueUptoSaid : Prop := fnExactCacheTrueUptoRow.holds Try.pinned (OpenSpec.upto fnExactCacheTrueSpec)

end Rows
end Go.Proofs.Ytoignmalopmlaaa
