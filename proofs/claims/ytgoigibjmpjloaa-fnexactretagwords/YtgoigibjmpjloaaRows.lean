/-
  No cell of these rows narrows 'for every input' (looked for: loops, veiled, ifaces, maps, wideKeys, modest, calm, conditions, laid).
  DERIVED. THE GIVEN ROWS OF THIS SEAT. 6 by the template 'for every input the law returns true; each argument reads behind the call as it read before'; 0 by the template 'total and deterministic' (their statements: YtgoigibjmpjloaaTotals.lean).
  GIVEN WITH THE SEED: the statements are not yours to turn. If you find one false, say at which input.
  Laid BY PROGRAM, IN A SANDBOX (cutbox-rows.mjs): the forced cells as the released guide's own fill.sh prints them over the translation ca1885182f2a28c1… (all of the seat's roots in one cut). By AI agents, Wed Nov 11 2026. No macro, syntax, notation, axiom, sorry.
-/
import Derived.Test.YtgoigibjmpjloaaChecked
import GoSem.Claim
import GoSem.ClaimJoined
import GoSem.ClaimMapViews
import Derived.JoinedTies
import Derived.KernelRfl
namespace Go.Proofs.Ytgoigibjmpjloaa
/- THE CELL 'sum', in the pinned program and in every row, IS THE sha256 OF THE DUMP (.gsa) THAT YtgoigibjmpjloaaProg.lean LOADS. Nothing in Lean hashes anything: it is a label: what it is worth is what the hold of that sum in a sandbox is worth. -/
noncomputable def Try.pinned : Pinned := { name := "ytgoigibjmpjloaa", sum := "ca1885182f2a28c16db42ee51b5c76026a5d5de6141243364329825b0c97832c", checked := Try.checked }
namespace Rows
def none {H : Type} : Left H := { results := [], args := [] }

/-- 'laws.FnExactMemoryFault': WHATEVER THE INPUT: true; the input reads as it did. -/
def fnExactMemoryFaultSpec : ChangeSpec := { name := "fnExactMemoryFault", fn := fun _ => fun
  | [d1, d2] => { results := [.lit (.bool true)], args := [d1, d2] }
  | _ => none }
def fnExactMemoryFaultRow : OpenClaim := { program := "ytgoigibjmpjloaa", sum := "ca1885182f2a28c16db42ee51b5c76026a5d5de6141243364329825b0c97832c", func := "loop.example/g00530/laws.FnExactMemoryFault", spec := "fnExactMemoryFault", apart := false }
def FnExactMemoryFaultSaid : Prop := fnExactMemoryFaultRow.holds Try.pinned (OpenSpec.ofChange fnExactMemoryFaultSpec)

/-- ITS FALSE NEIGHBOUR: 'it returns false'. Refute it at one input. -/
def fnExactMemoryFaultWrong : ChangeSpec := { name := "fnExactMemoryFault", fn := fun _ => fun
  | [d1, d2] => { results := [.lit (.bool false)], args := [d1, d2] }
  | _ => none }
def FnExactMemoryFaultWrongFalsely : Prop := fnExactMemoryFaultRow.holds Try.pinned (OpenSpec.ofChange fnExactMemoryFaultWrong)

/-- 'laws.FnExactLoadWord': WHATEVER THE INPUT: true; the input reads as it did. -/
def fnExactLoadWordSpec : ChangeSpec := { name := "fnExactLoadWord", fn := fun _ => fun
  | [d1, d2] => { results := [.lit (.bool true)], args := [d1, d2] }
  | _ => none }
def fnExactLoadWordRow : OpenClaim := { program := "ytgoigibjmpjloaa", sum := "ca1885182f2a28c16db42ee51b5c76026a5d5de6141243364329825b0c97832c", func := "loop.example/g00530/laws.FnExactLoadWord", spec := "fnExactLoadWord", apart := false }
def FnExactLoadWordSaid : Prop := fnExactLoadWordRow.holds Try.pinned (OpenSpec.ofChange fnExactLoadWordSpec)

/-- ITS FALSE NEIGHBOUR: 'it returns false'. Refute it at one input. -/
def fnExactLoadWordWrong : ChangeSpec := { name := "fnExactLoadWord", fn := fun _ => fun
  | [d1, d2] => { results := [.lit (.bool false)], args := [d1, d2] }
  | _ => none }
def FnExactLoadWordWrongFalsely : Prop := fnExactLoadWordRow.holds Try.pinned (OpenSpec.ofChange fnExactLoadWordWrong)

/-- 'laws.FnExactStoreWord': WHATEVER THE INPUT: true; the input reads as it did. -/
def fnExactStoreWordSpec : ChangeSpec := { name := "fnExactStoreWord", fn := fun _ => fun
  | [d1, d2, d3] => { results := [.lit (.bool true)], args := [d1, d2, d3] }
  | _ => none }
def fnExactStoreWordRow : OpenClaim := { program := "ytgoigibjmpjloaa", sum := "ca1885182f2a28c16db42ee51b5c76026a5d5de6141243364329825b0c97832c", func := "loop.example/g00530/laws.FnExactStoreWord", spec := "fnExactStoreWord", apart := false }
def FnExactStoreWordSaid : Prop := fnExactStoreWordRow.holds Try.pinned (OpenSpec.ofChange fnExactStoreWordSpec)

/-- ITS FALSE NEIGHBOUR: 'it returns false'. Refute it at one input. -/
def fnExactStoreWordWrong : ChangeSpec := { name := "fnExactStoreWord", fn := fun _ => fun
  | [d1, d2, d3] => { results := [.lit (.bool false)], args := [d1, d2, d3] }
  | _ => none }
def FnExactStoreWordWrongFalsely : Prop := fnExactStoreWordRow.holds Try.pinned (OpenSpec.ofChange fnExactStoreWordWrong)

/-- 'laws.FnExactRetagWords': WHATEVER THE INPUT: true; the input reads as it did. -/
def fnExactRetagWordsSpec : ChangeSpec := { name := "fnExactRetagWords", fn := fun _ => fun
  | [d1, d2, d3, d4] => { results := [.lit (.bool true)], args := [d1, d2, d3, d4] }
  | _ => none }
def fnExactRetagWordsRow : OpenClaim := { program := "ytgoigibjmpjloaa", sum := "ca1885182f2a28c16db42ee51b5c76026a5d5de6141243364329825b0c97832c", func := "loop.example/g00530/laws.FnExactRetagWords", spec := "fnExactRetagWords", apart := false }
def FnExactRetagWordsSaid : Prop := fnExactRetagWordsRow.holds Try.pinned (OpenSpec.ofChange fnExactRetagWordsSpec)

/-- ITS FALSE NEIGHBOUR: 'it returns false'. Refute it at one input. -/
def fnExactRetagWordsWrong : ChangeSpec := { name := "fnExactRetagWords", fn := fun _ => fun
  | [d1, d2, d3, d4] => { results := [.lit (.bool false)], args := [d1, d2, d3, d4] }
  | _ => none }
def FnExactRetagWordsWrongFalsely : Prop := fnExactRetagWordsRow.holds Try.pinned (OpenSpec.ofChange fnExactRetagWordsWrong)

/-- 'laws.FnExactCountTag': WHATEVER THE INPUT: true; the input reads as it did. -/
def fnExactCountTagSpec : ChangeSpec := { name := "fnExactCountTag", fn := fun _ => fun
  | [d1, d2] => { results := [.lit (.bool true)], args := [d1, d2] }
  | _ => none }
def fnExactCountTagRow : OpenClaim := { program := "ytgoigibjmpjloaa", sum := "ca1885182f2a28c16db42ee51b5c76026a5d5de6141243364329825b0c97832c", func := "loop.example/g00530/laws.FnExactCountTag", spec := "fnExactCountTag", apart := false }
def FnExactCountTagSaid : Prop := fnExactCountTagRow.holds Try.pinned (OpenSpec.ofChange fnExactCountTagSpec)

/-- ITS FALSE NEIGHBOUR: 'it returns false'. Refute it at one input. -/
def fnExactCountTagWrong : ChangeSpec := { name := "fnExactCountTag", fn := fun _ => fun
  | [d1, d2] => { results := [.lit (.bool false)], args := [d1, d2] }
  | _ => none }
def FnExactCountTagWrongFalsely : Prop := fnExactCountTagRow.holds Try.pinned (OpenSpec.ofChange fnExactCountTagWrong)

/-- 'laws.FnExactSameMemories': WHATEVER THE INPUT: true; the input reads as it did. -/
def fnExactSameMemoriesSpec : ChangeSpec := { name := "fnExactSameMemories", fn := fun _ => fun
  | [d1, d2] => { results := [.lit (.bool true)], args := [d1, d2] }
  | _ => none }
def fnExactSameMemoriesRow : OpenClaim := { program := "ytgoigibjmpjloaa", sum := "ca1885182f2a28c16db42ee51b5c76026a5d5de6141243364329825b0c97832c", func := "loop.example/g00530/laws.FnExactSameMemories", spec := "fnExactSameMemories", apart := false }
def FnExactSameMemoriesSaid : Prop := fnExactSameMemoriesRow.holds Try.pinned (OpenSpec.ofChange fnExactSameMemoriesSpec)

/-- ITS FALSE NEIGHBOUR: 'it returns false'. Refute it at one input. -/
def fnExactSameMemoriesWrong : ChangeSpec := { name := "fnExactSameMemories", fn := fun _ => fun
  | [d1, d2] => { results := [.lit (.bool false)], args := [d1, d2] }
  | _ => none }
def FnExactSameMemoriesWrongFalsely : Prop := fnExactSameMemoriesRow.holds Try.pinned (OpenSpec.ofChange fnExactSameMemoriesWrong)

/- THE SECOND FORM. 'bulk': how many values and letters a reading holds, each counted each time it is reached (what is shared counts as often as it is met; a slice's spare places count too). A statement '..UptoSaid' is the law's where the arguments, and the package variables that the reading takes, are together of bulk at most 1048576: NARROWER than '..Said'. Prove '..Said' where nothing that the law and all that it calls make is longer than what came in: it says more and counts as full. Else prove '..UptoSaid'. A law counts once. -/
mutual
def uptoBulk {H : Type} : DataW H → Nat
  | .lit (.string bytes) => bytes.length + 1
  | .lit _ => 1
  | .nil => 1
  | .ptr d => uptoBulk d + 1
  | .slice elems spare => uptoBulkAll elems + uptoBulkAll spare + 1
  | .agg parts => uptoBulkAll parts + 1
  | .iface _ d => uptoBulk d + 1
  | .map entries => uptoBulkEntries entries + 1
  | .held _ => 1
def uptoBulkAll {H : Type} : List (DataW H) → Nat
  | [] => 0
  | d :: r => uptoBulk d + uptoBulkAll r
def uptoBulkEntries {H : Type} : List (Lit × DataW H) → Nat
  | [] => 0
  | x :: r => uptoBulkEntry x + uptoBulkEntries r
def uptoBulkEntry {H : Type} : Lit × DataW H → Nat
  | (.string bytes, d) => bytes.length + uptoBulk d + 1
  | (_, d) => uptoBulk d + 1
 end
def uptoSmall : (H : Type) → List (DataW H) → Bool := fun _ ds => decide (uptoBulkAll ds ≤ 1048576)
def OpenSpec.upto (s : _root_.Go.ChangeSpec) : _root_.Go.OpenSpec := { _root_.Go.OpenSpec.ofChange s with cond := some uptoSmall }

/-- 'laws.FnExactMemoryFault', WHERE WHAT IT READS IS OF BULK AT MOST 1048576: true; the input reads as it did. -/
def fnExactMemoryFaultUptoRow : OpenClaim := { program := "ytgoigibjmpjloaa", sum := "ca1885182f2a28c16db42ee51b5c76026a5d5de6141243364329825b0c97832c", func := "loop.example/g00530/laws.FnExactMemoryFault", spec := "fnExactMemoryFault", apart := false, narrowed := true }
def FnExactMemoryFaultUptoSaid : Prop := fnExactMemoryFaultUptoRow.holds Try.pinned (OpenSpec.upto fnExactMemoryFaultSpec)

/-- 'laws.FnExactLoadWord', WHERE WHAT IT READS IS OF BULK AT MOST 1048576: true; the input reads as it did. -/
def fnExactLoadWordUptoRow : OpenClaim := { program := "ytgoigibjmpjloaa", sum := "ca1885182f2a28c16db42ee51b5c76026a5d5de6141243364329825b0c97832c", func := "loop.example/g00530/laws.FnExactLoadWord", spec := "fnExactLoadWord", apart := false, narrowed := true }
def FnExactLoadWordUptoSaid : Prop := fnExactLoadWordUptoRow.holds Try.pinned (OpenSpec.upto fnExactLoadWordSpec)

/-- 'laws.FnExactStoreWord', WHERE WHAT IT READS IS OF BULK AT MOST 1048576: true; the input reads as it did. -/
def fnExactStoreWordUptoRow : OpenClaim := { program := "ytgoigibjmpjloaa", sum := "ca1885182f2a28c16db42ee51b5c76026a5d5de6141243364329825b0c97832c", func := "loop.example/g00530/laws.FnExactStoreWord", spec := "fnExactStoreWord", apart := false, narrowed := true }
def FnExactStoreWordUptoSaid : Prop := fnExactStoreWordUptoRow.holds Try.pinned (OpenSpec.upto fnExactStoreWordSpec)

/-- 'laws.FnExactRetagWords', WHERE WHAT IT READS IS OF BULK AT MOST 1048576: true; the input reads as it did. -/
def fnExactRetagWordsUptoRow : OpenClaim := { program := "ytgoigibjmpjloaa", sum := "ca1885182f2a28c16db42ee51b5c76026a5d5de6141243364329825b0c97832c", func := "loop.example/g00530/laws.FnExactRetagWords", spec := "fnExactRetagWords", apart := false, narrowed := true }
def FnExactRetagWordsUptoSaid : Prop := fnExactRetagWordsUptoRow.holds Try.pinned (OpenSpec.upto fnExactRetagWordsSpec)

/-- 'laws.FnExactCountTag', WHERE WHAT IT READS IS OF BULK AT MOST 1048576: true; the input reads as it did. -/
def fnExactCountTagUptoRow : OpenClaim := { program := "ytgoigibjmpjloaa", sum := "ca1885182f2a28c16db42ee51b5c76026a5d5de6141243364329825b0c97832c", func := "loop.example/g00530/laws.FnExactCountTag", spec := "fnExactCountTag", apart := false, narrowed := true }
def FnExactCountTagUptoSaid : Prop := fnExactCountTagUptoRow.holds Try.pinned (OpenSpec.upto fnExactCountTagSpec)

/-- 'laws.FnExactSameMemories', WHERE WHAT IT READS IS OF BULK AT MOST 1048576: true; the input reads as it did. -/
def fnExactSameMemoriesUptoRow : OpenClaim := { program := "ytgoigibjmpjloaa", sum := "ca1885182f2a28c16db42ee51b5c76026a5d5de6141243364329825b0c97832c", func := "loop.example/g00530/laws.FnExactSameMemories", spec := "fnExactSameMemories", apart := false, narrowed := true }
def FnExactSameMemoriesUptoSaid : Prop := fnExactSameMemoriesUptoRow.holds Try.pinned (OpenSpec.upto fnExactSameMemoriesSpec)

end Rows
end Go.Proofs.Ytgoigibjmpjloaa
