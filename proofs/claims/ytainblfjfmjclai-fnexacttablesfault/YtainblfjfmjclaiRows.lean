/-
  No cell of these rows narrows 'for every input' (looked for: loops, veiled, ifaces, maps, wideKeys, modest, calm, conditions, laid).
  DERIVED. THE GIVEN ROWS OF THIS SEAT. 6 by the template 'for every input the law returns true; each argument reads behind the call as it read before'; 0 by the template 'total and deterministic' (their statements: YtainblfjfmjclaiTotals.lean).
  GIVEN WITH THE SEED: the statements are not yours to turn. If you find one false, say at which input.
  Laid BY PROGRAM, IN A SANDBOX (cutbox-rows.mjs): the forced cells as the released guide's own fill.sh prints them over the translation b3ad07d25378270c… (all of the seat's roots in one cut). By AI agents, Wed Nov 11 2026. No macro, syntax, notation, axiom, sorry.
-/
import Derived.Test.YtainblfjfmjclaiChecked
import GoSem.Claim
import GoSem.ClaimJoined
import GoSem.ClaimMapViews
import Derived.JoinedTies
import Derived.KernelRfl
namespace Go.Proofs.Ytainblfjfmjclai
/- THE CELL 'sum', in the pinned program and in every row, IS THE sha256 OF THE DUMP (.gsa) THAT YtainblfjfmjclaiProg.lean LOADS. Nothing in Lean hashes anything: it is a label: what it is worth is what the hold of that sum in a sandbox is worth. -/
noncomputable def Try.pinned : Pinned := { name := "ytainblfjfmjclai", sum := "b3ad07d25378270cc907dbfd62bc35f835622e5f1850c39fc3880c24c4b988b1", checked := Try.checked }
namespace Rows
def none {H : Type} : Left H := { results := [], args := [] }

/-- 'laws.FnExactLabelAt': WHATEVER THE INPUT: true; the input reads as it did. -/
def fnExactLabelAtSpec : ChangeSpec := { name := "fnExactLabelAt", fn := fun _ => fun
  | [d1, d2] => { results := [.lit (.bool true)], args := [d1, d2] }
  | _ => none }
def fnExactLabelAtRow : OpenClaim := { program := "ytainblfjfmjclai", sum := "b3ad07d25378270cc907dbfd62bc35f835622e5f1850c39fc3880c24c4b988b1", func := "loop.example/g00530/laws.FnExactLabelAt", spec := "fnExactLabelAt", plainKeys := false, apart := false }
def FnExactLabelAtSaid : Prop := fnExactLabelAtRow.holds Try.pinned (OpenSpec.ofChange fnExactLabelAtSpec)

/-- ITS FALSE NEIGHBOUR: 'it returns false'. Refute it at one input. -/
def fnExactLabelAtWrong : ChangeSpec := { name := "fnExactLabelAt", fn := fun _ => fun
  | [d1, d2] => { results := [.lit (.bool false)], args := [d1, d2] }
  | _ => none }
def FnExactLabelAtWrongFalsely : Prop := fnExactLabelAtRow.holds Try.pinned (OpenSpec.ofChange fnExactLabelAtWrong)

/-- 'laws.FnExactSlotOf': WHATEVER THE INPUT: true; the input reads as it did. -/
def fnExactSlotOfSpec : ChangeSpec := { name := "fnExactSlotOf", fn := fun _ => fun
  | [d1, d2] => { results := [.lit (.bool true)], args := [d1, d2] }
  | _ => none }
def fnExactSlotOfRow : OpenClaim := { program := "ytainblfjfmjclai", sum := "b3ad07d25378270cc907dbfd62bc35f835622e5f1850c39fc3880c24c4b988b1", func := "loop.example/g00530/laws.FnExactSlotOf", spec := "fnExactSlotOf", plainKeys := false, apart := false }
def FnExactSlotOfSaid : Prop := fnExactSlotOfRow.holds Try.pinned (OpenSpec.ofChange fnExactSlotOfSpec)

/-- ITS FALSE NEIGHBOUR: 'it returns false'. Refute it at one input. -/
def fnExactSlotOfWrong : ChangeSpec := { name := "fnExactSlotOf", fn := fun _ => fun
  | [d1, d2] => { results := [.lit (.bool false)], args := [d1, d2] }
  | _ => none }
def FnExactSlotOfWrongFalsely : Prop := fnExactSlotOfRow.holds Try.pinned (OpenSpec.ofChange fnExactSlotOfWrong)

/-- 'laws.FnExactSameRegistries': WHATEVER THE INPUT: true; the input reads as it did. -/
def fnExactSameRegistriesSpec : ChangeSpec := { name := "fnExactSameRegistries", fn := fun _ => fun
  | [d1, d2] => { results := [.lit (.bool true)], args := [d1, d2] }
  | _ => none }
def fnExactSameRegistriesRow : OpenClaim := { program := "ytainblfjfmjclai", sum := "b3ad07d25378270cc907dbfd62bc35f835622e5f1850c39fc3880c24c4b988b1", func := "loop.example/g00530/laws.FnExactSameRegistries", spec := "fnExactSameRegistries", unfollowed := true, recurses := true, plainKeys := false, apart := false }
def FnExactSameRegistriesSaid : Prop := fnExactSameRegistriesRow.holds Try.pinned (OpenSpec.ofChange fnExactSameRegistriesSpec)

/-- ITS FALSE NEIGHBOUR: 'it returns false'. Refute it at one input. -/
def fnExactSameRegistriesWrong : ChangeSpec := { name := "fnExactSameRegistries", fn := fun _ => fun
  | [d1, d2] => { results := [.lit (.bool false)], args := [d1, d2] }
  | _ => none }
def FnExactSameRegistriesWrongFalsely : Prop := fnExactSameRegistriesRow.holds Try.pinned (OpenSpec.ofChange fnExactSameRegistriesWrong)

/-- 'laws.FnExactTablesFault': WHATEVER THE INPUT: true; the input reads as it did. -/
def fnExactTablesFaultSpec : ChangeSpec := { name := "fnExactTablesFault", fn := fun _ => fun
  | [d] => { results := [.lit (.bool true)], args := [d] }
  | _ => none }
def fnExactTablesFaultRow : OpenClaim := { program := "ytainblfjfmjclai", sum := "b3ad07d25378270cc907dbfd62bc35f835622e5f1850c39fc3880c24c4b988b1", func := "loop.example/g00530/laws.FnExactTablesFault", spec := "fnExactTablesFault", plainKeys := false, apart := false }
def FnExactTablesFaultSaid : Prop := fnExactTablesFaultRow.holds Try.pinned (OpenSpec.ofChange fnExactTablesFaultSpec)

/-- ITS FALSE NEIGHBOUR: 'it returns false'. Refute it at one input. -/
def fnExactTablesFaultWrong : ChangeSpec := { name := "fnExactTablesFault", fn := fun _ => fun
  | [d] => { results := [.lit (.bool false)], args := [d] }
  | _ => none }
def FnExactTablesFaultWrongFalsely : Prop := fnExactTablesFaultRow.holds Try.pinned (OpenSpec.ofChange fnExactTablesFaultWrong)

/-- 'laws.FnExactAddTag': WHATEVER THE INPUT: true; the input reads as it did. -/
def fnExactAddTagSpec : ChangeSpec := { name := "fnExactAddTag", fn := fun _ => fun
  | [d1, d2] => { results := [.lit (.bool true)], args := [d1, d2] }
  | _ => none }
def fnExactAddTagRow : OpenClaim := { program := "ytainblfjfmjclai", sum := "b3ad07d25378270cc907dbfd62bc35f835622e5f1850c39fc3880c24c4b988b1", func := "loop.example/g00530/laws.FnExactAddTag", spec := "fnExactAddTag", plainKeys := false, apart := false }
def FnExactAddTagSaid : Prop := fnExactAddTagRow.holds Try.pinned (OpenSpec.ofChange fnExactAddTagSpec)

/-- ITS FALSE NEIGHBOUR: 'it returns false'. Refute it at one input. -/
def fnExactAddTagWrong : ChangeSpec := { name := "fnExactAddTag", fn := fun _ => fun
  | [d1, d2] => { results := [.lit (.bool false)], args := [d1, d2] }
  | _ => none }
def FnExactAddTagWrongFalsely : Prop := fnExactAddTagRow.holds Try.pinned (OpenSpec.ofChange fnExactAddTagWrong)

/-- 'laws.FnExactDropTag': WHATEVER THE INPUT: true; the input reads as it did. -/
def fnExactDropTagSpec : ChangeSpec := { name := "fnExactDropTag", fn := fun _ => fun
  | [d] => { results := [.lit (.bool true)], args := [d] }
  | _ => none }
def fnExactDropTagRow : OpenClaim := { program := "ytainblfjfmjclai", sum := "b3ad07d25378270cc907dbfd62bc35f835622e5f1850c39fc3880c24c4b988b1", func := "loop.example/g00530/laws.FnExactDropTag", spec := "fnExactDropTag", plainKeys := false, apart := false }
def FnExactDropTagSaid : Prop := fnExactDropTagRow.holds Try.pinned (OpenSpec.ofChange fnExactDropTagSpec)

/-- ITS FALSE NEIGHBOUR: 'it returns false'. Refute it at one input. -/
def fnExactDropTagWrong : ChangeSpec := { name := "fnExactDropTag", fn := fun _ => fun
  | [d] => { results := [.lit (.bool false)], args := [d] }
  | _ => none }
def FnExactDropTagWrongFalsely : Prop := fnExactDropTagRow.holds Try.pinned (OpenSpec.ofChange fnExactDropTagWrong)

/- THE SECOND FORM. 'bulk': how many values and letters a reading holds, each counted each time it is reached (what is shared counts as often as it is met; a slice's spare places count too). A statement '..UptoSaid' is the law's where the arguments, and the package variables that the reading takes, are together of bulk at most 1048576: NARROWER than '..Said'. Prove '..Said' where nothing that the law and all that it calls make is longer than what came in: it says more and counts as full. Else prove '..UptoSaid'. A law counts once. -/
mutual
def uptoBulk {H : Type} : DataW H → Nat
  | .lit (.string bytes) => bytes.length + 1
  | .lit _ => 1
  | .nil => 1
  | .ptr d => uptoBulk d + 1
  | .slice elems spare => uptoBulkAll elems + uptoBulkAll spare + 1
  | .agg parts => uptoBulkAll parts + 1
  | .iface _ d => uptoBulk d + 1
  | .map entries => uptoBulkEntries entries + 1
  | .held _ => 1
def uptoBulkAll {H : Type} : List (DataW H) → Nat
  | [] => 0
  | d :: r => uptoBulk d + uptoBulkAll r
def uptoBulkEntries {H : Type} : List (Lit × DataW H) → Nat
  | [] => 0
  | x :: r => uptoBulkEntry x + uptoBulkEntries r
def uptoBulkEntry {H : Type} : Lit × DataW H → Nat
  | (.string bytes, d) => bytes.length + uptoBulk d + 1
  | (_, d) => uptoBulk d + 1
 end
def uptoSmall : (H : Type) → List (DataW H) → Bool := fun _ ds => decide (uptoBulkAll ds ≤ 1048576)
def OpenSpec.upto (s : _root_.Go.ChangeSpec) : _root_.Go.OpenSpec := { _root_.Go.OpenSpec.ofChange s with cond := some uptoSmall }

/-- 'laws.FnExactLabelAt', WHERE WHAT IT READS IS OF BULK AT MOST 1048576: true; the input reads as it did. -/
def fnExactLabelAtUptoRow : OpenClaim := { program := "ytainblfjfmjclai", sum := "b3ad07d25378270cc907dbfd62bc35f835622e5f1850c39fc3880c24c4b988b1", func := "loop.example/g00530/laws.FnExactLabelAt", spec := "fnExactLabelAt", plainKeys := false, apart := false, narrowed := true }
def FnExactLabelAtUptoSaid : Prop := fnExactLabelAtUptoRow.holds Try.pinned (OpenSpec.upto fnExactLabelAtSpec)

/-- 'laws.FnExactSlotOf', WHERE WHAT IT READS IS OF BULK AT MOST 1048576: true; the input reads as it did. -/
def fnExactSlotOfUptoRow : OpenClaim := { program := "ytainblfjfmjclai", sum := "b3ad07d25378270cc907dbfd62bc35f835622e5f1850c39fc3880c24c4b988b1", func := "loop.example/g00530/laws.FnExactSlotOf", spec := "fnExactSlotOf", plainKeys := false, apart := false, narrowed := true }
def FnExactSlotOfUptoSaid : Prop := fnExactSlotOfUptoRow.holds Try.pinned (OpenSpec.upto fnExactSlotOfSpec)

/-- 'laws.FnExactSameRegistries', WHERE WHAT IT READS IS OF BULK AT MOST 1048576: true; the input reads as it did. -/
def fnExactSameRegistriesUptoRow : OpenClaim := { program := "ytainblfjfmjclai", sum := "b3ad07d25378270cc907dbfd62bc35f835622e5f1850c39fc3880c24c4b988b1", func := "loop.example/g00530/laws.FnExactSameRegistries", spec := "fnExactSameRegistries", unfollowed := true, recurses := true, plainKeys := false, apart := false, narrowed := true }
def FnExactSameRegistriesUptoSaid : Prop := fnExactSameRegistriesUptoRow.holds Try.pinned (OpenSpec.upto fnExactSameRegistriesSpec)

/-- 'laws.FnExactTablesFault', WHERE WHAT IT READS IS OF BULK AT MOST 1048576: true; the input reads as it did. -/
def fnExactTablesFaultUptoRow : OpenClaim := { program := "ytainblfjfmjclai", sum := "b3ad07d25378270cc907dbfd62bc35f835622e5f1850c39fc3880c24c4b988b1", func := "loop.example/g00530/laws.FnExactTablesFault", spec := "fnExactTablesFault", plainKeys := false, apart := false, narrowed := true }
def FnExactTablesFaultUptoSaid : Prop := fnExactTablesFaultUptoRow.holds Try.pinned (OpenSpec.upto fnExactTablesFaultSpec)

/-- 'laws.FnExactAddTag', WHERE WHAT IT READS IS OF BULK AT MOST 1048576: true; the input reads as it did. -/
def fnExactAddTagUptoRow : OpenClaim := { program := "ytainblfjfmjclai", sum := "b3ad07d25378270cc907dbfd62bc35f835622e5f1850c39fc3880c24c4b988b1", func := "loop.example/g00530/laws.FnExactAddTag", spec := "fnExactAddTag", plainKeys := false, apart := false, narrowed := true }
def FnExactAddTagUptoSaid : Prop := fnExactAddTagUptoRow.holds Try.pinned (OpenSpec.upto fnExactAddTagSpec)

/-- 'laws.FnExactDropTag', WHERE WHAT IT READS IS OF BULK AT MOST 1048576: true; the input reads as it did. -/
def fnExactDropTagUptoRow : OpenClaim := { program := "ytainblfjfmjclai", sum := "b3ad07d25378270cc907dbfd62bc35f835622e5f1850c39fc3880c24c4b988b1", func := "loop.example/g00530/laws.FnExactDropTag", spec := "fnExactDropTag", plainKeys := false, apart := false, narrowed := true }
def FnExactDropTagUptoSaid : Prop := fnExactDropTagUptoRow.holds Try.pinned (OpenSpec.upto fnExactDropTagSpec)

end Rows
end Go.Proofs.Ytainblfjfmjclai
