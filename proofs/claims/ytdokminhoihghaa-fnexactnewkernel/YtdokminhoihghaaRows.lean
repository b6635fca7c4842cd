/-
  No cell of these rows narrows 'for every input' (looked for: loops, veiled, ifaces, maps, wideKeys, modest, calm, conditions, laid).
  DERIVED. THE GIVEN ROWS OF THIS SEAT. 6 by the template 'for every input the law returns true; each argument reads behind the call as it read before'; 0 by the template 'total and deterministic' (their statements: YtdokminhoihghaaTotals.lean).
  GIVEN WITH THE SEED: the statements are not yours to turn. If you find one false, say at which input.
  Laid BY PROGRAM, IN A SANDBOX (cutbox-rows.mjs): the forced cells as the released guide's own fill.sh prints them over the translation 5f835b3a4e826be6… (all of the seat's roots in one cut). By AI agents, Wed Nov 11 2026. No macro, syntax, notation, axiom, sorry.
-/
import Derived.Test.YtdokminhoihghaaChecked
import GoSem.Claim
import GoSem.ClaimJoined
import GoSem.ClaimMapViews
import Derived.JoinedTies
import Derived.KernelRfl
namespace Go.Proofs.Ytdokminhoihghaa
/- THE CELL 'sum', in the pinned program and in every row, IS THE sha256 OF THE DUMP (.gsa) THAT YtdokminhoihghaaProg.lean LOADS. Nothing in Lean hashes anything: it is a label: what it is worth is what the hold of that sum in a sandbox is worth. -/
noncomputable def Try.pinned : Pinned := { name := "ytdokminhoihghaa", sum := "5f835b3a4e826be6b5f918e363809e426288d2c3ca6aa14be1eb27956349e42e", checked := Try.checked }
namespace Rows
def none {H : Type} : Left H := { results := [], args := [] }

/-- 'laws.FnExactKernelFault': WHATEVER THE INPUT: true; the input reads as it did. -/
def fnExactKernelFaultSpec : ChangeSpec := { name := "fnExactKernelFault", fn := fun _ => fun
  | [d] => { results := [.lit (.bool true)], args := [d] }
  | _ => none }
def fnExactKernelFaultRow : OpenClaim := { program := "ytdokminhoihghaa", sum := "5f835b3a4e826be6b5f918e363809e426288d2c3ca6aa14be1eb27956349e42e", func := "loop.example/g00530/laws.FnExactKernelFault", spec := "fnExactKernelFault", unfollowed := true, recurses := true, apart := false }
def FnExactKernelFaultSaid : Prop := fnExactKernelFaultRow.holds Try.pinned (OpenSpec.ofChange fnExactKernelFaultSpec)

/-- ITS FALSE NEIGHBOUR: 'it returns false'. Refute it at one input. -/
def fnExactKernelFaultWrong : ChangeSpec := { name := "fnExactKernelFault", fn := fun _ => fun
  | [d] => { results := [.lit (.bool false)], args := [d] }
  | _ => none }
def FnExactKernelFaultWrongFalsely : Prop := fnExactKernelFaultRow.holds Try.pinned (OpenSpec.ofChange fnExactKernelFaultWrong)

/-- 'laws.FnExactNewKernel': WHATEVER THE INPUT: true; the input reads as it did. -/
def fnExactNewKernelSpec : ChangeSpec := { name := "fnExactNewKernel", fn := fun _ => fun
  | [d1, d2] => { results := [.lit (.bool true)], args := [d1, d2] }
  | _ => none }
def fnExactNewKernelRow : OpenClaim := { program := "ytdokminhoihghaa", sum := "5f835b3a4e826be6b5f918e363809e426288d2c3ca6aa14be1eb27956349e42e", func := "loop.example/g00530/laws.FnExactNewKernel", spec := "fnExactNewKernel", apart := false }
def FnExactNewKernelSaid : Prop := fnExactNewKernelRow.holds Try.pinned (OpenSpec.ofChange fnExactNewKernelSpec)

/-- ITS FALSE NEIGHBOUR: 'it returns false'. Refute it at one input. -/
def fnExactNewKernelWrong : ChangeSpec := { name := "fnExactNewKernel", fn := fun _ => fun
  | [d1, d2] => { results := [.lit (.bool false)], args := [d1, d2] }
  | _ => none }
def FnExactNewKernelWrongFalsely : Prop := fnExactNewKernelRow.holds Try.pinned (OpenSpec.ofChange fnExactNewKernelWrong)

/-- 'laws.FnExactFindObject': WHATEVER THE INPUT: true; the input reads as it did. -/
def fnExactFindObjectSpec : ChangeSpec := { name := "fnExactFindObject", fn := fun _ => fun
  | [d1, d2] => { results := [.lit (.bool true)], args := [d1, d2] }
  | _ => none }
def fnExactFindObjectRow : OpenClaim := { program := "ytdokminhoihghaa", sum := "5f835b3a4e826be6b5f918e363809e426288d2c3ca6aa14be1eb27956349e42e", func := "loop.example/g00530/laws.FnExactFindObject", spec := "fnExactFindObject", unfollowed := true, recurses := true, apart := false }
def FnExactFindObjectSaid : Prop := fnExactFindObjectRow.holds Try.pinned (OpenSpec.ofChange fnExactFindObjectSpec)

/-- ITS FALSE NEIGHBOUR: 'it returns false'. Refute it at one input. -/
def fnExactFindObjectWrong : ChangeSpec := { name := "fnExactFindObject", fn := fun _ => fun
  | [d1, d2] => { results := [.lit (.bool false)], args := [d1, d2] }
  | _ => none }
def FnExactFindObjectWrongFalsely : Prop := fnExactFindObjectRow.holds Try.pinned (OpenSpec.ofChange fnExactFindObjectWrong)

/-- 'laws.FnExactPathOf': WHATEVER THE INPUT: true; the input reads as it did. -/
def fnExactPathOfSpec : ChangeSpec := { name := "fnExactPathOf", fn := fun _ => fun
  | [d1, d2] => { results := [.lit (.bool true)], args := [d1, d2] }
  | _ => none }
def fnExactPathOfRow : OpenClaim := { program := "ytdokminhoihghaa", sum := "5f835b3a4e826be6b5f918e363809e426288d2c3ca6aa14be1eb27956349e42e", func := "loop.example/g00530/laws.FnExactPathOf", spec := "fnExactPathOf", unfollowed := true, recurses := true, apart := false }
def FnExactPathOfSaid : Prop := fnExactPathOfRow.holds Try.pinned (OpenSpec.ofChange fnExactPathOfSpec)

/-- ITS FALSE NEIGHBOUR: 'it returns false'. Refute it at one input. -/
def fnExactPathOfWrong : ChangeSpec := { name := "fnExactPathOf", fn := fun _ => fun
  | [d1, d2] => { results := [.lit (.bool false)], args := [d1, d2] }
  | _ => none }
def FnExactPathOfWrongFalsely : Prop := fnExactPathOfRow.holds Try.pinned (OpenSpec.ofChange fnExactPathOfWrong)

/-- 'laws.FnExactFreeOf': WHATEVER THE INPUT: true; the input reads as it did. -/
def fnExactFreeOfSpec : ChangeSpec := { name := "fnExactFreeOf", fn := fun _ => fun
  | [d1, d2] => { results := [.lit (.bool true)], args := [d1, d2] }
  | _ => none }
def fnExactFreeOfRow : OpenClaim := { program := "ytdokminhoihghaa", sum := "5f835b3a4e826be6b5f918e363809e426288d2c3ca6aa14be1eb27956349e42e", func := "loop.example/g00530/laws.FnExactFreeOf", spec := "fnExactFreeOf", unfollowed := true, recurses := true, apart := false }
def FnExactFreeOfSaid : Prop := fnExactFreeOfRow.holds Try.pinned (OpenSpec.ofChange fnExactFreeOfSpec)

/-- ITS FALSE NEIGHBOUR: 'it returns false'. Refute it at one input. -/
def fnExactFreeOfWrong : ChangeSpec := { name := "fnExactFreeOf", fn := fun _ => fun
  | [d1, d2] => { results := [.lit (.bool false)], args := [d1, d2] }
  | _ => none }
def FnExactFreeOfWrongFalsely : Prop := fnExactFreeOfRow.holds Try.pinned (OpenSpec.ofChange fnExactFreeOfWrong)

/-- 'laws.FnExactKidsOf': WHATEVER THE INPUT: true; the input reads as it did. -/
def fnExactKidsOfSpec : ChangeSpec := { name := "fnExactKidsOf", fn := fun _ => fun
  | [d1, d2] => { results := [.lit (.bool true)], args := [d1, d2] }
  | _ => none }
def fnExactKidsOfRow : OpenClaim := { program := "ytdokminhoihghaa", sum := "5f835b3a4e826be6b5f918e363809e426288d2c3ca6aa14be1eb27956349e42e", func := "loop.example/g00530/laws.FnExactKidsOf", spec := "fnExactKidsOf", unfollowed := true, recurses := true, apart := false }
def FnExactKidsOfSaid : Prop := fnExactKidsOfRow.holds Try.pinned (OpenSpec.ofChange fnExactKidsOfSpec)

/-- ITS FALSE NEIGHBOUR: 'it returns false'. Refute it at one input. -/
def fnExactKidsOfWrong : ChangeSpec := { name := "fnExactKidsOf", fn := fun _ => fun
  | [d1, d2] => { results := [.lit (.bool false)], args := [d1, d2] }
  | _ => none }
def FnExactKidsOfWrongFalsely : Prop := fnExactKidsOfRow.holds Try.pinned (OpenSpec.ofChange fnExactKidsOfWrong)

/- THE SECOND FORM. 'bulk': how many values and letters a reading holds, each counted each time it is reached (what is shared counts as often as it is met; a slice's spare places count too). A statement '..UptoSaid' is the law's where the arguments, and the package variables that the reading takes, are together of bulk at most 1048576: NARROWER than '..Said'. Prove '..Said' where nothing that the law and all that it calls make is longer than what came in: it says more and counts as full. Else prove '..UptoSaid'. A law counts once. -/
mutual
def uptoBulk {H : Type} : DataW H → Nat
  | .lit (.string bytes) => bytes.length + 1
  | .lit _ => 1
  | .nil => 1
  | .ptr d => uptoBulk d + 1
  | .slice elems spare => uptoBulkAll elems + uptoBulkAll spare + 1
  | .agg parts => uptoBulkAll parts + 1
  | .iface _ d => uptoBulk d + 1
  | .map entries => uptoBulkEntries entries + 1
  | .held _ => 1
def uptoBulkAll {H : Type} : List (DataW H) → Nat
  | [] => 0
  | d :: r => uptoBulk d + uptoBulkAll r
def uptoBulkEntries {H : Type} : List (Lit × DataW H) → Nat
  | [] => 0
  | x :: r => uptoBulkEntry x + uptoBulkEntries r
def uptoBulkEntry {H : Type} : Lit × DataW H → Nat
  | (.string bytes, d) => bytes.length + uptoBulk d + 1
  | (_, d) => uptoBulk d + 1
 end
def uptoSmall : (H : Type) → List (DataW H) → Bool := fun _ ds => decide (uptoBulkAll ds ≤ 1048576)
def OpenSpec.upto (s : _root_.Go.ChangeSpec) : _root_.Go.OpenSpec := { _root_.Go.OpenSpec.ofChange s with cond := some uptoSmall }

/-- 'laws.FnExactKernelFault', WHERE WHAT IT READS IS OF BULK AT MOST 1048576: true; the input reads as it did. -/
def fnExactKernelFaultUptoRow : OpenClaim := { program := "ytdokminhoihghaa", sum := "5f835b3a4e826be6b5f918e363809e426288d2c3ca6aa14be1eb27956349e42e", func := "loop.example/g00530/laws.FnExactKernelFault", spec := "fnExactKernelFault", unfollowed := true, recurses := true, apart := false, narrowed := true }
def FnExactKernelFaultUptoSaid : Prop := fnExactKernelFaultUptoRow.holds Try.pinned (OpenSpec.upto fnExactKernelFaultSpec)

/-- 'laws.FnExactNewKernel', WHERE WHAT IT READS IS OF BULK AT MOST 1048576: true; the input reads as it did. -/
def fnExactNewKernelUptoRow : OpenClaim := { program := "ytdokminhoihghaa", sum := "5f835b3a4e826be6b5f918e363809e426288d2c3ca6aa14be1eb27956349e42e", func := "loop.example/g00530/laws.FnExactNewKernel", spec := "fnExactNewKernel", apart := false, narrowed := true }
def FnExactNewKernelUptoSaid : Prop := fnExactNewKernelUptoRow.holds Try.pinned (OpenSpec.upto fnExactNewKernelSpec)

/-- 'laws.FnExactFindObject', WHERE WHAT IT READS IS OF BULK AT MOST 1048576: true; the input reads as it did. -/
def fnExactFindObjectUptoRow : OpenClaim := { program := "ytdokminhoihghaa", sum := "5f835b3a4e826be6b5f918e363809e426288d2c3ca6aa14be1eb27956349e42e", func := "loop.example/g00530/laws.FnExactFindObject", spec := "fnExactFindObject", unfollowed := true, recurses := true, apart := false, narrowed := true }
def FnExactFindObjectUptoSaid : Prop := fnExactFindObjectUptoRow.holds Try.pinned (OpenSpec.upto fnExactFindObjectSpec)

/-- 'laws.FnExactPathOf', WHERE WHAT IT READS IS OF BULK AT MOST 1048576: true; the input reads as it did. -/
def fnExactPathOfUptoRow : OpenClaim := { program := "ytdokminhoihghaa", sum := "5f835b3a4e826be6b5f918e363809e426288d2c3ca6aa14be1eb27956349e42e", func := "loop.example/g00530/laws.FnExactPathOf", spec := "fnExactPathOf", unfollowed := true, recurses := true, apart := false, narrowed := true }
def FnExactPathOfUptoSaid : Prop := fnExactPathOfUptoRow.holds Try.pinned (OpenSpec.upto fnExactPathOfSpec)

/-- 'laws.FnExactFreeOf', WHERE WHAT IT READS IS OF BULK AT MOST 1048576: true; the input reads as it did. -/
def fnExactFreeOfUptoRow : OpenClaim := { program := "ytdokminhoihghaa", sum := "5f835b3a4e826be6b5f918e363809e426288d2c3ca6aa14be1eb27956349e42e", func := "loop.example/g00530/laws.FnExactFreeOf", spec := "fnExactFreeOf", unfollowed := true, recurses := true, apart := false, narrowed := true }
def FnExactFreeOfUptoSaid : Prop := fnExactFreeOfUptoRow.holds Try.pinned (OpenSpec.upto fnExactFreeOfSpec)

/-- 'laws.FnExactKidsOf', WHERE WHAT IT READS IS OF BULK AT MOST 1048576: true; the input reads as it did. -/
def fnExactKidsOfUptoRow : OpenClaim := { program := "ytdokminhoihghaa", sum := "5f835b3a4e826be6b5f918e363809e426288d2c3ca6aa14be1eb27956349e42e", func := "loop.example/g00530/laws.FnExactKidsOf", spec := "fnExactKidsOf", unfollowed := true, recurses := true, apart := false, narrowed := true }
def FnExactKidsOfUptoSaid : Prop := fnExactKidsOfUptoRow.holds Try.pinned (OpenSpec.upto fnExactKidsOfSpec)

end Rows
end Go.Proofs.Ytdokminhoihghaa
