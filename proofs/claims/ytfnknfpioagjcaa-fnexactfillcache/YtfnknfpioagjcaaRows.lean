/-
  No cell of these rows narrows 'for every input' (looked for: loops, veiled, ifaces, maps, wideKeys, modest, calm, conditions, laid).
  DERIVED. THE GIVEN ROWS OF THIS SEAT. 5 by the template 'for every input the law returns true; each argument reads behind the call as it read before'; 0 by the template 'total and deterministic' (their statements: YtfnknfpioagjcaaTotals.lean).
  GIVEN WITH THE SEED: the statements are not yours to turn. If you find one false, say at which input.
  Laid BY PROGRAM, IN A SANDBOX (cutbox-rows.mjs): the forced cells as the released guide's own fill.sh prints them over the translation a485feb29637b45d… (all of the seat's roots in one cut). By AI agents, Wed Nov 11 2026. No macro, syntax, notation, axiom, sorry.
-/
import Derived.Test.YtfnknfpioagjcaaChecked
import GoSem.Claim
import GoSem.ClaimJoined
import GoSem.ClaimMapViews
import Derived.JoinedTies
import Derived.KernelRfl
namespace Go.Proofs.Ytfnknfpioagjcaa
/- THE CELL 'sum', in the pinned program and in every row, IS THE sha256 OF THE DUMP (.gsa) THAT YtfnknfpioagjcaaProg.lean LOADS. Nothing in Lean hashes anything: it is a label: what it is worth is what the hold of that sum in a sandbox is worth. -/
noncomputable def Try.pinned : Pinned := { name := "ytfnknfpioagjcaa", sum := "a485feb29637b45d5c833a2f2a344d14d198dfea577f0e1b57b91ba51410b0cb", checked := Try.checked }
namespace Rows
def none {H : Type} : Left H := { results := [], args := [] }

/-- 'laws.FnExactCacheFault': WHATEVER THE INPUT: true; the input reads as it did. -/
def fnExactCacheFaultSpec : ChangeSpec := { name := "fnExactCacheFault", fn := fun _ => fun
  | [d] => { results := [.lit (.bool true)], args := [d] }
  | _ => none }
def fnExactCacheFaultRow : OpenClaim := { program := "ytfnknfpioagjcaa", sum := "a485feb29637b45d5c833a2f2a344d14d198dfea577f0e1b57b91ba51410b0cb", func := "loop.example/g00530/laws.FnExactCacheFault", spec := "fnExactCacheFault", apart := false }
def FnExactCacheFaultSaid : Prop := fnExactCacheFaultRow.holds Try.pinned (OpenSpec.ofChange fnExactCacheFaultSpec)

/-- ITS FALSE NEIGHBOUR: 'it returns false'. Refute it at one input. -/
def fnExactCacheFaultWrong : ChangeSpec := { name := "fnExactCacheFault", fn := fun _ => fun
  | [d] => { results := [.lit (.bool false)], args := [d] }
  | _ => none }
def FnExactCacheFaultWrongFalsely : Prop := fnExactCacheFaultRow.holds Try.pinned (OpenSpec.ofChange fnExactCacheFaultWrong)

/-- 'laws.FnExactLookCache': WHATEVER THE INPUT: true; the input reads as it did. -/
def fnExactLookCacheSpec : ChangeSpec := { name := "fnExactLookCache", fn := fun _ => fun
  | [d1, d2, d3] => { results := [.lit (.bool true)], args := [d1, d2, d3] }
  | _ => none }
def fnExactLookCacheRow : OpenClaim := { program := "ytfnknfpioagjcaa", sum := "a485feb29637b45d5c833a2f2a344d14d198dfea577f0e1b57b91ba51410b0cb", func := "loop.example/g00530/laws.FnExactLookCache", spec := "fnExactLookCache", apart := false }
def FnExactLookCacheSaid : Prop := fnExactLookCacheRow.holds Try.pinned (OpenSpec.ofChange fnExactLookCacheSpec)

/-- ITS FALSE NEIGHBOUR: 'it returns false'. Refute it at one input. -/
def fnExactLookCacheWrong : ChangeSpec := { name := "fnExactLookCache", fn := fun _ => fun
  | [d1, d2, d3] => { results := [.lit (.bool false)], args := [d1, d2, d3] }
  | _ => none }
def FnExactLookCacheWrongFalsely : Prop := fnExactLookCacheRow.holds Try.pinned (OpenSpec.ofChange fnExactLookCacheWrong)

/-- 'laws.FnExactFillCache': WHATEVER THE INPUT: true; the input reads as it did. -/
def fnExactFillCacheSpec : ChangeSpec := { name := "fnExactFillCache", fn := fun _ => fun
  | [d1, d2, d3] => { results := [.lit (.bool true)], args := [d1, d2, d3] }
  | _ => none }
def fnExactFillCacheRow : OpenClaim := { program := "ytfnknfpioagjcaa", sum := "a485feb29637b45d5c833a2f2a344d14d198dfea577f0e1b57b91ba51410b0cb", func := "loop.example/g00530/laws.FnExactFillCache", spec := "fnExactFillCache", apart := false }
def FnExactFillCacheSaid : Prop := fnExactFillCacheRow.holds Try.pinned (OpenSpec.ofChange fnExactFillCacheSpec)

/-- ITS FALSE NEIGHBOUR: 'it returns false'. Refute it at one input. -/
def fnExactFillCacheWrong : ChangeSpec := { name := "fnExactFillCache", fn := fun _ => fun
  | [d1, d2, d3] => { results := [.lit (.bool false)], args := [d1, d2, d3] }
  | _ => none }
def FnExactFillCacheWrongFalsely : Prop := fnExactFillCacheRow.holds Try.pinned (OpenSpec.ofChange fnExactFillCacheWrong)

/-- 'laws.FnExactFlushCache': WHATEVER THE INPUT: true; the input reads as it did. -/
def fnExactFlushCacheSpec : ChangeSpec := { name := "fnExactFlushCache", fn := fun _ => fun
  | [d1, d2, d3] => { results := [.lit (.bool true)], args := [d1, d2, d3] }
  | _ => none }
def fnExactFlushCacheRow : OpenClaim := { program := "ytfnknfpioagjcaa", sum := "a485feb29637b45d5c833a2f2a344d14d198dfea577f0e1b57b91ba51410b0cb", func := "loop.example/g00530/laws.FnExactFlushCache", spec := "fnExactFlushCache", apart := false }
def FnExactFlushCacheSaid : Prop := fnExactFlushCacheRow.holds Try.pinned (OpenSpec.ofChange fnExactFlushCacheSpec)

/-- ITS FALSE NEIGHBOUR: 'it returns false'. Refute it at one input. -/
def fnExactFlushCacheWrong : ChangeSpec := { name := "fnExactFlushCache", fn := fun _ => fun
  | [d1, d2, d3] => { results := [.lit (.bool false)], args := [d1, d2, d3] }
  | _ => none }
def FnExactFlushCacheWrongFalsely : Prop := fnExactFlushCacheRow.holds Try.pinned (OpenSpec.ofChange fnExactFlushCacheWrong)

/-- 'laws.FnExactEvictCache': WHATEVER THE INPUT: true; the input reads as it did. -/
def fnExactEvictCacheSpec : ChangeSpec := { name := "fnExactEvictCache", fn := fun _ => fun
  | [d1, d2] => { results := [.lit (.bool true)], args := [d1, d2] }
  | _ => none }
def fnExactEvictCacheRow : OpenClaim := { program := "ytfnknfpioagjcaa", sum := "a485feb29637b45d5c833a2f2a344d14d198dfea577f0e1b57b91ba51410b0cb", func := "loop.example/g00530/laws.FnExactEvictCache", spec := "fnExactEvictCache", apart := false }
def FnExactEvictCacheSaid : Prop := fnExactEvictCacheRow.holds Try.pinned (OpenSpec.ofChange fnExactEvictCacheSpec)

/-- ITS FALSE NEIGHBOUR: 'it returns false'. Refute it at one input. -/
def fnExactEvictCacheWrong : ChangeSpec := { name := "fnExactEvictCache", fn := fun _ => fun
  | [d1, d2] => { results := [.lit (.bool false)], args := [d1, d2] }
  | _ => none }
def FnExactEvictCacheWrongFalsely : Prop := fnExactEvictCacheRow.holds Try.pinned (OpenSpec.ofChange fnExactEvictCacheWrong)

/- THE SECOND FORM. 'bulk': how many values and letters a reading holds, each counted each time it is reached (what is shared counts as often as it is met; a slice's spare places count too). A statement '..UptoSaid' is the law's where the arguments, and the package variables that the reading takes, are together of bulk at most 1048576: NARROWER than '..Said'. Prove '..Said' where nothing that the law and all that it calls make is longer than what came in: it says more and counts as full. Else prove '..UptoSaid'. A law counts once. -/
mutual
def uptoBulk {H : Type} : DataW H → Nat
  | .lit (.string bytes) => bytes.length + 1
  | .lit _ => 1
  | .nil => 1
  | .ptr d => uptoBulk d + 1
  | .slice elems spare => uptoBulkAll elems + uptoBulkAll spare + 1
  | .agg parts => uptoBulkAll parts + 1
  | .iface _ d => uptoBulk d + 1
  | .map entries => uptoBulkEntries entries + 1
  | .held _ => 1
def uptoBulkAll {H : Type} : List (DataW H) → Nat
  | [] => 0
  | d :: r => uptoBulk d + uptoBulkAll r
def uptoBulkEntries {H : Type} : List (Lit × DataW H) → Nat
  | [] => 0
  | x :: r => uptoBulkEntry x + uptoBulkEntries r
def uptoBulkEntry {H : Type} : Lit × DataW H → Nat
  | (.string bytes, d) => bytes.length + uptoBulk d + 1
  | (_, d) => uptoBulk d + 1
 end
def uptoSmall : (H : Type) → List (DataW H) → Bool := fun _ ds => decide (uptoBulkAll ds ≤ 1048576)
def OpenSpec.upto (s : _root_.Go.ChangeSpec) : _root_.Go.OpenSpec := { _root_.Go.OpenSpec.ofChange s with cond := some uptoSmall }

/-- 'laws.FnExactCacheFault', WHERE WHAT IT READS IS OF BULK AT MOST 1048576: true; the input reads as it did. -/
def fnExactCacheFaultUptoRow : OpenClaim := { program := "ytfnknfpioagjcaa", sum := "a485feb29637b45d5c833a2f2a344d14d198dfea577f0e1b57b91ba51410b0cb", func := "loop.example/g00530/laws.FnExactCacheFault", spec := "fnExactCacheFault", apart := false, narrowed := true }
def FnExactCacheFaultUptoSaid : Prop := fnExactCacheFaultUptoRow.holds Try.pinned (OpenSpec.upto fnExactCacheFaultSpec)

/-- 'laws.FnExactLookCache', WHERE WHAT IT READS IS OF BULK AT MOST 1048576: true; the input reads as it did. -/
def fnExactLookCacheUptoRow : OpenClaim := { program := "ytfnknfpioagjcaa", sum := "a485feb29637b45d5c833a2f2a344d14d198dfea577f0e1b57b91ba51410b0cb", func := "loop.example/g00530/laws.FnExactLookCache", spec := "fnExactLookCache", apart := false, narrowed := true }
def FnExactLookCacheUptoSaid : Prop := fnExactLookCacheUptoRow.holds Try.pinned (OpenSpec.upto fnExactLookCacheSpec)

/-- 'laws.FnExactFillCache', WHERE WHAT IT READS IS OF BULK AT MOST 1048576: true; the input reads as it did. -/
def fnExactFillCacheUptoRow : OpenClaim := { program := "ytfnknfpioagjcaa", sum := "a485feb29637b45d5c833a2f2a344d14d198dfea577f0e1b57b91ba51410b0cb", func := "loop.example/g00530/laws.FnExactFillCache", spec := "fnExactFillCache", apart := false, narrowed := true }
def FnExactFillCacheUptoSaid : Prop := fnExactFillCacheUptoRow.holds Try.pinned (OpenSpec.upto fnExactFillCacheSpec)

/-- 'laws.FnExactFlushCache', WHERE WHAT IT READS IS OF BULK AT MOST 1048576: true; the input reads as it did. -/
def fnExactFlushCacheUptoRow : OpenClaim := { program := "ytfnknfpioagjcaa", sum := "a485feb29637b45d5c833a2f2a344d14d198dfea577f0e1b57b91ba51410b0cb", func := "loop.example/g00530/laws.FnExactFlushCache", spec := "fnExactFlushCache", apart := false, narrowed := true }
def FnExactFlushCacheUptoSaid : Prop := fnExactFlushCacheUptoRow.holds Try.pinned (OpenSpec.upto fnExactFlushCacheSpec)

/-- 'laws.FnExactEvictCache', WHERE WHAT IT READS IS OF BULK AT MOST 1048576: true; the input reads as it did. -/
def fnExactEvictCacheUptoRow : OpenClaim := { program := "ytfnknfpioagjcaa", sum := "a485feb29637b45d5c833a2f2a344d14d198dfea577f0e1b57b91ba51410b0cb", func := "loop.example/g00530/laws.FnExactEvictCache", spec := "fnExactEvictCache", apart := false, narrowed := true }
def FnExactEvictCacheUptoSaid : Prop := fnExactEvictCacheUptoRow.holds Try.pinned (OpenSpec.upto fnExactEvictCacheSpec)

end Rows
end Go.Proofs.Ytfnknfpioagjcaa
