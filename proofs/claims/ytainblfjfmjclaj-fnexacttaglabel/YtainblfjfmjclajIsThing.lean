import Derived.Test.YtainblfjfmjclajHasL
import Derived.WalkKit
import Derived.ProofKit
import Derived.OpenShut
import Derived.ShutString
import Derived.ChangeOld
import Derived.Below
import Derived.WalkSpells
import Derived.Deep.QuietTactic
import Derived.BigQuiet
import Derived.Deep.RegionWith
import Derived.Deep.WholeRow
import Derived.Deep.DeepCutAuto
import Derived.Deep.RegionHeld2
import Derived.Deep.AppendLies
import Derived.Deep.RegionLaw
namespace Go.Proofs.Ytainblfjfmjclaj
open Go.ChangeShapes Go.WideShapes Go.ChangeAt Go.RowKit

def thingB (zs : List Int) : Bool := (fault zs == 0) && !has zs 0 && !has zs 5

set_option maxRecDepth 100000 in
theorem isThing_calls (a : Option Addr) (len cap : Nat) (zs : List Int) (w : World) (hl : len ≤ maxLen) (hs : Sl w a len zs) :
    Calls Try.prog 95 #[.agg #[.slice a len cap]] w fun e w' => e = .returned (.bool (thingB zs)) ∧ Below w.heap.size w w' := by
  have M0 := (Mem.start w).alloc1 (.slice a len cap) 41
  have hb0 := M0.bel
  unfold thingB
  cases hf : (fault zs == 0) with
  | true =>
    go_enter Try.func95, Try.ntmps95
    go_wp2_with fail
    refine (implLabelFault_calls a len cap zs _ hl (hs.below hb0 (Nat.le_refl _))).mono ?_
    rintro e w1 ⟨rfl, hb⟩
    have M1 := M0.below hb
    have c1 := M1.cell 0 rfl
    clear hb M0 hb0
    go_wp2_with fail
    refine (hasLevel_calls a len cap zs 0 _ hl (hs.below M1.bel (Nat.le_refl _))).mono ?_
    rintro e w2 ⟨rfl, hb2⟩
    have M2 := M1.below hb2
    have c2 := M2.cell 0 rfl
    clear hb2 M1 c1
    cases h0 : has zs 0 with
    | true =>
      go_wp2
      go_ret
      exact ⟨ret_bool (by rw [h0]; rfl), M2.bel⟩
    | false =>
      go_wp2_with fail
      refine (hasLevel_calls a len cap zs 5 _ hl (hs.below M2.bel (Nat.le_refl _))).mono ?_
      rintro e w3 ⟨rfl, hb3⟩
      have M3 := M2.below hb3
      go_wp2
      go_ret
      exact ⟨ret_bool (by rw [h0]; simp), M3.bel⟩
  | false =>
    go_enter Try.func95, Try.ntmps95
    go_wp2_with fail
    refine (implLabelFault_calls a len cap zs _ hl (hs.below hb0 (Nat.le_refl _))).mono ?_
    rintro e w1 ⟨rfl, hb⟩
    have M1 := M0.below hb
    go_wp2
    go_ret
    exact ⟨rfl, M1.bel⟩

end Go.Proofs.Ytainblfjfmjclaj
