import Derived.Test.YtjahlhibgnbkgaaHighC
import Derived.Test.YtjahlhibgnbkgaaObs
import Derived.Test.YtjahlhibgnbkgaaOwns
import Derived.WalkKit
import Derived.ProofKit
import Derived.OpenShut
import Derived.ShutString
import Derived.ChangeOld
import Derived.Below
import Derived.WalkSpells
import Derived.Deep.QuietTactic
import Derived.BigQuiet
import Derived.Deep.RegionWith
import Derived.Deep.WholeRow
import Derived.Deep.DeepCutAuto
import Derived.Deep.RegionHeld2
import Derived.Deep.AppendLies
import Derived.Deep.RegionLaw
namespace Go.Proofs.Ytjahlhibgnbkgaa
open Go.ChangeShapes Go.WideShapes Go.ChangeAt Go.RowKit

def thingB (zs : List Int) : Bool := (fault zs == 0) && !has zs 0 && !has zs 5

set_option maxRecDepth 100000 in
theorem isThing_calls (a : Option Addr) (len cap : Nat) (zs : List Int) (w : World) (hl : len ≤ maxLen) (hs : Sl w a len zs) :
    Calls Try.prog 56 #[.agg #[.slice a len cap]] w fun e w' => e = .returned (.bool (thingB zs)) ∧ Below w.heap.size w w' := by
  have M0 := (Mem.start w).alloc1 (.slice a len cap) 26
  have hb0 := M0.bel
  unfold thingB
  cases hf : (fault zs == 0) with
  | true =>
    go_enter Try.func56, Try.ntmps56
    go_wp2_with fail
    refine (implLabelFault_calls a len cap zs _ hl (hs.below hb0 (Nat.le_refl _))).mono ?_
    rintro e w1 ⟨rfl, hb⟩
    have M1 := M0.below hb
    have c1 := M1.cell 0 rfl
    clear hb M0 hb0
    go_wp2_with fail
    refine (hasLevel_calls a len cap zs 0 _ hl (hs.below M1.bel (Nat.le_refl _))).mono ?_
    rintro e w2 ⟨rfl, hb2⟩
    have M2 := M1.below hb2
    have c2 := M2.cell 0 rfl
    clear hb2 M1 c1
    cases h0 : has zs 0 with
    | true =>
      go_wp2
      go_ret
      exact ⟨ret_bool (by rw [h0]; rfl), M2.bel⟩
    | false =>
      go_wp2_with fail
      refine (hasLevel_calls a len cap zs 5 _ hl (hs.below M2.bel (Nat.le_refl _))).mono ?_
      rintro e w3 ⟨rfl, hb3⟩
      have M3 := M2.below hb3
      go_wp2
      go_ret
      exact ⟨ret_bool (by rw [h0]; simp), M3.bel⟩
  | false =>
    go_enter Try.func56, Try.ntmps56
    go_wp2_with fail
    refine (implLabelFault_calls a len cap zs _ hl (hs.below hb0 (Nat.le_refl _))).mono ?_
    rintro e w1 ⟨rfl, hb⟩
    have M1 := M0.below hb
    go_wp2
    go_ret
    exact ⟨rfl, M1.bel⟩

theorem obsB_eq (xs ys : List Int) : obsB xs ys = (thingB ys && isBelowB ys (resOf (fault xs) (highL xs))) := by
  unfold obsB thingB thing0 isBelowB
  by_cases hx : fault xs = 0
  · rw [resOf_ok hx, fault_highL hx, hx]
    cases (fault ys == 0) <;> cases has ys 0 <;> cases has ys 5 <;> simp
  · rw [resOf_no hx]
    have e : (fault xs == 0) = false := by simp [hx]
    have e2 : (fault [] == 0) = false := by decide
    rw [e, e2]
    simp

theorem field1 (c v : Value) (w : World) : (Instr.field 33 (.agg #[c, v]) 1).run Try.prog w = .ok (.agg #[v]) w := by kernel_rfl

set_option maxRecDepth 100000 in
set_option maxHeartbeats 1000000 in
theorem implCanObserve_calls (a b : Option Addr) (la ca lb cb : Nat) (xs ys : List Int) (w : World) (hla : la ≤ maxLen) (hlb : lb ≤ maxLen) (hx : Sl w a la xs) (hy : Sl w b lb ys) :
    Calls Try.prog 24 #[.agg #[.slice a la ca], .agg #[.slice b lb cb]] w fun e w' => e = .returned (.bool (obsB xs ys)) ∧ Below w.heap.size w w' := by
  have M0 := ((Mem.start w).alloc1 (.slice a la ca) 26).alloc1 (.slice b lb cb) 26
  simp only [World.size_alloc] at M0
  have cB0 := M0.cell 0 rfl
  rw [obsB_eq]
  cases ht : thingB ys with
  | true =>
    have Ht := hide ht
    clear ht
    have fd := field1
    go_enter Try.func24, Try.ntmps24
    go_wp2_with fail
    go_region_with (first
      | (go_at_call 56; refine (isThing_calls b lb cb ys _ hlb ?_).mono ?_; exact hy.below M0.drew.bel (Nat.le_refl _); rintro e w1 ⟨rfl, hb1⟩; rw [Ht.out]; have M1 := M0.drew.below hb1; have cB1 := M1.cell 0 rfl; have cA1 := M1.cell 1 rfl; clear hb1)
      | (go_at_call 20; refine (implHighLabel_calls a la ca xs _ hla ?_).mono ?_; exact hx.below M1.bel (Nat.le_refl _); rintro e w2 ⟨ra, rn, rc, rfl, ho, hb2⟩; have M2 := M1.below hb2; have cB2 := M2.cell 0 rfl; have hrm : rn ≤ maxLen := Nat.le_trans ho.2.1 (by unfold maxLen; omega); clear hb2)
      | (go_at_call 11; refine (implIsBelow_calls _ _ _ _ _ _ ys (resOf (fault xs) (highL xs)) _ hlb hrm ?_ ?_).mono ?_; exact hy.below M2.bel (Nat.le_refl _); exact ho.sl; rintro e w3 ⟨rfl, hb3⟩; have M3 := M2.below hb3; clear hb3))
    all_goals go_wp2
    all_goals go_ret
    all_goals exact ⟨ret_bool (by simp), M3.bel⟩
  | false =>
    have Ht := hide ht
    clear ht
    go_enter Try.func24, Try.ntmps24
    go_wp2_with fail
    go_region_with (first
      | (go_at_call 56; refine (isThing_calls b lb cb ys _ hlb ?_).mono ?_; exact hy.below M0.drew.bel (Nat.le_refl _); rintro e w1 ⟨rfl, hb1⟩; rw [Ht.out]; have M1 := M0.drew.below hb1; clear hb1))
    all_goals go_wp2
    all_goals go_ret
    all_goals exact ⟨ret_bool (by simp), M1.bel⟩

end Go.Proofs.Ytjahlhibgnbkgaa
