import Derived.Test.YtnlkigjgloeonaaGreatHighI
import Derived.Test.YtnlkigjgloeonaaGreatIsBelow
import Derived.Test.YtnlkigjgloeonaaGreatThing
import Derived.WalkKit
import Derived.ProofKit
import Derived.OpenShut
import Derived.ShutString
import Derived.ChangeOld
import Derived.Below
import Derived.WalkSpells
import Derived.Deep.QuietTactic
import Derived.BigQuiet
import Derived.Deep.RegionWith
import Derived.Deep.WholeRow
import Derived.Deep.DeepCutAuto
import Derived.Deep.RegionHeld2
import Derived.Deep.AppendLies
import Derived.Deep.RegionLaw
namespace Go.Proofs.YtnlkigjgloeonaaGreat
open Go.ChangeShapes Go.WideShapes Go.ChangeAt Go.RowKit

def obsB (who what : List Int) : Bool := ((fault who == 0) && (fault what == 0)) && (thing0 what && belowB what (highL who))

theorem fault_highL {zs : List Int} (h : fault zs = 0) : fault (highL zs) = 0 := by
  have h4 := fault_len h
  apply fault_ok
  · rw [length_highL]; exact h4
  · rw [List.all_eq_true]
    intro z hz
    obtain ⟨j, hj, rfl⟩ := List.getElem_of_mem hz
    have hj' : j < zs.length := by rw [length_highL] at hj; exact hj
    have e : (highL zs)[j] = gt (highL zs) j := by simp [gt, hj]
    have hr := fault_all h j hj'
    rw [e, gt_highL zs j hj']
    unfold okI
    split
    · decide
    · simp; omega

theorem obsB_eq (xs ys : List Int) : obsB xs ys = (thingB ys && isBelowB ys (resOf (fault xs) (highL xs))) := by
  unfold obsB thingB thing0 isBelowB
  by_cases hx : fault xs = 0
  · rw [resOf_ok hx, fault_highL hx, hx]
    cases (fault ys == 0) <;> cases has ys 0 <;> cases has ys 5 <;> simp
  · rw [resOf_no hx]
    have e : (fault xs == 0) = false := by simp [hx]
    have e2 : (fault [] == 0) = false := by decide
    rw [e, e2]
    simp

theorem field1 (c v : Value) (w : World) : (Instr.field 112 (.agg #[c, v]) 1).run Tryz.prog w = .ok (.agg #[v]) w := by kernel_rfl

set_option maxRecDepth 100000 in
set_option maxHeartbeats 1000000 in
theorem implCanObserve_calls (a b : Option Addr) (la ca lb cb : Nat) (xs ys : List Int) (w : World) (hla : la ≤ maxLen) (hlb : lb ≤ maxLen) (hx : Sl w a la xs) (hy : Sl w b lb ys) :
    Calls Tryz.prog 162 #[.agg #[.slice a la ca], .agg #[.slice b lb cb]] w fun e w' => e = .returned (.bool (obsB xs ys)) ∧ Below w.heap.size w w' := by
  have M0 := ((Mem.start w).alloc1 (.slice a la ca) 64).alloc1 (.slice b lb cb) 64
  simp only [World.size_alloc] at M0
  have cB0 := M0.cell 0 rfl
  rw [obsB_eq]
  cases ht : thingB ys with
  | true =>
    have Ht := hide ht
    clear ht
    have fd := field1
    go_enter Tryz.func162, Tryz.ntmps162
    go_wp2_with fail
    go_region_with (first
      | (go_at_call 56; refine (isThing_calls b lb cb ys _ hlb ?_).mono ?_; exact hy.below M0.drew.bel (Nat.le_refl _); rintro e w1 ⟨rfl, hb1⟩; rw [Ht.out]; have M1 := M0.drew.below hb1; have cB1 := M1.cell 0 rfl; have cA1 := M1.cell 1 rfl; clear hb1)
      | (go_at_call 165; refine (implHighLabel_calls a la ca xs _ hla ?_).mono ?_; exact hx.below M1.bel (Nat.le_refl _); rintro e w2 ⟨ra, rn, rc, rfl, ho, hb2⟩; have M2 := M1.below hb2; have cB2 := M2.cell 0 rfl; have hrm : rn ≤ maxLen := Nat.le_trans ho.2.1 (by unfold maxLen; omega); clear hb2)
      | (go_at_call 135; refine (implIsBelow_calls _ _ _ _ _ _ ys (resOf (fault xs) (highL xs)) _ hlb hrm ?_ ?_).mono ?_; exact hy.below M2.bel (Nat.le_refl _); exact ho.sl; rintro e w3 ⟨rfl, hb3⟩; have M3 := M2.below hb3; clear hb3))
    all_goals go_wp2
    all_goals go_ret
    all_goals exact ⟨ret_bool (by simp), M3.bel⟩
  | false =>
    have Ht := hide ht
    clear ht
    go_enter Tryz.func162, Tryz.ntmps162
    go_wp2_with fail
    go_region_with (first
      | (go_at_call 56; refine (isThing_calls b lb cb ys _ hlb ?_).mono ?_; exact hy.below M0.drew.bel (Nat.le_refl _); rintro e w1 ⟨rfl, hb1⟩; rw [Ht.out]; have M1 := M0.drew.below hb1; clear hb1))
    all_goals go_wp2
    all_goals go_ret
    all_goals exact ⟨ret_bool (by simp), M1.bel⟩

def modB (who what : List Int) : Bool := ((fault who == 0) && (fault what == 0)) && ((thing0 what && belowB what (highL who)) && belowB who what)

theorem modB_eq (xs ys : List Int) : modB xs ys = (obsB xs ys && isBelowB xs ys) := by
  unfold modB obsB isBelowB
  cases (fault xs == 0) <;> cases (fault ys == 0) <;> simp

set_option maxRecDepth 100000 in
theorem implCanModify_calls (a b : Option Addr) (la ca lb cb : Nat) (xs ys : List Int) (w : World) (hla : la ≤ maxLen) (hlb : lb ≤ maxLen) (hx : Sl w a la xs) (hy : Sl w b lb ys) :
    Calls Tryz.prog 161 #[.agg #[.slice a la ca], .agg #[.slice b lb cb]] w fun e w' => e = .returned (.bool (modB xs ys)) ∧ Below w.heap.size w w' := by
  have M0 := ((Mem.start w).alloc1 (.slice a la ca) 64).alloc1 (.slice b lb cb) 64
  simp only [World.size_alloc] at M0
  have hb0 := M0.bel
  rw [modB_eq]
  cases ho : obsB xs ys with
  | true =>
    have Ho := hide ho
    clear ho
    go_enter Tryz.func161, Tryz.ntmps161
    go_wp2_with fail
    refine (implCanObserve_calls a b la ca lb cb xs ys _ hla hlb (hx.below hb0 (Nat.le_refl _)) (hy.below hb0 (Nat.le_refl _))).mono ?_
    rintro e w1 ⟨rfl, hb⟩
    rw [Ho.out]
    have M1 := M0.below hb
    have cA := M1.cell 1 rfl
    have cB := M1.cell 0 rfl
    clear hb M0 hb0
    go_wp2_with fail
    refine (implIsBelow_calls a b la ca lb cb xs ys _ hla hlb (hx.below M1.bel (Nat.le_refl _)) (hy.below M1.bel (Nat.le_refl _))).mono ?_
    rintro e w2 ⟨rfl, hb⟩
    have M2 := M1.below hb
    go_wp2
    go_ret
    exact ⟨ret_bool (by simp), M2.bel⟩
  | false =>
    have Ho := hide ho
    clear ho
    go_enter Tryz.func161, Tryz.ntmps161
    go_wp2_with fail
    refine (implCanObserve_calls a b la ca lb cb xs ys _ hla hlb (hx.below hb0 (Nat.le_refl _)) (hy.below hb0 (Nat.le_refl _))).mono ?_
    rintro e w1 ⟨rfl, hb⟩
    rw [Ho.out]
    have M1 := M0.below hb
    go_wp2
    go_ret
    exact ⟨rfl, M1.bel⟩

end Go.Proofs.YtnlkigjgloeonaaGreat
