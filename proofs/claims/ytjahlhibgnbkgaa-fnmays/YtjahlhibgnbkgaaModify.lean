import Derived.Test.YtjahlhibgnbkgaaObsI
import Derived.WalkKit
import Derived.ProofKit
import Derived.OpenShut
import Derived.ShutString
import Derived.ChangeOld
import Derived.Below
import Derived.WalkSpells
import Derived.Deep.QuietTactic
import Derived.BigQuiet
import Derived.Deep.RegionWith
import Derived.Deep.WholeRow
import Derived.Deep.DeepCutAuto
import Derived.Deep.RegionHeld2
import Derived.Deep.AppendLies
import Derived.Deep.RegionLaw
namespace Go.Proofs.Ytjahlhibgnbkgaa
open Go.ChangeShapes Go.WideShapes Go.ChangeAt Go.RowKit

def modB (who what : List Int) : Bool := ((fault who == 0) && (fault what == 0)) && ((thing0 what && belowB what (highL who)) && belowB who what)

theorem modB_eq (xs ys : List Int) : modB xs ys = (obsB xs ys && isBelowB xs ys) := by
  unfold modB obsB isBelowB
  cases (fault xs == 0) <;> cases (fault ys == 0) <;> simp

set_option maxRecDepth 100000 in
theorem l1Modify_calls (p q : Nat) (a b : Option Addr) (ca cb : Nat) (xs ys : List Int) (w : World) (hp : p < w.heap.size) (hq : q < w.heap.size)
    (hpc : w.cell? ⟨p, 0, none⟩ = some (.slice a 4 ca)) (hqc : w.cell? ⟨q, 0, none⟩ = some (.slice b 4 cb)) (hx : Sl w a 4 xs) (hy : Sl w b 4 ys) :
    Calls Try.prog 58 #[.pointer (some ⟨p, 0, none⟩), .pointer (some ⟨q, 0, none⟩)] w fun e w' => e = .returned (.bool ((thing0 ys && belowB ys (highL xs)) && belowB xs ys)) ∧ Below w.heap.size w w' := by
  cases ht : (thing0 ys && belowB ys (highL xs)) with
  | true =>
    have Ht := hide ht
    clear ht
    go_enter Try.func58, Try.ntmps58
    go_wp2_with fail
    refine (l1Observe_calls p q a b ca cb xs ys _ hp hq hpc hqc hx hy).mono ?_
    rintro e w1 ⟨rfl, hb⟩
    rw [Ht.out]
    have c1 := (hb.cell (p := ⟨p, 0, none⟩) hp).trans hpc
    have c2 := (hb.cell (p := ⟨q, 0, none⟩) hq).trans hqc
    have hsz := hb.size
    go_wp2_with fail
    refine (l1Below_calls p q a b ca cb xs ys _ (by omega) (by omega) c1 c2 (hx.below hb (Nat.le_refl _)) (hy.below hb (Nat.le_refl _))).mono ?_
    rintro e w2 ⟨rfl, hb2⟩
    go_wp2
    go_ret
    exact ⟨ret_bool (by simp), hb.trans (hb2.mono hb.size)⟩
  | false =>
    have Ht := hide ht
    clear ht
    go_enter Try.func58, Try.ntmps58
    go_wp2_with fail
    refine (l1Observe_calls p q a b ca cb xs ys _ hp hq hpc hqc hx hy).mono ?_
    rintro e w1 ⟨rfl, hb⟩
    rw [Ht.out]
    go_wp2
    go_ret
    exact ⟨rfl, hb⟩

set_option maxRecDepth 100000 in
theorem specCanModify_calls (a b : Option Addr) (la ca lb cb : Nat) (xs ys : List Int) (w : World) (hla : la ≤ maxLen) (hlb : lb ≤ maxLen) (hx : Sl w a la xs) (hy : Sl w b lb ys) :
    Calls Try.prog 28 #[.agg #[.slice a la ca], .agg #[.slice b lb cb]] w fun e w' => e = .returned (.bool (modB xs ys)) ∧ Below w.heap.size w w' := by
  have M0 := ((Mem.start w).alloc1 (.slice a la ca) 26).alloc1 (.slice b lb cb) 26
  simp only [World.size_alloc] at M0
  have hb0 := M0.bel
  cases hf : ((fault xs == 0) && (fault ys == 0)) with
  | true =>
    have e : modB xs ys = ((thing0 ys && belowB ys (highL xs)) && belowB xs ys) := by unfold modB; rw [hf]; rfl
    rw [e]
    have Hf := hide hf
    clear e hf
    have hf := Hf.out
    simp only [Bool.and_eq_true, beq_iff_eq] at hf
    have e1 : la = 4 := by rw [← hx.1]; exact fault_len hf.1
    have e2 : lb = 4 := by rw [← hy.1]; exact fault_len hf.2
    subst e1 e2
    clear hf
    go_enter Try.func28, Try.ntmps28
    go_wp2_with fail
    refine (l1Right_calls _ _ a b 4 ca 4 cb xs ys _ hla hlb (M0.lt 1 rfl) (M0.lt 0 rfl) (M0.cell 1 rfl) (M0.cell 0 rfl) (hx.below hb0 (Nat.le_refl _)) (hy.below hb0 (Nat.le_refl _))).mono ?_
    rintro e w1 ⟨rfl, hb⟩
    rw [Hf.out]
    have M1 := M0.below hb
    clear hb M0 hb0
    go_wp2_with fail
    refine (l1Modify_calls _ _ a b ca cb xs ys _ (M1.lt 1 rfl) (M1.lt 0 rfl) (M1.cell 1 rfl) (M1.cell 0 rfl) (hx.below M1.bel (Nat.le_refl _)) (hy.below M1.bel (Nat.le_refl _))).mono ?_
    rintro e w2 ⟨rfl, hb⟩
    have M2 := M1.below hb
    go_wp2
    go_ret
    exact ⟨rfl, M2.bel⟩
  | false =>
    have e : modB xs ys = false := by unfold modB; rw [hf]; rfl
    rw [e]
    have Hf := hide hf
    clear e hf
    go_enter Try.func28, Try.ntmps28
    go_wp2_with fail
    refine (l1Right_calls _ _ a b la ca lb cb xs ys _ hla hlb (M0.lt 1 rfl) (M0.lt 0 rfl) (M0.cell 1 rfl) (M0.cell 0 rfl) (hx.below hb0 (Nat.le_refl _)) (hy.below hb0 (Nat.le_refl _))).mono ?_
    rintro e w1 ⟨rfl, hb⟩
    rw [Hf.out]
    have M1 := M0.below hb
    go_wp2
    go_ret
    exact ⟨rfl, M1.bel⟩

set_option maxRecDepth 100000 in
theorem implCanModify_calls (a b : Option Addr) (la ca lb cb : Nat) (xs ys : List Int) (w : World) (hla : la ≤ maxLen) (hlb : lb ≤ maxLen) (hx : Sl w a la xs) (hy : Sl w b lb ys) :
    Calls Try.prog 25 #[.agg #[.slice a la ca], .agg #[.slice b lb cb]] w fun e w' => e = .returned (.bool (modB xs ys)) ∧ Below w.heap.size w w' := by
  have M0 := ((Mem.start w).alloc1 (.slice a la ca) 26).alloc1 (.slice b lb cb) 26
  simp only [World.size_alloc] at M0
  have hb0 := M0.bel
  rw [modB_eq]
  cases ho : obsB xs ys with
  | true =>
    have Ho := hide ho
    clear ho
    go_enter Try.func25, Try.ntmps25
    go_wp2_with fail
    refine (implCanObserve_calls a b la ca lb cb xs ys _ hla hlb (hx.below hb0 (Nat.le_refl _)) (hy.below hb0 (Nat.le_refl _))).mono ?_
    rintro e w1 ⟨rfl, hb⟩
    rw [Ho.out]
    have M1 := M0.below hb
    have cA := M1.cell 1 rfl
    have cB := M1.cell 0 rfl
    clear hb M0 hb0
    go_wp2_with fail
    refine (implIsBelow_calls a b la ca lb cb xs ys _ hla hlb (hx.below M1.bel (Nat.le_refl _)) (hy.below M1.bel (Nat.le_refl _))).mono ?_
    rintro e w2 ⟨rfl, hb⟩
    have M2 := M1.below hb
    go_wp2
    go_ret
    exact ⟨ret_bool (by simp), M2.bel⟩
  | false =>
    have Ho := hide ho
    clear ho
    go_enter Try.func25, Try.ntmps25
    go_wp2_with fail
    refine (implCanObserve_calls a b la ca lb cb xs ys _ hla hlb (hx.below hb0 (Nat.le_refl _)) (hy.below hb0 (Nat.le_refl _))).mono ?_
    rintro e w1 ⟨rfl, hb⟩
    rw [Ho.out]
    have M1 := M0.below hb
    go_wp2
    go_ret
    exact ⟨rfl, M1.bel⟩

end Go.Proofs.Ytjahlhibgnbkgaa
