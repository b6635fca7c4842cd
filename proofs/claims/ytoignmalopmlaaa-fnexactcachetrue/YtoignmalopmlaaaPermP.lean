import Derived.Test.YtoignmalopmlaaaPermI
import Derived.Test.YtoignmalopmlaaaTagLab
import Derived.Test.YtoignmalopmlaaaDomLab
import Derived.WalkKit
import Derived.ProofKit
import Derived.OpenShut
import Derived.ShutString
import Derived.ChangeOld
import Derived.Below
import Derived.WalkSpells
import Derived.Deep.QuietTactic
import Derived.BigQuiet
import Derived.Deep.RegionWith
import Derived.Deep.WholeRow
import Derived.Deep.DeepCutAuto
import Derived.Deep.RegionHeld2
import Derived.Deep.AppendLies
import Derived.Deep.RegionLaw
namespace Go.Proofs.Ytoignmalopmlaaa
open Go.ChangeShapes Go.WideShapes Go.ChangeAt Go.RowKit

def permV (who what : List Int) : Int := if modB who what = true then 7 else if obsB who what = true then 5 else 0

def pmC (ss : List (Int × List Int)) (ts ds : List Int) (d t : Int) : Int := if tabF ss ts ds = 0 then (if inC ds d = 0 then (if t = 0 then 0 else inC ts (t - 1)) else 4) else tabF ss ts ds

def pmV (ss : List (Int × List Int)) (ts ds : List Int) (d t : Int) : Int := if pmC ss ts ds d t = 0 then (if t = 0 then 0 else permV (inL ss ds d) (inL ss ts (t - 1))) else 0

theorem atL_right {ss : List (Int × List Int)} (good : Good ss) {l : List Int} (h : allS ss l = true) {j : Nat} (hj : j < l.length) : fault (atL ss (gt l j)) = 0 := by
  obtain ⟨q, _, hl, hp, e⟩ := allS_at good h hj
  rw [e]
  exact good.right q hl hp

theorem perm_right {xs ys : List Int} (hx : fault xs = 0) (hy : fault ys = 0) : obsB xs ys = (thing0 ys && belowB ys (highL xs)) ∧ modB xs ys = ((thing0 ys && belowB ys (highL xs)) && belowB xs ys) := by
  unfold obsB modB
  rw [hx, hy]
  simp

set_option maxRecDepth 100000 in
theorem permBetween_calls (a b : Option Addr) (la ca lb cb : Nat) (xs ys : List Int) (w : World) (hla : la ≤ maxLen) (hlb : lb ≤ maxLen) (hx : Sl w a la xs) (hy : Sl w b lb ys) :
    Calls Try.prog 112 #[.agg #[.slice a la ca], .agg #[.slice b lb cb]] w fun e w' => e = .returned (.int .i64 (permV xs ys)) ∧ Below w.heap.size w w' := by
  have M0 := ((Mm.start w).alloc1 (.slice a la ca) 41).alloc1 (.slice b lb cb) 41
  simp only [World.size_alloc] at M0
  cases hm : modB xs ys with
  | true =>
    have HV : Hid (permV xs ys = 7) := if_pos hm
    go_enter Try.func112, Try.ntmps112
    go_wp2_with fail
    refine (implCanModify_calls a b la ca lb cb xs ys _ hla hlb (hx.below M0.bel (Nat.le_refl _)) (hy.below M0.bel (Nat.le_refl _))).mono ?_
    rintro e w1 ⟨rfl, g1⟩
    rw [hm]
    have HE := hide (M0.below g1).bel
    clear g1 M0 hm
    go_wp2
    go_ret
    exact ⟨ret_int HV.out.symm, HE.out⟩
  | false =>
    cases ho : obsB xs ys with
    | true =>
      have HV : Hid (permV xs ys = 5) := by show _ = _; unfold permV; rw [hm, ho]; rfl
      go_enter Try.func112, Try.ntmps112
      go_wp2_with fail
      refine (implCanModify_calls a b la ca lb cb xs ys _ hla hlb (hx.below M0.bel (Nat.le_refl _)) (hy.below M0.bel (Nat.le_refl _))).mono ?_
      rintro e w1 ⟨rfl, g1⟩
      rw [hm]
      have M1 := M0.below g1
      have p1 := M1.cell 1 rfl
      have q1 := M1.cell 0 rfl
      clear g1 M0 hm
      go_wp2_with fail
      refine (implCanObserve_calls a b la ca lb cb xs ys _ hla hlb (hx.below M1.bel (Nat.le_refl _)) (hy.below M1.bel (Nat.le_refl _))).mono ?_
      rintro e w2 ⟨rfl, g2⟩
      rw [ho]
      have HE := hide (M1.below g2).bel
      clear g2 M1 ho p1 q1
      go_wp2
      go_ret
      exact ⟨ret_int HV.out.symm, HE.out⟩
    | false =>
      have HV : Hid (permV xs ys = 0) := by show _ = _; unfold permV; rw [hm, ho]; rfl
      go_enter Try.func112, Try.ntmps112
      go_wp2_with fail
      refine (implCanModify_calls a b la ca lb cb xs ys _ hla hlb (hx.below M0.bel (Nat.le_refl _)) (hy.below M0.bel (Nat.le_refl _))).mono ?_
      rintro e w1 ⟨rfl, g1⟩
      rw [hm]
      have M1 := M0.below g1
      have p1 := M1.cell 1 rfl
      have q1 := M1.cell 0 rfl
      clear g1 M0 hm
      go_wp2_with fail
      refine (implCanObserve_calls a b la ca lb cb xs ys _ hla hlb (hx.below M1.bel (Nat.le_refl _)) (hy.below M1.bel (Nat.le_refl _))).mono ?_
      rintro e w2 ⟨rfl, g2⟩
      rw [ho]
      have HE := hide (M1.below g2).bel
      clear g2 M1 ho p1 q1
      go_wp2
      go_ret
      exact ⟨ret_int HV.out.symm, HE.out⟩

end Go.Proofs.Ytoignmalopmlaaa
