import Derived.Test.YtdcfdmcooonfkaaPsO
import Derived.Test.YtdcfdmcooonfkaaPaS3
import Derived.WalkKit
import Derived.ProofKit
import Derived.OpenShut
import Derived.ShutString
import Derived.ChangeOld
import Derived.Below
import Derived.WalkSpells
import Derived.Deep.QuietTactic
import Derived.BigQuiet
import Derived.Deep.RegionWith
import Derived.Deep.WholeRow
import Derived.Deep.DeepCutAuto
import Derived.Deep.RegionHeld2
import Derived.Deep.AppendLies
import Derived.Deep.RegionLaw
namespace Go.Proofs.Ytdcfdmcooonfkaa
open Go.ChangeShapes Go.WideShapes Go.ChangeAt Go.RowKit

theorem fault_g {zs : List Int} (h4 : zs.length = 4) (h : ∀ j, j < 4 → 0 ≤ gt zs j ∧ gt zs j ≤ 5) : fault zs = 0 := by
  refine fault_ok zs h4 ?_
  have h0 := h 0 (by omega)
  have h1 := h 1 (by omega)
  have h2 := h 2 (by omega)
  have h3 := h 3 (by omega)
  rw [list4 h4]
  simp [okI, h0, h1, h2, h3]

theorem gt_td {A B : List Int} (h : A.length = 4) {j : Nat} (hj : j < 4) : gt (mix td A B) j = td (gt A j) (gt B j) := gt_mix td A B j (by omega)

theorem gt_ent {A B : List Int} (h : A.length = 4) {j : Nat} (hj : j < 4) : gt (mix ent A B) j = ent (gt A j) (gt B j) := gt_mix ent A B j (by omega)

theorem tlC_inv {A B : List Int} (h : tlC A B = 0) : fault A = 0 ∧ fault B = 0 ∧ thing0 B = true ∧ thgF B = 0 := by
  have fa : fault A = 0 := by
    by_cases e : fault A = 0
    · exact e
    · rw [tlC_who e] at h; exact absurd h e
  have hb : thgF B = 0 := by rw [tlC_thg fa] at h; exact h
  refine ⟨fa, ?_, ?_, hb⟩
  · unfold thgF at hb
    split at hb
    · contradiction
    · simp_all
  · unfold thgF at hb
    split at hb
    · contradiction
    · split at hb
      · contradiction
      · simp_all

theorem tl_facts {A B : List Int} (h : tlC A B = 0) : isBelowB A (tlL A B) = true ∧ obsB (tlL A B) B = true ∧ tlL (tlL A B) B = tlL A B := by
  obtain ⟨fa, fb, tb, hb⟩ := tlC_inv h
  have la := fault_len fa
  have lb := fault_len fb
  have a := fun j (hj : j < 4) => fault_all fa j (by omega)
  have b := fun j (hj : j < 4) => fault_all fb j (by omega)
  have lc : (mix td A B).length = 4 := (length_mix td A B).trans la
  have fc : fault (mix td A B) = 0 := fault_g lc (fun j hj => by
    rw [gt_td la hj]
    have := a j hj
    have := b j hj
    unfold td
    split <;> omega)
  rw [tlL_ok h]
  refine ⟨?_, ?_, ?_⟩
  · unfold isBelowB
    rw [fa, fc]
    simp only [beq_self_eq_true, Bool.true_and]
    exact belowB_yes (fun j hj => by
      rw [gt_td la hj]
      have := a j hj
      unfold td
      split <;> omega)
  · unfold obsB
    rw [fc, fb, tb]
    simp only [beq_self_eq_true, Bool.true_and]
    exact belowB_yes (fun j hj => by
      rw [gt_highL _ _ (by omega), gt_td la hj]
      have := a j hj
      have := b j hj
      unfold td
      split <;> split <;> omega)
  · rw [tlL_ok ((tlC_thg fc).trans hb)]
    refine getD_ext (by rw [length_mix]) (fun j hj => ?_)
    rw [length_mix] at hj
    rw [gt_td lc (by omega), gt_td la (by omega)]
    have := a j (by omega)
    have := b j (by omega)
    unfold td
    split <;> (try split) <;> omega

theorem ep_ok {z y x : List Int} (h : epC z y x = 0) : psF z y = 0 ∧ fault x = 0 ∧ belowB x y = true := by
  by_cases h1 : psF z y = 0
  · by_cases h2 : fault x = 0
    · cases h3 : belowB x y with
      | true => exact ⟨h1, h2, rfl⟩
      | false => rw [epC_den h1 h2 h3] at h; contradiction
    · rw [epC_who h1 h2] at h; exact absurd h h2
  · rw [epC_psF h1] at h; exact absurd h h1

theorem ep_me0 {z y x : List Int} (h : epC z y x = 0) : meB z y x = true := by
  obtain ⟨h1, h2, h3⟩ := ep_ok h
  unfold meB
  rw [h1, h2, h3]
  rfl

theorem ep_me1 {z y x : List Int} (h : epC z y x ≠ 0) : meB z y x = false := by
  by_cases h1 : psF z y = 0
  · by_cases h2 : fault x = 0
    · cases h3 : belowB x y with
      | true => exact absurd (epC_ok h1 h2 h3) h
      | false => unfold meB; rw [h1, h2, h3]; rfl
    · have e : (fault x == 0) = false := by simpa using h2
      unfold meB; rw [h1, e]; rfl
  · exact meB_no h1

theorem ent_zero {a b : Int} (ha : 0 ≤ a) (hb : 0 ≤ b) : (ent a b == 0) = ((a == 0) || (b == 0)) := by
  unfold ent td
  rw [Bool.eq_iff_iff]
  simp only [beq_iff_eq, Bool.or_eq_true]
  split
  · omega
  · split <;> omega

theorem ent_rest {a b : Int} (h : a ≠ 0) (h2 : b ≠ 0) : ¬ ent a b < a ∧ ¬ ent a b < b := by
  unfold ent td
  rw [if_neg h2, if_neg h]
  omega

theorem ep_fault {z y x : List Int} (h : epC z y x = 0) : fault (mix ent x z) = 0 ∧ (mix ent x z).length = 4 := by
  obtain ⟨h1, h2, _⟩ := ep_ok h
  have h3 := (psF_zero h1).1
  have la := fault_len h2
  have lb := fault_len h3
  have lc : (mix ent x z).length = 4 := (length_mix ent x z).trans la
  refine ⟨fault_g lc (fun j hj => ?_), lc⟩
  rw [gt_ent la hj]
  have := fault_all h2 j (by omega)
  have := fault_all h3 j (by omega)
  unfold ent td
  split
  · omega
  · split <;> omega

theorem ep_again {z y x : List Int} (h : epC z y x = 0) : (epC z y (mix ent x z) = 0 ∧ epL z y (mix ent x z) = mix ent x z) ∨ (epC z y (mix ent x z) ≠ 0 ∧ epC z y (mix ent x z) = 6) := by
  obtain ⟨h1, h2, _⟩ := ep_ok h
  obtain ⟨hf, hl⟩ := ep_fault h
  cases hb : belowB (mix ent x z) y with
  | false => exact .inr ⟨by rw [epC_den h1 hf hb]; decide, epC_den h1 hf hb⟩
  | true =>
    have hc := epC_ok h1 hf hb
    refine .inl ⟨hc, ?_⟩
    rw [epL_ok hc]
    refine getD_ext (by rw [length_mix]) (fun j hj => ?_)
    rw [length_mix, hl] at hj
    rw [gt_ent hl hj, gt_ent (fault_len h2) hj]
    unfold ent td
    split
    · rfl
    · split <;> (try split) <;> omega

theorem st_owns {x : List Int} (h : fault x = 0) : decide (0 < ((stL x).length : Int)) = ownsB x := by
  have hl := fault_len h
  unfold stL ownsB
  rw [resOf_ok h, hl, h]
  match x, hl with
  | [a, b, c, d], _ =>
    simp only [stK, gt, has, List.getD_cons_zero, List.getD_cons_succ, List.any_cons, List.any_nil]
    by_cases h0 : a = 0 <;> by_cases h1 : b = 0 <;> by_cases h2 : c = 0 <;> by_cases h3 : d = 0 <;> simp [h0, h1, h2, h3] <;> decide

theorem dsC_inv {x : List Int} {c l : Int} (h : dsC x c l = 0) : fault x = 0 ∧ ∃ j : Nat, c = (j : Int) ∧ j < 4 ∧ 1 ≤ l ∧ l ≤ 4 ∧ gt x j = 0 := by
  by_cases h1 : fault x = 0
  · refine ⟨h1, ?_⟩
    cases h2 : dsB c l with
    | false => rw [dsC_rng h1 h2] at h; contradiction
    | true =>
      have h3 := h2
      unfold dsB at h3
      simp only [Bool.and_eq_true, decide_eq_true_eq] at h3
      obtain ⟨j, rfl⟩ := Int.eq_ofNat_of_zero_le h3.1.1
      refine ⟨j, rfl, by omega, h3.2.1, h3.2.2, ?_⟩
      by_cases h4 : gt x j = 0
      · exact h4
      · rw [dsC_non h1 h2 h4] at h; contradiction
  · rw [dsC_who h1] at h; exact absurd h h1

theorem ds_facts {x : List Int} {j : Nat} {l : Int} (h : fault x = 0) (hj : j < 4) (h1 : 1 ≤ l) (h4 : l ≤ 4) (hg : gt x j = 0) :
    fault (x.set j l) = 0 ∧ (x.set j l).length = 4 ∧ ((stL (x.set j l)).length : Int) = ((stL x).length : Int) - 1 ∧ isBelowB x (x.set j l) = true ∧ gt (x.set j l) j = l ∧ ownsB (x.set j l) = decide (1 < ((stL x).length : Int)) := by
  have hl := fault_len h
  have ha := fun j (hj : j < 4) => fault_all h j (by omega)
  have hs : (x.set j l).length = 4 := by rw [List.length_set]; exact hl
  have hgt : ∀ i, i < 4 → gt (x.set j l) i = if i = j then l else gt x i := fun i hi => by
    by_cases e : i = j
    · subst e; simp [gt, hl, hi]
    · rw [if_neg e]; simp [gt, Ne.symm e]
  have hf : fault (x.set j l) = 0 := fault_g hs (fun i hi => by
    rw [hgt i hi]
    have := ha i hi
    split <;> omega)
  refine ⟨hf, hs, ?_, ?_, ?_, ?_⟩
  · unfold stL
    rw [resOf_ok h, resOf_ok hf, hs, hl]
    match x, hl with
    | [a, b, c, d], _ =>
      obtain rfl | rfl | rfl | rfl : j = 0 ∨ j = 1 ∨ j = 2 ∨ j = 3 := by omega
      all_goals (
        simp only [gt, List.getD_cons_zero, List.getD_cons_succ] at hg
        subst hg
        have hl0 : l ≠ 0 := by omega
        simp only [stK, gt, List.set_cons_zero, List.set_cons_succ, List.getD_cons_zero, List.getD_cons_succ, if_neg hl0, List.length_append]
        simp
        try omega)
  · unfold isBelowB
    rw [h, hf]
    simp only [beq_self_eq_true, Bool.true_and]
    exact belowB_yes (fun i hi => by
      rw [hgt i hi]
      split
      · rename_i e; subst e; omega
      · omega)
  · rw [hgt j hj, if_pos rfl]
  · unfold stL ownsB
    rw [resOf_ok h, hf, hl]
    match x, hl with
    | [a, b, c, d], _ =>
      obtain rfl | rfl | rfl | rfl : j = 0 ∨ j = 1 ∨ j = 2 ∨ j = 3 := by omega
      all_goals (
        simp only [gt, List.getD_cons_zero, List.getD_cons_succ] at hg
        have hl0 : ¬ l = 0 := by omega
        simp only [stK, gt, has, List.set_cons_zero, List.set_cons_succ, List.getD_cons_zero, List.getD_cons_succ, List.any_cons, List.any_nil]
        by_cases h0 : a = 0 <;> by_cases h1 : b = 0 <;> by_cases h2 : c = 0 <;> by_cases h3 : d = 0 <;> simp_all <;> decide)

end Go.Proofs.Ytdcfdmcooonfkaa
