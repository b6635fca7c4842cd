import Derived.Test.YtlilbbkidaahlaaFillP
import Derived.Test.YtlilbbkidaahlaaChLook
import Derived.WalkKit
import Derived.ProofKit
import Derived.OpenShut
import Derived.ShutString
import Derived.ChangeOld
import Derived.Below
import Derived.WalkSpells
import Derived.Deep.QuietTactic
import Derived.BigQuiet
import Derived.Deep.RegionWith
import Derived.Deep.WholeRow
import Derived.Deep.DeepCutAuto
import Derived.Deep.RegionHeld2
import Derived.Deep.AppendLies
import Derived.Deep.RegionLaw
namespace Go.Proofs.Ytlilbbkidaahlaa
open Go.ChangeShapes Go.WideShapes Go.ChangeAt Go.RowKit

/-- two lines of different domains or tags. -/
def keyNe (x y : Int × Int × Int) : Prop := ¬ (x.1 = y.1 ∧ x.2.1 = y.2.1)

theorem g3_get {ls : List (Int × Int × Int)} {j : Nat} (h : j < ls.length) : g3 ls j = ls[j] := by simp [g3, h]

theorem pw_of {ls : List (Int × Int × Int)} (h : ∀ j, j < ls.length → atL ls (g3 ls j).1 (g3 ls j).2.1 = (j : Int)) : ls.Pairwise keyNe := by
  rw [List.pairwise_iff_getElem]
  intro i j hi hj hij ⟨e1, e2⟩
  have hat := h j hj
  rcases hit_or ls (g3 ls j).1 (g3 ls j).2.1 j with k | ⟨i0, k1, k2, k3⟩
  · have := k i hij
    rw [g3_get hi, g3_get hj] at this
    simp [hitL, e1, e2] at this
  · rw [atL_hit (by omega) k2 k3] at hat
    omega

theorem of_pw {ls : List (Int × Int × Int)} (h : ls.Pairwise keyNe) : ∀ j, j < ls.length → atL ls (g3 ls j).1 (g3 ls j).2.1 = (j : Int) := by
  intro j hj
  refine atL_hit hj (fun i hi => ?_) (hitL_self _)
  rw [List.pairwise_iff_getElem] at h
  have k := h i j (by omega) hj hi
  rw [g3_get (by omega : i < ls.length), g3_get hj]
  cases hh : hitL ls[j].1 ls[j].2.1 ls[i] with
  | false => rfl
  | true => exact absurd (hitL_eq hh) k

theorem faultC_good {s : Int} {ls : List (Int × Int × Int)} (h : faultC s ls = 0) : 0 ≤ s ∧ s ≤ 6 ∧ (ls.length : Int) ≤ s ∧ (∀ y ∈ ls, okL y = true) ∧ ls.Pairwise keyNe := by
  obtain ⟨h1, h2, h3, h4⟩ := faultC_inv h
  exact ⟨h1, h2, h3, fun y hy => by obtain ⟨j, hj, rfl⟩ := mem_g3 hy; exact (h4 j hj).1, pw_of (fun j hj => (h4 j hj).2)⟩

theorem faultC_mk {s : Int} {ls : List (Int × Int × Int)} (h1 : 0 ≤ s) (h2 : s ≤ 6) (h3 : (ls.length : Int) ≤ s) (h4 : ∀ y ∈ ls, okL y = true) (h5 : ls.Pairwise keyNe) : faultC s ls = 0 :=
  faultC_ok (by simp [h1, h2]) (by omega) (fun j hj => lineF_ok (h4 _ (by rw [g3_get hj]; exact List.getElem_mem hj)) (of_pw h5 j hj))

theorem lk_mem {s : Int} {ls : List (Int × Int × Int)} {y : Int × Int × Int} (h : faultC s ls = 0) (hy : y ∈ ls) : lkC s ls y.1 y.2.1 = 0 ∧ lkV s ls y.1 y.2.1 = y.2.2 := by
  obtain ⟨j, hj, rfl⟩ := mem_g3 hy
  have e := ((faultC_inv h).2.2.2 j hj).2
  unfold lkC lkV
  rw [if_pos h, if_pos h, e, if_neg (by omega), if_neg (by omega)]
  simp

theorem lk_not {s : Int} {ls : List (Int × Int × Int)} {d t : Int} (h : faultC s ls = 0) (hy : ∀ y ∈ ls, ¬ (y.1 = d ∧ y.2.1 = t)) : lkC s ls d t = 4 ∧ lkV s ls d t = 0 := by
  have e : atL ls d t = -1 := atL_none (fun j hj => by
    have := hy (g3 ls j) (by rw [g3_get hj]; exact List.getElem_mem hj)
    cases hh : hitL d t (g3 ls j) with
    | false => rfl
    | true => exact absurd (hitL_eq hh) this)
  unfold lkC lkV
  rw [if_pos h, if_pos h, e]
  exact ⟨rfl, rfl⟩

theorem dropL_sub (ls : List (Int × Int × Int)) (d t : Int) : (dropL ls d t).Sublist ls := by
  unfold dropL
  split
  · exact List.Sublist.refl _
  · exact List.eraseIdx_sublist _ _

theorem evL_sub (ls : List (Int × Int × Int)) (p : Int) : (evL ls p).Sublist ls := by
  unfold evL
  split
  · exact List.Sublist.refl _
  · exact List.eraseIdx_sublist _ _

theorem dropL_not {s : Int} {ls : List (Int × Int × Int)} {d t : Int} (h : faultC s ls = 0) (hd : 0 ≤ d) (ht : 0 ≤ t) : ∀ y ∈ dropL ls d t, ¬ (y.1 = d ∧ y.2.1 = t) := by
  intro y hy ⟨e1, e2⟩
  rw [← flL_dropL (fun j hj => ((faultC_inv h).2.2.2 j hj).2) hd ht] at hy
  have := (List.mem_filter.1 hy).2
  rw [gone_hit hd ht] at this
  simp [hitL, e1, e2] at this

/-- what was filled, told by what was there. -/
theorem fi_parts {s : Int} {ls : List (Int × Int × Int)} {x : Int × Int × Int} {p : Int} (h : faultC s ls = 0) (hx : okL x = true) (_ : 0 ≤ p) (hs : s ≠ 0) :
    ∃ ks, fiL s ls x p = ks ++ [x] ∧ ks.Sublist ls ∧ (ks.length : Int) < s ∧ ∀ y ∈ ks, ¬ (y.1 = x.1 ∧ y.2.1 = x.2.1) := by
  have hn := okL_nonneg hx
  have hd := dropL_not h hn.1 hn.2
  have hg := faultC_good h
  by_cases hf : s ≤ ((dropL ls x.1 x.2.1).length : Int)
  · refine ⟨evL (dropL ls x.1 x.2.1) p, fiL_full hs rfl hf, (evL_sub _ _).trans (dropL_sub _ _ _), ?_, fun y hy => hd y ((evL_sub _ _).subset hy)⟩
    have hl := length_dropL ls x.1 x.2.1
    have h0 : (dropL ls x.1 x.2.1).length ≠ 0 := by have := hg.1; omega
    unfold evL
    rw [if_neg h0, List.length_eraseIdx, if_pos (by have := Int.emod_lt_of_pos p (show (0 : Int) < ((dropL ls x.1 x.2.1).length : Int) by omega); have := Int.emod_nonneg p (show ((dropL ls x.1 x.2.1).length : Int) ≠ 0 by omega); omega)]
    have := hg.2.2.1
    omega
  · exact ⟨dropL ls x.1 x.2.1, fiL_room hs rfl hf, dropL_sub _ _ _, by omega, hd⟩

theorem fi_good {s : Int} {ls : List (Int × Int × Int)} {x : Int × Int × Int} {p : Int} (h : faultC s ls = 0) (hx : okL x = true) (hp : 0 ≤ p) : faultC s (fiL s ls x p) = 0 ∧ ((fiL s ls x p).length : Int) ≤ s := by
  have hg := faultC_good h
  by_cases hs : s = 0
  · rw [fiL_zero hs]
    exact ⟨faultC_mk hg.1 hg.2.1 (by simpa using hg.1) (by simp) List.Pairwise.nil, by simpa using hg.1⟩
  · obtain ⟨ks, e, hsub, hlen, hno⟩ := fi_parts h hx hp hs
    rw [e]
    have hl : ((ks ++ [x]).length : Int) ≤ s := by rw [List.length_append]; simp; omega
    refine ⟨faultC_mk hg.1 hg.2.1 hl (fun y hy => ?_) ?_, hl⟩
    · rcases List.mem_append.1 hy with hy | hy
      · exact hg.2.2.2.1 y (hsub.subset hy)
      · rw [List.mem_singleton.1 hy]; exact hx
    · rw [List.pairwise_append]
      refine ⟨hg.2.2.2.2.sublist hsub, List.pairwise_singleton _ _, fun y hy z hz => ?_⟩
      rw [List.mem_singleton.1 hz]
      exact hno y hy

theorem fi_mem {s : Int} {ls : List (Int × Int × Int)} {x y : Int × Int × Int} {p : Int} (h : faultC s ls = 0) (hx : okL x = true) (hp : 0 ≤ p) (hy : y ∈ fiL s ls x p) : y = x ∨ (lkC s ls y.1 y.2.1 = 0 ∧ lkV s ls y.1 y.2.1 = y.2.2) := by
  by_cases hs : s = 0
  · rw [fiL_zero hs] at hy
    cases hy
  · obtain ⟨ks, e, hsub, _, _⟩ := fi_parts h hx hp hs
    rw [e] at hy
    rcases List.mem_append.1 hy with hy | hy
    · exact .inr (lk_mem h (hsub.subset hy))
    · exact .inl (List.mem_singleton.1 hy)

theorem fi_known {s : Int} {ls : List (Int × Int × Int)} {x : Int × Int × Int} {p : Int} (h : faultC s ls = 0) (hx : okL x = true) (hp : 0 ≤ p) :
    (s = 0 ∧ lkC s (fiL s ls x p) x.1 x.2.1 = 4) ∨ (0 < s ∧ lkC s (fiL s ls x p) x.1 x.2.1 = 0 ∧ lkV s (fiL s ls x p) x.1 x.2.1 = x.2.2) := by
  have hgood := (fi_good h hx hp).1
  by_cases hs : s = 0
  · exact .inl ⟨hs, (lk_not hgood (by rw [fiL_zero hs]; simp)).1⟩
  · obtain ⟨ks, e, _, hl, _⟩ := fi_parts h hx hp hs
    have := (faultC_good h).1
    refine .inr ⟨by omega, ?_⟩
    exact lk_mem hgood (by rw [e]; simp)

end Go.Proofs.Ytlilbbkidaahlaa
