import Derived.Test.YtpcdfeccmiiglaaKgF
import Derived.Test.YtpcdfeccmiiglaaKgH
import Derived.Test.YtpcdfeccmiiglaaKgK
import Derived.WalkKit
import Derived.ProofKit
import Derived.OpenShut
import Derived.ShutString
import Derived.ChangeOld
import Derived.Below
import Derived.WalkSpells
import Derived.Deep.QuietTactic
import Derived.BigQuiet
import Derived.Deep.RegionWith
import Derived.Deep.WholeRow
import Derived.Deep.DeepCutAuto
import Derived.Deep.RegionHeld2
import Derived.Deep.AppendLies
import Derived.Deep.RegionLaw
namespace Go.Proofs.Ytpcdfeccmiiglaa
open Go.ChangeShapes Go.WideShapes Go.ChangeAt Go.RowKit

theorem findO_app (f : Nat → OB) (n : Nat) (zs : List Int) (x : Int) : findO f n (zs ++ [x]) = findS f n (findO f n zs) x := by
  unfold findO
  rw [List.foldl_append]
  rfl

/-- no object ahead in the same box has that name. -/
theorem name_of {xs : List OB} (h : kerF xs = 0) {i : Nat} (h0 : 0 < i) (hi : i < xs.length) : ∀ j, j < i → kidHit (gO xs) (gO xs i).1 (gO xs i).2.1 j = false := by
  intro j hj
  have h1 := (oneF_inv ((kerF_inv h).2.2.1 i hi)).2.2.2.2.2
  unfold namB at h1
  rw [if_neg (by omega), Bool.and_eq_true] at h1
  have h2 := h1.2
  rw [Bool.not_eq_true', List.any_eq_false] at h2
  have h3 := h2 j (List.mem_range.2 hj)
  unfold twin at h3
  unfold kidHit
  simpa using h3

theorem kid_self {xs : List OB} (h : kerF xs = 0) {i : Nat} (h0 : 0 < i) (hi : i < xs.length) : kidAt (gO xs) xs.length (gO xs i).1 (gO xs i).2.1 = (i : Int) :=
  kidAt_hit hi (name_of h h0 hi) (by unfold kidHit; simp; omega)

/-- the path of an object, by its last name. -/
theorem path_step {xs : List OB} (h : kerF xs = 0) {i : Nat} (h0 : 0 < i) (hi : i < xs.length) : pathO (gO xs) i i = pathO (gO xs) (gO xs i).1.toNat (gO xs i).1.toNat ++ [(gO xs i).2.1] := by
  obtain ⟨q, rfl⟩ : ∃ q, i = q + 1 := ⟨i - 1, by omega⟩
  have hu := up_of h h0 hi
  have e : pathO (gO xs) (q + 1) (q + 1) = pathO (gO xs) q (gO xs (q + 1)).1.toNat ++ [(gO xs (q + 1)).2.1] := by
    conv => lhs; unfold pathO
    rw [if_neg (by omega)]
  rw [e, pathO_more (n := xs.length) (fun j h0 hj => up_of h h0 hj) q _ (by omega) (by omega)]

/-- its path leads to the object. -/
theorem find_path {xs : List OB} (h : kerF xs = 0) : ∀ (m i : Nat), i ≤ m → i < xs.length → findO (gO xs) xs.length (pathO (gO xs) i i) = (i : Int) := by
  intro m
  induction m with
  | zero => intro i hm _; obtain rfl : i = 0 := by omega
            rfl
  | succ m ih =>
    intro i hm hi
    by_cases h0 : i = 0
    · subst h0; rfl
    · have hu := up_of h (by omega) hi
      rw [path_step h (by omega) hi, findO_app, ih _ (by omega) (by omega)]
      unfold findS
      rw [if_neg (by omega), show (((gO xs i).1.toNat : Nat) : Int) = (gO xs i).1 from by omega]
      exact kid_self h (by omega) hi

theorem kidAt_is {f : Nat → OB} {n : Nat} {p x : Int} (h : 0 ≤ kidAt f n p x) : ∃ i : Nat, kidAt f n p x = (i : Int) ∧ 1 ≤ i ∧ i < n ∧ (f i).1 = p ∧ (f i).2.1 = x := by
  unfold kidAt at h ⊢
  cases h3 : (List.range n).find? (kidHit f p x) with
  | none => rw [h3] at h; simp at h
  | some i =>
    have h1 := List.mem_of_find?_eq_some h3
    have h2 := List.find?_some h3
    unfold kidHit at h2
    simp at h2 h1
    exact ⟨i, rfl, h2.1, h1, h2.2.1, h2.2.2⟩

/-- what is found has that path. -/
theorem path_find {xs : List OB} (h : kerF xs = 0) : ∀ (m : Nat) (zs : List Int), zs.length = m → 0 ≤ findO (gO xs) xs.length zs → pathO (gO xs) (findO (gO xs) xs.length zs).toNat (findO (gO xs) xs.length zs).toNat = zs := by
  intro m
  induction m with
  | zero => intro zs hm _; obtain rfl : zs = [] := List.eq_nil_of_length_eq_zero hm
            rfl
  | succ m ih =>
    intro zs hm hz
    obtain ⟨ys, y, rfl⟩ : ∃ ys y, zs = ys ++ [y] := by
      have hne : zs ≠ [] := by intro e; subst e; simp at hm
      exact ⟨zs.dropLast, zs.getLast hne, (List.dropLast_concat_getLast hne).symm⟩
    have hy : ys.length = m := by simpa using hm
    rw [findO_app] at hz ⊢
    by_cases hn : findO (gO xs) xs.length ys < 0
    · unfold findS at hz; rw [if_pos hn] at hz; omega
    · have e : findS (gO xs) xs.length (findO (gO xs) xs.length ys) y = kidAt (gO xs) xs.length (findO (gO xs) xs.length ys) y := if_neg hn
      rw [e] at hz ⊢
      obtain ⟨i, e2, h1, h2, h3, h4⟩ := kidAt_is hz
      have := ih ys hy (by omega)
      rw [e2, Int.toNat_natCast, path_step h h1 h2, h3, h4, this]

theorem kidO_mem {f : Nat → OB} {p x : Int} : ∀ (k : Nat), x ∈ kidO f p k → ∃ i, 1 ≤ i ∧ i < k ∧ (f i).1 = p ∧ (f i).2.1 = x := by
  intro k
  induction k with
  | zero => intro h; simp [kidO] at h
  | succ k ih =>
    intro h
    unfold kidO at h
    rw [List.mem_append] at h
    rcases h with h | h
    · obtain ⟨i, h1, h2, h3⟩ := ih h
      exact ⟨i, h1, by omega, h3⟩
    · by_cases c : 1 ≤ k ∧ (f k).1 = p
      · rw [if_pos c] at h
        exact ⟨k, c.1, by omega, c.2, (List.mem_singleton.1 h).symm⟩
      · rw [if_neg c] at h; cases h

/-- what FnPaths asks of an object: it is found by its path. -/
theorem fp_find {xs : List OB} {i : Int} (h : askC xs i = 0) : foC xs (pathL xs i) = 0 ∧ foV xs (pathL xs i) = i := by
  obtain ⟨h1, h2, h3⟩ := askC_inv h
  have e : findO (gO xs) xs.length (pathL xs i) = i := by
    rw [show pathL xs i = pathO (gO xs) i.toNat i.toNat from if_pos h, find_path h1 i.toNat i.toNat (Nat.le_refl _) (by omega)]
    omega
  have hc : foC xs (pathL xs i) = 0 := by unfold foC; rw [if_pos h1, e, if_neg (by omega)]
  exact ⟨hc, by unfold foV; rw [if_pos hc, e]⟩

/-- the kids of a box are found. -/
theorem fp_kid {xs : List OB} {i x : Int} (hx : x ∈ kidL xs i) : askC xs i = 0 ∧ foC xs (pathL xs i ++ [x]) = 0 := by
  by_cases hb : boxC xs i = 0
  rotate_left
  · rw [show kidL xs i = [] from if_neg hb] at hx; cases hx
  rw [show kidL xs i = kidO (gO xs) i xs.length from if_pos hb] at hx
  obtain ⟨ha, _⟩ := boxC_inv hb
  obtain ⟨h1, h2, h3⟩ := askC_inv ha
  obtain ⟨k, k1, k2, k3, k4⟩ := kidO_mem _ hx
  refine ⟨ha, ?_⟩
  have e : findO (gO xs) xs.length (pathL xs i) = i := by
    rw [show pathL xs i = pathO (gO xs) i.toNat i.toNat from if_pos ha, find_path h1 i.toNat i.toNat (Nat.le_refl _) (by omega)]
    omega
  have e2 : findO (gO xs) xs.length (pathL xs i ++ [x]) = (k : Int) := by
    rw [findO_app, e]
    unfold findS
    rw [if_neg (by omega), ← k3, ← k4]
    exact kid_self h1 (by omega) k2
  unfold foC
  rw [if_pos h1, e2, if_neg (by omega)]

/-- what a path finds has that path. -/
theorem fp_path {xs : List OB} {zs : List Int} (h : foC xs zs = 0) : pathL xs (foV xs zs) = zs := by
  have ev : foV xs zs = findO (gO xs) xs.length zs := if_pos h
  unfold foC at h
  by_cases h1 : kerF xs = 0
  rotate_left
  · rw [if_neg h1] at h; exact absurd h h1
  rw [if_pos h1] at h
  by_cases h2 : findO (gO xs) xs.length zs < 0
  · rw [if_pos h2] at h; omega
  have hk := (kerF_inv h1).1
  rcases findO_in (gO xs) xs.length (by omega) zs with h3 | h3
  · omega
  have ha : askC xs (findO (gO xs) xs.length zs) = 0 := by
    unfold askC
    rw [if_pos h1, if_pos (inB_iff.2 ⟨by omega, by omega⟩)]
  rw [ev, show pathL xs (findO (gO xs) xs.length zs) = pathO (gO xs) (findO (gO xs) xs.length zs).toNat (findO (gO xs) xs.length zs).toNat from if_pos ha]
  exact path_find h1 zs.length zs rfl (by omega)

/-- no box has less room than is used. -/
theorem fp_free (xs : List OB) (i : Int) : 0 ≤ frV xs i := by
  unfold frV
  by_cases hb : boxC xs i = 0
  rotate_left
  · rw [if_neg hb]; omega
  rw [if_pos hb]
  obtain ⟨ha, hbox⟩ := boxC_inv hb
  obtain ⟨h1, h2, h3⟩ := askC_inv ha
  have h4 := (kerF_inv h1).2.2.2
  rw [List.any_eq_false] at h4
  have h5 := h4 i.toNat (List.mem_range.2 (by omega))
  unfold fullO at h5
  simp [hbox] at h5
  exact h5

theorem pathO_len (f : Nat → OB) : ∀ m i, (pathO f m i).length ≤ m := by
  intro m
  induction m with
  | zero => intro i; simp [pathO]
  | succ m ih =>
    intro i
    unfold pathO
    by_cases h : i = 0
    · rw [if_pos h]; simp
    · rw [if_neg h, List.length_append]
      have := ih (f i).1.toNat
      simp; omega

theorem fp_len (xs : List OB) (i : Int) : (pathL xs i).length ≤ 12 := by
  unfold pathL
  by_cases h : askC xs i = 0
  · rw [if_pos h]
    obtain ⟨h1, h2, h3⟩ := askC_inv h
    have h4 := (kerF_inv h1).2.1
    have h5 := pathO_len (gO xs) i.toNat i.toNat
    omega
  · rw [if_neg h]; simp

end Go.Proofs.Ytpcdfeccmiiglaa
