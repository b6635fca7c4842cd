import Derived.Test.YtdcfdmcooonfkabPaS
import Derived.Test.YtdcfdmcooonfkabPaT
import Derived.WalkKit
import Derived.ProofKit
import Derived.OpenShut
import Derived.ShutString
import Derived.ChangeOld
import Derived.Below
import Derived.WalkSpells
import Derived.Deep.QuietTactic
import Derived.BigQuiet
import Derived.Deep.RegionWith
import Derived.Deep.WholeRow
import Derived.Deep.DeepCutAuto
import Derived.Deep.RegionHeld2
import Derived.Deep.AppendLies
import Derived.Deep.RegionLaw
namespace Go.Proofs.Ytdcfdmcooonfkab
open Go.ChangeShapes Go.WideShapes Go.ChangeAt Go.RowKit

theorem mix4e (f : Int → Int → Int) {xs : List Int} (ys : List Int) (h : xs.length = 4) : mix f xs ys = (List.range 4).map (fun j => f (gt xs j) (gt ys j)) := by unfold mix; rw [h]

/-- two labels joined, of which the first k levels are done: what is owned on either side has its star. -/
def enK (k : Nat) (xs ys : List Int) : List Int := (List.range 4).map (fun j => if j < k then ent (gt xs j) (gt ys j) else max (gt xs j) (gt ys j))

theorem length_enK (k : Nat) (xs ys : List Int) : (enK k xs ys).length = 4 := by simp [enK]

theorem enK_start {xs : List Int} (ys : List Int) (h : xs.length = 4) : enK 0 xs ys = mix max xs ys := by simp [enK, mix, h]

theorem enK_end {xs : List Int} (ys : List Int) (h : xs.length = 4) : enK 4 xs ys = mix ent xs ys := by
  unfold enK
  rw [mix4e ent ys h]
  exact List.map_congr_left (fun j hj => if_pos (by simpa using hj))

theorem ent_star {x g : Int} (h : x = 0 ∨ g = 0) : ent x g = 0 := by
  unfold ent td
  rcases h with h | h
  · subst h; split <;> rfl
  · rw [if_pos h]

theorem ent_same {x g : Int} (h : x ≠ 0) (h2 : g ≠ 0) : ent x g = max x g := by unfold ent td; rw [if_neg h2, if_neg h]

theorem enK_star {k : Nat} {xs : List Int} (ys : List Int) (hk : k < 4) (h : gt xs k = 0 ∨ gt ys k = 0) : (enK k xs ys).set k 0 = enK (k + 1) xs ys := by
  have he := ent_star h
  obtain rfl | rfl | rfl | rfl : k = 0 ∨ k = 1 ∨ k = 2 ∨ k = 3 := by omega
  all_goals simp [enK, he, List.range, List.range.loop]

theorem enK_same {k : Nat} {xs : List Int} (ys : List Int) (hk : k < 4) (h : gt xs k ≠ 0) (h2 : gt ys k ≠ 0) : enK k xs ys = enK (k + 1) xs ys := by
  have he := ent_same h h2
  obtain rfl | rfl | rfl | rfl : k = 0 ∨ k = 1 ∨ k = 2 ∨ k = 3 := by omega
  all_goals simp [enK, he, List.range, List.range.loop]

theorem epC_psF {z y x : List Int} (h : psF z y ≠ 0) : epC z y x = psF z y := if_neg h

theorem epC_who {z y x : List Int} (h : psF z y = 0) (h2 : fault x ≠ 0) : epC z y x = fault x := by unfold epC; rw [if_pos h, if_neg h2]

theorem epC_den {z y x : List Int} (h : psF z y = 0) (h2 : fault x = 0) (h3 : belowB x y = false) : epC z y x = 6 := by unfold epC; rw [if_pos h, if_pos h2, h3]; rfl

theorem epC_ok {z y x : List Int} (h : psF z y = 0) (h2 : fault x = 0) (h3 : belowB x y = true) : epC z y x = 0 := by unfold epC; rw [if_pos h, if_pos h2, h3]; rfl

theorem epL_no {z y x : List Int} (h : epC z y x ≠ 0) : epL z y x = [] := if_neg h

theorem epL_ok {z y x : List Int} (h : epC z y x = 0) : epL z y x = mix ent x z := if_pos h

theorem osNil (S : Nat → Prop) (w : World) : OS S none 0 [] w := ⟨rfl, by omega, .inl rfl⟩

theorem Blk.past {w : World} {b : Nat} {zs : List Int} (h : Blk w b zs) (o : Obj) : Blk (w.alloc o) b zs := h.below ((Below.refl _ _).alloc (Nat.le_refl _) o)

theorem tlC_who {x y : List Int} (h : fault x ≠ 0) : tlC x y = fault x := if_neg h

theorem tlC_thg {x y : List Int} (h : fault x = 0) : tlC x y = thgF y := if_pos h

theorem tlL_no {x y : List Int} (h : tlC x y ≠ 0) : tlL x y = [] := if_neg h

theorem tlL_ok {x y : List Int} (h : tlC x y = 0) : tlL x y = mix td x y := if_pos h

theorem tlC_both {x y : List Int} (h : both x y ≠ 0) : tlC x y = both x y := by
  unfold both at h ⊢
  by_cases hx : fault x = 0
  · rw [if_pos hx] at h ⊢
    rw [tlC_thg hx]; exact if_pos h
  · rw [if_neg hx]; exact tlC_who hx

theorem tlC_form {x y : List Int} (h : both x y = 0) (ht : thing0 y = false) : tlC x y = 1 := by
  have hx : fault x = 0 := by unfold both at h; split at h <;> simp_all
  have hy : fault y = 0 := by unfold both at h; rw [if_pos hx] at h; exact h
  rw [tlC_thg hx]; unfold thgF; rw [if_neg (by simp [hy]), if_pos ht]

theorem tlC_ok {x y : List Int} (h : both x y = 0) (ht : thing0 y = true) : tlC x y = 0 := by
  have hx : fault x = 0 := by unfold both at h; split at h <;> simp_all
  have hy : fault y = 0 := by unfold both at h; rw [if_pos hx] at h; exact h
  rw [tlC_thg hx]; unfold thgF; rw [if_neg (by simp [hy]), if_neg (by simp [ht])]

theorem both_zz {x y : List Int} (h : both x y = 0) : fault x = 0 ∧ fault y = 0 := by
  have hx : fault x = 0 := by unfold both at h; split at h <;> simp_all
  exact ⟨hx, by unfold both at h; rw [if_pos hx] at h; exact h⟩

end Go.Proofs.Ytdcfdmcooonfkab
