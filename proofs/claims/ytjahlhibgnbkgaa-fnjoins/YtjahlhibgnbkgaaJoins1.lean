import Derived.Test.YtjahlhibgnbkgaaObs
import Derived.WalkKit
import Derived.ProofKit
import Derived.OpenShut
import Derived.ShutString
import Derived.ChangeOld
import Derived.Below
import Derived.WalkSpells
import Derived.Deep.QuietTactic
import Derived.BigQuiet
import Derived.Deep.RegionWith
import Derived.Deep.WholeRow
import Derived.Deep.DeepCutAuto
import Derived.Deep.RegionHeld2
import Derived.Deep.AppendLies
import Derived.Deep.RegionLaw
namespace Go.Proofs.Ytjahlhibgnbkgaa
open Go.ChangeShapes Go.WideShapes Go.ChangeAt Go.RowKit

theorem fault_mix {f : Int → Int → Int} {xs ys : List Int} (hf : ∀ x y, f x y = x ∨ f x y = y) (hx : fault xs = 0) (hy : fault ys = 0) : fault (mix f xs ys) = 0 := by
  have lx := fault_len hx
  have ly := fault_len hy
  apply fault_ok
  · rw [length_mix]; exact lx
  · rw [List.all_eq_true]
    intro z hz
    obtain ⟨j, hj, rfl⟩ := List.getElem_of_mem hz
    have hj' : j < xs.length := by rw [length_mix] at hj; exact hj
    have e : (mix f xs ys)[j] = gt (mix f xs ys) j := by simp [gt, hj]
    have h1 := fault_all hx j hj'
    have h2 := fault_all hy j (by omega)
    rw [e, gt_mix f xs ys j hj']
    unfold okI
    rcases hf (gt xs j) (gt ys j) with h | h
    · rw [h]; simp; omega
    · rw [h]; simp; omega

theorem max_or (x y : Int) : max x y = x ∨ max x y = y := by
  rcases Int.le_total x y with h | h
  · exact .inr (Int.max_eq_right h)
  · exact .inl (Int.max_eq_left h)

theorem min_or (x y : Int) : min x y = x ∨ min x y = y := by
  rcases Int.le_total x y with h | h
  · exact .inl (Int.min_eq_left h)
  · exact .inr (Int.min_eq_right h)

theorem isBelowB_mk {xs ys : List Int} (hx : fault xs = 0) (hy : fault ys = 0) (h : ∀ j, j < 4 → gt xs j ≤ gt ys j) : isBelowB xs ys = true := by
  unfold isBelowB
  rw [hx, hy, belowB_yes h]
  rfl

theorem isBelowB_le {xs ys : List Int} (h : isBelowB xs ys = true) : ∀ j, j < 4 → gt xs j ≤ gt ys j := by
  intro j hj
  unfold isBelowB at h
  simp only [Bool.and_eq_true, beq_iff_eq] at h
  have := List.all_eq_true.1 h.2 j (List.mem_range.2 hj)
  simpa using this

theorem isBelowB_faults {xs ys : List Int} (h : isBelowB xs ys = true) : fault xs = 0 ∧ fault ys = 0 := by
  unfold isBelowB at h
  simp only [Bool.and_eq_true, beq_iff_eq] at h
  exact h.1

theorem join_upA {xs ys : List Int} (hx : fault xs = 0) (hy : fault ys = 0) : isBelowB xs (mix max xs ys) = true :=
  isBelowB_mk hx (fault_mix max_or hx hy) fun j hj => by rw [gt_mix _ _ _ j (by rw [fault_len hx]; exact hj)]; exact Int.le_max_left _ _

theorem join_upB {xs ys : List Int} (hx : fault xs = 0) (hy : fault ys = 0) : isBelowB ys (mix max xs ys) = true :=
  isBelowB_mk hy (fault_mix max_or hx hy) fun j hj => by rw [gt_mix _ _ _ j (by rw [fault_len hx]; exact hj)]; exact Int.le_max_right _ _

theorem meet_dnA {xs ys : List Int} (hx : fault xs = 0) (hy : fault ys = 0) : isBelowB (mix min xs ys) xs = true :=
  isBelowB_mk (fault_mix min_or hx hy) hx fun j hj => by rw [gt_mix _ _ _ j (by rw [fault_len hx]; exact hj)]; exact Int.min_le_left _ _

theorem meet_dnB {xs ys : List Int} (hx : fault xs = 0) (hy : fault ys = 0) : isBelowB (mix min xs ys) ys = true :=
  isBelowB_mk (fault_mix min_or hx hy) hy fun j hj => by rw [gt_mix _ _ _ j (by rw [fault_len hx]; exact hj)]; exact Int.min_le_right _ _

theorem join_least {xs ys ds : List Int} (h : isBelowB xs ds = true) (k : isBelowB ys ds = true) : isBelowB (mix max xs ys) ds = true := by
  have h1 := isBelowB_faults h
  have h2 := isBelowB_faults k
  refine isBelowB_mk (fault_mix max_or h1.1 h2.1) h1.2 fun j hj => ?_
  rw [gt_mix _ _ _ j (by rw [fault_len h1.1]; exact hj)]
  exact Int.max_le.2 ⟨isBelowB_le h j hj, isBelowB_le k j hj⟩

theorem meet_great {xs ys ds : List Int} (h : isBelowB ds xs = true) (k : isBelowB ds ys = true) : isBelowB ds (mix min xs ys) = true := by
  have h1 := isBelowB_faults h
  have h2 := isBelowB_faults k
  refine isBelowB_mk h1.1 (fault_mix min_or h1.2 h2.2) fun j hj => ?_
  rw [gt_mix _ _ _ j (by rw [fault_len h1.2]; exact hj)]
  exact Int.le_min.2 ⟨isBelowB_le h j hj, isBelowB_le k j hj⟩

theorem fault_high {zs : List Int} (h : fault zs = 0) : fault (highL zs) = 0 := by
  have h4 := fault_len h
  apply fault_ok
  · rw [length_highL]; exact h4
  · rw [List.all_eq_true]
    intro z hz
    obtain ⟨j, hj, rfl⟩ := List.getElem_of_mem hz
    have hj' : j < zs.length := by rw [length_highL] at hj; exact hj
    have e : (highL zs)[j] = gt (highL zs) j := by simp [gt, hj]
    have hr := fault_all h j hj'
    rw [e, gt_highL zs j hj']
    unfold okI
    split
    · decide
    · simp; omega

theorem high_up {zs : List Int} (h : fault zs = 0) : isBelowB zs (highL zs) = true :=
  isBelowB_mk h (fault_high h) fun j hj => by
    have hj' : j < zs.length := by rw [fault_len h]; exact hj
    have hr := fault_all h j hj'
    rw [gt_highL zs j hj']
    split
    · omega
    · exact Int.le_refl _

theorem high_none (zs : List Int) : ownsB (highL zs) = false := by
  unfold ownsB
  rw [has_no fun j hj => ?_]
  · simp
  · rw [length_highL] at hj
    rw [gt_highL zs j hj]
    split
    · decide
    · assumption

/-- seven cells of a world that later worlds keep. -/
theorem held7 {W X Y : World} {A B C D E F G : Addr} {a b c d e f g : Value} (hA : A.block < W.heap.size) (hB : B.block < W.heap.size) (hC : C.block < W.heap.size) (hD : D.block < W.heap.size) (hE : E.block < W.heap.size) (hF : F.block < W.heap.size) (hG : G.block < W.heap.size)
    (h : X.cell? A = some a ∧ X.cell? B = some b ∧ X.cell? C = some c ∧ X.cell? D = some d ∧ X.cell? E = some e ∧ X.cell? F = some f ∧ X.cell? G = some g ∧ Below W.heap.size W X) (k : Below X.heap.size X Y) :
    Y.cell? A = some a ∧ Y.cell? B = some b ∧ Y.cell? C = some c ∧ Y.cell? D = some d ∧ Y.cell? E = some e ∧ Y.cell? F = some f ∧ Y.cell? G = some g ∧ Below W.heap.size W Y := by
  obtain ⟨h1, h2, h3, h4, h5, h6, h7, hb⟩ := h
  have hz := hb.size
  exact ⟨(k.cell (by omega)).trans h1, (k.cell (by omega)).trans h2, (k.cell (by omega)).trans h3, (k.cell (by omega)).trans h4, (k.cell (by omega)).trans h5, (k.cell (by omega)).trans h6, (k.cell (by omega)).trans h7, hb.trans (k.mono hz)⟩

end Go.Proofs.Ytjahlhibgnbkgaa
