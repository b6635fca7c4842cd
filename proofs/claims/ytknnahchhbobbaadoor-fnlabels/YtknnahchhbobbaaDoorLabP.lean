import Derived.Test.YtknnahchhbobbaaDoorRow4
import Derived.Test.YtknnahchhbobbaaDoorParL
import Derived.WalkKit
import Derived.ProofKit
import Derived.OpenShut
import Derived.ShutString
import Derived.ChangeOld
import Derived.Below
import Derived.WalkSpells
import Derived.Deep.QuietTactic
import Derived.BigQuiet
import Derived.Deep.RegionWith
import Derived.Deep.WholeRow
import Derived.Deep.DeepCutAuto
import Derived.Deep.RegionHeld2
import Derived.Deep.AppendLies
import Derived.Deep.RegionLaw
namespace Go.Proofs.YtknnahchhbobbaaDoor
open Go.ChangeShapes Go.WideShapes Go.ChangeAt Go.RowKit

theorem okI_all {zs : List Int} (h : fault zs = 0) : zs.length = 4 ∧ ∀ z ∈ zs, 0 ≤ z ∧ z ≤ 5 := by
  have h4 := fault_len h
  refine ⟨h4, fun z hz => ?_⟩
  have ha : zs.all okI = true := by
    cases e : zs.all okI with
    | true => rfl
    | false => simp [fault, h4, e] at h
  have := List.all_eq_true.1 ha z hz
  simpa [okI] using this

theorem sg_lvl {c : Int} (h : 0 ≤ lvl c) : sg (lvl c) = c := by
  unfold lvl at *
  split at h
  · subst_vars; rfl
  split at h
  · subst_vars; rfl
  split at h
  · subst_vars; rfl
  split at h
  · subst_vars; rfl
  split at h
  · subst_vars; rfl
  split at h
  · subst_vars; rfl
  · omega

theorem lvl_sg {z : Int} (h0 : 0 ≤ z) (h5 : z ≤ 5) : lvl (sg z) = z ∧ 0 ≤ sg z ∧ sg z < 256 := by
  rcases (by omega : z = 0 ∨ z = 1 ∨ z = 2 ∨ z = 3 ∨ z = 4 ∨ z = 5) with rfl | rfl | rfl | rfl | rfl | rfl <;> decide

/-- a right text is the text of its levels. -/
theorem pl_back {s : ByteArray} (h : plC s = 0) : fault (plL s) = 0 ∧ ltS (plL s) = s := by
  have hf : fault (plL s) = 0 := by
    unfold plC at h
    split at h
    · assumption
    · exact absurd h (by decide)
  refine ⟨hf, ?_⟩
  rw [ltS_ok hf]
  have hr := (okI_all hf).2
  unfold plL at *
  obtain ⟨d⟩ := s
  simp only [strOfNums, List.map_map]
  congr 1
  apply Array.ext'
  show List.map _ d.toList = d.toList
  conv => rhs; rw [← List.map_id d.toList]
  refine List.map_congr_left fun c hc => ?_
  have := hr (lvl (c.toNat : Int)) (List.mem_map.2 ⟨c, hc, rfl⟩)
  simp only [Function.comp_apply, sg_lvl this.1, id]
  simp

/-- a right label's text is read as that label. -/
theorem lt_back {xs : List Int} (h : fault xs = 0) : plL (ltS xs) = xs ∧ plC (ltS xs) = 0 ∧ (ltS xs).size = 4 := by
  obtain ⟨h4, hr⟩ := okI_all h
  have e : plL (ltS xs) = xs := by
    rw [ltS_ok h]
    unfold plL
    simp only [strOfNums, List.map_map]
    conv => rhs; rw [← List.map_id xs]
    refine List.map_congr_left fun z hz => ?_
    have hz := hr z hz
    have := lvl_sg hz.1 hz.2
    simp only [Function.comp_apply, id]
    have e2 : ((UInt8.ofNat (sg z).toNat).toNat : Int) = sg z := by
      rw [UInt8.toNat_ofNat']
      have : (sg z).toNat % 2 ^ 8 = (sg z).toNat := Nat.mod_eq_of_lt (by omega)
      rw [this]
      omega
    rw [e2]
    exact this.1
  refine ⟨e, ?_, ?_⟩
  · unfold plC
    rw [e, if_pos h]
  · rw [ltS_ok h, strOfNums_size]; simpa using h4

end Go.Proofs.YtknnahchhbobbaaDoor
