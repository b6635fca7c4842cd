import Derived.Test.YtboeceabnlhnoaaImplEL
import Derived.Test.YtboeceabnlhnoaaL2Leave
import Derived.WalkKit
import Derived.ProofKit
import Derived.OpenShut
import Derived.ShutString
import Derived.ChangeOld
import Derived.Below
import Derived.WalkSpells
import Derived.Deep.QuietTactic
import Derived.BigQuiet
import Derived.Deep.RegionWith
import Derived.Deep.WholeRow
import Derived.Deep.DeepCutAuto
import Derived.Deep.RegionHeld2
import Derived.Deep.AppendLies
import Derived.Deep.RegionLaw
namespace Go.Proofs.Ytboeceabnlhnoaa
open Go.ChangeShapes Go.WideShapes Go.ChangeAt Go.RowKit

theorem elC_zero {ss : List (Int × List Int)} {zs : List Int} (h : elC ss zs = 0) : Good ss ∧ fault zs = 0 ∧ etC ss zs = 0 ∧ codeFor ss zs = 0 := by
  unfold elC at h
  by_cases h1 : codeFor ss zs = 0
  · rw [if_pos h1] at h
    obtain ⟨h2, h3⟩ := codeFor_zero h1
    exact ⟨good_of h2, h3, h, h1⟩
  · rw [if_neg h1] at h; exact absurd h h1

theorem elL_is {ss : List (Int × List Int)} {zs : List Int} (h : elC ss zs = 0) : elL ss zs = enS ss zs ∧ elV ss zs = (enQ ss zs : Int) := ⟨if_pos h, if_pos h⟩

theorem gc_en {ss : List (Int × List Int)} (g : Good ss) (zs : List Int) (j : Nat) : gc (enS ss zs) j = if j = enQ ss zs then enN ss zs + 1 else gc ss j := gc_put _ (en_facts g).1 j

theorem gl_en {ss : List (Int × List Int)} (g : Good ss) (zs : List Int) (j : Nat) : gl (enS ss zs) j = if j = enQ ss zs then zs else gl ss j := gl_put _ (en_facts g).1 j

theorem len_en {ss : List (Int × List Int)} (g : Good ss) (zs : List Int) : enQ ss zs < (enS ss zs).length := by
  unfold enS
  rw [length_layS _ (en_facts g).1]
  omega

/-- a label that was entered is found at its slot. -/
theorem en_found {ss : List (Int × List Int)} {zs : List Int} (h : elC ss zs = 0) : at2 (enS ss zs) zs = (enQ ss zs : Int) := by
  obtain ⟨g, hz, he, _⟩ := elC_zero h
  have g2 := good_enter g hz he
  have hq := len_en g zs
  have h0 := (en_facts g (zs := zs)).2.1
  have c1 : 0 < gc (enS ss zs) (enQ ss zs) := by rw [gc_en g, if_pos rfl]; omega
  have l1 : gl (enS ss zs) (enQ ss zs) = zs := by rw [gl_en g, if_pos rfl]
  rcases at2_cases (enS ss zs) zs with ⟨h1, h2⟩ | ⟨j, hj, h1, h2⟩
  · have := h2 _ hq
    simp [hit, c1, l1] at this
  · have hh : 0 < gc (enS ss zs) j ∧ gl (enS ss zs) j = zs := by simpa [hit] using h2
    rw [h1, g2.uniq j _ hj hq hh.1 c1 (by rw [hh.2, l1])]

theorem en_so {ss : List (Int × List Int)} {zs : List Int} (h : elC ss zs = 0) : soC (elL ss zs) zs = 0 ∧ soV (elL ss zs) zs = elV ss zs := by
  obtain ⟨g, hz, he, _⟩ := elC_zero h
  have g2 := good_enter g hz he
  obtain ⟨e1, e2⟩ := elL_is h
  have hc : codeFor (enS ss zs) zs = 0 := by unfold codeFor; rw [if_pos (fault_of_good g2)]; exact hz
  have ha := en_found h
  rw [e1, e2]
  exact ⟨by unfold soC; rw [if_pos hc, if_neg (by omega)], by unfold soV; rw [if_pos hc, if_neg (by omega), ha]⟩

theorem en_fault {ss : List (Int × List Int)} {zs : List Int} (h : elC ss zs = 0) : faultR (elL ss zs) = 0 := by
  obtain ⟨g, hz, he, _⟩ := elC_zero h
  rw [(elL_is h).1]
  exact fault_of_good (good_enter g hz he)

theorem en_at {ss : List (Int × List Int)} {zs : List Int} (h : elC ss zs = 0) : laC (elL ss zs) (elV ss zs) = 0 ∧ laL (elL ss zs) (elV ss zs) = zs := by
  obtain ⟨g, hz, he, _⟩ := elC_zero h
  have g2 := good_enter g hz he
  have hq := len_en g zs
  have h0 := (en_facts g (zs := zs)).2.1
  obtain ⟨e1, e2⟩ := elL_is h
  rw [e1, e2]
  have c : laC (enS ss zs) (enQ ss zs : Int) = 0 := by
    unfold laC
    rw [if_pos (fault_of_good g2)]
    unfold atC
    rw [if_neg (by omega), if_neg (by rw [Int.toNat_natCast, gc_en g, if_pos rfl]; omega)]
  refine ⟨c, ?_⟩
  unfold laL
  rw [if_pos c, Int.toNat_natCast, gl_en g, if_pos rfl]

/-- what is left behind an entering and a leaving. -/
theorem en_leave {ss : List (Int × List Int)} {zs : List Int} (h : elC ss zs = 0) : lvL (elL ss zs) (elV ss zs) = leaveS (enS ss zs) (enQ ss zs) ∧ lvR (elL ss zs) (elV ss zs) = enN ss zs := by
  have c := (en_at h).1
  obtain ⟨g, hz, he, _⟩ := elC_zero h
  obtain ⟨e1, e2⟩ := elL_is h
  refine ⟨?_, ?_⟩
  · unfold lvL; rw [if_pos c, e1, e2, Int.toNat_natCast]
  · unfold lvR; rw [if_pos c, e1, e2, Int.toNat_natCast, gc_en g, if_pos rfl]; omega

theorem slots_ext2 {ss rr : List (Int × List Int)} (h : ss.length = rr.length) (hc : ∀ j, j < ss.length → gc ss j = gc rr j) (hl : ∀ j, j < ss.length → gl ss j = gl rr j) : ss = rr := by
  apply List.ext_getElem h
  intro i h1 h2
  have e1 := hc i h1
  have e2 := hl i h1
  simp [gc, h1, h2] at e1
  simp [gl, h1, h2] at e2
  exact Prod.ext e1 e2

/-- a label that was there: all is as it was. -/
theorem back_same {ss : List (Int × List Int)} {zs : List Int} (h : elC ss zs = 0) (hs : soC ss zs = 0) : soV ss zs = elV ss zs ∧ lvL (elL ss zs) (elV ss zs) = ss := by
  obtain ⟨g, hz, he, hc⟩ := elC_zero h
  unfold soC at hs
  rw [if_pos hc] at hs
  have ha : ¬ at2 ss zs < 0 := fun e => by rw [if_pos e] at hs; omega
  rcases at2_cases ss zs with ⟨h1, _⟩ | ⟨j, hj, h1, h2⟩
  · omega
  have hh : 0 < gc ss j ∧ gl ss j = zs := by simpa [hit] using h2
  have eQ : enQ ss zs = j := by unfold enQ; rw [if_neg ha, h1]; omega
  have eN : enN ss zs = gc ss j := by unfold enN; rw [if_neg ha, h1]; rfl
  refine ⟨by unfold soV; rw [if_pos hc, if_neg ha, (elL_is h).2, eQ, h1], ?_⟩
  rw [(en_leave h).1, eQ]
  have hq : j < (enS ss zs).length := by have := len_en g zs; omega
  have hL : (enS ss zs).length = ss.length := by unfold enS; rw [length_layS _ (en_facts g).1, eQ]; omega
  refine slots_ext2 (by rw [length_leaveS, hL]) (fun i hi => ?_) (fun i hi => ?_)
  · rw [gc_leave hq, gc_en g, gc_en g, eQ, eN]
    by_cases e : i = j
    · rw [if_pos e, if_pos rfl, e]; omega
    · rw [if_neg e, if_neg e]
  · rw [gl_leave hq, gc_en g, gl_en g, gl_en g, eQ, eN]
    by_cases e : i = j
    · rw [if_pos e, if_pos rfl, if_neg (by omega), if_pos rfl, e, hh.2]
    · rw [if_neg e, if_neg e]

/-- one that was not there is not there again. -/
theorem back_none {ss : List (Int × List Int)} {zs : List Int} (h : elC ss zs = 0) (hs : ¬ soC ss zs = 0) : soC ss zs = 4 ∧ lvR (elL ss zs) (elV ss zs) = 0 ∧ soC (lvL (elL ss zs) (elV ss zs)) zs = 4 := by
  obtain ⟨g, hz, he, hc⟩ := elC_zero h
  have g2 := good_enter g hz he
  unfold soC at hs
  rw [if_pos hc] at hs
  have ha : at2 ss zs < 0 := by
    by_cases e : at2 ss zs < 0
    · exact e
    · rw [if_neg e] at hs; exact absurd rfl hs
  have eN : enN ss zs = 0 := if_pos ha
  have hq := len_en g zs
  have c1 : 0 < gc (enS ss zs) (enQ ss zs) := by rw [gc_en g, if_pos rfl]; omega
  have g3 := good_leave g2 hq c1
  refine ⟨by unfold soC; rw [if_pos hc, if_pos ha], by rw [(en_leave h).2]; exact eN, ?_⟩
  rw [(en_leave h).1]
  have hc3 : codeFor (leaveS (enS ss zs) (enQ ss zs)) zs = 0 := by unfold codeFor; rw [if_pos (fault_of_good g3)]; exact hz
  unfold soC
  rw [if_pos hc3, if_pos]
  rcases at2_cases (leaveS (enS ss zs) (enQ ss zs)) zs with ⟨h1, _⟩ | ⟨j, hj, h1, h2⟩
  · omega
  · exfalso
    have hh : 0 < gc (leaveS (enS ss zs) (enQ ss zs)) j ∧ gl (leaveS (enS ss zs) (enQ ss zs)) j = zs := by simpa [hit] using h2
    rw [gc_leave hq, gl_leave hq] at hh
    by_cases e : j = enQ ss zs
    · rw [if_pos e, gc_en g, if_pos rfl, eN] at hh
      omega
    · rw [if_neg e, if_neg e] at hh
      rw [length_leaveS] at hj
      have := g2.uniq j _ hj hq hh.1 c1 (by rw [hh.2, gl_en g, if_pos rfl])
      exact e this

theorem lv_fault {ss : List (Int × List Int)} {p : Int} (h : laC ss p = 0) : faultR (lvL ss p) = 0 := by
  have h2 := h
  unfold laC at h2
  by_cases hr : faultR ss = 0
  · rw [if_pos hr] at h2
    obtain ⟨q, rfl, hq, hg, _, _⟩ := atC_zero (good_of hr) h2
    unfold lvL
    rw [if_pos h, Int.toNat_natCast]
    exact fault_of_good (good_leave (good_of hr) hq hg)
  · rw [if_neg hr] at h2; exact absurd h2 hr

end Go.Proofs.Ytboeceabnlhnoaa
