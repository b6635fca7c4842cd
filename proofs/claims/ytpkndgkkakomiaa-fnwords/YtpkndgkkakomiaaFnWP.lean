import Derived.Test.YtpkndgkkakomiaaWmT
import Derived.WalkKit
import Derived.ProofKit
import Derived.OpenShut
import Derived.ShutString
import Derived.ChangeOld
import Derived.Below
import Derived.WalkSpells
import Derived.Deep.QuietTactic
import Derived.BigQuiet
import Derived.Deep.RegionWith
import Derived.Deep.WholeRow
import Derived.Deep.DeepCutAuto
import Derived.Deep.RegionHeld2
import Derived.Deep.AppendLies
import Derived.Deep.RegionLaw
namespace Go.Proofs.Ytpkndgkkakomiaa
open Go.ChangeShapes Go.WideShapes Go.ChangeAt Go.RowKit

theorem mfC6_mk {ls : List (Int × Int)} (h : ls.length ≤ 32) (ha : ∀ j, j < ls.length → okW 6 (gw ls j) = true) : mfC 6 ls = 0 := mfC_ok (by decide) (by omega) ha

theorem mfC6_inv {ls : List (Int × Int)} (h : mfC 6 ls = 0) : ls.length ≤ 32 ∧ ∀ j, j < ls.length → okW 6 (gw ls j) = true := by
  refine ⟨mfC_len h, fun j hj => ?_⟩
  cases e : okW 6 (gw ls j) with
  | true => rfl
  | false =>
    have h2 := mfC_len h
    rw [mfC_bad (k := j) (by decide) (by omega) hj e] at h
    omega

theorem gw_set (ls : List (Int × Int)) (k i : Nat) (x : Int × Int) (hk : k < ls.length) : gw (ls.set k x) i = if i = k then x else gw ls i := by
  by_cases e : i = k
  · subst e; rw [if_pos rfl]; simp [gw, hk]
  · rw [if_neg e]; simp [gw, Ne.symm e]

theorem gw_rtK (ls : List (Int × Int)) (f : Nat) (g : Int) : ∀ k : Nat, f + k ≤ ls.length → ∀ i, gw (rtK ls f g k) i = if f ≤ i ∧ i < f + k then (0, g) else gw ls i
  | 0, _, i => by rw [if_neg (by omega)]; rfl
  | k + 1, h, i => by
    show gw ((rtK ls f g k).set (f + k) (0, g)) i = _
    rw [gw_set _ _ _ _ (by rw [length_rtK]; omega), gw_rtK ls f g k (by omega) i]
    by_cases e : i = f + k
    · rw [if_pos e, if_pos (by omega)]
    · rw [if_neg e]
      by_cases e2 : f ≤ i ∧ i < f + k
      · rw [if_pos e2, if_pos (by omega)]
      · rw [if_neg e2, if_neg (by omega)]

theorem rtC_zero {ls : List (Int × Int)} {f k g : Int} (h : rtC ls f k g = 0) : mfC 6 ls = 0 ∧ (0 ≤ f ∧ 0 ≤ k ∧ f + k ≤ ls.length) ∧ up g 6 = true := by
  unfold rtC at h
  by_cases h1 : mfC 6 ls = 0
  · rw [if_neg (by simpa using h1)] at h
    by_cases h2 : (hasW ls.length f k && up g 6) = true
    · rw [Bool.and_eq_true] at h2
      obtain ⟨h3, h4⟩ := h2
      unfold hasW at h3
      rw [Bool.and_eq_true] at h3
      have a := up_iff.1 h3.1
      have b := up_iff.1 h3.2
      exact ⟨h1, ⟨a.1, b.1, by omega⟩, h4⟩
    · rw [if_neg h2] at h; omega
  · rw [if_pos h1] at h; exact absurd h h1

theorem rt_good {ls : List (Int × Int)} {f k : Nat} {g : Int} (h : mfC 6 ls = 0) (hk : f + k ≤ ls.length) (hg : up g 6 = true) : mfC 6 (rtK ls f g k) = 0 := by
  obtain ⟨h1, h2⟩ := mfC6_inv h
  refine mfC6_mk (by rw [length_rtK]; exact h1) (fun j hj => ?_)
  rw [length_rtK] at hj
  rw [gw_rtK ls f g k hk j]
  by_cases e : f ≤ j ∧ j < f + k
  · rw [if_pos e]
    show (up 0 65535 && up g 6) = true
    rw [hg]; rfl
  · rw [if_neg e]; exact h2 j hj

/-- a word of a memory that was marked anew. -/
theorem rt_load {ls : List (Int × Int)} {f k g : Int} {i : Nat} (h : rtC ls f k g = 0) (hi : i < ls.length) : lwX (rtL ls f k g) i = if f ≤ (i : Int) ∧ (i : Int) < f + k then (0, g) else gw ls i := by
  obtain ⟨h1, ⟨h2, h3, h4⟩, h5⟩ := rtC_zero h
  have e : rtL ls f k g = rtK ls f.toNat g k.toNat := if_pos h
  rw [e, (lwC_ok (rt_good h1 (by omega) h5) (up_iff.2 ⟨by omega, by rw [length_rtK]; omega⟩)).2, Int.toNat_natCast, gw_rtK ls f.toNat g k.toNat (by omega) i]
  by_cases c : f ≤ (i : Int) ∧ (i : Int) < f + k
  · rw [if_pos c, if_pos (by omega)]
  · rw [if_neg c, if_neg (by omega)]

theorem length_rtL {ls : List (Int × Int)} {f k g : Int} (h : rtC ls f k g = 0) : (rtL ls f k g).length = ls.length := by
  have e : rtL ls f k g = rtK ls f.toNat g k.toNat := if_pos h
  rw [e, length_rtK]

theorem swC_zero {ls : List (Int × Int)} {p v : Int} (h : swC ls p v = 0) : mfC 6 ls = 0 ∧ (0 ≤ p ∧ p < ls.length) ∧ up v 65535 = true := by
  unfold swC at h
  by_cases h1 : mfC 6 ls = 0
  · rw [if_neg (by simpa using h1)] at h
    by_cases h2 : (up p ((ls.length : Int) - 1) && up v 65535) = true
    · rw [Bool.and_eq_true] at h2
      have a := up_iff.1 h2.1
      exact ⟨h1, ⟨a.1, by omega⟩, h2.2⟩
    · rw [if_neg h2] at h; omega
  · rw [if_pos h1] at h; exact absurd h h1

theorem swL_is {ls : List (Int × Int)} {p v : Int} (h : swC ls p v = 0) : swL ls p v = ls.set p.toNat (v, (gw ls p.toNat).2) := if_pos h

theorem length_swL {ls : List (Int × Int)} {p v : Int} (h : swC ls p v = 0) : (swL ls p v).length = ls.length := by rw [swL_is h, List.length_set]

theorem sw_good {ls : List (Int × Int)} {p v : Int} (h : swC ls p v = 0) : mfC 6 (swL ls p v) = 0 := by
  obtain ⟨h1, ⟨h2, h3⟩, h4⟩ := swC_zero h
  obtain ⟨h5, h6⟩ := mfC6_inv h1
  rw [swL_is h]
  refine mfC6_mk (by rw [List.length_set]; exact h5) (fun j hj => ?_)
  rw [List.length_set] at hj
  rw [gw_set _ _ _ _ (by omega)]
  by_cases e : j = p.toNat
  · rw [if_pos e]
    have := h6 p.toNat (by omega)
    unfold okW at this
    rw [Bool.and_eq_true] at this
    show (up v 65535 && up (gw ls p.toNat).2 6) = true
    rw [h4, this.2]; rfl
  · rw [if_neg e]; exact h6 j hj

theorem sw_load {ls : List (Int × Int)} {p v : Int} {i : Nat} (h : swC ls p v = 0) (hi : i < ls.length) : lwX (swL ls p v) i = if (i : Int) = p then (v, (gw ls i).2) else gw ls i := by
  obtain ⟨h1, ⟨h2, h3⟩, h4⟩ := swC_zero h
  have hl := length_swL h
  rw [(lwC_ok (sw_good h) (up_iff.2 ⟨by omega, by omega⟩)).2, Int.toNat_natCast, swL_is h, gw_set _ _ _ _ (by omega)]
  by_cases e : (i : Int) = p
  · rw [if_pos e, if_pos (by omega)]
    have : p.toNat = i := by omega
    rw [this]
  · rw [if_neg e, if_neg (by omega)]

theorem sw_code {ls : List (Int × Int)} {p v : Int} (h : swC ls p v = 0) : lwC (swL ls p v) p = 0 := by
  obtain ⟨h1, ⟨h2, h3⟩, h4⟩ := swC_zero h
  have hl := length_swL h
  exact (lwC_ok (sw_good h) (up_iff.2 ⟨by omega, by omega⟩)).1

theorem sw_old {ls : List (Int × Int)} {p v : Int} (h : swC ls p v = 0) : lwX ls p = gw ls p.toNat := by
  obtain ⟨h1, ⟨h2, h3⟩, h4⟩ := swC_zero h
  exact (lwC_ok h1 (up_iff.2 ⟨by omega, by omega⟩)).2

theorem implLoadIs_calls (a : Option Addr) (n c : Nat) (ls : List (Int × Int)) (p x y : Int) (w : World) (hn : n ≤ maxLen) (hs : Swd w a n ls) (hX : lwX ls p = (x, y)) :
    Calls Try.prog 10 #[.agg #[.slice a n c], .int .i64 p] w fun e w' => e = .returned (.agg #[.int .i64 (lwC ls p), .int .i64 x, .int .i64 y]) ∧ Below w.heap.size w w' := by
  have h := implLoadWord_calls a n c ls p w hn hs
  rw [hX] at h
  exact h

end Go.Proofs.Ytpkndgkkakomiaa
