import Derived.Test.YtainblfjfmjclajLabelsAt
import Derived.WalkKit
import Derived.ProofKit
import Derived.OpenShut
import Derived.ShutString
import Derived.ChangeOld
import Derived.Below
import Derived.WalkSpells
import Derived.Deep.QuietTactic
import Derived.BigQuiet
import Derived.Deep.RegionWith
import Derived.Deep.WholeRow
import Derived.Deep.DeepCutAuto
import Derived.Deep.RegionHeld2
import Derived.Deep.AppendLies
import Derived.Deep.RegionLaw
namespace Go.Proofs.Ytainblfjfmjclaj
open Go.ChangeShapes Go.WideShapes Go.ChangeAt Go.RowKit

set_option maxRecDepth 100000 in
theorem areThings_calls (a : Option Addr) (n c : Nat) (ls : List (List Int)) (w : World) (hn : n ≤ 10) (hs : Lbs w a n ls) :
    Calls Try.prog 60 #[.slice a n c] w fun e w' => e = .returned (.bool (thingsB ls)) ∧ Below w.heap.size w w' := by
  obtain ⟨hlen, hs⟩ := hs
  go_enter Try.func60, Try.ntmps60
  go_wp2
  go_loopw [7] (fun i wr => ∃ k : Nat, k ≤ n ∧ i = .int .i64 k ∧ Below w.heap.size w wr ∧ ∀ j, j < k → thingB (ls.getD j []) = true) (fun i _ => n - (intOf i).toNat)
  case atStart => exact ⟨0, Nat.zero_le _, rfl, Below.refl _ _, fun j hj => by omega⟩
  case round =>
    obtain ⟨k, hk, rfl, hbel, hall⟩ := hrel
    have Hall := hide hall
    clear hall
    by_cases hlt : k < n
    · obtain ⟨b, off, rfl, hbb, hc⟩ := hs (by omega)
      obtain ⟨la, ll, lc, h6, h7, h8⟩ := hc k hlt
      have hck := (hbel.cell (p := ⟨b, off + k, none⟩) hbb).trans h6
      have al := (Below.refl wr.heap.size wr).alloc (Nat.le_refl _) (.cells #[.slice la ll lc] 41)
      have HS := hide ((h8.below hbel (Nat.le_refl _)).below al (Nat.le_refl _))
      have HB := hide (hbel.trans (al.mono hbel.size))
      clear h8 al hbel
      cases ht : thingB (ls.getD k []) with
      | true =>
        have Ht := hide ht
        go_wp2_with fail
        refine (isThing_calls la ll lc (ls.getD k []) _ h7 HS.out).mono ?_
        rintro e w1 ⟨rfl, g1⟩
        rw [ht]
        have HE := hide (HB.out.trans (g1.mono HB.out.size))
        clear g1 ht
        go_wp2
        go_roundw
        case rel => exact ⟨k + 1, by omega, by go_num, HE.out, fun j hj => by (by_cases e : j = k); (subst e; exact Ht.out); exact Hall.out j (by omega)⟩
        case measure => simp [intOf]; omega
      | false =>
        have HF : Hid (thingsB ls = false) := all_hit (d := []) (j := k) (by omega) ht
        go_wp2_with fail
        refine (isThing_calls la ll lc (ls.getD k []) _ h7 HS.out).mono ?_
        rintro e w1 ⟨rfl, g1⟩
        rw [ht]
        have HE := hide (HB.out.trans (g1.mono HB.out.size))
        clear g1 ht
        go_wp2
        go_ret
        exact ⟨ret_bool HF.out.symm, HE.out⟩
    · have HT : Hid (thingsB ls = true) := all_pre (d := []) (fun j hj => Hall.out j (by omega))
      go_wp2
      go_ret
      exact ⟨ret_bool HT.out.symm, hbel⟩

set_option maxRecDepth 100000 in
theorem areWithoutTop_calls (a : Option Addr) (n c : Nat) (ls : List (List Int)) (w : World) (hn : n ≤ 10) (hs : Lbs w a n ls) :
    Calls Try.prog 43 #[.slice a n c] w fun e w' => e = .returned (.bool (lowsB ls)) ∧ Below w.heap.size w w' := by
  obtain ⟨hlen, hs⟩ := hs
  go_enter Try.func43, Try.ntmps43
  go_wp2
  go_loopw [7] (fun i wr => ∃ k : Nat, k ≤ n ∧ i = .int .i64 k ∧ Below w.heap.size w wr ∧ ∀ j, j < k → lowB (ls.getD j []) = true) (fun i _ => n - (intOf i).toNat)
  case atStart => exact ⟨0, Nat.zero_le _, rfl, Below.refl _ _, fun j hj => by omega⟩
  case round =>
    obtain ⟨k, hk, rfl, hbel, hall⟩ := hrel
    have Hall := hide hall
    clear hall
    by_cases hlt : k < n
    · obtain ⟨b, off, rfl, hbb, hc⟩ := hs (by omega)
      obtain ⟨la, ll, lc, h6, h7, h8⟩ := hc k hlt
      have hck := (hbel.cell (p := ⟨b, off + k, none⟩) hbb).trans h6
      have al := (Below.refl wr.heap.size wr).alloc (Nat.le_refl _) (.cells #[.slice la ll lc] 41)
      have HS := hide ((h8.below hbel (Nat.le_refl _)).below al (Nat.le_refl _))
      have HB := hide (hbel.trans (al.mono hbel.size))
      clear h8 al hbel
      cases ht : has (ls.getD k []) 5 with
      | false =>
        have Ht : Hid (lowB (ls.getD k []) = true) := by show lowB _ = true; simp only [lowB, ht]; rfl
        go_wp2_with fail
        refine (hasLevel_calls la ll lc (ls.getD k []) 5 _ h7 HS.out).mono ?_
        rintro e w1 ⟨rfl, g1⟩
        rw [ht]
        have HE := hide (HB.out.trans (g1.mono HB.out.size))
        clear g1 ht
        go_wp2
        go_roundw
        case rel => exact ⟨k + 1, by omega, by go_num, HE.out, fun j hj => by (by_cases e : j = k); (subst e; exact Ht.out); exact Hall.out j (by omega)⟩
        case measure => simp [intOf]; omega
      | true =>
        have HF : Hid (lowsB ls = false) := all_hit (d := []) (j := k) (by omega) (by simp only [lowB, ht]; rfl)
        go_wp2_with fail
        refine (hasLevel_calls la ll lc (ls.getD k []) 5 _ h7 HS.out).mono ?_
        rintro e w1 ⟨rfl, g1⟩
        rw [ht]
        have HE := hide (HB.out.trans (g1.mono HB.out.size))
        clear g1 ht
        go_wp2
        go_ret
        exact ⟨ret_bool HF.out.symm, HE.out⟩
    · have HT : Hid (lowsB ls = true) := all_pre (d := []) (fun j hj => Hall.out j (by omega))
      go_wp2
      go_ret
      exact ⟨ret_bool HT.out.symm, hbel⟩

theorem cnt_take (l : List Int) (k i : Nat) (h : k < l.length) : cnt (l.take (k + 1)) i = cnt (l.take k) i + (if gt l k = (i : Int) then 1 else 0) := by
  unfold cnt
  rw [List.take_succ_eq_append_getElem h, List.filter_append, List.length_append]
  have e : gt l k = l[k] := by simp [gt, h]
  rw [e]
  by_cases h1 : l[k] = (i : Int)
  · rw [if_pos h1]
    simp [h1]
  · rw [if_neg h1]
    simp [h1]

theorem cnt_le (l : List Int) (i : Nat) : 0 ≤ cnt l i ∧ cnt l i ≤ (l.length : Int) := by
  unfold cnt
  have := List.length_filter_le (fun s => s == (i : Int)) l
  omega

theorem cnt_zero {ss : List (Int × List Int)} {l : List Int} (h : allS ss l = true) {i : Nat} (h0 : gc ss i = 0) : cnt l i = 0 := by
  unfold cnt
  have : l.filter (fun s => s == (i : Int)) = [] := by
    rw [List.filter_eq_nil_iff]
    intro s hs e
    have h1 := List.all_eq_true.1 h s hs
    simp at e
    subst e
    simp [okS, atC] at h1
    omega
  rw [this]
  rfl

/-- ten cells of a block that hold numbers. -/
def TRow (w : World) (g : Nat) (f : Nat → Int) : Prop := g < w.heap.size ∧ (∀ j, j < 10 → w.cell? ⟨g, j, none⟩ = some (.int .i64 (f j))) ∧ ∀ j, w.frozen? ⟨g, j, none⟩ = false

theorem TRow.set {w : World} {g k : Nat} {f f' : Nat → Int} {x : Int} (h : TRow w g f) (hk : k < 10) (e : ∀ j, j < 10 → (if j = k then x else f j) = f' j) : TRow (w.setCell ⟨g, k, none⟩ (.int .i64 x)) g f' := by
  refine ⟨by simpa using h.1, fun j hj => ?_, fun j => by simpa using h.2.2 j⟩
  rw [← e j hj]
  by_cases hjk : j = k
  · subst hjk; rw [if_pos rfl, World.cell?_setCell_same _ _ _ (h.2.1 j hj)]
  · rw [if_neg hjk, World.cell?_setCell_other _ _ _ _ (fun h => hjk (by injection h with _ h2; exact h2.symm))]; exact h.2.1 j hj

theorem TRow.below {w w' : World} {g : Nat} {f : Nat → Int} (h : TRow w g f) (hb : Below w.heap.size w w') : TRow w' g f :=
  ⟨by have := hb.size; have := h.1; omega, fun j hj => (hb.cell (p := ⟨g, j, none⟩) h.1).trans (h.2.1 j hj), fun j => (hb.frozen (p := ⟨g, j, none⟩) h.1).trans (h.2.2 j)⟩

theorem TRow.keep {w w' : World} {g r : Nat} {f : Nat → Int} (h : TRow w g f) (hg : w.grownBy w' (some r)) (hr : g ≠ r) : TRow w' g f := by
  have e := hg.block g h.1 (fun e => hr (by injection e))
  exact ⟨by have := hg.size; have := h.1; omega, fun j hj => (World.cell?_of_block (a := ⟨g, j, none⟩) e).trans (h.2.1 j hj), fun j => (World.frozen?_of_block (a := ⟨g, j, none⟩) e).trans (h.2.2 j)⟩

theorem allS_lt {ss : List (Int × List Int)} {l : List Int} (h : allS ss l = true) {j : Nat} (hj : j < l.length) : ∃ q : Nat, gt l j = (q : Int) ∧ q < ss.length := by
  have h1 := all_get (d := 0) h hj
  have h2 : atC ss (gt l j) = 0 := by simpa [okS, gt] using h1
  unfold atC at h2
  split at h2
  · cases h2
  · exact ⟨(gt l j).toNat, by omega, by omega⟩

end Go.Proofs.Ytainblfjfmjclaj
