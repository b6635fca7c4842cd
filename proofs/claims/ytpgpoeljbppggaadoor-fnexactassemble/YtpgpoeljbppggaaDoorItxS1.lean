import Derived.Test.YtpgpoeljbppggaaDoorItxS
import Derived.WalkKit
import Derived.ProofKit
import Derived.OpenShut
import Derived.ShutString
import Derived.ChangeOld
import Derived.Below
import Derived.WalkSpells
import Derived.Deep.QuietTactic
import Derived.BigQuiet
import Derived.Deep.RegionWith
import Derived.Deep.WholeRow
import Derived.Deep.DeepCutAuto
import Derived.Deep.RegionHeld2
import Derived.Deep.AppendLies
import Derived.Deep.RegionLaw
namespace Go.Proofs.YtpgpoeljbppggaaDoor
open Go.ChangeShapes Go.WideShapes Go.ChangeAt Go.RowKit

theorem kw_size {o : Int} (h0 : 0 ≤ o) (h1 : o ≤ 15) : (kw o).size ≤ 5 := by
  rcases (by omega : o = 0 ∨ o = 1 ∨ o = 2 ∨ o = 3 ∨ o = 4 ∨ o = 5 ∨ o = 6 ∨ o = 7 ∨ o = 8 ∨ o = 9 ∨ o = 10 ∨ o = 11 ∨ o = 12 ∨ o = 13 ∨ o = 14 ∨ o = 15) with rfl | rfl | rfl | rfl | rfl | rfl | rfl | rfl | rfl | rfl | rfl | rfl | rfl | rfl | rfl | rfl <;> decide

set_option maxRecDepth 100000 in
set_option maxHeartbeats 4000000 in
theorem l5Word_calls (o : Int) (w : World) (h0 : 0 ≤ o) (h1 : o ≤ 15) :
    Calls Tryd.prog 55 #[.int .i64 o] w fun e w' => e = .returned (.string (kw o)) ∧ Below w.heap.size w w' := by
  have HB := hide fun x => (Below.refl w.heap.size w).alloc (Nat.le_refl _) x
  rcases (by omega : o = 0 ∨ o = 1 ∨ o = 2 ∨ o = 3 ∨ o = 4 ∨ o = 5 ∨ o = 6 ∨ o = 7 ∨ o = 8 ∨ o = 9 ∨ o = 10 ∨ o = 11 ∨ o = 12 ∨ o = 13 ∨ o = 14 ∨ o = 15) with rfl | rfl | rfl | rfl | rfl | rfl | rfl | rfl | rfl | rfl | rfl | rfl | rfl | rfl | rfl | rfl
  · go_enter Tryd.func55, Tryd.ntmps55
    go_wp2
    go_ret
    exact ⟨ret_str rfl, HB.out _⟩
  · go_enter Tryd.func55, Tryd.ntmps55
    go_wp2
    go_ret
    exact ⟨ret_str rfl, HB.out _⟩
  · go_enter Tryd.func55, Tryd.ntmps55
    go_wp2
    go_ret
    exact ⟨ret_str rfl, HB.out _⟩
  · go_enter Tryd.func55, Tryd.ntmps55
    go_wp2
    go_ret
    exact ⟨ret_str rfl, HB.out _⟩
  · go_enter Tryd.func55, Tryd.ntmps55
    go_wp2
    go_ret
    exact ⟨ret_str rfl, HB.out _⟩
  · go_enter Tryd.func55, Tryd.ntmps55
    go_wp2
    go_ret
    exact ⟨ret_str rfl, HB.out _⟩
  · go_enter Tryd.func55, Tryd.ntmps55
    go_wp2
    go_ret
    exact ⟨ret_str rfl, HB.out _⟩
  · go_enter Tryd.func55, Tryd.ntmps55
    go_wp2
    go_ret
    exact ⟨ret_str rfl, HB.out _⟩
  · go_enter Tryd.func55, Tryd.ntmps55
    go_wp2
    go_ret
    exact ⟨ret_str rfl, HB.out _⟩
  · go_enter Tryd.func55, Tryd.ntmps55
    go_wp2
    go_ret
    exact ⟨ret_str rfl, HB.out _⟩
  · go_enter Tryd.func55, Tryd.ntmps55
    go_wp2
    go_ret
    exact ⟨ret_str rfl, HB.out _⟩
  · have hk : dg 11 = ⟨#[49, 49]⟩ := rfl
    go_enter Tryd.func55, Tryd.ntmps55
    go_wp2_with fail
    refine (l1Digits_calls 11 _ (by decide) (by decide)).mono ?_
    rintro e w1 ⟨rfl, g1⟩
    have H1 := hide ((HB.out _).trans (g1.mono (by simp)))
    rw [hk]
    clear g1
    go_wp2
    go_ret
    exact ⟨ret_str rfl, H1.out⟩
  · have hk : dg 12 = ⟨#[49, 50]⟩ := rfl
    go_enter Tryd.func55, Tryd.ntmps55
    go_wp2_with fail
    refine (l1Digits_calls 12 _ (by decide) (by decide)).mono ?_
    rintro e w1 ⟨rfl, g1⟩
    have H1 := hide ((HB.out _).trans (g1.mono (by simp)))
    rw [hk]
    clear g1
    go_wp2
    go_ret
    exact ⟨ret_str rfl, H1.out⟩
  · have hk : dg 13 = ⟨#[49, 51]⟩ := rfl
    go_enter Tryd.func55, Tryd.ntmps55
    go_wp2_with fail
    refine (l1Digits_calls 13 _ (by decide) (by decide)).mono ?_
    rintro e w1 ⟨rfl, g1⟩
    have H1 := hide ((HB.out _).trans (g1.mono (by simp)))
    rw [hk]
    clear g1
    go_wp2
    go_ret
    exact ⟨ret_str rfl, H1.out⟩
  · have hk : dg 14 = ⟨#[49, 52]⟩ := rfl
    go_enter Tryd.func55, Tryd.ntmps55
    go_wp2_with fail
    refine (l1Digits_calls 14 _ (by decide) (by decide)).mono ?_
    rintro e w1 ⟨rfl, g1⟩
    have H1 := hide ((HB.out _).trans (g1.mono (by simp)))
    rw [hk]
    clear g1
    go_wp2
    go_ret
    exact ⟨ret_str rfl, H1.out⟩
  · have hk : dg 15 = ⟨#[49, 53]⟩ := rfl
    go_enter Tryd.func55, Tryd.ntmps55
    go_wp2_with fail
    refine (l1Digits_calls 15 _ (by decide) (by decide)).mono ?_
    rintro e w1 ⟨rfl, g1⟩
    have H1 := hide ((HB.out _).trans (g1.mono (by simp)))
    rw [hk]
    clear g1
    go_wp2
    go_ret
    exact ⟨ret_str rfl, H1.out⟩

end Go.Proofs.YtpgpoeljbppggaaDoor
