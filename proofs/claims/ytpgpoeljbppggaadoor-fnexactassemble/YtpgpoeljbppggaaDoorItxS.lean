import Derived.Test.YtpgpoeljbppggaaDoorItxI0
import Derived.WalkKit
import Derived.ProofKit
import Derived.OpenShut
import Derived.ShutString
import Derived.ChangeOld
import Derived.Below
import Derived.WalkSpells
import Derived.Deep.QuietTactic
import Derived.BigQuiet
import Derived.Deep.RegionWith
import Derived.Deep.WholeRow
import Derived.Deep.DeepCutAuto
import Derived.Deep.RegionHeld2
import Derived.Deep.AppendLies
import Derived.Deep.RegionLaw
namespace Go.Proofs.YtpgpoeljbppggaaDoor
open Go.ChangeShapes Go.WideShapes Go.ChangeAt Go.RowKit

theorem conv1 (W : World) (g : Nat) (x : Int) (h : W.cell? ⟨g, 0, none⟩ = some (.int .u8 x)) : (convert 22 9 (.slice (some ⟨g, 0, none⟩) 1 1)).run Tryd.prog W = .ok (.string (strOfNums [x])) W :=
  run_convert_bytes_arg (P := Tryd.prog) W 22 5 Tryd.underlying22 Tryd.underlying5 g 0 1 1 [x] rfl (fun i hi => by have e : i = 0 := (by omega); subst e; exact h) 9 Tryd.underlying9

theorem digit_one {n : Int} (h0 : 0 ≤ n) (h : n < 10) : strOfNums [48 + n] = dg n := by
  rw [dg_one h]
  rcases (by omega : n = 0 ∨ n = 1 ∨ n = 2 ∨ n = 3 ∨ n = 4 ∨ n = 5 ∨ n = 6 ∨ n = 7 ∨ n = 8 ∨ n = 9) with rfl | rfl | rfl | rfl | rfl | rfl | rfl | rfl | rfl | rfl <;> rfl

theorem u8_in' {n : Int} (h : 0 ≤ n ∧ n ≤ 255) : IntKind.u8.wrap n = n := IntWalk.u8_in n h

set_option maxRecDepth 100000 in
theorem l1Digits1_calls (n : Int) (w : World) (h0 : 0 ≤ n) (h1 : n < 10) :
    Calls Tryd.prog 57 #[.int .i64 n] w fun e w' => e = .returned (.string (dg n)) ∧ Below w.heap.size w w' := by
  have hu : IntKind.u8.wrap (48 + n) = 48 + n := u8_in' (by omega)
  have HD := hide (digit_one h0 h1)
  have hcv := conv1 (w.alloc (.cells #[.int .u8 (48 + n)] 5)) w.heap.size (48 + n) (by simp)
  go_enter Tryd.func57, Tryd.ntmps57
  go_wp2
  go_ret
  exact ⟨ret_str HD.out, (Below.refl _ _).alloc (Nat.le_refl _) _⟩

theorem digit_two {n : Int} (h0 : 10 ≤ n) (h : n ≤ 99) : dg (n / 10) ++ strOfNums [48 + n % 10] = dg n := by
  rw [digit_one (by omega) (by omega), dg_one (by omega), dg_one (by omega), dg_two (by omega)]
  have e1 : (n / 10).toNat = n.toNat / 10 := by omega
  have e2 : (n % 10).toNat = n.toNat % 10 := by omega
  rw [e1, e2]
  rfl

set_option maxRecDepth 100000 in
set_option maxHeartbeats 1000000 in
theorem l1Digits_calls (n : Int) (w : World) (h0 : 0 ≤ n) (h1 : n ≤ 99) :
    Calls Tryd.prog 57 #[.int .i64 n] w fun e w' => e = .returned (.string (dg n)) ∧ Below w.heap.size w w' := by
  by_cases h : n < 10
  · exact l1Digits1_calls n w h0 h
  · have hu : IntKind.u8.wrap (48 + n % 10) = 48 + n % 10 := u8_in' (by omega)
    have ha : IntKind.i64.wrap (n.tdiv 10) = n / 10 := by rw [Int.tdiv_eq_ediv_of_nonneg h0]; exact IntWalk.i64_in _ (by omega)
    have hb : n.tmod 10 = n % 10 := Int.tmod_eq_emod_of_nonneg h0
    have hc : IntKind.i64.wrap (48 + n % 10) = 48 + n % 10 := IntWalk.i64_in _ (by omega)
    have cv0 := conv1 (w.alloc (.cells #[.int .u8 (48 + n % 10)] 5)).drew w.heap.size (48 + n % 10) (by simp)
    have hq0 : 0 ≤ n / 10 := by omega
    have hq1 : n / 10 < 10 := by omega
    have HD := hide (digit_two (n := n) (by omega) h1)
    have hs1 := dg_size (n / 10)
    have hs2 : (strOfNums [48 + n % 10]).size = 1 := rfl
    go_enter Tryd.func57, Tryd.ntmps57
    go_wp2_with fail
    go_region_with (first
      | (go_at_call 57; refine (l1Digits1_calls (n / 10) _ hq0 hq1).mono ?_; rintro e w1 ⟨rfl, g1⟩; obtain ⟨bc, bf⟩ := bcellQ g1; have hz := g1.size; have hb : Below w.heap.size w w1 := (by first | exact ((Below.refl w.heap.size w).drew).trans g1 | exact (((Below.refl w.heap.size w).alloc (Nat.le_refl _) (.cells #[.int .u8 (48 + n % 10)] 5)).drew).trans (g1.mono (by simp))); have HB := hide hb; have cv1 := conv1 w1 w.heap.size (48 + n % 10); have cv2 := conv1 (w1.alloc (.cells #[.int .u8 (48 + n % 10)] 5)) w1.heap.size (48 + n % 10) (by simp); clear g1 hb))
    all_goals go_wp2
    all_goals go_ret
    all_goals exact ⟨ret_str HD.out, by first | exact HB.out | exact HB.out.alloc HB.out.size _⟩

end Go.Proofs.YtpgpoeljbppggaaDoor
