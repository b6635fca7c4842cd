import Derived.Test.YtnlkigjgloeonaaGreatBase
import Derived.Test.YtnlkigjgloeonaaGreatReg
import Derived.WalkKit
import Derived.ProofKit
import Derived.OpenShut
import Derived.ShutString
import Derived.ChangeOld
import Derived.Below
import Derived.WalkSpells
import Derived.Deep.QuietTactic
import Derived.BigQuiet
import Derived.Deep.RegionWith
import Derived.Deep.WholeRow
import Derived.Deep.DeepCutAuto
import Derived.Deep.RegionHeld2
import Derived.Deep.AppendLies
import Derived.Deep.RegionLaw
namespace Go.Proofs.YtnlkigjgloeonaaGreat
open Go.ChangeShapes Go.WideShapes Go.ChangeAt Go.RowKit

set_option maxRecDepth 100000 in
theorem szSlot_calls (c : Int) (a : Option Addr) (len cap : Nat) (left : Int) (w : World) (h0 : 0 ≤ left) (h1 : left ≤ 1048576) (hl : len ≤ maxLen) :
    Calls Tryz.prog 141 #[.agg #[.int .i64 c, .slice a len cap], .int .i64 left] w fun e w' => e = .returned (.int .i64 (szI len left)) ∧ Below w.heap.size w w' := by
  by_cases h : left - len < 0
  · go_enter Tryz.func141, Tryz.ntmps141
    go_wp2_with fail
    refine (szLabel_calls a len cap left _ h0 h1 hl).mono ?_
    rintro e w1 ⟨rfl, hb⟩
    rw [szI_neg h]
    go_wp2
    go_ret
    exact ⟨ret_int (szI_neg h).symm, ((Below.refl _ _).alloc (Nat.le_refl _) _).trans (hb.mono (by simp))⟩
  · have hp : 0 ≤ left - len := by omega
    go_enter Tryz.func141, Tryz.ntmps141
    go_wp2_with fail
    refine (szLabel_calls a len cap left _ h0 h1 hl).mono ?_
    rintro e w1 ⟨rfl, hb⟩
    rw [szI_pos hp]
    go_wp2
    go_ret
    exact ⟨ret_int (szI_pos hp).symm, ((Below.refl _ _).alloc (Nat.le_refl _) _).trans (hb.mono (by simp))⟩

set_option maxRecDepth 100000 in
theorem szSlotS_calls (a : Option Addr) (n cap : Nat) (ss : List (Int × List Int)) (left : Int) (w : World) (h0 : 0 ≤ left) (h1 : left ≤ 1048576) (hl : n ≤ maxLen) (hs : Sls w a n ss) :
    Calls Tryz.prog 113 #[.slice a n cap, .int .i64 left] w fun e w' => e = .returned (.int .i64 (szI (n + lenSum ss) left)) ∧ Below w.heap.size w w' := by
  unfold maxLen at hl
  obtain ⟨hlen, hs⟩ := hs
  by_cases h : left - n < 0
  · go_enter Tryz.func113, Tryz.ntmps113
    go_wp2
    go_ret
    exact ⟨ret_int (szI_neg (by omega)).symm, Below.refl _ _⟩
  · go_enter Tryz.func113, Tryz.ntmps113
    go_wp2
    go_loopw [5, 1] (fun i l wr => ∃ k : Nat, k ≤ n ∧ i = .int .i64 k ∧ l = .int .i64 (left - n - lenSum (ss.take k)) ∧ 0 ≤ left - n - lenSum (ss.take k) ∧ Below w.heap.size w wr) (fun i _ _ => n - (intOf i).toNat)
    case atStart => exact ⟨0, Nat.zero_le _, rfl, by simp [lenSum], by simp [lenSum]; omega, Below.refl _ _⟩
    case round =>
      obtain ⟨k, hk, rfl, rfl, hpos, hbel⟩ := hrel
      by_cases hlt : k < n
      · obtain ⟨b, off, rfl, hb, hc⟩ := hs (by omega)
        obtain ⟨hc0, la, ll, lc, hc1, hll, hsl⟩ := hc k hlt
        have hck0 := (hbel.cell (p := ⟨b, off + k * 2, none⟩) hb).trans hc0
        have hck1 := (hbel.cell (p := ⟨b, off + k * 2 + 1, none⟩) hb).trans hc1
        have hzl : (gl ss k).length = ll := hsl.1
        have hstep := lenSum_take ss k (by omega)
        have htot := lenSum_le ss (k + 1)
        have hb1 : left - n - lenSum (ss.take k) ≤ 1048576 := by omega
        by_cases hneg : left - n - lenSum (ss.take k) - ll < 0
        · have Hr := hide (szI_neg (len := n + lenSum ss) (left := left) (by omega))
          clear hstep htot
          go_wp2_with fail
          refine (szSlot_calls (gc ss k) la ll lc _ _ hpos hb1 hll).mono ?_
          rintro e w1 ⟨rfl, g1⟩
          rw [szI_neg hneg]
          go_wp2
          go_ret
          exact ⟨ret_int Hr.out.symm, hbel.trans (g1.mono hbel.size)⟩
        · have hp2 : 0 ≤ left - n - lenSum (ss.take k) - ll := by omega
          have Hr : Hid (left - n - lenSum (ss.take k) - ll = left - n - lenSum (ss.take (k + 1)) ∧ 0 ≤ left - n - lenSum (ss.take (k + 1))) := ⟨by omega, by omega⟩
          clear hstep htot
          go_wp2_with fail
          refine (szSlot_calls (gc ss k) la ll lc _ _ hpos hb1 hll).mono ?_
          rintro e w1 ⟨rfl, g1⟩
          rw [szI_pos hp2]
          go_wp2
          go_roundw
          case rel => exact ⟨k + 1, by omega, by go_num, by rw [Hr.out.1], Hr.out.2, hbel.trans (g1.mono hbel.size)⟩
          case measure => simp [intOf]; omega
      · have hkn : k = n := by omega
        have ht : ss.take k = ss := by rw [hkn, ← hlen, List.take_length]
        have Hr : Hid (szI (n + lenSum ss) left = left - n - lenSum (ss.take k)) := by
          rw [ht] at hpos ⊢
          show szI _ _ = _
          rw [szI_pos (by omega)]; omega
        clear ht
        go_wp2
        go_ret
        exact ⟨ret_int Hr.out.symm, hbel⟩

set_option maxRecDepth 100000 in
theorem szRegistry_calls (a : Option Addr) (n cap : Nat) (ss : List (Int × List Int)) (left : Int) (w : World) (h0 : 0 ≤ left) (h1 : left ≤ 1048576) (hl : n ≤ maxLen) (hs : Sls w a n ss) :
    Calls Tryz.prog 59 #[.agg #[.slice a n cap], .int .i64 left] w fun e w' => e = .returned (.int .i64 (szI (n + lenSum ss) left)) ∧ Below w.heap.size w w' := by
  have hs1 := hs.below ((Below.refl w.heap.size w).alloc (Nat.le_refl _) (.cells #[.slice a n cap] 24)) (Nat.le_refl _)
  by_cases h : left - (n + lenSum ss : Nat) < 0
  · go_enter Tryz.func59, Tryz.ntmps59
    go_wp2_with fail
    refine (szSlotS_calls a n cap ss left _ h0 h1 hl hs1).mono ?_
    rintro e w1 ⟨rfl, hb⟩
    rw [szI_neg h]
    go_wp2
    go_ret
    exact ⟨ret_int (szI_neg h).symm, ((Below.refl _ _).alloc (Nat.le_refl _) _).trans (hb.mono (by simp))⟩
  · have hp : 0 ≤ left - (n + lenSum ss : Nat) := by omega
    go_enter Tryz.func59, Tryz.ntmps59
    go_wp2_with fail
    refine (szSlotS_calls a n cap ss left _ h0 h1 hl hs1).mono ?_
    rintro e w1 ⟨rfl, hb⟩
    rw [szI_pos hp]
    go_wp2
    go_ret
    exact ⟨ret_int (szI_pos hp).symm, ((Below.refl _ _).alloc (Nat.le_refl _) _).trans (hb.mono (by simp))⟩

end Go.Proofs.YtnlkigjgloeonaaGreat
