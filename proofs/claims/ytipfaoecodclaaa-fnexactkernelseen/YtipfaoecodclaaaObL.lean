import Derived.Test.YtipfaoecodclaaaObP
import Derived.Test.YtipfaoecodclaaaBase
import Derived.Test.YtipfaoecodclaaaCsK
import Derived.WalkKit
import Derived.ProofKit
import Derived.OpenShut
import Derived.ShutString
import Derived.ChangeOld
import Derived.Below
import Derived.WalkSpells
import Derived.Deep.QuietTactic
import Derived.BigQuiet
import Derived.Deep.RegionWith
import Derived.Deep.WholeRow
import Derived.Deep.DeepCutAuto
import Derived.Deep.RegionHeld2
import Derived.Deep.AppendLies
import Derived.Deep.RegionLaw
namespace Go.Proofs.Ytipfaoecodclaaa
open Go.ChangeShapes Go.WideShapes Go.ChangeAt Go.RowKit

set_option maxRecDepth 100000 in
theorem szObject_calls (x : OB) (la : Option Addr) (lc : Nat) (da : Option Addr) (dc : Nat) (left : Int) (w : World) (h0 : 0 ≤ left) (h1 : left ≤ 1048576) (hl : x.2.2.2.1.length ≤ maxLen) (hd : x.2.2.2.2.2.2.length ≤ maxLen) :
    Calls Try.prog 39 #[.agg #[.int .i64 x.1, .int .i64 x.2.1, .int .i64 x.2.2.1, .slice la x.2.2.2.1.length lc, .int .i64 x.2.2.2.2.1, .int .i64 x.2.2.2.2.2.1, .slice da x.2.2.2.2.2.2.length dc], .int .i64 left] w fun e w' => e = .returned (.int .i64 (szI (x.2.2.2.1.length + x.2.2.2.2.2.2.length) left)) ∧ Below w.heap.size w w' := by
  have M0 := (Mm.start w).allocC [.int .i64 x.1, .int .i64 x.2.1, .int .i64 x.2.2.1, .slice la x.2.2.2.1.length lc, .int .i64 x.2.2.2.2.1, .int .i64 x.2.2.2.2.2.1, .slice da x.2.2.2.2.2.2.length dc] 69
  by_cases h : left - x.2.2.2.1.length < 0
  · have HR := hide (szI_neg (len := x.2.2.2.1.length + x.2.2.2.2.2.2.length) (left := left) (by omega))
    go_enter Try.func39, Try.ntmps39
    go_wp2_with fail
    refine (szLabel_calls la _ lc left _ h0 h1 hl).mono ?_
    rintro e w1 ⟨rfl, g1⟩
    rw [szI_neg h]
    have HB := hide (M0.below g1).bel
    clear g1 M0
    go_wp2
    go_ret
    exact ⟨ret_int HR.out.symm, HB.out⟩
  · have hp : 0 ≤ left - x.2.2.2.1.length := by omega
    by_cases h2 : left - x.2.2.2.1.length - x.2.2.2.2.2.2.length < 0
    all_goals (
      go_enter Try.func39, Try.ntmps39
      go_wp2_with fail
      refine (szLabel_calls la _ lc left _ h0 h1 hl).mono ?_
      rintro e w1 ⟨rfl, g1⟩
      rw [szI_pos hp]
      have M1 := M0.below g1
      have c6 := (M1.get 0 rfl).cell 6 rfl
      have hge : ¬ (left - (x.2.2.2.1.length : Int) < 0) := by omega
      clear g1 M0
      go_wp2_with fail
      refine (sz_calls da _ dc _ _ hp (by omega) hd).mono ?_
      rintro e w2 ⟨rfl, g2⟩
      have HB := hide (M1.below g2).bel
      clear g2 M1 c6)
    · rw [szI_neg h2]
      have HR := hide (szI_neg (len := x.2.2.2.1.length + x.2.2.2.2.2.2.length) (left := left) (by omega))
      go_wp2
      go_ret
      exact ⟨ret_int HR.out.symm, HB.out⟩
    · have hp2 : 0 ≤ left - x.2.2.2.1.length - x.2.2.2.2.2.2.length := by omega
      rw [szI_pos hp2]
      have HR : Hid (szI (x.2.2.2.1.length + x.2.2.2.2.2.2.length) left = left - x.2.2.2.1.length - x.2.2.2.2.2.2.length) := by show _ = _; rw [szI_pos (by omega)]; omega
      have hge2 : ¬ (left - (x.2.2.2.1.length : Int) - (x.2.2.2.2.2.2.length : Int) < 0) := by omega
      go_wp2
      go_ret
      exact ⟨ret_int HR.out.symm, HB.out⟩

set_option maxRecDepth 100000 in
theorem szObjectS_calls (a : Option Addr) (n cap : Nat) (xs : List OB) (left : Int) (w : World) (h0 : 0 ≤ left) (h1 : left ≤ 1048576) (hl : n ≤ maxLen) (hs : Sob w a n xs) :
    Calls Try.prog 18 #[.slice a n cap, .int .i64 left] w fun e w' => e = .returned (.int .i64 (szI (n + lenO xs) left)) ∧ Below w.heap.size w w' := by
  unfold maxLen at hl
  obtain ⟨hlen, hs⟩ := hs
  by_cases h : left - n < 0
  · go_enter Try.func18, Try.ntmps18
    go_wp2
    go_ret
    exact ⟨ret_int (szI_neg (by omega)).symm, Below.refl _ _⟩
  · go_enter Try.func18, Try.ntmps18
    go_wp2
    go_loopw [5, 1] (fun i l wr => ∃ k : Nat, k ≤ n ∧ i = .int .i64 k ∧ l = .int .i64 (left - n - lenO (xs.take k)) ∧ 0 ≤ left - n - lenO (xs.take k) ∧ Below w.heap.size w wr) (fun i _ _ => n - (intOf i).toNat)
    case atStart => exact ⟨0, Nat.zero_le _, rfl, by simp [lenO], by simp [lenO]; omega, Below.refl _ _⟩
    case round =>
      obtain ⟨k, hk, rfl, rfl, hpos, hbel⟩ := hrel
      by_cases hlt : k < n
      · obtain ⟨b, off, rfl, hb, hc⟩ := hs (by omega)
        obtain ⟨la, lc, da, dc, h7, hll, _, hdl, _⟩ := hc k hlt
        obtain ⟨r0, r1, r2, r3, r4, r5, r6⟩ := h7.of_block (hbel.block b hb)
        have hstep := lenO_take xs k (by omega)
        have htot := lenO_le xs (k + 1)
        have hb1 : left - n - lenO (xs.take k) ≤ 1048576 := by omega
        clear h7 hc
        by_cases hneg : left - n - lenO (xs.take k) - (((gO xs k).2.2.2.1.length + (gO xs k).2.2.2.2.2.2.length : Nat) : Int) < 0
        · have Hr := hide (szI_neg (len := n + lenO xs) (left := left) (by omega))
          clear hstep htot
          go_wp2_with fail
          refine (szObject_calls (gO xs k) la lc da dc _ _ hpos hb1 hll hdl).mono ?_
          rintro e w1 ⟨rfl, g1⟩
          rw [szI_neg hneg]
          go_wp2
          go_ret
          exact ⟨ret_int Hr.out.symm, hbel.trans (g1.mono hbel.size)⟩
        · have hp2 : 0 ≤ left - n - lenO (xs.take k) - (((gO xs k).2.2.2.1.length + (gO xs k).2.2.2.2.2.2.length : Nat) : Int) := by omega
          have Hr : Hid (left - n - lenO (xs.take k) - (((gO xs k).2.2.2.1.length + (gO xs k).2.2.2.2.2.2.length : Nat) : Int) = left - n - lenO (xs.take (k + 1)) ∧ 0 ≤ left - n - lenO (xs.take (k + 1))) := ⟨by omega, by omega⟩
          clear hstep htot
          go_wp2_with fail
          refine (szObject_calls (gO xs k) la lc da dc _ _ hpos hb1 hll hdl).mono ?_
          rintro e w1 ⟨rfl, g1⟩
          rw [szI_pos hp2, Hr.out.1]
          have hge : ¬ (left - n - lenO (xs.take (k + 1)) < 0) := by have := Hr.out.2; omega
          go_wp2
          go_roundw
          case rel => exact ⟨k + 1, by omega, by go_num, rfl, Hr.out.2, hbel.trans (g1.mono hbel.size)⟩
          case measure => simp [intOf]; omega
      · have hkn : k = n := by omega
        have ht : xs.take k = xs := by rw [hkn, ← hlen, List.take_length]
        have Hr : Hid (szI (n + lenO xs) left = left - n - lenO (xs.take k)) := by
          rw [ht] at hpos ⊢
          show szI _ _ = _
          rw [szI_pos (by omega)]; omega
        clear ht
        go_wp2
        go_ret
        exact ⟨ret_int Hr.out.symm, hbel⟩

set_option maxRecDepth 100000 in
theorem szKernel_calls (a : Option Addr) (n cap : Nat) (xs : List OB) (left : Int) (w : World) (h0 : 0 ≤ left) (h1 : left ≤ 1048576) (hl : n ≤ maxLen) (hs : Sob w a n xs) :
    Calls Try.prog 5 #[.agg #[.slice a n cap], .int .i64 left] w fun e w' => e = .returned (.int .i64 (szI (n + lenO xs) left)) ∧ Below w.heap.size w w' := by
  have HB := hide fun o1 => (Below.refl w.heap.size w).alloc (Nat.le_refl _) o1
  by_cases h : left - ((n + lenO xs : Nat) : Int) < 0
  all_goals (
    go_enter Try.func5, Try.ntmps5
    go_wp2_with fail
    refine (szObjectS_calls a n cap xs left _ h0 h1 hl (hs.below (HB.out _) (Nat.le_refl _))).mono ?_
    rintro e w1 ⟨rfl, g1⟩
    have HE := hide ((HB.out _).trans (g1.mono (HB.out _).size))
    clear g1)
  · rw [szI_neg h]
    go_wp2
    go_ret
    exact ⟨ret_int (szI_neg h).symm, HE.out⟩
  · have hp : 0 ≤ left - ((n + lenO xs : Nat) : Int) := by omega
    rw [szI_pos hp]
    have hge : ¬ (left - ((n + lenO xs : Nat) : Int) < 0) := by omega
    go_wp2
    go_ret
    exact ⟨ret_int (by rw [szI_pos hp]; simp), HE.out⟩

theorem infoObject : (Try.prog.info? 57).map (fun i => (i.zero, i.size, i.bytes)) = some (some (.agg #[.int .i64 0, .int .i64 0, .int .i64 0, .slice none 0 0, .int .i64 0, .int .i64 0, .slice none 0 0]), 7, 88) := by kernel_rfl

end Go.Proofs.Ytipfaoecodclaaa
