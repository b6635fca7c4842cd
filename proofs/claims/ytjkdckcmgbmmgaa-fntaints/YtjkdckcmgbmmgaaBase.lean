import Derived.Test.YtjkdckcmgbmmgaaRows
import Derived.Test.YtjkdckcmgbmmgaaPlain
import Derived.WalkKit
import Derived.ProofKit
import Derived.OpenShut
import Derived.ShutString
import Derived.ChangeOld
import Derived.Below
import Derived.WalkSpells
import Derived.Deep.QuietTactic
import Derived.BigQuiet
import Derived.Deep.RegionWith
import Derived.Deep.WholeRow
import Derived.Deep.DeepCutAuto
import Derived.Deep.RegionHeld2
import Derived.Deep.AppendLies
import Derived.Deep.RegionLaw
namespace Go.Proofs.Ytjkdckcmgbmmgaa
open Go.ChangeShapes Go.WideShapes Go.ChangeAt Go.RowKit





set_option maxRecDepth 100000 in
theorem in_calls (v lo hi : Int) (w : World) :
    Calls Try.prog 97 #[.int .i64 v, .int .i64 lo, .int .i64 hi] w fun e w' => e = .returned (.bool (decide (lo ≤ v) && decide (v ≤ hi))) ∧ Below w.heap.size w w' := by
  by_cases h1 : lo ≤ v
  · by_cases h2 : v ≤ hi
    all_goals
      go_enter Try.func97, Try.ntmps97
      go_wp2
      go_ret
      exact ⟨ret_bool (by simp [h1, h2]), Below.refl _ _⟩
  · go_enter Try.func97, Try.ntmps97
    go_wp2
    go_ret
    exact ⟨ret_bool (by simp; omega), Below.refl _ _⟩

set_option maxRecDepth 100000 in
theorem l1Fault_calls (p : Nat) (a : Option Addr) (len cap : Nat) (zs : List Int) (w : World) (hl : len ≤ maxLen) (hp : p < w.heap.size) (hpc : w.cell? ⟨p, 0, none⟩ = some (.slice a len cap)) (hs : Sl w a len zs) :
    Calls Try.prog 62 #[.pointer (some ⟨p, 0, none⟩)] w fun e w' => e = .returned (.int .i64 (fault zs)) ∧ Below w.heap.size w w' := by
  unfold maxLen at hl
  obtain ⟨hlen, hs⟩ := hs
  by_cases h4 : len = 4
  · subst h4
    obtain ⟨b, off, rfl, hb, hc⟩ := hs (by omega)
    go_enter Try.func62, Try.ntmps62
    go_wp2
    go_loopw [3] (fun i wr => ∃ k : Nat, k ≤ 4 ∧ i = .int .i64 k ∧ Below w.heap.size w wr ∧ (zs.take k).all okI = true) (fun i _ => 4 - (intOf i).toNat)
    case atStart => exact ⟨0, Nat.zero_le _, rfl, Below.refl _ _, by simp⟩
    case round =>
      obtain ⟨k, hk, rfl, hbel, hall⟩ := hrel
      have Hall : Hid ((zs.take k).all okI = true) := hall
      clear hall
      have hpr := (hbel.cell (p := ⟨p, 0, none⟩) hp).trans hpc
      by_cases hlt : k < 4
      · have hck := (hbel.cell (p := ⟨b, off + k, none⟩) hb).trans (hc k hlt)
        have HS : Hid ((zs.take (k + 1)).all okI = ((zs.take k).all okI && okI (gt zs k))) := all_take_succ zs k (by omega)
        go_wp2_with fail
        refine (in_calls _ _ _ _).mono ?_
        rintro e w1 ⟨rfl, hb1⟩
        have hbw : Below w.heap.size w w1 := hbel.trans (hb1.mono hbel.size)
        clear hb1
        cases hok : (decide (0 ≤ gt zs k) && decide (gt zs k ≤ 5)) with
        | true =>
          have Hok : Hid ((decide (0 ≤ gt zs k) && decide (gt zs k ≤ 5)) = true) := hok
          clear hok
          go_wp2
          go_roundw
          case rel => exact ⟨k + 1, by omega, by go_num, hbw, by rw [HS.out, Hall.out]; exact Hok.out⟩
          case measure => simp [intOf]; omega
        | false =>
          have Hok : Hid ((decide (0 ≤ gt zs k) && decide (gt zs k ≤ 5)) = false) := hok
          clear hok
          go_wp2
          go_ret
          exact ⟨ret_int (fault_bad zs k (by omega) hlen Hok.out).symm, hbw⟩
      · go_wp2
        go_ret
        exact ⟨ret_int (fault_ok zs hlen (by have := Hall.out; rw [List.take_of_length_le (by omega)] at this; exact this)).symm, hbel⟩
  · have hne : ((len : Int) == 4) = false := by simp; omega
    go_enter Try.func62, Try.ntmps62
    go_wp2
    go_ret
    exact ⟨ret_int (by simp [fault, hlen, h4]), Below.refl _ _⟩

theorem info2 : (Try.prog.info? 2).map (fun i => (i.zero, i.size, i.bytes)) = some (some (.int .i64 0), 1, 8) := by kernel_rfl



set_option maxRecDepth 100000 in
theorem implLabelFault_calls (a : Option Addr) (len cap : Nat) (zs : List Int) (w : World) (hl : len ≤ maxLen) (hs : Sl w a len zs) :
    Calls Try.prog 58 #[.agg #[.slice a len cap]] w fun e w' => e = .returned (.int .i64 (fault zs)) ∧ Below w.heap.size w w' := by
  unfold maxLen at hl
  obtain ⟨hlen, hs⟩ := hs
  by_cases h4 : len = 4
  · subst h4
    obtain ⟨b, off, rfl, hb, hc⟩ := hs (by omega)
    · go_enter Try.func58, Try.ntmps58
      go_wp2
      go_loop [12] (fun i => ∃ k : Nat, k ≤ 4 ∧ i = .int .i64 k ∧ (zs.take k).all okI = true) (fun i => 4 - (intOf i).toNat)
      case atStart => exact ⟨0, Nat.zero_le _, rfl, by simp⟩
      case round =>
        obtain ⟨k, hk, rfl, hall⟩ := hrel
        by_cases hlt : k < 4
        · have hck := hc k hlt
          have hts := all_take_succ zs k (by omega)
          have HS : Hid ((zs.take (k + 1)).all okI = ((zs.take k).all okI && okI (gt zs k))) := hts
          clear hts
          by_cases h1 : gt zs k < 0
          · go_wp2
            go_ret
            exact ⟨ret_int (fault_bad zs k (by omega) hlen (by simp [okI]; omega)).symm, (Below.refl _ _).alloc (Nat.le_refl _) _⟩
          · by_cases h2 : 5 < gt zs k
            · go_wp2
              go_ret
              exact ⟨ret_int (fault_bad zs k (by omega) hlen (by simp [okI]; omega)).symm, (Below.refl _ _).alloc (Nat.le_refl _) _⟩
            · go_wp2
              go_round
              case rel => exact ⟨k + 1, by omega, by go_num, by rw [HS.out]; simp [okI, hall]; omega⟩
              case measure => simp [intOf]; omega
        · go_wp2
          go_ret
          exact ⟨ret_int (fault_ok zs hlen (by rw [List.take_of_length_le (by omega)] at hall; exact hall)).symm, (Below.refl _ _).alloc (Nat.le_refl _) _⟩
  · have hne : ((len : Int) == 4) = false := by simp; omega
    go_enter Try.func58, Try.ntmps58
    go_wp2
    go_ret
    exact ⟨by simp [fault, hlen, h4], (Below.refl _ _).alloc (Nat.le_refl _) _⟩





end Go.Proofs.Ytjkdckcmgbmmgaa
