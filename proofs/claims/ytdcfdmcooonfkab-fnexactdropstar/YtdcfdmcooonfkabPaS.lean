import Derived.Test.YtdcfdmcooonfkabPaP
import Derived.Test.YtdcfdmcooonfkabQs
import Derived.WalkKit
import Derived.ProofKit
import Derived.OpenShut
import Derived.ShutString
import Derived.ChangeOld
import Derived.Below
import Derived.WalkSpells
import Derived.Deep.QuietTactic
import Derived.BigQuiet
import Derived.Deep.RegionWith
import Derived.Deep.WholeRow
import Derived.Deep.DeepCutAuto
import Derived.Deep.RegionHeld2
import Derived.Deep.AppendLies
import Derived.Deep.RegionLaw
namespace Go.Proofs.Ytdcfdmcooonfkab
open Go.ChangeShapes Go.WideShapes Go.ChangeAt Go.RowKit

set_option maxRecDepth 100000 in
theorem l1FaultO_calls (p o : Nat) (a : Option Addr) (len cap : Nat) (zs : List Int) (w : World) (hl : len ≤ maxLen) (hp : p < w.heap.size) (hpc : w.cell? ⟨p, o, none⟩ = some (.slice a len cap)) (hs : Sl w a len zs) :
    Calls Try.prog 20 #[.pointer (some ⟨p, o, none⟩)] w fun e w' => e = .returned (.int .i64 (fault zs)) ∧ Below w.heap.size w w' := by
  unfold maxLen at hl
  obtain ⟨hlen, hs⟩ := hs
  by_cases h4 : len = 4
  · subst h4
    obtain ⟨b, off, rfl, hb, hc⟩ := hs (by omega)
    go_enter Try.func20, Try.ntmps20
    go_wp2
    go_loopw [3] (fun i wr => ∃ k : Nat, k ≤ 4 ∧ i = .int .i64 k ∧ Below w.heap.size w wr ∧ (zs.take k).all okI = true) (fun i _ => 4 - (intOf i).toNat)
    case atStart => exact ⟨0, Nat.zero_le _, rfl, Below.refl _ _, by simp⟩
    case round =>
      obtain ⟨k, hk, rfl, hbel, hall⟩ := hrel
      have Hall : Hid ((zs.take k).all okI = true) := hall
      clear hall
      have hpr := (hbel.cell (p := ⟨p, o, none⟩) hp).trans hpc
      by_cases hlt : k < 4
      · have hck := (hbel.cell (p := ⟨b, off + k, none⟩) hb).trans (hc k hlt)
        have HS : Hid ((zs.take (k + 1)).all okI = ((zs.take k).all okI && okI (gt zs k))) := all_take_succ zs k (by omega)
        go_wp2_with fail
        refine (in_calls _ _ _ _).mono ?_
        rintro e w1 ⟨rfl, hb1⟩
        have hbw : Below w.heap.size w w1 := hbel.trans (hb1.mono hbel.size)
        clear hb1
        cases hok : (decide (0 ≤ gt zs k) && decide (gt zs k ≤ 5)) with
        | true =>
          have Hok : Hid ((decide (0 ≤ gt zs k) && decide (gt zs k ≤ 5)) = true) := hok
          clear hok
          go_wp2
          go_roundw
          case rel => exact ⟨k + 1, by omega, by go_num, hbw, by rw [HS.out, Hall.out]; exact Hok.out⟩
          case measure => simp [intOf]; omega
        | false =>
          have Hok : Hid ((decide (0 ≤ gt zs k) && decide (gt zs k ≤ 5)) = false) := hok
          clear hok
          go_wp2
          go_ret
          exact ⟨ret_int (fault_bad zs k (by omega) hlen Hok.out).symm, hbw⟩
      · go_wp2
        go_ret
        exact ⟨ret_int (fault_ok zs hlen (by have := Hall.out; rw [List.take_of_length_le (by omega)] at this; exact this)).symm, hbel⟩
  · have hne : ((len : Int) == 4) = false := by simp; omega
    go_enter Try.func20, Try.ntmps20
    go_wp2
    go_ret
    exact ⟨ret_int (by simp [fault, hlen, h4]), Below.refl _ _⟩





theorem fault_len4 {a : Option Addr} {n : Nat} {zs : List Int} {w : World} (h : fault zs = 0) (hs : Sl w a n zs) : n = 4 := by have := fault_len h; have := hs.1; omega

end Go.Proofs.Ytdcfdmcooonfkab
