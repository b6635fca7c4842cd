import Derived.Test.YtpgpoeljbppggaaDoorAsS
import Derived.WalkKit
import Derived.ProofKit
import Derived.OpenShut
import Derived.ShutString
import Derived.ChangeOld
import Derived.Below
import Derived.WalkSpells
import Derived.Deep.QuietTactic
import Derived.BigQuiet
import Derived.Deep.RegionWith
import Derived.Deep.WholeRow
import Derived.Deep.DeepCutAuto
import Derived.Deep.RegionHeld2
import Derived.Deep.AppendLies
import Derived.Deep.RegionLaw
namespace Go.Proofs.YtpgpoeljbppggaaDoor
open Go.ChangeShapes Go.WideShapes Go.ChangeAt Go.RowKit

/-- a row of texts that is only read, from any place of its block on. -/
def Stx (w : World) (a : Option Addr) (n : Nat) (ps : List ByteArray) : Prop := ps.length = n ∧ (0 < n → ∃ b off, a = some ⟨b, off, none⟩ ∧ b < w.heap.size ∧ ∀ i, i < n → w.cell? ⟨b, off + i, none⟩ = some (.string (ps.getD i ⟨#[]⟩)))

def sumB (ps : List ByteArray) : Nat := (ps.map (fun p => p.size)).sum

theorem sumB_take {ps : List ByteArray} {k : Nat} (h : k < ps.length) : sumB (ps.take (k + 1)) = sumB (ps.take k) + (ps.getD k ⟨#[]⟩).size := by
  unfold sumB
  rw [List.take_succ_eq_append_getElem h, List.map_append, List.sum_append]
  simp [h]

theorem sumB_le : ∀ {ps : List ByteArray} {k : Nat}, sumB (ps.take k) ≤ sumB ps
  | [], k => by simp
  | p :: ps, 0 => by simp [sumB]
  | p :: ps, k + 1 => by
    have := sumB_le (ps := ps) (k := k)
    simp [sumB] at this ⊢
    omega

set_option maxRecDepth 100000 in
set_option maxHeartbeats 2000000 in
theorem szStringS_calls (a : Option Addr) (n cap : Nat) (ps : List ByteArray) (left : Int) (w : World) (h0 : 0 ≤ left) (h1 : left ≤ 1048576) (hl : n ≤ maxLen) (hz : ∀ j, j < n → (ps.getD j ⟨#[]⟩).size ≤ maxLen) (hs : Stx w a n ps) :
    Calls Tryd.prog 22 #[.slice a n cap, .int .i64 left] w fun e w' => e = .returned (.int .i64 (szI (n + sumB ps) left)) ∧ Below w.heap.size w w' := by
  unfold maxLen at hl hz
  obtain ⟨hlen, hs⟩ := hs
  by_cases h : left - n < 0
  · go_enter Tryd.func22, Tryd.ntmps22
    go_wp2
    go_ret
    exact ⟨ret_int (szI_neg (by omega)).symm, Below.refl _ _⟩
  have hp : 0 ≤ left - n := by omega
  go_enter Tryd.func22, Tryd.ntmps22
  go_wp2
  go_loopw [5, 1] (fun i v wr => ∃ k : Nat, k ≤ n ∧ i = .int .i64 k ∧ v = .int .i64 (left - n - (sumB (ps.take k) : Nat)) ∧ 0 ≤ left - n - (sumB (ps.take k) : Nat) ∧ Below w.heap.size w wr) (fun i _ _ => n - (intOf i).toNat)
  case atStart => exact ⟨0, Nat.zero_le _, rfl, by simp [sumB], by simp [sumB]; omega, Below.refl _ _⟩
  case round =>
    obtain ⟨k, hk, rfl, rfl, hs0, hbel⟩ := hrel
    by_cases hlt : k < n
    · obtain ⟨b, off, rfl, hb, hc⟩ := hs (by omega)
      have cl := (hbel.cell (p := ⟨b, off + k, none⟩) hb).trans (hc k hlt)
      have hzk := hz k hlt
      have htk := sumB_take (ps := ps) (k := k) (by omega)
      have hle := sumB_le (ps := ps) (k := k + 1)
      obtain ⟨L, hL⟩ : ∃ L, L = ps.getD k ⟨#[]⟩ := ⟨_, rfl⟩
      rw [← hL] at cl hzk htk
      obtain ⟨S0, hS0⟩ : ∃ S0, S0 = sumB (ps.take k) := ⟨_, rfl⟩
      rw [← hS0] at htk hs0 ⊢
      have k0 : (0 : Int) ≤ (k : Int) := by omega
      have k1 : (k : Int) < (n : Int) := by omega
      have HT := hide htk
      have HB := hide hbel
      clear hc hL hS0 htk hbel
      by_cases hneg : left - n - S0 - L.size < 0
      · have HS : Hid (szI (n + sumB ps) left = -1) := szI_neg (by have := HT.out; omega)
        go_wp2
        go_ret
        exact ⟨ret_int HS.out.symm, HB.out⟩
      · go_wp2
        go_roundw
        case rel => exact ⟨k + 1, by omega, by go_num, by rw [HT.out]; go_num, by rw [HT.out]; omega, HB.out⟩
        case measure => simp [intOf]; omega
    · obtain rfl : k = n := by omega
      have HS : Hid (szI (k + sumB ps) left = left - k - (sumB (ps.take k) : Nat)) := by
        show _ = _
        rw [List.take_of_length_le (by omega)] at hs0 ⊢
        rw [szI_pos (by omega)]
        omega
      have HB := hide hbel
      clear hs0 hbel
      go_wp2
      go_ret
      exact ⟨ret_int HS.out.symm, HB.out⟩

end Go.Proofs.YtpgpoeljbppggaaDoor
