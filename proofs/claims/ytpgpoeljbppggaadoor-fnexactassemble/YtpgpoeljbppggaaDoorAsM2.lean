import Derived.Test.YtpgpoeljbppggaaDoorAsT
import Derived.Laws.Concat
import Derived.WalkKit
import Derived.ProofKit
import Derived.OpenShut
import Derived.ShutString
import Derived.ChangeOld
import Derived.Below
import Derived.WalkSpells
import Derived.Deep.QuietTactic
import Derived.BigQuiet
import Derived.Deep.RegionWith
import Derived.Deep.WholeRow
import Derived.Deep.DeepCutAuto
import Derived.Deep.RegionHeld2
import Derived.Deep.AppendLies
import Derived.Deep.RegionLaw
namespace Go.Proofs.YtpgpoeljbppggaaDoor
open Go.ChangeShapes Go.WideShapes Go.ChangeAt Go.RowKit

set_option maxRecDepth 100000 in
set_option maxHeartbeats 2000000 in
theorem markText_calls (m : Int) (w : World) (h0 : 1 ≤ m) (h1 : m ≤ 4194304) :
    Calls Tryd.prog 49 #[.int .i64 m] w fun e w' => ∃ s, e = .returned (.string s) ∧ Below w.heap.size w w' := by
  have g0 : ¬ m ≤ 0 := by omega
  go_enter Tryd.func49, Tryd.ntmps49
  go_wp2
  go_loopw [0, 3] (fun q t wr => ∃ (x : Int) (s : ByteArray), 0 ≤ x ∧ x ≤ m ∧ q = .int .i64 x ∧ t = .string s ∧ (s.size : Int) + x ≤ m ∧ Below w.heap.size w wr) (fun q _ _ => (intOf q).toNat)
  case atStart => exact ⟨m, ⟨#[]⟩, by omega, Int.le_refl _, rfl, rfl, by show ((0 : Nat) : Int) + m ≤ m; omega, Below.refl _ _⟩
  case round =>
    obtain ⟨x, s, hx0, hx1, rfl, rfl, hss, hbel⟩ := hrel
    have HB := hide hbel
    have hsz := hbel.size
    clear hbel
    by_cases hlt : 0 < x
    · have hr0 : 0 ≤ x % 10 := by omega
      have hr1 : x % 10 < 10 := by omega
      have hcv := conv1 (wr.alloc (.cells #[.int .u8 (48 + x % 10)] 5)) wr.heap.size (48 + x % 10) (by simp)
      have hs1 : (strOfNums [48 + x % 10]).size = 1 := rfl
      have hL : ¬ 9223372036854775807 < (strOfNums [48 + x % 10]).size + s.size := by rw [hs1]; omega
      have hL2 : (((strOfNums [48 + x % 10] ++ s).size : Nat) : Int) + x / 10 ≤ m := by rw [ByteArray.size_append, hs1]; omega
      have HL2 := hide hL2
      clear hL2 hs1
      have q0 : 0 ≤ x / 10 := by omega
      have q1 : x / 10 ≤ m := by omega
      have q2 : x / 10 < x := by omega
      go_wp2
      go_roundw
      case rel => exact ⟨x / 10, _, q0, q1, rfl, rfl, HL2.out, HB.out.alloc hsz _⟩
      case measure => simp [intOf]; omega
    · obtain rfl : x = 0 := by omega
      have hL : ¬ 9223372036854775807 < 1 + s.size := by omega
      go_wp2
      go_ret
      exact ⟨⟨_, rfl⟩, HB.out⟩

set_option maxRecDepth 100000 in
theorem markStringS_calls (S : Nat → Prop) (b n cap : Nat) (ps : List ByteArray) (m : Int) (w : World) (hm0 : 1 ≤ m) (hm : m + n ≤ 4194304) (hn : n ≤ 1048576) (hB : S b) (hh : HalfS w b n n ps) :
    Calls Tryd.prog 26 #[.slice (some ⟨b, 0, none⟩) n cap, .int .i64 m] w fun e w' => e = .returned (.int .i64 (m + n)) ∧ OutS S w w' := by
  obtain ⟨hb0, _, hc, hf⟩ := hh
  go_enter Tryd.func26, Tryd.ntmps26
  go_wp2
  go_loopw [1, 5] (fun q i wr => ∃ k : Nat, k ≤ n ∧ q = .int .i64 (m + k) ∧ i = .int .i64 k ∧ (∀ j, j < n → ∃ v, wr.cell? ⟨b, j, none⟩ = some v) ∧ (∀ j, wr.frozen? ⟨b, j, none⟩ = false) ∧ b < wr.heap.size ∧ OutS S w wr) (fun _ i _ => n - (intOf i).toNat)
  case atStart => exact ⟨0, Nat.zero_le _, by simp, rfl, hc, hf, hb0, OutS.refl _ _⟩
  case round =>
    obtain ⟨k, hk, rfl, rfl, hc1, hf1, hb1, ho⟩ := hrel
    by_cases hlt : k < n
    · have k0 : (0 : Int) ≤ (k : Int) := by omega
      have k1 : (k : Int) < (n : Int) := by omega
      have HO := hide ho
      have HC := hide hc1
      have HF := hide hf1
      clear ho hc1 hf1 hc hf
      go_wp2_with fail
      refine (markText_calls (m + k) _ (by omega) (by omega)).mono ?_
      rintro e w2 ⟨s, rfl, g2⟩
      have z2 := g2.size
      have c2 : ∀ j, j < n → ∃ v, w2.cell? ⟨b, j, none⟩ = some v := fun j hj => by
        obtain ⟨v, hv⟩ := HC.out j hj
        exact ⟨v, (g2.cell (p := ⟨b, j, none⟩) hb1).trans hv⟩
      have f2 : ∀ j, w2.frozen? ⟨b, j, none⟩ = false := fun j => (g2.frozen (p := ⟨b, j, none⟩) hb1).trans (HF.out j)
      obtain ⟨v0, hv0⟩ := c2 k hlt
      have hf0 := f2 k
      have HO2 : Hid (OutS S w w2) := HO.out.trans (OutS.of_below g2)
      have HC2 := hide c2
      have HF2 := hide f2
      clear HO HC HF g2 c2 f2
      go_wp2
      go_roundw
      case rel => exact ⟨k + 1, by omega, by go_num, by go_num, fun j hj => cell?_setCell_some (HC2.out j hj).choose_spec, fun j => by simpa using HF2.out j, by simp; omega, HO2.out.setCell hB _⟩
      case measure => simp [intOf]; omega
    · obtain rfl : k = n := by omega
      have HO := hide ho
      clear ho hc hf hc1 hf1
      go_wp2
      go_ret
      exact ⟨rfl, HO.out⟩

end Go.Proofs.YtpgpoeljbppggaaDoor
