import Derived.Test.YtknnahchhbobbaaDoorTxtP
import Derived.Test.YtknnahchhbobbaaDoorBase
import Derived.Test.YtknnahchhbobbaaDoorApp
import Derived.WalkKit
import Derived.ProofKit
import Derived.OpenShut
import Derived.ShutString
import Derived.ChangeOld
import Derived.Below
import Derived.WalkSpells
import Derived.Deep.QuietTactic
import Derived.BigQuiet
import Derived.Deep.RegionWith
import Derived.Deep.WholeRow
import Derived.Deep.DeepCutAuto
import Derived.Deep.RegionHeld2
import Derived.Deep.AppendLies
import Derived.Deep.RegionLaw
namespace Go.Proofs.YtknnahchhbobbaaDoor
open Go.ChangeShapes Go.WideShapes Go.ChangeAt Go.RowKit

theorem infoU8 : (Tryd.prog.info? 5).map (fun i => (i.zero, i.size, i.bytes)) = some (some (.int .u8 0), 1, 1) := by kernel_rfl

theorem sign_at {z : Int} (h0 : 0 ≤ z) (h5 : z ≤ 5) (w : World) : (Instr.index 9 (.string ⟨#[42, 48, 49, 50, 51, 74]⟩) (.int .i64 z)).run Tryd.prog w = .ok (.int .u8 (sg z)) w := by
  rcases (by omega : z = 0 ∨ z = 1 ∨ z = 2 ∨ z = 3 ∨ z = 4 ∨ z = 5) with rfl | rfl | rfl | rfl | rfl | rfl <;> kernel_rfl

set_option maxRecDepth 100000 in
set_option maxHeartbeats 1000000 in
theorem l1Text_calls (P : Nat) (a : Option Addr) (cap : Nat) (zs : List Int) (w : World) (hz : fault zs = 0) (hP : P < w.heap.size) (hpc : w.cell? ⟨P, 0, none⟩ = some (.slice a 4 cap)) (hs : Sl w a 4 zs) :
    Calls Tryd.prog 24 #[.pointer (some ⟨P, 0, none⟩)] w fun e w' => e = .returned (.string (strOfNums (zs.map sg))) ∧ Below w.heap.size w w' := by
  obtain ⟨hlen, hs⟩ := hs
  obtain ⟨b, off, rfl, hb, hc⟩ := hs (by omega)
  obtain ⟨i0, hi, hz0, hz1, hz2⟩ := info_parts infoU8
  have HZ := hide hz
  have HL := hide hlen
  clear hz hlen
  go_enter Tryd.func24, Tryd.ntmps24
  go_wp2
  go_loopw [3, 4] (fun v i wr => ∃ k : Nat, k ≤ 4 ∧ i = .int .i64 k ∧ wr.ownsRow w.heap.size 5 1 v k (sgV (zs.take k)) ∧ Below w.heap.size w wr) (fun _ i _ => 4 - (intOf i).toNat)
  case atStart => exact ⟨0, Nat.zero_le _, rfl, World.ownsRow_lit (base := w.heap.size) (e := 5) (size := 1) w #[] 0 (Nat.le_refl _) (Nat.zero_le _) rfl, (Below.refl _ _).alloc (Nat.le_refl _) _⟩
  case round =>
    obtain ⟨k, hk, rfl, hown, hbel⟩ := hrel
    have hpr := (hbel.cell (p := ⟨P, 0, none⟩) hP).trans hpc
    by_cases hlt : k < 4
    · have hck := (hbel.cell (p := ⟨b, off + k, none⟩) hb).trans (hc k hlt)
      have hr := fault_all HZ.out k (by rw [HL.out]; exact hlt)
      have hsi := fun u => sign_at hr.1 hr.2 u
      have HT := hide (take_sg zs k (by rw [HL.out]; exact hlt))
      have al := (Below.refl wr.heap.size wr).alloc (Nat.le_refl _) (.cells #[.int .u8 (sg (gt zs k))] 5)
      have HO := hide (own_keepB hown al)
      have HW := hide hown
      have HB := hide hbel
      have hzs := hbel.size
      clear hown hbel al
      go_wp2_with (first
        | (at_builtin; refine wpList_append_lies _ rfl _ _ 22 rfl w.heap.size 5 i0 (.int .u8 0) 1 1 Tryd.underlying22 hi hz0 hz1 hz2 rfl (by decide) _ k (sgV (zs.take k)) rfl HO.out ⟨wr.heap.size, 0, none⟩ 1 1 [.int .u8 (sg (gt zs k))] rfl rfl (one_new (by go_simp)) (by simp [Value.oneCell']) (by omega) (by unfold maxLen; omega) (by omega) (by simp; omega) (wr.heap.size + 1) (by simp) ?_)
        | go_in)
      intro g cp w5 hown5 hgrow hat hlt5
      have hB5 : Below w.heap.size w w5 := (HB.out.alloc HB.out.size _).grown hgrow (by simp; omega) (fun q hq => (HW.out.lt q hq).1)
      rw [← HT.out] at hown5
      have H5 := hide hown5
      have HB5 := hide hB5
      clear hown5 hgrow hat hlt5 hB5
      go_wp2
      go_roundw
      case rel => exact ⟨k + 1, by omega, by go_num, H5.out, HB5.out⟩
      case measure => simp [intOf]; omega
    · obtain rfl : k = 4 := by omega
      have ht : sgV (zs.take 4) = (zs.map sg).map (Value.int .u8) := by rw [List.take_of_length_le (by rw [HL.out]; omega)]; rfl
      rw [ht] at hown
      obtain ⟨g, cp, rfl, _⟩ := hown.form (by omega)
      obtain ⟨hxl, hxc⟩ := own_text hown
      have hcv := run_convert_bytes_arg (P := Tryd.prog) wr 22 5 Tryd.underlying22 Tryd.underlying5 g 0 4 cp (zs.map sg) hxl hxc 9 Tryd.underlying9
      have HB := hide hbel
      clear hown hbel hxc ht
      go_wp2
      go_ret
      exact ⟨rfl, HB.out⟩

end Go.Proofs.YtknnahchhbobbaaDoor
