import Derived.Test.YtknnahchhbobbaaDoorTxtS2
import Derived.Test.YtknnahchhbobbaaDoorLevels
import Derived.WalkKit
import Derived.ProofKit
import Derived.OpenShut
import Derived.ShutString
import Derived.ChangeOld
import Derived.Below
import Derived.WalkSpells
import Derived.Deep.QuietTactic
import Derived.BigQuiet
import Derived.Deep.RegionWith
import Derived.Deep.WholeRow
import Derived.Deep.DeepCutAuto
import Derived.Deep.RegionHeld2
import Derived.Deep.AppendLies
import Derived.Deep.RegionLaw
namespace Go.Proofs.YtknnahchhbobbaaDoor
open Go.ChangeShapes Go.WideShapes Go.ChangeAt Go.RowKit

theorem makeB4 (w : World) : (Instr.makeSlice 22 (.int .i64 0) (.int .i64 4)).run Tryd.prog w = .ok (.slice (some ⟨w.heap.size, 0, none⟩) 0 4) (w.alloc (.cells #[.int .u8 0, .int .u8 0, .int .u8 0, .int .u8 0] 5)) := by kernel_rfl

set_option maxRecDepth 100000 in
set_option maxHeartbeats 4000000 in
theorem implLabelText_calls (a : Option Addr) (len cap : Nat) (zs : List Int) (w : World) (hl : len ≤ maxLen) (hs : Sl w a len zs) (hsg : Sg w) :
    Calls Tryd.prog 10 #[.agg #[.slice a len cap]] w fun e w' => e = .returned (.agg #[.int .i64 (fault zs), .string (ltS zs)]) ∧ Below w.heap.size w w' := by
  have M0 := ((Mm.start w).alloc1 (.slice a len cap) 27).alloc2 (.int .i64 0) (.string ⟨#[]⟩) 32
  simp only [World.size_alloc] at M0
  obtain ⟨i0, hi, hz0, hz1, hz2⟩ := info_parts infoU8
  go_enter Tryd.func10, Tryd.ntmps10
  go_wp2_with fail
  refine (implLabelFault_calls a len cap zs _ hl (hs.below M0.bel (Nat.le_refl _))).mono ?_
  rintro e w1 ⟨rfl, g1⟩
  have M1 := M0.below g1
  have hs1 := hs.below M1.bel (Nat.le_refl _)
  clear M0 g1
  by_cases hf : fault zs = 0
  rotate_left
  · have HV := hide (ltS_no hf)
    have e1 : (fault zs != 0) = true := by simpa using hf
    have d0 := M1.cell 0 rfl
    have d1 := M1.cell 1 rfl
    have f0 := M1.fz 0 rfl
    have f1 := M1.fz 1 rfl
    have HB := hide M1.bel
    clear M1 hf hs1
    go_wp2
    exact bodyPost_ret (v := .agg #[.int .i64 (fault zs), .string ⟨#[]⟩]) (by simp [results, Tryd.results10, go_sem, d0, d1]) rfl ⟨by rw [HV.out], (HB.out.setCell (by simp) _).setCell (by simp) _⟩
  have HV := hide (ltS_ok hf)
  have e1 : (fault zs != 0) = false := by simp [hf]
  obtain rfl : len = 4 := by have := fault_len hf; have := hs.1; omega
  have Hf := hide hf
  have HL := hide hs.1
  have hmk := makeB4
  have ix0 := idx0
  have ix1 := idx1
  have ix2 := idx2
  have ix3 := idx3
  have c0 := M1.cell 2 rfl
  have hw1 := M1.lt 2 rfl
  have hw2 := M1.lt 0 rfl
  have al := (Below.refl w1.heap.size w1).alloc (Nat.le_refl _) (.cells #[.int .u8 0, .int .u8 0, .int .u8 0, .int .u8 0] 5)
  have M1' := M1.below al
  have hs1' := hs1.below al (Nat.le_refl _)
  have own0 : (w1.alloc (.cells #[.int .u8 0, .int .u8 0, .int .u8 0, .int .u8 0] 5)).ownsRow w1.heap.size 5 1 (.slice (some ⟨w1.heap.size, 0, none⟩) 0 4) 0 (sgK zs 0) :=
    ⟨rfl, .inr ⟨w1.heap.size, 4, #[.int .u8 0, .int .u8 0, .int .u8 0, .int .u8 0], rfl, Nat.le_refl _, heap_alloc_new w1 _, by omega, by unfold maxLen; omega, rfl, rfl⟩⟩
  clear hf M1 hs1 al
  go_wp2_with fail
  refine (levelsOf_calls a cap zs _ hs1').mono ?_
  rintro e w2 ⟨rfl, g2⟩
  have M2 := M1'.below g2
  have own2 := own_keepB own0 g2
  have z2 := g2.size
  simp only [World.size_alloc] at z2
  clear M1' own0 g2 hs1' c0
  unfold ints4
  go_wp2
  go_loopw [4, 16] (fun v i wr => ∃ k : Nat, k ≤ 4 ∧ i = .int .i64 k ∧ wr.ownsRow w1.heap.size 5 1 v k (sgK zs k) ∧ Mm w wr [(w.heap.size + 1, 0, .int .i64 0), (w.heap.size + 1, 1, .string ⟨#[]⟩)] [] ∧ w1.heap.size ≤ wr.heap.size) (fun _ i _ => 4 - (intOf i).toNat)
  case atStart => exact ⟨0, Nat.zero_le _, rfl, own2, M2.sub (fun _ h => by simp only [List.mem_cons, List.not_mem_nil, or_false] at h ⊢; rcases h with h | h <;> simp [h]) (fun _ h => by cases h), by omega⟩
  case round =>
    clear own2 M2
    obtain ⟨k, hk, rfl, hown, M, hzr⟩ := hrel
    by_cases hlt : k < 4
    · have hr := fault_all Hf.out k (by rw [HL.out]; exact hlt)
      have hsr := (hsg.below M.bel).at hr.1 hr.2
      have hr0 : 0 ≤ gt zs k := hr.1
      have hr6 : gt zs k < 6 := by omega
      have HT := hide (take_sgK zs k (by rw [HL.out]; exact hlt))
      have al := (Below.refl wr.heap.size wr).alloc (Nat.le_refl _) (.cells #[.int .u8 (sg (gt zs k))] 5)
      have HO := hide (own_keepB hown al)
      have HW := hide hown
      have HM := hide M
      clear hown M al
      rcases (by omega : k = 0 ∨ k = 1 ∨ k = 2 ∨ k = 3) with rfl | rfl | rfl | rfl
      · go_wp2_with (first
          | (at_builtin; refine wpList_append_lies _ rfl _ _ 22 rfl w1.heap.size 5 i0 (.int .u8 0) 1 1 Tryd.underlying22 hi hz0 hz1 hz2 rfl (by decide) _ 0 (sgK zs 0) rfl HO.out ⟨wr.heap.size, 0, none⟩ 1 1 [.int .u8 (sg (gt zs 0))] rfl rfl (one_new (by go_simp)) (by simp [Value.oneCell']) (by omega) (by unfold maxLen; omega) (by omega) (by simp; omega) (wr.heap.size + 1) (by simp) ?_)
          | go_in)
        intro g cp w5 hown5 hgrow hat hlt5
        have hB5 : Below w1.heap.size wr w5 := ((Below.refl w1.heap.size wr).alloc hzr _).grown hgrow (by simp; omega) (fun q hq => (HW.out.lt q hq).1)
        have M5 := HM.out.belowC hB5 (by omega) (by simp; omega)
        have z5 := hB5.size
        rw [← HT.out] at hown5
        have H5 := hide hown5
        have HM5 := hide M5
        clear hown5 hgrow hat hlt5 hB5 M5
        go_wp2
        go_roundw
        case rel => exact ⟨1, by omega, by go_num, H5.out, HM5.out, by omega⟩
        case measure => simp [intOf]
      · go_wp2_with (first
          | (at_builtin; refine wpList_append_lies _ rfl _ _ 22 rfl w1.heap.size 5 i0 (.int .u8 0) 1 1 Tryd.underlying22 hi hz0 hz1 hz2 rfl (by decide) _ 1 (sgK zs 1) rfl HO.out ⟨wr.heap.size, 0, none⟩ 1 1 [.int .u8 (sg (gt zs 1))] rfl rfl (one_new (by go_simp)) (by simp [Value.oneCell']) (by omega) (by unfold maxLen; omega) (by omega) (by simp; omega) (wr.heap.size + 1) (by simp) ?_)
          | go_in)
        intro g cp w5 hown5 hgrow hat hlt5
        have hB5 : Below w1.heap.size wr w5 := ((Below.refl w1.heap.size wr).alloc hzr _).grown hgrow (by simp; omega) (fun q hq => (HW.out.lt q hq).1)
        have M5 := HM.out.belowC hB5 (by omega) (by simp; omega)
        have z5 := hB5.size
        rw [← HT.out] at hown5
        have H5 := hide hown5
        have HM5 := hide M5
        clear hown5 hgrow hat hlt5 hB5 M5
        go_wp2
        go_roundw
        case rel => exact ⟨2, by omega, by go_num, H5.out, HM5.out, by omega⟩
        case measure => simp [intOf]
      · go_wp2_with (first
          | (at_builtin; refine wpList_append_lies _ rfl _ _ 22 rfl w1.heap.size 5 i0 (.int .u8 0) 1 1 Tryd.underlying22 hi hz0 hz1 hz2 rfl (by decide) _ 2 (sgK zs 2) rfl HO.out ⟨wr.heap.size, 0, none⟩ 1 1 [.int .u8 (sg (gt zs 2))] rfl rfl (one_new (by go_simp)) (by simp [Value.oneCell']) (by omega) (by unfold maxLen; omega) (by omega) (by simp; omega) (wr.heap.size + 1) (by simp) ?_)
          | go_in)
        intro g cp w5 hown5 hgrow hat hlt5
        have hB5 : Below w1.heap.size wr w5 := ((Below.refl w1.heap.size wr).alloc hzr _).grown hgrow (by simp; omega) (fun q hq => (HW.out.lt q hq).1)
        have M5 := HM.out.belowC hB5 (by omega) (by simp; omega)
        have z5 := hB5.size
        rw [← HT.out] at hown5
        have H5 := hide hown5
        have HM5 := hide M5
        clear hown5 hgrow hat hlt5 hB5 M5
        go_wp2
        go_roundw
        case rel => exact ⟨3, by omega, by go_num, H5.out, HM5.out, by omega⟩
        case measure => simp [intOf]
      · go_wp2_with (first
          | (at_builtin; refine wpList_append_lies _ rfl _ _ 22 rfl w1.heap.size 5 i0 (.int .u8 0) 1 1 Tryd.underlying22 hi hz0 hz1 hz2 rfl (by decide) _ 3 (sgK zs 3) rfl HO.out ⟨wr.heap.size, 0, none⟩ 1 1 [.int .u8 (sg (gt zs 3))] rfl rfl (one_new (by go_simp)) (by simp [Value.oneCell']) (by omega) (by unfold maxLen; omega) (by omega) (by simp; omega) (wr.heap.size + 1) (by simp) ?_)
          | go_in)
        intro g cp w5 hown5 hgrow hat hlt5
        have hB5 : Below w1.heap.size wr w5 := ((Below.refl w1.heap.size wr).alloc hzr _).grown hgrow (by simp; omega) (fun q hq => (HW.out.lt q hq).1)
        have M5 := HM.out.belowC hB5 (by omega) (by simp; omega)
        have z5 := hB5.size
        rw [← HT.out] at hown5
        have H5 := hide hown5
        have HM5 := hide M5
        clear hown5 hgrow hat hlt5 hB5 M5
        go_wp2
        go_roundw
        case rel => exact ⟨4, by omega, by go_num, H5.out, HM5.out, by omega⟩
        case measure => simp [intOf]
    · obtain rfl : k = 4 := by omega
      have ht : sgK zs 4 = (zs.map sg).map (Value.int .u8) := by unfold sgK; rw [List.take_of_length_le (by rw [HL.out]; omega)]; rfl
      rw [ht] at hown
      obtain ⟨g, cp, rfl, _⟩ := hown.form (by omega)
      obtain ⟨hxl, hxc⟩ := own_text hown
      have hcv := run_convert_bytes_arg (P := Tryd.prog) wr 22 5 Tryd.underlying22 Tryd.underlying5 g 0 4 cp (zs.map sg) hxl hxc 9 Tryd.underlying9
      have d0 := M.cell 0 rfl
      have d1 := M.cell 1 rfl
      have f0 := M.fz 0 rfl
      have f1 := M.fz 1 rfl
      have HB := hide M.bel
      clear hown hxc ht M
      go_wp2
      exact bodyPost_ret (v := .agg #[.int .i64 0, .string (strOfNums (zs.map sg))]) (by simp [results, Tryd.results10, go_sem, d0, d1]) rfl ⟨by rw [Hf.out, HV.out], (HB.out.setCell (by simp) _).setCell (by simp) _⟩

set_option maxRecDepth 100000 in
theorem eqTextResult_calls (c : Int) (s : ByteArray) (w : World) :
    Calls Tryd.prog 17 #[.agg #[.int .i64 c, .string s], .agg #[.int .i64 c, .string s]] w fun e w' => e = .returned (.bool true) ∧ Below w.heap.size w w' := by
  have h1 : (c != c) = false := by simp
  go_enter Tryd.func17, Tryd.ntmps17
  go_wp2
  go_ret
  exact ⟨rfl, ((Below.refl _ _).alloc (Nat.le_refl _) _).alloc (by simp) _⟩

end Go.Proofs.YtknnahchhbobbaaDoor
