import Derived.Test.YtkpcomfmfpnbiaaInstD
import Derived.Test.YtkpcomfmfpnbiaaInstG
import Derived.WalkKit
import Derived.ProofKit
import Derived.OpenShut
import Derived.ShutString
import Derived.ChangeOld
import Derived.Below
import Derived.WalkSpells
import Derived.Deep.QuietTactic
import Derived.BigQuiet
import Derived.Deep.RegionWith
import Derived.Deep.WholeRow
import Derived.Deep.DeepCutAuto
import Derived.Deep.RegionHeld2
import Derived.Deep.AppendLies
import Derived.Deep.RegionLaw
namespace Go.Proofs.Ytkpcomfmfpnbiaa
open Go.ChangeShapes Go.WideShapes Go.ChangeAt Go.RowKit

set_option maxRecDepth 100000 in
theorem eqIntResult_calls (c v : Int) (w : World) :
    Calls Try.prog 14 #[.agg #[.int .i64 c, .int .i64 v], .agg #[.int .i64 c, .int .i64 v]] w fun e w' => e = .returned (.bool true) ∧ Below w.heap.size w w' := by
  have h1 : (c != c) = false := by simp
  have h2 : (v != v) = false := by simp
  go_enter Try.func14, Try.ntmps14
  go_wp2
  go_ret
  exact ⟨rfl, ((Below.refl _ _).alloc (Nat.le_refl _) _).alloc (by simp) _⟩

theorem ret_u16 {a b : Int} (h : a = b) : Ending.returned (.int .u16 a) = .returned (.int .u16 b) := by rw [h]

set_option maxRecDepth 100000 in
theorem pack_calls (o a b i : Int) (w : World) (h : ifC o a b i = 0) :
    Calls Try.prog 22 #[.agg #[.int .i64 o, .int .i64 a, .int .i64 b, .int .i64 i]] w fun e w' => e = .returned (.int .u16 (encI o a b i)) ∧ Below w.heap.size w w' := by
  obtain ⟨⟨o0, o1⟩, ⟨a0, a1⟩, ⟨b0, b1⟩, i0, i1⟩ := ifC_zero h
  have w0 : IntKind.u16.wrap o = o := u16_in (by omega)
  have w1 : IntKind.u16.wrap a = a := u16_in (by omega)
  have w2 : IntKind.u16.wrap b = b := u16_in (by omega)
  have w3 : IntKind.u16.wrap i = i := u16_in (by omega)
  have m0 : IntKind.u16.wrap (o * 4096) = o * 4096 := u16_in (by omega)
  have m1 : IntKind.u16.wrap (a * 512) = a * 512 := u16_in (by omega)
  have m2 : IntKind.u16.wrap (b * 64) = b * 64 := u16_in (by omega)
  have s1 : IntKind.u16.wrap (o * 4096 + a * 512) = o * 4096 + a * 512 := u16_in (by omega)
  have s2 : IntKind.u16.wrap (o * 4096 + a * 512 + b * 64) = o * 4096 + a * 512 + b * 64 := u16_in (by omega)
  have s3 : IntKind.u16.wrap (o * 4096 + a * 512 + b * 64 + i) = o * 4096 + a * 512 + b * 64 + i := u16_in (by omega)
  have HE : Hid (encI o a b i = o * 4096 + a * 512 + b * 64 + i) := by show _ = _; unfold encI; omega
  have HB := hide fun o1 => (Below.refl w.heap.size w).alloc (Nat.le_refl _) o1
  clear h
  go_enter Try.func22, Try.ntmps22
  go_wp2
  go_ret
  exact ⟨ret_u16 HE.out.symm, HB.out _⟩

set_option maxRecDepth 100000 in
theorem l5Encode_calls (P : Nat) (o a b i : Int) (w : World) (h : ifC o a b i = 0) (c0 : w.cell? ⟨P, 0, none⟩ = some (.int .i64 o)) (c1 : w.cell? ⟨P, 1, none⟩ = some (.int .i64 a)) (c2 : w.cell? ⟨P, 2, none⟩ = some (.int .i64 b)) (c3 : w.cell? ⟨P, 3, none⟩ = some (.int .i64 i)) :
    Calls Try.prog 21 #[.pointer (some ⟨P, 0, none⟩)] w fun e w' => e = .returned (.int .i64 (encI o a b i)) ∧ w' = w.drew := by
  obtain ⟨⟨o0, o1⟩, ⟨a0, a1⟩, ⟨b0, b1⟩, i0, i1⟩ := ifC_zero h
  have HE : Hid (encI o a b i = 4096 * o + 512 * a + 64 * b + i) := rfl
  clear h
  go_enter Try.func21, Try.ntmps21
  go_wp2
  go_region
  go_wp2
  go_ret
  exact ⟨ret_int HE.out.symm, rfl⟩

def enV (o a b i : Int) : Int := if ifC o a b i = 0 then encI o a b i else 0

set_option maxRecDepth 100000 in
theorem implEncodeInst_calls (o a b i : Int) (w : World) :
    Calls Try.prog 13 #[.agg #[.int .i64 o, .int .i64 a, .int .i64 b, .int .i64 i]] w fun e w' => e = .returned (.agg #[.int .i64 (ifC o a b i), .int .i64 (enV o a b i)]) ∧ Below w.heap.size w w' := by
  have M0 := ((Mm.start w).alloc4 (.int .i64 o) (.int .i64 a) (.int .i64 b) (.int .i64 i) 25).alloc2 (.int .i64 0) (.int .i64 0) 34
  simp only [World.size_alloc] at M0
  go_enter Try.func13, Try.ntmps13
  go_wp2_with fail
  refine (implInstFault_calls o a b i _).mono ?_
  rintro e w1 ⟨rfl, g1⟩
  have M1 := M0.below g1
  clear M0 g1
  by_cases hf : ifC o a b i = 0
  · have HV : Hid (enV o a b i = encI o a b i) := if_pos hf
    have e1 : (ifC o a b i != 0) = false := by simp [hf]
    have hr := ifC_zero hf
    have he : 0 ≤ encI o a b i ∧ encI o a b i ≤ 65535 := by unfold encI; omega
    have hw : wrap64 (encI o a b i) = encI o a b i := w64_in (by omega)
    have Hf := hide hf
    have c0 := M1.cell 2 rfl
    have c1 := M1.cell 3 rfl
    have c2 := M1.cell 4 rfl
    have c3 := M1.cell 5 rfl
    clear hr hf
    go_wp2_with fail
    refine (pack_calls o a b i _ Hf.out).mono ?_
    rintro e w2 ⟨rfl, g2⟩
    have M2 := M1.below g2
    clear M1 g2 c0 c1 c2 c3
    have d0 := M2.cell 0 rfl
    have d1 := M2.cell 1 rfl
    have f0 := M2.fz 0 rfl
    have f1 := M2.fz 1 rfl
    have HB := hide M2.bel
    clear M2
    go_wp2
    exact bodyPost_ret (v := .agg #[.int .i64 0, .int .i64 (encI o a b i)]) (by simp [results, Try.results13, go_sem, d0, d1]) rfl ⟨by rw [Hf.out, HV.out], (HB.out.setCell (by simp) _).setCell (by simp) _⟩
  · have HV : Hid (enV o a b i = 0) := if_neg hf
    have e1 : (ifC o a b i != 0) = true := by simpa using hf
    have d0 := M1.cell 0 rfl
    have d1 := M1.cell 1 rfl
    have f0 := M1.fz 0 rfl
    have f1 := M1.fz 1 rfl
    have HB := hide M1.bel
    clear M1 hf
    go_wp2
    exact bodyPost_ret (v := .agg #[.int .i64 (ifC o a b i), .int .i64 0]) (by simp [results, Try.results13, go_sem, d0, d1]) rfl ⟨by rw [HV.out], (HB.out.setCell (by simp) _).setCell (by simp) _⟩

set_option maxRecDepth 100000 in
theorem specEncodeInst_calls (o a b i : Int) (w : World) :
    Calls Try.prog 12 #[.agg #[.int .i64 o, .int .i64 a, .int .i64 b, .int .i64 i]] w fun e w' => e = .returned (.agg #[.int .i64 (ifC o a b i), .int .i64 (enV o a b i)]) ∧ Below w.heap.size w w' := by
  have hb := fun o1 o2 => ((Below.refl w.heap.size w).alloc (Nat.le_refl _) o1).alloc (by simp) o2
  have HB := hide hb
  clear hb
  by_cases hf : ifC o a b i = 0
  · have HV : Hid (enV o a b i = encI o a b i) := if_pos hf
    have e1 : (ifC o a b i != 0) = false := by simp [hf]
    have Hf := hide hf
    clear hf
    go_enter Try.func12, Try.ntmps12
    go_wp2_with (first
      | (go_at_call 15; refine (l5Fault_calls w.heap.size o a b i _ (by simp) (by simp) (by simp) (by simp)).mono ?_; rintro e w' ⟨rfl, rfl⟩)
      | (go_at_call 21; refine (l5Encode_calls w.heap.size o a b i _ Hf.out (by simp) (by simp) (by simp) (by simp)).mono ?_; rintro e w' ⟨rfl, rfl⟩))
    exact bodyPost_ret (v := .agg #[.int .i64 0, .int .i64 (encI o a b i)]) (by simp [results, Try.results12, go_sem]) rfl ⟨by rw [Hf.out, HV.out], by first | exact HB.out _ _ | exact (HB.out _ _).drew⟩
  · have HV : Hid (enV o a b i = 0) := if_neg hf
    have e1 : (ifC o a b i != 0) = true := by simpa using hf
    clear hf
    go_enter Try.func12, Try.ntmps12
    go_wp2_with (go_at_call 15; refine (l5Fault_calls w.heap.size o a b i _ (by simp) (by simp) (by simp) (by simp)).mono ?_; rintro e w' ⟨rfl, rfl⟩)
    exact bodyPost_ret (v := .agg #[.int .i64 (ifC o a b i), .int .i64 0]) (by simp [results, Try.results12, go_sem]) rfl ⟨by rw [HV.out], HB.out _ _⟩

set_option maxRecDepth 100000 in
theorem walk_EncodeInst (o a b i : Int) (w : World) :
    Calls Try.prog 5 #[.agg #[.int .i64 o, .int .i64 a, .int .i64 b, .int .i64 i]] w fun e w' => e = .returned (.bool true) ∧ Below w.heap.size w w' := by
  have M0 := (Mm.start w).alloc4 (.int .i64 o) (.int .i64 a) (.int .i64 b) (.int .i64 i) 23
  go_enter Try.func5, Try.ntmps5
  go_wp2_with fail
  refine (toInst_calls o a b i _).mono ?_
  rintro e w1 ⟨rfl, g1⟩
  have M1 := M0.below g1
  clear M0 g1
  go_wp2_with fail
  refine (specEncodeInst_calls o a b i _).mono ?_
  rintro e w2 ⟨rfl, g2⟩
  have M2 := (M1.below g2).alloc2 (.int .i64 (ifC o a b i)) (.int .i64 (enV o a b i)) 34
  have c0 := M2.cell 2 rfl
  have c1 := M2.cell 3 rfl
  have c2 := M2.cell 4 rfl
  have c3 := M2.cell 5 rfl
  have l0 := M2.lt 2 rfl
  clear M1 g2
  go_wp2_with fail
  refine (toInst_calls o a b i _).mono ?_
  rintro e w3 ⟨rfl, g3⟩
  have M3 := M2.below g3
  clear M2 g3 c0 c1 c2 c3 l0
  go_wp2_with fail
  refine (implEncodeInst_calls o a b i _).mono ?_
  rintro e w4 ⟨rfl, g4⟩
  have M4 := M3.below g4
  have c0 := M4.cell 0 rfl
  have c1 := M4.cell 1 rfl
  have l0 := M4.lt 0 rfl
  have HB := hide (M4.alloc2 (.int .i64 (ifC o a b i)) (.int .i64 (enV o a b i)) 34).bel
  clear M3 M4 g4
  go_wp2_with fail
  refine (eqIntResult_calls _ _ _).mono ?_
  rintro e w5 ⟨rfl, g5⟩
  have HB1 := hide (HB.out.trans (g5.mono HB.out.size))
  clear g5
  go_wp2
  go_ret
  exact ⟨rfl, HB1.out⟩

end Go.Proofs.Ytkpcomfmfpnbiaa
