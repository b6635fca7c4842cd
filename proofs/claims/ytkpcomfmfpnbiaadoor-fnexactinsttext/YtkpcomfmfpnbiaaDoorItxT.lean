import Derived.Test.YtkpcomfmfpnbiaaDoorItxS2
import Derived.Laws.Concat
import Derived.WalkKit
import Derived.ProofKit
import Derived.OpenShut
import Derived.ShutString
import Derived.ChangeOld
import Derived.Below
import Derived.WalkSpells
import Derived.Deep.QuietTactic
import Derived.BigQuiet
import Derived.Deep.RegionWith
import Derived.Deep.WholeRow
import Derived.Deep.DeepCutAuto
import Derived.Deep.RegionHeld2
import Derived.Deep.AppendLies
import Derived.Deep.RegionLaw
namespace Go.Proofs.YtkpcomfmfpnbiaaDoor
open Go.ChangeShapes Go.WideShapes Go.ChangeAt Go.RowKit

set_option maxRecDepth 100000 in
theorem toInst_calls (o a b i : Int) (w : World) :
    Calls Tryd.prog 22 #[.agg #[.int .i64 o, .int .i64 a, .int .i64 b, .int .i64 i]] w fun e w' => e = .returned (.agg #[.int .i64 o, .int .i64 a, .int .i64 b, .int .i64 i]) ∧ Below w.heap.size w w' := by
  have hb3 := fun o1 o2 o3 => (((Below.refl w.heap.size w).alloc (Nat.le_refl _) o1).alloc (by simp) o2).alloc (by simp; omega) o3
  have HB := hide hb3
  clear hb3
  go_enter Tryd.func22, Tryd.ntmps22
  go_wp2
  refine bodyPost_ret (v := .agg #[.int .i64 o, .int .i64 a, .int .i64 b, .int .i64 i]) (by simp [results, Tryd.results22, go_sem]) rfl ⟨rfl, ?_⟩
  first
    | exact HB.out _ _ _
    | exact ((((HB.out _ _ _).setCell (by simp) _).setCell (by simp) _).setCell (by simp) _).setCell (by simp) _
    | exact ((((((((HB.out _ _ _).setCell (by simp; omega) _).setCell (by simp; omega) _).setCell (by simp; omega) _).setCell (by simp; omega) _).setCell (by simp) _).setCell (by simp) _).setCell (by simp) _).setCell (by simp) _

set_option maxRecDepth 100000 in
theorem specInstText_calls (o a b i : Int) (w : World) :
    Calls Tryd.prog 21 #[.agg #[.int .i64 o, .int .i64 a, .int .i64 b, .int .i64 i]] w fun e w' => e = .returned (.agg #[.int .i64 (ifC o a b i), .string (itS o a b i)]) ∧ Below w.heap.size w w' := by
  have M0 := ((Mm.start w).alloc4 (.int .i64 o) (.int .i64 a) (.int .i64 b) (.int .i64 i) 26).alloc2 (.int .i64 0) (.string ⟨#[]⟩) 31
  simp only [World.size_alloc] at M0
  have q0 := M0.cell 2 rfl
  have q1 := M0.cell 3 rfl
  have q2 := M0.cell 4 rfl
  have q3 := M0.cell 5 rfl
  by_cases hf : ifC o a b i = 0
  · have HV : Hid (itS o a b i = itT o a b i) := if_pos hf
    have e1 : (ifC o a b i != 0) = false := by simp [hf]
    have Hf := hide hf
    clear hf
    go_enter Tryd.func21, Tryd.ntmps21
    go_wp2_with (go_at_call 42; refine (l5Fault_calls w.heap.size o a b i _ q0 q1 q2 q3).mono ?_; rintro e w' ⟨rfl, rfl⟩)
    refine (l5Text_calls w.heap.size o a b i _ Hf.out q0 q1 q2 q3).mono ?_
    rintro e w1 ⟨rfl, g1⟩
    have M1 := M0.below g1
    clear M0 g1 q0 q1 q2 q3
    have d0 := M1.cell 0 rfl
    have d1 := M1.cell 1 rfl
    have f0 := M1.fz 0 rfl
    have f1 := M1.fz 1 rfl
    have HB := hide M1.bel
    clear M1
    go_wp2
    exact bodyPost_ret (v := .agg #[.int .i64 0, .string (itT o a b i)]) (by simp [results, Tryd.results21, go_sem, d0, d1]) rfl ⟨by rw [Hf.out, HV.out], (HB.out.setCell (by simp) _).setCell (by simp) _⟩
  · have HV : Hid (itS o a b i = ⟨#[]⟩) := if_neg hf
    have e1 : (ifC o a b i != 0) = true := by simpa using hf
    have hb := fun o1 o2 => ((Below.refl w.heap.size w).alloc (Nat.le_refl _) o1).alloc (by simp) o2
    have HB := hide hb
    clear hf hb
    go_enter Tryd.func21, Tryd.ntmps21
    go_wp2_with (go_at_call 42; refine (l5Fault_calls w.heap.size o a b i _ q0 q1 q2 q3).mono ?_; rintro e w' ⟨rfl, rfl⟩)
    exact bodyPost_ret (v := .agg #[.int .i64 (ifC o a b i), .string ⟨#[]⟩]) (by simp [results, Tryd.results21, go_sem]) rfl ⟨by rw [HV.out], HB.out _ _⟩

/-- the program's table of words lies in the first block. -/
def Kw (w : World) : Prop := 0 < w.heap.size ∧ ∀ j, j < 16 → w.cell? ⟨0, j, none⟩ = some (.string (kws.getD j ⟨#[]⟩))

theorem Kw.below {w u : World} (h : Kw w) (hb : Below w.heap.size w u) : Kw u :=
  ⟨by have := hb.size; have := h.1; omega, fun j hj => (hb.cell (p := ⟨0, j, none⟩) h.1).trans (h.2 j hj)⟩

theorem arr0 (x0 x1 x2 : Value) (w : World) : (Instr.index 60 (.agg #[x0, x1, x2]) (.int .i64 0)).run Tryd.prog w = .ok x0 w := by kernel_rfl

theorem arr1 (x0 x1 x2 : Value) (w : World) : (Instr.index 60 (.agg #[x0, x1, x2]) (.int .i64 1)).run Tryd.prog w = .ok x1 w := by kernel_rfl

theorem arr2 (x0 x1 x2 : Value) (w : World) : (Instr.index 60 (.agg #[x0, x1, x2]) (.int .i64 2)).run Tryd.prog w = .ok x2 w := by kernel_rfl

/-- the text while its numbers are told. -/
def itK (o a b i : Int) (k : Nat) : ByteArray := if k = 0 then kw o else if k = 1 then kw o ++ (⟨#[32]⟩ ++ dg a) else if k = 2 then kw o ++ (⟨#[32]⟩ ++ dg a) ++ (⟨#[32]⟩ ++ dg b) else kw o ++ (⟨#[32]⟩ ++ dg a) ++ (⟨#[32]⟩ ++ dg b) ++ (⟨#[32]⟩ ++ dg i)

theorem itK_done (o a b i : Int) : itK o a b i 3 = itT o a b i := by
  show kw o ++ (⟨#[32]⟩ ++ dg a) ++ (⟨#[32]⟩ ++ dg b) ++ (⟨#[32]⟩ ++ dg i) = _
  unfold itT
  simp only [ByteArray.append_assoc]

set_option maxRecDepth 100000 in
set_option maxHeartbeats 4000000 in
theorem implInstText_calls (o a b i : Int) (w : World) (hkw : Kw w) :
    Calls Tryd.prog 10 #[.agg #[.int .i64 o, .int .i64 a, .int .i64 b, .int .i64 i]] w fun e w' => e = .returned (.agg #[.int .i64 (ifC o a b i), .string (itS o a b i)]) ∧ Below w.heap.size w w' := by
  have M0 := ((Mm.start w).alloc4 (.int .i64 o) (.int .i64 a) (.int .i64 b) (.int .i64 i) 26).alloc2 (.int .i64 0) (.string ⟨#[]⟩) 31
  simp only [World.size_alloc] at M0
  go_enter Tryd.func10, Tryd.ntmps10
  go_wp2_with fail
  refine (implInstFault_calls o a b i _).mono ?_
  rintro e w1 ⟨rfl, g1⟩
  have M1 := M0.below g1
  clear M0 g1
  by_cases hf : ifC o a b i = 0
  rotate_left
  · have HV : Hid (itS o a b i = ⟨#[]⟩) := if_neg hf
    have e1 : (ifC o a b i != 0) = true := by simpa using hf
    have d0 := M1.cell 0 rfl
    have d1 := M1.cell 1 rfl
    have f0 := M1.fz 0 rfl
    have f1 := M1.fz 1 rfl
    have HB := hide M1.bel
    clear M1 hf
    go_wp2
    exact bodyPost_ret (v := .agg #[.int .i64 (ifC o a b i), .string ⟨#[]⟩]) (by simp [results, Tryd.results10, go_sem, d0, d1]) rfl ⟨by rw [HV.out], (HB.out.setCell (by simp) _).setCell (by simp) _⟩
  have HV : Hid (itS o a b i = itT o a b i) := if_pos hf
  have e1 : (ifC o a b i != 0) = false := by simp [hf]
  have Hf := hide hf
  obtain ⟨⟨o0, o1⟩, ⟨a0, a1⟩, ⟨b0, b1⟩, i0, i1⟩ := ifC_zero hf
  have o2 : o < 16 := by omega
  have hk1 := (hkw.below M1.bel).2 o.toNat (by omega)
  have q0 := M1.cell 2 rfl
  have q1 := M1.cell 3 rfl
  have q2 := M1.cell 4 rfl
  have q3 := M1.cell 5 rfl
  have k0 := kw_size o0 o1
  have k1 := dg_size a
  have k2 := dg_size b
  have k3 := dg_size i
  have ix0 := arr0
  have ix1 := arr1
  have ix2 := arr2
  have hk : w1.cell? ⟨0, o.toNat, none⟩ = some (.string (kw o)) := hk1
  clear hf hk1
  go_wp2
  go_loop [4, 24] (fun v j => ∃ k : Nat, k ≤ 3 ∧ j = .int .i64 k ∧ v = .string (itK o a b i k)) (fun _ j => 3 - (intOf j).toNat)
  case atStart => exact ⟨0, Nat.zero_le _, rfl, rfl⟩
  case round =>
    obtain ⟨k, hk, rfl, rfl⟩ := hrel
    rcases (by omega : k = 0 ∨ k = 1 ∨ k = 2 ∨ k = 3) with rfl | rfl | rfl | rfl
    · have s0 : ∀ u : World, (Op.stringOp .add (ByteArray.mk #[32]) (dg a)).run Tryd.prog u = .ok (.string (ByteArray.mk #[32] ++ dg a)) u := fun u => run_string_add_sum u _ _ (by have : (ByteArray.mk #[32]).size = 1 := rfl; omega)
      have s1 : ∀ u : World, (Op.stringOp .add (itK o a b i 0) (ByteArray.mk #[32] ++ dg a)).run Tryd.prog u = .ok (.string (itK o a b i 1)) u := fun u => run_string_add_sum u _ _ (by have : (ByteArray.mk #[32]).size = 1 := rfl; have : (itK o a b i 0).size ≤ 5 := k0; simp only [ByteArray.size_append]; omega)
      go_wp2_with (go_at_call 30; refine (format_calls a _ a0 (by omega)).mono ?_; rintro e w' ⟨rfl, rfl⟩)
      go_round
      case rel => exact ⟨1, by omega, by go_num, rfl⟩
      case measure => simp [intOf]
    · have s0 : ∀ u : World, (Op.stringOp .add (ByteArray.mk #[32]) (dg b)).run Tryd.prog u = .ok (.string (ByteArray.mk #[32] ++ dg b)) u := fun u => run_string_add_sum u _ _ (by have : (ByteArray.mk #[32]).size = 1 := rfl; omega)
      have s1 : ∀ u : World, (Op.stringOp .add (itK o a b i 1) (ByteArray.mk #[32] ++ dg b)).run Tryd.prog u = .ok (.string (itK o a b i 2)) u := fun u => run_string_add_sum u _ _ (by have : (ByteArray.mk #[32]).size = 1 := rfl; have : (itK o a b i 1).size ≤ 8 := (by show (kw o ++ (ByteArray.mk #[32] ++ dg a)).size ≤ 8; simp only [ByteArray.size_append]; omega); simp only [ByteArray.size_append]; omega)
      go_wp2_with (go_at_call 30; refine (format_calls b _ b0 (by omega)).mono ?_; rintro e w' ⟨rfl, rfl⟩)
      go_round
      case rel => exact ⟨2, by omega, by go_num, rfl⟩
      case measure => simp [intOf]
    · have s0 : ∀ u : World, (Op.stringOp .add (ByteArray.mk #[32]) (dg i)).run Tryd.prog u = .ok (.string (ByteArray.mk #[32] ++ dg i)) u := fun u => run_string_add_sum u _ _ (by have : (ByteArray.mk #[32]).size = 1 := rfl; omega)
      have s1 : ∀ u : World, (Op.stringOp .add (itK o a b i 2) (ByteArray.mk #[32] ++ dg i)).run Tryd.prog u = .ok (.string (itK o a b i 3)) u := fun u => run_string_add_sum u _ _ (by have : (ByteArray.mk #[32]).size = 1 := rfl; have : (itK o a b i 2).size ≤ 11 := (by show (kw o ++ (ByteArray.mk #[32] ++ dg a) ++ (ByteArray.mk #[32] ++ dg b)).size ≤ 11; simp only [ByteArray.size_append]; omega); simp only [ByteArray.size_append]; omega)
      go_wp2_with (go_at_call 30; refine (format_calls i _ i0 i1).mono ?_; rintro e w' ⟨rfl, rfl⟩)
      go_round
      case rel => exact ⟨3, by omega, by go_num, rfl⟩
      case measure => simp [intOf]
    · have d0 := M1.cell 0 rfl
      have d1 := M1.cell 1 rfl
      have f0 := M1.fz 0 rfl
      have f1 := M1.fz 1 rfl
      have HB := hide M1.bel
      have HD := hide (itK_done o a b i)
      clear M1
      go_wp2
      exact bodyPost_ret (v := .agg #[.int .i64 0, .string (itK o a b i 3)]) (by simp [results, Tryd.results10, go_sem, d0, d1]) rfl ⟨by rw [Hf.out, HV.out, HD.out], (HB.out.setCell (by simp) _).setCell (by simp) _⟩

set_option maxRecDepth 100000 in
theorem eqTextResult_calls (c : Int) (s : ByteArray) (w : World) :
    Calls Tryd.prog 23 #[.agg #[.int .i64 c, .string s], .agg #[.int .i64 c, .string s]] w fun e w' => e = .returned (.bool true) ∧ Below w.heap.size w w' := by
  have h1 : (c != c) = false := by simp
  go_enter Tryd.func23, Tryd.ntmps23
  go_wp2
  go_ret
  exact ⟨rfl, ((Below.refl _ _).alloc (Nat.le_refl _) _).alloc (by simp) _⟩

set_option maxRecDepth 100000 in
theorem walk_InstText (o a b i : Int) (w : World) (hkw : Kw w) :
    Calls Tryd.prog 4 #[.agg #[.int .i64 o, .int .i64 a, .int .i64 b, .int .i64 i]] w fun e w' => e = .returned (.bool true) ∧ Below w.heap.size w w' := by
  have M0 := (Mm.start w).alloc4 (.int .i64 o) (.int .i64 a) (.int .i64 b) (.int .i64 i) 46
  go_enter Tryd.func4, Tryd.ntmps4
  go_wp2_with fail
  refine (toInst_calls o a b i _).mono ?_
  rintro e w1 ⟨rfl, g1⟩
  have M1 := M0.below g1
  clear M0 g1
  go_wp2_with fail
  refine (specInstText_calls o a b i _).mono ?_
  rintro e w2 ⟨rfl, g2⟩
  have M2 := (M1.below g2).alloc2 (.int .i64 (ifC o a b i)) (.string (itS o a b i)) 31
  have c0 := M2.cell 2 rfl
  have c1 := M2.cell 3 rfl
  have c2 := M2.cell 4 rfl
  have c3 := M2.cell 5 rfl
  have l0 := M2.lt 2 rfl
  clear M1 g2
  go_wp2_with fail
  refine (toInst_calls o a b i _).mono ?_
  rintro e w3 ⟨rfl, g3⟩
  have M3 := M2.below g3
  clear M2 g3 c0 c1 c2 c3 l0
  go_wp2_with fail
  refine (implInstText_calls o a b i _ (hkw.below M3.bel)).mono ?_
  rintro e w4 ⟨rfl, g4⟩
  have M4 := M3.below g4
  have c0 := M4.cell 0 rfl
  have c1 := M4.cell 1 rfl
  have l0 := M4.lt 0 rfl
  have HB := hide (M4.alloc2 (.int .i64 (ifC o a b i)) (.string (itS o a b i)) 31).bel
  clear M3 M4 g4
  go_wp2_with fail
  refine (eqTextResult_calls _ _ _).mono ?_
  rintro e w5 ⟨rfl, g5⟩
  have HB1 := hide (HB.out.trans (g5.mono HB.out.size))
  clear g5
  go_wp2
  go_ret
  exact ⟨rfl, HB1.out⟩

end Go.Proofs.YtkpcomfmfpnbiaaDoor
