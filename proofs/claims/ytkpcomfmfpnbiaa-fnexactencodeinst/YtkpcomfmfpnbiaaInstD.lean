import Derived.Test.YtkpcomfmfpnbiaaInstF
import Derived.WalkKit
import Derived.ProofKit
import Derived.OpenShut
import Derived.ShutString
import Derived.ChangeOld
import Derived.Below
import Derived.WalkSpells
import Derived.Deep.QuietTactic
import Derived.BigQuiet
import Derived.Deep.RegionWith
import Derived.Deep.WholeRow
import Derived.Deep.DeepCutAuto
import Derived.Deep.RegionHeld2
import Derived.Deep.AppendLies
import Derived.Deep.RegionLaw
namespace Go.Proofs.Ytkpcomfmfpnbiaa
open Go.ChangeShapes Go.WideShapes Go.ChangeAt Go.RowKit

theorem u16_in {n : Int} (h : 0 ≤ n ∧ n ≤ 65535) : IntKind.u16.wrap n = n := by
  unfold IntKind.wrap
  have e : (2 ^ IntKind.u16.bits : Int) = 65536 := by decide
  have s : IntKind.u16.signed = false := by decide
  simp only [e, s, Bool.false_and]
  show n % 65536 = n
  omega

theorem w64_in {n : Int} (h : -9223372036854775808 ≤ n ∧ n ≤ 9223372036854775807) : wrap64 n = n := by
  unfold wrap64
  omega

theorem quo_in {x m : Int} (h0 : 0 ≤ x) (h1 : x ≤ 65535) (hm : 1 ≤ m) : IntKind.u16.wrap (x.tdiv m) = x / m := by
  rw [Int.tdiv_eq_ediv_of_nonneg h0]
  have := Int.ediv_nonneg h0 (show 0 ≤ m by omega)
  have : x / m ≤ x := Int.ediv_le_self m h0
  exact u16_in (by omega)

theorem rem_in {x m : Int} (h0 : 0 ≤ x) : x.tmod m = x % m := Int.tmod_eq_emod_of_nonneg h0

set_option maxRecDepth 100000 in
theorem unpack_calls (x : Int) (w : World) (h0 : 0 ≤ x) (h1 : x ≤ 65535) :
    Calls Try.prog 19 #[.int .u16 x] w fun e w' => e = .returned (.agg #[.int .i64 (x / 4096), .int .i64 (x / 512 % 8), .int .i64 (x / 64 % 8), .int .i64 (x % 64)]) ∧ Below w.heap.size w w' := by
  have HB := hide fun o1 => (Below.refl w.heap.size w).alloc (Nat.le_refl _) o1
  have e1 := hide (quo_in (m := 4096) h0 h1 (by omega))
  have e2 := hide (quo_in (m := 512) h0 h1 (by omega))
  have e3 := hide (quo_in (m := 64) h0 h1 (by omega))
  have r2 := hide (rem_in (x := x / 512) (m := 8) (by omega))
  have r3 := hide (rem_in (x := x / 64) (m := 8) (by omega))
  have v1 := hide (w64_in (n := x / 4096) (by omega))
  have v2 := hide (w64_in (n := x / 512 % 8) (by omega))
  have v3 := hide (w64_in (n := x / 64 % 8) (by omega))
  go_enter Try.func19, Try.ntmps19
  go_wp2
  rw [e1.out, e2.out, e3.out, r2.out, r3.out, v1.out, v2.out, v3.out]
  exact bodyPost_ret (v := .agg #[.int .i64 (x / 4096), .int .i64 (x / 512 % 8), .int .i64 (x / 64 % 8), .int .i64 (x % 64)]) (by simp [results, Try.results19, go_sem]) rfl ⟨rfl, HB.out _⟩

set_option maxRecDepth 100000 in
theorem l5Decode_calls (x : Int) (w : World) (h0 : 0 ≤ x) (h1 : x ≤ 65535) :
    Calls Try.prog 18 #[.int .i64 x] w fun e w' => e = .returned (.agg #[.int .i64 (x / 4096), .int .i64 (x / 512 % 8), .int .i64 (x / 64 % 8), .int .i64 (x % 64)]) ∧ Below w.heap.size w w' := by
  have HB := hide fun o1 => (Below.refl w.heap.size w).alloc (Nat.le_refl _) o1
  go_enter Try.func18, Try.ntmps18
  go_wp2
  exact bodyPost_ret (v := .agg #[.int .i64 (x / 4096), .int .i64 (x / 512 % 8), .int .i64 (x / 64 % 8), .int .i64 (x % 64)]) (by simp [results, Try.results18, go_sem]) rfl ⟨rfl, HB.out _⟩

/-- DecodeWord's code, and a part of what it gives beside it. -/
def dwC (x : Int) : Int := if up x 65535 = true then 0 else 3

def dwV (x v : Int) : Int := if up x 65535 = true then v else 0

set_option maxRecDepth 100000 in
theorem implDecodeWord_calls (x : Int) (w : World) :
    Calls Try.prog 10 #[.int .i64 x] w fun e w' => e = .returned (.agg #[.int .i64 (dwC x), .int .i64 (dwV x (x / 4096)), .int .i64 (dwV x (x / 512 % 8)), .int .i64 (dwV x (x / 64 % 8)), .int .i64 (dwV x (x % 64))]) ∧ Below w.heap.size w w' := by
  have M0 := (Mm.start w).alloc5 (.int .i64 0) (.int .i64 0) (.int .i64 0) (.int .i64 0) (.int .i64 0) 29
  cases h : up x 65535 with
  | false =>
    have HC : Hid (dwC x = 3) := if_neg (by rw [h]; simp)
    have HV : Hid (∀ v, dwV x v = 0) := fun v => if_neg (by rw [h]; simp)
    have HB := hide fun o1 => (Below.refl w.heap.size w).alloc (Nat.le_refl _) o1
    clear M0
    go_enter Try.func10, Try.ntmps10
    go_wp2_with (go_at_call 16; refine (isUpTo_calls _ _ _).mono ?_; rintro e w' ⟨rfl, rfl⟩)
    exact bodyPost_ret (v := .agg #[.int .i64 3, .int .i64 0, .int .i64 0, .int .i64 0, .int .i64 0]) (by simp [results, Try.results10, go_sem]) rfl ⟨by rw [HC.out, HV.out, HV.out, HV.out, HV.out], HB.out _⟩
  | true =>
    obtain ⟨h0, h1⟩ := up_true h
    have HC : Hid (dwC x = 0) := if_pos h
    have HV : Hid (∀ v, dwV x v = v) := fun v => if_pos h
    have ec : IntKind.u16.wrap x = x := u16_in ⟨h0, h1⟩
    go_enter Try.func10, Try.ntmps10
    go_wp2_with (go_at_call 16; refine (isUpTo_calls _ _ _).mono ?_; rintro e w' ⟨rfl, rfl⟩)
    refine (unpack_calls x _ h0 h1).mono ?_
    rintro e w1 ⟨rfl, g1⟩
    have M1 := M0.below g1
    have c0 := M1.cell 0 rfl
    have c1 := M1.cell 1 rfl
    have c2 := M1.cell 2 rfl
    have c3 := M1.cell 3 rfl
    have c4 := M1.cell 4 rfl
    have f0 := M1.fz 0 rfl
    have f1 := M1.fz 1 rfl
    have f2 := M1.fz 2 rfl
    have f3 := M1.fz 3 rfl
    have f4 := M1.fz 4 rfl
    have HB := hide M1.bel
    clear M0 M1 g1
    go_wp2
    exact bodyPost_ret (v := .agg #[.int .i64 0, .int .i64 (x / 4096), .int .i64 (x / 512 % 8), .int .i64 (x / 64 % 8), .int .i64 (x % 64)]) (by simp [results, Try.results10, go_sem, c0, c1, c2, c3, c4]) rfl ⟨by rw [HC.out, HV.out, HV.out, HV.out, HV.out], below_set5 HB.out (by omega) _ _ _ _ _⟩

set_option maxRecDepth 100000 in
theorem specDecodeWord_calls (x : Int) (w : World) :
    Calls Try.prog 9 #[.int .i64 x] w fun e w' => e = .returned (.agg #[.int .i64 (dwC x), .int .i64 (dwV x (x / 4096)), .int .i64 (dwV x (x / 512 % 8)), .int .i64 (dwV x (x / 64 % 8)), .int .i64 (dwV x (x % 64))]) ∧ Below w.heap.size w w' := by
  have M0 := (Mm.start w).alloc5 (.int .i64 0) (.int .i64 0) (.int .i64 0) (.int .i64 0) (.int .i64 0) 29
  cases h : up x 65535 with
  | false =>
    have HC : Hid (dwC x = 3) := if_neg (by rw [h]; simp)
    have HV : Hid (∀ v, dwV x v = 0) := fun v => if_neg (by rw [h]; simp)
    have HB := hide fun o1 => (Below.refl w.heap.size w).alloc (Nat.le_refl _) o1
    clear M0
    go_enter Try.func9, Try.ntmps9
    go_wp2_with (go_at_call 17; refine (inUp_calls _ _ _).mono ?_; rintro e w' ⟨rfl, rfl⟩)
    exact bodyPost_ret (v := .agg #[.int .i64 3, .int .i64 0, .int .i64 0, .int .i64 0, .int .i64 0]) (by simp [results, Try.results9, go_sem]) rfl ⟨by rw [HC.out, HV.out, HV.out, HV.out, HV.out], HB.out _⟩
  | true =>
    obtain ⟨h0, h1⟩ := up_true h
    have HC : Hid (dwC x = 0) := if_pos h
    have HV : Hid (∀ v, dwV x v = v) := fun v => if_pos h
    have ec : IntKind.u16.wrap x = x := u16_in ⟨h0, h1⟩
    go_enter Try.func9, Try.ntmps9
    go_wp2_with (go_at_call 17; refine (inUp_calls _ _ _).mono ?_; rintro e w' ⟨rfl, rfl⟩)
    refine (l5Decode_calls x _ h0 h1).mono ?_
    rintro e w1 ⟨rfl, g1⟩
    have M1 := M0.below g1
    have c0 := M1.cell 0 rfl
    have c1 := M1.cell 1 rfl
    have c2 := M1.cell 2 rfl
    have c3 := M1.cell 3 rfl
    have c4 := M1.cell 4 rfl
    have f0 := M1.fz 0 rfl
    have f1 := M1.fz 1 rfl
    have f2 := M1.fz 2 rfl
    have f3 := M1.fz 3 rfl
    have f4 := M1.fz 4 rfl
    have HB := hide M1.bel
    clear M0 M1 g1
    go_wp2
    exact bodyPost_ret (v := .agg #[.int .i64 0, .int .i64 (x / 4096), .int .i64 (x / 512 % 8), .int .i64 (x / 64 % 8), .int .i64 (x % 64)]) (by simp [results, Try.results9, go_sem, c0, c1, c2, c3, c4]) rfl ⟨by rw [HC.out, HV.out, HV.out, HV.out, HV.out], below_set5 HB.out (by omega) _ _ _ _ _⟩

end Go.Proofs.Ytkpcomfmfpnbiaa
