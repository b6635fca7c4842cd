import Derived.Test.YtpcdfeccmiiglaaKgP
import Derived.Test.YtpcdfeccmiiglaaKfT
import Derived.WalkKit
import Derived.ProofKit
import Derived.OpenShut
import Derived.ShutString
import Derived.ChangeOld
import Derived.Below
import Derived.WalkSpells
import Derived.Deep.QuietTactic
import Derived.BigQuiet
import Derived.Deep.RegionWith
import Derived.Deep.WholeRow
import Derived.Deep.DeepCutAuto
import Derived.Deep.RegionHeld2
import Derived.Deep.AppendLies
import Derived.Deep.RegionLaw
namespace Go.Proofs.Ytpcdfeccmiiglaa
open Go.ChangeShapes Go.WideShapes Go.ChangeAt Go.RowKit

set_option maxRecDepth 100000 in
theorem l11Asked_calls (P : Nat) (a : Option Addr) (n c : Nat) (xs : List OB) (i : Int) (w : World) (hk : KR P a n c xs w) : Calls Try.prog 44 #[.pointer (some ⟨P, 0, none⟩), .int .i64 i] w fun e w' => e = .returned (.int .i64 (askC xs i)) ∧ Below w.heap.size w w' := by
  have hlen := hk.so.1
  have hn := hk.nm
  unfold maxLen at hn
  go_enter Try.func44, Try.ntmps44
  go_wp2_with fail
  refine (l11Fault_calls P a n c xs _ hk).mono ?_
  rintro e w1 ⟨rfl, g1⟩
  have d0 := (hk.below g1).c0
  by_cases h1 : kerF xs = 0
  rotate_left
  · have HV : Hid (askC xs i = kerF xs) := if_neg h1
    have e1 : (kerF xs != 0) = true := by simpa using h1
    clear h1
    go_wp2
    go_ret
    exact ⟨ret_int HV.out.symm, g1⟩
  have e1 : (kerF xs != 0) = false := by simp [h1]
  have hwp : IntKind.i64.wrap ((n : Int) - 1) = (n : Int) - 1 := IntWalk.i64_in _ (by omega)
  cases h2 : inB i 0 ((n : Int) - 1) with
  | false =>
    have HV : Hid (askC xs i = 3) := by show _ = _; unfold askC; rw [if_pos h1, hlen, if_neg (by rw [h2]; simp)]
    clear h1
    go_wp2_with (go_at_call 72; with_reducible refine (inB_is _ _ _ _ _ h2).mono ?_; rintro e w' ⟨rfl, hw'⟩; rw [hw']; clear hw' w')
    go_ret
    exact ⟨ret_int HV.out.symm, g1⟩
  | true =>
    have HV : Hid (askC xs i = 0) := by show _ = _; unfold askC; rw [if_pos h1, hlen, if_pos h2]
    clear h1
    go_wp2_with (go_at_call 72; with_reducible refine (inB_is _ _ _ _ _ h2).mono ?_; rintro e w' ⟨rfl, hw'⟩; rw [hw']; clear hw' w')
    go_ret
    exact ⟨ret_int HV.out.symm, g1⟩

set_option maxRecDepth 100000 in
theorem l11Box_calls (P : Nat) (a : Option Addr) (n c : Nat) (xs : List OB) (i : Int) (w : World) (hk : KR P a n c xs w) : Calls Try.prog 51 #[.pointer (some ⟨P, 0, none⟩), .int .i64 i] w fun e w' => e = .returned (.int .i64 (boxC xs i)) ∧ Below w.heap.size w w' := by
  have hlen := hk.so.1
  go_enter Try.func51, Try.ntmps51
  go_wp2_with fail
  refine (l11Asked_calls P a n c xs i _ hk).mono ?_
  rintro e w1 ⟨rfl, g1⟩
  by_cases h1 : askC xs i = 0
  rotate_left
  · have HV : Hid (boxC xs i = askC xs i) := if_neg h1
    have e1 : (askC xs i != 0) = true := by simpa using h1
    clear h1
    go_wp2
    go_ret
    exact ⟨ret_int HV.out.symm, g1⟩
  have e1 : (askC xs i != 0) = false := by simp [h1]
  obtain ⟨_, hi0, hi1⟩ := askC_inv h1
  have HV : Hid (boxC xs i = if (gO xs i.toNat).2.2.1 = 1 then 0 else 1) := if_pos h1
  obtain ⟨q, rfl⟩ : ∃ q : Nat, i = (q : Int) := ⟨i.toNat, by omega⟩
  have k1 := hk.below g1
  have d0 := k1.c0
  obtain ⟨b, off, ea, hb, hc⟩ := k1.so.2 (by omega)
  rw [ea] at d0
  obtain ⟨_, _, _, _, ⟨_, _, t2, _, _, _, _⟩, _⟩ := hc q (by omega)
  have q1 : (q : Int) < (n : Int) := by omega
  have HV2 : Hid (boxC xs (q : Int) = if (gO xs q).2.2.1 = 1 then 0 else 1) := HV.out
  clear hk k1 hc ea h1 HV hi1
  by_cases h2 : (gO xs q).2.2.1 = 1
  · have e2 : ((gO xs q).2.2.1 != 1) = false := by simp [h2]
    have HR : Hid (boxC xs (q : Int) = 0) := HV2.out.trans (if_pos h2)
    clear h2
    go_wp2
    go_ret
    exact ⟨ret_int HR.out.symm, g1⟩
  · have e2 : ((gO xs q).2.2.1 != 1) = true := by simpa using h2
    have HR : Hid (boxC xs (q : Int) = 1) := HV2.out.trans (if_neg h2)
    clear h2
    go_wp2
    go_ret
    exact ⟨ret_int HR.out.symm, g1⟩

set_option maxRecDepth 100000 in
theorem specFreeOf_calls (a : Option Addr) (n c : Nat) (xs : List OB) (i : Int) (w : World) (hm : n ≤ maxLen) (hs : Sob w a n xs) (_hcap : n ≤ c) : Calls Try.prog 19 #[.agg #[.slice a n c], .int .i64 i] w fun e w' => e = .returned (.agg #[.int .i64 (boxC xs i), .int .i64 (frV xs i)]) ∧ Below w.heap.size w w' := by
  have M0 := ((Mm.start w).alloc1 (.slice a n c) 26).alloc2 (.int .i64 0) (.int .i64 0) 36
  simp only [World.size_alloc] at M0
  have HK : Hid (KR w.heap.size a n c xs ((w.alloc (.cells #[.slice a n c] 26)).alloc (.cells #[.int .i64 0, .int .i64 0] 36))) := ⟨by simp; omega, M0.cell 2 rfl, hm, hs.below M0.bel (Nat.le_refl _)⟩
  go_enter Try.func19, Try.ntmps19
  go_wp2_with fail
  refine (l11Box_calls _ a n c xs i _ HK.out).mono ?_
  rintro e w1 ⟨rfl, g1⟩
  have M1 := M0.below g1
  have HK1 := hide (HK.out.below g1)
  have r0 := M1.cell 0 rfl
  have r1 := M1.cell 1 rfl
  have f0 := M1.fz 0 rfl
  have f1 := M1.fz 1 rfl
  have HB := hide M1.bel
  clear M0 M1 g1 HK
  by_cases h1 : boxC xs i = 0
  rotate_left
  · have HV : Hid (frV xs i = 0) := if_neg h1
    have e1 : (boxC xs i != 0) = true := by simpa using h1
    clear h1
    go_wp2
    refine bodyPost_ret (v := .agg #[.int .i64 (boxC xs i), .int .i64 0]) (by simp [results, Try.results19, go_sem, r0, r1]) rfl ⟨by rw [HV.out], (HB.out.setCell (by simp) _).setCell (by simp) _⟩
  have e1 : (boxC xs i != 0) = false := by simp [h1]
  have HV : Hid (frV xs i = freeO (gO xs) xs.length i.toNat) := if_pos h1
  obtain ⟨h2, _⟩ := boxC_inv h1
  obtain ⟨h3, hi0, hi1⟩ := askC_inv h2
  obtain ⟨_, h12, hall, _⟩ := kerF_inv h3
  have hlen := hs.1
  obtain ⟨q, rfl⟩ : ∃ q : Nat, i = (q : Int) := ⟨i.toNat, by omega⟩
  have HC := hide h1
  have HFR := hide (l11Free_calls _ a n c xs q w1 HK1.out (by omega) (by omega) (fun j hj => (rngB_inv (oneF_inv (hall j (by omega))).2.2.2.1).1))
  clear h1 h2 h3 hall hi1
  go_wp2_with fail
  refine HFR.out.mono ?_
  rintro e w' ⟨rfl, hw'⟩
  rw [hw']
  clear hw' w'
  go_wp2
  refine bodyPost_ret (v := .agg #[.int .i64 0, .int .i64 (freeO (gO xs) n q)]) (by simp [results, Try.results19, go_sem, r0, r1]) rfl ⟨by rw [HC.out, HV.out, hlen]; rfl, (HB.out.setCell (by simp) _).setCell (by simp) _⟩

end Go.Proofs.Ytpcdfeccmiiglaa
