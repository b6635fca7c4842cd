import Derived.Test.YthmeebpaaegoiaaKiC
import Derived.WalkKit
import Derived.ProofKit
import Derived.OpenShut
import Derived.ShutString
import Derived.ChangeOld
import Derived.Below
import Derived.WalkSpells
import Derived.Deep.QuietTactic
import Derived.BigQuiet
import Derived.Deep.RegionWith
import Derived.Deep.WholeRow
import Derived.Deep.DeepCutAuto
import Derived.Deep.RegionHeld2
import Derived.Deep.AppendLies
import Derived.Deep.RegionLaw
namespace Go.Proofs.Ythmeebpaaegoiaa
open Go.ChangeShapes Go.WideShapes Go.ChangeAt Go.RowKit

/-- an object's standing behind n others. -/
def stdF (x : OB) (f : Nat → OB) (n : Nat) : Int := if n = 0 then fstF x else if up x.1 ((n : Int) - 1) = true ∧ (f x.1.toNat).2.2.1 = 1 then (if x.2.1 < 1 ∨ (f x.1.toNat).2.2.2.2.2.1 ≤ x.2.1 ∨ 0 ≤ pinA f n x.1 x.2.1 then 8 else 0) else 4

theorem ctV_box {x : OB} (h : formB x = true) (h1 : x.2.2.1 = 1) (da : Option Addr) (dc : Nat) (ka : Option Addr) (kn kc : Nat) : ctV x da dc ka kn kc = .iface 87 (.agg #[.int .i64 x.2.2.2.2.2.1, .slice ka kn kc]) := by unfold ctV; rw [if_pos h, if_pos h1]
theorem ctV_text {x : OB} (h : formB x = true) (h1 : x.2.2.1 ≠ 1) (da : Option Addr) (dc : Nat) (ka : Option Addr) (kn kc : Nat) : ctV x da dc ka kn kc = .iface 132 (.agg #[.slice da x.2.2.2.2.2.2.length dc]) := by unfold ctV; rw [if_pos h, if_neg h1]

set_option maxRecDepth 100000 in
set_option maxHeartbeats 2000000 in
theorem standingFault_calls (x : OB) (la : Option Addr) (lc : Nat) (da : Option Addr) (dc : Nat) (a : Option Addr) (n c : Nat) (f : Nat → OB) (w : World) (hn : n ≤ 12) (hs : S7 w a n f) (hf : ∀ j, j < n → formB (f j) = true) : Calls Try.prog 54 #[.agg #[.int .i64 x.1, .int .i64 x.2.1, .int .i64 x.2.2.1, .slice la x.2.2.2.1.length lc, .int .i64 x.2.2.2.2.1, .int .i64 x.2.2.2.2.2.1, .slice da x.2.2.2.2.2.2.length dc], .slice a n c] w fun e w' => e = .returned (.int .i64 (stdF x f n)) ∧ Below w.heap.size w w' := by
  have M0 := (Mm.start w).allocC [.int .i64 x.1, .int .i64 x.2.1, .int .i64 x.2.2.1, .slice la x.2.2.2.1.length lc, .int .i64 x.2.2.2.2.1, .int .i64 x.2.2.2.2.2.1, .slice da x.2.2.2.2.2.2.length dc] 74
  have HM0 := hide M0
  have HB0 := hide M0.bel
  have HS0 := hide (hs.below M0.bel (Nat.le_refl _))
  have hbb := asrt_bb
  have htb := asrt_tb
  have hnb := asrt_nb
  clear M0 hs
  by_cases h0 : n = 0
  · have HV : Hid (stdF x f n = fstF x) := if_pos h0
    have e0 : ((n : Int) == 0) = true := by simp; omega
    clear h0 hf
    go_enter Try.func54, Try.ntmps54
    go_wp2_with fail
    refine (firstFault_calls x la lc da dc _).mono ?_
    rintro e w1 ⟨rfl, g1⟩
    have HB1 := hide (HB0.out.trans (g1.mono HB0.out.size))
    clear g1
    go_wp2
    go_ret
    exact ⟨ret_int HV.out.symm, HB1.out⟩
  have e0 : ((n : Int) == 0) = false := by simp; omega
  have HV : Hid (stdF x f n = if up x.1 ((n : Int) - 1) = true ∧ (f x.1.toNat).2.2.1 = 1 then (if x.2.1 < 1 ∨ (f x.1.toNat).2.2.2.2.2.1 ≤ x.2.1 ∨ 0 ≤ pinA f n x.1 x.2.1 then 8 else 0) else 4) := if_neg h0
  clear h0
  cases hu : up x.1 ((n : Int) - 1) with
  | false =>
    have HR : Hid (stdF x f n = 4) := by show _ = _; rw [HV.out, if_neg (by rw [hu]; simp)]
    clear hf
    go_enter Try.func54, Try.ntmps54
    go_wp2_with (go_at_call 85; with_reducible refine (contentAt_out _ _ _ _ _ (by unfold maxLen; omega) hu).mono ?_; rintro e w' ⟨rfl, hw'⟩; rw [hw']; clear hw' w')
    go_ret
    exact ⟨ret_int HR.out.symm, HB0.out⟩
  | true =>
  have hux := up_iff.1 hu
  obtain ⟨p, hp⟩ : ∃ p : Nat, x.1 = (p : Int) := ⟨x.1.toNat, by omega⟩
  have hpn : p < n := by omega
  have hfp := hf p hpn
  have etn : x.1.toNat = p := by omega
  have HC := hide (contentAt_in a n c f p (w.alloc (.cells #[.int .i64 x.1, .int .i64 x.2.1, .int .i64 x.2.2.1, .slice la x.2.2.2.1.length lc, .int .i64 x.2.2.2.2.1, .int .i64 x.2.2.2.2.2.1, .slice da x.2.2.2.2.2.2.length dc] 74)) hn HS0.out hpn)
  rw [etn] at HV
  rw [← hp] at HC
  have HP := hide hp
  clear hux hf hp etn hpn
  by_cases h1 : (f p).2.2.1 = 1
  rotate_left
  · have HR : Hid (stdF x f n = 4) := by show _ = _; rw [HV.out, if_neg (fun e => h1 e.2)]
    go_enter Try.func54, Try.ntmps54
    go_wp2_with fail
    refine HC.out.mono ?_
    rintro e w1 ⟨ra, rc, ka, kc, rfl, _, _, g1⟩
    have HB1 := hide (HB0.out.trans (g1.mono HB0.out.size))
    rw [ctV_text hfp h1]
    clear g1 h1
    go_wp2
    go_ret
    exact ⟨ret_int HR.out.symm, HB1.out⟩
  have HV2 : Hid (stdF x f n = if x.2.1 < 1 ∨ (f p).2.2.2.2.2.1 ≤ x.2.1 ∨ 0 ≤ pinA f n x.1 x.2.1 then 8 else 0) := by show _ = _; rw [HV.out, if_pos ⟨hu, h1⟩]
  clear HV
  go_enter Try.func54, Try.ntmps54
  go_wp2_with fail
  refine HC.out.mono ?_
  rintro e w1 ⟨ra, rc, ka, kc, rfl, _, _, g1⟩
  have M1 := (HM0.out.below g1).allocC [.int .i64 (f p).2.2.2.2.2.1, .slice ka (kidX f x.1 n).length kc] 87
  have c0 := (M1.get 1 rfl).cell 0 rfl
  have c1 := (M1.get 1 rfl).cell 1 rfl
  have b0 := (M1.get 0 rfl).cell 0 rfl
  have HB2 := hide M1.bel
  have z1 : w.heap.size < w1.heap.size := by have := g1.size; simp at this; omega
  have HS2 := hide (HS0.out.below (g1.alloc g1.size (.cells #[.int .i64 (f p).2.2.2.2.2.1, .slice ka (kidX f x.1 n).length kc] 87)) (Nat.le_refl _))
  obtain ⟨u, hu2⟩ : ∃ u, u = w1.alloc (.cells #[.int .i64 (f p).2.2.2.2.2.1, .slice ka (kidX f x.1 n).length kc] 87) := ⟨_, rfl⟩
  have HU := hide hu2
  have HB2' : Hid (Below w.heap.size w u) := by rw [hu2]; exact HB2.out
  have HS2' : Hid (S7 u a n f) := by rw [hu2]; exact HS2.out
  have q1 : u.cell? ⟨w.heap.size, 0, none⟩ = some (.int .i64 x.1) := by rw [hu2]; exact c0
  have q2 : u.cell? ⟨w.heap.size, 1, none⟩ = some (.int .i64 x.2.1) := by rw [hu2]; exact c1
  have q3 : u.cell? ⟨w1.heap.size, 0, none⟩ = some (.int .i64 (f p).2.2.2.2.2.1) := by rw [hu2]; exact b0
  rw [ctV_box hfp h1]
  clear g1 h1 M1 c0 c1 b0 HB2 HS2 hu2 HM0 hfp
  go_upto_region 6 with fail
  rw [← HU.out]
  clear HU
  by_cases n1 : x.2.1 < 1
  · have HR : Hid (stdF x f n = 8) := by show _ = _; rw [HV2.out, if_pos (.inl n1)]
    go_wp2
    go_ret
    exact ⟨ret_int HR.out.symm, HB2'.out⟩
  by_cases n2 : (f p).2.2.2.2.2.1 ≤ x.2.1
  · have e2 : x.2.1 ≥ (f p).2.2.2.2.2.1 := n2
    have HR : Hid (stdF x f n = 8) := by show _ = _; rw [HV2.out, if_pos (.inr (.inl n2))]
    go_wp2
    go_ret
    exact ⟨ret_int HR.out.symm, HB2'.out⟩
  have e2 : ¬ x.2.1 ≥ (f p).2.2.2.2.2.1 := n2
  go_wp2_with fail
  refine (placeIn_calls a n c f x.1 x.2.1 _ (by unfold maxLen; omega) HS2'.out).mono ?_
  rintro e w2 ⟨rfl, g2⟩
  have HB3 := hide (HB2'.out.trans (g2.mono HB2'.out.size))
  clear g2
  by_cases n3 : 0 ≤ pinA f n x.1 x.2.1
  · have e3 : pinA f n x.1 x.2.1 ≥ 0 := n3
    have HR : Hid (stdF x f n = 8) := by show _ = _; rw [HV2.out, if_pos (.inr (.inr n3))]
    go_wp2
    go_ret
    exact ⟨ret_int HR.out.symm, HB3.out⟩
  · have e3 : ¬ pinA f n x.1 x.2.1 ≥ 0 := n3
    have HR : Hid (stdF x f n = 0) := by show _ = _; rw [HV2.out, if_neg (by rintro (h | h | h) <;> omega)]
    go_wp2
    go_ret
    exact ⟨ret_int HR.out.symm, HB3.out⟩

end Go.Proofs.Ythmeebpaaegoiaa
