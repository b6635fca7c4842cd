import Derived.Test.YtipfaoecodclaaaKiC
import Derived.WalkKit
import Derived.ProofKit
import Derived.OpenShut
import Derived.ShutString
import Derived.ChangeOld
import Derived.Below
import Derived.WalkSpells
import Derived.Deep.QuietTactic
import Derived.BigQuiet
import Derived.Deep.RegionWith
import Derived.Deep.WholeRow
import Derived.Deep.DeepCutAuto
import Derived.Deep.RegionHeld2
import Derived.Deep.AppendLies
import Derived.Deep.RegionLaw
namespace Go.Proofs.Ytipfaoecodclaaa
open Go.ChangeShapes Go.WideShapes Go.ChangeAt Go.RowKit

/-- an object's standing behind n others. -/
def stdF (x : OB) (f : Nat → OB) (n : Nat) : Int := if n = 0 then fstF x else if up x.1 ((n : Int) - 1) = true ∧ (f x.1.toNat).2.2.1 = 1 then (if x.2.1 < 1 ∨ (f x.1.toNat).2.2.2.2.2.1 ≤ x.2.1 ∨ 0 ≤ pinA f n x.1 x.2.1 then 8 else 0) else 4

theorem ctV_box {x : OB} (h : formB x = true) (h1 : x.2.2.1 = 1) (da : Option Addr) (dc : Nat) (ka : Option Addr) (kn kc : Nat) : ctV x da dc ka kn kc = .iface 96 (.agg #[.int .i64 x.2.2.2.2.2.1, .slice ka kn kc]) := by unfold ctV; rw [if_pos h, if_pos h1]
theorem ctV_text {x : OB} (h : formB x = true) (h1 : x.2.2.1 ≠ 1) (da : Option Addr) (dc : Nat) (ka : Option Addr) (kn kc : Nat) : ctV x da dc ka kn kc = .iface 103 (.agg #[.slice da x.2.2.2.2.2.2.length dc]) := by unfold ctV; rw [if_pos h, if_neg h1]

set_option maxRecDepth 100000 in
theorem boxAt_out (a : Option Addr) (n c : Nat) (p : Int) (w : World) (hn : n ≤ maxLen) (h : up p ((n : Int) - 1) = false) : Calls Try.prog 71 #[.slice a n c, .int .i64 p] w fun e w' => e = .returned (.tuple #[.agg #[.int .i64 0, .slice none 0 0], .bool false]) ∧ Below w.heap.size w w' := by
  have hnb := asrt_nb
  have M0 := (Mm.start w).allocC [.int .i64 0, .slice none 0 0] 96
  have r0 := (M0.get 0 rfl).cell 0 rfl
  have r1 := (M0.get 0 rfl).cell 1 rfl
  have f0 := (M0.get 0 rfl).fz 0 (by simp)
  have f1 := (M0.get 0 rfl).fz 1 (by simp)
  have HB := hide M0.bel
  clear M0
  go_enter Try.func71, Try.ntmps71
  go_wp2_with (go_at_call 73; with_reducible refine (contentAt_out _ _ _ _ _ hn h).mono ?_; rintro e w' ⟨rfl, hw'⟩; rw [hw']; clear hw' w')
  refine bodyPost_ret (v := .tuple #[.agg #[.int .i64 0, .slice none 0 0], .bool false]) (by simp [results, Try.results71, go_sem, r0, r1]) rfl ⟨rfl, HB.out⟩

set_option maxRecDepth 100000 in
theorem boxAt_text (a : Option Addr) (n c : Nat) (f : Nat → OB) (p : Nat) (w : World) (hn : n ≤ 12) (hs : S7 w a n f) (hp : p < n) (hf : formB (f p) = true) (h1 : (f p).2.2.1 ≠ 1) : Calls Try.prog 71 #[.slice a n c, .int .i64 (p : Int)] w fun e w' => e = .returned (.tuple #[.agg #[.int .i64 0, .slice none 0 0], .bool false]) ∧ Below w.heap.size w w' := by
  have htb := asrt_tb
  have M0 := (Mm.start w).allocC [.int .i64 0, .slice none 0 0] 96
  have HS := hide (hs.below M0.bel (Nat.le_refl _))
  go_enter Try.func71, Try.ntmps71
  go_wp2_with fail
  refine (contentAt_in a n c f p _ hn HS.out hp).mono ?_
  rintro e w2 ⟨da, dc, ka, kc, rfl, h7, hfr, g2⟩
  have M2 := M0.below g2
  have r0 := (M2.get 0 rfl).cell 0 rfl
  have r1 := (M2.get 0 rfl).cell 1 rfl
  have f0 := (M2.get 0 rfl).fz 0 (by simp)
  have f1 := (M2.get 0 rfl).fz 1 (by simp)
  have HB := hide M2.bel
  rw [ctV_text hf h1]
  clear M0 M2 g2 h7 hfr h1 hf hs HS
  go_wp2
  refine bodyPost_ret (v := .tuple #[.agg #[.int .i64 0, .slice none 0 0], .bool false]) (by simp [results, Try.results71, go_sem, r0, r1]) rfl ⟨rfl, (HB.out.setCell (by simp) _).setCell (by simp) _⟩

set_option maxRecDepth 100000 in
set_option maxHeartbeats 1000000 in
theorem boxAt_box (a : Option Addr) (n c : Nat) (f : Nat → OB) (p : Nat) (w : World) (hn : n ≤ 12) (hs : S7 w a n f) (hp : p < n) (hf : formB (f p) = true) (h1 : (f p).2.2.1 = 1) : Calls Try.prog 71 #[.slice a n c, .int .i64 (p : Int)] w fun e w' => ∃ ka kc, e = .returned (.tuple #[.agg #[.int .i64 (f p).2.2.2.2.2.1, .slice ka (kidX f (p : Int) n).length kc], .bool true]) ∧ S7 w' ka (kidX f (p : Int) n).length (gO (kidX f (p : Int) n)) ∧ (∀ ad, ka = some ad → w.heap.size ≤ ad.block) ∧ Below w.heap.size w w' := by
  have hbb := asrt_bb
  have M0 := (Mm.start w).allocC [.int .i64 0, .slice none 0 0] 96
  have HS := hide (hs.below M0.bel (Nat.le_refl _))
  go_enter Try.func71, Try.ntmps71
  go_wp2_with fail
  refine (contentAt_in a n c f p _ hn HS.out hp).mono ?_
  rintro e w2 ⟨da, dc, ka, kc, rfl, h7, hfr, g2⟩
  have z2 : w.heap.size + 1 ≤ w2.heap.size := by have := g2.size; simpa using this
  have hfr2 : ∀ ad, ka = some ad → w.heap.size + 1 ≤ ad.block := fun ad e => by have := hfr ad e; simpa using this
  have M3 := (M0.below g2).allocC [.int .i64 (f p).2.2.2.2.2.1, .slice ka (kidX f (p : Int) n).length kc] 96
  obtain ⟨u, hu⟩ : ∃ u, u = w2.alloc (.cells #[.int .i64 (f p).2.2.2.2.2.1, .slice ka (kidX f (p : Int) n).length kc] 96) := ⟨_, rfl⟩
  rw [← hu] at M3
  have gu : Below w2.heap.size w2 u := by rw [hu]; exact (Below.refl _ _).alloc (Nat.le_refl _) _
  have HSU := hide (h7.below gu (Nat.le_refl _))
  have c0 := (M3.get 0 rfl).cell 0 rfl
  have c1 := (M3.get 0 rfl).cell 1 rfl
  have r0 := (M3.get 1 rfl).cell 0 rfl
  have r1 := (M3.get 1 rfl).cell 1 rfl
  have f0 := (M3.get 1 rfl).fz 0 (by simp)
  have f1 := (M3.get 1 rfl).fz 1 (by simp)
  have HB := hide M3.bel
  have HU := hide hu
  have HF := hide hfr2
  rw [ctV_box hf h1]
  clear M0 M3 g2 h7 hfr hfr2 h1 hf hs HS gu hu
  go_upto_region 4 with fail
  rw [← HU.out]
  clear HU
  go_wp2
  refine bodyPost_ret (v := .tuple #[.agg #[.int .i64 (f p).2.2.2.2.2.1, .slice ka (kidX f (p : Int) n).length kc], .bool true]) (by simp [results, Try.results71, go_sem, r0, r1]) rfl ⟨ka, kc, rfl, ?_, fun ad e => by have := HF.out ad e; omega, (HB.out.setCell (by simp) _).setCell (by simp) _⟩
  exact (HSU.out.setC (fun ad e => by have := HF.out ad e; simp; omega)).setC (fun ad e => by have := HF.out ad e; simp; omega)


set_option maxRecDepth 100000 in
set_option maxHeartbeats 2000000 in
theorem standingFault_calls (x : OB) (la : Option Addr) (lc : Nat) (da : Option Addr) (dc : Nat) (a : Option Addr) (n c : Nat) (f : Nat → OB) (w : World) (hn : n ≤ 12) (hs : S7 w a n f) (hf : ∀ j, j < n → formB (f j) = true) : Calls Try.prog 51 #[.agg #[.int .i64 x.1, .int .i64 x.2.1, .int .i64 x.2.2.1, .slice la x.2.2.2.1.length lc, .int .i64 x.2.2.2.2.1, .int .i64 x.2.2.2.2.2.1, .slice da x.2.2.2.2.2.2.length dc], .slice a n c] w fun e w' => e = .returned (.int .i64 (stdF x f n)) ∧ Below w.heap.size w w' := by
  have M0 := (Mm.start w).allocC [.int .i64 x.1, .int .i64 x.2.1, .int .i64 x.2.2.1, .slice la x.2.2.2.1.length lc, .int .i64 x.2.2.2.2.1, .int .i64 x.2.2.2.2.2.1, .slice da x.2.2.2.2.2.2.length dc] 57
  have HM0 := hide M0
  have HB0 := hide M0.bel
  have HS0 := hide (hs.below M0.bel (Nat.le_refl _))
  clear M0 hs
  by_cases h0 : n = 0
  · have HV : Hid (stdF x f n = fstF x) := if_pos h0
    have e0 : ((n : Int) == 0) = true := by simp; omega
    clear h0 hf
    go_enter Try.func51, Try.ntmps51
    go_wp2_with fail
    refine (firstFault_calls x la lc da dc _).mono ?_
    rintro e w1 ⟨rfl, g1⟩
    have HB1 := hide (HB0.out.trans (g1.mono HB0.out.size))
    clear g1
    go_wp2
    go_ret
    exact ⟨ret_int HV.out.symm, HB1.out⟩
  have e0 : ((n : Int) == 0) = false := by simp; omega
  have HV : Hid (stdF x f n = if up x.1 ((n : Int) - 1) = true ∧ (f x.1.toNat).2.2.1 = 1 then (if x.2.1 < 1 ∨ (f x.1.toNat).2.2.2.2.2.1 ≤ x.2.1 ∨ 0 ≤ pinA f n x.1 x.2.1 then 8 else 0) else 4) := if_neg h0
  clear h0
  cases hu : up x.1 ((n : Int) - 1) with
  | false =>
    have HR : Hid (stdF x f n = 4) := by show _ = _; rw [HV.out, if_neg (by rw [hu]; simp)]
    clear hf
    go_enter Try.func51, Try.ntmps51
    go_wp2_with fail
    refine (boxAt_out a n c x.1 _ (by unfold maxLen; omega) hu).mono ?_
    rintro e w1 ⟨rfl, g1⟩
    have HB1 := hide ((HM0.out.below g1).allocC [.int .i64 0, .slice none 0 0] 96).bel
    clear g1
    go_wp2
    go_ret
    exact ⟨ret_int HR.out.symm, HB1.out⟩
  | true =>
  have hux := up_iff.1 hu
  obtain ⟨p, hp⟩ : ∃ p : Nat, x.1 = (p : Int) := ⟨x.1.toNat, by omega⟩
  have hpn : p < n := by omega
  have hfp := hf p hpn
  have etn : x.1.toNat = p := by omega
  rw [etn] at HV
  by_cases h1 : (f p).2.2.1 = 1
  rotate_left
  · have HR : Hid (stdF x f n = 4) := by show _ = _; rw [HV.out, if_neg (fun e => h1 e.2)]
    have HC := hide (boxAt_text a n c f p (w.alloc (.cells #[.int .i64 x.1, .int .i64 x.2.1, .int .i64 x.2.2.1, .slice la x.2.2.2.1.length lc, .int .i64 x.2.2.2.2.1, .int .i64 x.2.2.2.2.2.1, .slice da x.2.2.2.2.2.2.length dc] 57)) hn HS0.out hpn hfp h1)
    rw [← hp] at HC
    clear hux hf hp etn hpn hfp
    go_enter Try.func51, Try.ntmps51
    go_wp2_with fail
    refine HC.out.mono ?_
    rintro e w1 ⟨rfl, g1⟩
    have HB1 := hide ((HM0.out.below g1).allocC [.int .i64 0, .slice none 0 0] 96).bel
    clear g1 h1
    go_wp2
    go_ret
    exact ⟨ret_int HR.out.symm, HB1.out⟩
  have HV2 : Hid (stdF x f n = if x.2.1 < 1 ∨ (f p).2.2.2.2.2.1 ≤ x.2.1 ∨ 0 ≤ pinA f n x.1 x.2.1 then 8 else 0) := by show _ = _; rw [HV.out, if_pos ⟨hu, h1⟩]
  have HC := hide (boxAt_box a n c f p (w.alloc (.cells #[.int .i64 x.1, .int .i64 x.2.1, .int .i64 x.2.2.1, .slice la x.2.2.2.1.length lc, .int .i64 x.2.2.2.2.1, .int .i64 x.2.2.2.2.2.1, .slice da x.2.2.2.2.2.2.length dc] 57)) hn HS0.out hpn hfp h1)
  rw [← hp] at HC
  have HP := hide hp
  clear hux hf hp etn hpn HV
  go_enter Try.func51, Try.ntmps51
  go_wp2_with fail
  refine HC.out.mono ?_
  rintro e w1 ⟨ka, kc, rfl, _, _, g1⟩
  have M1 := (HM0.out.below g1).allocC [.int .i64 (f p).2.2.2.2.2.1, .slice ka (kidX f x.1 n).length kc] 96
  have c0 := (M1.get 1 rfl).cell 0 rfl
  have c1 := (M1.get 1 rfl).cell 1 rfl
  have b0 := (M1.get 0 rfl).cell 0 rfl
  have HB2 := hide M1.bel
  have z1 : w.heap.size < w1.heap.size := by have := g1.size; simp at this; omega
  have HS2 := hide (HS0.out.below (g1.alloc g1.size (.cells #[.int .i64 (f p).2.2.2.2.2.1, .slice ka (kidX f x.1 n).length kc] 96)) (Nat.le_refl _))
  obtain ⟨u, hu2⟩ : ∃ u, u = w1.alloc (.cells #[.int .i64 (f p).2.2.2.2.2.1, .slice ka (kidX f x.1 n).length kc] 96) := ⟨_, rfl⟩
  have HU := hide hu2
  have HB2' : Hid (Below w.heap.size w u) := by rw [hu2]; exact HB2.out
  have HS2' : Hid (S7 u a n f) := by rw [hu2]; exact HS2.out
  have q1 : u.cell? ⟨w.heap.size, 0, none⟩ = some (.int .i64 x.1) := by rw [hu2]; exact c0
  have q2 : u.cell? ⟨w.heap.size, 1, none⟩ = some (.int .i64 x.2.1) := by rw [hu2]; exact c1
  have q3 : u.cell? ⟨w1.heap.size, 0, none⟩ = some (.int .i64 (f p).2.2.2.2.2.1) := by rw [hu2]; exact b0
  clear g1 h1 M1 c0 c1 b0 HB2 HS2 hu2 HM0 hfp
  go_upto_region 4 with fail
  rw [← HU.out]
  clear HU
  by_cases n1 : x.2.1 < 1
  · have HR : Hid (stdF x f n = 8) := by show _ = _; rw [HV2.out, if_pos (.inl n1)]
    go_wp2
    go_ret
    exact ⟨ret_int HR.out.symm, HB2'.out⟩
  by_cases n2 : (f p).2.2.2.2.2.1 ≤ x.2.1
  · have e2 : x.2.1 ≥ (f p).2.2.2.2.2.1 := n2
    have HR : Hid (stdF x f n = 8) := by show _ = _; rw [HV2.out, if_pos (.inr (.inl n2))]
    go_wp2
    go_ret
    exact ⟨ret_int HR.out.symm, HB2'.out⟩
  have e2 : ¬ x.2.1 ≥ (f p).2.2.2.2.2.1 := n2
  go_wp2_with fail
  refine (placeIn_calls a n c f x.1 x.2.1 _ (by unfold maxLen; omega) HS2'.out).mono ?_
  rintro e w2 ⟨rfl, g2⟩
  have HB3 := hide (HB2'.out.trans (g2.mono HB2'.out.size))
  clear g2
  by_cases n3 : 0 ≤ pinA f n x.1 x.2.1
  · have e3 : pinA f n x.1 x.2.1 ≥ 0 := n3
    have HR : Hid (stdF x f n = 8) := by show _ = _; rw [HV2.out, if_pos (.inr (.inr n3))]
    go_wp2
    go_ret
    exact ⟨ret_int HR.out.symm, HB3.out⟩
  · have e3 : ¬ pinA f n x.1 x.2.1 ≥ 0 := n3
    have HR : Hid (stdF x f n = 0) := by show _ = _; rw [HV2.out, if_neg (by rintro (h | h | h) <;> omega)]
    go_wp2
    go_ret
    exact ⟨ret_int HR.out.symm, HB3.out⟩

end Go.Proofs.Ytipfaoecodclaaa
