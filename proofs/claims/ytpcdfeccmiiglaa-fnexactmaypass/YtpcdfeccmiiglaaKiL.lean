import Derived.Test.YtpcdfeccmiiglaaKiF
import Derived.Test.YtpcdfeccmiiglaaKgF
import Derived.WalkKit
import Derived.ProofKit
import Derived.OpenShut
import Derived.ShutString
import Derived.ChangeOld
import Derived.Below
import Derived.WalkSpells
import Derived.Deep.QuietTactic
import Derived.BigQuiet
import Derived.Deep.RegionWith
import Derived.Deep.WholeRow
import Derived.Deep.DeepCutAuto
import Derived.Deep.RegionHeld2
import Derived.Deep.AppendLies
import Derived.Deep.RegionLaw
namespace Go.Proofs.Ytpcdfeccmiiglaa
open Go.ChangeShapes Go.WideShapes Go.ChangeAt Go.RowKit

theorem pin_kid {f : Nat → OB} {n : Nat} {p x : Int} (h0 : (f 0).1 ≠ p) : pinA f n p x = kidAt f n p x := by
  have hh : ∀ j, pinHit f p x j = kidHit f p x j := by
    intro j
    unfold pinHit kidHit
    rcases Nat.eq_zero_or_pos j with e | e
    · subst e; simp [h0]
    · have : decide (1 ≤ j) = true := decide_eq_true e
      rw [this, Bool.true_and]
  unfold pinA kidAt
  rw [show pinHit f p x = kidHit f p x from funext hh]
  cases (List.range n).find? (kidHit f p x) <;> rfl

set_option maxRecDepth 100000 in
set_option maxHeartbeats 4000000 in
theorem implFindObject_calls (a : Option Addr) (n c : Nat) (xs : List OB) (za : Option Addr) (zn zc : Nat) (zs : List Int) (w : World) (hm : n ≤ maxLen) (hs : Sob w a n xs) (hcap : n ≤ c) (hz : zn ≤ 1048576) (ht : Sl w za zn zs) : Calls Try.prog 10 #[.agg #[.slice a n c], .slice za zn zc] w fun e w' => e = .returned (.agg #[.int .i64 (foC xs zs), .int .i64 (foV xs zs)]) ∧ Below w.heap.size w w' := by
  have hlen := hs.1
  have M0 := ((Mm.start w).allocC [.slice a n c] 26).allocC [.int .i64 0, .int .i64 0] 36
  simp only [World.size_alloc] at M0
  have HS := hide (hs.below M0.bel (Nat.le_refl _))
  go_enter Try.func10, Try.ntmps10
  go_wp2_with fail
  refine (implKernelFault_calls a n c xs _ hm HS.out hcap).mono ?_
  rintro e w1 ⟨rfl, g1⟩
  have HM := hide (M0.below g1)
  clear M0 g1 HS
  by_cases h1 : kerF xs = 0
  rotate_left
  · have HC : Hid (foC xs zs = kerF xs) := if_neg h1
    have HV : Hid (foV xs zs = 0) := if_neg (by rw [HC.out]; exact h1)
    have e1 : (kerF xs != 0) = true := by simpa using h1
    have r0 := (HM.out.get 0 rfl).cell 0 rfl
    have r1 := (HM.out.get 0 rfl).cell 1 rfl
    have f0 := (HM.out.get 0 rfl).fz 0 (by simp)
    have f1 := (HM.out.get 0 rfl).fz 1 (by simp)
    have HB := hide HM.out.bel
    clear h1 HM
    go_wp2
    refine bodyPost_ret (v := .agg #[.int .i64 (kerF xs), .int .i64 0]) (by simp [results, Try.results10, go_sem, r0, r1]) rfl ⟨by rw [HC.out, HV.out], (HB.out.setCell (by simp) _).setCell (by simp) _⟩
  have e1 : (kerF xs != 0) = false := by simp [h1]
  obtain ⟨hn1, h12, hone, _⟩ := kerF_inv h1
  have hf0 := one_first (hone 0 (by omega))
  have HF0 := hide hf0
  have HC0 : Hid (foC xs zs = if findO (gO xs) n zs < 0 then 4 else 0) := by show _ = _; unfold foC; rw [if_pos h1, hlen]
  have HV0 : Hid (foC xs zs = 0 → foV xs zs = findO (gO xs) n zs) := fun h => by unfold foV; rw [if_pos h, hlen]
  have HN0 : Hid (foC xs zs ≠ 0 → foV xs zs = 0) := fun h => if_neg h
  have hn12 : n ≤ 12 := by omega
  have hn1' : 0 < n := by omega
  have HS7 := hide (hs.s7)
  obtain ⟨htl, ht⟩ := ht
  clear h1 hone hf0 hs hlen
  go_wp2
  go_loopw [17, 6] (fun i at_ wr => ∃ k : Nat, k ≤ zn ∧ i = .int .i64 k ∧ at_ = .int .i64 (findO (gO xs) n (zs.take k)) ∧ 0 ≤ findO (gO xs) n (zs.take k) ∧ Below w1.heap.size w1 wr) (fun i _ _ => zn - (intOf i).toNat)
  case atStart => exact ⟨0, Nat.zero_le _, rfl, by simp [findO], by simp [findO], Below.refl _ _⟩
  case round =>
    obtain ⟨k, hk, rfl, rfl, hpos, gwr⟩ := hrel
    have HGW := hide gwr
    have M := HM.out.below gwr
    have d0 := (M.get 1 rfl).cell 0 rfl
    by_cases hlt : k < zn
    · obtain ⟨bz, oz, rfl, hbz, hcz⟩ := ht (by omega)
      have ck := (M.bel.cell (p := ⟨bz, oz + k, none⟩) hbz).trans (hcz k hlt)
      have k0 : (k : Int) < (zn : Int) := by omega
      obtain ⟨p, hp⟩ : ∃ p, p = findO (gO xs) n (zs.take k) := ⟨_, rfl⟩
      have hstep : findO (gO xs) n (zs.take (k + 1)) = pinA (gO xs) n p (gt zs k) := by
        rw [findO_take (by omega), ← hp, pin_kid (by rw [HF0.out]; omega)]
        exact if_neg (by omega)
      rw [← hp] at hpos ⊢
      have HPI := hide (placeIn_calls a n c (gO xs) p (gt zs k) wr (by unfold maxLen; omega) (HS7.out.below M.bel (Nat.le_refl _)))
      have HST := hide hstep
      clear hstep hp M gwr hcz
      go_wp2_with fail
      refine HPI.out.mono ?_
      rintro e w2 ⟨rfl, g2⟩
      have HG2 := hide (HGW.out.trans (g2.mono HGW.out.size))
      have M2 := HM.out.below HG2.out
      have r0 := (M2.get 0 rfl).cell 0 rfl
      have r1 := (M2.get 0 rfl).cell 1 rfl
      have f0 := (M2.get 0 rfl).fz 0 (by simp)
      have f1 := (M2.get 0 rfl).fz 1 (by simp)
      have HB := hide M2.bel
      clear g2 M2 d0 ck
      by_cases h2 : pinA (gO xs) n p (gt zs k) < 0
      · have HNEG : Hid (findO (gO xs) n zs < 0) := by show _ < _; rw [findO_neg (k := k + 1) (by rw [HST.out]; exact h2), HST.out]; exact h2
        have HC : Hid (foC xs zs = 4) := HC0.out.trans (if_pos HNEG.out)
        have HV : Hid (foV xs zs = 0) := HN0.out (by rw [HC.out]; decide)
        go_wp2
        refine bodyPost_ret (v := .agg #[.int .i64 4, .int .i64 0]) (by simp [results, Try.results10, go_sem, r0, r1]) rfl ⟨by rw [HC.out, HV.out], (HB.out.setCell (by simp) _).setCell (by simp) _⟩
      · clear r0 r1 f0 f1
        go_wp2
        go_roundw
        case rel => exact ⟨k + 1, by omega, by go_num, by rw [HST.out], by rw [HST.out]; omega, HG2.out⟩
        case measure => simp [intOf]; omega
    · have et : zs.take k = zs := List.take_of_length_le (by omega)
      have HC : Hid (foC xs zs = 0) := HC0.out.trans (if_neg (by rw [et] at hpos; omega))
      have HV := hide (HV0.out HC.out)
      rw [et]
      have r0 := (M.get 0 rfl).cell 0 rfl
      have r1 := (M.get 0 rfl).cell 1 rfl
      have f0 := (M.get 0 rfl).fz 0 (by simp)
      have f1 := (M.get 0 rfl).fz 1 (by simp)
      have HB := hide M.bel
      clear M gwr HGW ht hpos et d0
      go_wp2
      refine bodyPost_ret (v := .agg #[.int .i64 0, .int .i64 (findO (gO xs) n zs)]) (by simp [results, Try.results10, go_sem, r0, r1]) rfl ⟨by rw [HC.out, HV.out], (HB.out.setCell (by simp) _).setCell (by simp) _⟩

end Go.Proofs.Ytpcdfeccmiiglaa
