import Derived.Test.YtpcdfeccmiiglaaMpP
import Derived.Test.YtpcdfeccmiiglaaPermSK
import Derived.Test.YtpcdfeccmiiglaaCsK
import Derived.WalkKit
import Derived.ProofKit
import Derived.OpenShut
import Derived.ShutString
import Derived.ChangeOld
import Derived.Below
import Derived.WalkSpells
import Derived.Deep.QuietTactic
import Derived.BigQuiet
import Derived.Deep.RegionWith
import Derived.Deep.WholeRow
import Derived.Deep.DeepCutAuto
import Derived.Deep.RegionHeld2
import Derived.Deep.AppendLies
import Derived.Deep.RegionLaw
namespace Go.Proofs.Ytpcdfeccmiiglaa
open Go.ChangeShapes Go.WideShapes Go.ChangeAt Go.RowKit

set_option maxRecDepth 100000 in
set_option maxHeartbeats 2000000 in
theorem l12Pass_calls (P R : Nat) (a : Option Addr) (n c : Nat) (xs : List OB) (wa : Option Addr) (wc : Nat) (ws : List Int) (i : Nat) (w : World) (hk : KR P a n c xs w) (hker : kerF xs = 0) (hR : R < w.heap.size) (hrc : w.cell? ⟨R, 0, none⟩ = some (.slice wa 4 wc)) (hw : Sl w wa 4 ws) (hi : i < n) :
    Calls Try.prog 61 #[.pointer (some ⟨P, 0, none⟩), .pointer (some ⟨R, 0, none⟩), .int .i64 (i : Int)] w fun e w' => e = .returned (.bool (passU (gO xs) (obX ws (gO xs)) i i)) ∧ Below w.heap.size w w' := by
  have hlen := hk.so.1
  have hn12 : n ≤ 12 := by have := (kerF_inv hker).2.1; omega
  have hu : ∀ j, 0 < j → j < n → 0 ≤ (gO xs j).1 ∧ (gO xs j).1 < (j : Int) := fun j h0 hj => up_of hker h0 (by omega)
  have h4 : ∀ j, j < n → (gO xs j).2.2.2.1.length = 4 := fun j hj => lab_four hker (by omega)
  obtain ⟨hP, hc0, hnm, hso⟩ := hk
  obtain ⟨b, off, rfl, hb, hc⟩ := hso.2 (by omega)
  have HU := hide hu
  have H4 := hide h4
  have HC := hide hc
  have HW := hide hw
  obtain ⟨V, hV⟩ : ∃ V, V = passU (gO xs) (obX ws (gO xs)) i i := ⟨_, rfl⟩
  rw [← hV]
  have HV := hide hV
  clear hu h4 hc hw hV hso hlen
  go_enter Try.func61, Try.ntmps61
  go_wp2
  go_loopw [2] (fun v wr => ∃ j : Nat, v = .int .i64 (j : Int) ∧ j < n ∧ passU (gO xs) (obX ws (gO xs)) j j = V ∧ Below w.heap.size w wr) (fun v _ => (intOf v).toNat)
  case atStart => exact ⟨i, rfl, hi, HV.out.symm, Below.refl _ _⟩
  case round =>
    obtain ⟨j, rfl, hj, hpv, gwr⟩ := hrel
    have HPV := hide hpv
    have HG := hide gwr
    have c0 := (gwr.cell (p := ⟨P, 0, none⟩) hP).trans hc0
    by_cases h0 : j = 0
    · subst h0
      have e0 : ¬ (((0 : Nat) : Int) > 0) := by omega
      have HT : Hid (V = true) := by show _ = _; rw [← hpv]; rfl
      clear hpv gwr
      go_wp2
      go_ret
      exact ⟨ret_bool HT.out.symm, HG.out⟩
    · have e0 : (j : Int) > 0 := by omega
      obtain ⟨u0, u1⟩ := HU.out j (by omega) hj
      obtain ⟨q, eq⟩ : ∃ q : Nat, (gO xs j).1 = (q : Int) := ⟨(gO xs j).1.toNat, by omega⟩
      have hst := passU_step (ob := obX ws (gO xs)) HU.out h0 hj
      have etn : (gO xs j).1.toNat = q := by omega
      rw [etn, hpv] at hst
      have hqn : q < n := by omega
      obtain ⟨_, _, _, _, ⟨t0, _, _, _, _, _, _⟩, _⟩ := HC.out j hj
      obtain ⟨la, lc, _, _, ⟨_, _, _, t3, _, _, _⟩, _, hsl, _⟩ := HC.out q hqn
      have hl4 := H4.out q hqn
      rw [hl4] at t3 hsl
      have r0 := (gwr.cell (p := ⟨b, off + j * 7, none⟩) hb).trans t0
      have r3 := (gwr.cell (p := ⟨b, off + q * 7 + 3, none⟩) hb).trans t3
      rw [eq] at r0
      have zR : R < wr.heap.size := by have := gwr.size; omega
      have zb : b < wr.heap.size := by have := gwr.size; omega
      have HO := hide (l1ObserveO_calls R 0 b (off + q * 7 + 3) wa la wc lc ws (gO xs q).2.2.2.1 wr zR zb ((gwr.cell (p := ⟨R, 0, none⟩) hR).trans hrc) r3 (HW.out.below gwr (Nat.le_refl _)) (hsl.below gwr (Nat.le_refl _)))
      have j0 : (0 : Int) ≤ (j : Int) := by omega
      have j1 : (j : Int) < (n : Int) := by omega
      have q0 : (0 : Int) ≤ (q : Int) := by omega
      have q1 : (q : Int) < (n : Int) := by omega
      have hqj : q < j := by omega
      have HST := hide hst
      clear hst hpv gwr t0 t3 hsl eq etn u0 u1 h0 hl4
      go_wp2_with fail
      refine HO.out.mono ?_
      rintro e w2 ⟨rfl, g2⟩
      have HG2 := hide (HG.out.trans (g2.mono HG.out.size))
      clear g2 HO
      cases hob : obX ws (gO xs) q with
      | false =>
        have HR : Hid (V = false) := by show _ = _; rw [HST.out, hob]; rfl
        unfold obX at hob
        rw [hob]
        clear hob r0 r3
        go_wp2
        go_ret
        exact ⟨ret_bool HR.out.symm, HG2.out⟩
      | true =>
        have HR : Hid (passU (gO xs) (obX ws (gO xs)) q q = V) := by show _ = _; rw [HST.out, hob]; rfl
        unfold obX at hob
        rw [hob]
        clear hob r0 r3
        go_wp2
        go_roundw
        case rel => exact ⟨q, rfl, hqn, HR.out, HG2.out⟩
        case measure => simp [intOf]; omega

set_option maxRecDepth 100000 in
set_option maxHeartbeats 2000000 in
theorem specMayPass_calls (a : Option Addr) (n c : Nat) (xs : List OB) (wa : Option Addr) (wn wc : Nat) (ws : List Int) (za : Option Addr) (zn zc : Nat) (zs : List Int) (w : World) (hm : n ≤ maxLen) (hs : Sob w a n xs) (_hcap : n ≤ c) (hwm : wn ≤ maxLen) (hw : Sl w wa wn ws) (hz : zn ≤ 1048576) (ht : Sl w za zn zs) :
    Calls Try.prog 27 #[.agg #[.slice a n c], .agg #[.slice wa wn wc], .slice za zn zc] w fun e w' => e = .returned (.bool (mpB xs ws zs)) ∧ Below w.heap.size w w' := by
  have hlen := hs.1
  have M0 := ((Mm.start w).allocC [.slice a n c] 26).allocC [.slice wa wn wc] 47
  simp only [World.size_alloc] at M0
  have HK : Hid (KR w.heap.size a n c xs ((w.alloc (.cells #[.slice a n c] 26)).alloc (.cells #[.slice wa wn wc] 47))) := ⟨by simp; omega, (M0.get 1 rfl).cell 0 rfl, hm, hs.below M0.bel (Nat.le_refl _)⟩
  have HW := hide (hw.below M0.bel (Nat.le_refl _))
  have HT := hide (ht.below M0.bel (Nat.le_refl _))
  obtain ⟨u, hu⟩ : ∃ u, u = ((w.alloc (.cells #[.slice a n c] 26)).alloc (.cells #[.slice wa wn wc] 47)) := ⟨_, rfl⟩
  rw [← hu] at HK HW HT M0
  have zu : u.heap.size = w.heap.size + 2 := by rw [hu]; simp
  have HU := hide hu
  have HM := hide M0
  have cW := (M0.get 0 rfl).cell 0 rfl
  clear hu M0 hs hw ht
  go_enter Try.func27, Try.ntmps27
  go_upto_region 1 with fail
  rw [← HU.out]
  clear HU
  by_cases h1 : kerF xs = 0
  rotate_left
  · have HV : Hid (mpB xs ws zs = false) := if_neg (fun e => h1 e.1)
    have e1 : (kerF xs != 0) = true := by simpa using h1
    clear h1
    go_wp2_with fail
    refine (l11Fault_calls w.heap.size a n c xs u HK.out).mono ?_
    rintro e w1 ⟨rfl, g1⟩
    have HB := hide (HM.out.below g1).bel
    clear g1
    go_wp2
    go_ret
    exact ⟨ret_bool HV.out.symm, HB.out⟩
  have e1 : (kerF xs != 0) = false := by simp [h1]
  by_cases h2 : fault ws = 0
  rotate_left
  · have HV : Hid (mpB xs ws zs = false) := if_neg (fun e => h2 e.2)
    have e2 : (fault ws != 0) = true := by simpa using h2
    clear h1 h2
    go_wp2_with fail
    refine (l11Fault_calls w.heap.size a n c xs u HK.out).mono ?_
    rintro e w1 ⟨rfl, g1⟩
    have M1 := HM.out.below g1
    have HM1 := hide M1
    have HF := hide (l1FaultO_calls (w.heap.size + 1) 0 wa wn wc ws w1 hwm (by have := g1.size; omega) ((M1.get 0 rfl).cell 0 rfl) (HW.out.below g1 (Nat.le_refl _)))
    clear g1 M1
    go_wp2_with fail
    refine HF.out.mono ?_
    rintro e w2 ⟨rfl, g2⟩
    have HB := hide (HM1.out.below g2).bel
    clear g2
    go_wp2
    go_ret
    exact ⟨ret_bool HV.out.symm, HB.out⟩
  have e2 : (fault ws != 0) = false := by simp [h2]
  have HV : Hid (mpB xs ws zs = psB xs ws zs) := if_pos ⟨h1, h2⟩
  have hw4 := fault_len h2
  have hwn : wn = 4 := by have := HW.out.1; omega
  subst hwn
  have hn1 := (kerF_inv h1).1
  have hn12 := (kerF_inv h1).2.1
  have H1 := hide h1
  clear h1 h2
  go_wp2_with fail
  refine (l11Fault_calls w.heap.size a n c xs u HK.out).mono ?_
  rintro e w1 ⟨rfl, g1⟩
  have M1 := HM.out.below g1
  have HM1 := hide M1
  have HF := hide (l1FaultO_calls (w.heap.size + 1) 0 wa 4 wc ws w1 hwm (by have := g1.size; omega) ((M1.get 0 rfl).cell 0 rfl) (HW.out.below g1 (Nat.le_refl _)))
  have HK1 := hide (HK.out.below g1)
  have HW1 := hide (HW.out.below g1 (Nat.le_refl _))
  have HT1 := hide (HT.out.below g1 (Nat.le_refl _))
  have z1 := g1.size
  clear g1 M1 HK HW HT HM cW
  go_wp2_with fail
  refine HF.out.mono ?_
  rintro e w2 ⟨rfl, g2⟩
  have HM2 := hide (HM1.out.below g2)
  have HK2 := hide (HK1.out.below g2)
  have HW2 := hide (HW1.out.below g2 (Nat.le_refl _))
  have HT2 := hide (HT1.out.below g2 (Nat.le_refl _))
  have z2 := g2.size
  clear g2 HM1 HK1 HW1 HT1 HF
  have HI := hide (findO_in (gO xs) n (by omega) zs)
  have HFI := hide (l11Find_calls w.heap.size a n c xs za zn zc zs w2 HK2.out (by omega) (by omega) hz HT2.out)
  by_cases h3 : findO (gO xs) n zs < 0
  · have HR : Hid (psB xs ws zs = false) := psB_neg (by rw [hlen]; exact h3)
    have e3 : ¬ (findO (gO xs) n zs ≥ 0) := by omega
    have HB := hide HM2.out.bel
    clear h3
    go_wp2_with (go_at_call 43; with_reducible refine HFI.out.mono ?_; rintro e w' ⟨rfl, hw'⟩; rw [hw']; clear hw' w')
    go_ret
    exact ⟨ret_bool (by rw [HV.out, HR.out]), HB.out⟩
  have e3 : findO (gO xs) n zs ≥ 0 := by omega
  obtain ⟨i, hi⟩ : ∃ i : Nat, findO (gO xs) n zs = (i : Int) := ⟨(findO (gO xs) n zs).toNat, by omega⟩
  have hin : i < n := by have := HI.out; omega
  have HR : Hid (psB xs ws zs = passU (gO xs) (obX ws (gO xs)) i i) := by
    have h := psB_pass (ws := ws) (zs := zs) H1.out (by rw [hlen]; omega)
    rw [hlen, hi] at h
    exact h
  rw [hi] at HFI e3
  have HP := hide (l12Pass_calls w.heap.size (w.heap.size + 1) a n c xs wa wc ws i w2 HK2.out H1.out (by omega) ((HM2.out.get 0 rfl).cell 0 rfl) HW2.out hin)
  clear h3 hi HI
  go_wp2_with (go_at_call 43; with_reducible refine HFI.out.mono ?_; rintro e w' ⟨rfl, hw'⟩; rw [hw']; clear hw' w')
  refine HP.out.mono ?_
  rintro e w3 ⟨rfl, g3⟩
  have HB := hide (HM2.out.below g3).bel
  clear g3
  go_wp2
  go_ret
  exact ⟨ret_bool (by rw [HV.out, HR.out]), HB.out⟩

end Go.Proofs.Ytpcdfeccmiiglaa
