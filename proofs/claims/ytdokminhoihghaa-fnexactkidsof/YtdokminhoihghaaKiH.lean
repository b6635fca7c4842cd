import Derived.Test.YtdokminhoihghaaKiG
import Derived.WalkKit
import Derived.ProofKit
import Derived.OpenShut
import Derived.ShutString
import Derived.ChangeOld
import Derived.Below
import Derived.WalkSpells
import Derived.Deep.QuietTactic
import Derived.BigQuiet
import Derived.Deep.RegionWith
import Derived.Deep.WholeRow
import Derived.Deep.DeepCutAuto
import Derived.Deep.RegionHeld2
import Derived.Deep.AppendLies
import Derived.Deep.RegionLaw
namespace Go.Proofs.Ytdokminhoihghaa
open Go.ChangeShapes Go.WideShapes Go.ChangeAt Go.RowKit

theorem BX.congr {w w' : World} {xs : List OB} {i nx : Int} {ka : Option Addr} {kl : Nat} (h : BX w xs i nx ka kl) (hb : Below w.heap.size w w') : BX w' xs i nx ka kl := by
  unfold BX at h ⊢
  by_cases hc : boxC xs i = 0
  · rw [if_pos hc] at h ⊢; exact ⟨h.1, h.2.1, h.2.2.below hb (Nat.le_refl _)⟩
  · rw [if_neg hc] at h ⊢; exact h

theorem box_quotas {xs : List OB} {i : Int} (h : kerF xs = 0) : (kidX (gO xs) i xs.length).length ≤ 12 ∧ ∀ j, j < (kidX (gO xs) i xs.length).length → 0 ≤ (gO (kidX (gO xs) i xs.length) j).2.2.2.2.1 ∧ (gO (kidX (gO xs) i xs.length) j).2.2.2.2.1 ≤ 200 := by
  obtain ⟨h1, h12, hone, _⟩ := kerF_inv h
  refine ⟨Nat.le_trans (kidX_le _ _ _) h12, fun j hj => ?_⟩
  obtain ⟨q, hq, e⟩ := kidX_at hj
  rw [← e]
  exact (rngB_inv (oneF_inv (hone q hq)).2.2.2.1).1

set_option maxRecDepth 100000 in
set_option maxHeartbeats 4000000 in
theorem implFreeOf_calls (a : Option Addr) (n c : Nat) (xs : List OB) (i : Int) (w : World) (hm : n ≤ maxLen) (hs : Sob w a n xs) (hcap : n ≤ c) : Calls Try.prog 35 #[.agg #[.slice a n c], .int .i64 i] w fun e w' => e = .returned (.agg #[.int .i64 (boxC xs i), .int .i64 (frV xs i)]) ∧ Below w.heap.size w w' := by
  have hlen := hs.1
  have M0 := ((Mm.start w).allocC [.slice a n c] 29).allocC [.int .i64 0, .int .i64 0] 48
  simp only [World.size_alloc] at M0
  have HS := hide (hs.below M0.bel (Nat.le_refl _))
  go_enter Try.func35, Try.ntmps35
  go_wp2_with fail
  refine (boxOf_calls a n c xs i _ hm HS.out hcap).mono ?_
  rintro e w1 ⟨nx, ka, kl, kc, rfl, hbx, g1⟩
  have z1 : w.heap.size + 2 ≤ w1.heap.size := by have := g1.size; simpa using this
  have M1 := (M0.below g1).allocC [.int .i64 nx, .slice ka kl kc] 90
  obtain ⟨u, hu⟩ : ∃ u, u = w1.alloc (.cells #[.int .i64 nx, .slice ka kl kc] 90) := ⟨_, rfl⟩
  rw [← hu] at M1
  have gu : Below w1.heap.size w1 u := by rw [hu]; exact (Below.refl _ _).alloc (Nat.le_refl _) _
  have zu : w1.heap.size < u.heap.size := by rw [hu]; simp
  have HBX := hide (hbx.congr gu)
  have HM := hide M1
  have HU := hide hu
  clear M0 M1 g1 HS hbx gu hu
  go_upto_region 2 with fail
  rw [← HU.out]
  clear HU
  by_cases h1 : boxC xs i = 0
  rotate_left
  · have HV : Hid (frV xs i = 0) := if_neg h1
    have e1 : (boxC xs i != 0) = true := by simpa using h1
    have r0 := (HM.out.get 1 rfl).cell 0 rfl
    have r1 := (HM.out.get 1 rfl).cell 1 rfl
    have f0 := (HM.out.get 1 rfl).fz 0 (by simp)
    have f1 := (HM.out.get 1 rfl).fz 1 (by simp)
    have HB := hide HM.out.bel
    clear h1 HM
    go_wp2
    refine bodyPost_ret (v := .agg #[.int .i64 (boxC xs i), .int .i64 0]) (by simp [results, Try.results35, go_sem, r0, r1]) rfl ⟨by rw [HV.out], (HB.out.setCell (by simp) _).setCell (by simp) _⟩
  have e1 : (boxC xs i != 0) = false := by simp [h1]
  have HC0 := hide h1
  have hb0 := HBX.out
  unfold BX at hb0
  rw [if_pos h1] at hb0
  obtain ⟨rfl, rfl, hk7⟩ := hb0
  have HK7 := hide hk7
  obtain ⟨h2, hkind⟩ := boxC_inv h1
  obtain ⟨h3, hi0, hi1⟩ := askC_inv h2
  obtain ⟨hn1, h12, hone, _⟩ := kerF_inv h3
  have HKQ := hide (box_quotas (i := i) h3)
  have hf0 := one_first (hone 0 (by omega))
  obtain ⟨q, rfl⟩ : ∃ q : Nat, i = (q : Int) := ⟨i.toNat, by omega⟩
  have etn : (q : Int).toNat = q := by omega
  have hqn : q < n := by omega
  have hus := kidX_used (f := gO xs) (p := (q : Int)) (by rw [hf0]; omega) xs.length
  have HV : Hid (frV xs (q : Int) = (gO xs q).2.2.2.2.1 - qS (gO (kidX (gO xs) (q : Int) xs.length)) (kidX (gO xs) (q : Int) xs.length).length) := by
    show _ = _; unfold frV freeO; rw [if_pos h1, hus, etn]
  have hqb := (rngB_inv (oneF_inv (hone q (by omega))).2.2.2.1).1
  have hub := qS_bound (f := gO (kidX (gO xs) (q : Int) xs.length)) HKQ.out.2
  have hul := HKQ.out.1
  obtain ⟨us, hus2⟩ : ∃ us, us = qS (gO (kidX (gO xs) (q : Int) xs.length)) (kidX (gO xs) (q : Int) xs.length).length := ⟨_, rfl⟩
  rw [← hus2] at HV hub
  have hwp : IntKind.i64.wrap ((gO xs q).2.2.2.2.1 - us) = (gO xs q).2.2.2.2.1 - us := IntWalk.i64_in _ (by omega)
  have HUS := hide hus2
  obtain ⟨b, off, ea, hb, hc⟩ := hs.2 (by omega)
  obtain ⟨_, _, _, _, ⟨_, _, _, _, t4, _, _⟩, _⟩ := hc q hqn
  have q0 : (0 : Int) ≤ (q : Int) := by omega
  have q1 : (q : Int) < (n : Int) := by omega
  subst ea
  have MD := HM.out.below ((Below.refl _ _).drew)
  have u4 := (HM.out.bel.cell (p := ⟨b, off + q * 7 + 4, none⟩) hb).trans t4
  have d0 := (HM.out.get 2 rfl).cell 0 rfl
  have c0 := (HM.out.get 0 rfl).cell 0 rfl
  have c1 := (HM.out.get 0 rfl).cell 1 rfl
  have HMD := hide MD
  have HKD := hide (HK7.out.below ((Below.refl u.heap.size u).drew) (Nat.le_refl _))
  have HT4 := hide t4
  have HLB := hide hb
  have r0 := (HM.out.get 1 rfl).cell 0 rfl
  have r1 := (HM.out.get 1 rfl).cell 1 rfl
  have f0 := (HM.out.get 1 rfl).fz 0 (by simp)
  have f1 := (HM.out.get 1 rfl).fz 1 (by simp)
  clear h1 h2 h3 hi0 hi1 hone hkind hf0 etn hus hqb hub hus2 hc t4 MD hk7 HK7 HBX hlen
  go_upto_region 4 with fail
  go_region_with (go_at_call 67; refine (boxUsed_calls _ _ _ _ _ _ HKQ.out.1 HKD.out HKQ.out.2).mono ?_; rintro e ws ⟨rfl, gs⟩; have MS := HMD.out.below gs; have s4 := (MS.bel.cell (p := ⟨b, off + q * 7 + 4, none⟩) HLB.out).trans HT4.out; have sd := (MS.get 2 rfl).cell 0 rfl; have sr0 := (MS.get 1 rfl).cell 0 rfl; have sr1 := (MS.get 1 rfl).cell 1 rfl; have sf0 := (MS.get 1 rfl).fz 0 (by simp); have sf1 := (MS.get 1 rfl).fz 1 (by simp); have HBS := hide MS.bel; rw [← HUS.out]; clear MS gs)
  all_goals (
    go_wp2
    refine bodyPost_ret (v := .agg #[.int .i64 0, .int .i64 ((gO xs q).2.2.2.2.1 - us)]) (by simp [results, Try.results35, go_sem, sr0, sr1]) rfl ⟨by rw [HV.out, HC0.out], (HBS.out.setCell (by simp) _).setCell (by simp) _⟩)

end Go.Proofs.Ytdokminhoihghaa
