/-
  PROVED: for every code (a slice of bytes) that FnPerms is called with, the call returns true, and the code reads afterwards as it read before.
  CONDITIONS: none beyond the row's own (no cell narrows it).
-/
import Derived.Test.YtjkdckcmgbmmgaaP3
import Derived.Test.YtjkdckcmgbmmgaaP2
import Derived.Test.YtjkdckcmgbmmgaaQs
import Derived.WalkKit
import Derived.ProofKit
import Derived.OpenShut
import Derived.ShutString
import Derived.ChangeOld
import Derived.Below
import Derived.WalkSpells
import Derived.Deep.QuietTactic
import Derived.BigQuiet
import Derived.Deep.RegionWith
import Derived.Deep.WholeRow
import Derived.Deep.DeepCutAuto
import Derived.Deep.RegionHeld2
import Derived.Deep.AppendLies
import Derived.Deep.RegionLaw
namespace Go.Proofs.Ytjkdckcmgbmmgaa
open Go.ChangeShapes Go.WideShapes Go.ChangeAt Go.RowKit

set_option maxRecDepth 100000 in
theorem lwBig_calls (a : Option Addr) (len cap : Nat) (w : World) (_hl : len ≤ maxLen) :
    Calls Try.prog 6 #[.slice a len cap] w fun e w' => e = .returned (.bool (decide (1048576 < (len : Int)))) ∧ w' = w := by
  go_enter Try.func6, Try.ntmps6
  go_wp2
  go_ret
  exact ⟨rfl, rfl⟩

theorem lrF0 (c : Int) (l : Value) (w : World) : (Instr.field 42 (.agg #[.int .i64 c, l]) 0).run Try.prog w = .ok (.int .i64 c) w := by kernel_rfl

theorem irF0 (c v : Int) (w : World) : (Instr.field 48 (.agg #[.int .i64 c, .int .i64 v]) 0).run Try.prog w = .ok (.int .i64 c) w := by kernel_rfl

theorem pm_dom {ss : List (Int × List Int)} {ts ds : List Int} {d t : Int} (h : pmC ss ts ds d t = 0) : tabF ss ts ds = 0 ∧ inC ds d = 0 := by
  unfold pmC at h
  by_cases h0 : tabF ss ts ds = 0
  · rw [if_pos h0] at h
    by_cases h1 : inC ds d = 0
    · exact ⟨h0, h1⟩
    · rw [if_neg h1] at h; omega
  · rw [if_neg h0] at h; exact absurd h h0

theorem pm_zero {ss : List (Int × List Int)} {ts ds : List Int} {d : Int} (h : pmC ss ts ds d 0 = 0) : pmV ss ts ds d 0 = 0 ∧ tgC ss ts ds ds d = 0 := by
  obtain ⟨h0, h1⟩ := pm_dom h
  exact ⟨(pm_own h0 h1).2, by rw [tgC_ok h0, h1]⟩

theorem pm_cases {ss : List (Int × List Int)} {ts ds : List Int} {d t : Int} (h : pmC ss ts ds d t = 0) (ht : t ≠ 0) :
    (pmV ss ts ds d t = 7 ∧ obsB (tgL ss ts ds ds d) (tgL ss ts ds ts (t - 1)) = true ∧ modB (tgL ss ts ds ds d) (tgL ss ts ds ts (t - 1)) = true) ∨
    (pmV ss ts ds d t = 5 ∧ obsB (tgL ss ts ds ds d) (tgL ss ts ds ts (t - 1)) = true ∧ modB (tgL ss ts ds ds d) (tgL ss ts ds ts (t - 1)) = false) ∨
    (pmV ss ts ds d t = 0 ∧ obsB (tgL ss ts ds ds d) (tgL ss ts ds ts (t - 1)) = false ∧ modB (tgL ss ts ds ds d) (tgL ss ts ds ts (t - 1)) = false) := by
  obtain ⟨h0, h1⟩ := pm_dom h
  have e : pmV ss ts ds d t = permV (inL ss ds d) (inL ss ts (t - 1)) := by unfold pmV; rw [if_pos h, if_neg ht]
  rw [e, tgL_ok h0, tgL_ok h0]
  unfold permV
  have hm := modB_eq (inL ss ds d) (inL ss ts (t - 1))
  cases hmo : modB (inL ss ds d) (inL ss ts (t - 1))
  · cases hob : obsB (inL ss ds d) (inL ss ts (t - 1))
    · exact .inr (.inr ⟨by simp, rfl, rfl⟩)
    · exact .inr (.inl ⟨by simp, rfl, rfl⟩)
  · rw [hmo] at hm
    have hob : obsB (inL ss ds d) (inL ss ts (t - 1)) = true := by
      cases hob : obsB (inL ss ds d) (inL ss ts (t - 1))
      · rw [hob] at hm; simp at hm
      · rfl
    exact .inl ⟨by simp, hob, rfl⟩

theorem canObserve_as (a b : Option Addr) (la ca lb cb : Nat) (xs ys : List Int) (v : Bool) (w : World) (h : obsB xs ys = v) (hla : la ≤ maxLen) (hlb : lb ≤ maxLen) (hx : Sl w a la xs) (hy : Sl w b lb ys) :
    Calls Try.prog 26 #[.agg #[.slice a la ca], .agg #[.slice b lb cb]] w fun e w' => e = .returned (.bool v) ∧ Below w.heap.size w w' := by
  subst h; exact implCanObserve_calls a b la ca lb cb xs ys w hla hlb hx hy

theorem canModify_as (a b : Option Addr) (la ca lb cb : Nat) (xs ys : List Int) (v : Bool) (w : World) (h : modB xs ys = v) (hla : la ≤ maxLen) (hlb : lb ≤ maxLen) (hx : Sl w a la xs) (hy : Sl w b lb ys) :
    Calls Try.prog 32 #[.agg #[.slice a la ca], .agg #[.slice b lb cb]] w fun e w' => e = .returned (.bool v) ∧ Below w.heap.size w w' := by
  subst h; exact implCanModify_calls a b la ca lb cb xs ys w hla hlb hx hy

set_option maxRecDepth 100000 in
theorem perms_big (a : Option Addr) (len cap : Nat) (w : World) (hl : len ≤ maxLen) (hbig : 1048576 < len) :
    Calls Try.prog 5 #[.slice a len cap] w fun e w' => e = .returned (.bool true) ∧ Below w.heap.size w w' := by
  go_enter Try.func5, Try.ntmps5
  go_wp2_with fail
  refine (lwBig_calls a len cap _ hl).mono ?_
  rintro e w1 ⟨rfl, hw⟩
  obtain rfl : w = w1 := hw.symm
  clear hw
  rw [decide_eq_true (by omega)]
  go_wp2
  go_ret
  exact ⟨rfl, Below.refl _ _⟩

set_option maxRecDepth 100000 in
set_option maxHeartbeats 8000000 in
theorem perms_small (a : Option Addr) (len cap : Nat) (w : World) (hc : Cd w a len) :
    Calls Try.prog 5 #[.slice a len cap] w fun e w' => e = .returned (.bool true) ∧ Below w.heap.size w w' := by
  have hlm : len ≤ maxLen := by have := hc.1; unfold maxLen; omega
  have M0 := Mm.start w
  have fd0 := lrF0
  have fd1 := irF0
  have fd2 := field1
  go_enter Try.func5, Try.ntmps5
  go_wp2_with fail
  refine (lwBig_calls a len cap _ hlm).mono ?_
  rintro e w0 ⟨rfl, hw⟩
  obtain rfl : w = w0 := hw.symm
  rw [decide_eq_false (by have := hc.1; omega)]
  clear hw
  go_wp2_with fail
  refine (drawPermOf_calls a len cap _ hc).mono ?_
  rintro e w1 ⟨ra, n, rc, ss, ta, tn, tc, ts, da, dn, dc, ds, d, t, rfl, tb, g1⟩
  have z1 := g1.size
  have M1 := ((M0.below g1).fact TbS.loc tb).alloc3 (.slice ra n rc) (.slice ta tn tc) (.slice da dn dc) 29
  clear M0 g1 tb
  go_wp2_with fail
  refine (implPermOf_calls ra n rc ss ta tn tc ts da dn dc ds d t _ (M1.get 0 rfl).rt).mono ?_
  rintro e w2 ⟨rfl, g2⟩
  have z2 := g2.size
  simp only [World.size_alloc] at z2
  have M2 := (M1.below g2).alloc2 (.int .i64 (pmC ss ts ds d t)) (.int .i64 (pmV ss ts ds d t)) 48
  clear M1 g2
  have hc2 := hc.below M2.bel
  go_wp2_with fail
  refine (drawTagLabel_calls a len cap _ hc2).mono ?_
  rintro e w3 ⟨xa, xn, xc, xs, ya, yn, yc, ys, za, zn, zc, zs, k, rfl, tb3, g3⟩
  have z3 := g3.size
  simp only [World.size_alloc] at z3 tb3
  have M3 := ((M2.below g3).fact TbS.loc tb3).alloc3 (.slice xa xn xc) (.slice ya yn yc) (.slice za zn zc) 29
  clear M2 g3 tb3 hc2
  have e1 : (tgC xs ys zs ys (k - 1) != tgC xs ys zs ys (k - 1)) = false := by simp
  have e2 : (tgC xs ys zs zs k != tgC xs ys zs zs k) = false := by simp
  obtain ⟨W, hW⟩ : ∃ W : World, W = w3.alloc (.cells #[.slice xa xn xc, .slice ya yn yc, .slice za zn zc] 29) := ⟨_, rfl⟩
  rw [← hW] at M3
  have HW := hide hW
  have lt0 : (Addr.mk (w3.heap.size) 0 none).block < W.heap.size := M3.lt 0 rfl
  have lt1 : (Addr.mk (w3.heap.size) 1 none).block < W.heap.size := M3.lt 1 rfl
  have lt2 : (Addr.mk (w3.heap.size) 2 none).block < W.heap.size := M3.lt 2 rfl
  have HM := hide M3
  have HXS := hide ((M3.get 0 rfl).rt)
  have HS0 : Hid (W.drew.cell? ⟨w3.heap.size, 0, none⟩ = some (.slice xa xn xc) ∧ W.drew.cell? ⟨w3.heap.size, 1, none⟩ = some (.slice ya yn yc) ∧ W.drew.cell? ⟨w3.heap.size, 2, none⟩ = some (.slice za zn zc) ∧ Below W.heap.size W W.drew) := ⟨M3.cell 0 rfl, M3.cell 1 rfl, M3.cell 2 rfl, (Below.refl _ _).drew⟩
  clear M3 hW
  go_upto_region 6 with fail
  rw [← HW.out]
  go_region_held2 (fun w' => w'.cell? ⟨w3.heap.size, 0, none⟩ = some (.slice xa xn xc) ∧ w'.cell? ⟨w3.heap.size, 1, none⟩ = some (.slice ya yn yc) ∧ w'.cell? ⟨w3.heap.size, 2, none⟩ = some (.slice za zn zc) ∧ Below W.heap.size W w')
    (first | with_reducible exact HS0.out | with_reducible assumption)
    (first
      | (go_at_call 19; refine (implTagLabel_calls xa xn xc xs ya yn yc ys za zn zc zs k _ ?_).mono ?_; exact HXS.out.below (q3_bel (by with_reducible assumption)) (Nat.le_refl _); rintro e y1 ⟨_, _, _, rfl, _, ga⟩; have hs1 := q3_below lt0 lt1 lt2 (by with_reducible assumption) ga; clear ga)
      | (go_at_call 30; refine (specTagLabel_calls xa xn xc xs ya yn yc ys za zn zc zs k _ ?_).mono ?_; exact HXS.out.below (q3_bel (by with_reducible assumption)) (Nat.le_refl _); rintro e y1 ⟨_, _, _, rfl, _, ga⟩; have hs1 := q3_below lt0 lt1 lt2 (by with_reducible assumption) ga; clear ga)
      | (go_at_call 16; refine (implDomainLabel_calls xa xn xc xs ya yn yc ys za zn zc zs k _ ?_).mono ?_; exact HXS.out.below (q3_bel (by with_reducible assumption)) (Nat.le_refl _); rintro e y1 ⟨_, _, _, rfl, _, ga⟩; have hs1 := q3_below lt0 lt1 lt2 (by with_reducible assumption) ga; clear ga)
      | (go_at_call 23; refine (specDomainLabel_calls xa xn xc xs ya yn yc ys za zn zc zs k _ ?_).mono ?_; exact HXS.out.below (q3_bel (by with_reducible assumption)) (Nat.le_refl _); rintro e y1 ⟨_, _, _, rfl, _, ga⟩; have hs1 := q3_below lt0 lt1 lt2 (by with_reducible assumption) ga; clear ga))
  obtain ⟨w5, hw5⟩ : ∃ x, x = y1 := ⟨y1, rfl⟩
  have M5 := (HM.out.below (q3_bel hs1)).sub (cs' := [(w2.heap.size, 0, .int .i64 (pmC ss ts ds d t)), (w2.heap.size, 1, .int .i64 (pmV ss ts ds d t)), (w1.heap.size, 0, .slice ra n rc), (w1.heap.size, 1, .slice ta tn tc), (w1.heap.size, 2, .slice da dn dc)]) (fs' := [(w.heap.size, w1.heap.size, TbS (InR w.heap.size w1.heap.size) ra n ss ta tn ts da dn ds)]) (fun _ h => List.mem_cons_of_mem _ (List.mem_cons_of_mem _ (List.mem_cons_of_mem _ h))) (fun _ h => List.mem_cons_of_mem _ h)
  rw [← hw5] at M5 ⊢
  clear hs1 HM HS0 lt0 lt1 lt2 HXS HW e1 e2 hw5
  have v0 := M5.cell 0 rfl
  have v1 := M5.cell 1 rfl
  have v2 := M5.cell 2 rfl
  have v3 := M5.cell 3 rfl
  have v4 := M5.cell 4 rfl
  by_cases hf : pmC ss ts ds d t = 0
  rotate_left
  · have ef : (pmC ss ts ds d t != 0) = true := by simpa using hf
    have eA : (pmC ss ts ds d t == pmC ss ts ds d t) = true := by simp
    clear hf
    have lt0 : (Addr.mk (w2.heap.size) 0 none).block < w5.heap.size := M5.lt 0 rfl
    have lt1 : (Addr.mk (w1.heap.size) 0 none).block < w5.heap.size := M5.lt 2 rfl
    have lt2 : (Addr.mk (w1.heap.size) 1 none).block < w5.heap.size := M5.lt 3 rfl
    have lt3 : (Addr.mk (w1.heap.size) 2 none).block < w5.heap.size := M5.lt 4 rfl
    have HM := hide M5
    have HRS := hide ((M5.get 0 rfl).rt)
    have HS0 : Hid (w5.drew.cell? ⟨w2.heap.size, 0, none⟩ = some (.int .i64 (pmC ss ts ds d t)) ∧ w5.drew.cell? ⟨w1.heap.size, 0, none⟩ = some (.slice ra n rc) ∧ w5.drew.cell? ⟨w1.heap.size, 1, none⟩ = some (.slice ta tn tc) ∧ w5.drew.cell? ⟨w1.heap.size, 2, none⟩ = some (.slice da dn dc) ∧ Below w5.heap.size w5 w5.drew) := ⟨M5.cell 0 rfl, M5.cell 2 rfl, M5.cell 3 rfl, M5.cell 4 rfl, (Below.refl _ _).drew⟩
    clear M5
    go_upto_region 9 with fail
    clear v0 v1 v2 v3 v4
    go_region_held2 (fun w' => w'.cell? ⟨w2.heap.size, 0, none⟩ = some (.int .i64 (pmC ss ts ds d t)) ∧ w'.cell? ⟨w1.heap.size, 0, none⟩ = some (.slice ra n rc) ∧ w'.cell? ⟨w1.heap.size, 1, none⟩ = some (.slice ta tn tc) ∧ w'.cell? ⟨w1.heap.size, 2, none⟩ = some (.slice da dn dc) ∧ Below w5.heap.size w5 w')
      (first | with_reducible exact HS0.out | with_reducible assumption)
      (first
        | (go_at_call 31; refine (specPermOf_calls ra n rc ss ta tn tc ts da dn dc ds d t _ ?_).mono ?_; exact HRS.out.below (q4_bel (by with_reducible assumption)) (Nat.le_refl _); rintro e y1 ⟨rfl, ga⟩; have hs1 := q4_below lt0 lt1 lt2 lt3 (by with_reducible assumption) ga; clear ga))
    have HE := hide (HM.out.below (q4_bel hs1)).bel
    clear hs1 HS0 HM
    go_wp2
    go_ret
    exact ⟨rfl, HE.out⟩
  have ef : (pmC ss ts ds d t != 0) = false := by simp [hf]
  have HF := hide hf
  clear hf
  by_cases ht : t = 0
  · subst ht
    have eT : ((0 : Int) == 0) = true := by simp
    obtain ⟨p1, p2⟩ := pm_zero HF.out
    rw [p1] at v1
    have eV : ((0 : Int) == 0) = true := by simp
    clear p1
    go_wp2_with fail
    refine (implDomainLabel_calls ra n rc ss ta tn tc ts da dn dc ds d _ (M5.get 0 rfl).rt).mono ?_
    rintro e w6 ⟨_, _, _, rfl, _, g6⟩
    rw [p2]
    have HE := hide (M5.below g6).bel
    clear M5 g6
    go_wp2
    go_ret
    exact ⟨rfl, HE.out⟩
  have eT : (t == 0) = false := by simpa using ht
  have HT := hide (pm_cases HF.out ht)
  clear ht
  go_wp2_with fail
  refine (implDomainLabel_calls ra n rc ss ta tn tc ts da dn dc ds d _ (M5.get 0 rfl).rt).mono ?_
  rintro e w6 ⟨la, ll, lc, rfl, o6, g6⟩
  have z6 := g6.size
  have M6 := ((M5.below g6).fact OS.loc o6).alloc1 (.slice la ll lc) 31
  have hlm6 : ll ≤ maxLen := by have h1 := o6.2.1; unfold maxLen; omega
  clear M5 g6 o6 v0 v1 v2 v3 v4
  have v2 := M6.cell 3 rfl
  have v3 := M6.cell 4 rfl
  have v4 := M6.cell 5 rfl
  go_wp2_with fail
  refine (implTagLabel_calls ra n rc ss ta tn tc ts da dn dc ds t _ (M6.get 1 rfl).rt).mono ?_
  rintro e w7 ⟨ka, kl, kc, rfl, o7, g7⟩
  have z7 := g7.size
  simp only [World.size_alloc] at z7 o7
  have M7 := ((M6.below g7).fact OS.loc o7).alloc1 (.slice ka kl kc) 31
  have hlm7 : kl ≤ maxLen := by have h1 := o7.2.1; unfold maxLen; omega
  clear M6 g7 o7 v2 v3 v4
  rcases HT.out with ⟨hV, hO, hM⟩ | ⟨hV, hO, hM⟩ | ⟨hV, hO, hM⟩
  · rw [hV] at M7
    clear hV HT
    obtain ⟨W2, hW⟩ : ∃ W2 : World, W2 = w7.alloc (.cells #[.slice ka kl kc] 31) := ⟨_, rfl⟩
    rw [← hW] at M7
    have HW := hide hW
    have lt0 : (Addr.mk (w2.heap.size) 1 none).block < W2.heap.size := M7.lt 3 rfl
    have lt1 : (Addr.mk (w6.heap.size) 0 none).block < W2.heap.size := M7.lt 1 rfl
    have lt2 : (Addr.mk (w7.heap.size) 0 none).block < W2.heap.size := M7.lt 0 rfl
    have HM := hide M7
    have HWH := hide ((M7.get 1 rfl).sl)
    have HWT := hide ((M7.get 0 rfl).sl)
    have HS0 : Hid (W2.drew.cell? ⟨w2.heap.size, 1, none⟩ = some (.int .i64 7) ∧ W2.drew.cell? ⟨w6.heap.size, 0, none⟩ = some (.slice la ll lc) ∧ W2.drew.cell? ⟨w7.heap.size, 0, none⟩ = some (.slice ka kl kc) ∧ Below W2.heap.size W2 W2.drew) := ⟨M7.cell 3 rfl, M7.cell 1 rfl, M7.cell 0 rfl, (Below.refl _ _).drew⟩
    clear M7 hW
    go_upto_region 14 with fail
    rw [← HW.out]
    go_region_held2 (fun w' => w'.cell? ⟨w2.heap.size, 1, none⟩ = some (.int .i64 7) ∧ w'.cell? ⟨w6.heap.size, 0, none⟩ = some (.slice la ll lc) ∧ w'.cell? ⟨w7.heap.size, 0, none⟩ = some (.slice ka kl kc) ∧ Below W2.heap.size W2 w')
      (first | with_reducible exact HS0.out | with_reducible assumption)
      (first
        | (go_at_call 26; refine (canObserve_as la ka ll lc kl kc (tgL ss ts ds ds d) (tgL ss ts ds ts (t - 1)) true _ hO hlm6 hlm7 ?_ ?_).mono ?_; exact HWH.out.below (q3_bel (by with_reducible assumption)) (Nat.le_refl _); exact HWT.out.below (q3_bel (by with_reducible assumption)) (Nat.le_refl _); rintro e y1 ⟨rfl, ga⟩; have hs1 := q3_below lt0 lt1 lt2 (by with_reducible assumption) ga; clear ga)
        | (go_at_call 32; refine (canModify_as la ka ll lc kl kc (tgL ss ts ds ds d) (tgL ss ts ds ts (t - 1)) true _ hM hlm6 hlm7 ?_ ?_).mono ?_; exact HWH.out.below (q3_bel (by with_reducible assumption)) (Nat.le_refl _); exact HWT.out.below (q3_bel (by with_reducible assumption)) (Nat.le_refl _); rintro e y1 ⟨rfl, ga⟩; have hs1 := q3_below lt0 lt1 lt2 (by with_reducible assumption) ga; clear ga))
    have HE := hide (HM.out.below (q3_bel hs1)).bel
    clear hs1 HS0 HM
    go_wp2
    go_ret
    exact ⟨rfl, HE.out⟩
  · rw [hV] at M7
    clear hV HT
    obtain ⟨W2, hW⟩ : ∃ W2 : World, W2 = w7.alloc (.cells #[.slice ka kl kc] 31) := ⟨_, rfl⟩
    rw [← hW] at M7
    have HW := hide hW
    have lt0 : (Addr.mk (w2.heap.size) 1 none).block < W2.heap.size := M7.lt 3 rfl
    have lt1 : (Addr.mk (w6.heap.size) 0 none).block < W2.heap.size := M7.lt 1 rfl
    have lt2 : (Addr.mk (w7.heap.size) 0 none).block < W2.heap.size := M7.lt 0 rfl
    have HM := hide M7
    have HWH := hide ((M7.get 1 rfl).sl)
    have HWT := hide ((M7.get 0 rfl).sl)
    have HS0 : Hid (W2.drew.cell? ⟨w2.heap.size, 1, none⟩ = some (.int .i64 5) ∧ W2.drew.cell? ⟨w6.heap.size, 0, none⟩ = some (.slice la ll lc) ∧ W2.drew.cell? ⟨w7.heap.size, 0, none⟩ = some (.slice ka kl kc) ∧ Below W2.heap.size W2 W2.drew) := ⟨M7.cell 3 rfl, M7.cell 1 rfl, M7.cell 0 rfl, (Below.refl _ _).drew⟩
    clear M7 hW
    go_upto_region 14 with fail
    rw [← HW.out]
    go_region_held2 (fun w' => w'.cell? ⟨w2.heap.size, 1, none⟩ = some (.int .i64 5) ∧ w'.cell? ⟨w6.heap.size, 0, none⟩ = some (.slice la ll lc) ∧ w'.cell? ⟨w7.heap.size, 0, none⟩ = some (.slice ka kl kc) ∧ Below W2.heap.size W2 w')
      (first | with_reducible exact HS0.out | with_reducible assumption)
      (first
        | (go_at_call 26; refine (canObserve_as la ka ll lc kl kc (tgL ss ts ds ds d) (tgL ss ts ds ts (t - 1)) true _ hO hlm6 hlm7 ?_ ?_).mono ?_; exact HWH.out.below (q3_bel (by with_reducible assumption)) (Nat.le_refl _); exact HWT.out.below (q3_bel (by with_reducible assumption)) (Nat.le_refl _); rintro e y1 ⟨rfl, ga⟩; have hs1 := q3_below lt0 lt1 lt2 (by with_reducible assumption) ga; clear ga)
        | (go_at_call 32; refine (canModify_as la ka ll lc kl kc (tgL ss ts ds ds d) (tgL ss ts ds ts (t - 1)) false _ hM hlm6 hlm7 ?_ ?_).mono ?_; exact HWH.out.below (q3_bel (by with_reducible assumption)) (Nat.le_refl _); exact HWT.out.below (q3_bel (by with_reducible assumption)) (Nat.le_refl _); rintro e y1 ⟨rfl, ga⟩; have hs1 := q3_below lt0 lt1 lt2 (by with_reducible assumption) ga; clear ga))
    have HE := hide (HM.out.below (q3_bel hs1)).bel
    clear hs1 HS0 HM
    go_wp2
    go_ret
    exact ⟨rfl, HE.out⟩
  · rw [hV] at M7
    clear hV HT
    obtain ⟨W2, hW⟩ : ∃ W2 : World, W2 = w7.alloc (.cells #[.slice ka kl kc] 31) := ⟨_, rfl⟩
    rw [← hW] at M7
    have HW := hide hW
    have lt0 : (Addr.mk (w2.heap.size) 1 none).block < W2.heap.size := M7.lt 3 rfl
    have lt1 : (Addr.mk (w6.heap.size) 0 none).block < W2.heap.size := M7.lt 1 rfl
    have lt2 : (Addr.mk (w7.heap.size) 0 none).block < W2.heap.size := M7.lt 0 rfl
    have HM := hide M7
    have HWH := hide ((M7.get 1 rfl).sl)
    have HWT := hide ((M7.get 0 rfl).sl)
    have HS0 : Hid (W2.drew.cell? ⟨w2.heap.size, 1, none⟩ = some (.int .i64 0) ∧ W2.drew.cell? ⟨w6.heap.size, 0, none⟩ = some (.slice la ll lc) ∧ W2.drew.cell? ⟨w7.heap.size, 0, none⟩ = some (.slice ka kl kc) ∧ Below W2.heap.size W2 W2.drew) := ⟨M7.cell 3 rfl, M7.cell 1 rfl, M7.cell 0 rfl, (Below.refl _ _).drew⟩
    clear M7 hW
    go_upto_region 14 with fail
    rw [← HW.out]
    go_region_held2 (fun w' => w'.cell? ⟨w2.heap.size, 1, none⟩ = some (.int .i64 0) ∧ w'.cell? ⟨w6.heap.size, 0, none⟩ = some (.slice la ll lc) ∧ w'.cell? ⟨w7.heap.size, 0, none⟩ = some (.slice ka kl kc) ∧ Below W2.heap.size W2 w')
      (first | with_reducible exact HS0.out | with_reducible assumption)
      (first
        | (go_at_call 26; refine (canObserve_as la ka ll lc kl kc (tgL ss ts ds ds d) (tgL ss ts ds ts (t - 1)) false _ hO hlm6 hlm7 ?_ ?_).mono ?_; exact HWH.out.below (q3_bel (by with_reducible assumption)) (Nat.le_refl _); exact HWT.out.below (q3_bel (by with_reducible assumption)) (Nat.le_refl _); rintro e y1 ⟨rfl, ga⟩; have hs1 := q3_below lt0 lt1 lt2 (by with_reducible assumption) ga; clear ga)
        | (go_at_call 32; refine (canModify_as la ka ll lc kl kc (tgL ss ts ds ds d) (tgL ss ts ds ts (t - 1)) false _ hM hlm6 hlm7 ?_ ?_).mono ?_; exact HWH.out.below (q3_bel (by with_reducible assumption)) (Nat.le_refl _); exact HWT.out.below (q3_bel (by with_reducible assumption)) (Nat.le_refl _); rintro e y1 ⟨rfl, ga⟩; have hs1 := q3_below lt0 lt1 lt2 (by with_reducible assumption) ga; clear ga))
    have HE := hide (HM.out.below (q3_bel hs1)).bel
    clear hs1 HS0 HM
    go_wp2
    go_ret
    exact ⟨rfl, HE.out⟩

theorem own : ownKnob Try.prog.godebug = none := by kernel_rfl

theorem laidOut : laidOutB Try.prog = true := by kernel_rfl

theorem walk_Perms (a : Option Addr) (len cap : Nat) (w : World) (hl : len ≤ maxLen) (hc : len ≤ 1048576 → Cd w a len) :
    Calls Try.prog 5 #[.slice a len cap] w fun e w' => e = .returned (.bool true) ∧ Below w.heap.size w w' := by
  by_cases h : len ≤ 1048576
  · exact perms_small a len cap w (hc h)
  · exact perms_big a len cap w hl (by omega)

theorem open_code {H : Type} {enc : TypeId × Value → H} {P : Program} {w : World} {t e : TypeId} {a : Option Addr} {len cap fuel : Nat} {x : DataW H × List MemPlace}
    (hsl : P.underlying t = some (.slice e)) (he : P.underlying e = some (.int .u8)) (hce : P.cellsOf e = 1)
    (h : DataW.trod enc P w 0 (fun _ => true) true fuel t (Value.slice a len cap).cells.toList = some x) : len ≤ maxLen ∧ (len ≤ 1048576 → Cd w a len) := by
  rcases open_ints hsl he hce h with ⟨hcs, _⟩ | ⟨y, l, c', zs, hcs, _, hl, hm, hz, _, hcell, hwf⟩
  · simp [Value.cells] at hcs
    obtain ⟨rfl, rfl, rfl⟩ := hcs
    exact ⟨Nat.zero_le _, fun _ => ⟨by omega, fun h => by omega⟩⟩
  · simp [Value.cells] at hcs
    obtain ⟨rfl, rfl, rfl⟩ := hcs
    simp at hz
    refine ⟨by omega, fun hsm => ⟨hsm, fun hp => ?_⟩⟩
    obtain ⟨b, off, spot⟩ := y
    have hc0 := hcell 0 (by omega)
    have hspot : spot = none := by simpa [Addr.add] using World.cell?_spot hc0
    subst hspot
    refine ⟨b, off, rfl, World.block_lt_of_cell? _ _ hc0, fun i hi => ?_⟩
    have hadd : (Addr.mk b off none).add i = ⟨b, off + i, none⟩ := by cases i <;> simp [Addr.add]
    have hci := hcell i (by omega)
    rw [hadd] at hci
    have hil : i < zs.length := by omega
    have hge : zs.getD i 0 = zs[i] := by simp [List.getD, hil]
    have hw := hwf (zs.getD i 0) (by rw [hge]; exact List.getElem_mem hil)
    have hb : 0 ≤ zs.getD i 0 ∧ zs.getD i 0 ≤ 255 := by simpa [Lit.wf, IntKind.min, IntKind.max, IntKind.signed, IntKind.bits] using hw
    exact ⟨_, hb.1, hb.2, hci⟩

set_option maxRecDepth 100000 in
theorem lifted_Perms (os : Os) (started : os.Started) (H : Type) (enc : TypeId × Value → H) :
    ReturnsInHanded {} Try.checked os 5 .any (Rows.fnPermsSpec.pre6 enc Try.prog Try.f5 Rows.fnPermsRow.domain false) (Rows.fnPermsSpec.post enc Try.prog Try.f5 false true false false) := by
  refine returnsInHanded_of_change (C := Try.checked) own started (by kernel_rfl) Try.func5
    (ChangeSpec.witness6 (enc := enc) (C := Try.checked) false ⟨#[], #[.slice none 0 0], []⟩ 8 (by kernel_rfl) (by kernel_rfl) (by kernel_rfl) (by kernel_rfl)) ?_
  intro W base args ds gs before hval0 hW hcnd _
  have hval : ∀ (j : Nat) t v, Try.f5.params[j]? = some t → args[j]? = some v → Value.okWide Try.prog W .any base t v := hval0
  have hW' := hW
  obtain ⟨p, q, hA0, hV, rfl, hfz, hnd⟩ := hW
  have hA : DataW.TrodAll enc Try.prog W 0 (fun _ => true) true Try.f5.params.toList args.toList ds p := hA0
  rw [Try.params5] at hA hval
  obtain ⟨v0, vs0, d0, ds0, p0, q0, hargs, rfl, rfl, h0, r0⟩ := trodAll_cons hA
  obtain ⟨rfl, rfl, rfl⟩ := trodAll_nil r0
  obtain rfl : args = #[v0] := by cases args; simp_all
  obtain ⟨rfl, rfl⟩ := trodVars_none hV
  obtain ⟨a0, len0, cap0, rfl⟩ := okWide_slice Try.underlying22 (hval 0 22 v0 rfl rfl)
  have k0 := h0
  have lt0 : ∀ x ∈ p0, x.block < W.heap.size := by obtain ⟨m, hm⟩ := k0; exact DataW.trod_lt m _ _ _ hm
  obtain ⟨hl0, hc0⟩ : len0 ≤ maxLen ∧ (len0 ≤ 1048576 → Cd W a0 len0) := by
    obtain ⟨fuel, hf⟩ := h0
    exact open_code Try.underlying22 Try.underlying5 (by kernel_rfl) hf
  clear hA0 hval0
  refine (walk_Perms a0 len0 cap0 W hl0 hc0).mono fun e W' ⟨he, bel⟩ => ?_
  subst he
  exact ⟨_, rfl, _, _, _, [], _, [], hW', trodAll_mk1 (shut_bool Try.underlying4 _), (trodAll_cons_mk (Below.trod laidOut (by kernel_rfl) (of_decide_eq_true (by kernel_rfl)) k0 bel lt0) trodAll_mk0), rfl, bel.frame _, fun h => by cases h⟩

theorem fnPerms_holds : Rows.FnPermsSaid :=
  OpenClaim.holds_of_wide 5 Try.f5 rfl rfl rfl rfl rfl rfl rfl ⟨rfl, rfl, rfl, rfl, rfl⟩ rfl rfl rfl rfl rfl (by kernel_rfl) Try.func5 (by kernel_rfl)
    (of_decide_eq_true (by kernel_rfl)) (by unfold Func.isWrapper; first | (rw [if_pos (by decide +kernel)]; kernel_rfl) | (rw [if_neg (by decide +kernel)]; exact ⟨rfl, rfl⟩))
    (fun os started H enc _ => lifted_Perms os started H enc)
#print axioms fnPerms_holds

end Go.Proofs.Ytjkdckcmgbmmgaa
