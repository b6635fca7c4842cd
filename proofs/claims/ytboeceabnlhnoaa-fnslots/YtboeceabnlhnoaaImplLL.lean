import Derived.Test.YtboeceabnlhnoaaL2Leave
import Derived.Test.YtboeceabnlhnoaaBookReg2
import Derived.Test.YtboeceabnlhnoaaOpen
import Derived.WalkKit
import Derived.ProofKit
import Derived.OpenShut
import Derived.ShutString
import Derived.ChangeOld
import Derived.Below
import Derived.WalkSpells
import Derived.Deep.QuietTactic
import Derived.BigQuiet
import Derived.Deep.RegionWith
import Derived.Deep.WholeRow
import Derived.Deep.DeepCutAuto
import Derived.Deep.RegionHeld2
import Derived.Deep.AppendLies
import Derived.Deep.RegionLaw
namespace Go.Proofs.Ytboeceabnlhnoaa
open Go.ChangeShapes Go.WideShapes Go.ChangeAt Go.RowKit

set_option maxRecDepth 100000 in
theorem implLeaveLabel_calls (a : Option Addr) (n ca : Nat) (ss : List (Int × List Int)) (p : Int) (w : World) (hn : n ≤ maxLen) (hx : Sls w a n ss) :
    Calls Try.prog 8 #[.agg #[.slice a n ca], .int .i64 p] w fun e w' => ∃ ra rn rc, e = .returned (.agg #[.int .i64 (laC ss p), .int .i64 (lvR ss p), .slice ra rn rc]) ∧ OR (InR w.heap.size w'.heap.size) ra rn (lvL ss p) w' ∧ Below w.heap.size w w' := by
  have M0 := ((Mm.start w).alloc1 (.slice a n ca) 26).alloc3 (.int .i64 0) (.int .i64 0) (.slice none 0 0) 33
  simp only [World.size_alloc] at M0
  have hx0 := hx.below M0.bel (Nat.le_refl _)
  have hlen := hx.1
  by_cases hr : faultR ss = 0
  · have er : (faultR ss != 0) = false := by simp [hr]
    have HC := hide (laC_ok (p := p) hr)
    have Hr := hide hr
    have few := (good_of hr).few
    clear hr
    by_cases hc : atC ss p = 0
    · have ec : (atC ss p != 0) = false := by simp [hc]
      obtain ⟨q, rfl, hq, hp, hL, hV⟩ := atC_zero (good_of Hr.out) hc
      have Hc := hide hc
      have HE : Hid (laC ss (q : Int) = 0) := HC.out.trans hc
      have HV : Hid (lvR ss (q : Int) = gc ss q - 1) := if_pos HE.out
      have HL : Hid (lvL ss (q : Int) = leaveS ss q) := if_pos HE.out
      clear hc hL
      go_enter Try.func8, Try.ntmps8
      go_wp2_with fail
      refine (openRegistry_calls a n ca ss _ hn hx0).mono ?_
      rintro e w1 ⟨sz, mo, rfl, g1, hown⟩
      obtain ⟨rfl, M, rfl, hM, hown⟩ := hown Hr.out
      have hz1 := g1.size
      simp only [World.size_alloc] at hz1 hM
      have hM1 := hown.lt
      have M1 := (M0.below g1).alloc2 (.int .i64 (n : Int)) (.map (some M)) 49
      have hbk : Bk (w1.alloc (.cells #[.int .i64 (n : Int), .map (some M)] 49)) w1.heap.size M (ss.length : Int) n (bk ss ss.length) := by
        rw [hlen]
        exact ⟨by simp, by simp, by simp, fun j => by simp, hown.alloc _⟩
      clear g1 hown hx0 M0
      go_wp2_with fail
      refine (leave_calls _ M n _ ss _ _ hbk (by omega) (good_of Hr.out) (rep_bk Hr.out)).mono ?_
      rintro e w2 ⟨rfl, u2, hfin⟩
      obtain ⟨D2, hb2, hrep⟩ := hfin Hc.out
      rw [hV, Hc.out]
      have M2 := M1.out (B := M) (T := M + 1) (u2.mono (fun k hk => ⟨by omega, by omega⟩)) (by omega) (by simp <;> omega) (by simp)
      have hz2 := u2.size
      simp only [World.size_alloc] at hz2
      have hz : w.heap.size + 1 < w2.heap.size := by omega
      have HF : Hid (((q : Int)).toNat = q) := by show _ = _; omega
      rw [HF.out] at hrep
      clear u2 M1 hfin hbk hz2
      go_wp2_with fail
      refine (registry_calls _ M _ (leaveS ss q) D2 _ (by rw [length_leaveS]; exact hb2) (good_leave (good_of Hr.out) hq hp) hrep).mono ?_
      rintro e w3 ⟨b, rfl, o3, g3⟩
      have M3 := M2.below g3
      have r0 := M3.cell 2 rfl
      have r1 := M3.cell 3 rfl
      have r2 := M3.cell 4 rfl
      have f0 := M3.fz 2 rfl
      have f1 := M3.fz 3 rfl
      have f2 := M3.fz 4 rfl
      have HB := hide M3.bel
      have HO := hide o3
      have HZ := hide hz
      clear M2 M3 g3 o3 hb2 hrep hz hz1
      go_wp2
      refine bodyPost_ret (v := .agg #[.int .i64 0, .int .i64 (gc ss q - 1), .slice (some ⟨b, 0, none⟩) (leaveS ss q).length (leaveS ss q).length]) (by simp [results, Try.results8, go_sem, r0, r1, r2]) rfl ⟨_, _, _, by rw [HE.out, HV.out], ?_, ((HB.out.setCell (by simp) _).setCell (by simp) _).setCell (by simp) _⟩
      rw [HL.out]
      exact (OR.set3 HO.out (fun e => by have := e.1; have := HZ.out; omega) _ _ _).mono (fun k hk => ⟨by have := hk.1; have := HZ.out; omega, by have := hk.2; simp; omega⟩)
    · have ec : (atC ss p != 0) = true := by simp [hc]
      have HE : Hid (laC ss p ≠ 0) := by show _ ≠ _; rw [HC.out]; exact hc
      have HV : Hid (lvR ss p = 0) := if_neg HE.out
      have HL : Hid (lvL ss p = []) := if_neg HE.out
      clear hc
      go_enter Try.func8, Try.ntmps8
      go_wp2_with fail
      refine (openRegistry_calls a n ca ss _ hn hx0).mono ?_
      rintro e w1 ⟨sz, mo, rfl, g1, hown⟩
      obtain ⟨rfl, M, rfl, hM, hown⟩ := hown Hr.out
      have hz1 := g1.size
      simp only [World.size_alloc] at hz1 hM
      have hM1 := hown.lt
      have M1 := (M0.below g1).alloc2 (.int .i64 (n : Int)) (.map (some M)) 49
      have hbk : Bk (w1.alloc (.cells #[.int .i64 (n : Int), .map (some M)] 49)) w1.heap.size M (ss.length : Int) n (bk ss ss.length) := by
        rw [hlen]
        exact ⟨by simp, by simp, by simp, fun j => by simp, hown.alloc _⟩
      clear g1 hown hx0 M0
      go_wp2_with fail
      refine (leave_calls _ M n _ ss _ _ hbk (by omega) (good_of Hr.out) (rep_bk Hr.out)).mono ?_
      rintro e w2 ⟨rfl, u2, _⟩
      have M2 := M1.out (B := M) (T := M + 1) (u2.mono (fun k hk => ⟨by omega, by omega⟩)) (by omega) (by simp <;> omega) (by simp)
      have r0 := M2.cell 2 rfl
      have r1 := M2.cell 3 rfl
      have r2 := M2.cell 4 rfl
      have f0 := M2.fz 2 rfl
      have f1 := M2.fz 3 rfl
      have f2 := M2.fz 4 rfl
      have HB := hide M2.bel
      clear M1 M2 u2 hbk hz1
      go_wp2
      refine bodyPost_ret (v := .agg #[.int .i64 (atC ss p), .int .i64 0, .slice none 0 0]) (by simp [results, Try.results8, go_sem, r0, r1, r2]) rfl ⟨none, 0, 0, by rw [HC.out, HV.out], ?_, ((HB.out.setCell (by simp) _).setCell (by simp) _).setCell (by simp) _⟩
      rw [HL.out]
      exact OR.nil _ _ _
  · have er : (faultR ss != 0) = true := by simp [hr]
    have HC := hide (laC_bad (p := p) hr)
    have HE : Hid (laC ss p ≠ 0) := by show _ ≠ _; rw [HC.out]; exact hr
    have HV : Hid (lvR ss p = 0) := if_neg HE.out
    have HL : Hid (lvL ss p = []) := if_neg HE.out
    clear hr
    go_enter Try.func8, Try.ntmps8
    go_wp2_with fail
    refine (openRegistry_calls a n ca ss _ hn hx0).mono ?_
    rintro e w1 ⟨sz, mo, rfl, g1, _⟩
    have M1 := (M0.below g1).alloc2 (.int .i64 sz) (.map mo) 49
    have r0 := M1.cell 2 rfl
    have r1 := M1.cell 3 rfl
    have r2 := M1.cell 4 rfl
    have f0 := M1.fz 2 rfl
    have f1 := M1.fz 3 rfl
    have f2 := M1.fz 4 rfl
    have HB := hide M1.bel
    clear M0 M1 g1 hx0
    go_wp2
    refine bodyPost_ret (v := .agg #[.int .i64 (faultR ss), .int .i64 0, .slice none 0 0]) (by simp [results, Try.results8, go_sem, r0, r1, r2]) rfl ⟨none, 0, 0, by rw [HC.out, HV.out], ?_, ((HB.out.setCell (by simp) _).setCell (by simp) _).setCell (by simp) _⟩
    rw [HL.out]
    exact OR.nil _ _ _

end Go.Proofs.Ytboeceabnlhnoaa
