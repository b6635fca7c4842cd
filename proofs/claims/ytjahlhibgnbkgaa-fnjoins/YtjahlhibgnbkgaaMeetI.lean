import Derived.Test.YtjahlhibgnbkgaaSj
import Derived.WalkKit
import Derived.ProofKit
import Derived.OpenShut
import Derived.ShutString
import Derived.ChangeOld
import Derived.Below
import Derived.WalkSpells
import Derived.Deep.QuietTactic
import Derived.BigQuiet
import Derived.Deep.RegionWith
import Derived.Deep.WholeRow
import Derived.Deep.DeepCutAuto
import Derived.Deep.RegionHeld2
import Derived.Deep.AppendLies
import Derived.Deep.RegionLaw
namespace Go.Proofs.Ytjahlhibgnbkgaa
open Go.ChangeShapes Go.WideShapes Go.ChangeAt Go.RowKit

set_option maxRecDepth 100000 in
set_option maxHeartbeats 4000000 in
theorem implMeetLabels_calls (a b : Option Addr) (la ca lb cb : Nat) (xs ys : List Int) (w : World) (hla : la ≤ maxLen) (hlb : lb ≤ maxLen) (hx : Sl w a la xs) (hy : Sl w b lb ys) :
    Calls Try.prog 17 #[.agg #[.slice a la ca], .agg #[.slice b lb cb]] w fun e w' => ∃ ra rn rc, e = .returned (.agg #[.int .i64 (both xs ys), .slice ra rn rc]) ∧ OSl w' w.heap.size w'.heap.size ra rn (resOf (both xs ys) (mix min xs ys)) ∧ Below w.heap.size w w' := by
  have M0 := (((Mem.start w).alloc1 (.slice a la ca) 26).alloc1 (.slice b lb cb) 26).alloc2 (.int .i64 0) (.slice none 0 0) 33
  simp only [World.size_alloc] at M0
  have hb0 := M0.bel
  cases hf : (both xs ys == 0) with
  | true =>
    obtain ⟨fx, fy⟩ := both_zero hf
    have e1 : la = 4 := by rw [← hx.1]; exact fault_len fx
    have e2 : lb = 4 := by rw [← hy.1]; exact fault_len fy
    subst e1 e2
    have hf0 : both xs ys = 0 := by simpa using hf
    rw [resOf_ok hf0]
    have Hf := hide hf0
    clear hf0 fx fy
    have i0 := idx0
    have i1 := idx1
    have i2 := idx2
    have i3 := idx3
    go_enter Try.func17, Try.ntmps17
    go_wp2_with fail
    refine (faultOfBoth_calls a b 4 ca 4 cb xs ys _ hla hlb (hx.below hb0 (Nat.le_refl _)) (hy.below hb0 (Nat.le_refl _))).mono ?_
    rintro e w1 ⟨rfl, hb⟩
    have M1 := M0.below hb
    have f0 : w1.frozen? ⟨w.heap.size + 1 + 1, 0, none⟩ = false := (hb.frozen (p := ⟨w.heap.size + 1 + 1, 0, none⟩) (by simp)).trans (by go_simp)
    have f1 : w1.frozen? ⟨w.heap.size + 1 + 1, 1, none⟩ = false := (hb.frozen (p := ⟨w.heap.size + 1 + 1, 1, none⟩) (by simp)).trans (by go_simp)
    have cA := M1.cell 3 rfl
    have cB := M1.cell 2 rfl
    have nA := M1.lt 3 rfl
    have nB := M1.lt 2 rfl
    have h1 := M1.bel
    clear hb M0 hb0
    go_upto_region 4 with fail
    go_cut [6, 7] (fun p6 p7 wc => ∃ g h, p6 = .pointer (some ⟨g, 0, none⟩) ∧ p7 = .pointer (some ⟨h, 0, none⟩) ∧ w1.heap.size ≤ g ∧ g < wc.heap.size ∧ ARow wc g (gt xs) ∧ ARow wc h (gt ys) ∧ Below w1.heap.size w1 wc)
    case first =>
      have HS0 := hide (sj_start cA cB)
      go_region_held2 (fun w' => w'.cell? ⟨w.heap.size, 0, none⟩ = some (.slice a 4 ca) ∧ w'.cell? ⟨w.heap.size + 1, 0, none⟩ = some (.slice b 4 cb) ∧ Below w1.heap.size w1 w') (first | with_reducible exact HS0.out | (repeat (first | with_reducible assumption | with_reducible refine sj_allocd ?_ _ | with_reducible refine sj_alloc ?_ _ | with_reducible refine sj_set nA nB ?_ ?_ _ | (show (_ : Nat) ≤ _; exact Nat.le_refl _) | (show (_ : Nat) ≤ _; dsimp only; omega))))
        (first
          | (go_at_call_of 46 (Value.slice a 4 ca); refine (levelsOf_calls a ca xs _ ?_).mono ?_; exact sj_sl (by with_reducible assumption) h1 hx; rintro e wa ⟨rfl, hba⟩; have hsa := sj_below (by with_reducible assumption) hba; have hza := hba.size; (try simp only [World.size_alloc, World.size_drew] at hza); (try have hl1 := Nat.lt_of_succ_le hza); (try have hl2 := Nat.lt_of_succ_lt hl1); obtain ⟨bca, bfa⟩ := bcell hba; (try simp only [World.size_alloc, World.size_drew] at bca bfa); unfold ints4; clear hba)
          | (go_at_call_of 46 (Value.slice b 4 cb); refine (levelsOf_calls b cb ys _ ?_).mono ?_; exact sj_sl (by with_reducible assumption) h1 hy; rintro e wb ⟨rfl, hbb⟩; have hsb := sj_below (by with_reducible assumption) hbb; have hzb := hbb.size; (try simp only [World.size_alloc] at hzb); (try have hl3 := Nat.lt_of_succ_le hzb); (try have hl4 := Nat.lt_of_succ_lt hl3); (try have hl5 := Nat.lt_of_lt_of_le hl1 hzb); (try have hl6 := Nat.lt_of_lt_of_le hl2 hzb); obtain ⟨bcb, bfb⟩ := bcell hbb; obtain ⟨bcn, bfn⟩ := bcell_lt (n := wa.heap.size) hbb (by first | exact Nat.le_refl _ | (simp only [World.size_alloc]; omega)); (try simp only [World.size_alloc] at bcb bfb); unfold ints4; clear hbb))
      all_goals go_wp2_with fail
      all_goals go_meet
      all_goals refine ⟨_, _, rfl, rfl, ?_, ?_, ARow.mk4 ?_ ?_ ?_ ?_ (fun j => ?_), ARow.mk4 ?_ ?_ ?_ ?_ (fun j => ?_), ?_⟩
      all_goals first | (go_simp; done) | omega | (simp; omega) | (exact And.right (And.right (by with_reducible assumption))) | ((first | with_reducible refine set4_at0 _ _ _ _ _ _ ?_ | with_reducible refine set4_at1 _ _ _ _ _ _ ?_ | with_reducible refine set4_at2 _ _ _ _ _ _ ?_ | with_reducible refine set4_at3 _ _ _ _ _ _ ?_); go_simp; done) | ((first | with_reducible refine set4_at0 _ _ _ _ _ _ ?_ | with_reducible refine set4_at1 _ _ _ _ _ _ ?_ | with_reducible refine set4_at2 _ _ _ _ _ _ ?_ | with_reducible refine set4_at3 _ _ _ _ _ _ ?_); rw [set4_other _ _ _ _ _ _ _ _ (by omega)]; go_simp; done) | (with_reducible refine (set4_other _ _ _ _ _ _ _ _ ?_).trans ?_; omega; (first | with_reducible refine set4_at0 _ _ _ _ _ _ ?_ | with_reducible refine set4_at1 _ _ _ _ _ _ ?_ | with_reducible refine set4_at2 _ _ _ _ _ _ ?_ | with_reducible refine set4_at3 _ _ _ _ _ _ ?_); go_simp; done)
    case rest =>
      obtain ⟨g, h, rfl, rfl, hgl, hgs, rowx, rowy, hbc⟩ := hcut
      have y0 := rowy.1 0 (by omega)
      have y1 := rowy.1 1 (by omega)
      have y2 := rowy.1 2 (by omega)
      have y3 := rowy.1 3 (by omega)
      have hN := M1.lt 0 rfl
      have r0 := M1.cell 0 rfl
      have r1 := M1.cell 1 rfl
      clear cA cB nA nB
      go_wp2
      go_loopw [22] (fun i wr => ∃ k : Nat, k ≤ 4 ∧ i = .int .i64 k ∧ Below w1.heap.size w1 wr ∧ wr.heap.size = wc.heap.size ∧ ARow wr g (upTo (fun j => min (gt xs j) (gt ys j)) (gt xs) k)) (fun i _ => 4 - (intOf i).toNat)
      case atStart => exact ⟨0, Nat.zero_le _, rfl, hbc, rfl, rowx⟩
      case round =>
        obtain ⟨k, hk4, rfl, hbel, hsz, hrow⟩ := hrel
        clear y0 y1 y2 y3 rowx rowy
        rcases (by omega : k = 0 ∨ k = 1 ∨ k = 2 ∨ k = 3 ∨ k = 4) with rfl | rfl | rfl | rfl | rfl
        · have hv := hrow.1 0 (by omega)
          have hw : upTo (fun j => min (gt xs j) (gt ys j)) (gt xs) 0 0 = gt xs 0 := rfl
          rw [hw] at hv
          have hfk := hrow.2 0
          clear hw
          go_wp2
          go_roundw
          case rel => exact ⟨1, by omega, by go_num, hbel.setCell hgl _, by simpa using hsz, hrow.set (by omega) (upTo_set (F := fun j => min (gt xs j) (gt ys j)) (f := gt xs) (by show min _ _ = _; split <;> omega))⟩
          case measure => simp [intOf]
        · have hv := hrow.1 1 (by omega)
          have hw : upTo (fun j => min (gt xs j) (gt ys j)) (gt xs) 1 1 = gt xs 1 := rfl
          rw [hw] at hv
          have hfk := hrow.2 1
          clear hw
          go_wp2
          go_roundw
          case rel => exact ⟨2, by omega, by go_num, hbel.setCell hgl _, by simpa using hsz, hrow.set (by omega) (upTo_set (F := fun j => min (gt xs j) (gt ys j)) (f := gt xs) (by show min _ _ = _; split <;> omega))⟩
          case measure => simp [intOf]
        · have hv := hrow.1 2 (by omega)
          have hw : upTo (fun j => min (gt xs j) (gt ys j)) (gt xs) 2 2 = gt xs 2 := rfl
          rw [hw] at hv
          have hfk := hrow.2 2
          clear hw
          go_wp2
          go_roundw
          case rel => exact ⟨3, by omega, by go_num, hbel.setCell hgl _, by simpa using hsz, hrow.set (by omega) (upTo_set (F := fun j => min (gt xs j) (gt ys j)) (f := gt xs) (by show min _ _ = _; split <;> omega))⟩
          case measure => simp [intOf]
        · have hv := hrow.1 3 (by omega)
          have hw : upTo (fun j => min (gt xs j) (gt ys j)) (gt xs) 3 3 = gt xs 3 := rfl
          rw [hw] at hv
          have hfk := hrow.2 3
          clear hw
          go_wp2
          go_roundw
          case rel => exact ⟨4, by omega, by go_num, hbel.setCell hgl _, by simpa using hsz, hrow.set (by omega) (upTo_set (F := fun j => min (gt xs j) (gt ys j)) (f := gt xs) (by show min _ _ = _; split <;> omega))⟩
          case measure => simp [intOf]
        · have v0 : wr.cell? ⟨g, 0, none⟩ = some (.int .i64 (min (gt xs 0) (gt ys 0))) := hrow.1 0 (by omega)
          have v1 : wr.cell? ⟨g, 1, none⟩ = some (.int .i64 (min (gt xs 1) (gt ys 1))) := hrow.1 1 (by omega)
          have v2 : wr.cell? ⟨g, 2, none⟩ = some (.int .i64 (min (gt xs 2) (gt ys 2))) := hrow.1 2 (by omega)
          have v3 : wr.cell? ⟨g, 3, none⟩ = some (.int .i64 (min (gt xs 3) (gt ys 3))) := hrow.1 3 (by omega)
          have r0r := (hbel.cell (p := ⟨w.heap.size + 1 + 1, 0, none⟩) hN).trans r0
          have r1r := (hbel.cell (p := ⟨w.heap.size + 1 + 1, 1, none⟩) hN).trans r1
          have f0r := (hbel.frozen (p := ⟨w.heap.size + 1 + 1, 0, none⟩) hN).trans f0
          have f1r := (hbel.frozen (p := ⟨w.heap.size + 1 + 1, 1, none⟩) hN).trans f1
          have hr : Below w.heap.size w wr := h1.trans (hbel.mono h1.size)
          have hNr : w.heap.size + 1 + 1 < wr.heap.size := by have := hbel.size; omega
          clear r0 r1 f0 f1 hbel hrow hbc
          go_wp2_with fail
          refine (labelOf_calls _ _ _ _ _).mono ?_
          rintro e w4 ⟨b4, rfl, hbN, blk, hb4⟩
          have r04 := (hb4.cell (p := ⟨w.heap.size + 1 + 1, 0, none⟩) hNr).trans r0r
          have r14 := (hb4.cell (p := ⟨w.heap.size + 1 + 1, 1, none⟩) hNr).trans r1r
          have f04 := (hb4.frozen (p := ⟨w.heap.size + 1 + 1, 0, none⟩) hNr).trans f0r
          have f14 := (hb4.frozen (p := ⟨w.heap.size + 1 + 1, 1, none⟩) hNr).trans f1r
          have h4 : Below w.heap.size w w4 := hr.trans (hb4.mono hr.size)
          clear hb4 r0r r1r f0r f1r
          go_wp2
          refine bodyPost_ret (v := .agg #[.int .i64 0, .slice (some ⟨b4, 0, none⟩) 4 4]) (by simp [results, Try.results17, go_sem, r04, r14]) rfl ⟨_, 4, 4, by rw [Hf.out], OSl.ofBlk (n := 4) ?_ (by omega) (by rw [length_mix]; exact hx.1) (by omega), (h4.setCell (by simp; omega) _).setCell (by simp; omega) _⟩
          rw [mix4 min hx.1]
          exact (blk.setCell (by simp; omega) _).setCell (by simp; omega) _
  | false =>
    have hf0 : both xs ys ≠ 0 := by simpa using hf
    rw [resOf_no hf0]
    clear hf0
    go_enter Try.func17, Try.ntmps17
    go_wp2_with fail
    refine (faultOfBoth_calls a b la ca lb cb xs ys _ hla hlb (hx.below hb0 (Nat.le_refl _)) (hy.below hb0 (Nat.le_refl _))).mono ?_
    rintro e w1 ⟨rfl, hb⟩
    have M1 := M0.below hb
    have f0 : w1.frozen? ⟨w.heap.size + 1 + 1, 0, none⟩ = false := (hb.frozen (p := ⟨w.heap.size + 1 + 1, 0, none⟩) (by simp)).trans (by go_simp)
    have f1 : w1.frozen? ⟨w.heap.size + 1 + 1, 1, none⟩ = false := (hb.frozen (p := ⟨w.heap.size + 1 + 1, 1, none⟩) (by simp)).trans (by go_simp)
    have r0 := M1.cell 0 rfl
    have r1 := M1.cell 1 rfl
    have h1 := M1.bel
    clear hb M0 hb0 M1
    go_wp2
    refine bodyPost_ret (v := .agg #[.int .i64 (both xs ys), .slice none 0 0]) (by simp [results, Try.results17, go_sem, r0, r1]) rfl ⟨_, _, _, rfl, OSl.nil _ _ _, (h1.setCell (by simp; omega) _).setCell (by simp; omega) _⟩

end Go.Proofs.Ytjahlhibgnbkgaa
