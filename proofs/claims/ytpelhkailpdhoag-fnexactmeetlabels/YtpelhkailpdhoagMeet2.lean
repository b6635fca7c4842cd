import Derived.Test.YtpelhkailpdhoagJoin0
import Derived.Test.YtpelhkailpdhoagBelowImpl
import Derived.WalkKit
import Derived.ProofKit
import Derived.OpenShut
import Derived.ShutString
import Derived.ChangeOld
import Derived.Below
import Derived.WalkSpells
import Derived.Deep.QuietTactic
import Derived.BigQuiet
import Derived.Deep.RegionWith
import Derived.Deep.WholeRow
import Derived.Deep.DeepCutAuto
import Derived.Deep.RegionHeld2
import Derived.Deep.AppendLies
import Derived.Deep.RegionLaw
namespace Go.Proofs.Ytpelhkailpdhoag
open Go.ChangeShapes Go.WideShapes Go.ChangeAt Go.RowKit

set_option maxHeartbeats 4000000 in
theorem specMeetLabels_calls (a b : Option Addr) (la ca lb cb : Nat) (xs ys : List Int) (w : World) (hla : la ≤ maxLen) (hlb : lb ≤ maxLen) (hx : Sl w a la xs) (hy : Sl w b lb ys) :
    Calls Try.prog 20 #[.agg #[.slice a la ca], .agg #[.slice b lb cb]] w fun e w' => ∃ ra rn rc, e = .returned (.agg #[.int .i64 (both xs ys), .slice ra rn rc]) ∧ OSl w' w.heap.size w'.heap.size ra rn (resOf (both xs ys) (mix min xs ys)) ∧ Below w.heap.size w w' := by
  have M0 := (((Mem.start w).alloc1 (.slice a la ca) 27).alloc1 (.slice b lb cb) 27).alloc2 (.int .i64 0) (.slice none 0 0) 31
  simp only [World.size_alloc] at M0
  have hb0 := M0.bel
  cases hf : (both xs ys == 0) with
  | true =>
    obtain ⟨fx, fy⟩ := both_zero hf
    have e1 : la = 4 := by rw [← hx.1]; exact fault_len fx
    have e2 : lb = 4 := by rw [← hy.1]; exact fault_len fy
    subst e1 e2
    have hf0 : both xs ys = 0 := by simpa using hf
    rw [resOf_ok hf0]
    have Hf := hide hf0
    have hfn : (both xs ys != 0) = false := by simp [hf0]
    clear hf0 fx fy
    obtain ⟨i0, hi, hz0, hz1, hz2⟩ := info_parts info2
    go_enter Try.func20, Try.ntmps20
    go_wp2_with fail
    refine (l1Both_calls _ _ a b 4 ca 4 cb xs ys _ hla hlb (M0.lt 3 rfl) (M0.lt 2 rfl) (M0.cell 3 rfl) (M0.cell 2 rfl) (hx.below hb0 (Nat.le_refl _)) (hy.below hb0 (Nat.le_refl _))).mono ?_
    rintro e w1 ⟨rfl, hb⟩
    have M1 := M0.below hb
    have f0 : w1.frozen? ⟨w.heap.size + 1 + 1, 0, none⟩ = false := (hb.frozen (p := ⟨w.heap.size + 1 + 1, 0, none⟩) (by simp)).trans (by go_simp)
    have f1 : w1.frozen? ⟨w.heap.size + 1 + 1, 1, none⟩ = false := (hb.frozen (p := ⟨w.heap.size + 1 + 1, 1, none⟩) (by simp)).trans (by go_simp)
    have r0 := M1.cell 0 rfl
    have r1 := M1.cell 1 rfl
    have cB := M1.cell 2 rfl
    have cA := M1.cell 3 rfl
    have nR := M1.lt 0 rfl
    have nB := M1.lt 2 rfl
    have nA := M1.lt 3 rfl
    have h1 := M1.bel
    have hx1 := hx.below h1 (Nat.le_refl _)
    have hy1 := hy.below h1 (Nat.le_refl _)
    obtain ⟨hxl, hx1⟩ := hx1
    obtain ⟨hyl, hy1⟩ := hy1
    obtain ⟨b1, o1, rfl, hb1, hc1⟩ := hx1 (by omega)
    obtain ⟨b2, o2, rfl, hb2, hc2⟩ := hy1 (by omega)
    clear hb M0 hb0 M1 hx1 hy1 hx hy
    go_wp2
    go_loopw [7] (fun i wr => ∃ (k : Nat) (v : Value), k ≤ 4 ∧ i = .int .i64 k ∧ wr.cell? ⟨w1.heap.size, 0, none⟩ = some v ∧ wr.frozen? ⟨w1.heap.size, 0, none⟩ = false ∧ wr.ownsRow (w1.heap.size + 1) 2 1 v k (((mix min xs ys).take k).map (Value.int .i64)) ∧
        Below w1.heap.size w1 wr ∧ w1.heap.size + 1 ≤ wr.heap.size) (fun i _ => 4 - (intOf i).toNat)
    case atStart => exact ⟨0, .slice none 0 0, Nat.zero_le _, rfl, by go_simp, by go_simp, World.ownsRow_nil _ _ _ _, (Below.refl _ _).alloc (Nat.le_refl _) _, by simp⟩
    case round =>
      obtain ⟨k, v, hk, rfl, hv, hvf, hown, hbel, hsz⟩ := hrel
      have hpr := (hbel.cell (p := ⟨w.heap.size, 0, none⟩) nA).trans cA
      have hqr := (hbel.cell (p := ⟨w.heap.size + 1, 0, none⟩) nB).trans cB
      by_cases hlt : k < 4
      · have hck1 := (hbel.cell (p := ⟨b1, o1 + k, none⟩) hb1).trans (hc1 k hlt)
        have hck2 := (hbel.cell (p := ⟨b2, o2 + k, none⟩) hb2).trans (hc2 k hlt)
        have hki : (k : Int) < 4 := by omega
        have hsz1 : w1.heap.size < wr.heap.size := by omega
        have HO := hide hown
        clear hown hc1 hc2 cA cB r0 r1 f0 f1
        go_wp2_with fail
        go_region_law (first
          | (refine step_append_lies _ rfl _ _ 22 rfl (w1.heap.size + 1) 2 i0 (.int .i64 0) 1 8 Try.underlying22 hi hz0 hz1 hz2 rfl (by decide) v k (((mix min xs ys).take k).map (Value.int .i64)) rfl (HO.out.alloc _) ⟨wr.heap.size, 0, none⟩ 1 1 [.int .i64 (min (gt xs k) (gt ys k))] rfl rfl (one_new (by go_simp)) (by simp [Value.oneCell']) (by omega) (by unfold maxLen; omega) (by omega) (by simp; omega) (wr.heap.size + 1) (by simp) ?_; intro g cp w2 hown1 hgrow hat hlt1; have gv := grow_cell HO.out hgrow hsz (p := ⟨w1.heap.size, 0, none⟩) (by simp); rw [hv, hvf] at gv; obtain ⟨gv1, gv2⟩ := gv)
          | (go_simp; go_at_call 40; refine (l1Min_calls _ _ _).mono ?_; rintro e w2 ⟨rfl, rfl⟩))
        all_goals
          have R := app_step hbel hsz (by omega : w1.heap.size < w1.heap.size + 1) (by omega) hv hvf HO.out hgrow hown1
          rw [← mix_take min xs ys k (by omega)] at R
          have HR := hide R
          clear R gv1 gv2 hown1 hgrow hat hlt1 hv hvf hbel hsz HO hpr hqr hck1 hck2
          go_wp2
          go_roundw
          case rel => exact ⟨k + 1, _, by omega, by go_num, HR.out.1, HR.out.2.1, HR.out.2.2.1, HR.out.2.2.2.2.1, HR.out.2.2.2.2.2⟩
          case measure => simp [intOf]; omega
      · have hkn : k = 4 := by omega
        subst hkn
        rw [List.take_of_length_le (by rw [length_mix]; omega)] at hown
        obtain ⟨ra, rc, rfl, ho⟩ := owns_osl (by omega) hown
        have r0r := (hbel.cell (p := ⟨w.heap.size + 1 + 1, 0, none⟩) nR).trans r0
        have r1r := (hbel.cell (p := ⟨w.heap.size + 1 + 1, 1, none⟩) nR).trans r1
        have f0r := (hbel.frozen (p := ⟨w.heap.size + 1 + 1, 0, none⟩) nR).trans f0
        have f1r := (hbel.frozen (p := ⟨w.heap.size + 1 + 1, 1, none⟩) nR).trans f1
        have hr : Below w.heap.size w wr := h1.trans (hbel.mono h1.size)
        clear hown r0 r1 f0 f1 hqr hc1 hc2
        go_wp2
        refine bodyPost_ret (v := .agg #[.int .i64 0, .slice ra 4 rc]) (by simp [results, Try.results20, go_sem, r0r, r1r]) rfl ⟨ra, 4, rc, by rw [Hf.out], ?_, (hr.setCell (by simp; omega) _).setCell (by simp; omega) _⟩
        exact (ho.map (fun b h1 _ hb => (hb.setCell (by simp; omega) _).setCell (by simp; omega) _)).mono (by omega) (by simp)
  | false =>
    have hf0 : both xs ys ≠ 0 := by simpa using hf
    rw [resOf_no hf0]
    clear hf0
    go_enter Try.func20, Try.ntmps20
    go_wp2_with fail
    refine (l1Both_calls _ _ a b la ca lb cb xs ys _ hla hlb (M0.lt 3 rfl) (M0.lt 2 rfl) (M0.cell 3 rfl) (M0.cell 2 rfl) (hx.below hb0 (Nat.le_refl _)) (hy.below hb0 (Nat.le_refl _))).mono ?_
    rintro e w1 ⟨rfl, hb⟩
    have M1 := M0.below hb
    have f0 : w1.frozen? ⟨w.heap.size + 1 + 1, 0, none⟩ = false := (hb.frozen (p := ⟨w.heap.size + 1 + 1, 0, none⟩) (by simp)).trans (by go_simp)
    have f1 : w1.frozen? ⟨w.heap.size + 1 + 1, 1, none⟩ = false := (hb.frozen (p := ⟨w.heap.size + 1 + 1, 1, none⟩) (by simp)).trans (by go_simp)
    have r0 := M1.cell 0 rfl
    have r1 := M1.cell 1 rfl
    have h1 := M1.bel
    clear hb M0 hb0 M1
    go_wp2
    refine bodyPost_ret (v := .agg #[.int .i64 (both xs ys), .slice none 0 0]) (by simp [results, Try.results20, go_sem, r0, r1]) rfl ⟨_, _, _, rfl, OSl.nil _ _ _, (h1.setCell (by simp; omega) _).setCell (by simp; omega) _⟩

end Go.Proofs.Ytpelhkailpdhoag
