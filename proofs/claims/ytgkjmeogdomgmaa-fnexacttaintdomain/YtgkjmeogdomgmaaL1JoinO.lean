import Derived.Test.YtgkjmeogdomgmaaApp
import Derived.Test.YtgkjmeogdomgmaaSep
import Derived.Deep.AppendLies
import Derived.WalkKit
import Derived.ProofKit
import Derived.OpenShut
import Derived.ShutString
import Derived.ChangeOld
import Derived.Below
import Derived.WalkSpells
import Derived.Deep.QuietTactic
import Derived.BigQuiet
import Derived.Deep.RegionWith
import Derived.Deep.WholeRow
import Derived.Deep.DeepCutAuto
import Derived.Deep.RegionHeld2
import Derived.Deep.AppendLies
import Derived.Deep.RegionLaw
namespace Go.Proofs.Ytgkjmeogdomgmaa
open Go.ChangeShapes Go.WideShapes Go.ChangeAt Go.RowKit

set_option maxRecDepth 100000 in
theorem l1Max_calls (x y : Int) (w : World) : Calls Try.prog 119 #[.int .i64 x, .int .i64 y] w fun e w' => e = .returned (.int .i64 (max x y)) ∧ w' = w := by
  by_cases h : y < x
  · go_enter Try.func119, Try.ntmps119
    go_wp2
    go_ret
    exact ⟨ret_int (by omega), rfl⟩
  · go_enter Try.func119, Try.ntmps119
    go_wp2
    go_ret
    exact ⟨ret_int (by omega), rfl⟩

set_option maxRecDepth 100000 in
set_option maxHeartbeats 4000000 in
theorem l1JoinO_calls (p o q : Nat) (a b : Option Addr) (n ca cb : Nat) (xs ys : List Int) (w : World) (hn : n ≤ 1048576) (hp : p < w.heap.size) (hq : q < w.heap.size)
    (hpc : w.cell? ⟨p, o, none⟩ = some (.slice a n ca)) (hqc : w.cell? ⟨q, 0, none⟩ = some (.slice b n cb)) (hx : Sl w a n xs) (hy : Sl w b n ys) :
    Calls Try.prog 102 #[.pointer (some ⟨p, o, none⟩), .pointer (some ⟨q, 0, none⟩)] w fun e w' => ∃ ra rc, e = .returned (.agg #[.slice ra n rc]) ∧ OSl w' w.heap.size w'.heap.size ra n (mix max xs ys) ∧ Below w.heap.size w w' := by
  obtain ⟨hxl, hx⟩ := hx
  obtain ⟨hyl, hy⟩ := hy
  obtain ⟨i0, hi, hz0, hz1, hz2⟩ := info_parts info2
  go_enter Try.func102, Try.ntmps102
  go_wp2
  go_loopw [6] (fun i wr => ∃ (k : Nat) (v : Value), k ≤ n ∧ i = .int .i64 k ∧ wr.cell? ⟨w.heap.size + 1, 0, none⟩ = some v ∧ wr.frozen? ⟨w.heap.size + 1, 0, none⟩ = false ∧ wr.ownsRow (w.heap.size + 2) 2 1 v k (((mix max xs ys).take k).map (Value.int .i64)) ∧
      wr.cell? ⟨w.heap.size, 0, none⟩ = some (.slice none 0 0) ∧ wr.frozen? ⟨w.heap.size, 0, none⟩ = false ∧ Below w.heap.size w wr ∧ w.heap.size + 2 ≤ wr.heap.size) (fun i _ => n - (intOf i).toNat)
  case atStart => exact ⟨0, .slice none 0 0, Nat.zero_le _, rfl, by go_simp, by go_simp, World.ownsRow_nil _ _ _ _, by go_simp, by go_simp, ((Below.refl _ _).alloc (Nat.le_refl _) _).alloc (by simp) _, by simp⟩
  case round =>
    obtain ⟨k, v, hk, rfl, hv, hvf, hown, hr, hrf, hbel, hsz⟩ := hrel
    have hpr := (hbel.cell (p := ⟨p, o, none⟩) hp).trans hpc
    have hqr := (hbel.cell (p := ⟨q, 0, none⟩) hq).trans hqc
    by_cases hlt : k < n
    · obtain ⟨b1, o1, rfl, hb1, hc1⟩ := hx (by omega)
      obtain ⟨b2, o2, rfl, hb2, hc2⟩ := hy (by omega)
      have hck1 := (hbel.cell (p := ⟨b1, o1 + k, none⟩) hb1).trans (hc1 k hlt)
      have hck2 := (hbel.cell (p := ⟨b2, o2 + k, none⟩) hb2).trans (hc2 k hlt)
      have hki : (k : Int) < (n : Int) := by omega
      have hsz1 : w.heap.size + 1 < wr.heap.size := by omega
      have HO := hide hown
      clear hown hx hy hc1 hc2
      go_wp2_with fail
      go_region_law (first
        | (refine step_append_lies _ rfl _ _ 25 rfl (w.heap.size + 2) 2 i0 (.int .i64 0) 1 8 Try.underlying25 hi hz0 hz1 hz2 rfl (by decide) v k (((mix max xs ys).take k).map (Value.int .i64)) rfl (HO.out.alloc _) ⟨wr.heap.size, 0, none⟩ 1 1 [.int .i64 (max (gt xs k) (gt ys k))] rfl rfl (one_new (by go_simp)) (by simp [Value.oneCell']) (by omega) (by unfold maxLen; omega) (by omega) (by simp; omega) (wr.heap.size + 1) (by simp) ?_; intro g cp w1 hown1 hgrow hat hlt1; have gv := grow_cell HO.out hgrow hsz (p := ⟨w.heap.size + 1, 0, none⟩) (by simp); rw [hv, hvf] at gv; obtain ⟨gv1, gv2⟩ := gv)
        | (go_simp; go_at_call 119; refine (l1Max_calls _ _ _).mono ?_; rintro e w2 ⟨rfl, rfl⟩))
      all_goals
        have R := app_step hbel hsz (by omega : w.heap.size + 1 < w.heap.size + 2) (by omega) hv hvf HO.out hgrow hown1
        have RN := R.2.2.2.1 ⟨w.heap.size, 0, none⟩ (by simp) (by simp)
        rw [hr, hrf] at RN
        rw [← mix_take max xs ys k (by omega)] at R
        have HR := hide R
        have HRN := hide RN
        clear R RN gv1 gv2 hown1 hgrow hat hlt1
        go_wp2
        go_roundw
        case rel => exact ⟨k + 1, _, by omega, by go_num, HR.out.1, HR.out.2.1, HR.out.2.2.1, HRN.out.1, HRN.out.2, HR.out.2.2.2.2.1, HR.out.2.2.2.2.2⟩
        case measure => simp [intOf]; omega
    · have hkn : k = n := by omega
      subst hkn
      rw [List.take_of_length_le (by rw [length_mix]; omega)] at hown
      obtain ⟨ra, rc, rfl, ho⟩ := owns_osl hn hown
      clear hown
      go_wp2
      refine bodyPost_ret (v := .agg #[.slice ra k rc]) (by simp [results, Try.results102, go_sem, hr]) rfl ⟨ra, rc, rfl, ?_, hbel.setCell (by simp) _⟩
      exact (ho.map (fun b h1 _ hb => hb.setCell (by simp; omega) _)).mono (by omega) (by simp)

end Go.Proofs.Ytgkjmeogdomgmaa
