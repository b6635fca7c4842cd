import Derived.Test.YtjahlhibgnbkgaaNext
import Derived.Test.YtjahlhibgnbkgaaApp
import Derived.Test.YtjahlhibgnbkgaaDraw1
import Derived.WalkKit
import Derived.ProofKit
import Derived.OpenShut
import Derived.ShutString
import Derived.ChangeOld
import Derived.Below
import Derived.WalkSpells
import Derived.Deep.QuietTactic
import Derived.BigQuiet
import Derived.Deep.RegionWith
import Derived.Deep.WholeRow
import Derived.Deep.DeepCutAuto
import Derived.Deep.RegionHeld2
import Derived.Deep.AppendLies
import Derived.Deep.RegionLaw
namespace Go.Proofs.Ytjahlhibgnbkgaa
open Go.ChangeShapes Go.WideShapes Go.ChangeAt Go.RowKit

set_option maxRecDepth 100000 in
set_option maxHeartbeats 4000000 in
theorem l1Plain_calls (p : Nat) (a : Option Addr) (len cap t : Nat) (w : World) (ht : t ≤ 999000) (hs : Src w p a len cap t) :
    Calls Try.prog 91 #[.pointer (some ⟨p, 0, none⟩)] w fun e w' => ∃ ra rc zs, e = .returned (.agg #[.slice ra 4 rc]) ∧ 4 ≤ rc ∧ OSl w' w.heap.size w'.heap.size ra 4 zs ∧ Src w' p a len cap (t + 4) ∧ Outside p (p + 1) w w' := by
  obtain ⟨i0, hi, hz0, hz1, hz2⟩ := info_parts info2
  have hp : p < w.heap.size := hs.1
  go_enter Try.func91, Try.ntmps91
  go_wp2
  go_loopw [4] (fun i wr => ∃ (k : Nat) (v : Value) (L : List Int), k ≤ 4 ∧ i = .int .i64 k ∧ wr.cell? ⟨w.heap.size + 1, 0, none⟩ = some v ∧ wr.frozen? ⟨w.heap.size + 1, 0, none⟩ = false ∧ wr.ownsRow (w.heap.size + 2) 2 1 v k (L.map (Value.int .i64)) ∧
      wr.cell? ⟨w.heap.size, 0, none⟩ = some (.slice none 0 0) ∧ wr.frozen? ⟨w.heap.size, 0, none⟩ = false ∧ Outside p (p + 1) w wr ∧ Src wr p a len cap (t + k) ∧ w.heap.size + 2 ≤ wr.heap.size) (fun i _ => 4 - (intOf i).toNat)
  case atStart => exact ⟨0, .slice none 0 0, [], Nat.zero_le _, rfl, by go_simp, by go_simp, World.ownsRow_nil _ _ _ _, by go_simp, by go_simp, (Outside.alloc _ _ _ _).trans (Outside.alloc _ _ _ _), hs.below (((Below.refl _ _).alloc (Nat.le_refl _) _).alloc (by simp) _), by simp⟩
  case round =>
    obtain ⟨k, v, L, hk, rfl, hv, hvf, hown, hr, hrf, hout, hsrc, hsz⟩ := hrel
    by_cases hlt : k < 4
    · have hsz1 : w.heap.size + 1 < wr.heap.size := by omega
      have hS1 : Src (wr.alloc (.cells #[.int .i64 2, .int .i64 2, .int .i64 2, .int .i64 3, .int .i64 4, .int .i64 1] 2)).drew p a len cap (t + k) := hsrc.below (((Below.refl _ _).alloc (Nat.le_refl _) _).drew)
      have hpw : p < wr.heap.size := by omega
      have htk : t + k ≤ 1000000 := by omega
      have hnp : p + 1 ≤ w.heap.size + 1 := by omega
      have hpb : p < w.heap.size + 2 := by omega
      have hgs : wr.heap.size < ((wr.alloc (.cells #[.int .i64 2, .int .i64 2, .int .i64 2, .int .i64 3, .int .i64 4, .int .i64 1] 2)).drew).heap.size := by simp
      have HGS := hide hgs
      have HO := hide hown
      have HS1 := hide hS1
      clear hown hS1 hgs
      go_wp2_with fail
      go_region_law (first
        | (refine step_append_lies _ rfl _ _ 24 rfl (w.heap.size + 2) 2 i0 (.int .i64 0) 1 8 Try.underlying24 hi hz0 hz1 hz2 rfl (by decide) v k (L.map (Value.int .i64)) rfl (HO1.out.alloc _) ⟨w1.heap.size, 0, none⟩ 1 1 [.int .i64 r] rfl rfl (one_new (by go_simp)) (by simp [Value.oneCell']) (by omega) (by unfold maxLen; omega) (by omega) (by simp; omega) (w1.heap.size + 1) (by simp) ?_; intro g cp w2 hown1 hgrow hat hlt1; have gv := grow_cell' HO1.out hgrow hz2' (q := ⟨w.heap.size + 1, 0, none⟩) (by simp); rw [hv1, hvf1] at gv; obtain ⟨gv1, gv2⟩ := gv)
        | (go_simp; go_at_call 85; refine (l1Pick_calls p a len cap (t + k) wr.heap.size 6 6 [2, 2, 2, 3, 4, 1] _ (by decide) (by decide) htk HS1.out hpw HGS.out rfl ?_).mono ?_; exact six_at; rintro e w1 ⟨r, rfl, s1, o1⟩; have o1' := Outside.trans (Outside.drew (Outside.alloc p (p + 1) wr (.cells #[.int .i64 2, .int .i64 2, .int .i64 2, .int .i64 3, .int .i64 4, .int .i64 1] 2))) o1; have hv1 := Outside.cell (q := ⟨w.heap.size + 1, 0, none⟩) o1' hsz1 hnp hv; have hvf1 := Outside.frozen (q := ⟨w.heap.size + 1, 0, none⟩) o1' hsz1 hnp hvf; have HO1 := hide (owns_outside HO.out o1' hpb); have hz2' : w.heap.size + 2 ≤ w1.heap.size := Nat.le_trans hsz o1'.size; have hz3 : w.heap.size + 1 < w1.heap.size := hz2'; have S1 := hide s1; have O1 := hide o1'; clear s1 o1 o1'))
      all_goals
        have R := app_stepO (hout.trans O1.out) (by omega : w.heap.size ≤ w.heap.size + 1) (by omega : w.heap.size + 1 < w.heap.size + 2) hz2' hp hv1 hvf1 HO1.out hgrow hown1 S1.out
        rw [ints_snoc] at R
        have hpn : p + 1 ≤ w.heap.size := hp
        have hnw : w.heap.size < wr.heap.size := by omega
        have r1 := (R.2.2.2.1 ⟨w.heap.size, 0, none⟩ (show w.heap.size < _ from by omega) (show w.heap.size ≠ _ from by omega)).1.trans (O1.out.cell (q := ⟨w.heap.size, 0, none⟩) hnw hpn hr)
        have r2 := (R.2.2.2.1 ⟨w.heap.size, 0, none⟩ (show w.heap.size < _ from by omega) (show w.heap.size ≠ _ from by omega)).2.trans (O1.out.frozen (q := ⟨w.heap.size, 0, none⟩) hnw hpn hrf)
        have HR := hide R
        have HR1 := hide r1
        have HR2 := hide r2
        clear R r1 r2 gv1 gv2 hown1 hgrow hat hlt1 hv1 hvf1 hv hvf hr hrf hpn hnw
        go_wp2
        go_roundw
        case rel => exact ⟨k + 1, _, L ++ [r], by omega, by go_num, HR.out.1, HR.out.2.1, HR.out.2.2.1, HR1.out, HR2.out, HR.out.2.2.2.2.1, HR.out.2.2.2.2.2.2, HR.out.2.2.2.2.2.1⟩
        case measure => simp [intOf]; omega
    · have hkn : k = 4 := by omega
      subst hkn
      obtain ⟨ra, rc, rfl, ho⟩ := owns_osl (by omega) hown
      have hcap := owns_cap hown rfl
      clear hown
      go_wp2
      refine bodyPost_ret (v := .agg #[.slice ra 4 rc]) (by simp [results, Try.results91, go_sem, hr]) rfl ⟨ra, rc, L, rfl, hcap, ?_, hsrc.setCell (by exact hp) _, hout.setNew (Nat.le_refl _) _⟩
      exact (ho.map (fun b h1 _ hb => hb.setCell (by simp; omega) _)).mono (by omega) (by simp)

end Go.Proofs.Ytjahlhibgnbkgaa
