import Derived.Test.YtknnahchhbobbaaDoorParL
import Derived.Test.YtknnahchhbobbaaDoorApp
import Derived.Deep.AppendLies
import Derived.WalkKit
import Derived.ProofKit
import Derived.OpenShut
import Derived.ShutString
import Derived.ChangeOld
import Derived.Below
import Derived.WalkSpells
import Derived.Deep.QuietTactic
import Derived.BigQuiet
import Derived.Deep.RegionWith
import Derived.Deep.WholeRow
import Derived.Deep.DeepCutAuto
import Derived.Deep.RegionHeld2
import Derived.Deep.AppendLies
import Derived.Deep.RegionLaw
namespace Go.Proofs.YtknnahchhbobbaaDoor
open Go.ChangeShapes Go.WideShapes Go.ChangeAt Go.RowKit

set_option maxRecDepth 100000 in
set_option maxHeartbeats 4000000 in
theorem l1Parse_calls (s : ByteArray) (w : World) (hs : s.size ≤ 1048576) :
    Calls Tryd.prog 29 #[.string s] w fun e w' => ∃ ra rc, e = .returned (.tuple #[.agg #[.slice ra s.size rc], .bool (fault (plL s) == 0)]) ∧ OSl w' (w.heap.size + 1) w'.heap.size ra s.size (plL s) ∧ Below w.heap.size w w' := by
  obtain ⟨i0, hi, hz0, hz1, hz2⟩ := info_parts info2
  go_enter Tryd.func29, Tryd.ntmps29
  go_wp2
  go_loopw [5] (fun i wr => ∃ (k : Nat) (v : Value), k ≤ s.size ∧ i = .int .i64 k ∧ wr.cell? ⟨w.heap.size + 1, 0, none⟩ = some v ∧ wr.frozen? ⟨w.heap.size + 1, 0, none⟩ = false ∧ wr.ownsRow (w.heap.size + 2) 2 1 v k (plK s k) ∧
      wr.cell? ⟨w.heap.size, 0, none⟩ = some (.slice none 0 0) ∧ wr.frozen? ⟨w.heap.size, 0, none⟩ = false ∧ Below w.heap.size w wr ∧ w.heap.size + 2 ≤ wr.heap.size) (fun i _ => s.size - (intOf i).toNat)
  case atStart => exact ⟨0, .slice none 0 0, Nat.zero_le _, rfl, by go_simp, by go_simp, World.ownsRow_nil _ _ _ _, by go_simp, by go_simp, ((Below.refl _ _).alloc (Nat.le_refl _) _).alloc (by simp) _, by simp⟩
  case round =>
    obtain ⟨k, v, hk, rfl, hv, hvf, hown, hr, hrf, hbel, hsz⟩ := hrel
    by_cases hlt : k < s.size
    · have hki : (k : Int) < (s.size : Int) := by omega
      have hsz1 : w.heap.size + 1 < wr.heap.size := by omega
      have HO := hide hown
      have HT := hide (take_plK hlt)
      clear hown
      go_wp2_with fail
      go_region_law (first
        | (refine step_append_lies _ rfl _ _ 25 rfl (w.heap.size + 2) 2 i0 (.int .i64 0) 1 8 Tryd.underlying25 hi hz0 hz1 hz2 rfl (by decide) v k (plK s k) rfl (HO.out.alloc _) ⟨wr.heap.size, 0, none⟩ 1 1 [.int .i64 (lvl (s[k].toNat : Int))] rfl rfl (one_new (by go_simp)) (by simp [Value.oneCell']) (by omega) (by unfold maxLen; omega) (by omega) (by simp; omega) (wr.heap.size + 1) (by simp) ?_; intro g cp w1 hown1 hgrow hat hlt1; have gv := grow_cell HO.out hgrow hsz (p := ⟨w.heap.size + 1, 0, none⟩) (by simp); rw [hv, hvf] at gv; obtain ⟨gv1, gv2⟩ := gv)
        | (go_simp; go_at_call 40; refine (l1Level_calls _ _).mono ?_; rintro e w2 ⟨rfl, rfl⟩))
      all_goals
        have R := app_step hbel hsz (by omega : w.heap.size + 1 < w.heap.size + 2) (by omega) hv hvf HO.out hgrow hown1
        have RN := R.2.2.2.1 ⟨w.heap.size, 0, none⟩ (by simp) (by simp)
        rw [hr, hrf] at RN
        rw [← HT.out] at R
        have HR := hide R
        have HRN := hide RN
        clear R RN gv1 gv2 hown1 hgrow hat hlt1
        go_wp2
        go_roundw
        case rel => exact ⟨k + 1, _, by omega, by go_num, HR.out.1, HR.out.2.1, HR.out.2.2.1, HRN.out.1, HRN.out.2, HR.out.2.2.2.2.1, HR.out.2.2.2.2.2⟩
        case measure => simp [intOf]; omega
    · have hkn : k = s.size := by omega
      subst hkn
      have ht : plK s s.size = (plL s).map (Value.int .i64) := by unfold plK; rw [List.take_of_length_le (by rw [length_plL]; exact Nat.le_refl _)]
      rw [ht] at hown
      obtain ⟨ra, rc, rfl, ho⟩ := owns_osl hs hown
      have hsl := ho.sl
      have HS := hide hsl
      have HO := hide ho
      have HB := hide hbel
      have hP : w.heap.size + 1 < wr.heap.size := by omega
      have hml : s.size ≤ maxLen := by unfold maxLen; omega
      clear hown ht hsl ho hbel
      go_wp2_with fail
      go_region_with (first
        | (go_at_call 32; refine (l1FaultO_calls (w.heap.size + 1) 0 ra s.size rc (plL s) _ hml ?_ ?_ ?_).mono ?_; exact hP; exact hv; exact HS.out.below (Below.refl wr.heap.size wr).drew (Nat.le_refl _); rintro e w2 ⟨rfl, g2⟩; have g3 : Below wr.heap.size wr w2 := ((Below.refl wr.heap.size wr).drew).trans g2; have hz23 := g3.size; have hv2 := (g3.cell (p := ⟨w.heap.size + 1, 0, none⟩) hP).trans hv; have hr2 := (g3.cell (p := ⟨w.heap.size, 0, none⟩) (Nat.lt_of_succ_lt hP)).trans hr; have hrf2 := (g3.frozen (p := ⟨w.heap.size, 0, none⟩) (Nat.lt_of_succ_lt hP)).trans hrf; have HO2 := hide (HO.out.below g3); have HB2 := hide (HB.out.trans (g3.mono HB.out.size)); clear g2 g3))
      all_goals go_wp2
      all_goals refine bodyPost_ret (v := .tuple #[.agg #[.slice ra s.size rc], .bool (fault (plL s) == 0)]) (by simp [results, Tryd.results29, go_sem, hr2]) rfl ⟨ra, rc, rfl, ?_, HB2.out.setCell (by simp) _⟩
      all_goals exact (HO2.out.map (fun b h1 _ hb => hb.setCell (by simp; omega) _)).mono (by omega) (by simp; omega)

/-- what ParseLabel gives beside its code. -/
def plR (s : ByteArray) : List Int := resOf (plC s) (plL s)

end Go.Proofs.YtknnahchhbobbaaDoor
