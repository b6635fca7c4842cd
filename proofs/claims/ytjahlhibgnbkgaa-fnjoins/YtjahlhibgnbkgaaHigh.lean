import Derived.Test.YtjahlhibgnbkgaaLevels
import Derived.Test.YtjahlhibgnbkgaaApp
import Derived.WalkKit
import Derived.ProofKit
import Derived.OpenShut
import Derived.ShutString
import Derived.ChangeOld
import Derived.Below
import Derived.WalkSpells
import Derived.Deep.QuietTactic
import Derived.BigQuiet
import Derived.Deep.RegionWith
import Derived.Deep.WholeRow
import Derived.Deep.DeepCutAuto
import Derived.Deep.RegionHeld2
import Derived.Deep.AppendLies
import Derived.Deep.RegionLaw
namespace Go.Proofs.Ytjahlhibgnbkgaa
open Go.ChangeShapes Go.WideShapes Go.ChangeAt Go.RowKit

set_option maxRecDepth 100000 in
theorem l1High_calls (p : Nat) (a : Option Addr) (cap : Nat) (zs : List Int) (w : World) (hp : p < w.heap.size) (hpc : w.cell? ⟨p, 0, none⟩ = some (.slice a 4 cap)) (hs : Sl w a 4 zs) :
    Calls Try.prog 53 #[.pointer (some ⟨p, 0, none⟩)] w fun e w' => ∃ b c, e = .returned (.agg #[.slice (some ⟨b, 0, none⟩) 4 c]) ∧ w.heap.size ≤ b ∧ Blk w' b (highL zs) ∧ Below w.heap.size w w' := by
  obtain ⟨hlen, hs⟩ := hs
  obtain ⟨b, off, rfl, hb, hc⟩ := hs (by omega)
  obtain ⟨i0, hi, hz0, hz1, hz2⟩ := info_parts info2
  have hb0 := fun o1 o2 => ((Below.refl w.heap.size w).alloc (Nat.le_refl _) o1).alloc (by simp) o2
  have hown := World.ownsRow_lit (base := w.heap.size) (e := 2) (size := 1) (w.alloc (.cells #[.slice none 0 0] 26)) #[] 0 (by simp) (Nat.zero_le _) rfl
  have hnews := ints_at_sl (w := (w.alloc (.cells #[.slice none 0 0] 26)).alloc (.cells #[] 2)) (b := b) (off := off) (zs := zs) (fun i hi => ((hb0 _ _).cell (p := ⟨b, off + i, none⟩) hb).trans (hc i (by omega)))
  rw [World.size_alloc] at hown
  have HO := hide hown
  have HN := hide hnews
  clear hown hnews hs hc
  go_enter Try.func53, Try.ntmps53
  go_wp2_with (first
    | (at_builtin; refine wpList_append_own _ rfl _ _ 24 rfl w.heap.size 2 i0 (.int .i64 0) 1 8 Try.underlying24 hi hz0 hz1 hz2 rfl (by decide) _ 0 [] rfl HO.out ⟨b, off, none⟩ 4 cap (zs.map (Value.int .i64)) rfl (by simp [hlen]) HN.out ints_one (by decide) (by decide) (by simp; omega) ?_)
    | go_in)
  intro v' w1 hown' hgrow _
  have hown2 : w1.ownsRow w.heap.size 2 1 v' 4 (zs.map (Value.int .i64)) := hown'
  obtain ⟨g, cap', rfl, hg, hcap, _, blk⟩ := owns_blk (by omega) hown2
  have h1 : Below w.heap.size w w1 := (hb0 _ _).grown hgrow (by simp; omega) (fun k hk => by simp [Value.ownBlock] at hk; omega)
  have hgn : w1.heap.size ≠ g := by have := blk.1; omega
  have hr : w.heap.size ≠ g := by
    intro e
    have h0 := hgrow.block w.heap.size (by simp; omega) (by simp [Value.ownBlock])
    have h3 := blk.2.1 0 (by omega)
    rw [← e] at h3
    have h4 : ((w.alloc (.cells #[.slice none 0 0] 26)).alloc (.cells #[] 2)).cell? ⟨w.heap.size, 0, none⟩ = some (.int .i64 (gt zs 0)) := (World.cell?_of_block (a := ⟨w.heap.size, 0, none⟩) h0).symm.trans h3
    rw [show ((w.alloc (.cells #[.slice none 0 0] 26)).alloc (.cells #[] 2)).cell? ⟨w.heap.size, 0, none⟩ = some (.slice none 0 0) from by go_simp] at h4
    cases h4
  have rc : w1.cell? ⟨w.heap.size, 0, none⟩ = some (.slice none 0 0) := (World.cell?_of_block (a := ⟨w.heap.size, 0, none⟩) (hgrow.block w.heap.size (by simp; omega) (by simp [Value.ownBlock]))).trans (by go_simp)
  have rf : w1.frozen? ⟨w.heap.size, 0, none⟩ = false := (World.frozen?_of_block (a := ⟨w.heap.size, 0, none⟩) (hgrow.block w.heap.size (by simp; omega) (by simp [Value.ownBlock]))).trans (by go_simp)
  have hN1 : w.heap.size < w1.heap.size := by have := hgrow.size; simp at this; omega
  clear HO HN hown' hown2 hgrow hb0
  go_wp2
  go_loopw [4] (fun i wr => ∃ k : Nat, k ≤ 4 ∧ i = .int .i64 k ∧ Below w.heap.size w wr ∧ HRow wr g k zs ∧ wr.cell? ⟨w1.heap.size, 0, none⟩ = some (.slice (some ⟨g, 0, none⟩) 4 cap') ∧ wr.cell? ⟨w.heap.size, 0, none⟩ = some (.slice none 0 0) ∧ wr.frozen? ⟨w.heap.size, 0, none⟩ = false) (fun i _ => 4 - (intOf i).toNat)
  case atStart => exact ⟨0, Nat.zero_le _, rfl, h1.alloc h1.size _, HRow.start (blk.below ((Below.refl _ _).alloc (Nat.le_refl _) _)) hlen, by go_simp, by go_simp, by go_simp⟩
  case round =>
    obtain ⟨k, hk, rfl, hbel, hrow, hq, rc', rf'⟩ := hrel
    by_cases hlt : k < 4
    · have hck := hrow.2.1 k hlt
      rw [if_neg (by omega)] at hck
      have hfk := hrow.2.2 k
      by_cases he : gt zs k = 0
      · have hz : (gt zs k == 0) = true := by simp [he]
        have He := hide he
        have hq2 : (wr.setCell ⟨g, k, none⟩ (.int .i64 5)).cell? ⟨w1.heap.size, 0, none⟩ = some (.slice (some ⟨g, 0, none⟩) 4 cap') := by
          rw [World.cell?_setCell_other _ _ _ _ (fun h => hgn (by injection h with h2; exact h2.symm))]; exact hq
        have rc2 : (wr.setCell ⟨g, k, none⟩ (.int .i64 5)).cell? ⟨w.heap.size, 0, none⟩ = some (.slice none 0 0) := by
          rw [World.cell?_setCell_other _ _ _ _ (fun h => hr (by injection h with h2; exact h2.symm))]; exact rc'
        have Hq2 := hide hq2
        have Rc2 := hide rc2
        clear he hq2 rc2
        go_wp2
        go_roundw
        case rel => exact ⟨k + 1, by omega, by go_num, hbel.setCell hg _, hrow.set hlt He.out, Hq2.out, Rc2.out, by simpa using rf'⟩
        case measure => simp [intOf]; omega
      · have hz : (gt zs k == 0) = false := by simp [he]
        have He := hide he
        clear he
        go_wp2
        go_roundw
        case rel => exact ⟨k + 1, by omega, by go_num, hbel, hrow.keep He.out, hq, rc', rf'⟩
        case measure => simp [intOf]; omega
    · have hk4 : k = 4 := by omega
      subst hk4
      go_wp2
      refine bodyPost_ret (v := .agg #[.slice (some ⟨g, 0, none⟩) 4 cap']) (by simp [results, Try.results53, go_sem, rc']) rfl ⟨g, cap', rfl, hg, (hrow.done hlen).setCell (by simpa using hr) _, hbel.setCell (Nat.le_refl _) _⟩

theorem make4 (u : World) : (Instr.makeSlice 24 (.int .i64 4) (.int .i64 4)).run Try.prog u = .ok (.slice (some ⟨u.heap.size, 0, none⟩) 4 4) (u.alloc (.cells #[.int .i64 0, .int .i64 0, .int .i64 0, .int .i64 0] 2)) := by kernel_rfl

set_option maxRecDepth 100000 in
theorem labelOf_calls (x0 x1 x2 x3 : Int) (w : World) :
    Calls Try.prog 50 #[.agg #[.int .i64 x0, .int .i64 x1, .int .i64 x2, .int .i64 x3]] w fun e w' => ∃ b, e = .returned (.agg #[.slice (some ⟨b, 0, none⟩) 4 4]) ∧ w.heap.size ≤ b ∧ Blk w' b [x0, x1, x2, x3] ∧ Below w.heap.size w w' := by
  have hmk := make4
  have hcp : Sem.run Try.prog (Builtin.copy_ #[24, 24] 3 #[.slice (some ⟨w.heap.size + 1 + 1, 0, none⟩) 4 4, .slice (some ⟨w.heap.size, 0, none⟩) 4 4])
      (((w.alloc (.cells #[.int .i64 x0, .int .i64 x1, .int .i64 x2, .int .i64 x3] 60)).alloc (.cells #[.slice none 0 0] 26)).alloc (.cells #[.int .i64 0, .int .i64 0, .int .i64 0, .int .i64 0] 2)) =
      .ok (.int .i64 4) (((w.alloc (.cells #[.int .i64 x0, .int .i64 x1, .int .i64 x2, .int .i64 x3] 60)).alloc (.cells #[.slice none 0 0] 26)).alloc (.cells #[.int .i64 x0, .int .i64 x1, .int .i64 x2, .int .i64 x3] 2)) := by
    have h := copy4 (P := Try.prog) ((w.alloc (.cells #[.int .i64 x0, .int .i64 x1, .int .i64 x2, .int .i64 x3] 60)).alloc (.cells #[.slice none 0 0] 26)) 24 24 3 2 2 w.heap.size 0 4 [x0, x1, x2, x3] (.int .i64 0) (.int .i64 0) (.int .i64 0) (.int .i64 0) Try.underlying24 infoSize (by simp; omega) (fun j hj => by
      rw [World.cell?_alloc_past _ _ _ (by simp), World.cell?_alloc_at _ _ _ _ rfl]
      rcases (by omega : j = 0 ∨ j = 1 ∨ j = 2 ∨ j = 3) with rfl | rfl | rfl | rfl <;> rfl)
    rw [show ((w.alloc (.cells #[.int .i64 x0, .int .i64 x1, .int .i64 x2, .int .i64 x3] 60)).alloc (.cells #[.slice none 0 0] 26)).heap.size = w.heap.size + 1 + 1 from by simp] at h
    exact h
  go_enter Try.func50, Try.ntmps50
  go_wp2
  refine bodyPost_ret (v := .agg #[.slice (some ⟨w.heap.size + 1 + 1, 0, none⟩) 4 4]) (by simp [results, Try.results50, go_sem]) rfl ⟨_, rfl, by omega, ?_, (((Below.refl _ _).alloc (Nat.le_refl _) _).alloc (by simp) _).alloc (by simp; omega) _⟩
  refine ⟨by simp, fun i hi => ?_, fun i => by go_simp⟩
  rw [World.cell?_alloc_at _ _ _ _ (by simp)]
  simp at hi
  rcases (by omega : i = 0 ∨ i = 1 ∨ i = 2 ∨ i = 3) with rfl | rfl | rfl | rfl <;> rfl

end Go.Proofs.Ytjahlhibgnbkgaa
