import Derived.Test.YtknnahchhbobbaaDoorParS2
import Derived.Test.YtknnahchhbobbaaDoorLevels
import Derived.WalkKit
import Derived.ProofKit
import Derived.OpenShut
import Derived.ShutString
import Derived.ChangeOld
import Derived.Below
import Derived.WalkSpells
import Derived.Deep.QuietTactic
import Derived.BigQuiet
import Derived.Deep.RegionWith
import Derived.Deep.WholeRow
import Derived.Deep.DeepCutAuto
import Derived.Deep.RegionHeld2
import Derived.Deep.AppendLies
import Derived.Deep.RegionLaw
namespace Go.Proofs.YtknnahchhbobbaaDoor
open Go.ChangeShapes Go.WideShapes Go.ChangeAt Go.RowKit

theorem fault_plL_len {s : ByteArray} (h : s.size ≠ 4) : plC s = 5 := if_neg (by unfold fault; rw [if_neg (by rw [length_plL]; exact h)]; decide)

theorem lvl_range (c : Int) : lvl c = -1 ∨ (0 ≤ lvl c ∧ lvl c ≤ 5) := by
  unfold lvl
  split
  · exact .inr (by omega)
  split
  · exact .inr (by omega)
  split
  · exact .inr (by omega)
  split
  · exact .inr (by omega)
  split
  · exact .inr (by omega)
  split
  · exact .inr (by omega)
  · exact .inl rfl

theorem plC_bad {s : ByteArray} {k : Nat} (h4 : s.size = 4) (hk : k < s.size) (hb : lsB (s[k].toNat : Int) = false) : plC s = 5 := by
  refine if_neg ?_
  rw [fault_bad (plL s) k (by rw [length_plL]; exact hk) (by rw [length_plL]; exact h4) (by rw [gt_plL hk]; unfold lsB at hb; unfold okI; simp at hb ⊢; omega)]
  decide

theorem plC_ok {s : ByteArray} (h4 : s.size = 4) (hb : ∀ k, (hk : k < s.size) → lsB (s[k].toNat : Int) = true) : plC s = 0 := by
  refine if_pos (fault_ok _ (by rw [length_plL]; exact h4) ?_)
  rw [List.all_eq_true]
  intro z hz
  obtain ⟨j, hj, rfl⟩ := List.getElem_of_mem hz
  have hj' : j < s.size := by rw [length_plL] at hj; exact hj
  have e : (plL s)[j] = gt (plL s) j := by simp [gt, hj]
  rw [e, gt_plL hj']
  have h1 := hb j hj'
  unfold lsB at h1
  have h2 := lvl_range (s[j].toNat : Int)
  unfold okI
  simp at h1 ⊢
  omega

theorem lsV_of {c : Int} (h : lsB c = true) : lsV c = lvl c := by
  unfold lsB at h
  unfold lsV
  simp at h
  rw [if_neg (by omega)]

theorem four_plL {s : ByteArray} (h4 : s.size = 4) : plL s = [gt (plL s) 0, gt (plL s) 1, gt (plL s) 2, gt (plL s) 3] := list4 (by rw [length_plL]; exact h4)

/-- the array of levels while a text is read. -/
def rdC (s : ByteArray) (k i : Nat) : Int := if i < k then gt (plL s) i else 0

set_option maxRecDepth 100000 in
set_option maxHeartbeats 4000000 in
theorem implParseLabel_calls (s : ByteArray) (w : World) (_ : s.size ≤ 1048576) (hsg : Sg w) :
    Calls Tryd.prog 8 #[.string s] w fun e w' => ∃ ra rn rc, e = .returned (.agg #[.int .i64 (plC s), .slice ra rn rc]) ∧ OS (InR w.heap.size w'.heap.size) ra rn (plR s) w' ∧ Below w.heap.size w w' := by
  have M0 := (Mm.start w).alloc2 (.int .i64 0) (.slice none 0 0) 29
  by_cases h4 : s.size = 4
  rotate_left
  · have hne : ((s.size : Int) != 4) = true := by simp; omega
    have HC := hide (fault_plL_len h4)
    have HR : Hid (plR s = []) := resOf_no (by rw [HC.out]; decide)
    have HB := hide fun o => (Below.refl w.heap.size w).alloc (Nat.le_refl _) o
    clear M0
    go_enter Tryd.func8, Tryd.ntmps8
    go_wp2
    refine bodyPost_ret (v := .agg #[.int .i64 5, .slice none 0 0]) (by simp [results, Tryd.results8, go_sem]) rfl ⟨_, _, _, by rw [HC.out], ?_, HB.out _⟩
    rw [HR.out]
    exact ⟨rfl, by omega, .inl rfl⟩
  have hne : ((s.size : Int) != 4) = false := by simp; omega
  have H4 := hide h4
  have hs0 : (0 : Nat) < s.size := by omega
  have M1 := M0.alloc4 (.int .i64 (rdC s 0 0)) (.int .i64 (rdC s 0 1)) (.int .i64 (rdC s 0 2)) (.int .i64 (rdC s 0 3)) 54
  simp only [World.size_alloc] at M1
  clear M0
  go_enter Tryd.func8, Tryd.ntmps8
  go_wp2
  go_loopw [11] (fun i wr => ∃ k : Nat, k ≤ 4 ∧ i = .int .i64 k ∧ (∀ j, (hj : j < s.size) → j < k → lsB (s[j].toNat : Int) = true) ∧ Mm w wr [(w.heap.size + 1, 0, .int .i64 (rdC s k 0)), (w.heap.size + 1, 1, .int .i64 (rdC s k 1)), (w.heap.size + 1, 2, .int .i64 (rdC s k 2)), (w.heap.size + 1, 3, .int .i64 (rdC s k 3)), (w.heap.size, 0, .int .i64 0), (w.heap.size, 1, .slice none 0 0)] []) (fun i _ => 4 - (intOf i).toNat)
  case atStart => exact ⟨0, Nat.zero_le _, rfl, fun j _ hj => by omega, M1⟩
  case round =>
    clear M1
    obtain ⟨k, hk, rfl, hall, M⟩ := hrel
    have HA := hide hall
    have hsr := hsg.below M.bel
    clear hall
    rcases (by omega : k = 0 ∨ k = 1 ∨ k = 2 ∨ k = 3 ∨ k = 4) with rfl | rfl | rfl | rfl | rfl
    · have hks : 0 < s.size := by omega
      have hki : (0 : Int) < (s.size : Int) := by omega
      cases hb : lsB (s[0].toNat : Int) with
      | false =>
        have HC := hide (plC_bad H4.out hks hb)
        have HR : Hid (plR s = []) := resOf_no (by rw [HC.out]; decide)
        have Hb := hide hb
        have c0 := M.cell 4 rfl
        have c1 := M.cell 5 rfl
        have f0 := M.fz 4 rfl
        have f1 := M.fz 5 rfl
        have HB := hide M.bel
        clear M hb
        go_wp2_with (go_at_call 27; refine (levelOfSign_calls _ _ hsr).mono ?_; rintro e w' ⟨rfl, rfl⟩; rw [Hb.out])
        refine bodyPost_ret (v := .agg #[.int .i64 5, .slice none 0 0]) (by simp [results, Tryd.results8, go_sem, c0, c1]) rfl ⟨_, _, _, by rw [HC.out], ?_, (HB.out.setCell (by simp) _).setCell (by simp) _⟩
        rw [HR.out]
        exact ⟨rfl, by omega, .inl rfl⟩
      | true =>
        have hv := lsV_of hb
        have Hb := hide hb
        have x0 := M.cell 0 rfl
        have x1 := M.cell 1 rfl
        have x2 := M.cell 2 rfl
        have x3 := M.cell 3 rfl
        have y0 := M.fz 0 rfl
        have y1 := M.fz 1 rfl
        have y2 := M.fz 2 rfl
        have y3 := M.fz 3 rfl
        have hg := gt_plL hks
        have MS := M.set 0 rfl (.int .i64 (lvl (s[0].toNat : Int))) (by omega) (by simp) (by simp)
        have HM : Hid (Mm w (wr.setCell ⟨w.heap.size + 1, 0, none⟩ (.int .i64 (lvl (s[0].toNat : Int)))) [(w.heap.size + 1, 0, .int .i64 (rdC s 1 0)), (w.heap.size + 1, 1, .int .i64 (rdC s 1 1)), (w.heap.size + 1, 2, .int .i64 (rdC s 1 2)), (w.heap.size + 1, 3, .int .i64 (rdC s 1 3)), (w.heap.size, 0, .int .i64 0), (w.heap.size, 1, .slice none 0 0)] []) := by
          show Mm _ _ _ _
          simpa [rdC, hg] using MS
        have HV := hide hv
        clear M MS hb hv hg
        go_wp2_with (go_at_call 27; refine (levelOfSign_calls _ _ hsr).mono ?_; rintro e w' ⟨rfl, rfl⟩; rw [Hb.out, HV.out])
        go_roundw
        case rel => exact ⟨1, by omega, by go_num, fun j hj hlt => by rcases (by omega : j < 0 ∨ j = 0) with h | rfl; exact HA.out j hj h; exact Hb.out, HM.out⟩
        case measure => simp [intOf]
    · have hks : 1 < s.size := by omega
      have hki : (1 : Int) < (s.size : Int) := by omega
      cases hb : lsB (s[1].toNat : Int) with
      | false =>
        have HC := hide (plC_bad H4.out hks hb)
        have HR : Hid (plR s = []) := resOf_no (by rw [HC.out]; decide)
        have Hb := hide hb
        have c0 := M.cell 4 rfl
        have c1 := M.cell 5 rfl
        have f0 := M.fz 4 rfl
        have f1 := M.fz 5 rfl
        have HB := hide M.bel
        clear M hb
        go_wp2_with (go_at_call 27; refine (levelOfSign_calls _ _ hsr).mono ?_; rintro e w' ⟨rfl, rfl⟩; rw [Hb.out])
        refine bodyPost_ret (v := .agg #[.int .i64 5, .slice none 0 0]) (by simp [results, Tryd.results8, go_sem, c0, c1]) rfl ⟨_, _, _, by rw [HC.out], ?_, (HB.out.setCell (by simp) _).setCell (by simp) _⟩
        rw [HR.out]
        exact ⟨rfl, by omega, .inl rfl⟩
      | true =>
        have hv := lsV_of hb
        have Hb := hide hb
        have x0 := M.cell 0 rfl
        have x1 := M.cell 1 rfl
        have x2 := M.cell 2 rfl
        have x3 := M.cell 3 rfl
        have y0 := M.fz 0 rfl
        have y1 := M.fz 1 rfl
        have y2 := M.fz 2 rfl
        have y3 := M.fz 3 rfl
        have hg := gt_plL hks
        have MS := M.set 1 rfl (.int .i64 (lvl (s[1].toNat : Int))) (by omega) (by simp) (by simp)
        have HM : Hid (Mm w (wr.setCell ⟨w.heap.size + 1, 1, none⟩ (.int .i64 (lvl (s[1].toNat : Int)))) [(w.heap.size + 1, 0, .int .i64 (rdC s 2 0)), (w.heap.size + 1, 1, .int .i64 (rdC s 2 1)), (w.heap.size + 1, 2, .int .i64 (rdC s 2 2)), (w.heap.size + 1, 3, .int .i64 (rdC s 2 3)), (w.heap.size, 0, .int .i64 0), (w.heap.size, 1, .slice none 0 0)] []) := by
          show Mm _ _ _ _
          simpa [rdC, hg] using MS
        have HV := hide hv
        clear M MS hb hv hg
        go_wp2_with (go_at_call 27; refine (levelOfSign_calls _ _ hsr).mono ?_; rintro e w' ⟨rfl, rfl⟩; rw [Hb.out, HV.out])
        go_roundw
        case rel => exact ⟨2, by omega, by go_num, fun j hj hlt => by rcases (by omega : j < 1 ∨ j = 1) with h | rfl; exact HA.out j hj h; exact Hb.out, HM.out⟩
        case measure => simp [intOf]
    · have hks : 2 < s.size := by omega
      have hki : (2 : Int) < (s.size : Int) := by omega
      cases hb : lsB (s[2].toNat : Int) with
      | false =>
        have HC := hide (plC_bad H4.out hks hb)
        have HR : Hid (plR s = []) := resOf_no (by rw [HC.out]; decide)
        have Hb := hide hb
        have c0 := M.cell 4 rfl
        have c1 := M.cell 5 rfl
        have f0 := M.fz 4 rfl
        have f1 := M.fz 5 rfl
        have HB := hide M.bel
        clear M hb
        go_wp2_with (go_at_call 27; refine (levelOfSign_calls _ _ hsr).mono ?_; rintro e w' ⟨rfl, rfl⟩; rw [Hb.out])
        refine bodyPost_ret (v := .agg #[.int .i64 5, .slice none 0 0]) (by simp [results, Tryd.results8, go_sem, c0, c1]) rfl ⟨_, _, _, by rw [HC.out], ?_, (HB.out.setCell (by simp) _).setCell (by simp) _⟩
        rw [HR.out]
        exact ⟨rfl, by omega, .inl rfl⟩
      | true =>
        have hv := lsV_of hb
        have Hb := hide hb
        have x0 := M.cell 0 rfl
        have x1 := M.cell 1 rfl
        have x2 := M.cell 2 rfl
        have x3 := M.cell 3 rfl
        have y0 := M.fz 0 rfl
        have y1 := M.fz 1 rfl
        have y2 := M.fz 2 rfl
        have y3 := M.fz 3 rfl
        have hg := gt_plL hks
        have MS := M.set 2 rfl (.int .i64 (lvl (s[2].toNat : Int))) (by omega) (by simp) (by simp)
        have HM : Hid (Mm w (wr.setCell ⟨w.heap.size + 1, 2, none⟩ (.int .i64 (lvl (s[2].toNat : Int)))) [(w.heap.size + 1, 0, .int .i64 (rdC s 3 0)), (w.heap.size + 1, 1, .int .i64 (rdC s 3 1)), (w.heap.size + 1, 2, .int .i64 (rdC s 3 2)), (w.heap.size + 1, 3, .int .i64 (rdC s 3 3)), (w.heap.size, 0, .int .i64 0), (w.heap.size, 1, .slice none 0 0)] []) := by
          show Mm _ _ _ _
          simpa [rdC, hg] using MS
        have HV := hide hv
        clear M MS hb hv hg
        go_wp2_with (go_at_call 27; refine (levelOfSign_calls _ _ hsr).mono ?_; rintro e w' ⟨rfl, rfl⟩; rw [Hb.out, HV.out])
        go_roundw
        case rel => exact ⟨3, by omega, by go_num, fun j hj hlt => by rcases (by omega : j < 2 ∨ j = 2) with h | rfl; exact HA.out j hj h; exact Hb.out, HM.out⟩
        case measure => simp [intOf]
    · have hks : 3 < s.size := by omega
      have hki : (3 : Int) < (s.size : Int) := by omega
      cases hb : lsB (s[3].toNat : Int) with
      | false =>
        have HC := hide (plC_bad H4.out hks hb)
        have HR : Hid (plR s = []) := resOf_no (by rw [HC.out]; decide)
        have Hb := hide hb
        have c0 := M.cell 4 rfl
        have c1 := M.cell 5 rfl
        have f0 := M.fz 4 rfl
        have f1 := M.fz 5 rfl
        have HB := hide M.bel
        clear M hb
        go_wp2_with (go_at_call 27; refine (levelOfSign_calls _ _ hsr).mono ?_; rintro e w' ⟨rfl, rfl⟩; rw [Hb.out])
        refine bodyPost_ret (v := .agg #[.int .i64 5, .slice none 0 0]) (by simp [results, Tryd.results8, go_sem, c0, c1]) rfl ⟨_, _, _, by rw [HC.out], ?_, (HB.out.setCell (by simp) _).setCell (by simp) _⟩
        rw [HR.out]
        exact ⟨rfl, by omega, .inl rfl⟩
      | true =>
        have hv := lsV_of hb
        have Hb := hide hb
        have x0 := M.cell 0 rfl
        have x1 := M.cell 1 rfl
        have x2 := M.cell 2 rfl
        have x3 := M.cell 3 rfl
        have y0 := M.fz 0 rfl
        have y1 := M.fz 1 rfl
        have y2 := M.fz 2 rfl
        have y3 := M.fz 3 rfl
        have hg := gt_plL hks
        have MS := M.set 3 rfl (.int .i64 (lvl (s[3].toNat : Int))) (by omega) (by simp) (by simp)
        have HM : Hid (Mm w (wr.setCell ⟨w.heap.size + 1, 3, none⟩ (.int .i64 (lvl (s[3].toNat : Int)))) [(w.heap.size + 1, 0, .int .i64 (rdC s 4 0)), (w.heap.size + 1, 1, .int .i64 (rdC s 4 1)), (w.heap.size + 1, 2, .int .i64 (rdC s 4 2)), (w.heap.size + 1, 3, .int .i64 (rdC s 4 3)), (w.heap.size, 0, .int .i64 0), (w.heap.size, 1, .slice none 0 0)] []) := by
          show Mm _ _ _ _
          simpa [rdC, hg] using MS
        have HV := hide hv
        clear M MS hb hv hg
        go_wp2_with (go_at_call 27; refine (levelOfSign_calls _ _ hsr).mono ?_; rintro e w' ⟨rfl, rfl⟩; rw [Hb.out, HV.out])
        go_roundw
        case rel => exact ⟨4, by omega, by go_num, fun j hj hlt => by rcases (by omega : j < 3 ∨ j = 3) with h | rfl; exact HA.out j hj h; exact Hb.out, HM.out⟩
        case measure => simp [intOf]
    · have HC := hide (plC_ok H4.out (fun j hj => HA.out j hj (by have := H4.out; omega)))
      have HR : Hid (plR s = plL s) := resOf_ok HC.out
      have HL := hide (four_plL H4.out)
      have x0 := M.cell 0 rfl
      have x1 := M.cell 1 rfl
      have x2 := M.cell 2 rfl
      have x3 := M.cell 3 rfl
      have zw := M.lt 0 rfl
      go_wp2_with fail
      refine (labelOf_calls (rdC s 4 0) (rdC s 4 1) (rdC s 4 2) (rdC s 4 3) _).mono ?_
      rintro e w2 ⟨b, rfl, hb, blk, g2⟩
      have M2 := M.below g2
      have c0 := M2.cell 4 rfl
      have c1 := M2.cell 5 rfl
      have f0 := M2.fz 4 rfl
      have f1 := M2.fz 5 rfl
      have HB := hide M2.bel
      have HK := hide blk
      clear M M2 g2 blk
      go_wp2
      refine bodyPost_ret (v := .agg #[.int .i64 0, .slice (some ⟨b, 0, none⟩) 4 4]) (by simp [results, Tryd.results8, go_sem, c0, c1]) rfl ⟨_, _, _, by rw [HC.out], ?_, (HB.out.setCell (by simp) _).setCell (by simp) _⟩
      rw [HR.out, HL.out]
      refine OS.ofBlk ((HK.out.setCell (by simp; omega) _).setCell (by simp; omega) _) ⟨by omega, ?_⟩ rfl (by omega)
      simpa using HK.out.1

end Go.Proofs.YtknnahchhbobbaaDoor
