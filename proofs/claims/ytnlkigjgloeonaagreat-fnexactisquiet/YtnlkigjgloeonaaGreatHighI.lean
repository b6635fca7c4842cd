import Derived.Test.YtnlkigjgloeonaaGreatLevels
import Derived.WalkKit
import Derived.ProofKit
import Derived.OpenShut
import Derived.ShutString
import Derived.ChangeOld
import Derived.Below
import Derived.WalkSpells
import Derived.Deep.QuietTactic
import Derived.BigQuiet
import Derived.Deep.RegionWith
import Derived.Deep.WholeRow
import Derived.Deep.DeepCutAuto
import Derived.Deep.RegionHeld2
import Derived.Deep.AppendLies
import Derived.Deep.RegionLaw
namespace Go.Proofs.YtnlkigjgloeonaaGreat
open Go.ChangeShapes Go.WideShapes Go.ChangeAt Go.RowKit

set_option maxRecDepth 100000 in
theorem implHighLabel_calls (a : Option Addr) (len cap : Nat) (zs : List Int) (w : World) (hl : len ≤ maxLen) (hs : Sl w a len zs) :
    Calls Tryz.prog 165 #[.agg #[.slice a len cap]] w fun e w' => ∃ ra rn rc, e = .returned (.agg #[.int .i64 (fault zs), .slice ra rn rc]) ∧ OSl w' w.heap.size w'.heap.size ra rn (resOf (fault zs) (highL zs)) ∧ Below w.heap.size w w' := by
  have hb0 := fun o1 o2 => ((Below.refl w.heap.size w).alloc (Nat.le_refl _) o1).alloc (by simp) o2
  by_cases hf : fault zs = 0
  · have hq : (fault zs == 0) = true := by simp [hf]
    have h4 : len = 4 := by rw [← hs.1]; exact fault_len hf
    subst h4
    rw [resOf_ok hf, highL4 hs.1]
    have Hf := hide hf
    clear hf
    have i0 := idx0
    have i1 := idx1
    have i2 := idx2
    have i3 := idx3
    go_enter Tryz.func165, Tryz.ntmps165
    go_wp2_with fail
    refine (implLabelFault_calls a 4 cap zs _ hl (hs.below (hb0 _ _) (Nat.le_refl _))).mono ?_
    rintro e w1 ⟨rfl, hb⟩
    have h1 : Below w.heap.size w w1 := (hb0 _ _).trans (hb.mono (by simp; omega))
    have c1 : w1.cell? ⟨w.heap.size, 0, none⟩ = some (.slice a 4 cap) := (hb.cell (p := ⟨w.heap.size, 0, none⟩) (by simp; omega)).trans (by go_simp)
    have r0 : w1.cell? ⟨w.heap.size + 1, 0, none⟩ = some (.int .i64 0) := (hb.cell (p := ⟨w.heap.size + 1, 0, none⟩) (by simp)).trans (by go_simp)
    have r1 : w1.cell? ⟨w.heap.size + 1, 1, none⟩ = some (.slice none 0 0) := (hb.cell (p := ⟨w.heap.size + 1, 1, none⟩) (by simp)).trans (by go_simp)
    have f0 : w1.frozen? ⟨w.heap.size + 1, 0, none⟩ = false := (hb.frozen (p := ⟨w.heap.size + 1, 0, none⟩) (by simp)).trans (by go_simp)
    have f1 : w1.frozen? ⟨w.heap.size + 1, 1, none⟩ = false := (hb.frozen (p := ⟨w.heap.size + 1, 1, none⟩) (by simp)).trans (by go_simp)
    have hN : w.heap.size + 1 < w1.heap.size := by have := hb.size; simp at this; omega
    clear hb hb0
    go_wp2_with fail
    refine (levelsOf_calls a cap zs _ (hs.below h1 (Nat.le_refl _))).mono ?_
    rintro e w2 ⟨rfl, hb2⟩
    have c2 := (hb2.cell (p := ⟨w.heap.size, 0, none⟩) (by show w.heap.size < _; omega)).trans c1
    have h12 := hb2
    have h2 : Below w.heap.size w w2 := h1.trans (hb2.mono h1.size)
    have hN2 : w.heap.size < w2.heap.size := by have := hb2.size; omega
    clear hb2 c1
    unfold ints4
    go_wp2_with fail
    refine (levelsOf_calls a cap zs _ (hs.below (h2.alloc h2.size _) (Nat.le_refl _))).mono ?_
    rintro e w3 ⟨rfl, hb3⟩
    have u0 : w3.cell? ⟨w2.heap.size, 0, none⟩ = some (.int .i64 (gt zs 0)) := (hb3.cell (p := ⟨w2.heap.size, 0, none⟩) (by simp)).trans (by go_simp)
    have u1 : w3.cell? ⟨w2.heap.size, 1, none⟩ = some (.int .i64 (gt zs 1)) := (hb3.cell (p := ⟨w2.heap.size, 1, none⟩) (by simp)).trans (by go_simp)
    have u2 : w3.cell? ⟨w2.heap.size, 2, none⟩ = some (.int .i64 (gt zs 2)) := (hb3.cell (p := ⟨w2.heap.size, 2, none⟩) (by simp)).trans (by go_simp)
    have u3 : w3.cell? ⟨w2.heap.size, 3, none⟩ = some (.int .i64 (gt zs 3)) := (hb3.cell (p := ⟨w2.heap.size, 3, none⟩) (by simp)).trans (by go_simp)
    have uf : ∀ j, w3.frozen? ⟨w2.heap.size, j, none⟩ = false := fun j => (hb3.frozen (p := ⟨w2.heap.size, j, none⟩) (by simp)).trans (by go_simp)
    have h13 : Below w1.heap.size w1 w3 := (h12.alloc h12.size _).trans (hb3.mono (by have := h12.size; simp; omega))
    have h3 : Below w.heap.size w w3 := h1.trans (h13.mono h1.size)
    have hN3 : w2.heap.size < w3.heap.size := by have := hb3.size; simp at this; omega
    have hu : w1.heap.size ≤ w2.heap.size := h12.size
    clear hb3 h12 h2 c2
    unfold ints4
    go_wp2
    go_loopw [17] (fun i wr => ∃ k : Nat, k ≤ 4 ∧ i = .int .i64 k ∧ Below w1.heap.size w1 wr ∧ wr.heap.size = w3.heap.size ∧ ARow wr w2.heap.size (upTo (hg zs) (gt zs) k)) (fun i _ => 4 - (intOf i).toNat)
    case atStart =>
      refine ⟨0, Nat.zero_le _, rfl, h13, rfl, fun j hj => ?_, uf⟩
      rcases (by omega : j = 0 ∨ j = 1 ∨ j = 2 ∨ j = 3) with rfl | rfl | rfl | rfl <;> assumption
    case round =>
      obtain ⟨k, hk4, rfl, hbel, hsz, hrow⟩ := hrel
      rcases (by omega : k = 0 ∨ k = 1 ∨ k = 2 ∨ k = 3 ∨ k = 4) with rfl | rfl | rfl | rfl | rfl
      · have hv := hrow.1 0 (by omega)
        have hfk := hrow.2 0
        by_cases he : gt zs 0 = 0
        · have hz : (gt zs 0 == 0) = true := by simp [he]
          have He := hide he
          clear he
          go_wp2
          go_roundw
          case rel => exact ⟨1, by omega, by go_num, hbel.setCell hu _, by simpa using hsz, hrow.set (by omega) (upTo_set (if_pos He.out))⟩
          case measure => simp [intOf]
        · have hz : (gt zs 0 == 0) = false := by simp [he]
          have He := hide he
          clear he
          go_wp2
          go_roundw
          case rel => exact ⟨1, by omega, by go_num, hbel, hsz, hrow.keep (upTo_keep (if_neg He.out))⟩
          case measure => simp [intOf]
      · have hv := hrow.1 1 (by omega)
        have hfk := hrow.2 1
        by_cases he : gt zs 1 = 0
        · have hz : (gt zs 1 == 0) = true := by simp [he]
          have He := hide he
          clear he
          go_wp2
          go_roundw
          case rel => exact ⟨2, by omega, by go_num, hbel.setCell hu _, by simpa using hsz, hrow.set (by omega) (upTo_set (if_pos He.out))⟩
          case measure => simp [intOf]
        · have hz : (gt zs 1 == 0) = false := by simp [he]
          have He := hide he
          clear he
          go_wp2
          go_roundw
          case rel => exact ⟨2, by omega, by go_num, hbel, hsz, hrow.keep (upTo_keep (if_neg He.out))⟩
          case measure => simp [intOf]
      · have hv := hrow.1 2 (by omega)
        have hfk := hrow.2 2
        by_cases he : gt zs 2 = 0
        · have hz : (gt zs 2 == 0) = true := by simp [he]
          have He := hide he
          clear he
          go_wp2
          go_roundw
          case rel => exact ⟨3, by omega, by go_num, hbel.setCell hu _, by simpa using hsz, hrow.set (by omega) (upTo_set (if_pos He.out))⟩
          case measure => simp [intOf]
        · have hz : (gt zs 2 == 0) = false := by simp [he]
          have He := hide he
          clear he
          go_wp2
          go_roundw
          case rel => exact ⟨3, by omega, by go_num, hbel, hsz, hrow.keep (upTo_keep (if_neg He.out))⟩
          case measure => simp [intOf]
      · have hv := hrow.1 3 (by omega)
        have hfk := hrow.2 3
        by_cases he : gt zs 3 = 0
        · have hz : (gt zs 3 == 0) = true := by simp [he]
          have He := hide he
          clear he
          go_wp2
          go_roundw
          case rel => exact ⟨4, by omega, by go_num, hbel.setCell hu _, by simpa using hsz, hrow.set (by omega) (upTo_set (if_pos He.out))⟩
          case measure => simp [intOf]
        · have hz : (gt zs 3 == 0) = false := by simp [he]
          have He := hide he
          clear he
          go_wp2
          go_roundw
          case rel => exact ⟨4, by omega, by go_num, hbel, hsz, hrow.keep (upTo_keep (if_neg He.out))⟩
          case measure => simp [intOf]
      · have v0 : wr.cell? ⟨w2.heap.size, 0, none⟩ = some (.int .i64 (hg zs 0)) := hrow.1 0 (by omega)
        have v1 : wr.cell? ⟨w2.heap.size, 1, none⟩ = some (.int .i64 (hg zs 1)) := hrow.1 1 (by omega)
        have v2 : wr.cell? ⟨w2.heap.size, 2, none⟩ = some (.int .i64 (hg zs 2)) := hrow.1 2 (by omega)
        have v3 : wr.cell? ⟨w2.heap.size, 3, none⟩ = some (.int .i64 (hg zs 3)) := hrow.1 3 (by omega)
        have r0r := (hbel.cell (p := ⟨w.heap.size + 1, 0, none⟩) hN).trans r0
        have r1r := (hbel.cell (p := ⟨w.heap.size + 1, 1, none⟩) hN).trans r1
        have f0r := (hbel.frozen (p := ⟨w.heap.size + 1, 0, none⟩) hN).trans f0
        have f1r := (hbel.frozen (p := ⟨w.heap.size + 1, 1, none⟩) hN).trans f1
        have hr : Below w.heap.size w wr := h1.trans (hbel.mono h1.size)
        have hNr : w.heap.size + 1 < wr.heap.size := by have := hbel.size; omega
        clear r0 r1 f0 f1 h1 hbel hrow h13 h3 u0 u1 u2 u3 uf
        go_wp2_with fail
        refine (labelOf_calls _ _ _ _ _).mono ?_
        rintro e w4 ⟨b, rfl, hbN, blk, hb4⟩
        have r04 := (hb4.cell (p := ⟨w.heap.size + 1, 0, none⟩) hNr).trans r0r
        have r14 := (hb4.cell (p := ⟨w.heap.size + 1, 1, none⟩) hNr).trans r1r
        have f04 := (hb4.frozen (p := ⟨w.heap.size + 1, 0, none⟩) hNr).trans f0r
        have f14 := (hb4.frozen (p := ⟨w.heap.size + 1, 1, none⟩) hNr).trans f1r
        have h4 : Below w.heap.size w w4 := hr.trans (hb4.mono hr.size)
        clear hb4 r0r r1r f0r f1r
        go_wp2
        refine bodyPost_ret (v := .agg #[.int .i64 0, .slice (some ⟨b, 0, none⟩) 4 4]) (by simp [results, Tryz.results165, go_sem, r04, r14]) rfl ⟨_, 4, 4, by rw [Hf.out], OSl.ofBlk (n := 4) ((blk.setCell (by simp; omega) _).setCell (by simp; omega) _) (by omega) rfl (by omega), (h4.setCell (by simp) _).setCell (by simp) _⟩
  · have hq : (fault zs == 0) = false := by simp [hf]
    rw [resOf_no hf]
    go_enter Tryz.func165, Tryz.ntmps165
    go_wp2_with fail
    refine (implLabelFault_calls a len cap zs _ hl (hs.below (hb0 _ _) (Nat.le_refl _))).mono ?_
    rintro e w1 ⟨rfl, hb⟩
    have h1 : Below w.heap.size w w1 := (hb0 _ _).trans (hb.mono (by simp; omega))
    have r0 : w1.cell? ⟨w.heap.size + 1, 0, none⟩ = some (.int .i64 0) := (hb.cell (p := ⟨w.heap.size + 1, 0, none⟩) (by simp)).trans (by go_simp)
    have r1 : w1.cell? ⟨w.heap.size + 1, 1, none⟩ = some (.slice none 0 0) := (hb.cell (p := ⟨w.heap.size + 1, 1, none⟩) (by simp)).trans (by go_simp)
    have f0 : w1.frozen? ⟨w.heap.size + 1, 0, none⟩ = false := (hb.frozen (p := ⟨w.heap.size + 1, 0, none⟩) (by simp)).trans (by go_simp)
    have f1 : w1.frozen? ⟨w.heap.size + 1, 1, none⟩ = false := (hb.frozen (p := ⟨w.heap.size + 1, 1, none⟩) (by simp)).trans (by go_simp)
    clear hb hb0
    go_wp2
    refine bodyPost_ret (v := .agg #[.int .i64 (fault zs), .slice none 0 0]) (by simp [results, Tryz.results165, go_sem, r0, r1]) rfl ⟨_, _, _, rfl, OSl.nil _ _ _, (h1.setCell (by simp) _).setCell (by simp) _⟩

end Go.Proofs.YtnlkigjgloeonaaGreat
