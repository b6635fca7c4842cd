import Derived.Test.YtgkjmeogdomgmaaGreatG5
import Derived.Test.YtgkjmeogdomgmaaGreatG6
import Derived.WalkKit
import Derived.ProofKit
import Derived.OpenShut
import Derived.ShutString
import Derived.ChangeOld
import Derived.Below
import Derived.WalkSpells
import Derived.Deep.QuietTactic
import Derived.BigQuiet
import Derived.Deep.RegionWith
import Derived.Deep.WholeRow
import Derived.Deep.DeepCutAuto
import Derived.Deep.RegionHeld2
import Derived.Deep.AppendLies
import Derived.Deep.RegionLaw
namespace Go.Proofs.YtgkjmeogdomgmaaGreat
open Go.ChangeShapes Go.WideShapes Go.ChangeAt Go.RowKit

set_option maxRecDepth 100000 in
theorem implHighLabel_calls (a : Option Addr) (len cap : Nat) (zs : List Int) (w : World) (hl : len ≤ maxLen) (hs : Sl w a len zs) :
    Calls Tryz.prog 189 #[.agg #[.slice a len cap]] w fun e w' => ∃ ra rn rc, e = .returned (.agg #[.int .i64 (fault zs), .slice ra rn rc]) ∧ OSl w' w.heap.size w'.heap.size ra rn (resOf (fault zs) (highL zs)) ∧ Below w.heap.size w w' := by
  have hb0 := fun o1 o2 => ((Below.refl w.heap.size w).alloc (Nat.le_refl _) o1).alloc (by simp) o2
  by_cases hf : fault zs = 0
  · have hq : (fault zs == 0) = true := by simp [hf]
    have h4 : len = 4 := by rw [← hs.1]; exact fault_len hf
    subst h4
    rw [resOf_ok hf, highL4 hs.1]
    have Hf := hide hf
    clear hf
    have i0 := idx0
    have i1 := idx1
    have i2 := idx2
    have i3 := idx3
    go_enter Tryz.func189, Tryz.ntmps189
    go_wp2_with fail
    refine (implLabelFault_calls a 4 cap zs _ hl (hs.below (hb0 _ _) (Nat.le_refl _))).mono ?_
    rintro e w1 ⟨rfl, hb⟩
    have h1 : Below w.heap.size w w1 := (hb0 _ _).trans (hb.mono (by simp; omega))
    have c1 : w1.cell? ⟨w.heap.size, 0, none⟩ = some (.slice a 4 cap) := (hb.cell (p := ⟨w.heap.size, 0, none⟩) (by simp; omega)).trans (by go_simp)
    have r0 : w1.cell? ⟨w.heap.size + 1, 0, none⟩ = some (.int .i64 0) := (hb.cell (p := ⟨w.heap.size + 1, 0, none⟩) (by simp)).trans (by go_simp)
    have r1 : w1.cell? ⟨w.heap.size + 1, 1, none⟩ = some (.slice none 0 0) := (hb.cell (p := ⟨w.heap.size + 1, 1, none⟩) (by simp)).trans (by go_simp)
    have f0 : w1.frozen? ⟨w.heap.size + 1, 0, none⟩ = false := (hb.frozen (p := ⟨w.heap.size + 1, 0, none⟩) (by simp)).trans (by go_simp)
    have f1 : w1.frozen? ⟨w.heap.size + 1, 1, none⟩ = false := (hb.frozen (p := ⟨w.heap.size + 1, 1, none⟩) (by simp)).trans (by go_simp)
    have hN : w.heap.size + 1 < w1.heap.size := by have := hb.size; simp at this; omega
    clear hb hb0
    go_wp2_with fail
    refine (levelsOf_calls a cap zs _ (hs.below h1 (Nat.le_refl _))).mono ?_
    rintro e w2 ⟨rfl, hb2⟩
    have c2 := (hb2.cell (p := ⟨w.heap.size, 0, none⟩) (by show w.heap.size < _; omega)).trans c1
    have h12 := hb2
    have h2 : Below w.heap.size w w2 := h1.trans (hb2.mono h1.size)
    have hN2 : w.heap.size < w2.heap.size := by have := hb2.size; omega
    clear hb2 c1
    unfold ints4
    go_wp2_with fail
    refine (levelsOf_calls a cap zs _ (hs.below (h2.alloc h2.size _) (Nat.le_refl _))).mono ?_
    rintro e w3 ⟨rfl, hb3⟩
    have u0 : w3.cell? ⟨w2.heap.size, 0, none⟩ = some (.int .i64 (gt zs 0)) := (hb3.cell (p := ⟨w2.heap.size, 0, none⟩) (by simp)).trans (by go_simp)
    have u1 : w3.cell? ⟨w2.heap.size, 1, none⟩ = some (.int .i64 (gt zs 1)) := (hb3.cell (p := ⟨w2.heap.size, 1, none⟩) (by simp)).trans (by go_simp)
    have u2 : w3.cell? ⟨w2.heap.size, 2, none⟩ = some (.int .i64 (gt zs 2)) := (hb3.cell (p := ⟨w2.heap.size, 2, none⟩) (by simp)).trans (by go_simp)
    have u3 : w3.cell? ⟨w2.heap.size, 3, none⟩ = some (.int .i64 (gt zs 3)) := (hb3.cell (p := ⟨w2.heap.size, 3, none⟩) (by simp)).trans (by go_simp)
    have uf : ∀ j, w3.frozen? ⟨w2.heap.size, j, none⟩ = false := fun j => (hb3.frozen (p := ⟨w2.heap.size, j, none⟩) (by simp)).trans (by go_simp)
    have h13 : Below w1.heap.size w1 w3 := (h12.alloc h12.size _).trans (hb3.mono (by have := h12.size; simp; omega))
    have h3 : Below w.heap.size w w3 := h1.trans (h13.mono h1.size)
    have hN3 : w2.heap.size < w3.heap.size := by have := hb3.size; simp at this; omega
    have hu : w1.heap.size ≤ w2.heap.size := h12.size
    clear hb3 h12 h2 c2
    unfold ints4
    go_wp2
    go_loopw [17] (fun i wr => ∃ k : Nat, k ≤ 4 ∧ i = .int .i64 k ∧ Below w1.heap.size w1 wr ∧ wr.heap.size = w3.heap.size ∧ ARow wr w2.heap.size (upTo (hg zs) (gt zs) k)) (fun i _ => 4 - (intOf i).toNat)
    case atStart =>
      refine ⟨0, Nat.zero_le _, rfl, h13, rfl, fun j hj => ?_, uf⟩
      rcases (by omega : j = 0 ∨ j = 1 ∨ j = 2 ∨ j = 3) with rfl | rfl | rfl | rfl <;> assumption
    case round =>
      obtain ⟨k, hk4, rfl, hbel, hsz, hrow⟩ := hrel
      rcases (by omega : k = 0 ∨ k = 1 ∨ k = 2 ∨ k = 3 ∨ k = 4) with rfl | rfl | rfl | rfl | rfl
      · have hv := hrow.1 0 (by omega)
        have hfk := hrow.2 0
        by_cases he : gt zs 0 = 0
        · have hz : (gt zs 0 == 0) = true := by simp [he]
          have He := hide he
          clear he
          go_wp2
          go_roundw
          case rel => exact ⟨1, by omega, by go_num, hbel.setCell hu _, by simpa using hsz, hrow.set (by omega) (upTo_set (if_pos He.out))⟩
          case measure => simp [intOf]
        · have hz : (gt zs 0 == 0) = false := by simp [he]
          have He := hide he
          clear he
          go_wp2
          go_roundw
          case rel => exact ⟨1, by omega, by go_num, hbel, hsz, hrow.keep (upTo_keep (if_neg He.out))⟩
          case measure => simp [intOf]
      · have hv := hrow.1 1 (by omega)
        have hfk := hrow.2 1
        by_cases he : gt zs 1 = 0
        · have hz : (gt zs 1 == 0) = true := by simp [he]
          have He := hide he
          clear he
          go_wp2
          go_roundw
          case rel => exact ⟨2, by omega, by go_num, hbel.setCell hu _, by simpa using hsz, hrow.set (by omega) (upTo_set (if_pos He.out))⟩
          case measure => simp [intOf]
        · have hz : (gt zs 1 == 0) = false := by simp [he]
          have He := hide he
          clear he
          go_wp2
          go_roundw
          case rel => exact ⟨2, by omega, by go_num, hbel, hsz, hrow.keep (upTo_keep (if_neg He.out))⟩
          case measure => simp [intOf]
      · have hv := hrow.1 2 (by omega)
        have hfk := hrow.2 2
        by_cases he : gt zs 2 = 0
        · have hz : (gt zs 2 == 0) = true := by simp [he]
          have He := hide he
          clear he
          go_wp2
          go_roundw
          case rel => exact ⟨3, by omega, by go_num, hbel.setCell hu _, by simpa using hsz, hrow.set (by omega) (upTo_set (if_pos He.out))⟩
          case measure => simp [intOf]
        · have hz : (gt zs 2 == 0) = false := by simp [he]
          have He := hide he
          clear he
          go_wp2
          go_roundw
          case rel => exact ⟨3, by omega, by go_num, hbel, hsz, hrow.keep (upTo_keep (if_neg He.out))⟩
          case measure => simp [intOf]
      · have hv := hrow.1 3 (by omega)
        have hfk := hrow.2 3
        by_cases he : gt zs 3 = 0
        · have hz : (gt zs 3 == 0) = true := by simp [he]
          have He := hide he
          clear he
          go_wp2
          go_roundw
          case rel => exact ⟨4, by omega, by go_num, hbel.setCell hu _, by simpa using hsz, hrow.set (by omega) (upTo_set (if_pos He.out))⟩
          case measure => simp [intOf]
        · have hz : (gt zs 3 == 0) = false := by simp [he]
          have He := hide he
          clear he
          go_wp2
          go_roundw
          case rel => exact ⟨4, by omega, by go_num, hbel, hsz, hrow.keep (upTo_keep (if_neg He.out))⟩
          case measure => simp [intOf]
      · have v0 : wr.cell? ⟨w2.heap.size, 0, none⟩ = some (.int .i64 (hg zs 0)) := hrow.1 0 (by omega)
        have v1 : wr.cell? ⟨w2.heap.size, 1, none⟩ = some (.int .i64 (hg zs 1)) := hrow.1 1 (by omega)
        have v2 : wr.cell? ⟨w2.heap.size, 2, none⟩ = some (.int .i64 (hg zs 2)) := hrow.1 2 (by omega)
        have v3 : wr.cell? ⟨w2.heap.size, 3, none⟩ = some (.int .i64 (hg zs 3)) := hrow.1 3 (by omega)
        have r0r := (hbel.cell (p := ⟨w.heap.size + 1, 0, none⟩) hN).trans r0
        have r1r := (hbel.cell (p := ⟨w.heap.size + 1, 1, none⟩) hN).trans r1
        have f0r := (hbel.frozen (p := ⟨w.heap.size + 1, 0, none⟩) hN).trans f0
        have f1r := (hbel.frozen (p := ⟨w.heap.size + 1, 1, none⟩) hN).trans f1
        have hr : Below w.heap.size w wr := h1.trans (hbel.mono h1.size)
        have hNr : w.heap.size + 1 < wr.heap.size := by have := hbel.size; omega
        clear r0 r1 f0 f1 h1 hbel hrow h13 h3 u0 u1 u2 u3 uf
        go_wp2_with fail
        refine (labelOf_calls _ _ _ _ _).mono ?_
        rintro e w4 ⟨b, rfl, hbN, blk, hb4⟩
        have r04 := (hb4.cell (p := ⟨w.heap.size + 1, 0, none⟩) hNr).trans r0r
        have r14 := (hb4.cell (p := ⟨w.heap.size + 1, 1, none⟩) hNr).trans r1r
        have f04 := (hb4.frozen (p := ⟨w.heap.size + 1, 0, none⟩) hNr).trans f0r
        have f14 := (hb4.frozen (p := ⟨w.heap.size + 1, 1, none⟩) hNr).trans f1r
        have h4 : Below w.heap.size w w4 := hr.trans (hb4.mono hr.size)
        clear hb4 r0r r1r f0r f1r
        go_wp2
        refine bodyPost_ret (v := .agg #[.int .i64 0, .slice (some ⟨b, 0, none⟩) 4 4]) (by simp [results, Tryz.results189, go_sem, r04, r14]) rfl ⟨_, 4, 4, by rw [Hf.out], OSl.ofBlk (n := 4) ((blk.setCell (by simp; omega) _).setCell (by simp; omega) _) (by omega) rfl (by omega), (h4.setCell (by simp) _).setCell (by simp) _⟩
  · have hq : (fault zs == 0) = false := by simp [hf]
    rw [resOf_no hf]
    go_enter Tryz.func189, Tryz.ntmps189
    go_wp2_with fail
    refine (implLabelFault_calls a len cap zs _ hl (hs.below (hb0 _ _) (Nat.le_refl _))).mono ?_
    rintro e w1 ⟨rfl, hb⟩
    have h1 : Below w.heap.size w w1 := (hb0 _ _).trans (hb.mono (by simp; omega))
    have r0 : w1.cell? ⟨w.heap.size + 1, 0, none⟩ = some (.int .i64 0) := (hb.cell (p := ⟨w.heap.size + 1, 0, none⟩) (by simp)).trans (by go_simp)
    have r1 : w1.cell? ⟨w.heap.size + 1, 1, none⟩ = some (.slice none 0 0) := (hb.cell (p := ⟨w.heap.size + 1, 1, none⟩) (by simp)).trans (by go_simp)
    have f0 : w1.frozen? ⟨w.heap.size + 1, 0, none⟩ = false := (hb.frozen (p := ⟨w.heap.size + 1, 0, none⟩) (by simp)).trans (by go_simp)
    have f1 : w1.frozen? ⟨w.heap.size + 1, 1, none⟩ = false := (hb.frozen (p := ⟨w.heap.size + 1, 1, none⟩) (by simp)).trans (by go_simp)
    clear hb hb0
    go_wp2
    refine bodyPost_ret (v := .agg #[.int .i64 (fault zs), .slice none 0 0]) (by simp [results, Tryz.results189, go_sem, r0, r1]) rfl ⟨_, _, _, rfl, OSl.nil _ _ _, (h1.setCell (by simp) _).setCell (by simp) _⟩

set_option maxRecDepth 100000 in
theorem faultOfBoth_calls (a b : Option Addr) (la ca lb cb : Nat) (xs ys : List Int) (w : World) (hla : la ≤ maxLen) (hlb : lb ≤ maxLen) (hx : Sl w a la xs) (hy : Sl w b lb ys) :
    Calls Tryz.prog 191 #[.agg #[.slice a la ca], .agg #[.slice b lb cb]] w fun e w' => e = .returned (.int .i64 (both xs ys)) ∧ Below w.heap.size w w' := by
  have hb0 := fun o1 o2 => ((Below.refl w.heap.size w).alloc (Nat.le_refl _) o1).alloc (by simp) o2
  by_cases hf : fault xs = 0
  · have hq : (fault xs == 0) = true := by simp [hf]
    have e := both_eq (ys := ys) hf
    rw [e]
    clear e hf
    go_enter Tryz.func191, Tryz.ntmps191
    go_wp2_with fail
    refine (implLabelFault_calls a la ca xs _ hla (hx.below (hb0 _ _) (Nat.le_refl _))).mono ?_
    rintro e w1 ⟨rfl, hb⟩
    have h1 : Below w.heap.size w w1 := (hb0 _ _).trans (hb.mono (by simp; omega))
    have c2 : w1.cell? ⟨w.heap.size + 1, 0, none⟩ = some (.slice b lb cb) := (hb.cell (p := ⟨w.heap.size + 1, 0, none⟩) (by simp)).trans (by go_simp)
    clear hb hb0
    go_wp2_with fail
    refine (implLabelFault_calls b lb cb ys _ hlb (hy.below h1 (Nat.le_refl _))).mono ?_
    rintro e w2 ⟨rfl, hb⟩
    go_wp2
    go_ret
    exact ⟨rfl, h1.trans (hb.mono h1.size)⟩
  · have hq : (fault xs == 0) = false := by simp [hf]
    have e := both_ne (ys := ys) hf
    rw [e]
    clear e hf
    go_enter Tryz.func191, Tryz.ntmps191
    go_wp2_with fail
    refine (implLabelFault_calls a la ca xs _ hla (hx.below (hb0 _ _) (Nat.le_refl _))).mono ?_
    rintro e w1 ⟨rfl, hb⟩
    go_wp2
    go_ret
    exact ⟨rfl, (hb0 _ _).trans (hb.mono (by simp; omega))⟩

theorem both_zero {xs ys : List Int} (h : (both xs ys == 0) = true) : fault xs = 0 ∧ fault ys = 0 := by
  simp only [beq_iff_eq] at h
  unfold both at h
  split at h
  · exact ⟨by assumption, h⟩
  · contradiction

theorem isBelowB_of {xs ys : List Int} (h : fault xs = 0 ∧ fault ys = 0) : isBelowB xs ys = belowB xs ys := by
  unfold isBelowB; rw [h.1, h.2]; rfl

theorem isBelowB_not {xs ys : List Int} (h : (both xs ys == 0) = false) : isBelowB xs ys = false := by
  simp only [beq_eq_false_iff_ne] at h
  unfold both at h
  unfold isBelowB
  split at h
  · rename_i e; rw [e]; simp [h]
  · rename_i e; simp [e]

set_option maxRecDepth 100000 in
theorem implIsBelow_calls (a b : Option Addr) (la ca lb cb : Nat) (xs ys : List Int) (w : World) (hla : la ≤ maxLen) (hlb : lb ≤ maxLen) (hx : Sl w a la xs) (hy : Sl w b lb ys) :
    Calls Tryz.prog 188 #[.agg #[.slice a la ca], .agg #[.slice b lb cb]] w fun e w' => e = .returned (.bool (isBelowB xs ys)) ∧ Below w.heap.size w w' := by
  have hb0 := fun o1 o2 => ((Below.refl w.heap.size w).alloc (Nat.le_refl _) o1).alloc (by simp) o2
  cases hf : (both xs ys == 0) with
  | true =>
    obtain ⟨fx, fy⟩ := both_zero hf
    have e1 : la = 4 := by rw [← hx.1]; exact fault_len fx
    have e2 : lb = 4 := by rw [← hy.1]; exact fault_len fy
    rw [isBelowB_of ⟨fx, fy⟩]
    subst e1 e2
    clear fx fy
    have i0 := idx0
    have i1 := idx1
    have i2 := idx2
    have i3 := idx3
    go_enter Tryz.func188, Tryz.ntmps188
    go_wp2_with fail
    refine (faultOfBoth_calls a b 4 ca 4 cb xs ys _ hla hlb (hx.below (hb0 _ _) (Nat.le_refl _)) (hy.below (hb0 _ _) (Nat.le_refl _))).mono ?_
    rintro e w1 ⟨rfl, hb⟩
    have h1 : Below w.heap.size w w1 := (hb0 _ _).trans (hb.mono (by simp; omega))
    have c1 : w1.cell? ⟨w.heap.size, 0, none⟩ = some (.slice a 4 ca) := (hb.cell (p := ⟨w.heap.size, 0, none⟩) (by simp; omega)).trans (by go_simp)
    have c2 : w1.cell? ⟨w.heap.size + 1, 0, none⟩ = some (.slice b 4 cb) := (hb.cell (p := ⟨w.heap.size + 1, 0, none⟩) (by simp)).trans (by go_simp)
    have hN : w.heap.size + 1 < w1.heap.size := by have := hb.size; simp at this; omega
    clear hb hb0
    go_wp2_with fail
    refine (levelsOf_calls b cb ys _ (hy.below h1 (Nat.le_refl _))).mono ?_
    rintro e w2 ⟨rfl, hb2⟩
    have c12 := (hb2.cell (p := ⟨w.heap.size, 0, none⟩) (by show w.heap.size < _; omega)).trans c1
    have h2 : Below w.heap.size w w2 := h1.trans (hb2.mono h1.size)
    have hN2 : w.heap.size < w2.heap.size := by have := hb2.size; omega
    clear hb2 c1 c2
    unfold ints4
    go_wp2_with fail
    refine (levelsOf_calls a ca xs _ (hx.below (h2.alloc h2.size _) (Nat.le_refl _))).mono ?_
    rintro e w3 ⟨rfl, hb3⟩
    have u0 : w3.cell? ⟨w2.heap.size, 0, none⟩ = some (.int .i64 (gt ys 0)) := (hb3.cell (p := ⟨w2.heap.size, 0, none⟩) (by simp)).trans (by go_simp)
    have u1 : w3.cell? ⟨w2.heap.size, 1, none⟩ = some (.int .i64 (gt ys 1)) := (hb3.cell (p := ⟨w2.heap.size, 1, none⟩) (by simp)).trans (by go_simp)
    have u2 : w3.cell? ⟨w2.heap.size, 2, none⟩ = some (.int .i64 (gt ys 2)) := (hb3.cell (p := ⟨w2.heap.size, 2, none⟩) (by simp)).trans (by go_simp)
    have u3 : w3.cell? ⟨w2.heap.size, 3, none⟩ = some (.int .i64 (gt ys 3)) := (hb3.cell (p := ⟨w2.heap.size, 3, none⟩) (by simp)).trans (by go_simp)
    have h3 : Below w.heap.size w w3 := (h2.alloc h2.size _).trans (hb3.mono (by simp; omega))
    clear hb3
    unfold ints4
    go_wp2
    go_loop [16] (fun i => ∃ k : Nat, k ≤ 4 ∧ i = .int .i64 k ∧ ∀ j, j < k → gt xs j ≤ gt ys j) (fun i => 4 - (intOf i).toNat)
    case atStart => exact ⟨0, Nat.zero_le _, rfl, fun j hj => by omega⟩
    case round =>
      obtain ⟨k, hk, rfl, hall⟩ := hrel
      have Hall : Hid (∀ j, j < k → gt xs j ≤ gt ys j) := hall
      clear hall
      rcases (by omega : k = 0 ∨ k = 1 ∨ k = 2 ∨ k = 3 ∨ k = 4) with rfl | rfl | rfl | rfl | rfl
      · by_cases he : gt ys 0 < gt xs 0
        · go_wp2
          go_ret
          exact ⟨ret_bool (belowB_no (by omega) he).symm, h3⟩
        · go_wp2
          go_round
          case rel => exact ⟨1, by omega, by go_num, fun j hj => by (by_cases e : j = 0); (subst e; omega); exact Hall.out j (by omega)⟩
          case measure => simp [intOf]
      · by_cases he : gt ys 1 < gt xs 1
        · go_wp2
          go_ret
          exact ⟨ret_bool (belowB_no (by omega) he).symm, h3⟩
        · go_wp2
          go_round
          case rel => exact ⟨2, by omega, by go_num, fun j hj => by (by_cases e : j = 1); (subst e; omega); exact Hall.out j (by omega)⟩
          case measure => simp [intOf]
      · by_cases he : gt ys 2 < gt xs 2
        · go_wp2
          go_ret
          exact ⟨ret_bool (belowB_no (by omega) he).symm, h3⟩
        · go_wp2
          go_round
          case rel => exact ⟨3, by omega, by go_num, fun j hj => by (by_cases e : j = 2); (subst e; omega); exact Hall.out j (by omega)⟩
          case measure => simp [intOf]
      · by_cases he : gt ys 3 < gt xs 3
        · go_wp2
          go_ret
          exact ⟨ret_bool (belowB_no (by omega) he).symm, h3⟩
        · go_wp2
          go_round
          case rel => exact ⟨4, by omega, by go_num, fun j hj => by (by_cases e : j = 3); (subst e; omega); exact Hall.out j (by omega)⟩
          case measure => simp [intOf]
      · go_wp2
        go_ret
        exact ⟨ret_bool (belowB_yes (fun j hj => Hall.out j (by omega))).symm, h3⟩
  | false =>
    rw [isBelowB_not hf]
    go_enter Tryz.func188, Tryz.ntmps188
    go_wp2_with fail
    refine (faultOfBoth_calls a b la ca lb cb xs ys _ hla hlb (hx.below (hb0 _ _) (Nat.le_refl _)) (hy.below (hb0 _ _) (Nat.le_refl _))).mono ?_
    rintro e w1 ⟨rfl, hb⟩
    go_wp2
    go_ret
    exact ⟨rfl, (hb0 _ _).trans (hb.mono (by simp; omega))⟩

def obsB (who what : List Int) : Bool := ((fault who == 0) && (fault what == 0)) && (thing0 what && belowB what (highL who))

theorem fault_highL {zs : List Int} (h : fault zs = 0) : fault (highL zs) = 0 := by
  have h4 := fault_len h
  apply fault_ok
  · rw [length_highL]; exact h4
  · rw [List.all_eq_true]
    intro z hz
    obtain ⟨j, hj, rfl⟩ := List.getElem_of_mem hz
    have hj' : j < zs.length := by rw [length_highL] at hj; exact hj
    have e : (highL zs)[j] = gt (highL zs) j := by simp [gt, hj]
    have hr := fault_all h j hj'
    rw [e, gt_highL zs j hj']
    unfold okI
    split
    · decide
    · simp; omega

theorem obsB_eq (xs ys : List Int) : obsB xs ys = (thingB ys && isBelowB ys (resOf (fault xs) (highL xs))) := by
  unfold obsB thingB thing0 isBelowB
  by_cases hx : fault xs = 0
  · rw [resOf_ok hx, fault_highL hx, hx]
    cases (fault ys == 0) <;> cases has ys 0 <;> cases has ys 5 <;> simp
  · rw [resOf_no hx]
    have e : (fault xs == 0) = false := by simp [hx]
    have e2 : (fault [] == 0) = false := by decide
    rw [e, e2]
    simp

theorem field1 (c v : Value) (w : World) : (Instr.field 188 (.agg #[c, v]) 1).run Tryz.prog w = .ok (.agg #[v]) w := by kernel_rfl

set_option maxRecDepth 100000 in
set_option maxHeartbeats 1000000 in
theorem implCanObserve_calls (a b : Option Addr) (la ca lb cb : Nat) (xs ys : List Int) (w : World) (hla : la ≤ maxLen) (hlb : lb ≤ maxLen) (hx : Sl w a la xs) (hy : Sl w b lb ys) :
    Calls Tryz.prog 174 #[.agg #[.slice a la ca], .agg #[.slice b lb cb]] w fun e w' => e = .returned (.bool (obsB xs ys)) ∧ Below w.heap.size w w' := by
  have M0 := ((Mem.start w).alloc1 (.slice a la ca) 112).alloc1 (.slice b lb cb) 112
  simp only [World.size_alloc] at M0
  have cB0 := M0.cell 0 rfl
  rw [obsB_eq]
  cases ht : thingB ys with
  | true =>
    have Ht := hide ht
    clear ht
    have fd := field1
    go_enter Tryz.func174, Tryz.ntmps174
    go_wp2_with fail
    go_region_with (first
      | (go_at_call 175; refine (isThing_calls b lb cb ys _ hlb ?_).mono ?_; exact hy.below M0.drew.bel (Nat.le_refl _); rintro e w1 ⟨rfl, hb1⟩; rw [Ht.out]; have M1 := M0.drew.below hb1; have cB1 := M1.cell 0 rfl; have cA1 := M1.cell 1 rfl; clear hb1)
      | (go_at_call 189; refine (implHighLabel_calls a la ca xs _ hla ?_).mono ?_; exact hx.below M1.bel (Nat.le_refl _); rintro e w2 ⟨ra, rn, rc, rfl, ho, hb2⟩; have M2 := M1.below hb2; have cB2 := M2.cell 0 rfl; have hrm : rn ≤ maxLen := Nat.le_trans ho.2.1 (by unfold maxLen; omega); clear hb2)
      | (go_at_call 188; refine (implIsBelow_calls _ _ _ _ _ _ ys (resOf (fault xs) (highL xs)) _ hlb hrm ?_ ?_).mono ?_; exact hy.below M2.bel (Nat.le_refl _); exact ho.sl; rintro e w3 ⟨rfl, hb3⟩; have M3 := M2.below hb3; clear hb3))
    all_goals go_wp2
    all_goals go_ret
    all_goals exact ⟨ret_bool (by simp), M3.bel⟩
  | false =>
    have Ht := hide ht
    clear ht
    go_enter Tryz.func174, Tryz.ntmps174
    go_wp2_with fail
    go_region_with (first
      | (go_at_call 175; refine (isThing_calls b lb cb ys _ hlb ?_).mono ?_; exact hy.below M0.drew.bel (Nat.le_refl _); rintro e w1 ⟨rfl, hb1⟩; rw [Ht.out]; have M1 := M0.drew.below hb1; clear hb1))
    all_goals go_wp2
    all_goals go_ret
    all_goals exact ⟨ret_bool (by simp), M1.bel⟩

def modB (who what : List Int) : Bool := ((fault who == 0) && (fault what == 0)) && ((thing0 what && belowB what (highL who)) && belowB who what)

theorem modB_eq (xs ys : List Int) : modB xs ys = (obsB xs ys && isBelowB xs ys) := by
  unfold modB obsB isBelowB
  cases (fault xs == 0) <;> cases (fault ys == 0) <;> simp

set_option maxRecDepth 100000 in
theorem implCanModify_calls (a b : Option Addr) (la ca lb cb : Nat) (xs ys : List Int) (w : World) (hla : la ≤ maxLen) (hlb : lb ≤ maxLen) (hx : Sl w a la xs) (hy : Sl w b lb ys) :
    Calls Tryz.prog 173 #[.agg #[.slice a la ca], .agg #[.slice b lb cb]] w fun e w' => e = .returned (.bool (modB xs ys)) ∧ Below w.heap.size w w' := by
  have M0 := ((Mem.start w).alloc1 (.slice a la ca) 112).alloc1 (.slice b lb cb) 112
  simp only [World.size_alloc] at M0
  have hb0 := M0.bel
  rw [modB_eq]
  cases ho : obsB xs ys with
  | true =>
    have Ho := hide ho
    clear ho
    go_enter Tryz.func173, Tryz.ntmps173
    go_wp2_with fail
    refine (implCanObserve_calls a b la ca lb cb xs ys _ hla hlb (hx.below hb0 (Nat.le_refl _)) (hy.below hb0 (Nat.le_refl _))).mono ?_
    rintro e w1 ⟨rfl, hb⟩
    rw [Ho.out]
    have M1 := M0.below hb
    have cA := M1.cell 1 rfl
    have cB := M1.cell 0 rfl
    clear hb M0 hb0
    go_wp2_with fail
    refine (implIsBelow_calls a b la ca lb cb xs ys _ hla hlb (hx.below M1.bel (Nat.le_refl _)) (hy.below M1.bel (Nat.le_refl _))).mono ?_
    rintro e w2 ⟨rfl, hb⟩
    have M2 := M1.below hb
    go_wp2
    go_ret
    exact ⟨ret_bool (by simp), M2.bel⟩
  | false =>
    have Ho := hide ho
    clear ho
    go_enter Tryz.func173, Tryz.ntmps173
    go_wp2_with fail
    refine (implCanObserve_calls a b la ca lb cb xs ys _ hla hlb (hx.below hb0 (Nat.le_refl _)) (hy.below hb0 (Nat.le_refl _))).mono ?_
    rintro e w1 ⟨rfl, hb⟩
    rw [Ho.out]
    have M1 := M0.below hb
    go_wp2
    go_ret
    exact ⟨rfl, M1.bel⟩

end Go.Proofs.YtgkjmeogdomgmaaGreat
