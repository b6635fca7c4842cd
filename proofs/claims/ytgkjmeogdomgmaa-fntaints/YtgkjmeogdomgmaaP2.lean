import Derived.Test.YtgkjmeogdomgmaaLevels
import Derived.Test.YtgkjmeogdomgmaaThing
import Derived.Test.YtgkjmeogdomgmaaTgP
import Derived.Test.YtgkjmeogdomgmaaL1Copy
import Derived.Test.YtgkjmeogdomgmaaSpec3
import Derived.WalkKit
import Derived.ProofKit
import Derived.OpenShut
import Derived.ShutString
import Derived.ChangeOld
import Derived.Below
import Derived.WalkSpells
import Derived.Deep.QuietTactic
import Derived.BigQuiet
import Derived.Deep.RegionWith
import Derived.Deep.WholeRow
import Derived.Deep.DeepCutAuto
import Derived.Deep.RegionHeld2
import Derived.Deep.AppendLies
import Derived.Deep.RegionLaw
namespace Go.Proofs.Ytgkjmeogdomgmaa
open Go.ChangeShapes Go.WideShapes Go.ChangeAt Go.RowKit

set_option maxRecDepth 100000 in
theorem implHighLabel_calls (a : Option Addr) (len cap : Nat) (zs : List Int) (w : World) (hl : len ≤ maxLen) (hs : Sl w a len zs) :
    Calls Try.prog 61 #[.agg #[.slice a len cap]] w fun e w' => ∃ ra rn rc, e = .returned (.agg #[.int .i64 (fault zs), .slice ra rn rc]) ∧ OSl w' w.heap.size w'.heap.size ra rn (resOf (fault zs) (highL zs)) ∧ Below w.heap.size w w' := by
  have hb0 := fun o1 o2 => ((Below.refl w.heap.size w).alloc (Nat.le_refl _) o1).alloc (by simp) o2
  by_cases hf : fault zs = 0
  · have hq : (fault zs == 0) = true := by simp [hf]
    have h4 : len = 4 := by rw [← hs.1]; exact fault_len hf
    subst h4
    rw [resOf_ok hf, highL4 hs.1]
    have Hf := hide hf
    clear hf
    have i0 := idx0
    have i1 := idx1
    have i2 := idx2
    have i3 := idx3
    go_enter Try.func61, Try.ntmps61
    go_wp2_with fail
    refine (implLabelFault_calls a 4 cap zs _ hl (hs.below (hb0 _ _) (Nat.le_refl _))).mono ?_
    rintro e w1 ⟨rfl, hb⟩
    have h1 : Below w.heap.size w w1 := (hb0 _ _).trans (hb.mono (by simp; omega))
    have c1 : w1.cell? ⟨w.heap.size, 0, none⟩ = some (.slice a 4 cap) := (hb.cell (p := ⟨w.heap.size, 0, none⟩) (by simp; omega)).trans (by go_simp)
    have r0 : w1.cell? ⟨w.heap.size + 1, 0, none⟩ = some (.int .i64 0) := (hb.cell (p := ⟨w.heap.size + 1, 0, none⟩) (by simp)).trans (by go_simp)
    have r1 : w1.cell? ⟨w.heap.size + 1, 1, none⟩ = some (.slice none 0 0) := (hb.cell (p := ⟨w.heap.size + 1, 1, none⟩) (by simp)).trans (by go_simp)
    have f0 : w1.frozen? ⟨w.heap.size + 1, 0, none⟩ = false := (hb.frozen (p := ⟨w.heap.size + 1, 0, none⟩) (by simp)).trans (by go_simp)
    have f1 : w1.frozen? ⟨w.heap.size + 1, 1, none⟩ = false := (hb.frozen (p := ⟨w.heap.size + 1, 1, none⟩) (by simp)).trans (by go_simp)
    have hN : w.heap.size + 1 < w1.heap.size := by have := hb.size; simp at this; omega
    clear hb hb0
    go_wp2_with fail
    refine (levelsOf_calls a cap zs _ (hs.below h1 (Nat.le_refl _))).mono ?_
    rintro e w2 ⟨rfl, hb2⟩
    have c2 := (hb2.cell (p := ⟨w.heap.size, 0, none⟩) (by show w.heap.size < _; omega)).trans c1
    have h12 := hb2
    have h2 : Below w.heap.size w w2 := h1.trans (hb2.mono h1.size)
    have hN2 : w.heap.size < w2.heap.size := by have := hb2.size; omega
    clear hb2 c1
    unfold ints4
    go_wp2_with fail
    refine (levelsOf_calls a cap zs _ (hs.below (h2.alloc h2.size _) (Nat.le_refl _))).mono ?_
    rintro e w3 ⟨rfl, hb3⟩
    have u0 : w3.cell? ⟨w2.heap.size, 0, none⟩ = some (.int .i64 (gt zs 0)) := (hb3.cell (p := ⟨w2.heap.size, 0, none⟩) (by simp)).trans (by go_simp)
    have u1 : w3.cell? ⟨w2.heap.size, 1, none⟩ = some (.int .i64 (gt zs 1)) := (hb3.cell (p := ⟨w2.heap.size, 1, none⟩) (by simp)).trans (by go_simp)
    have u2 : w3.cell? ⟨w2.heap.size, 2, none⟩ = some (.int .i64 (gt zs 2)) := (hb3.cell (p := ⟨w2.heap.size, 2, none⟩) (by simp)).trans (by go_simp)
    have u3 : w3.cell? ⟨w2.heap.size, 3, none⟩ = some (.int .i64 (gt zs 3)) := (hb3.cell (p := ⟨w2.heap.size, 3, none⟩) (by simp)).trans (by go_simp)
    have uf : ∀ j, w3.frozen? ⟨w2.heap.size, j, none⟩ = false := fun j => (hb3.frozen (p := ⟨w2.heap.size, j, none⟩) (by simp)).trans (by go_simp)
    have h13 : Below w1.heap.size w1 w3 := (h12.alloc h12.size _).trans (hb3.mono (by have := h12.size; simp; omega))
    have h3 : Below w.heap.size w w3 := h1.trans (h13.mono h1.size)
    have hN3 : w2.heap.size < w3.heap.size := by have := hb3.size; simp at this; omega
    have hu : w1.heap.size ≤ w2.heap.size := h12.size
    clear hb3 h12 h2 c2
    unfold ints4
    go_wp2
    go_loopw [17] (fun i wr => ∃ k : Nat, k ≤ 4 ∧ i = .int .i64 k ∧ Below w1.heap.size w1 wr ∧ wr.heap.size = w3.heap.size ∧ ARow wr w2.heap.size (upTo (hg zs) (gt zs) k)) (fun i _ => 4 - (intOf i).toNat)
    case atStart =>
      refine ⟨0, Nat.zero_le _, rfl, h13, rfl, fun j hj => ?_, uf⟩
      rcases (by omega : j = 0 ∨ j = 1 ∨ j = 2 ∨ j = 3) with rfl | rfl | rfl | rfl <;> assumption
    case round =>
      obtain ⟨k, hk4, rfl, hbel, hsz, hrow⟩ := hrel
      rcases (by omega : k = 0 ∨ k = 1 ∨ k = 2 ∨ k = 3 ∨ k = 4) with rfl | rfl | rfl | rfl | rfl
      · have hv := hrow.1 0 (by omega)
        have hfk := hrow.2 0
        by_cases he : gt zs 0 = 0
        · have hz : (gt zs 0 == 0) = true := by simp [he]
          have He := hide he
          clear he
          go_wp2
          go_roundw
          case rel => exact ⟨1, by omega, by go_num, hbel.setCell hu _, by simpa using hsz, hrow.set (by omega) (upTo_set (if_pos He.out))⟩
          case measure => simp [intOf]
        · have hz : (gt zs 0 == 0) = false := by simp [he]
          have He := hide he
          clear he
          go_wp2
          go_roundw
          case rel => exact ⟨1, by omega, by go_num, hbel, hsz, hrow.keep (upTo_keep (if_neg He.out))⟩
          case measure => simp [intOf]
      · have hv := hrow.1 1 (by omega)
        have hfk := hrow.2 1
        by_cases he : gt zs 1 = 0
        · have hz : (gt zs 1 == 0) = true := by simp [he]
          have He := hide he
          clear he
          go_wp2
          go_roundw
          case rel => exact ⟨2, by omega, by go_num, hbel.setCell hu _, by simpa using hsz, hrow.set (by omega) (upTo_set (if_pos He.out))⟩
          case measure => simp [intOf]
        · have hz : (gt zs 1 == 0) = false := by simp [he]
          have He := hide he
          clear he
          go_wp2
          go_roundw
          case rel => exact ⟨2, by omega, by go_num, hbel, hsz, hrow.keep (upTo_keep (if_neg He.out))⟩
          case measure => simp [intOf]
      · have hv := hrow.1 2 (by omega)
        have hfk := hrow.2 2
        by_cases he : gt zs 2 = 0
        · have hz : (gt zs 2 == 0) = true := by simp [he]
          have He := hide he
          clear he
          go_wp2
          go_roundw
          case rel => exact ⟨3, by omega, by go_num, hbel.setCell hu _, by simpa using hsz, hrow.set (by omega) (upTo_set (if_pos He.out))⟩
          case measure => simp [intOf]
        · have hz : (gt zs 2 == 0) = false := by simp [he]
          have He := hide he
          clear he
          go_wp2
          go_roundw
          case rel => exact ⟨3, by omega, by go_num, hbel, hsz, hrow.keep (upTo_keep (if_neg He.out))⟩
          case measure => simp [intOf]
      · have hv := hrow.1 3 (by omega)
        have hfk := hrow.2 3
        by_cases he : gt zs 3 = 0
        · have hz : (gt zs 3 == 0) = true := by simp [he]
          have He := hide he
          clear he
          go_wp2
          go_roundw
          case rel => exact ⟨4, by omega, by go_num, hbel.setCell hu _, by simpa using hsz, hrow.set (by omega) (upTo_set (if_pos He.out))⟩
          case measure => simp [intOf]
        · have hz : (gt zs 3 == 0) = false := by simp [he]
          have He := hide he
          clear he
          go_wp2
          go_roundw
          case rel => exact ⟨4, by omega, by go_num, hbel, hsz, hrow.keep (upTo_keep (if_neg He.out))⟩
          case measure => simp [intOf]
      · have v0 : wr.cell? ⟨w2.heap.size, 0, none⟩ = some (.int .i64 (hg zs 0)) := hrow.1 0 (by omega)
        have v1 : wr.cell? ⟨w2.heap.size, 1, none⟩ = some (.int .i64 (hg zs 1)) := hrow.1 1 (by omega)
        have v2 : wr.cell? ⟨w2.heap.size, 2, none⟩ = some (.int .i64 (hg zs 2)) := hrow.1 2 (by omega)
        have v3 : wr.cell? ⟨w2.heap.size, 3, none⟩ = some (.int .i64 (hg zs 3)) := hrow.1 3 (by omega)
        have r0r := (hbel.cell (p := ⟨w.heap.size + 1, 0, none⟩) hN).trans r0
        have r1r := (hbel.cell (p := ⟨w.heap.size + 1, 1, none⟩) hN).trans r1
        have f0r := (hbel.frozen (p := ⟨w.heap.size + 1, 0, none⟩) hN).trans f0
        have f1r := (hbel.frozen (p := ⟨w.heap.size + 1, 1, none⟩) hN).trans f1
        have hr : Below w.heap.size w wr := h1.trans (hbel.mono h1.size)
        have hNr : w.heap.size + 1 < wr.heap.size := by have := hbel.size; omega
        clear r0 r1 f0 f1 h1 hbel hrow h13 h3 u0 u1 u2 u3 uf
        go_wp2_with fail
        refine (labelOf_calls _ _ _ _ _).mono ?_
        rintro e w4 ⟨b, rfl, hbN, blk, hb4⟩
        have r04 := (hb4.cell (p := ⟨w.heap.size + 1, 0, none⟩) hNr).trans r0r
        have r14 := (hb4.cell (p := ⟨w.heap.size + 1, 1, none⟩) hNr).trans r1r
        have f04 := (hb4.frozen (p := ⟨w.heap.size + 1, 0, none⟩) hNr).trans f0r
        have f14 := (hb4.frozen (p := ⟨w.heap.size + 1, 1, none⟩) hNr).trans f1r
        have h4 : Below w.heap.size w w4 := hr.trans (hb4.mono hr.size)
        clear hb4 r0r r1r f0r f1r
        go_wp2
        refine bodyPost_ret (v := .agg #[.int .i64 0, .slice (some ⟨b, 0, none⟩) 4 4]) (by simp [results, Try.results61, go_sem, r04, r14]) rfl ⟨_, 4, 4, by rw [Hf.out], OSl.ofBlk (n := 4) ((blk.setCell (by simp; omega) _).setCell (by simp; omega) _) (by omega) rfl (by omega), (h4.setCell (by simp) _).setCell (by simp) _⟩
  · have hq : (fault zs == 0) = false := by simp [hf]
    rw [resOf_no hf]
    go_enter Try.func61, Try.ntmps61
    go_wp2_with fail
    refine (implLabelFault_calls a len cap zs _ hl (hs.below (hb0 _ _) (Nat.le_refl _))).mono ?_
    rintro e w1 ⟨rfl, hb⟩
    have h1 : Below w.heap.size w w1 := (hb0 _ _).trans (hb.mono (by simp; omega))
    have r0 : w1.cell? ⟨w.heap.size + 1, 0, none⟩ = some (.int .i64 0) := (hb.cell (p := ⟨w.heap.size + 1, 0, none⟩) (by simp)).trans (by go_simp)
    have r1 : w1.cell? ⟨w.heap.size + 1, 1, none⟩ = some (.slice none 0 0) := (hb.cell (p := ⟨w.heap.size + 1, 1, none⟩) (by simp)).trans (by go_simp)
    have f0 : w1.frozen? ⟨w.heap.size + 1, 0, none⟩ = false := (hb.frozen (p := ⟨w.heap.size + 1, 0, none⟩) (by simp)).trans (by go_simp)
    have f1 : w1.frozen? ⟨w.heap.size + 1, 1, none⟩ = false := (hb.frozen (p := ⟨w.heap.size + 1, 1, none⟩) (by simp)).trans (by go_simp)
    clear hb hb0
    go_wp2
    refine bodyPost_ret (v := .agg #[.int .i64 (fault zs), .slice none 0 0]) (by simp [results, Try.results61, go_sem, r0, r1]) rfl ⟨_, _, _, rfl, OSl.nil _ _ _, (h1.setCell (by simp) _).setCell (by simp) _⟩

set_option maxRecDepth 100000 in
theorem faultOfBoth_calls (a b : Option Addr) (la ca lb cb : Nat) (xs ys : List Int) (w : World) (hla : la ≤ maxLen) (hlb : lb ≤ maxLen) (hx : Sl w a la xs) (hy : Sl w b lb ys) :
    Calls Try.prog 58 #[.agg #[.slice a la ca], .agg #[.slice b lb cb]] w fun e w' => e = .returned (.int .i64 (both xs ys)) ∧ Below w.heap.size w w' := by
  have hb0 := fun o1 o2 => ((Below.refl w.heap.size w).alloc (Nat.le_refl _) o1).alloc (by simp) o2
  by_cases hf : fault xs = 0
  · have hq : (fault xs == 0) = true := by simp [hf]
    have e := both_eq (ys := ys) hf
    rw [e]
    clear e hf
    go_enter Try.func58, Try.ntmps58
    go_wp2_with fail
    refine (implLabelFault_calls a la ca xs _ hla (hx.below (hb0 _ _) (Nat.le_refl _))).mono ?_
    rintro e w1 ⟨rfl, hb⟩
    have h1 : Below w.heap.size w w1 := (hb0 _ _).trans (hb.mono (by simp; omega))
    have c2 : w1.cell? ⟨w.heap.size + 1, 0, none⟩ = some (.slice b lb cb) := (hb.cell (p := ⟨w.heap.size + 1, 0, none⟩) (by simp)).trans (by go_simp)
    clear hb hb0
    go_wp2_with fail
    refine (implLabelFault_calls b lb cb ys _ hlb (hy.below h1 (Nat.le_refl _))).mono ?_
    rintro e w2 ⟨rfl, hb⟩
    go_wp2
    go_ret
    exact ⟨rfl, h1.trans (hb.mono h1.size)⟩
  · have hq : (fault xs == 0) = false := by simp [hf]
    have e := both_ne (ys := ys) hf
    rw [e]
    clear e hf
    go_enter Try.func58, Try.ntmps58
    go_wp2_with fail
    refine (implLabelFault_calls a la ca xs _ hla (hx.below (hb0 _ _) (Nat.le_refl _))).mono ?_
    rintro e w1 ⟨rfl, hb⟩
    go_wp2
    go_ret
    exact ⟨rfl, (hb0 _ _).trans (hb.mono (by simp; omega))⟩

theorem both_zero {xs ys : List Int} (h : (both xs ys == 0) = true) : fault xs = 0 ∧ fault ys = 0 := by
  simp only [beq_iff_eq] at h
  unfold both at h
  split at h
  · exact ⟨by assumption, h⟩
  · contradiction

theorem isBelowB_of {xs ys : List Int} (h : fault xs = 0 ∧ fault ys = 0) : isBelowB xs ys = belowB xs ys := by
  unfold isBelowB; rw [h.1, h.2]; rfl

theorem isBelowB_not {xs ys : List Int} (h : (both xs ys == 0) = false) : isBelowB xs ys = false := by
  simp only [beq_eq_false_iff_ne] at h
  unfold both at h
  unfold isBelowB
  split at h
  · rename_i e; rw [e]; simp [h]
  · rename_i e; simp [e]

set_option maxRecDepth 100000 in
theorem implIsBelow_calls (a b : Option Addr) (la ca lb cb : Nat) (xs ys : List Int) (w : World) (hla : la ≤ maxLen) (hlb : lb ≤ maxLen) (hx : Sl w a la xs) (hy : Sl w b lb ys) :
    Calls Try.prog 25 #[.agg #[.slice a la ca], .agg #[.slice b lb cb]] w fun e w' => e = .returned (.bool (isBelowB xs ys)) ∧ Below w.heap.size w w' := by
  have hb0 := fun o1 o2 => ((Below.refl w.heap.size w).alloc (Nat.le_refl _) o1).alloc (by simp) o2
  cases hf : (both xs ys == 0) with
  | true =>
    obtain ⟨fx, fy⟩ := both_zero hf
    have e1 : la = 4 := by rw [← hx.1]; exact fault_len fx
    have e2 : lb = 4 := by rw [← hy.1]; exact fault_len fy
    rw [isBelowB_of ⟨fx, fy⟩]
    subst e1 e2
    clear fx fy
    have i0 := idx0
    have i1 := idx1
    have i2 := idx2
    have i3 := idx3
    go_enter Try.func25, Try.ntmps25
    go_wp2_with fail
    refine (faultOfBoth_calls a b 4 ca 4 cb xs ys _ hla hlb (hx.below (hb0 _ _) (Nat.le_refl _)) (hy.below (hb0 _ _) (Nat.le_refl _))).mono ?_
    rintro e w1 ⟨rfl, hb⟩
    have h1 : Below w.heap.size w w1 := (hb0 _ _).trans (hb.mono (by simp; omega))
    have c1 : w1.cell? ⟨w.heap.size, 0, none⟩ = some (.slice a 4 ca) := (hb.cell (p := ⟨w.heap.size, 0, none⟩) (by simp; omega)).trans (by go_simp)
    have c2 : w1.cell? ⟨w.heap.size + 1, 0, none⟩ = some (.slice b 4 cb) := (hb.cell (p := ⟨w.heap.size + 1, 0, none⟩) (by simp)).trans (by go_simp)
    have hN : w.heap.size + 1 < w1.heap.size := by have := hb.size; simp at this; omega
    clear hb hb0
    go_wp2_with fail
    refine (levelsOf_calls b cb ys _ (hy.below h1 (Nat.le_refl _))).mono ?_
    rintro e w2 ⟨rfl, hb2⟩
    have c12 := (hb2.cell (p := ⟨w.heap.size, 0, none⟩) (by show w.heap.size < _; omega)).trans c1
    have h2 : Below w.heap.size w w2 := h1.trans (hb2.mono h1.size)
    have hN2 : w.heap.size < w2.heap.size := by have := hb2.size; omega
    clear hb2 c1 c2
    unfold ints4
    go_wp2_with fail
    refine (levelsOf_calls a ca xs _ (hx.below (h2.alloc h2.size _) (Nat.le_refl _))).mono ?_
    rintro e w3 ⟨rfl, hb3⟩
    have u0 : w3.cell? ⟨w2.heap.size, 0, none⟩ = some (.int .i64 (gt ys 0)) := (hb3.cell (p := ⟨w2.heap.size, 0, none⟩) (by simp)).trans (by go_simp)
    have u1 : w3.cell? ⟨w2.heap.size, 1, none⟩ = some (.int .i64 (gt ys 1)) := (hb3.cell (p := ⟨w2.heap.size, 1, none⟩) (by simp)).trans (by go_simp)
    have u2 : w3.cell? ⟨w2.heap.size, 2, none⟩ = some (.int .i64 (gt ys 2)) := (hb3.cell (p := ⟨w2.heap.size, 2, none⟩) (by simp)).trans (by go_simp)
    have u3 : w3.cell? ⟨w2.heap.size, 3, none⟩ = some (.int .i64 (gt ys 3)) := (hb3.cell (p := ⟨w2.heap.size, 3, none⟩) (by simp)).trans (by go_simp)
    have h3 : Below w.heap.size w w3 := (h2.alloc h2.size _).trans (hb3.mono (by simp; omega))
    clear hb3
    unfold ints4
    go_wp2
    go_loop [16] (fun i => ∃ k : Nat, k ≤ 4 ∧ i = .int .i64 k ∧ ∀ j, j < k → gt xs j ≤ gt ys j) (fun i => 4 - (intOf i).toNat)
    case atStart => exact ⟨0, Nat.zero_le _, rfl, fun j hj => by omega⟩
    case round =>
      obtain ⟨k, hk, rfl, hall⟩ := hrel
      have Hall : Hid (∀ j, j < k → gt xs j ≤ gt ys j) := hall
      clear hall
      rcases (by omega : k = 0 ∨ k = 1 ∨ k = 2 ∨ k = 3 ∨ k = 4) with rfl | rfl | rfl | rfl | rfl
      · by_cases he : gt ys 0 < gt xs 0
        · go_wp2
          go_ret
          exact ⟨ret_bool (belowB_no (by omega) he).symm, h3⟩
        · go_wp2
          go_round
          case rel => exact ⟨1, by omega, by go_num, fun j hj => by (by_cases e : j = 0); (subst e; omega); exact Hall.out j (by omega)⟩
          case measure => simp [intOf]
      · by_cases he : gt ys 1 < gt xs 1
        · go_wp2
          go_ret
          exact ⟨ret_bool (belowB_no (by omega) he).symm, h3⟩
        · go_wp2
          go_round
          case rel => exact ⟨2, by omega, by go_num, fun j hj => by (by_cases e : j = 1); (subst e; omega); exact Hall.out j (by omega)⟩
          case measure => simp [intOf]
      · by_cases he : gt ys 2 < gt xs 2
        · go_wp2
          go_ret
          exact ⟨ret_bool (belowB_no (by omega) he).symm, h3⟩
        · go_wp2
          go_round
          case rel => exact ⟨3, by omega, by go_num, fun j hj => by (by_cases e : j = 2); (subst e; omega); exact Hall.out j (by omega)⟩
          case measure => simp [intOf]
      · by_cases he : gt ys 3 < gt xs 3
        · go_wp2
          go_ret
          exact ⟨ret_bool (belowB_no (by omega) he).symm, h3⟩
        · go_wp2
          go_round
          case rel => exact ⟨4, by omega, by go_num, fun j hj => by (by_cases e : j = 3); (subst e; omega); exact Hall.out j (by omega)⟩
          case measure => simp [intOf]
      · go_wp2
        go_ret
        exact ⟨ret_bool (belowB_yes (fun j hj => Hall.out j (by omega))).symm, h3⟩
  | false =>
    rw [isBelowB_not hf]
    go_enter Try.func25, Try.ntmps25
    go_wp2_with fail
    refine (faultOfBoth_calls a b la ca lb cb xs ys _ hla hlb (hx.below (hb0 _ _) (Nat.le_refl _)) (hy.below (hb0 _ _) (Nat.le_refl _))).mono ?_
    rintro e w1 ⟨rfl, hb⟩
    go_wp2
    go_ret
    exact ⟨rfl, (hb0 _ _).trans (hb.mono (by simp; omega))⟩

def obsB (who what : List Int) : Bool := ((fault who == 0) && (fault what == 0)) && (thing0 what && belowB what (highL who))

theorem fault_highL {zs : List Int} (h : fault zs = 0) : fault (highL zs) = 0 := by
  have h4 := fault_len h
  apply fault_ok
  · rw [length_highL]; exact h4
  · rw [List.all_eq_true]
    intro z hz
    obtain ⟨j, hj, rfl⟩ := List.getElem_of_mem hz
    have hj' : j < zs.length := by rw [length_highL] at hj; exact hj
    have e : (highL zs)[j] = gt (highL zs) j := by simp [gt, hj]
    have hr := fault_all h j hj'
    rw [e, gt_highL zs j hj']
    unfold okI
    split
    · decide
    · simp; omega

theorem obsB_eq (xs ys : List Int) : obsB xs ys = (thingB ys && isBelowB ys (resOf (fault xs) (highL xs))) := by
  unfold obsB thingB thing0 isBelowB
  by_cases hx : fault xs = 0
  · rw [resOf_ok hx, fault_highL hx, hx]
    cases (fault ys == 0) <;> cases has ys 0 <;> cases has ys 5 <;> simp
  · rw [resOf_no hx]
    have e : (fault xs == 0) = false := by simp [hx]
    have e2 : (fault [] == 0) = false := by decide
    rw [e, e2]
    simp

theorem field1 (c v : Value) (w : World) : (Instr.field 55 (.agg #[c, v]) 1).run Try.prog w = .ok (.agg #[v]) w := by kernel_rfl

set_option maxRecDepth 100000 in
set_option maxHeartbeats 1000000 in
theorem implCanObserve_calls (a b : Option Addr) (la ca lb cb : Nat) (xs ys : List Int) (w : World) (hla : la ≤ maxLen) (hlb : lb ≤ maxLen) (hx : Sl w a la xs) (hy : Sl w b lb ys) :
    Calls Try.prog 26 #[.agg #[.slice a la ca], .agg #[.slice b lb cb]] w fun e w' => e = .returned (.bool (obsB xs ys)) ∧ Below w.heap.size w w' := by
  have M0 := ((Mem.start w).alloc1 (.slice a la ca) 41).alloc1 (.slice b lb cb) 41
  simp only [World.size_alloc] at M0
  have cB0 := M0.cell 0 rfl
  rw [obsB_eq]
  cases ht : thingB ys with
  | true =>
    have Ht := hide ht
    clear ht
    have fd := field1
    go_enter Try.func26, Try.ntmps26
    go_wp2_with fail
    go_region_with (first
      | (go_at_call 60; refine (isThing_calls b lb cb ys _ hlb ?_).mono ?_; exact hy.below M0.drew.bel (Nat.le_refl _); rintro e w1 ⟨rfl, hb1⟩; rw [Ht.out]; have M1 := M0.drew.below hb1; have cB1 := M1.cell 0 rfl; have cA1 := M1.cell 1 rfl; clear hb1)
      | (go_at_call 61; refine (implHighLabel_calls a la ca xs _ hla ?_).mono ?_; exact hx.below M1.bel (Nat.le_refl _); rintro e w2 ⟨ra, rn, rc, rfl, ho, hb2⟩; have M2 := M1.below hb2; have cB2 := M2.cell 0 rfl; have hrm : rn ≤ maxLen := Nat.le_trans ho.2.1 (by unfold maxLen; omega); clear hb2)
      | (go_at_call 25; refine (implIsBelow_calls _ _ _ _ _ _ ys (resOf (fault xs) (highL xs)) _ hlb hrm ?_ ?_).mono ?_; exact hy.below M2.bel (Nat.le_refl _); exact ho.sl; rintro e w3 ⟨rfl, hb3⟩; have M3 := M2.below hb3; clear hb3))
    all_goals go_wp2
    all_goals go_ret
    all_goals exact ⟨ret_bool (by simp), M3.bel⟩
  | false =>
    have Ht := hide ht
    clear ht
    go_enter Try.func26, Try.ntmps26
    go_wp2_with fail
    go_region_with (first
      | (go_at_call 60; refine (isThing_calls b lb cb ys _ hlb ?_).mono ?_; exact hy.below M0.drew.bel (Nat.le_refl _); rintro e w1 ⟨rfl, hb1⟩; rw [Ht.out]; have M1 := M0.drew.below hb1; clear hb1))
    all_goals go_wp2
    all_goals go_ret
    all_goals exact ⟨ret_bool (by simp), M1.bel⟩

def modB (who what : List Int) : Bool := ((fault who == 0) && (fault what == 0)) && ((thing0 what && belowB what (highL who)) && belowB who what)

theorem modB_eq (xs ys : List Int) : modB xs ys = (obsB xs ys && isBelowB xs ys) := by
  unfold modB obsB isBelowB
  cases (fault xs == 0) <;> cases (fault ys == 0) <;> simp

set_option maxRecDepth 100000 in
theorem implCanModify_calls (a b : Option Addr) (la ca lb cb : Nat) (xs ys : List Int) (w : World) (hla : la ≤ maxLen) (hlb : lb ≤ maxLen) (hx : Sl w a la xs) (hy : Sl w b lb ys) :
    Calls Try.prog 97 #[.agg #[.slice a la ca], .agg #[.slice b lb cb]] w fun e w' => e = .returned (.bool (modB xs ys)) ∧ Below w.heap.size w w' := by
  have M0 := ((Mem.start w).alloc1 (.slice a la ca) 41).alloc1 (.slice b lb cb) 41
  simp only [World.size_alloc] at M0
  have hb0 := M0.bel
  rw [modB_eq]
  cases ho : obsB xs ys with
  | true =>
    have Ho := hide ho
    clear ho
    go_enter Try.func97, Try.ntmps97
    go_wp2_with fail
    refine (implCanObserve_calls a b la ca lb cb xs ys _ hla hlb (hx.below hb0 (Nat.le_refl _)) (hy.below hb0 (Nat.le_refl _))).mono ?_
    rintro e w1 ⟨rfl, hb⟩
    rw [Ho.out]
    have M1 := M0.below hb
    have cA := M1.cell 1 rfl
    have cB := M1.cell 0 rfl
    clear hb M0 hb0
    go_wp2_with fail
    refine (implIsBelow_calls a b la ca lb cb xs ys _ hla hlb (hx.below M1.bel (Nat.le_refl _)) (hy.below M1.bel (Nat.le_refl _))).mono ?_
    rintro e w2 ⟨rfl, hb⟩
    have M2 := M1.below hb
    go_wp2
    go_ret
    exact ⟨ret_bool (by simp), M2.bel⟩
  | false =>
    have Ho := hide ho
    clear ho
    go_enter Try.func97, Try.ntmps97
    go_wp2_with fail
    refine (implCanObserve_calls a b la ca lb cb xs ys _ hla hlb (hx.below hb0 (Nat.le_refl _)) (hy.below hb0 (Nat.le_refl _))).mono ?_
    rintro e w1 ⟨rfl, hb⟩
    rw [Ho.out]
    have M1 := M0.below hb
    go_wp2
    go_ret
    exact ⟨rfl, M1.bel⟩

set_option maxRecDepth 100000 in
theorem lastTag_calls (P : Nat) (a : Option Addr) (n c : Nat) (w : World) (_hn : n ≤ 10) (hc : w.cell? ⟨P, 2, none⟩ = some (.slice a n c)) :
    Calls Try.prog 96 #[.pointer (some ⟨P, 0, none⟩)] w fun e w' => e = .returned (.int .i64 ((n : Int))) ∧ w' = w := by
  go_enter Try.func96, Try.ntmps96
  go_wp2
  go_ret
  exact ⟨rfl, rfl⟩

set_option maxRecDepth 100000 in
set_option maxHeartbeats 1000000 in
theorem tagLabel_calls (P M n : Nat) (ss : List (Int × List Int)) (D : DataW Unit) (a : Option Addr) (l c : Nat) (ts : List Int) (p : Int) (w : World) (hb : Bk w P M (ss.length : Int) n D) (good : Good ss) (rep : Rep ss D) (ct : w.cell? ⟨P, 2, none⟩ = some (.slice a l c)) (hts : Sl w a l ts) (hl : l ≤ 10) (h1 : allS ss ts = true) :
    Calls Try.prog 56 #[.pointer (some ⟨P, 0, none⟩), .int .i64 p] w fun e w' => ∃ ra rn rc, e = .returned (.agg #[.int .i64 (inC ts (p - 1)), .slice ra rn rc]) ∧ OS (InR w.heap.size w'.heap.size) ra rn (inL ss ts (p - 1)) w' ∧ Below w.heap.size w w' := by
  have hP := hb.lt
  obtain ⟨hlen, hts⟩ := hts
  have M0 := (Mm.start w).alloc2 (.int .i64 0) (.slice none 0 0) 55
  have al := (Below.refl w.heap.size w).alloc (Nat.le_refl _) (.cells #[.int .i64 0, .slice none 0 0] 55)
  have ct0 := (al.cell (p := ⟨P, 2, none⟩) hP).trans ct
  have hb0 := hb.below al
  by_cases hin : 0 ≤ p - 1 ∧ p - 1 < (l : Int)
  · obtain ⟨j, hj⟩ : ∃ j : Nat, p - 1 = (j : Int) := ⟨(p - 1).toNat, by omega⟩
    obtain rfl : p = (j : Int) + 1 := by omega
    have hjl : j < l := by omega
    obtain ⟨b, off, rfl, hbb, hc⟩ := hts (by omega)
    have ck := (al.cell (p := ⟨b, off + j, none⟩) hbb).trans (hc j hjl)
    rw [hj]
    have HC := hide (inC_yes (l := ts) (j := j) (by omega))
    have HL := hide (inL_yes (ss := ss) (l := ts) (j := j) (by omega))
    have HA := hide (atC_all h1 (j := j) (by omega))
    have n1 : ¬ ((j : Int) + 1 ≤ 0) := by omega
    have n2 : ¬ ((l : Int) < (j : Int) + 1) := by omega
    have j0 : (0 : Int) ≤ (j : Int) := by omega
    have j1 : (j : Int) < (l : Int) := by omega
    have hj10 : (j : Int) ≤ 10 := by omega
    have hjw : IntKind.i64.wrap (j : Int) = (j : Int) := IntWalk.i64_in _ (by omega)
    have HM0 := hide M0
    have HB0 := hide hb0
    clear M0 al hb0 hin hj
    go_enter Try.func56, Try.ntmps56
    go_wp2_with fail
    refine (lastTag_calls P _ l c _ hl ct0).mono ?_
    rintro e w1 ⟨rfl, rfl⟩
    go_wp2_with fail
    go_region_with (first
      | (go_at_call 79; refine (labelAt_calls P M n (gt ts j) ss D _ (HB0.out.below ((Below.refl _ _).drew)) good rep).mono ?_; rintro e w2 ⟨ra, rn, rc, rfl, o2, g2⟩; have h2 := ((Below.refl (w.alloc (.cells #[.int .i64 0, .slice none 0 0] 55)).heap.size (w.alloc (.cells #[.int .i64 0, .slice none 0 0] 55))).drew).trans g2; have M2 := HM0.out.below h2; have r0 := M2.cell 0 rfl; have r1 := M2.cell 1 rfl; have f0 := M2.fz 0 rfl; have f1 := M2.fz 1 rfl; have HB2 := hide M2.bel; have HO := hide o2; rw [HA.out]; clear g2 h2 M2 o2))
    all_goals go_wp2
    all_goals refine bodyPost_ret (v := .agg #[.int .i64 0, .slice ra rn rc]) (by simp [results, Try.results56, go_sem, r0, r1]) rfl ⟨ra, rn, rc, by rw [HC.out], ?_, (HB2.out.setCell (Nat.le_refl _) _).setCell (Nat.le_refl _) _⟩
    all_goals rw [HL.out]
    all_goals exact (OS.loc w2 _ (fun k hk _ => by rw [Below.heap_setCell _ _ _ _ (fun e => by have := hk.1; simp at e this; omega), Below.heap_setCell _ _ _ _ (fun e => by have := hk.1; simp at e this; omega)]) HO.out).mono (fun k hk => ⟨by have := hk.1; simp at this; omega, by simpa using hk.2⟩)
  · have HC := hide (inC_no (l := ts) (i := p - 1) (by omega))
    have HL := hide (inL_no (ss := ss) (l := ts) (i := p - 1) (by omega))
    have HB := hide M0.bel
    by_cases h0 : p ≤ 0
    · go_enter Try.func56, Try.ntmps56
      clear M0 al hb0 hin
      go_wp2
      refine bodyPost_ret (v := .agg #[.int .i64 4, .slice none 0 0]) (by simp [results, Try.results56, go_sem]) rfl ⟨_, 0, 0, by rw [HC.out], ⟨by rw [HL.out]; rfl, by omega, .inl rfl⟩, (Below.refl _ _).alloc (Nat.le_refl _) _⟩
    · have h2 : (l : Int) < p := by omega
      go_enter Try.func56, Try.ntmps56
      clear M0 al hb0 hin
      go_wp2_with fail
      refine (lastTag_calls P _ l c _ hl ct0).mono ?_
      rintro e w1 ⟨rfl, rfl⟩
      go_wp2
      refine bodyPost_ret (v := .agg #[.int .i64 4, .slice none 0 0]) (by simp [results, Try.results56, go_sem]) rfl ⟨_, 0, 0, by rw [HC.out], ⟨by rw [HL.out]; rfl, by omega, .inl rfl⟩, (Below.refl _ _).alloc (Nat.le_refl _) _⟩

set_option maxRecDepth 100000 in
theorem lastDomain_calls (P : Nat) (a : Option Addr) (n c : Nat) (w : World) (_hn : n ≤ 10) (hc : w.cell? ⟨P, 3, none⟩ = some (.slice a n c)) :
    Calls Try.prog 78 #[.pointer (some ⟨P, 0, none⟩)] w fun e w' => e = .returned (.int .i64 ((n : Int) - 1)) ∧ w' = w := by
  go_enter Try.func78, Try.ntmps78
  go_wp2
  go_ret
  exact ⟨rfl, rfl⟩

set_option maxRecDepth 100000 in
set_option maxHeartbeats 1000000 in
theorem domainLabel_calls (P M n : Nat) (ss : List (Int × List Int)) (D : DataW Unit) (a : Option Addr) (l c : Nat) (ts : List Int) (p : Int) (w : World) (hb : Bk w P M (ss.length : Int) n D) (good : Good ss) (rep : Rep ss D) (ct : w.cell? ⟨P, 3, none⟩ = some (.slice a l c)) (hts : Sl w a l ts) (hl : l ≤ 10) (h1 : allS ss ts = true) :
    Calls Try.prog 40 #[.pointer (some ⟨P, 0, none⟩), .int .i64 p] w fun e w' => ∃ ra rn rc, e = .returned (.agg #[.int .i64 (inC ts (p)), .slice ra rn rc]) ∧ OS (InR w.heap.size w'.heap.size) ra rn (inL ss ts (p)) w' ∧ Below w.heap.size w w' := by
  have hP := hb.lt
  obtain ⟨hlen, hts⟩ := hts
  have M0 := (Mm.start w).alloc2 (.int .i64 0) (.slice none 0 0) 55
  have al := (Below.refl w.heap.size w).alloc (Nat.le_refl _) (.cells #[.int .i64 0, .slice none 0 0] 55)
  have ct0 := (al.cell (p := ⟨P, 3, none⟩) hP).trans ct
  have hb0 := hb.below al
  by_cases hin : 0 ≤ p ∧ p < (l : Int)
  · obtain ⟨j, hj⟩ : ∃ j : Nat, p = (j : Int) := ⟨(p).toNat, by omega⟩
    obtain rfl : p = (j : Int) := by omega
    have hjl : j < l := by omega
    obtain ⟨b, off, rfl, hbb, hc⟩ := hts (by omega)
    have ck := (al.cell (p := ⟨b, off + j, none⟩) hbb).trans (hc j hjl)
    rw [hj]
    have HC := hide (inC_yes (l := ts) (j := j) (by omega))
    have HL := hide (inL_yes (ss := ss) (l := ts) (j := j) (by omega))
    have HA := hide (atC_all h1 (j := j) (by omega))
    have n1 : ¬ ((j : Int) < 0) := by omega
    have n2 : ¬ ((l : Int) - 1 < (j : Int)) := by omega
    have j0 : (0 : Int) ≤ (j : Int) := by omega
    have j1 : (j : Int) < (l : Int) := by omega
    have hj10 : (j : Int) ≤ 10 := by omega
    have hjw : IntKind.i64.wrap (j : Int) = (j : Int) := IntWalk.i64_in _ (by omega)
    have HM0 := hide M0
    have HB0 := hide hb0
    clear M0 al hb0 hin hj
    go_enter Try.func40, Try.ntmps40
    go_wp2_with fail
    refine (lastDomain_calls P _ l c _ hl ct0).mono ?_
    rintro e w1 ⟨rfl, rfl⟩
    go_wp2_with fail
    go_region_with (first
      | (go_at_call 79; refine (labelAt_calls P M n (gt ts j) ss D _ (HB0.out.below ((Below.refl _ _).drew)) good rep).mono ?_; rintro e w2 ⟨ra, rn, rc, rfl, o2, g2⟩; have h2 := ((Below.refl (w.alloc (.cells #[.int .i64 0, .slice none 0 0] 55)).heap.size (w.alloc (.cells #[.int .i64 0, .slice none 0 0] 55))).drew).trans g2; have M2 := HM0.out.below h2; have r0 := M2.cell 0 rfl; have r1 := M2.cell 1 rfl; have f0 := M2.fz 0 rfl; have f1 := M2.fz 1 rfl; have HB2 := hide M2.bel; have HO := hide o2; rw [HA.out]; clear g2 h2 M2 o2))
    all_goals go_wp2
    all_goals refine bodyPost_ret (v := .agg #[.int .i64 0, .slice ra rn rc]) (by simp [results, Try.results40, go_sem, r0, r1]) rfl ⟨ra, rn, rc, by rw [HC.out], ?_, (HB2.out.setCell (Nat.le_refl _) _).setCell (Nat.le_refl _) _⟩
    all_goals rw [HL.out]
    all_goals exact (OS.loc w2 _ (fun k hk _ => by rw [Below.heap_setCell _ _ _ _ (fun e => by have := hk.1; simp at e this; omega), Below.heap_setCell _ _ _ _ (fun e => by have := hk.1; simp at e this; omega)]) HO.out).mono (fun k hk => ⟨by have := hk.1; simp at this; omega, by simpa using hk.2⟩)
  · have HC := hide (inC_no (l := ts) (i := p) (by omega))
    have HL := hide (inL_no (ss := ss) (l := ts) (i := p) (by omega))
    have HB := hide M0.bel
    by_cases h0 : p < 0
    · go_enter Try.func40, Try.ntmps40
      clear M0 al hb0 hin
      go_wp2
      refine bodyPost_ret (v := .agg #[.int .i64 4, .slice none 0 0]) (by simp [results, Try.results40, go_sem]) rfl ⟨_, 0, 0, by rw [HC.out], ⟨by rw [HL.out]; rfl, by omega, .inl rfl⟩, (Below.refl _ _).alloc (Nat.le_refl _) _⟩
    · have h2 : (l : Int) - 1 < p := by omega
      go_enter Try.func40, Try.ntmps40
      clear M0 al hb0 hin
      go_wp2_with fail
      refine (lastDomain_calls P _ l c _ hl ct0).mono ?_
      rintro e w1 ⟨rfl, rfl⟩
      go_wp2
      refine bodyPost_ret (v := .agg #[.int .i64 4, .slice none 0 0]) (by simp [results, Try.results40, go_sem]) rfl ⟨_, 0, 0, by rw [HC.out], ⟨by rw [HL.out]; rfl, by omega, .inl rfl⟩, (Below.refl _ _).alloc (Nat.le_refl _) _⟩

set_option maxRecDepth 100000 in
theorem implDomainLabel_calls (a : Option Addr) (n c : Nat) (ss : List (Int × List Int)) (ta : Option Addr) (tn tc : Nat) (ts : List Int) (da : Option Addr) (dn dc : Nat) (ds : List Int) (p : Int) (w : World) (hrt : RT w a n ss ta tn ts da dn ds) :
    Calls Try.prog 20 #[.agg #[.slice a n c, .slice ta tn tc, .slice da dn dc], .int .i64 p] w fun e w' => ∃ ra rn rc, e = .returned (.agg #[.int .i64 (tgC ss ts ds ds (p)), .slice ra rn rc]) ∧ OS (InR w.heap.size w'.heap.size) ra rn (tgL ss ts ds ds (p)) w' ∧ Below w.heap.size w w' := by
  have M0 := ((Mm.start w).alloc3 (.slice a n c) (.slice ta tn tc) (.slice da dn dc) 36).alloc2 (.int .i64 0) (.slice none 0 0) 55
  simp only [World.size_alloc] at M0
  by_cases hf : tabF ss ts ds = 0
  · have ef : (tabF ss ts ds != 0) = false := by simp [hf]
    have HC := hide (tgC_ok (l := ds) (i := p) hf)
    have HL := hide (tgL_ok (l := ds) (i := p) hf)
    obtain ⟨hr, hm, hA1, hA2, _⟩ := tabF_zero hf
    have hml := many_len hm
    have Hf := hide hf
    clear hf hm
    go_enter Try.func20, Try.ntmps20
    go_wp2_with fail
    refine (openTables_calls a n c ss ta tn tc ts da dn dc ds _ (hrt.below M0.bel (Nat.le_refl _))).mono ?_
    rintro e w1 ⟨sz, mo, xa, xn, xc, ya, yn, yc, rfl, g1, hled⟩
    obtain ⟨rfl, M, X1, X2, X3, rfl, l1, l2, l3, l4, l5, own, ox, oy⟩ := hled Hf.out
    have M1 := (M0.below g1).alloc4 (.int .i64 (ss.length : Int)) (.map (some M)) (.slice xa xn xc) (.slice ya yn yc) 80
    have al := (Below.refl w1.heap.size w1).alloc (Nat.le_refl _) (.cells #[.int .i64 (ss.length : Int), .map (some M), .slice xa xn xc, .slice ya yn yc] 80)
    have hbk : Bk (w1.alloc (.cells #[.int .i64 (ss.length : Int), .map (some M), .slice xa xn xc, .slice ya yn yc] 80)) w1.heap.size M (ss.length : Int) ss.length (bk ss ss.length) := ⟨by simp, by simp, by simp, fun j => by simp, ownsMap_below own al (Nat.le_refl _)⟩
    have ox1 := OS.loc.below al ox
    have oy1 := OS.loc.below al oy
    have hxn := ox.1
    have hyn := oy.1
    have ctl := M1.cell 3 rfl
    clear g1 al ox oy own hled M0
    go_wp2_with fail
    refine (domainLabel_calls w1.heap.size M _ ss _ _ _ _ ds p _ hbk (good_of hr) (rep_bk hr) ctl oy1.sl (by omega) hA2).mono ?_
    rintro e w2 ⟨ra, rn, rc, rfl, os2, g2⟩
    have M2 := M1.below g2
    have r0 := M2.cell 4 rfl
    have r1 := M2.cell 5 rfl
    have f0 := M2.fz 4 rfl
    have f1 := M2.fz 5 rfl
    have hl1 := M1.lt 4 rfl
    have hB2 := M1.bel.size
    have HB := hide M2.bel
    have HO := hide os2
    clear M1 M2 g2 os2 hbk ctl ox1 oy1
    go_wp2
    refine bodyPost_ret (v := .agg #[.int .i64 (inC ds (p)), .slice ra rn rc]) (by simp [results, Try.results20, go_sem, r0, r1]) rfl ⟨ra, rn, rc, by rw [HC.out], ?_, (HB.out.setCell (by simp) _).setCell (by simp) _⟩
    rw [HL.out]
    exact (OS.loc w2 _ (fun k hk _ => by rw [Below.heap_setCell _ _ _ _ (fun e => by have := hk.1; simp at e; omega), Below.heap_setCell _ _ _ _ (fun e => by have := hk.1; simp at e; omega)]) HO.out).mono (fun k hk => ⟨by have := hk.1; omega, by simpa using hk.2⟩)
  · have ef : (tabF ss ts ds != 0) = true := by simp [hf]
    have HC := hide (tgC_bad (l := ds) (i := p) hf)
    have HL := hide (tgL_bad (l := ds) (i := p) hf)
    clear hf
    go_enter Try.func20, Try.ntmps20
    go_wp2_with fail
    refine (openTables_calls a n c ss ta tn tc ts da dn dc ds _ (hrt.below M0.bel (Nat.le_refl _))).mono ?_
    rintro e w1 ⟨sz, mo, xa, xn, xc, ya, yn, yc, rfl, g1, _⟩
    have M1 := (M0.below g1).alloc4 (.int .i64 sz) (.map mo) (.slice xa xn xc) (.slice ya yn yc) 80
    have r0 := M1.cell 4 rfl
    have r1 := M1.cell 5 rfl
    have f0 := M1.fz 4 rfl
    have f1 := M1.fz 5 rfl
    have HB := hide M1.bel
    clear M0 M1 g1
    go_wp2
    refine bodyPost_ret (v := .agg #[.int .i64 (tabF ss ts ds), .slice none 0 0]) (by simp [results, Try.results20, go_sem, r0, r1]) rfl ⟨_, 0, 0, by rw [HC.out], ⟨by rw [HL.out]; rfl, by omega, .inl rfl⟩, (HB.out.setCell (by simp) _).setCell (by simp) _⟩

set_option maxRecDepth 100000 in
theorem l3HasDomain_calls (q : Nat) (a : Option Addr) (n c : Nat) (p : Int) (w : World) (_hn : n ≤ 10) (hc : w.cell? ⟨q, 2, none⟩ = some (.slice a n c)) :
    Calls Try.prog 32 #[.pointer (some ⟨q, 0, none⟩), .int .i64 p] w fun e w' => e = .returned (.bool (decide (0 ≤ p ∧ p < (n : Int)))) ∧ Below w.heap.size w w' := by
  go_enter Try.func32, Try.ntmps32
  go_wp2_with fail
  refine (in_calls _ _ _ _).mono ?_
  rintro e w1 ⟨rfl, g1⟩
  go_wp2
  go_ret
  exact ⟨ret_bool (by rw [Bool.eq_iff_iff]; simp; omega), g1⟩

set_option maxRecDepth 100000 in
theorem l3Domain_calls (q : Nat) (a : Option Addr) (n ca : Nat) (ss : List (Int × List Int)) (ta : Option Addr) (tl tc : Nat) (ts : List Int) (j : Nat) (w : World) (good : Good ss) (htl : tl ≤ 10) (hqc : w.cell? ⟨q, 0, none⟩ = some (.slice a n ca)) (hqt : w.cell? ⟨q, 2, none⟩ = some (.slice ta tl tc)) (hx : Sls w a n ss) (ht : Sl w ta tl ts) (h1 : allS ss ts = true) (hj : j < tl) :
    Calls Try.prog 55 #[.pointer (some ⟨q, 0, none⟩), .int .i64 ((j : Int))] w fun e w' => ∃ b o la ll lc, e = .returned (.pointer (some ⟨b, o, none⟩)) ∧ b < w.heap.size ∧ w.cell? ⟨b, o, none⟩ = some (.slice la ll lc) ∧ ll ≤ 4 ∧ Sl w la ll (atL ss (gt ts j)) ∧ Below w.heap.size w w' := by
  have hlen := hx.1
  have few := good.few
  have htlen := ht.1
  obtain ⟨b, off, rfl, hbb, hc⟩ := ht.2 (by omega)
  obtain ⟨s, hs, hsl, hsp, hsa⟩ := allS_at good h1 (j := j) (by omega)
  have ck := hc j hj
  rw [hs] at ck
  obtain ⟨b1, o1, rfl, hb1, hc1⟩ := hx.2 (by omega)
  obtain ⟨_, la, ll, lc, k1, kl, ksl⟩ := hc1 s (by omega)
  have h4 : ll ≤ 4 := by rw [← ksl.1, fault_len (good.right s hsl hsp)]; omega
  have i0 : (0 : Int) ≤ (s : Int) := by omega
  have i1 : (s : Int) < (n : Int) := by omega
  have j0 : (0 : Int) ≤ (j : Int) := by omega
  have j1 : (j : Int) < (tl : Int) := by omega
  have HK := hide k1
  have HS := hide ksl
  have HA := hide hsa
  clear k1 ksl hc1 hc hx ht hsa
  go_enter Try.func55, Try.ntmps55
  go_wp2_with fail
  go_quiet (fail)
  go_wp2
  go_ret
  exact ⟨b1, o1 + s * 2 + 1, la, ll, lc, rfl, hb1, HK.out, h4, by rw [HA.out]; exact HS.out, bdrewN (Below.refl _ _) _⟩

set_option maxRecDepth 100000 in
theorem specDomainLabel_calls (a : Option Addr) (n c : Nat) (ss : List (Int × List Int)) (ta : Option Addr) (tn tc : Nat) (ts : List Int) (da : Option Addr) (dn dc : Nat) (ds : List Int) (p : Int) (w : World) (hrt : RT w a n ss ta tn ts da dn ds) :
    Calls Try.prog 21 #[.agg #[.slice a n c, .slice ta tn tc, .slice da dn dc], .int .i64 p] w fun e w' => ∃ ra rn rc, e = .returned (.agg #[.int .i64 (tgC ss ts ds ds (p)), .slice ra rn rc]) ∧ OS (InR w.heap.size w'.heap.size) ra rn (tgL ss ts ds ds (p)) w' ∧ Below w.heap.size w w' := by
  have M0 := ((Mm.start w).alloc3 (.slice a n c) (.slice ta tn tc) (.slice da dn dc) 36).alloc2 (.int .i64 0) (.slice none 0 0) 55
  simp only [World.size_alloc] at M0
  have hrt0 := hrt.below M0.bel (Nat.le_refl _)
  have hlx := hrt.2.2.2.2.2.1
  by_cases hf : tabF ss ts ds = 0
  · have ef : (tabF ss ts ds != 0) = false := by simp [hf]
    have HC := hide (tgC_ok (l := ds) (i := p) hf)
    have HL := hide (tgL_ok (l := ds) (i := p) hf)
    obtain ⟨hr, hm, hA1, hA2, _⟩ := tabF_zero hf
    have hml := many_len hm
    have good := good_of hr
    clear hf hm
    by_cases hin : 0 ≤ p ∧ p < (dn : Int)
    · have hd : decide (0 ≤ p ∧ p < (dn : Int)) = true := decide_eq_true hin
      obtain ⟨j, hj⟩ : ∃ j : Nat, p = (j : Int) := ⟨(p).toNat, by omega⟩
      obtain rfl : p = (j : Int) := by omega
      have HC2 : Hid (inC ds ((j : Int)) = 0) := by show _ = _; rw [hj]; exact inC_yes (by omega)
      have HL2 : Hid (inL ss ds ((j : Int)) = atL ss (gt ds j)) := by show _ = _; rw [hj]; exact inL_yes (by omega)
      have hjn : j < dn := by omega
      clear hin hj
      go_enter Try.func21, Try.ntmps21
      go_wp2_with fail
      refine (l3Fault_calls _ a n c ss ta tn tc ts da dn dc ds _ (M0.lt 2 rfl) (M0.cell 2 rfl) (M0.cell 3 rfl) (M0.cell 4 rfl) hrt0).mono ?_
      rintro e w1 ⟨rfl, g1⟩
      have M1 := M0.below g1
      have hrt1 := hrt0.below g1 (Nat.le_refl _)
      clear g1 M0 hrt0
      go_wp2_with fail
      refine (l3HasDomain_calls _ da dn dc _ _ (by omega) (M1.cell 4 rfl)).mono ?_
      rintro e w2 ⟨rfl, g2⟩
      rw [hd]
      have M2 := M1.below g2
      have hrt2 := hrt1.below g2 (Nat.le_refl _)
      clear g2 M1 hrt1 hd
      go_wp2_with fail
      refine (l3Domain_calls _ a n c ss da dn dc ds j _ good (by omega) (M2.cell 2 rfl) (M2.cell 4 rfl) hrt2.2.1 hrt2.2.2.2.2.2 hA2 hjn).mono ?_
      rintro e w3 ⟨b, o, la, ll, lc, rfl, hb, cb, h4, ksl, g3⟩
      have M3 := M2.below g3
      have cb3 := (g3.cell (p := ⟨b, o, none⟩) hb).trans cb
      have ksl3 := ksl.below g3 (Nat.le_refl _)
      clear g3 M2 hrt2 cb ksl
      go_wp2_with fail
      refine (l1Copy_O la ll lc _ _ (by omega) ksl3).mono ?_
      rintro e w4 ⟨ra, rc, rfl, os4, g4⟩
      have M4 := M3.below g4
      have r0 := M4.cell 0 rfl
      have r1 := M4.cell 1 rfl
      have f0 := M4.fz 0 rfl
      have f1 := M4.fz 1 rfl
      have hl3 := M3.lt 0 rfl
      have hB3 := M3.bel.size
      have HB := hide M4.bel
      have HO := hide os4
      clear M3 M4 g4 os4 cb3 ksl3
      go_wp2
      refine bodyPost_ret (v := .agg #[.int .i64 0, .slice ra ll rc]) (by simp [results, Try.results21, go_sem, r0, r1]) rfl ⟨ra, ll, rc, by rw [HC.out, HC2.out], ?_, (HB.out.setCell (by simp) _).setCell (by simp) _⟩
      rw [HL.out, HL2.out]
      exact (OS.loc w4 _ (fun k hk _ => by rw [Below.heap_setCell _ _ _ _ (fun e => by have := hk.1; simp at e; omega), Below.heap_setCell _ _ _ _ (fun e => by have := hk.1; simp at e; omega)]) HO.out).mono (fun k hk => ⟨by have := hk.1; omega, by simpa using hk.2⟩)
    · have hd : decide (0 ≤ p ∧ p < (dn : Int)) = false := decide_eq_false hin
      have HC2 := hide (inC_no (l := ds) (i := p) (by omega))
      have HL2 := hide (inL_no (ss := ss) (l := ds) (i := p) (by omega))
      clear hin
      go_enter Try.func21, Try.ntmps21
      go_wp2_with fail
      refine (l3Fault_calls _ a n c ss ta tn tc ts da dn dc ds _ (M0.lt 2 rfl) (M0.cell 2 rfl) (M0.cell 3 rfl) (M0.cell 4 rfl) hrt0).mono ?_
      rintro e w1 ⟨rfl, g1⟩
      have M1 := M0.below g1
      clear g1 M0 hrt0
      go_wp2_with fail
      refine (l3HasDomain_calls _ da dn dc _ _ (by omega) (M1.cell 4 rfl)).mono ?_
      rintro e w2 ⟨rfl, g2⟩
      rw [hd]
      have M2 := M1.below g2
      have r0 := M2.cell 0 rfl
      have r1 := M2.cell 1 rfl
      have f0 := M2.fz 0 rfl
      have f1 := M2.fz 1 rfl
      have HB := hide M2.bel
      clear g2 M1 M2 hd
      go_wp2
      refine bodyPost_ret (v := .agg #[.int .i64 4, .slice none 0 0]) (by simp [results, Try.results21, go_sem, r0, r1]) rfl ⟨_, 0, 0, by rw [HC.out, HC2.out], ⟨by rw [HL.out, HL2.out]; rfl, by omega, .inl rfl⟩, (HB.out.setCell (by simp) _).setCell (by simp) _⟩
  · have ef : (tabF ss ts ds != 0) = true := by simp [hf]
    have HC := hide (tgC_bad (l := ds) (i := p) hf)
    have HL := hide (tgL_bad (l := ds) (i := p) hf)
    clear hf
    go_enter Try.func21, Try.ntmps21
    go_wp2_with fail
    refine (l3Fault_calls _ a n c ss ta tn tc ts da dn dc ds _ (M0.lt 2 rfl) (M0.cell 2 rfl) (M0.cell 3 rfl) (M0.cell 4 rfl) hrt0).mono ?_
    rintro e w1 ⟨rfl, g1⟩
    have M1 := M0.below g1
    have r0 := M1.cell 0 rfl
    have r1 := M1.cell 1 rfl
    have f0 := M1.fz 0 rfl
    have f1 := M1.fz 1 rfl
    have HB := hide M1.bel
    clear M0 M1 g1 hrt0
    go_wp2
    refine bodyPost_ret (v := .agg #[.int .i64 (tabF ss ts ds), .slice none 0 0]) (by simp [results, Try.results21, go_sem, r0, r1]) rfl ⟨_, 0, 0, by rw [HC.out], ⟨by rw [HL.out]; rfl, by omega, .inl rfl⟩, (HB.out.setCell (by simp) _).setCell (by simp) _⟩

def permV (who what : List Int) : Int := if modB who what = true then 7 else if obsB who what = true then 5 else 0

def pmC (ss : List (Int × List Int)) (ts ds : List Int) (d t : Int) : Int := if tabF ss ts ds = 0 then (if inC ds d = 0 then (if t = 0 then 0 else inC ts (t - 1)) else 4) else tabF ss ts ds

def pmV (ss : List (Int × List Int)) (ts ds : List Int) (d t : Int) : Int := if pmC ss ts ds d t = 0 then (if t = 0 then 0 else permV (inL ss ds d) (inL ss ts (t - 1))) else 0

theorem atL_right {ss : List (Int × List Int)} (good : Good ss) {l : List Int} (h : allS ss l = true) {j : Nat} (hj : j < l.length) : fault (atL ss (gt l j)) = 0 := by
  obtain ⟨q, _, hl, hp, e⟩ := allS_at good h hj
  rw [e]
  exact good.right q hl hp

theorem perm_right {xs ys : List Int} (hx : fault xs = 0) (hy : fault ys = 0) : obsB xs ys = (thing0 ys && belowB ys (highL xs)) ∧ modB xs ys = ((thing0 ys && belowB ys (highL xs)) && belowB xs ys) := by
  unfold obsB modB
  rw [hx, hy]
  simp

set_option maxRecDepth 100000 in
theorem permBetween_calls (a b : Option Addr) (la ca lb cb : Nat) (xs ys : List Int) (w : World) (hla : la ≤ maxLen) (hlb : lb ≤ maxLen) (hx : Sl w a la xs) (hy : Sl w b lb ys) :
    Calls Try.prog 57 #[.agg #[.slice a la ca], .agg #[.slice b lb cb]] w fun e w' => e = .returned (.int .i64 (permV xs ys)) ∧ Below w.heap.size w w' := by
  have M0 := ((Mm.start w).alloc1 (.slice a la ca) 41).alloc1 (.slice b lb cb) 41
  simp only [World.size_alloc] at M0
  cases hm : modB xs ys with
  | true =>
    have HV : Hid (permV xs ys = 7) := if_pos hm
    go_enter Try.func57, Try.ntmps57
    go_wp2_with fail
    refine (implCanModify_calls a b la ca lb cb xs ys _ hla hlb (hx.below M0.bel (Nat.le_refl _)) (hy.below M0.bel (Nat.le_refl _))).mono ?_
    rintro e w1 ⟨rfl, g1⟩
    rw [hm]
    have HE := hide (M0.below g1).bel
    clear g1 M0 hm
    go_wp2
    go_ret
    exact ⟨ret_int HV.out.symm, HE.out⟩
  | false =>
    cases ho : obsB xs ys with
    | true =>
      have HV : Hid (permV xs ys = 5) := by show _ = _; unfold permV; rw [hm, ho]; rfl
      go_enter Try.func57, Try.ntmps57
      go_wp2_with fail
      refine (implCanModify_calls a b la ca lb cb xs ys _ hla hlb (hx.below M0.bel (Nat.le_refl _)) (hy.below M0.bel (Nat.le_refl _))).mono ?_
      rintro e w1 ⟨rfl, g1⟩
      rw [hm]
      have M1 := M0.below g1
      have p1 := M1.cell 1 rfl
      have q1 := M1.cell 0 rfl
      clear g1 M0 hm
      go_wp2_with fail
      refine (implCanObserve_calls a b la ca lb cb xs ys _ hla hlb (hx.below M1.bel (Nat.le_refl _)) (hy.below M1.bel (Nat.le_refl _))).mono ?_
      rintro e w2 ⟨rfl, g2⟩
      rw [ho]
      have HE := hide (M1.below g2).bel
      clear g2 M1 ho p1 q1
      go_wp2
      go_ret
      exact ⟨ret_int HV.out.symm, HE.out⟩
    | false =>
      have HV : Hid (permV xs ys = 0) := by show _ = _; unfold permV; rw [hm, ho]; rfl
      go_enter Try.func57, Try.ntmps57
      go_wp2_with fail
      refine (implCanModify_calls a b la ca lb cb xs ys _ hla hlb (hx.below M0.bel (Nat.le_refl _)) (hy.below M0.bel (Nat.le_refl _))).mono ?_
      rintro e w1 ⟨rfl, g1⟩
      rw [hm]
      have M1 := M0.below g1
      have p1 := M1.cell 1 rfl
      have q1 := M1.cell 0 rfl
      clear g1 M0 hm
      go_wp2_with fail
      refine (implCanObserve_calls a b la ca lb cb xs ys _ hla hlb (hx.below M1.bel (Nat.le_refl _)) (hy.below M1.bel (Nat.le_refl _))).mono ?_
      rintro e w2 ⟨rfl, g2⟩
      rw [ho]
      have HE := hide (M1.below g2).bel
      clear g2 M1 ho p1 q1
      go_wp2
      go_ret
      exact ⟨ret_int HV.out.symm, HE.out⟩



theorem pm_bad {ss : List (Int × List Int)} {ts ds : List Int} {d t : Int} (h : tabF ss ts ds ≠ 0) : pmC ss ts ds d t = tabF ss ts ds ∧ pmV ss ts ds d t = 0 := by
  have h1 : pmC ss ts ds d t = tabF ss ts ds := if_neg h
  exact ⟨h1, if_neg (by rw [h1]; exact h)⟩

theorem pm_nodom {ss : List (Int × List Int)} {ts ds : List Int} {d t : Int} (h : tabF ss ts ds = 0) (hd : inC ds d ≠ 0) : pmC ss ts ds d t = 4 ∧ pmV ss ts ds d t = 0 := by
  have h1 : pmC ss ts ds d t = 4 := by unfold pmC; rw [if_pos h, if_neg hd]
  exact ⟨h1, if_neg (by rw [h1]; decide)⟩

theorem pm_own {ss : List (Int × List Int)} {ts ds : List Int} {d : Int} (h : tabF ss ts ds = 0) (hd : inC ds d = 0) : pmC ss ts ds d 0 = 0 ∧ pmV ss ts ds d 0 = 0 := by
  have h1 : pmC ss ts ds d 0 = 0 := by unfold pmC; rw [if_pos h, if_pos hd, if_pos rfl]
  exact ⟨h1, by unfold pmV; rw [if_pos h1, if_pos rfl]⟩

theorem pm_notag {ss : List (Int × List Int)} {ts ds : List Int} {d t : Int} (h : tabF ss ts ds = 0) (hd : inC ds d = 0) (h0 : t ≠ 0) (ht : inC ts (t - 1) = 4) : pmC ss ts ds d t = 4 ∧ pmV ss ts ds d t = 0 := by
  have h1 : pmC ss ts ds d t = 4 := by unfold pmC; rw [if_pos h, if_pos hd, if_neg h0, ht]
  exact ⟨h1, if_neg (by rw [h1]; decide)⟩

theorem pm_yes {ss : List (Int × List Int)} {ts ds : List Int} {d t : Int} (h : tabF ss ts ds = 0) (hd : inC ds d = 0) (h0 : t ≠ 0) (ht : inC ts (t - 1) = 0) : pmC ss ts ds d t = 0 ∧ pmV ss ts ds d t = permV (inL ss ds d) (inL ss ts (t - 1)) := by
  have h1 : pmC ss ts ds d t = 0 := by unfold pmC; rw [if_pos h, if_pos hd, if_neg h0, ht]
  exact ⟨h1, by unfold pmV; rw [if_pos h1, if_neg h0]⟩

set_option maxRecDepth 100000 in
theorem implPermOf_calls (a : Option Addr) (n c : Nat) (ss : List (Int × List Int)) (ta : Option Addr) (tn tc : Nat) (ts : List Int) (da : Option Addr) (dn dc : Nat) (ds : List Int) (d t : Int) (w : World) (hrt : RT w a n ss ta tn ts da dn ds) :
    Calls Try.prog 23 #[.agg #[.slice a n c, .slice ta tn tc, .slice da dn dc], .int .i64 d, .int .i64 t] w fun e w' => e = .returned (.agg #[.int .i64 (pmC ss ts ds d t), .int .i64 (pmV ss ts ds d t)]) ∧ Below w.heap.size w w' := by
  have M0 := ((Mm.start w).alloc3 (.slice a n c) (.slice ta tn tc) (.slice da dn dc) 36).alloc2 (.int .i64 0) (.int .i64 0) 59
  simp only [World.size_alloc] at M0
  have hrt0 := hrt.below M0.bel (Nat.le_refl _)
  have htl := hrt.2.2.2.1.1
  have hdl := hrt.2.2.2.2.2.1
  by_cases hf : tabF ss ts ds = 0
  · have ef : (tabF ss ts ds != 0) = false := by simp [hf]
    obtain ⟨hr, hm, hA1, hA2, _⟩ := tabF_zero hf
    have hml := many_len hm
    have Hf := hide hf
    clear hf hm
    by_cases hd : inC ds d = 0
    · have ed : (inC ds d != 0) = false := by simp [hd]
      have HD := hide hd
      clear hd
      by_cases h0 : t = 0
      · subst h0
        have HP := hide (pm_own Hf.out HD.out)
        have e0 : ((0 : Int) == 0) = true := by simp
        go_enter Try.func23, Try.ntmps23
        go_wp2_with fail
        refine (openTables_calls a n c ss ta tn tc ts da dn dc ds _ hrt0).mono ?_
        rintro e w1 ⟨sz, mo, xa, xn, xc, ya, yn, yc, rfl, g1, hled⟩
        obtain ⟨rfl, M, X1, X2, X3, rfl, l1, l2, l3, l4, l5, own, ox, oy⟩ := hled Hf.out
        have M1 := (M0.below g1).alloc4 (.int .i64 (ss.length : Int)) (.map (some M)) (.slice xa xn xc) (.slice ya yn yc) 80
        have al := (Below.refl w1.heap.size w1).alloc (Nat.le_refl _) (.cells #[.int .i64 (ss.length : Int), .map (some M), .slice xa xn xc, .slice ya yn yc] 80)
        have hbk : Bk (w1.alloc (.cells #[.int .i64 (ss.length : Int), .map (some M), .slice xa xn xc, .slice ya yn yc] 80)) w1.heap.size M (ss.length : Int) ss.length (bk ss ss.length) := ⟨by simp, by simp, by simp, fun j => by simp, ownsMap_below own al (Nat.le_refl _)⟩
        have ox1 := OS.loc.below al ox
        have oy1 := OS.loc.below al oy
        have hxn := ox.1
        have hyn := oy.1
        clear g1 al ox oy own hled M0 hrt0
        go_wp2_with fail
        refine (domainLabel_calls w1.heap.size M _ ss _ _ _ _ ds d _ hbk (good_of hr) (rep_bk hr) (M1.cell 3 rfl) oy1.sl (by omega) hA2).mono ?_
        rintro e w2 ⟨ra, rn, rc, rfl, os2, g2⟩
        have M2 := (M1.below g2).alloc2 (.int .i64 (inC ds d)) (.slice ra rn rc) 55
        have al2 := (Below.refl w2.heap.size w2).alloc (Nat.le_refl _) (.cells #[.int .i64 (inC ds d), .slice ra rn rc] 55)
        have h12 := g2.trans (al2.mono g2.size)
        have hbk2 := hbk.below h12
        have ox2 := OS.loc.below h12 ox1
        have os2a := OS.loc.below al2 os2
        clear g2 al2 h12 hbk ox1 oy1 M1 os2
        have d0 := M2.cell 0 rfl
        clear hbk2 ox2 os2a
        have r0 := M2.cell 6 rfl
        have r1 := M2.cell 7 rfl
        have f0 := M2.fz 6 rfl
        have f1 := M2.fz 7 rfl
        have HB := hide M2.bel
        clear M2
        go_wp2
        refine bodyPost_ret (v := .agg #[.int .i64 (0), .int .i64 (0)]) (by simp [results, Try.results23, go_sem, r0, r1]) rfl ⟨by rw [HP.out.1, HP.out.2], (HB.out.setCell (by simp) _).setCell (by simp) _⟩
      · have e0 : (t == 0) = false := by simp [h0]
        by_cases ht : inC ts (t - 1) = 0
        · have et : (inC ts (t - 1) != 0) = false := by simp [ht]
          have HP := hide (pm_yes Hf.out HD.out h0 ht)
          clear h0 ht
          go_enter Try.func23, Try.ntmps23
          go_wp2_with fail
          refine (openTables_calls a n c ss ta tn tc ts da dn dc ds _ hrt0).mono ?_
          rintro e w1 ⟨sz, mo, xa, xn, xc, ya, yn, yc, rfl, g1, hled⟩
          obtain ⟨rfl, M, X1, X2, X3, rfl, l1, l2, l3, l4, l5, own, ox, oy⟩ := hled Hf.out
          have M1 := (M0.below g1).alloc4 (.int .i64 (ss.length : Int)) (.map (some M)) (.slice xa xn xc) (.slice ya yn yc) 80
          have al := (Below.refl w1.heap.size w1).alloc (Nat.le_refl _) (.cells #[.int .i64 (ss.length : Int), .map (some M), .slice xa xn xc, .slice ya yn yc] 80)
          have hbk : Bk (w1.alloc (.cells #[.int .i64 (ss.length : Int), .map (some M), .slice xa xn xc, .slice ya yn yc] 80)) w1.heap.size M (ss.length : Int) ss.length (bk ss ss.length) := ⟨by simp, by simp, by simp, fun j => by simp, ownsMap_below own al (Nat.le_refl _)⟩
          have ox1 := OS.loc.below al ox
          have oy1 := OS.loc.below al oy
          have hxn := ox.1
          have hyn := oy.1
          clear g1 al ox oy own hled M0 hrt0
          go_wp2_with fail
          refine (domainLabel_calls w1.heap.size M _ ss _ _ _ _ ds d _ hbk (good_of hr) (rep_bk hr) (M1.cell 3 rfl) oy1.sl (by omega) hA2).mono ?_
          rintro e w2 ⟨ra, rn, rc, rfl, os2, g2⟩
          have M2 := (M1.below g2).alloc2 (.int .i64 (inC ds d)) (.slice ra rn rc) 55
          have al2 := (Below.refl w2.heap.size w2).alloc (Nat.le_refl _) (.cells #[.int .i64 (inC ds d), .slice ra rn rc] 55)
          have h12 := g2.trans (al2.mono g2.size)
          have hbk2 := hbk.below h12
          have ox2 := OS.loc.below h12 ox1
          have os2a := OS.loc.below al2 os2
          clear g2 al2 h12 hbk ox1 oy1 M1 os2
          have d0 := M2.cell 0 rfl
          go_wp2_with fail
          clear d0
          refine (tagLabel_calls w1.heap.size M _ ss _ _ _ _ ts t _ hbk2 (good_of hr) (rep_bk hr) (M2.cell 4 rfl) ox2.sl (by omega) hA1).mono ?_
          rintro e w3 ⟨sa, sn, sc, rfl, os3, g3⟩
          have M3 := (M2.below g3).alloc2 (.int .i64 (inC ts (t - 1))) (.slice sa sn sc) 55
          have al3 := (Below.refl w3.heap.size w3).alloc (Nat.le_refl _) (.cells #[.int .i64 (inC ts (t - 1)), .slice sa sn sc] 55)
          have h23 := g3.trans (al3.mono g3.size)
          have os2b := OS.loc.below h23 os2a
          have os3a := OS.loc.below al3 os3
          clear g3 al3 h23 hbk2 ox2 os2a os3 M2
          have d1 := M3.cell 3 rfl
          have k0 := M3.cell 0 rfl
          have k1 := M3.cell 1 rfl
          go_wp2_with fail
          clear d1 k0 k1
          refine (permBetween_calls ra sa rn rc sn sc _ _ _ (by have := os2b.2.1; unfold maxLen; omega) (by have := os3a.2.1; unfold maxLen; omega) os2b.sl os3a.sl).mono ?_
          rintro e w4 ⟨rfl, g4⟩
          have M4 := M3.below g4
          clear g4 M3 os2b os3a
          have r0 := M4.cell 8 rfl
          have r1 := M4.cell 9 rfl
          have f0 := M4.fz 8 rfl
          have f1 := M4.fz 9 rfl
          have HB := hide M4.bel
          clear M4
          go_wp2
          refine bodyPost_ret (v := .agg #[.int .i64 (0), .int .i64 (permV (inL ss ds d) (inL ss ts (t - 1)))]) (by simp [results, Try.results23, go_sem, r0, r1]) rfl ⟨by rw [HP.out.1, HP.out.2], (HB.out.setCell (by simp) _).setCell (by simp) _⟩
        · have et : (inC ts (t - 1) != 0) = true := by simp [ht]
          have h4 : inC ts (t - 1) = 4 := by unfold inC at ht ⊢; split; (rename_i h; rw [if_pos h] at ht; exact absurd rfl ht); rfl
          have HP := hide (pm_notag Hf.out HD.out h0 h4)
          clear h0 ht
          go_enter Try.func23, Try.ntmps23
          go_wp2_with fail
          refine (openTables_calls a n c ss ta tn tc ts da dn dc ds _ hrt0).mono ?_
          rintro e w1 ⟨sz, mo, xa, xn, xc, ya, yn, yc, rfl, g1, hled⟩
          obtain ⟨rfl, M, X1, X2, X3, rfl, l1, l2, l3, l4, l5, own, ox, oy⟩ := hled Hf.out
          have M1 := (M0.below g1).alloc4 (.int .i64 (ss.length : Int)) (.map (some M)) (.slice xa xn xc) (.slice ya yn yc) 80
          have al := (Below.refl w1.heap.size w1).alloc (Nat.le_refl _) (.cells #[.int .i64 (ss.length : Int), .map (some M), .slice xa xn xc, .slice ya yn yc] 80)
          have hbk : Bk (w1.alloc (.cells #[.int .i64 (ss.length : Int), .map (some M), .slice xa xn xc, .slice ya yn yc] 80)) w1.heap.size M (ss.length : Int) ss.length (bk ss ss.length) := ⟨by simp, by simp, by simp, fun j => by simp, ownsMap_below own al (Nat.le_refl _)⟩
          have ox1 := OS.loc.below al ox
          have oy1 := OS.loc.below al oy
          have hxn := ox.1
          have hyn := oy.1
          clear g1 al ox oy own hled M0 hrt0
          go_wp2_with fail
          refine (domainLabel_calls w1.heap.size M _ ss _ _ _ _ ds d _ hbk (good_of hr) (rep_bk hr) (M1.cell 3 rfl) oy1.sl (by omega) hA2).mono ?_
          rintro e w2 ⟨ra, rn, rc, rfl, os2, g2⟩
          have M2 := (M1.below g2).alloc2 (.int .i64 (inC ds d)) (.slice ra rn rc) 55
          have al2 := (Below.refl w2.heap.size w2).alloc (Nat.le_refl _) (.cells #[.int .i64 (inC ds d), .slice ra rn rc] 55)
          have h12 := g2.trans (al2.mono g2.size)
          have hbk2 := hbk.below h12
          have ox2 := OS.loc.below h12 ox1
          have os2a := OS.loc.below al2 os2
          clear g2 al2 h12 hbk ox1 oy1 M1 os2
          have d0 := M2.cell 0 rfl
          go_wp2_with fail
          clear d0
          refine (tagLabel_calls w1.heap.size M _ ss _ _ _ _ ts t _ hbk2 (good_of hr) (rep_bk hr) (M2.cell 4 rfl) ox2.sl (by omega) hA1).mono ?_
          rw [h4]
          rintro e w3 ⟨sa, sn, sc, rfl, os3, g3⟩
          have M3 := (M2.below g3).alloc2 (.int .i64 4) (.slice sa sn sc) 55
          have al3 := (Below.refl w3.heap.size w3).alloc (Nat.le_refl _) (.cells #[.int .i64 4, .slice sa sn sc] 55)
          have h23 := g3.trans (al3.mono g3.size)
          have os2b := OS.loc.below h23 os2a
          have os3a := OS.loc.below al3 os3
          clear g3 al3 h23 hbk2 ox2 os2a os3 M2
          have k0 := M3.cell 0 rfl
          clear os2b os3a
          have r0 := M3.cell 8 rfl
          have r1 := M3.cell 9 rfl
          have f0 := M3.fz 8 rfl
          have f1 := M3.fz 9 rfl
          have HB := hide M3.bel
          clear M3
          go_wp2
          refine bodyPost_ret (v := .agg #[.int .i64 (4), .int .i64 (0)]) (by simp [results, Try.results23, go_sem, r0, r1]) rfl ⟨by rw [HP.out.1, HP.out.2], (HB.out.setCell (by simp) _).setCell (by simp) _⟩
    · have ed : (inC ds d != 0) = true := by simp [hd]
      have h4 : inC ds d = 4 := by unfold inC at hd ⊢; split; (rename_i h; rw [if_pos h] at hd; exact absurd rfl hd); rfl
      have HP := hide (pm_nodom (t := t) Hf.out hd)
      clear hd
      go_enter Try.func23, Try.ntmps23
      go_wp2_with fail
      refine (openTables_calls a n c ss ta tn tc ts da dn dc ds _ hrt0).mono ?_
      rintro e w1 ⟨sz, mo, xa, xn, xc, ya, yn, yc, rfl, g1, hled⟩
      obtain ⟨rfl, M, X1, X2, X3, rfl, l1, l2, l3, l4, l5, own, ox, oy⟩ := hled Hf.out
      have M1 := (M0.below g1).alloc4 (.int .i64 (ss.length : Int)) (.map (some M)) (.slice xa xn xc) (.slice ya yn yc) 80
      have al := (Below.refl w1.heap.size w1).alloc (Nat.le_refl _) (.cells #[.int .i64 (ss.length : Int), .map (some M), .slice xa xn xc, .slice ya yn yc] 80)
      have hbk : Bk (w1.alloc (.cells #[.int .i64 (ss.length : Int), .map (some M), .slice xa xn xc, .slice ya yn yc] 80)) w1.heap.size M (ss.length : Int) ss.length (bk ss ss.length) := ⟨by simp, by simp, by simp, fun j => by simp, ownsMap_below own al (Nat.le_refl _)⟩
      have ox1 := OS.loc.below al ox
      have oy1 := OS.loc.below al oy
      have hxn := ox.1
      have hyn := oy.1
      clear g1 al ox oy own hled M0 hrt0
      go_wp2_with fail
      refine (domainLabel_calls w1.heap.size M _ ss _ _ _ _ ds d _ hbk (good_of hr) (rep_bk hr) (M1.cell 3 rfl) oy1.sl (by omega) hA2).mono ?_
      rw [h4]
      rintro e w2 ⟨ra, rn, rc, rfl, os2, g2⟩
      have M2 := (M1.below g2).alloc2 (.int .i64 4) (.slice ra rn rc) 55
      have al2 := (Below.refl w2.heap.size w2).alloc (Nat.le_refl _) (.cells #[.int .i64 4, .slice ra rn rc] 55)
      have h12 := g2.trans (al2.mono g2.size)
      have hbk2 := hbk.below h12
      have ox2 := OS.loc.below h12 ox1
      have os2a := OS.loc.below al2 os2
      clear g2 al2 h12 hbk ox1 oy1 M1 os2
      have d0 := M2.cell 0 rfl
      clear hbk2 ox2 os2a
      have r0 := M2.cell 6 rfl
      have r1 := M2.cell 7 rfl
      have f0 := M2.fz 6 rfl
      have f1 := M2.fz 7 rfl
      have HB := hide M2.bel
      clear M2
      go_wp2
      refine bodyPost_ret (v := .agg #[.int .i64 (4), .int .i64 (0)]) (by simp [results, Try.results23, go_sem, r0, r1]) rfl ⟨by rw [HP.out.1, HP.out.2], (HB.out.setCell (by simp) _).setCell (by simp) _⟩
  · have ef : (tabF ss ts ds != 0) = true := by simp [hf]
    have HP := hide (pm_bad (d := d) (t := t) hf)
    clear hf
    go_enter Try.func23, Try.ntmps23
    go_wp2_with fail
    refine (openTables_calls a n c ss ta tn tc ts da dn dc ds _ hrt0).mono ?_
    rintro e w1 ⟨sz, mo, xa, xn, xc, ya, yn, yc, rfl, g1, _⟩
    have M1 := (M0.below g1).alloc4 (.int .i64 sz) (.map mo) (.slice xa xn xc) (.slice ya yn yc) 80
    clear M0 g1 hrt0
    have r0 := M1.cell 4 rfl
    have r1 := M1.cell 5 rfl
    have f0 := M1.fz 4 rfl
    have f1 := M1.fz 5 rfl
    have HB := hide M1.bel
    clear M1
    go_wp2
    refine bodyPost_ret (v := .agg #[.int .i64 (tabF ss ts ds), .int .i64 (0)]) (by simp [results, Try.results23, go_sem, r0, r1]) rfl ⟨by rw [HP.out.1, HP.out.2], (HB.out.setCell (by simp) _).setCell (by simp) _⟩

end Go.Proofs.Ytgkjmeogdomgmaa
