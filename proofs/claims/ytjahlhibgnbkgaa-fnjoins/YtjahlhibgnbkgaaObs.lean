import Derived.Test.YtjahlhibgnbkgaaHigh
import Derived.Test.YtjahlhibgnbkgaaBelowImpl
import Derived.WalkKit
import Derived.ProofKit
import Derived.OpenShut
import Derived.ShutString
import Derived.ChangeOld
import Derived.Below
import Derived.WalkSpells
import Derived.Deep.QuietTactic
import Derived.BigQuiet
import Derived.Deep.RegionWith
import Derived.Deep.WholeRow
import Derived.Deep.DeepCutAuto
import Derived.Deep.RegionHeld2
import Derived.Deep.AppendLies
import Derived.Deep.RegionLaw
namespace Go.Proofs.Ytjahlhibgnbkgaa
open Go.ChangeShapes Go.WideShapes Go.ChangeAt Go.RowKit

def thing0 (zs : List Int) : Bool := !has zs 0 && !has zs 5

def obsB (who what : List Int) : Bool := ((fault who == 0) && (fault what == 0)) && (thing0 what && belowB what (highL who))

theorem thing0_no {zs : List Int} {k : Nat} (hk : k < zs.length) (h : gt zs k = 0 ∨ gt zs k = 5) : thing0 zs = false := by
  unfold thing0
  rcases h with h | h
  · rw [has_yes hk h]; rfl
  · rw [has_yes hk h]; simp

theorem thing0_yes {zs : List Int} (h : ∀ j, j < zs.length → gt zs j ≠ 0 ∧ gt zs j ≠ 5) : thing0 zs = true := by
  unfold thing0
  rw [has_no (fun j hj => (h j hj).1), has_no (fun j hj => (h j hj).2)]; rfl

theorem fault_highL {zs : List Int} (h : fault zs = 0) : fault (highL zs) = 0 := by
  have h4 := fault_len h
  apply fault_ok
  · rw [length_highL]; exact h4
  · rw [List.all_eq_true]
    intro z hz
    obtain ⟨j, hj, rfl⟩ := List.getElem_of_mem hz
    have hj' : j < zs.length := by rw [length_highL] at hj; exact hj
    have e : (highL zs)[j] = gt (highL zs) j := by simp [gt, hj]
    have hr := fault_all h j hj'
    rw [e, gt_highL zs j hj']
    unfold okI
    split
    · decide
    · simp; omega

set_option maxRecDepth 100000 in
theorem l1Thing_calls (p : Nat) (a : Option Addr) (cap : Nat) (zs : List Int) (w : World) (_hp : p < w.heap.size) (hpc : w.cell? ⟨p, 0, none⟩ = some (.slice a 4 cap)) (hs : Sl w a 4 zs) :
    Calls Try.prog 82 #[.pointer (some ⟨p, 0, none⟩)] w fun e w' => e = .returned (.bool (thing0 zs)) ∧ Below w.heap.size w w' := by
  obtain ⟨hlen, hs⟩ := hs
  obtain ⟨b, off, rfl, hb, hc⟩ := hs (by omega)
  go_enter Try.func82, Try.ntmps82
  go_wp2
  go_loop [3] (fun i => ∃ k : Nat, k ≤ 4 ∧ i = .int .i64 k ∧ ∀ j, j < k → gt zs j ≠ 0 ∧ gt zs j ≠ 5) (fun i => 4 - (intOf i).toNat)
  case atStart => exact ⟨0, Nat.zero_le _, rfl, fun j hj => by omega⟩
  case round =>
    obtain ⟨k, hk, rfl, hall⟩ := hrel
    have Hall : Hid (∀ j, j < k → gt zs j ≠ 0 ∧ gt zs j ≠ 5) := hall
    clear hall
    by_cases hlt : k < 4
    · have hck := hc k hlt
      by_cases he : gt zs k = 0
      · have hq : (gt zs k == 0) = true := by simp [he]
        have He := hide he
        clear he
        go_wp2
        go_ret
        exact ⟨ret_bool (thing0_no (k := k) (by omega) (.inl He.out)).symm, Below.refl _ _⟩
      · have hq : (gt zs k == 0) = false := by simp [he]
        have He := hide he
        clear he
        by_cases h5 : gt zs k = 5
        · have hq5 : (gt zs k == 5) = true := by simp [h5]
          have H5 := hide h5
          clear h5
          go_wp2
          go_ret
          exact ⟨ret_bool (thing0_no (k := k) (by omega) (.inr H5.out)).symm, Below.refl _ _⟩
        · have hq5 : (gt zs k == 5) = false := by simp [h5]
          have H5 := hide h5
          clear h5
          go_wp2
          go_round
          case rel => exact ⟨k + 1, by omega, by go_num, fun j hj => by (by_cases e : j = k); (subst e; exact ⟨He.out, H5.out⟩); exact Hall.out j (by omega)⟩
          case measure => simp [intOf]; omega
    · go_wp2
      go_ret
      exact ⟨ret_bool (thing0_yes (fun j hj => Hall.out j (by omega))).symm, Below.refl _ _⟩

set_option maxRecDepth 100000 in
theorem l1Observe_calls (p q : Nat) (a b : Option Addr) (ca cb : Nat) (xs ys : List Int) (w : World) (hp : p < w.heap.size) (hq : q < w.heap.size)
    (hpc : w.cell? ⟨p, 0, none⟩ = some (.slice a 4 ca)) (hqc : w.cell? ⟨q, 0, none⟩ = some (.slice b 4 cb)) (hx : Sl w a 4 xs) (hy : Sl w b 4 ys) :
    Calls Try.prog 57 #[.pointer (some ⟨p, 0, none⟩), .pointer (some ⟨q, 0, none⟩)] w fun e w' => e = .returned (.bool (thing0 ys && belowB ys (highL xs))) ∧ Below w.heap.size w w' := by
  go_enter Try.func57, Try.ntmps57
  go_wp2_with fail
  refine (l1High_calls p a ca xs _ hp hpc hx).mono ?_
  rintro e w1 ⟨g, c, rfl, hgN, blk, hb1⟩
  have hq1 := (hb1.cell (p := ⟨q, 0, none⟩) hq).trans hqc
  have hqs : q < w1.heap.size := by have := hb1.size; omega
  have ha := (Below.refl w1.heap.size w1).alloc (Nat.le_refl _) (.cells #[.slice (some ⟨g, 0, none⟩) 4 c] 26)
  have h1a : Below w.heap.size w (w1.alloc (.cells #[.slice (some ⟨g, 0, none⟩) 4 c] 26)) := hb1.trans (ha.mono hb1.size)
  have hlen : (highL xs).length = 4 := by rw [length_highL]; exact hx.1
  have hsl := hlen ▸ blk.sl
  go_wp2_with fail
  refine (l1Thing_calls q b cb ys _ (by simp; omega) (by go_simp) (hy.below h1a (Nat.le_refl _))).mono ?_
  rintro e w2 ⟨rfl, hb2⟩
  have h2 : Below w.heap.size w w2 := h1a.trans (hb2.mono (by have := hb1.size; simp; omega))
  have hq2 := (h2.cell (p := ⟨q, 0, none⟩) hq).trans hqc
  have hhc : w2.cell? ⟨w1.heap.size, 0, none⟩ = some (.slice (some ⟨g, 0, none⟩) 4 c) := (hb2.cell (p := ⟨w1.heap.size, 0, none⟩) (by simp)).trans (by go_simp)
  have hhs : w1.heap.size < w2.heap.size := by have := hb2.size; simp at this; omega
  have hsl2 := (hsl.below ha (Nat.le_refl _)).below hb2 (Nat.le_refl _)
  cases ht : thing0 ys with
  | true =>
    go_wp2_with fail
    refine (l1Below_calls q w1.heap.size b (some ⟨g, 0, none⟩) cb c ys (highL xs) _ (by omega) hhs hq2 hhc (hy.below h2 (Nat.le_refl _)) hsl2).mono ?_
    rintro e w3 ⟨rfl, hb3⟩
    go_wp2
    go_ret
    exact ⟨ret_bool (by rw [ht]; rfl), h2.trans (hb3.mono h2.size)⟩
  | false =>
    go_wp2
    go_ret
    exact ⟨ret_bool (by rw [ht]; rfl), h2⟩

set_option maxRecDepth 100000 in
theorem specCanObserve_calls (a b : Option Addr) (la ca lb cb : Nat) (xs ys : List Int) (w : World) (hla : la ≤ maxLen) (hlb : lb ≤ maxLen) (hx : Sl w a la xs) (hy : Sl w b lb ys) :
    Calls Try.prog 27 #[.agg #[.slice a la ca], .agg #[.slice b lb cb]] w fun e w' => e = .returned (.bool (obsB xs ys)) ∧ Below w.heap.size w w' := by
  have M0 := ((Mem.start w).alloc1 (.slice a la ca) 26).alloc1 (.slice b lb cb) 26
  simp only [World.size_alloc] at M0
  have hb0 := M0.bel
  cases hf : ((fault xs == 0) && (fault ys == 0)) with
  | true =>
    have e : obsB xs ys = (thing0 ys && belowB ys (highL xs)) := by unfold obsB; rw [hf]; rfl
    rw [e]
    have Hf := hide hf
    clear e hf
    have hf := Hf.out
    simp only [Bool.and_eq_true, beq_iff_eq] at hf
    have e1 : la = 4 := by rw [← hx.1]; exact fault_len hf.1
    have e2 : lb = 4 := by rw [← hy.1]; exact fault_len hf.2
    subst e1 e2
    clear hf
    go_enter Try.func27, Try.ntmps27
    go_wp2_with fail
    refine (l1Right_calls _ _ a b 4 ca 4 cb xs ys _ hla hlb (M0.lt 1 rfl) (M0.lt 0 rfl) (M0.cell 1 rfl) (M0.cell 0 rfl) (hx.below hb0 (Nat.le_refl _)) (hy.below hb0 (Nat.le_refl _))).mono ?_
    rintro e w1 ⟨rfl, hb⟩
    rw [Hf.out]
    have M1 := M0.below hb
    clear hb M0 hb0
    go_wp2_with fail
    refine (l1Observe_calls _ _ a b ca cb xs ys _ (M1.lt 1 rfl) (M1.lt 0 rfl) (M1.cell 1 rfl) (M1.cell 0 rfl) (hx.below M1.bel (Nat.le_refl _)) (hy.below M1.bel (Nat.le_refl _))).mono ?_
    rintro e w2 ⟨rfl, hb⟩
    have M2 := M1.below hb
    go_wp2
    go_ret
    exact ⟨rfl, M2.bel⟩
  | false =>
    have e : obsB xs ys = false := by unfold obsB; rw [hf]; rfl
    rw [e]
    have Hf := hide hf
    clear e hf
    go_enter Try.func27, Try.ntmps27
    go_wp2_with fail
    refine (l1Right_calls _ _ a b la ca lb cb xs ys _ hla hlb (M0.lt 1 rfl) (M0.lt 0 rfl) (M0.cell 1 rfl) (M0.cell 0 rfl) (hx.below hb0 (Nat.le_refl _)) (hy.below hb0 (Nat.le_refl _))).mono ?_
    rintro e w1 ⟨rfl, hb⟩
    rw [Hf.out]
    have M1 := M0.below hb
    go_wp2
    go_ret
    exact ⟨rfl, M1.bel⟩

end Go.Proofs.Ytjahlhibgnbkgaa
