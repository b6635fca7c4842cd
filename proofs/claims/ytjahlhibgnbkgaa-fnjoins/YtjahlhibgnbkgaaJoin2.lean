import Derived.Test.YtjahlhibgnbkgaaJoin1
import Derived.Test.YtjahlhibgnbkgaaHigh
import Derived.Test.YtjahlhibgnbkgaaBelowImpl
import Derived.WalkKit
import Derived.ProofKit
import Derived.OpenShut
import Derived.ShutString
import Derived.ChangeOld
import Derived.Below
import Derived.WalkSpells
import Derived.Deep.QuietTactic
import Derived.BigQuiet
import Derived.Deep.RegionWith
import Derived.Deep.WholeRow
import Derived.Deep.DeepCutAuto
import Derived.Deep.RegionHeld2
import Derived.Deep.AppendLies
import Derived.Deep.RegionLaw
namespace Go.Proofs.Ytjahlhibgnbkgaa
open Go.ChangeShapes Go.WideShapes Go.ChangeAt Go.RowKit

set_option maxRecDepth 100000 in
theorem l1Both_calls (p q : Nat) (a b : Option Addr) (la ca lb cb : Nat) (xs ys : List Int) (w : World) (hla : la ≤ maxLen) (hlb : lb ≤ maxLen) (hp : p < w.heap.size) (hq : q < w.heap.size)
    (hpc : w.cell? ⟨p, 0, none⟩ = some (.slice a la ca)) (hqc : w.cell? ⟨q, 0, none⟩ = some (.slice b lb cb)) (hx : Sl w a la xs) (hy : Sl w b lb ys) :
    Calls Try.prog 51 #[.pointer (some ⟨p, 0, none⟩), .pointer (some ⟨q, 0, none⟩)] w fun e w' => e = .returned (.int .i64 (both xs ys)) ∧ Below w.heap.size w w' := by
  by_cases hf : fault xs = 0
  · have hz : (fault xs == 0) = true := by simp [hf]
    rw [both_eq hf]
    clear hf
    go_enter Try.func51, Try.ntmps51
    go_wp2_with fail
    refine (l1Fault_calls p a la ca xs _ hla hp hpc hx).mono ?_
    rintro e w1 ⟨rfl, hb⟩
    have c1 := (hb.cell (p := ⟨q, 0, none⟩) hq).trans hqc
    go_wp2_with fail
    refine (l1Fault_calls q b lb cb ys _ hlb (by have := hb.size; omega) c1 (hy.below hb (Nat.le_refl _))).mono ?_
    rintro e w2 ⟨rfl, hb2⟩
    go_wp2
    go_ret
    exact ⟨rfl, hb.trans (hb2.mono hb.size)⟩
  · have hz : (fault xs == 0) = false := by simp [hf]
    rw [both_ne hf]
    clear hf
    go_enter Try.func51, Try.ntmps51
    go_wp2_with fail
    refine (l1Fault_calls p a la ca xs _ hla hp hpc hx).mono ?_
    rintro e w1 ⟨rfl, hb⟩
    go_wp2
    go_ret
    exact ⟨rfl, hb⟩

set_option maxRecDepth 100000 in
theorem specJoinLabels_calls (a b : Option Addr) (la ca lb cb : Nat) (xs ys : List Int) (w : World) (hla : la ≤ maxLen) (hlb : lb ≤ maxLen) (hx : Sl w a la xs) (hy : Sl w b lb ys) :
    Calls Try.prog 18 #[.agg #[.slice a la ca], .agg #[.slice b lb cb]] w fun e w' => ∃ ra rn rc, e = .returned (.agg #[.int .i64 (both xs ys), .slice ra rn rc]) ∧ OSl w' w.heap.size w'.heap.size ra rn (resOf (both xs ys) (mix max xs ys)) ∧ Below w.heap.size w w' := by
  have M0 := (((Mem.start w).alloc1 (.slice a la ca) 26).alloc1 (.slice b lb cb) 26).alloc2 (.int .i64 0) (.slice none 0 0) 33
  simp only [World.size_alloc] at M0
  have hb0 := M0.bel
  cases hf : (both xs ys == 0) with
  | true =>
    obtain ⟨fx, fy⟩ := both_zero hf
    have e1 : la = 4 := by rw [← hx.1]; exact fault_len fx
    have e2 : lb = 4 := by rw [← hy.1]; exact fault_len fy
    subst e1 e2
    have hf0 : both xs ys = 0 := by simpa using hf
    rw [resOf_ok hf0]
    have Hf := hide hf0
    clear hf0 fx fy
    go_enter Try.func18, Try.ntmps18
    go_wp2_with fail
    refine (l1Both_calls _ _ a b 4 ca 4 cb xs ys _ hla hlb (M0.lt 3 rfl) (M0.lt 2 rfl) (M0.cell 3 rfl) (M0.cell 2 rfl) (hx.below hb0 (Nat.le_refl _)) (hy.below hb0 (Nat.le_refl _))).mono ?_
    rintro e w1 ⟨rfl, hb⟩
    have M1 := M0.below hb
    have f0 : w1.frozen? ⟨w.heap.size + 1 + 1, 0, none⟩ = false := (hb.frozen (p := ⟨w.heap.size + 1 + 1, 0, none⟩) (by simp)).trans (by go_simp)
    have f1 : w1.frozen? ⟨w.heap.size + 1 + 1, 1, none⟩ = false := (hb.frozen (p := ⟨w.heap.size + 1 + 1, 1, none⟩) (by simp)).trans (by go_simp)
    clear hb M0 hb0
    go_wp2_with fail
    refine (l1Join_calls _ _ a b 4 ca cb xs ys _ (by omega) (M1.lt 3 rfl) (M1.lt 2 rfl) (M1.cell 3 rfl) (M1.cell 2 rfl) (hx.below M1.bel (Nat.le_refl _)) (hy.below M1.bel (Nat.le_refl _))).mono ?_
    rintro e w2 ⟨ra, rc, rfl, ho, hb2⟩
    have r0 := (M1.below hb2).cell 0 rfl
    have r1 := (M1.below hb2).cell 1 rfl
    have nN := M1.lt 0 rfl
    have f02 := (hb2.frozen (p := ⟨w.heap.size + 1 + 1, 0, none⟩) nN).trans f0
    have f12 := (hb2.frozen (p := ⟨w.heap.size + 1 + 1, 1, none⟩) nN).trans f1
    have h2 := (M1.below hb2).bel
    clear hb2 f0 f1 M1
    go_wp2
    refine bodyPost_ret (v := .agg #[.int .i64 0, .slice ra 4 rc]) (by simp [results, Try.results18, go_sem, r0, r1]) rfl ⟨ra, 4, rc, by rw [Hf.out], ?_, (h2.setCell (by simp; omega) _).setCell (by simp; omega) _⟩
    exact (ho.map (fun b h1 _ hb => (hb.setCell (by simp; omega) _).setCell (by simp; omega) _)).mono (by omega) (by simp)
  | false =>
    have hf0 : both xs ys ≠ 0 := by simpa using hf
    rw [resOf_no hf0]
    clear hf0
    go_enter Try.func18, Try.ntmps18
    go_wp2_with fail
    refine (l1Both_calls _ _ a b la ca lb cb xs ys _ hla hlb (M0.lt 3 rfl) (M0.lt 2 rfl) (M0.cell 3 rfl) (M0.cell 2 rfl) (hx.below hb0 (Nat.le_refl _)) (hy.below hb0 (Nat.le_refl _))).mono ?_
    rintro e w1 ⟨rfl, hb⟩
    have M1 := M0.below hb
    have f0 : w1.frozen? ⟨w.heap.size + 1 + 1, 0, none⟩ = false := (hb.frozen (p := ⟨w.heap.size + 1 + 1, 0, none⟩) (by simp)).trans (by go_simp)
    have f1 : w1.frozen? ⟨w.heap.size + 1 + 1, 1, none⟩ = false := (hb.frozen (p := ⟨w.heap.size + 1 + 1, 1, none⟩) (by simp)).trans (by go_simp)
    have r0 := M1.cell 0 rfl
    have r1 := M1.cell 1 rfl
    have h1 := M1.bel
    clear hb M0 hb0 M1
    go_wp2
    refine bodyPost_ret (v := .agg #[.int .i64 (both xs ys), .slice none 0 0]) (by simp [results, Try.results18, go_sem, r0, r1]) rfl ⟨_, _, _, rfl, OSl.nil _ _ _, (h1.setCell (by simp; omega) _).setCell (by simp; omega) _⟩

end Go.Proofs.Ytjahlhibgnbkgaa
