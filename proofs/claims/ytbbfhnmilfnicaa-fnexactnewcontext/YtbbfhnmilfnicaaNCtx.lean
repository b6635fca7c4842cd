import Derived.Test.YtbbfhnmilfnicaaCtxP
import Derived.WalkKit
import Derived.ProofKit
import Derived.OpenShut
import Derived.ShutString
import Derived.ChangeOld
import Derived.Below
import Derived.WalkSpells
import Derived.Deep.QuietTactic
import Derived.BigQuiet
import Derived.Deep.RegionWith
import Derived.Deep.WholeRow
import Derived.Deep.DeepCutAuto
import Derived.Deep.RegionHeld2
import Derived.Deep.AppendLies
import Derived.Deep.RegionLaw
namespace Go.Proofs.Ytbbfhnmilfnicaa
open Go.ChangeShapes Go.WideShapes Go.ChangeAt Go.RowKit

set_option maxRecDepth 100000 in
theorem in_calls (v lo hi : Int) (w : World) :
    Calls Try.prog 22 #[.int .i64 v, .int .i64 lo, .int .i64 hi] w fun e w' => e = .returned (.bool (decide (lo ≤ v) && decide (v ≤ hi))) ∧ Below w.heap.size w w' := by
  by_cases h1 : lo ≤ v
  · by_cases h2 : v ≤ hi
    all_goals
      go_enter Try.func22, Try.ntmps22
      go_wp2
      go_ret
      exact ⟨ret_bool (by simp [h1, h2]), Below.refl _ _⟩
  · go_enter Try.func22, Try.ntmps22
    go_wp2
    go_ret
    exact ⟨ret_bool (by simp; omega), Below.refl _ _⟩

def wdB (v : Int) : Bool := decide (0 ≤ v) && decide (v ≤ 65535)

def ncC (x : Int) : Int := if wdB x = true then 0 else 3

def ncP (x : Int) : Int := if wdB x = true then x else 0

def ncL (x : Int) : List Int := if wdB x = true then List.replicate 8 0 else []

set_option maxRecDepth 100000 in
theorem isUpTo_calls (v hi : Int) (w : World) : Calls Try.prog 23 #[.int .i64 v, .int .i64 hi] w fun e w' => e = .returned (.bool (decide (0 ≤ v) && decide (v ≤ hi))) ∧ Below w.heap.size w w' := by
  by_cases h1 : 0 ≤ v
  · have e1 : decide (0 ≤ v) = true := by simpa using h1
    have HR : Hid ((decide (0 ≤ v) && decide (v ≤ hi)) = decide (v ≤ hi)) := by show _ = _; rw [e1]; simp
    clear e1
    go_enter Try.func23, Try.ntmps23
    go_wp2
    go_ret
    exact ⟨ret_bool HR.out.symm, Below.refl _ _⟩
  · go_enter Try.func23, Try.ntmps23
    go_wp2
    go_ret
    exact ⟨ret_bool (by simp; omega), Below.refl _ _⟩

theorem made8 (u : World) : (Instr.makeSlice 22 (.int .i64 8) (.int .i64 8)).run Try.prog u = .ok (.slice (some ⟨u.heap.size, 0, none⟩) 8 8) (u.alloc (.cells (madeCells #[.int .i64 0] 8) 2)) := by
  obtain ⟨i0, hi, hz0, hz1, hz2⟩ := info_parts info2
  have h := run_make (P := Try.prog) u 22 2 i0 (.int .i64 0) Try.underlying22 hi hz0 .i64 .i64 (8 : Int) (8 : Int) (by omega) (Int.le_refl _) (by rw [hz2]; omega) (by omega)
  simpa [hz1, Value.cells] using h

theorem made8_os (u : World) (N : Nat) (hN : u.heap.size = N) (S : Nat → Prop) (hS : S N) : OS S (some ⟨N, 0, none⟩) 8 (List.replicate 8 0) (u.alloc (.cells (madeCells #[.int .i64 0] 8) 2)) := by
  subst hN
  refine OS.ofBlk ⟨by simp, fun i hi => ?_, fun i => by simp⟩ hS rfl (by omega)
  rw [World.cell?_alloc_new, ← Array.getElem?_toList, toList_madeCells_one, List.getElem?_replicate]
  have hi8 : i < 8 := by simpa using hi
  rw [if_pos hi8]
  have : gt (List.replicate 8 0) i = 0 := by unfold gt; rw [List.getD_eq_getElem?_getD, List.getElem?_replicate, if_pos hi8]; rfl
  rw [this]

set_option maxRecDepth 100000 in
theorem specNewContext_calls (x : Int) (w : World) :
    Calls Try.prog 6 #[.int .i64 x] w fun e w' => ∃ a n c, e = .returned (.agg #[.int .i64 (ncC x), .slice a n c, .int .i64 (ncP x), .bool false]) ∧ OS (InR w.heap.size w'.heap.size) a n (ncL x) w' ∧ Below w.heap.size w w' := by
  have M0 := (Mm.start w).alloc4 (.int .i64 0) (.slice none 0 0) (.int .i64 0) (.bool false) 26
  try simp only [World.size_alloc] at M0
  have hmk := made8
  go_enter Try.func6, Try.ntmps6
  go_wp2_with fail
  refine (in_calls x 0 65535 _).mono ?_
  rintro e w1 ⟨rfl, g1⟩
  have M1 := M0.below g1
  have z1 := g1.size
  try simp only [World.size_alloc] at z1
  have c0 := M1.cell 0 rfl
  have c1 := M1.cell 1 rfl
  have c2 := M1.cell 2 rfl
  have c3 := M1.cell 3 rfl
  have f0 := M1.fz 0 rfl
  have f1 := M1.fz 1 rfl
  have f2 := M1.fz 2 rfl
  have f3 := M1.fz 3 rfl
  have HB := hide M1.bel
  have hN : w.heap.size < w1.heap.size := by omega
  clear M0 g1 z1
  cases hw : (decide (0 ≤ x) && decide (x ≤ 65535)) with
  | false =>
    have HC : Hid (ncC x = 3 ∧ ncP x = 0 ∧ ncL x = []) := by
      have : wdB x = false := hw
      exact ⟨by unfold ncC; rw [this]; rfl, by unfold ncP; rw [this]; rfl, by unfold ncL; rw [this]; rfl⟩
    clear hw hmk M1
    go_wp2
    refine bodyPost_ret (v := .agg #[.int .i64 3, .slice none 0 0, .int .i64 0, .bool false]) (by simp [results, Try.results6, go_sem, c0, c1, c2, c3]) rfl ⟨none, 0, 0, by rw [HC.out.1, HC.out.2.1], ?_, ?_⟩
    · rw [HC.out.2.2]; exact ⟨rfl, by omega, .inl rfl⟩
    · exact (((HB.out.setCell (by simp) _).setCell (by simp) _).setCell (by simp) _).setCell (by simp) _
  | true =>
    have HC : Hid (ncC x = 0 ∧ ncP x = x ∧ ncL x = List.replicate 8 0) := by
      have : wdB x = true := hw
      exact ⟨by unfold ncC; rw [this]; rfl, by unfold ncP; rw [this]; rfl, by unfold ncL; rw [this]; rfl⟩
    clear hw
    have HM := hide ((((M1.set 0 rfl (.int .i64 0) (Nat.le_refl _) (by simp) (by simp)).set 1 rfl (.slice (some ⟨w1.heap.size, 0, none⟩) 8 8) (Nat.le_refl _) (by simp) (by simp)).set 2 rfl (.int .i64 x) (Nat.le_refl _) (by simp) (by simp)).set 3 rfl (.bool false) (Nat.le_refl _) (by simp) (by simp))
    clear M1
    go_wp2
    have MM := HM.out.below ((Below.refl _ _).alloc (Nat.le_refl _) (.cells (madeCells #[.int .i64 0] 8) 2))
    have r0 := MM.cell 0 rfl
    have r1 := MM.cell 1 rfl
    have r2 := MM.cell 2 rfl
    have r3 := MM.cell 3 rfl
    refine bodyPost_ret (v := .agg #[.int .i64 0, .slice (some ⟨w1.heap.size, 0, none⟩) 8 8, .int .i64 x, .bool false]) (by simp [results, Try.results6, go_sem, r0, r1, r2, r3]) rfl ⟨some ⟨w1.heap.size, 0, none⟩, 8, 8, by rw [HC.out.1, HC.out.2.1], ?_, MM.bel⟩
    rw [HC.out.2.2]
    exact made8_os _ _ (by simp) _ ⟨by omega, by simp⟩

set_option maxRecDepth 100000 in
theorem implNewContext_calls (x : Int) (w : World) :
    Calls Try.prog 7 #[.int .i64 x] w fun e w' => ∃ a n c, e = .returned (.agg #[.int .i64 (ncC x), .slice a n c, .int .i64 (ncP x), .bool false]) ∧ OS (InR w.heap.size w'.heap.size) a n (ncL x) w' ∧ Below w.heap.size w w' := by
  have M0 := (Mm.start w).alloc4 (.int .i64 0) (.slice none 0 0) (.int .i64 0) (.bool false) 26
  try simp only [World.size_alloc] at M0
  have hmk := made8
  go_enter Try.func7, Try.ntmps7
  go_wp2_with fail
  refine (isUpTo_calls x 65535 _).mono ?_
  rintro e w1 ⟨rfl, g1⟩
  have M1 := M0.below g1
  have z1 := g1.size
  try simp only [World.size_alloc] at z1
  have c0 := M1.cell 0 rfl
  have c1 := M1.cell 1 rfl
  have c2 := M1.cell 2 rfl
  have c3 := M1.cell 3 rfl
  have f0 := M1.fz 0 rfl
  have f1 := M1.fz 1 rfl
  have f2 := M1.fz 2 rfl
  have f3 := M1.fz 3 rfl
  have HB := hide M1.bel
  have hN : w.heap.size < w1.heap.size := by omega
  clear M0 g1 z1
  cases hw : (decide (0 ≤ x) && decide (x ≤ 65535)) with
  | false =>
    have HC : Hid (ncC x = 3 ∧ ncP x = 0 ∧ ncL x = []) := by
      have : wdB x = false := hw
      exact ⟨by unfold ncC; rw [this]; rfl, by unfold ncP; rw [this]; rfl, by unfold ncL; rw [this]; rfl⟩
    clear hw hmk M1
    go_wp2
    refine bodyPost_ret (v := .agg #[.int .i64 3, .slice none 0 0, .int .i64 0, .bool false]) (by simp [results, Try.results7, go_sem, c0, c1, c2, c3]) rfl ⟨none, 0, 0, by rw [HC.out.1, HC.out.2.1], ?_, ?_⟩
    · rw [HC.out.2.2]; exact ⟨rfl, by omega, .inl rfl⟩
    · exact (((HB.out.setCell (by simp) _).setCell (by simp) _).setCell (by simp) _).setCell (by simp) _
  | true =>
    have HC : Hid (ncC x = 0 ∧ ncP x = x ∧ ncL x = List.replicate 8 0) := by
      have : wdB x = true := hw
      exact ⟨by unfold ncC; rw [this]; rfl, by unfold ncP; rw [this]; rfl, by unfold ncL; rw [this]; rfl⟩
    clear hw
    have HM := hide ((((M1.set 0 rfl (.int .i64 0) (Nat.le_refl _) (by simp) (by simp)).set 1 rfl (.slice (some ⟨w1.heap.size, 0, none⟩) 8 8) (Nat.le_refl _) (by simp) (by simp)).set 2 rfl (.int .i64 x) (Nat.le_refl _) (by simp) (by simp)).set 3 rfl (.bool false) (Nat.le_refl _) (by simp) (by simp))
    clear M1
    go_wp2
    have MM := HM.out.below ((Below.refl _ _).alloc (Nat.le_refl _) (.cells (madeCells #[.int .i64 0] 8) 2))
    have r0 := MM.cell 0 rfl
    have r1 := MM.cell 1 rfl
    have r2 := MM.cell 2 rfl
    have r3 := MM.cell 3 rfl
    refine bodyPost_ret (v := .agg #[.int .i64 0, .slice (some ⟨w1.heap.size, 0, none⟩) 8 8, .int .i64 x, .bool false]) (by simp [results, Try.results7, go_sem, r0, r1, r2, r3]) rfl ⟨some ⟨w1.heap.size, 0, none⟩, 8, 8, by rw [HC.out.1, HC.out.2.1], ?_, MM.bel⟩
    rw [HC.out.2.2]
    exact made8_os _ _ (by simp) _ ⟨by omega, by simp⟩

end Go.Proofs.Ytbbfhnmilfnicaa
