import Derived.Test.YtboeceabnlhnoaaL2With
import Derived.WalkKit
import Derived.ProofKit
import Derived.OpenShut
import Derived.ShutString
import Derived.ChangeOld
import Derived.Below
import Derived.WalkSpells
import Derived.Deep.QuietTactic
import Derived.BigQuiet
import Derived.Deep.RegionWith
import Derived.Deep.WholeRow
import Derived.Deep.DeepCutAuto
import Derived.Deep.RegionHeld2
import Derived.Deep.AppendLies
import Derived.Deep.RegionLaw
namespace Go.Proofs.Ytboeceabnlhnoaa
open Go.ChangeShapes Go.WideShapes Go.ChangeAt Go.RowKit

/-- what DrawLeaveLabel gives. -/
def DrewLv (w : World) (e : Ending) (w' : World) : Prop :=
  ∃ (ra : Option Addr) (n rc : Nat) (ss : List (Int × List Int)) (x : Int), e = .returned (.tuple #[.agg #[.slice ra n rc], .int .i64 x]) ∧ RgS (InR w.heap.size w'.heap.size) ra n ss w' ∧ n ≤ 11 ∧ Below w.heap.size w w'

set_option maxRecDepth 100000 in
set_option maxHeartbeats 8000000 in
theorem drawLeaveLabel_calls (a : Option Addr) (len cap : Nat) (w : World) (hc : Cd w a len) :
    Calls Try.prog 7 #[.slice a len cap] w (DrewLv w) := by
  have M0 := (Mm.start w).alloc1 (.slice none 0 0) 26
  have S0 := (hc.below M0.bel).src (cap := cap) 92
  have M1 := M0.below ((Below.refl _ _).alloc (Nat.le_refl _) (.cells #[.slice a len cap, .int .i64 0] 92))
  simp only [World.size_alloc] at S0
  clear M0
  go_enter Try.func7, Try.ntmps7
  go_wp2_with (go_at_call 23; refine (l1Source_calls a len cap _).mono ?_; rintro e w0 ⟨rfl, rfl⟩)
  refine (l2Bent_calls (w.heap.size + 1) a len cap 0 _ (by omega) S0).mono ?_
  rintro e w1 ⟨ra, n, rc, ss, t1, rfl, rg, hn, s1, ht1, u1⟩
  have z1 := u1.size
  simp only [World.size_alloc] at z1 rg
  have M2 := ((M1.out (OutS.of_outside u1) (by omega) (by simp <;> omega) (by simp)).fact RgS.loc rg).alloc1 (.slice ra n rc) 26
  have s1' := s1.below ((Below.refl _ _).alloc (Nat.le_refl _) (.cells #[.slice ra n rc] 26))
  have hV0 : w1.heap.size ≠ w.heap.size := by omega
  clear M1 S0 u1 rg s1
  obtain ⟨X, hX⟩ : ∃ X : World, X = w1.alloc (.cells #[.slice ra n rc] 26) := ⟨_, rfl⟩
  have hXz : X.heap.size = w1.heap.size + 1 := by rw [hX]; simp
  rw [← hX] at M2 s1'
  have HX := hide hX
  have SX := hide (s1'.below (Below.refl _ _).drew)
  have HM := hide M2.drew
  have HS0 : Hid (X.drew.cell? ⟨w1.heap.size, 0, none⟩ = some (.slice ra n rc)) := M2.cell 0 rfl
  have hnI : (n : Int) ≤ 11 := by omega
  have hw1 : IntKind.i64.wrap ((n : Int) + 2) = (n : Int) + 2 := by rw [IntKind.wrap_i64]; omega
  clear M2 s1' hX
  go_upto_region 3 with fail
  rw [← HX.out]
  go_region_held2 (fun w' => w'.cell? ⟨w1.heap.size, 0, none⟩ = some (.slice ra n rc))
    (first | with_reducible exact HS0.out | with_reducible assumption | (with_reducible refine keepV hV0 ?_; with_reducible assumption))
    (first
      | (go_at_call 25; refine (l1Next_calls (w.heap.size + 1) a len cap t1 ((n : Int) + 2) _ (by omega) (by omega) (by omega) SX.out).mono ?_; rintro e w3 ⟨j, rfl, j0, j1, s3, u3⟩; have hw2 : IntKind.i64.wrap (j - 1) = j - 1 := (by rw [IntKind.wrap_i64]; omega); have M4 := HM.out.out (OutS.of_outside u3) (by omega) (by simp <;> omega) (by simp <;> omega); have hs3 : w3.cell? ⟨w1.heap.size, 0, none⟩ = some (.slice ra n rc) := M4.cell 0 rfl; have z3 : X.heap.size ≤ w3.heap.size := u3.size; have c0 := M4.cell 1 rfl; have f0 := M4.fz 1 rfl; have HM4 := hide M4; clear M4 s3 u3))
  all_goals (
    go_wp2
    exact bodyPost_ret (v := .tuple #[.agg #[.slice ra n rc], .int .i64 (j - 1)]) (by simp [results, Try.results7, go_sem, c0]) rfl ⟨ra, n, rc, ss, j - 1, rfl, (RgS.loc.setC (HM4.out.get 0 rfl) (q := ⟨w.heap.size, 0, none⟩) (fun e => by have h1 : w.heap.size + 1 + 1 + 1 ≤ w.heap.size := e.1; omega) _).mono (fun k hk => ⟨by have := hk.1; omega, by have := hk.2; simp; omega⟩), hn, HM4.out.bel.setCell (by simp) _⟩)

end Go.Proofs.Ytboeceabnlhnoaa
