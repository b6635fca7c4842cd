import Derived.Test.YtpgpoeljbppggaaDoorPinF
import Derived.WalkKit
import Derived.ProofKit
import Derived.OpenShut
import Derived.ShutString
import Derived.ChangeOld
import Derived.Below
import Derived.WalkSpells
import Derived.Deep.QuietTactic
import Derived.BigQuiet
import Derived.Deep.RegionWith
import Derived.Deep.WholeRow
import Derived.Deep.DeepCutAuto
import Derived.Deep.RegionHeld2
import Derived.Deep.AppendLies
import Derived.Deep.RegionLaw
namespace Go.Proofs.YtpgpoeljbppggaaDoor
open Go.ChangeShapes Go.WideShapes Go.ChangeAt Go.RowKit

/-- the program's table of words lies in the first block. -/
def Kw (w : World) : Prop := 0 < w.heap.size ∧ ∀ j, j < 16 → w.cell? ⟨0, j, none⟩ = some (.string (kws.getD j ⟨#[]⟩))

theorem Kw.below {w u : World} (h : Kw w) (hb : Below w.heap.size w u) : Kw u :=
  ⟨by have := hb.size; have := h.1; omega, fun j hj => (hb.cell (p := ⟨0, j, none⟩) h.1).trans (h.2 j hj)⟩

def R5 (v : Int × Int × Int × Int × Int) : Value := .agg #[.int .i64 v.1, .int .i64 v.2.1, .int .i64 v.2.2.1, .int .i64 v.2.2.2.1, .int .i64 v.2.2.2.2]

/-- what is read of a text's pieces. -/
noncomputable def psI : List ByteArray → Int × Int × Int × Int × Int
  | [p0, p1, p2, p3] => if ifC (opL p0 16) (numV p1) (numV p2) (numV p3) = 0 then (0, opL p0 16, numV p1, numV p2, numV p3) else (5, 0, 0, 0, 0)
  | _ => (5, 0, 0, 0, 0)

theorem psI_no {ps : List ByteArray} (h : ps.length ≠ 4) : psI ps = (5, 0, 0, 0, 0) := by
  match ps, h with
  | [], _ => rfl
  | [_], _ => rfl
  | [_, _], _ => rfl
  | [_, _, _], _ => rfl
  | _ :: _ :: _ :: _ :: _ :: _, _ => rfl
  | [_, _, _, _], h => exact absurd rfl h

theorem ifC_in {o a b i : Int} (h : ifC o a b i = 0) : (0 ≤ o ∧ o ≤ 15) ∧ (0 ≤ a ∧ a ≤ 7) ∧ (0 ≤ b ∧ b ≤ 7) ∧ (0 ≤ i ∧ i ≤ 63) := by
  unfold ifC at h
  split at h
  · rename_i e
    simp only [Bool.and_eq_true] at e
    exact ⟨up_true e.1.1.1, up_true e.1.1.2, up_true e.1.2, up_true e.2⟩
  · contradiction

theorem kw_nat (k : Nat) : kw (k : Int) = kws.getD k ⟨#[]⟩ := by unfold kw; rw [Int.toNat_natCast]

theorem kws_one : ∀ i, i < 16 → ∀ j, j < 16 → kws.getD i ⟨#[]⟩ = kws.getD j ⟨#[]⟩ → i = j := by decide

theorem opL_in {p : ByteArray} : ∀ k, 0 ≤ opL p k → ∃ j : Nat, j < k ∧ kw (j : Int) = p ∧ opL p k = j
  | 0, h => by simp [opL] at h
  | k + 1, h => by
    by_cases e : kw (k : Int) = p
    · exact ⟨k, by omega, e, opL_y e⟩
    · rw [opL_n e] at h ⊢
      obtain ⟨j, h1, h2, h3⟩ := opL_in k h
      exact ⟨j, by omega, h2, h3⟩

theorem opL_at {p : ByteArray} {j : Nat} (hj : j < 16) (h : kw (j : Int) = p) : ∀ k, k ≤ 16 → j < k → opL p k = j
  | 0, _, h2 => by omega
  | k + 1, hk, h2 => by
    by_cases e : kw (k : Int) = p
    · have hjk : k = j := kws_one k (by omega) j hj (by rw [← kw_nat, ← kw_nat, e, h])
      rw [opL_y e, hjk]
    · rw [opL_n e]
      have : j ≠ k := fun x => by subst x; exact e h
      exact opL_at hj h k (by omega) (by omega)

theorem piNone {s : ByteArray} {o : Int} (ha : OpAns (fun j => kws.getD j ⟨#[]⟩) (s.extract 0 (nb s 0)) o) (h : o < 0 ∨ mach s (2 * s.size + 9) false 0 (nb s 0) 0 0 0 = none) : psI (cuts s 0) = (5, 0, 0, 0, 0) := by
  by_cases hl : (cuts s 0).length = 4
  rotate_left
  · exact psI_no hl
  obtain ⟨p0, p1, p2, p3, hc⟩ : ∃ p0 p1 p2 p3, cuts s 0 = [p0, p1, p2, p3] := by
    match cuts s 0, hl with
    | [p0, p1, p2, p3], _ => exact ⟨_, _, _, _, rfl⟩
  rw [hc]
  show (if ifC (opL p0 16) (numV p1) (numV p2) (numV p3) = 0 then _ else _) = _
  by_cases hi : ifC (opL p0 16) (numV p1) (numV p2) (numV p3) = 0
  rotate_left
  · exact if_neg hi
  obtain ⟨ho, h1, h2, h3⟩ := ifC_in hi
  obtain ⟨hm, hp⟩ := parse_yes (s := s) (m := 2 * s.size + 9) (by omega) hc ⟨h1.1, by omega⟩ ⟨h2.1, by omega⟩ h3
  rcases h with h | h
  · rcases ha with ⟨_, ha⟩ | ⟨j, _, rfl, _⟩
    · obtain ⟨j, hj, hk, _⟩ := opL_in 16 ho.1
      exact absurd (by show kws.getD j ⟨#[]⟩ = _; rw [← kw_nat, hk, hp]) (ha j hj)
    · omega
  · rw [hm] at h; contradiction

theorem piSome {s : ByteArray} {o p q t : Int} (ha : OpAns (fun j => kws.getD j ⟨#[]⟩) (s.extract 0 (nb s 0)) o) (h0 : ¬ o < 0) (h : mach s (2 * s.size + 9) false 0 (nb s 0) 0 0 0 = some (p, q, t)) : psI (cuts s 0) = if ifC o p q t = 0 then (0, o, p, q, t) else (5, 0, 0, 0, 0) := by
  obtain ⟨p0, p1, p2, p3, hc, hp, hv, _, _, _⟩ := parse_some (s := s) (m := 2 * s.size + 9) (by omega) h
  injection hv with e1 e2
  injection e2 with e2 e3
  rcases ha with ⟨rfl, _⟩ | ⟨j, hj, rfl, hk⟩
  · omega
  have ho : opL p0 16 = (j : Int) := opL_at hj (by rw [kw_nat, hp]; exact hk) 16 (Nat.le_refl _) hj
  rw [hc, e1, e2, e3, ← ho]
  rfl

theorem psBoth (ps : List ByteArray) : psV ps = noI ∧ psI ps = (5, 0, 0, 0, 0) ∨ ∃ o a b i : Int, psV ps = .tuple #[.agg #[.int .i64 o, .int .i64 a, .int .i64 b, .int .i64 i], .bool (ifC o a b i == 0)] ∧ psI ps = if ifC o a b i = 0 then (0, o, a, b, i) else (5, 0, 0, 0, 0) := by
  by_cases hl : ps.length = 4
  · match ps, hl with
    | [p0, p1, p2, p3], _ => exact .inr ⟨_, _, _, _, rfl, rfl⟩
  · exact .inl ⟨psV_no hl, psI_no hl⟩

set_option maxRecDepth 100000 in
set_option maxHeartbeats 4000000 in
theorem specParseInst_calls (s : ByteArray) (w : World) (hsz : s.size ≤ 1048576) :
    Calls Tryd.prog 9 #[.string s] w fun e w' => e = .returned (R5 (psI (cuts s 0))) ∧ Below w.heap.size w w' := by
  have M0 := (Mm.start w).allocC [.int .i64 0, .int .i64 0, .int .i64 0, .int .i64 0, .int .i64 0] 28
  go_enter Tryd.func9, Tryd.ntmps9
  go_wp2_with fail
  refine (l5Cut_calls s _ hsz).mono ?_
  rintro e w1 ⟨ra, rn, rc, rfl, hst, g1⟩
  have M1 := M0.below g1
  clear M0 g1
  go_wp2_with fail
  refine (l5Parse_calls ra rn rc _ _ hst).mono ?_
  rintro e w2 ⟨rfl, g2⟩
  have M2 := M1.below g2
  have r0 := (M2.get 0 rfl).cell 0 rfl
  have r1 := (M2.get 0 rfl).cell 1 rfl
  have r2 := (M2.get 0 rfl).cell 2 rfl
  have r3 := (M2.get 0 rfl).cell 3 rfl
  have r4 := (M2.get 0 rfl).cell 4 rfl
  have f0 := (M2.get 0 rfl).fz 0 (by simp)
  have f1 := (M2.get 0 rfl).fz 1 (by simp)
  have f2 := (M2.get 0 rfl).fz 2 (by simp)
  have f3 := (M2.get 0 rfl).fz 3 (by simp)
  have f4 := (M2.get 0 rfl).fz 4 (by simp)
  have HB := hide M2.bel
  have hlt := (M2.get 0 rfl).1
  clear M1 M2 g2 hst
  rcases psBoth (cuts s 0) with ⟨hv, hi⟩ | ⟨o, a, b, i, hv, hi⟩
  · rw [hv]
    unfold noI
    have HI := hide hi
    clear hv hi
    go_wp2
    refine bodyPost_ret (v := R5 (5, 0, 0, 0, 0)) (by simp [results, Tryd.results9, go_sem, R5, r0, r1, r2, r3, r4, hlt]) rfl ⟨by rw [HI.out], ?_⟩
    exact (((((HB.out.setCell (by exact Nat.le_refl _) _).setCell (by exact Nat.le_refl _) _).setCell (by exact Nat.le_refl _) _).setCell (by exact Nat.le_refl _) _).setCell (by exact Nat.le_refl _) _).alloc (by simp only [World.size_setCell]; exact HB.out.size) _
  · rw [hv]
    clear hv
    by_cases hc : ifC o a b i = 0
    · have e1 : (ifC o a b i == 0) = true := by simp [hc]
      have HI := hide (hi.trans (if_pos hc))
      rw [e1]
      clear hc e1 hi
      go_wp2
      refine bodyPost_ret (v := R5 (0, o, a, b, i)) (by simp [results, Tryd.results9, go_sem, R5, r0, r1, r2, r3, r4, hlt]) rfl ⟨by rw [HI.out], ?_⟩
      exact (((((HB.out.setCell (by exact Nat.le_refl _) _).setCell (by exact Nat.le_refl _) _).setCell (by exact Nat.le_refl _) _).setCell (by exact Nat.le_refl _) _).setCell (by exact Nat.le_refl _) _).alloc (by simp only [World.size_setCell]; exact HB.out.size) _
    · have e1 : (ifC o a b i == 0) = false := by simp [hc]
      have HI := hide (hi.trans (if_neg hc))
      rw [e1]
      clear hc e1 hi
      go_wp2
      refine bodyPost_ret (v := R5 (5, 0, 0, 0, 0)) (by simp [results, Tryd.results9, go_sem, R5, r0, r1, r2, r3, r4, hlt]) rfl ⟨by rw [HI.out], ?_⟩
      exact (((((HB.out.setCell (by exact Nat.le_refl _) _).setCell (by exact Nat.le_refl _) _).setCell (by exact Nat.le_refl _) _).setCell (by exact Nat.le_refl _) _).setCell (by exact Nat.le_refl _) _).alloc (by simp only [World.size_setCell]; exact HB.out.size) _

end Go.Proofs.YtpgpoeljbppggaaDoor
