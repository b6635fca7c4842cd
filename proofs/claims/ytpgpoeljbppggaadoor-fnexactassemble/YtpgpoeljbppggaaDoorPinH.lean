import Derived.Test.YtpgpoeljbppggaaDoorPinG
import Derived.WalkKit
import Derived.ProofKit
import Derived.OpenShut
import Derived.ShutString
import Derived.ChangeOld
import Derived.Below
import Derived.WalkSpells
import Derived.Deep.QuietTactic
import Derived.BigQuiet
import Derived.Deep.RegionWith
import Derived.Deep.WholeRow
import Derived.Deep.DeepCutAuto
import Derived.Deep.RegionHeld2
import Derived.Deep.AppendLies
import Derived.Deep.RegionLaw
namespace Go.Proofs.YtpgpoeljbppggaaDoor
open Go.ChangeShapes Go.WideShapes Go.ChangeAt Go.RowKit

set_option maxRecDepth 100000 in
theorem eqInst_calls (o a b i : Int) (w : World) :
    Calls Tryd.prog 47 #[.agg #[.int .i64 o, .int .i64 a, .int .i64 b, .int .i64 i], .agg #[.int .i64 o, .int .i64 a, .int .i64 b, .int .i64 i]] w fun e w' => e = .returned (.bool true) ∧ Below w.heap.size w w' := by
  have h1 : (o != o) = false := by simp
  have h2 : (a != a) = false := by simp
  have h3 : (b != b) = false := by simp
  have h4 : (i != i) = false := by simp
  go_enter Tryd.func47, Tryd.ntmps47
  go_wp2
  go_ret
  exact ⟨rfl, ((Below.refl _ _).alloc (Nat.le_refl _) _).alloc (by simp) _⟩

set_option maxRecDepth 100000 in
theorem eqInstResult_calls (c o a b i : Int) (w : World) :
    Calls Tryd.prog 21 #[.agg #[.int .i64 c, .int .i64 o, .int .i64 a, .int .i64 b, .int .i64 i], .agg #[.int .i64 c, .int .i64 o, .int .i64 a, .int .i64 b, .int .i64 i]] w fun e w' => e = .returned (.bool true) ∧ Below w.heap.size w w' := by
  have h1 : (c != c) = false := by simp
  have hb := fun o1 o2 => ((Below.refl w.heap.size w).alloc (Nat.le_refl _) o1).alloc (by simp) o2
  have HB := hide hb
  clear hb
  go_enter Tryd.func21, Tryd.ntmps21
  go_wp2_with fail
  refine (eqInst_calls o a b i _).mono ?_
  rintro e w1 ⟨rfl, g1⟩
  have HB1 := hide ((HB.out _ _).trans (g1.mono (HB.out _ _).size))
  clear g1
  go_wp2
  go_ret
  exact ⟨rfl, HB1.out⟩

set_option maxRecDepth 100000 in
set_option maxHeartbeats 4000000 in
theorem implParseInst_calls (s : ByteArray) (w : World) (hsz : s.size ≤ 1048576) (hkw : Kw w) :
    Calls Tryd.prog 8 #[.string s] w fun e w' => e = .returned (R5 (psI (cuts s 0))) ∧ Below w.heap.size w w' := by
  have M0 := (Mm.start w).allocC [.int .i64 0, .int .i64 0, .int .i64 0, .int .i64 0, .int .i64 0] 28
  have hk0 := (hkw.below M0.bel).2
  go_enter Tryd.func8, Tryd.ntmps8
  go_wp2_with fail
  refine (readInst_calls (fun j => kws.getD j ⟨#[]⟩) s _ (by omega) hk0).mono ?_
  rintro e w2 ⟨⟨o, ha, rfl⟩, g2⟩
  have M2 := M0.below g2
  clear hk0 M0 g2
  have hall : rdV o (mach s (2 * s.size + 9) false 0 (nb s 0) 0 0 0) = noI ∧ psI (cuts s 0) = (5, 0, 0, 0, 0) ∨ ∃ p q t : Int, rdV o (mach s (2 * s.size + 9) false 0 (nb s 0) 0 0 0) = .tuple #[.agg #[.int .i64 o, .int .i64 p, .int .i64 q, .int .i64 t], .bool true] ∧ psI (cuts s 0) = if ifC o p q t = 0 then (0, o, p, q, t) else (5, 0, 0, 0, 0) := by
    by_cases h0 : o < 0
    · exact .inl ⟨rdV_no (.inl h0), piNone ha (.inl h0)⟩
    · cases hR : mach s (2 * s.size + 9) false 0 (nb s 0) 0 0 0 with
      | none => exact .inl ⟨rfl, piNone ha (.inr hR)⟩
      | some v =>
        obtain ⟨p, q, t⟩ := v
        exact .inr ⟨p, q, t, rdV_yes (by omega), piSome ha h0 hR⟩
  rcases hall with ⟨hv, hi⟩ | ⟨p, q, t, hv, hi⟩
  · have r0 := (M2.get 0 rfl).cell 0 rfl
    have r1 := (M2.get 0 rfl).cell 1 rfl
    have r2 := (M2.get 0 rfl).cell 2 rfl
    have r3 := (M2.get 0 rfl).cell 3 rfl
    have r4 := (M2.get 0 rfl).cell 4 rfl
    have f0 := (M2.get 0 rfl).fz 0 (by simp)
    have f1 := (M2.get 0 rfl).fz 1 (by simp)
    have f2 := (M2.get 0 rfl).fz 2 (by simp)
    have f3 := (M2.get 0 rfl).fz 3 (by simp)
    have f4 := (M2.get 0 rfl).fz 4 (by simp)
    have HB := hide M2.bel
    have hlt := (M2.get 0 rfl).1
    rw [hv]
    unfold noI
    have HI := hide hi
    clear hv hi M2 ha
    go_wp2
    refine bodyPost_ret (v := R5 (5, 0, 0, 0, 0)) (by simp [results, Tryd.results8, go_sem, R5, r0, r1, r2, r3, r4, hlt]) rfl ⟨by rw [HI.out], ?_⟩
    exact (((((HB.out.setCell (by exact Nat.le_refl _) _).setCell (by exact Nat.le_refl _) _).setCell (by exact Nat.le_refl _) _).setCell (by exact Nat.le_refl _) _).setCell (by exact Nat.le_refl _) _).alloc (by simp only [World.size_setCell]; exact HB.out.size) _
  · rw [hv]
    have M3 := M2.allocC [.int .i64 o, .int .i64 p, .int .i64 q, .int .i64 t] 26
    clear hv ha M2
    go_wp2_with fail
    refine (implInstFault_calls o p q t _).mono ?_
    rintro e w4 ⟨rfl, g4⟩
    have M4 := M3.below g4
    have r0 := (M4.get 1 rfl).cell 0 rfl
    have r1 := (M4.get 1 rfl).cell 1 rfl
    have r2 := (M4.get 1 rfl).cell 2 rfl
    have r3 := (M4.get 1 rfl).cell 3 rfl
    have r4 := (M4.get 1 rfl).cell 4 rfl
    have f0 := (M4.get 1 rfl).fz 0 (by simp)
    have f1 := (M4.get 1 rfl).fz 1 (by simp)
    have f2 := (M4.get 1 rfl).fz 2 (by simp)
    have f3 := (M4.get 1 rfl).fz 3 (by simp)
    have f4 := (M4.get 1 rfl).fz 4 (by simp)
    have d0 := (M4.get 0 rfl).cell 0 rfl
    have d1 := (M4.get 0 rfl).cell 1 rfl
    have d2 := (M4.get 0 rfl).cell 2 rfl
    have d3 := (M4.get 0 rfl).cell 3 rfl
    have HB := hide M4.bel
    clear M3 M4 g4
    by_cases hc : ifC o p q t = 0
    · have e1 : (ifC o p q t != 0) = false := by simp [hc]
      have HI := hide (hi.trans (if_pos hc))
      clear hc hi
      go_wp2
      refine bodyPost_ret (v := R5 (0, o, p, q, t)) (by simp [results, Tryd.results8, go_sem, R5, r0, r1, r2, r3, r4]) rfl ⟨by rw [HI.out], ?_⟩
      exact ((((HB.out.setCell (by exact Nat.le_refl _) _).setCell (by exact Nat.le_refl _) _).setCell (by exact Nat.le_refl _) _).setCell (by exact Nat.le_refl _) _).setCell (by exact Nat.le_refl _) _
    · have e1 : (ifC o p q t != 0) = true := by simpa using hc
      have HI := hide (hi.trans (if_neg hc))
      clear hc hi
      go_wp2
      refine bodyPost_ret (v := R5 (5, 0, 0, 0, 0)) (by simp [results, Tryd.results8, go_sem, R5, r0, r1, r2, r3, r4]) rfl ⟨by rw [HI.out], ?_⟩
      exact ((((HB.out.setCell (by exact Nat.le_refl _) _).setCell (by exact Nat.le_refl _) _).setCell (by exact Nat.le_refl _) _).setCell (by exact Nat.le_refl _) _).setCell (by exact Nat.le_refl _) _

set_option maxRecDepth 100000 in
theorem law_big_ParseInst (s : ByteArray) (w : World) (hl : s.size ≤ maxLen) (hbig : 1048576 < s.size) :
    Calls Tryd.prog 4 #[.string s] w fun e w' => e = .returned (.bool true) ∧ Below w.heap.size w w' := by
  unfold maxLen at hl
  have hb : (1048576 : Int) < (s.size : Int) := by omega
  go_enter Tryd.func4, Tryd.ntmps4
  go_wp2
  go_ret
  exact ⟨rfl, Below.refl _ _⟩

set_option maxRecDepth 100000 in
set_option maxHeartbeats 4000000 in
theorem law_small_ParseInst (s : ByteArray) (w : World) (hs : s.size ≤ 1048576) (hkw : Kw w) :
    Calls Tryd.prog 4 #[.string s] w fun e w' => e = .returned (.bool true) ∧ Below w.heap.size w w' := by
  have hb : ¬ ((1048576 : Int) < (s.size : Int)) := by omega
  obtain ⟨v, hv⟩ : ∃ v, v = psI (cuts s 0) := ⟨_, rfl⟩
  have HSp : ∀ u, Calls Tryd.prog 9 #[.string s] u fun e w' => e = .returned (R5 v) ∧ Below u.heap.size u w' := fun u => by rw [hv]; exact specParseInst_calls s u hs
  have HIm : ∀ u, Kw u → Calls Tryd.prog 8 #[.string s] u fun e w' => e = .returned (R5 v) ∧ Below u.heap.size u w' := fun u hu => by rw [hv]; exact implParseInst_calls s u hs hu
  clear hv
  obtain ⟨c, o, a, b, i⟩ := v
  unfold R5 at HSp HIm
  dsimp only at HSp HIm
  have M0 := Mm.start w
  go_enter Tryd.func4, Tryd.ntmps4
  go_wp2_with fail
  refine (HSp _).mono ?_
  rintro e w1 ⟨rfl, g1⟩
  have M1 := (M0.below g1).allocC [.int .i64 c, .int .i64 o, .int .i64 a, .int .i64 b, .int .i64 i] 28
  clear M0 g1
  go_wp2_with fail
  refine (HIm _ (hkw.below M1.bel)).mono ?_
  rintro e w2 ⟨rfl, g2⟩
  have M2 := (M1.below g2).allocC [.int .i64 c, .int .i64 o, .int .i64 a, .int .i64 b, .int .i64 i] 28
  clear M1 g2
  have c0 := (M2.get 0 rfl).cell 0 rfl
  have c1 := (M2.get 0 rfl).cell 1 rfl
  have c2 := (M2.get 0 rfl).cell 2 rfl
  have c3 := (M2.get 0 rfl).cell 3 rfl
  have c4 := (M2.get 0 rfl).cell 4 rfl
  have d0 := (M2.get 1 rfl).cell 0 rfl
  have d1 := (M2.get 1 rfl).cell 1 rfl
  have d2 := (M2.get 1 rfl).cell 2 rfl
  have d3 := (M2.get 1 rfl).cell 3 rfl
  have d4 := (M2.get 1 rfl).cell 4 rfl
  go_wp2_with fail
  refine (eqInstResult_calls c o a b i _).mono ?_
  rintro e w3 ⟨rfl, g3⟩
  have HB := hide (M2.below g3).bel
  clear M2 g3 c0 c1 c2 c3 c4 d0 d1 d2 d3 d4
  go_wp2
  go_ret
  exact ⟨rfl, HB.out⟩

theorem walk_ParseInst (s : ByteArray) (w : World) (hl : s.size ≤ maxLen) (hkw : Kw w) :
    Calls Tryd.prog 4 #[.string s] w fun e w' => e = .returned (.bool true) ∧ Below w.heap.size w w' := by
  by_cases h : s.size ≤ 1048576
  · exact law_small_ParseInst s w h hkw
  · exact law_big_ParseInst s w hl (by omega)

end Go.Proofs.YtpgpoeljbppggaaDoor
