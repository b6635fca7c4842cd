import Derived.Test.YtlilbbkidaahlaaL4Fill
import Derived.Test.YtlilbbkidaahlaaFlushI
import Derived.WalkKit
import Derived.ProofKit
import Derived.OpenShut
import Derived.ShutString
import Derived.ChangeOld
import Derived.Below
import Derived.WalkSpells
import Derived.Deep.QuietTactic
import Derived.BigQuiet
import Derived.Deep.RegionWith
import Derived.Deep.WholeRow
import Derived.Deep.DeepCutAuto
import Derived.Deep.RegionHeld2
import Derived.Deep.AppendLies
import Derived.Deep.RegionLaw
namespace Go.Proofs.Ytlilbbkidaahlaa
open Go.ChangeShapes Go.WideShapes Go.ChangeAt Go.RowKit

set_option maxRecDepth 100000 in
set_option maxHeartbeats 4000000 in
theorem specFillCache_calls (s : Int) (a : Option Addr) (n c : Nat) (ls : List (Int × Int × Int)) (d t q p : Int) (w : World) (hn : n ≤ maxLen) (_ : n ≤ c) (hs : Sln w a n ls) :
    Calls Try.prog 10 #[.agg #[.int .i64 s, .slice a n c], .agg #[.int .i64 d, .int .i64 t, .int .i64 q], .int .i64 p] w fun e w' => ∃ ra rn rc, e = .returned (.agg #[.int .i64 (fiC s ls (d, t, q) p), .int .i64 (cV (fiC s ls (d, t, q) p) ((fiL s ls (d, t, q) p).length : Int)), .int .i64 (cV (fiC s ls (d, t, q) p) s), .slice ra rn rc]) ∧
      OL (InR w.heap.size w'.heap.size) ra rn (cL (fiC s ls (d, t, q) p) (fiL s ls (d, t, q) p)) w' ∧ Below w.heap.size w w' := by
  have M0 := (((Mm.start w).alloc2 (.int .i64 s) (.slice a n c) 26).alloc3 (.int .i64 d) (.int .i64 t) (.int .i64 q) 28).alloc4 (.int .i64 0) (.int .i64 0) (.int .i64 0) (.slice none 0 0) 32
  try simp only [World.size_alloc] at M0
  have hb2 := M0.bel
  have hlen := hs.1
  go_enter Try.func10, Try.ntmps10
  go_wp2_with fail
  refine (l4Fault_calls w.heap.size s a n c ls _ hn (M0.cell 7 rfl) (M0.cell 8 rfl) (hs.below hb2 (Nat.le_refl _))).mono ?_
  rintro e w1 ⟨rfl, g1⟩
  have M1 := M0.below g1
  have hs1 := hs.below M1.bel (Nat.le_refl _)
  clear M0 g1 hb2
  by_cases hf : faultC s ls = 0
  rotate_left
  · have HC := hide (fiC_fault (x := (d, t, q)) (p := p) hf)
    have hne : (faultC s ls != 0) = true := by simpa using hf
    have hf' : fiC s ls (d, t, q) p ≠ 0 := by rw [HC.out]; exact hf
    have HV := hide fun x => cV_no (n := x) hf'
    have HL := hide (cL_no (ls := fiL s ls (d, t, q) p) hf')
    clear hf'
    clear hf
    go_wp2_with fail
    refine (l4Bad_calls _ _).mono ?_
    rintro e w2 ⟨rfl, g2⟩
    have M2 := M1.below g2
    have c0 := M2.cell 0 rfl
    have c1 := M2.cell 1 rfl
    have c2 := M2.cell 2 rfl
    have c3 := M2.cell 3 rfl
    have f0 := M2.fz 0 rfl
    have f1 := M2.fz 1 rfl
    have f2 := M2.fz 2 rfl
    have f3 := M2.fz 3 rfl
    have HB := hide M2.bel
    clear M1 M2 g2
    go_wp2
    refine bodyPost_ret (v := .agg #[.int .i64 (faultC s ls), .int .i64 0, .int .i64 0, .slice none 0 0]) (by simp [results, Try.results10, go_sem, c0, c1, c2, c3]) rfl ⟨_, _, _, by rw [HV.out, HV.out, HC.out], ?_, ?_⟩
    · rw [HL.out]; exact OL.nil _ _ _
    · exact below_set4 HB.out (by omega) _ _ _ _
  have y0 := M1.cell 4 rfl
  have y1 := M1.cell 5 rfl
  have y2 := M1.cell 6 rfl
  cases hok : okL (d, t, q) with
  | false =>
    have HC := hide (fiC_bad (x := (d, t, q)) (p := p) hf (.inl hok))
    have hne : (faultC s ls != 0) = false := by simp [hf]
    have hf' : fiC s ls (d, t, q) p ≠ 0 := by rw [HC.out]; omega
    have HV := hide fun x => cV_no (n := x) hf'
    have HL := hide (cL_no (ls := fiL s ls (d, t, q) p) hf')
    clear hf'
    clear hf
    go_wp2_with fail
    refine (l4Line_calls (w.heap.size + 1) 0 d t q _ y0 y1 y2).mono ?_
    rintro e w2 ⟨rfl, g2⟩
    rw [hok]
    have M2 := M1.below g2
    clear g2 y0 y1 y2 M1
    go_wp2_with fail
    refine (l4Bad_calls _ _).mono ?_
    rintro e w3 ⟨rfl, g3⟩
    have M3 := M2.below g3
    have c0 := M3.cell 0 rfl
    have c1 := M3.cell 1 rfl
    have c2 := M3.cell 2 rfl
    have c3 := M3.cell 3 rfl
    have f0 := M3.fz 0 rfl
    have f1 := M3.fz 1 rfl
    have f2 := M3.fz 2 rfl
    have f3 := M3.fz 3 rfl
    have HB := hide M3.bel
    clear M2 M3 g3
    go_wp2
    refine bodyPost_ret (v := .agg #[.int .i64 3, .int .i64 0, .int .i64 0, .slice none 0 0]) (by simp [results, Try.results10, go_sem, c0, c1, c2, c3]) rfl ⟨_, _, _, by rw [HV.out, HV.out, HC.out], ?_, ?_⟩
    · rw [HL.out]; exact OL.nil _ _ _
    · exact below_set4 HB.out (by omega) _ _ _ _
  | true =>
    by_cases hp : p < 0
    · have HC := hide (fiC_bad (x := (d, t, q)) (p := p) hf (.inr hp))
      have hne : (faultC s ls != 0) = false := by simp [hf]
      have hf' : fiC s ls (d, t, q) p ≠ 0 := by rw [HC.out]; omega
      have HV := hide fun x => cV_no (n := x) hf'
      have HL := hide (cL_no (ls := fiL s ls (d, t, q) p) hf')
      clear hf'
      clear hf
      go_wp2_with fail
      refine (l4Line_calls (w.heap.size + 1) 0 d t q _ y0 y1 y2).mono ?_
      rintro e w2 ⟨rfl, g2⟩
      rw [hok]
      have M2 := M1.below g2
      clear g2 y0 y1 y2 M1
      go_wp2_with fail
      refine (l4Bad_calls _ _).mono ?_
      rintro e w3 ⟨rfl, g3⟩
      have M3 := M2.below g3
      have c0 := M3.cell 0 rfl
      have c1 := M3.cell 1 rfl
      have c2 := M3.cell 2 rfl
      have c3 := M3.cell 3 rfl
      have f0 := M3.fz 0 rfl
      have f1 := M3.fz 1 rfl
      have f2 := M3.fz 2 rfl
      have f3 := M3.fz 3 rfl
      have HB := hide M3.bel
      clear M2 M3 g3
      go_wp2
      refine bodyPost_ret (v := .agg #[.int .i64 3, .int .i64 0, .int .i64 0, .slice none 0 0]) (by simp [results, Try.results10, go_sem, c0, c1, c2, c3]) rfl ⟨_, _, _, by rw [HV.out, HV.out, HC.out], ?_, ?_⟩
      · rw [HL.out]; exact OL.nil _ _ _
      · exact below_set4 HB.out (by omega) _ _ _ _
    · have hp0 : 0 ≤ p := by omega
      have HF := hide (fiC_ok (x := (d, t, q)) hf hok hp0)
      have HV := hide fun x => cV_ok (n := x) HF.out
      have HL := hide (cL_ok (ls := fiL s ls (d, t, q) p) HF.out)
      have hne : (faultC s ls != 0) = false := by simp [hf]
      have hinv := faultC_inv hf
      have hn6 : n ≤ 6 := by omega
      have hns : (n : Int) ≤ s := by omega
      have hfl := length_fiL (s := s) (ls := ls) (d, t, q) p (by omega)
      clear hf hinv
      go_wp2_with fail
      refine (l4Line_calls (w.heap.size + 1) 0 d t q _ y0 y1 y2).mono ?_
      rintro e w2 ⟨rfl, g2⟩
      rw [hok]
      have M2 := M1.below g2
      have q0 := M2.cell 7 rfl
      have q1 := M2.cell 8 rfl
      have hs2 := hs1.below g2 (Nat.le_refl _)
      have z1 := M2.bel.size
      have zP := M2.lt 0 rfl
      clear g2 y0 y1 y2 M1 hs1
      go_wp2_with fail
      refine (l4Copy_R s a n c ls _ (by omega) hs2).mono ?_
      rintro e w3 ⟨ra, rc, rfl, ho, g3⟩
      have M3 := (M2.below g3).alloc2 (.int .i64 s) (.slice ra n rc) 26
      have z3 := g3.size
      have V3 : CV (w3.alloc (.cells #[.int .i64 s, .slice ra n rc] 26)) w2.heap.size w3.heap.size s (.slice ra n rc) n ls :=
        ⟨z3, by simp, by simp, by simp, by simp, by simp, own_below ho ((Below.refl _ _).alloc (Nat.le_refl _) _), hlen, fun e => by have := (ho.lt _ e).2; omega⟩
      have y0 := M3.cell 6 rfl
      have y1 := M3.cell 7 rfl
      have y2 := M3.cell 8 rfl
      clear q0 q1 ho g3 hs2 M2
      go_wp2_with fail
      refine (l4Fill_V w2.heap.size w3.heap.size s ra n rc ls d t q p _ hn6 hns hp0 V3).mono ?_
      rintro e w4 ⟨rfl, xa, xc, V4, g4⟩
      have z4 := g4.size
      simp only [World.size_alloc] at z4
      have M4 : Mm w w4 [(w.heap.size + 1 + 1, 0, .int .i64 0), (w.heap.size + 1 + 1, 1, .int .i64 0), (w.heap.size + 1 + 1, 2, .int .i64 0), (w.heap.size + 1 + 1, 3, .slice none 0 0)] [] :=
        (M3.sub (fun _ h => by simp only [List.mem_cons, List.not_mem_nil, or_false] at h ⊢; rcases h with h | h | h | h <;> simp [h]) (fun _ h => by cases h)).out (B := w2.heap.size) (T := w4.heap.size) ⟨g4.os, g4.tape, g4.output, g4.size, fun k hk hn => g4.block k (by rcases Nat.lt_or_ge k w2.heap.size with h | h; exact h; exact absurd ⟨h, by simp at hk; omega⟩ hn)⟩ z1 (by simp; omega) (by simp)
      have p0 := V4.c0
      have p1 := V4.c1
      obtain ⟨ya, yc, hy, hol⟩ := own_ol (by omega) rfl V4.own
      simp only [Value.slice.injEq, true_and] at hy
      obtain ⟨rfl, rfl⟩ := hy
      have r0 := M4.cell 0 rfl
      have r1 := M4.cell 1 rfl
      have r2 := M4.cell 2 rfl
      have r3 := M4.cell 3 rfl
      have e0 := M4.fz 0 rfl
      have e1 := M4.fz 1 rfl
      have e2 := M4.fz 2 rfl
      have e3 := M4.fz 3 rfl
      have HB := hide M4.bel
      clear M3 M4 V3 V4 g4 y0 y1 y2
      go_wp2
      refine bodyPost_ret (v := .agg #[.int .i64 0, .int .i64 ((fiL s ls (d, t, q) p).length : Int), .int .i64 s, .slice xa (fiL s ls (d, t, q) p).length xc]) (by simp [results, Try.results10, go_sem, r0, r1, r2, r3]) rfl ⟨xa, _, xc, by rw [HV.out, HV.out, HF.out], ?_, below_set4 HB.out (by omega) _ _ _ _⟩
      rw [HL.out]
      exact (OL.set4 hol (fun e => by have := e.1; omega) _ _ _ _).mono (fun k hk => ⟨by have := hk.1; omega, by have := hk.2; simp; omega⟩)

end Go.Proofs.Ytlilbbkidaahlaa
