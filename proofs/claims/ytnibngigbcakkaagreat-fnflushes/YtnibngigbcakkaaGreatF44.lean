import Derived.Test.YtnibngigbcakkaaGreatF5
import Derived.Test.YtnibngigbcakkaaGreatF7
import Derived.WalkKit
import Derived.ProofKit
import Derived.OpenShut
import Derived.ShutString
import Derived.ChangeOld
import Derived.Below
import Derived.WalkSpells
import Derived.Deep.QuietTactic
import Derived.BigQuiet
import Derived.Deep.RegionWith
import Derived.Deep.WholeRow
import Derived.Deep.DeepCutAuto
import Derived.Deep.RegionHeld2
import Derived.Deep.AppendLies
import Derived.Deep.RegionLaw
namespace Go.Proofs.YtnibngigbcakkaaGreat
open Go.ChangeShapes Go.WideShapes Go.ChangeAt Go.RowKit

set_option maxRecDepth 100000 in
set_option maxHeartbeats 1000000 in
theorem specFlushCache_calls (s : Int) (a : Option Addr) (n c : Nat) (ls : List (Int × Int × Int)) (d t : Int) (w : World) (hn : n ≤ maxLen) (_ : n ≤ c) (hs : Sln w a n ls) :
    Calls Tryz.prog 13 #[.agg #[.int .i64 s, .slice a n c], .int .i64 d, .int .i64 t] w fun e w' => ∃ ra rn rc, e = .returned (.agg #[.int .i64 (faultC s ls), .int .i64 (cV (faultC s ls) ((flL ls d t).length : Int)), .int .i64 (cV (faultC s ls) s), .slice ra rn rc]) ∧
      OL (InR w.heap.size w'.heap.size) ra rn (cL (faultC s ls) (flL ls d t)) w' ∧ Below w.heap.size w w' := by
  have M0 := ((Mm.start w).alloc2 (.int .i64 s) (.slice a n c) 26).alloc4 (.int .i64 0) (.int .i64 0) (.int .i64 0) (.slice none 0 0) 30
  try simp only [World.size_alloc] at M0
  have hb2 := M0.bel
  have hlen := hs.1
  go_enter Tryz.func13, Tryz.ntmps13
  go_wp2_with fail
  refine (l4Fault_calls w.heap.size s a n c ls _ hn (by simp) (by simp) (hs.below hb2 (Nat.le_refl _))).mono ?_
  rintro e w1 ⟨rfl, g1⟩
  have M1 := M0.below g1
  have hs1 := hs.below M1.bel (Nat.le_refl _)
  clear M0 g1 hb2
  by_cases hf : faultC s ls = 0
  rotate_left
  · have HV := hide fun x => cV_no (n := x) hf
    have HL := hide (cL_no (ls := flL ls d t) hf)
    have hne : (faultC s ls != 0) = true := by simpa using hf
    clear hf
    go_wp2_with fail
    refine (l4Bad_calls _ _).mono ?_
    rintro e w2 ⟨rfl, g2⟩
    have M2 := M1.below g2
    have c0 := M2.cell 0 rfl
    have c1 := M2.cell 1 rfl
    have c2 := M2.cell 2 rfl
    have c3 := M2.cell 3 rfl
    have f0 := M2.fz 0 rfl
    have f1 := M2.fz 1 rfl
    have f2 := M2.fz 2 rfl
    have f3 := M2.fz 3 rfl
    have HB := hide M2.bel
    clear M1 M2 g2
    go_wp2
    refine bodyPost_ret (v := .agg #[.int .i64 (faultC s ls), .int .i64 0, .int .i64 0, .slice none 0 0]) (by simp [results, Tryz.results13, go_sem, c0, c1, c2, c3]) rfl ⟨_, _, _, by rw [HV.out, HV.out], ?_, ?_⟩
    · rw [HL.out]; exact OL.nil _ _ _
    · exact below_set4 HB.out (by omega) _ _ _ _
  · have HV := hide fun x => cV_ok (n := x) hf
    have HL := hide (cL_ok (ls := flL ls d t) hf)
    have HF := hide hf
    have hne : (faultC s ls != 0) = false := by simp [hf]
    have hinv := faultC_inv hf
    have hn6 : n ≤ 1048576 := by omega
    have hfl := length_flL' ls d t
    have q0 := M1.cell 4 rfl
    have q1 := M1.cell 5 rfl
    have z1 := M1.bel.size
    have zP := M1.lt 0 rfl
    clear hf hinv
    go_wp2_with fail
    refine (l4Copy_R s a n c ls _ hn6 hs1).mono ?_
    rintro e w2 ⟨ra, rc, rfl, ho, g2⟩
    have M2 := (M1.below g2).alloc2 (.int .i64 s) (.slice ra n rc) 26
    have z2 := g2.size
    have V2 : CV (w2.alloc (.cells #[.int .i64 s, .slice ra n rc] 26)) w1.heap.size w2.heap.size s (.slice ra n rc) n ls :=
      ⟨z2, by simp, by simp, by simp, by simp, by simp, own_below ho ((Below.refl _ _).alloc (Nat.le_refl _) _), hlen, fun e => by have := (ho.lt _ e).2; omega⟩
    clear q0 q1 ho g2 hs1 M1
    go_wp2_with fail
    refine (l4Flush_V w1.heap.size w2.heap.size s ra n rc ls d t _ hn6 V2).mono ?_
    rintro e w3 ⟨rfl, xa, xc, V3, g3⟩
    have z3 := g3.size
    simp only [World.size_alloc] at z3
    have M3 : Mm w w3 [(w.heap.size + 1, 0, .int .i64 0), (w.heap.size + 1, 1, .int .i64 0), (w.heap.size + 1, 2, .int .i64 0), (w.heap.size + 1, 3, .slice none 0 0)] [] :=
      (M2.sub (fun _ h => by simp only [List.mem_cons, List.not_mem_nil, or_false] at h ⊢; rcases h with h | h | h | h <;> simp [h]) (fun _ h => by cases h)).out (B := w1.heap.size) (T := w3.heap.size) ⟨g3.os, g3.tape, g3.output, g3.size, fun k hk hn => g3.block k (by rcases Nat.lt_or_ge k w1.heap.size with h | h; exact h; exact absurd ⟨h, by simp at hk; omega⟩ hn)⟩ z1 (by simp; omega) (by simp)
    have p0 := V3.c0
    have p1 := V3.c1
    obtain ⟨ya, yc, hy, hol⟩ := own_ol (by omega) rfl V3.own
    simp only [Value.slice.injEq, true_and] at hy
    obtain ⟨rfl, rfl⟩ := hy
    have r0 := M3.cell 0 rfl
    have r1 := M3.cell 1 rfl
    have r2 := M3.cell 2 rfl
    have r3 := M3.cell 3 rfl
    have e0 := M3.fz 0 rfl
    have e1 := M3.fz 1 rfl
    have e2 := M3.fz 2 rfl
    have e3 := M3.fz 3 rfl
    have HB := hide M3.bel
    clear M2 M3 V2 V3 g3
    go_wp2
    refine bodyPost_ret (v := .agg #[.int .i64 0, .int .i64 ((flL ls d t).length : Int), .int .i64 s, .slice xa (flL ls d t).length xc]) (by simp [results, Tryz.results13, go_sem, r0, r1, r2, r3]) rfl ⟨xa, _, xc, by rw [HV.out, HV.out, HF.out], ?_, below_set4 HB.out (by omega) _ _ _ _⟩
    rw [HL.out]
    exact (OL.set4 hol (fun e => by have := e.1; omega) _ _ _ _).mono (fun k hk => ⟨by have := hk.1; omega, by have := hk.2; simp; omega⟩)

set_option maxRecDepth 100000 in
set_option maxHeartbeats 1000000 in
theorem implEvictCache_calls (s : Int) (a : Option Addr) (n c : Nat) (ls : List (Int × Int × Int)) (p : Int) (w : World) (hn : n ≤ maxLen) (hnc : n ≤ c) (hs : Sln w a n ls) :
    Calls Tryz.prog 8 #[.agg #[.int .i64 s, .slice a n c], .int .i64 p] w fun e w' => ∃ ra rn rc, e = .returned (.agg #[.int .i64 (evC s ls p), .int .i64 (cV (evC s ls p) ((evL ls p).length : Int)), .int .i64 (cV (evC s ls p) s), .slice ra rn rc]) ∧
      OL (InR w.heap.size w'.heap.size) ra rn (cL (evC s ls p) (evL ls p)) w' ∧ Below w.heap.size w w' := by
  have M0 := ((Mm.start w).alloc2 (.int .i64 s) (.slice a n c) 26).alloc4 (.int .i64 0) (.int .i64 0) (.int .i64 0) (.slice none 0 0) 30
  try simp only [World.size_alloc] at M0
  have hb2 := M0.bel
  have hlen := hs.1
  go_enter Tryz.func8, Tryz.ntmps8
  go_wp2_with fail
  refine (implCacheFault_calls s a n c ls _ hn hnc (hs.below hb2 (Nat.le_refl _))).mono ?_
  rintro e w1 ⟨rfl, g1⟩
  have M1 := M0.below g1
  have hs1 := hs.below M1.bel (Nat.le_refl _)
  clear M0 g1 hb2
  by_cases hf : faultC s ls = 0
  rotate_left
  · have HC : Hid (evC s ls p = faultC s ls) := if_neg hf
    have hf' : evC s ls p ≠ 0 := by rw [HC.out]; exact hf
    have HV := hide fun x => cV_no (n := x) hf'
    have HL := hide (cL_no (ls := evL ls p) hf')
    have hne : (faultC s ls != 0) = true := by simpa using hf
    have c0 := M1.cell 0 rfl
    have c1 := M1.cell 1 rfl
    have c2 := M1.cell 2 rfl
    have c3 := M1.cell 3 rfl
    have f0 := M1.fz 0 rfl
    have f1 := M1.fz 1 rfl
    have f2 := M1.fz 2 rfl
    have f3 := M1.fz 3 rfl
    have HB := hide M1.bel
    clear M1 hf hf'
    go_wp2
    refine bodyPost_ret (v := .agg #[.int .i64 (faultC s ls), .int .i64 0, .int .i64 0, .slice none 0 0]) (by simp [results, Tryz.results8, go_sem, c0, c1, c2, c3]) rfl ⟨_, _, _, by rw [HV.out, HV.out, HC.out], ?_, ?_⟩
    · rw [HL.out]; exact OL.nil _ _ _
    · exact below_set4 HB.out (by omega) _ _ _ _
  by_cases hp : p < 0
  · have HC : Hid (evC s ls p = 3) := by show _ = _; unfold evC; rw [if_pos hf, if_pos hp]
    have hf' : evC s ls p ≠ 0 := by rw [HC.out]; omega
    have HV := hide fun x => cV_no (n := x) hf'
    have HL := hide (cL_no (ls := evL ls p) hf')
    have hne : (faultC s ls != 0) = false := by simp [hf]
    have c0 := M1.cell 0 rfl
    have c1 := M1.cell 1 rfl
    have c2 := M1.cell 2 rfl
    have c3 := M1.cell 3 rfl
    have f0 := M1.fz 0 rfl
    have f1 := M1.fz 1 rfl
    have f2 := M1.fz 2 rfl
    have f3 := M1.fz 3 rfl
    have HB := hide M1.bel
    clear M1 hf hf'
    go_wp2
    refine bodyPost_ret (v := .agg #[.int .i64 3, .int .i64 0, .int .i64 0, .slice none 0 0]) (by simp [results, Tryz.results8, go_sem, c0, c1, c2, c3]) rfl ⟨_, _, _, by rw [HV.out, HV.out, HC.out], ?_, ?_⟩
    · rw [HL.out]; exact OL.nil _ _ _
    · exact below_set4 HB.out (by omega) _ _ _ _
  · have HF : Hid (evC s ls p = 0) := by show _ = _; unfold evC; rw [if_pos hf, if_neg hp]
    have HV := hide fun x => cV_ok (n := x) HF.out
    have HL := hide (cL_ok (ls := evL ls p) HF.out)
    have hp' : 0 ≤ p := by omega
    have hne : (faultC s ls != 0) = false := by simp [hf]
    have hinv := faultC_inv hf
    have hn6 : n ≤ 1048576 := by omega
    have hfl := length_evL ls p
    have q0 := M1.cell 4 rfl
    have q1 := M1.cell 5 rfl
    have HM := hide M1
    have HS := hide hs1
    have z1 := M1.bel.size
    have zP := M1.lt 0 rfl
    clear M1 hs1 hf hinv
    go_wp2_with fail
    go_region_with (first
      | (go_at_call 22; refine (evicted_calls a n c ls p _ hn6 hp' ?_).mono ?_; exact HS.out.below (Below.refl _ _).drew (Nat.le_refl _); rintro e w2 ⟨v, rfl, ho, ga⟩; obtain ⟨ra, rc, rfl, hol⟩ := own_ol (by omega) rfl ho; have M2 := HM.out.drew.below ga; have q0' := M2.cell 4 rfl; clear q0 q1; have z2 := ga.size; clear ga ho)
      | (go_at_call 19; refine (remembered_calls s ra _ rc _).mono ?_; rintro e w3 ⟨rfl, gb⟩; have M3 := M2.below gb; have z3 := gb.size; have ol3 := OL.loc.below gb hol; clear gb M2 hol; have r0 := M3.cell 0 rfl; have r1 := M3.cell 1 rfl; have r2 := M3.cell 2 rfl; have r3 := M3.cell 3 rfl; have e0 := M3.fz 0 rfl; have e1 := M3.fz 1 rfl; have e2 := M3.fz 2 rfl; have e3 := M3.fz 3 rfl))
    all_goals (
      have HB := hide M3.bel
      clear M3
      go_wp2
      refine bodyPost_ret (v := .agg #[.int .i64 0, .int .i64 ((evL ls p).length : Int), .int .i64 s, .slice ra (evL ls p).length rc]) (by simp [results, Tryz.results8, go_sem, r0, r1, r2, r3]) rfl ⟨ra, _, rc, by rw [HV.out, HV.out, HF.out], ?_, below_set4 HB.out (by omega) _ _ _ _⟩
      rw [HL.out]
      exact (OL.set4 ol3 (fun e => by have := e.1; simp only [World.size_drew] at this; omega) _ _ _ _).mono (fun k hk => ⟨by have := hk.1; simp only [World.size_drew] at this; omega, by have := hk.2; simp; omega⟩))

set_option maxRecDepth 100000 in
set_option maxHeartbeats 1000000 in
theorem specEvictCache_calls (s : Int) (a : Option Addr) (n c : Nat) (ls : List (Int × Int × Int)) (p : Int) (w : World) (hn : n ≤ maxLen) (_ : n ≤ c) (hs : Sln w a n ls) :
    Calls Tryz.prog 10 #[.agg #[.int .i64 s, .slice a n c], .int .i64 p] w fun e w' => ∃ ra rn rc, e = .returned (.agg #[.int .i64 (evC s ls p), .int .i64 (cV (evC s ls p) ((evL ls p).length : Int)), .int .i64 (cV (evC s ls p) s), .slice ra rn rc]) ∧
      OL (InR w.heap.size w'.heap.size) ra rn (cL (evC s ls p) (evL ls p)) w' ∧ Below w.heap.size w w' := by
  have M0 := ((Mm.start w).alloc2 (.int .i64 s) (.slice a n c) 26).alloc4 (.int .i64 0) (.int .i64 0) (.int .i64 0) (.slice none 0 0) 30
  try simp only [World.size_alloc] at M0
  have hb2 := M0.bel
  have hlen := hs.1
  go_enter Tryz.func10, Tryz.ntmps10
  go_wp2_with fail
  refine (l4Fault_calls w.heap.size s a n c ls _ hn (by simp) (by simp) (hs.below hb2 (Nat.le_refl _))).mono ?_
  rintro e w1 ⟨rfl, g1⟩
  have M1 := M0.below g1
  have hs1 := hs.below M1.bel (Nat.le_refl _)
  clear M0 g1 hb2
  by_cases hf : faultC s ls = 0
  rotate_left
  · have HC : Hid (evC s ls p = faultC s ls) := if_neg hf
    have hf' : evC s ls p ≠ 0 := by rw [HC.out]; exact hf
    have HV := hide fun x => cV_no (n := x) hf'
    have HL := hide (cL_no (ls := evL ls p) hf')
    have hne : (faultC s ls != 0) = true := by simpa using hf
    clear hf hf'
    go_wp2_with fail
    refine (l4Bad_calls _ _).mono ?_
    rintro e w2 ⟨rfl, g2⟩
    have M2 := M1.below g2
    have c0 := M2.cell 0 rfl
    have c1 := M2.cell 1 rfl
    have c2 := M2.cell 2 rfl
    have c3 := M2.cell 3 rfl
    have f0 := M2.fz 0 rfl
    have f1 := M2.fz 1 rfl
    have f2 := M2.fz 2 rfl
    have f3 := M2.fz 3 rfl
    have HB := hide M2.bel
    clear M1 M2 g2
    go_wp2
    refine bodyPost_ret (v := .agg #[.int .i64 (faultC s ls), .int .i64 0, .int .i64 0, .slice none 0 0]) (by simp [results, Tryz.results10, go_sem, c0, c1, c2, c3]) rfl ⟨_, _, _, by rw [HV.out, HV.out, HC.out], ?_, ?_⟩
    · rw [HL.out]; exact OL.nil _ _ _
    · exact below_set4 HB.out (by omega) _ _ _ _
  by_cases hp : p < 0
  · have HC : Hid (evC s ls p = 3) := by show _ = _; unfold evC; rw [if_pos hf, if_pos hp]
    have hf' : evC s ls p ≠ 0 := by rw [HC.out]; omega
    have HV := hide fun x => cV_no (n := x) hf'
    have HL := hide (cL_no (ls := evL ls p) hf')
    have hne : (faultC s ls != 0) = false := by simp [hf]
    clear hf hf'
    go_wp2_with fail
    refine (l4Bad_calls _ _).mono ?_
    rintro e w2 ⟨rfl, g2⟩
    have M2 := M1.below g2
    have c0 := M2.cell 0 rfl
    have c1 := M2.cell 1 rfl
    have c2 := M2.cell 2 rfl
    have c3 := M2.cell 3 rfl
    have f0 := M2.fz 0 rfl
    have f1 := M2.fz 1 rfl
    have f2 := M2.fz 2 rfl
    have f3 := M2.fz 3 rfl
    have HB := hide M2.bel
    clear M1 M2 g2
    go_wp2
    refine bodyPost_ret (v := .agg #[.int .i64 3, .int .i64 0, .int .i64 0, .slice none 0 0]) (by simp [results, Tryz.results10, go_sem, c0, c1, c2, c3]) rfl ⟨_, _, _, by rw [HV.out, HV.out, HC.out], ?_, ?_⟩
    · rw [HL.out]; exact OL.nil _ _ _
    · exact below_set4 HB.out (by omega) _ _ _ _
  · have HF : Hid (evC s ls p = 0) := by show _ = _; unfold evC; rw [if_pos hf, if_neg hp]
    have HV := hide fun x => cV_ok (n := x) HF.out
    have HL := hide (cL_ok (ls := evL ls p) HF.out)
    have hp' : 0 ≤ p := by omega
    have hne : (faultC s ls != 0) = false := by simp [hf]
    have hinv := faultC_inv hf
    have hn6 : n ≤ 1048576 := by omega
    have hfl := length_evL ls p
    have q0 := M1.cell 4 rfl
    have q1 := M1.cell 5 rfl
    have z1 := M1.bel.size
    have zP := M1.lt 0 rfl
    clear hf hinv
    go_wp2_with fail
    refine (l4Copy_R s a n c ls _ hn6 hs1).mono ?_
    rintro e w2 ⟨ra, rc, rfl, ho, g2⟩
    have M2 := (M1.below g2).alloc2 (.int .i64 s) (.slice ra n rc) 26
    have z2 := g2.size
    have V2 : CV (w2.alloc (.cells #[.int .i64 s, .slice ra n rc] 26)) w1.heap.size w2.heap.size s (.slice ra n rc) n ls :=
      ⟨z2, by simp, by simp, by simp, by simp, by simp, own_below ho ((Below.refl _ _).alloc (Nat.le_refl _) _), hlen, fun e => by have := (ho.lt _ e).2; omega⟩
    clear q0 q1 ho g2 hs1 M1
    go_wp2_with fail
    refine (l4Evict_V w1.heap.size w2.heap.size s ra n rc ls p _ hn6 hp' V2).mono ?_
    rintro e w3 ⟨rfl, xa, xc, V3, g3, _⟩
    have z3 := g3.size
    simp only [World.size_alloc] at z3
    have M3 : Mm w w3 [(w.heap.size + 1, 0, .int .i64 0), (w.heap.size + 1, 1, .int .i64 0), (w.heap.size + 1, 2, .int .i64 0), (w.heap.size + 1, 3, .slice none 0 0)] [] :=
      (M2.sub (fun _ h => by simp only [List.mem_cons, List.not_mem_nil, or_false] at h ⊢; rcases h with h | h | h | h <;> simp [h]) (fun _ h => by cases h)).out (B := w1.heap.size) (T := w3.heap.size) ⟨g3.os, g3.tape, g3.output, g3.size, fun k hk hn => g3.block k (by rcases Nat.lt_or_ge k w1.heap.size with h | h; exact h; exact absurd ⟨h, by simp at hk; omega⟩ hn)⟩ z1 (by simp; omega) (by simp)
    have p0 := V3.c0
    have p1 := V3.c1
    obtain ⟨ya, yc, hy, hol⟩ := own_ol (by omega) rfl V3.own
    simp only [Value.slice.injEq, true_and] at hy
    obtain ⟨rfl, rfl⟩ := hy
    have r0 := M3.cell 0 rfl
    have r1 := M3.cell 1 rfl
    have r2 := M3.cell 2 rfl
    have r3 := M3.cell 3 rfl
    have e0 := M3.fz 0 rfl
    have e1 := M3.fz 1 rfl
    have e2 := M3.fz 2 rfl
    have e3 := M3.fz 3 rfl
    have HB := hide M3.bel
    clear M2 M3 V2 V3 g3
    go_wp2
    refine bodyPost_ret (v := .agg #[.int .i64 0, .int .i64 ((evL ls p).length : Int), .int .i64 s, .slice xa (evL ls p).length xc]) (by simp [results, Tryz.results10, go_sem, r0, r1, r2, r3]) rfl ⟨xa, _, xc, by rw [HV.out, HV.out, HF.out], ?_, below_set4 HB.out (by omega) _ _ _ _⟩
    rw [HL.out]
    exact (OL.set4 hol (fun e => by have := e.1; omega) _ _ _ _).mono (fun k hk => ⟨by have := hk.1; omega, by have := hk.2; simp; omega⟩)

end Go.Proofs.YtnibngigbcakkaaGreat
