import Derived.Test.YtcojgmecocjnkaaChLook
import Derived.WalkKit
import Derived.ProofKit
import Derived.OpenShut
import Derived.ShutString
import Derived.ChangeOld
import Derived.Below
import Derived.WalkSpells
import Derived.Deep.QuietTactic
import Derived.BigQuiet
import Derived.Deep.RegionWith
import Derived.Deep.WholeRow
import Derived.Deep.DeepCutAuto
import Derived.Deep.RegionHeld2
import Derived.Deep.AppendLies
import Derived.Deep.RegionLaw
namespace Go.Proofs.Ytcojgmecocjnkaa
open Go.ChangeShapes Go.WideShapes Go.ChangeAt Go.RowKit

def bitB (b : Int) : Bool := decide (b = 1) || decide (b = 2) || decide (b = 4)

def alC (s : Int) (ls : List (Int × Int × Int)) (d t b : Int) : Int := if faultC s ls = 0 then (if bitB b = true then (if atL ls d t < 0 then 4 else 0) else 3) else faultC s ls

def alV (s : Int) (ls : List (Int × Int × Int)) (d t b : Int) : Int := if faultC s ls = 0 then (if bitB b = true then (if atL ls d t < 0 then 0 else (g3 ls (atL ls d t).toNat).2.2 / b % 2) else 0) else 0

theorem bit_cases {b : Int} (h : bitB b = true) : b = 1 ∨ b = 2 ∨ b = 4 := by
  unfold bitB at h
  simp at h
  omega

theorem bit_no {b : Int} (h : bitB b = false) : b ≠ 1 ∧ b ≠ 2 ∧ b ≠ 4 := by
  unfold bitB at h
  simp at h
  omega

set_option maxRecDepth 100000 in
theorem l7Bit_calls (b : Int) (w : World) : Calls Try.prog 12 #[.int .i64 b] w fun e w' => e = .returned (.bool (bitB b)) ∧ w' = w := by
  by_cases h1 : b = 1
  · subst h1
    go_enter Try.func12, Try.ntmps12
    go_wp2
    go_ret
    exact ⟨rfl, rfl⟩
  · by_cases h2 : b = 2
    · subst h2
      go_enter Try.func12, Try.ntmps12
      go_wp2
      go_ret
      exact ⟨rfl, rfl⟩
    · have HR : Hid (bitB b = (b == 4)) := by
        show _ = _
        unfold bitB
        simp [h1, h2]
        rfl
      have e1 : (b == 1) = false := by simpa using h1
      have e2 : (b == 2) = false := by simpa using h2
      go_enter Try.func12, Try.ntmps12
      go_wp2
      go_ret
      exact ⟨ret_bool HR.out.symm, rfl⟩

set_option maxRecDepth 100000 in
set_option maxHeartbeats 1000000 in
theorem specAllowedBy_calls (s : Int) (a : Option Addr) (n c : Nat) (ls : List (Int × Int × Int)) (d t b : Int) (w : World) (hn : n ≤ maxLen) (_ : n ≤ c) (hs : Sln w a n ls) :
    Calls Try.prog 5 #[.agg #[.int .i64 s, .slice a n c], .int .i64 d, .int .i64 t, .int .i64 b] w fun e w' => e = .returned (.agg #[.int .i64 (alC s ls d t b), .int .i64 (alV s ls d t b)]) ∧ Below w.heap.size w w' := by
  have M0 := ((Mm.start w).alloc2 (.int .i64 s) (.slice a n c) 31).alloc2 (.int .i64 0) (.int .i64 0) 27
  try simp only [World.size_alloc] at M0
  have hb2 := M0.bel
  have z0 := hb2.size
  have hlen := hs.1
  go_enter Try.func5, Try.ntmps5
  go_wp2_with fail
  refine (l4Fault_calls w.heap.size s a n c ls _ hn (by simp) (by simp) (hs.below hb2 (Nat.le_refl _))).mono ?_
  rintro e w1 ⟨rfl, g1⟩
  have M1 := M0.below g1
  have c0 := M1.cell 0 rfl
  have c1 := M1.cell 1 rfl
  have c3 := M1.cell 3 rfl
  have f0 := M1.fz 0 rfl
  have f1 := M1.fz 1 rfl
  have HB := hide M1.bel
  by_cases hf : faultC s ls = 0
  rotate_left
  · have HC : Hid (alC s ls d t b = faultC s ls) := if_neg hf
    have HV : Hid (alV s ls d t b = 0) := if_neg hf
    have hne : (faultC s ls != 0) = true := by simpa using hf
    clear M0 M1 g1 hb2 z0 hf
    go_wp2
    refine bodyPost_ret (v := .agg #[.int .i64 (faultC s ls), .int .i64 0]) (by simp [results, Try.results5, go_sem, c0, c1]) rfl ⟨by rw [HC.out, HV.out], ?_⟩
    exact (HB.out.setCell (by simp) _).setCell (by simp) _
  · have hne : (faultC s ls != 0) = false := by simp [hf]
    have hl := atL_lt ls d t
    clear M0 g1 hb2
    go_wp2_with fail
    refine (l7Bit_calls b _).mono ?_
    rintro e w1 ⟨rfl, rfl⟩
    cases hbit : bitB b with
    | false =>
      have HC : Hid (alC s ls d t b = 3) := by show alC _ _ _ _ _ = _; unfold alC; rw [if_pos hf, if_neg (by rw [hbit]; simp)]
      have HV : Hid (alV s ls d t b = 0) := by show alV _ _ _ _ _ = _; unfold alV; rw [if_pos hf, if_neg (by rw [hbit]; simp)]
      clear M1 z0 hf hne
      go_wp2
      refine bodyPost_ret (v := .agg #[.int .i64 3, .int .i64 0]) (by simp [results, Try.results5, go_sem, c0, c1]) rfl ⟨by rw [HC.out, HV.out], ?_⟩
      exact (HB.out.setCell (by simp) _).setCell (by simp) _
    | true =>
      go_wp2_with fail
      refine (l4At_calls w.heap.size a n c ls d t _ hn (M1.cell 3 rfl) (hs.below M1.bel (Nat.le_refl _))).mono ?_
      rintro e w2 ⟨rfl, g2⟩
      have M2 := M1.below g2
      have d0 := M2.cell 0 rfl
      have d1 := M2.cell 1 rfl
      have d3 := M2.cell 3 rfl
      have e0 := M2.fz 0 rfl
      have e1 := M2.fz 1 rfl
      have HB2 := hide M2.bel
      by_cases hat : atL ls d t < 0
      · have HC : Hid (alC s ls d t b = 4) := by show alC _ _ _ _ _ = _; unfold alC; rw [if_pos hf, if_pos hbit, if_pos hat]
        have HV : Hid (alV s ls d t b = 0) := by show alV _ _ _ _ _ = _; unfold alV; rw [if_pos hf, if_pos hbit, if_pos hat]
        clear M1 M2 g2 z0 hf hne c0 c1 c3 f0 f1
        go_wp2
        refine bodyPost_ret (v := .agg #[.int .i64 4, .int .i64 0]) (by simp [results, Try.results5, go_sem, d0, d1]) rfl ⟨by rw [HC.out, HV.out], ?_⟩
        exact (HB2.out.setCell (by simp) _).setCell (by simp) _
      · obtain ⟨j, hj⟩ : ∃ j : Nat, atL ls d t = (j : Int) := ⟨(atL ls d t).toNat, by omega⟩
        have hjn : j < n := by omega
        have HC : Hid (alC s ls d t b = 0) := by show alC _ _ _ _ _ = _; unfold alC; rw [if_pos hf, if_pos hbit, if_neg hat]
        have HV : Hid (alV s ls d t b = (g3 ls j).2.2 / b % 2) := by show alV _ _ _ _ _ = _; unfold alV; rw [if_pos hf, if_pos hbit, if_neg hat, hj]; simp
        have hok : 0 ≤ (g3 ls j).2.2 ∧ (g3 ls j).2.2 ≤ 7 := by
          have h := ((faultC_inv hf).2.2.2 j (by omega)).1
          unfold okL at h
          simp at h
          omega
        rw [hj]
        obtain ⟨_, hs'⟩ := hs
        obtain ⟨bk, off, rfl, hb, hc⟩ := hs' (by omega)
        obtain ⟨_, _, r2⟩ := cells3 hc hjn
        have p2 := (M2.bel.cell (p := ⟨bk, off + j * 3 + 2, none⟩) hb).trans r2
        have hbc := bit_cases hbit
        generalize (g3 ls j).2.2 = pv at *
        clear M1 M2 g2 z0 hf hne c0 c1 c3 f0 f1 hc r2 hat hl hj hbit
        rcases hbc with rfl | rfl | rfl
        · have HV1 : Hid (alV s ls d t 1 = pv % 2) := by show _ = _; rw [HV.out, Int.ediv_one]
          go_wp2
          refine bodyPost_ret (v := .agg #[.int .i64 0, .int .i64 (pv % 2)]) (by simp [results, Try.results5, go_sem, d0, d1]) rfl ⟨by rw [HC.out, HV1.out], ?_⟩
          exact (HB2.out.setCell (by simp) _).setCell (by simp) _
        · go_wp2
          refine bodyPost_ret (v := .agg #[.int .i64 0, .int .i64 (pv / 2 % 2)]) (by simp [results, Try.results5, go_sem, d0, d1]) rfl ⟨by rw [HC.out, HV.out], ?_⟩
          exact (HB2.out.setCell (by simp) _).setCell (by simp) _
        · go_wp2
          refine bodyPost_ret (v := .agg #[.int .i64 0, .int .i64 (pv / 4 % 2)]) (by simp [results, Try.results5, go_sem, d0, d1]) rfl ⟨by rw [HC.out, HV.out], ?_⟩
          exact (HB2.out.setCell (by simp) _).setCell (by simp) _

def aiC (ls : List (Int × Int × Int)) (d t : Int) : Int := if atL ls d t < 0 then 4 else 0

def aiV (ls : List (Int × Int × Int)) (d t b : Int) : Int := if atL ls d t < 0 then 0 else (g3 ls (atL ls d t).toNat).2.2 / b % 2

set_option maxRecDepth 100000 in
set_option maxHeartbeats 1000000 in
theorem allowedIn_calls (a : Option Addr) (n c : Nat) (ls : List (Int × Int × Int)) (d t b : Int) (w : World) (hn : n ≤ maxLen) (hs : Sln w a n ls) (hp : ∀ j, j < ls.length → 0 ≤ (g3 ls j).2.2 ∧ (g3 ls j).2.2 ≤ 7) (hb : b = 1 ∨ b = 2 ∨ b = 4) :
    Calls Try.prog 16 #[.slice a n c, .int .i64 d, .int .i64 t, .int .i64 b] w fun e w' => e = .returned (.agg #[.int .i64 (aiC ls d t), .int .i64 (aiV ls d t b)]) ∧ Below w.heap.size w w' := by
  have M0 := (Mm.start w).alloc2 (.int .i64 0) (.int .i64 0) 27
  try simp only [World.size_alloc] at M0
  have hlen := hs.1
  have hl := atL_lt ls d t
  go_enter Try.func16, Try.ntmps16
  go_wp2_with fail
  refine (placeOf_calls a n c ls d t _ hn (hs.below M0.bel (Nat.le_refl _))).mono ?_
  rintro e w2 ⟨rfl, g2⟩
  have M2 := M0.below g2
  have d0 := M2.cell 0 rfl
  have d1 := M2.cell 1 rfl
  have e0 := M2.fz 0 rfl
  have e1 := M2.fz 1 rfl
  have HB2 := hide M2.bel
  by_cases hat : atL ls d t < 0
  · have HC : Hid (aiC ls d t = 4) := if_pos hat
    have HV : Hid (aiV ls d t b = 0) := if_pos hat
    clear M0 M2 g2 hp hb
    go_wp2
    refine bodyPost_ret (v := .agg #[.int .i64 4, .int .i64 0]) (by simp [results, Try.results16, go_sem, d0, d1]) rfl ⟨by rw [HC.out, HV.out], ?_⟩
    exact (HB2.out.setCell (by simp) _).setCell (by simp) _
  · obtain ⟨j, hj⟩ : ∃ j : Nat, atL ls d t = (j : Int) := ⟨(atL ls d t).toNat, by omega⟩
    have hjn : j < n := by omega
    have HC : Hid (aiC ls d t = 0) := if_neg hat
    have HV : Hid (aiV ls d t b = (g3 ls j).2.2 / b % 2) := by show aiV _ _ _ _ = _; unfold aiV; rw [if_neg hat, hj]; simp
    have hok := hp j (by omega)
    rw [hj]
    obtain ⟨_, hs'⟩ := hs
    obtain ⟨bk, off, rfl, hbk, hc⟩ := hs' (by omega)
    obtain ⟨_, _, r2⟩ := cells3 hc hjn
    have p2 := (M2.bel.cell (p := ⟨bk, off + j * 3 + 2, none⟩) hbk).trans r2
    generalize (g3 ls j).2.2 = pv at *
    clear M0 M2 g2 hc r2 hat hl hj hp
    rcases hb with rfl | rfl | rfl
    · have HV1 : Hid (aiV ls d t 1 = pv % 2) := by show _ = _; rw [HV.out, Int.ediv_one]
      go_wp2
      refine bodyPost_ret (v := .agg #[.int .i64 0, .int .i64 (pv % 2)]) (by simp [results, Try.results16, go_sem, d0, d1]) rfl ⟨by rw [HC.out, HV1.out], ?_⟩
      exact (HB2.out.setCell (by simp) _).setCell (by simp) _
    · go_wp2
      refine bodyPost_ret (v := .agg #[.int .i64 0, .int .i64 (pv / 2 % 2)]) (by simp [results, Try.results16, go_sem, d0, d1]) rfl ⟨by rw [HC.out, HV.out], ?_⟩
      exact (HB2.out.setCell (by simp) _).setCell (by simp) _
    · go_wp2
      refine bodyPost_ret (v := .agg #[.int .i64 0, .int .i64 (pv / 4 % 2)]) (by simp [results, Try.results16, go_sem, d0, d1]) rfl ⟨by rw [HC.out, HV.out], ?_⟩
      exact (HB2.out.setCell (by simp) _).setCell (by simp) _

set_option maxRecDepth 100000 in
set_option maxHeartbeats 1000000 in
theorem implAllowedBy_calls (s : Int) (a : Option Addr) (n c : Nat) (ls : List (Int × Int × Int)) (d t b : Int) (w : World) (hn : n ≤ maxLen) (hnc : n ≤ c) (hs : Sln w a n ls) :
    Calls Try.prog 7 #[.agg #[.int .i64 s, .slice a n c], .int .i64 d, .int .i64 t, .int .i64 b] w fun e w' => e = .returned (.agg #[.int .i64 (alC s ls d t b), .int .i64 (alV s ls d t b)]) ∧ Below w.heap.size w w' := by
  have M0 := ((Mm.start w).alloc2 (.int .i64 s) (.slice a n c) 31).alloc2 (.int .i64 0) (.int .i64 0) 27
  try simp only [World.size_alloc] at M0
  have hb2 := M0.bel
  have z0 := hb2.size
  go_enter Try.func7, Try.ntmps7
  go_wp2_with fail
  refine (implCacheFault_calls s a n c ls _ hn hnc (hs.below hb2 (Nat.le_refl _))).mono ?_
  rintro e w1 ⟨rfl, g1⟩
  have M1 := M0.below g1
  have z1 := g1.size
  try simp only [World.size_alloc] at z1
  have c0 := M1.cell 0 rfl
  have c1 := M1.cell 1 rfl
  have c2 := M1.cell 2 rfl
  have c3 := M1.cell 3 rfl
  have f0 := M1.fz 0 rfl
  have f1 := M1.fz 1 rfl
  have HB := hide M1.bel
  by_cases hf : faultC s ls = 0
  rotate_left
  · have HC : Hid (alC s ls d t b = faultC s ls) := if_neg hf
    have HV : Hid (alV s ls d t b = 0) := if_neg hf
    have hne : (faultC s ls != 0) = true := by simpa using hf
    clear M0 M1 g1 hb2 z0 hf c2
    go_wp2
    refine bodyPost_ret (v := .agg #[.int .i64 (faultC s ls), .int .i64 0]) (by simp [results, Try.results7, go_sem, c0, c1]) rfl ⟨by rw [HC.out, HV.out], ?_⟩
    exact (HB.out.setCell (by simp) _).setCell (by simp) _
  · have hne : (faultC s ls != 0) = false := by simp [hf]
    clear M0 g1 hb2
    cases hbit : bitB b with
    | false =>
      have HC : Hid (alC s ls d t b = 3) := by show alC _ _ _ _ _ = _; unfold alC; rw [if_pos hf, if_neg (by rw [hbit]; simp)]
      have HV : Hid (alV s ls d t b = 0) := by show alV _ _ _ _ _ = _; unfold alV; rw [if_pos hf, if_neg (by rw [hbit]; simp)]
      obtain ⟨n1, n2, n4⟩ := bit_no hbit
      have e1 : (b != 1) = true := by simpa using n1
      have e2 : (b != 2) = true := by simpa using n2
      have e4 : (b != 4) = true := by simpa using n4
      clear M1 z0 hf c2
      go_wp2
      refine bodyPost_ret (v := .agg #[.int .i64 3, .int .i64 0]) (by simp [results, Try.results7, go_sem, c0, c1]) rfl ⟨by rw [HC.out, HV.out], ?_⟩
      exact (HB.out.setCell (by simp) _).setCell (by simp) _
    | true =>
      have HC : Hid (alC s ls d t b = aiC ls d t) := by show alC _ _ _ _ _ = _; unfold alC aiC; rw [if_pos hf, if_pos hbit]
      have HV : Hid (alV s ls d t b = aiV ls d t b) := by show alV _ _ _ _ _ = _; unfold alV aiV; rw [if_pos hf, if_pos hbit]
      have hp : ∀ j, j < ls.length → 0 ≤ (g3 ls j).2.2 ∧ (g3 ls j).2.2 ≤ 7 := fun j hj => by
        have h := ((faultC_inv hf).2.2.2 j hj).1
        unfold okL at h
        simp at h
        omega
      have hbc := bit_cases hbit
      have HAL := hide fun (X : World) (hX : Sln X a n ls) => allowedIn_calls a n c ls d t b X hn hX hp hbc
      have HSL := hide (hs.below M1.bel (Nat.le_refl _))
      clear hp hf hbit
      generalize aiC ls d t = vc at HAL HC
      generalize aiV ls d t b = vv at HAL HV
      rcases hbc with rfl | rfl | rfl
      all_goals (
        go_wp2_with fail
        refine (HAL.out _ HSL.out).mono ?_
        rintro e w2 ⟨rfl, g2⟩
        have M2 := M1.below g2
        have z2 := g2.size
        have d0 := M2.cell 0 rfl
        have d1 := M2.cell 1 rfl
        have e0 := M2.fz 0 rfl
        have e1 := M2.fz 1 rfl
        have HB2 := hide M2.bel
        clear M1 M2 g2 z0 z1 z2 hne c0 c1 c2 c3 f0 f1
        go_wp2
        refine bodyPost_ret (v := .agg #[.int .i64 vc, .int .i64 vv]) (by simp [results, Try.results7, go_sem, d0, d1]) rfl ⟨by rw [HC.out, HV.out], ?_⟩
        exact (HB2.out.setCell (by simp) _).setCell (by simp) _)

end Go.Proofs.Ytcojgmecocjnkaa
