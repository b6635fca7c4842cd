import Derived.Test.YtpkndgkkakomiaaWmF
import Derived.WalkKit
import Derived.ProofKit
import Derived.OpenShut
import Derived.ShutString
import Derived.ChangeOld
import Derived.Below
import Derived.WalkSpells
import Derived.Deep.QuietTactic
import Derived.BigQuiet
import Derived.Deep.RegionWith
import Derived.Deep.WholeRow
import Derived.Deep.DeepCutAuto
import Derived.Deep.RegionHeld2
import Derived.Deep.AppendLies
import Derived.Deep.RegionLaw
namespace Go.Proofs.Ytpkndgkkakomiaa
open Go.ChangeShapes Go.WideShapes Go.ChangeAt Go.RowKit

set_option maxRecDepth 100000 in
theorem hasWords_calls (a : Option Addr) (n c : Nat) (f k : Int) (w : World) (hn : n ≤ maxLen) :
    Calls Try.prog 23 #[.agg #[.slice a n c], .int .i64 f, .int .i64 k] w fun e w' => e = .returned (.bool (hasW n f k)) ∧ Below w.heap.size w w' := by
  unfold maxLen at hn
  have HB := hide ((Below.refl w.heap.size w).alloc (Nat.le_refl _) (.cells #[.slice a n c] 26))
  cases h0 : up f (n : Int) with
  | false =>
    have HR : Hid (hasW n f k = false) := by show _ = _; unfold hasW; rw [h0]; rfl
    go_enter Try.func23, Try.ntmps23
    go_wp2_with (go_at_call 24; refine (isUpTo_calls _ _ _).mono ?_; rintro e w' ⟨rfl, rfl⟩)
    go_ret
    exact ⟨ret_bool HR.out.symm, HB.out⟩
  | true =>
    obtain ⟨h1, h2⟩ := up_iff.1 h0
    have HR : Hid (hasW n f k = up k ((n : Int) - f)) := by show _ = _; unfold hasW; rw [h0]; rfl
    go_enter Try.func23, Try.ntmps23
    go_wp2_with (go_at_call 24; refine (isUpTo_calls _ _ _).mono ?_; rintro e w' ⟨rfl, rfl⟩)
    go_ret
    exact ⟨ret_bool HR.out.symm, HB.out⟩

theorem hasOne_calls (a : Option Addr) (n c : Nat) (f : Int) (w : World) (hn : n ≤ maxLen) :
    Calls Try.prog 23 #[.agg #[.slice a n c], .int .i64 f, .int .i64 1] w fun e w' => e = .returned (.bool (up f ((n : Int) - 1))) ∧ Below w.heap.size w w' := by
  rw [← hasW_one]
  exact hasWords_calls a n c f 1 w hn

set_option maxRecDepth 100000 in
theorem l6Has_B (P : Nat) (a : Option Addr) (n c : Nat) (f : Int) (w : World) (hn : n ≤ maxLen) (hp : w.cell? ⟨P, 0, none⟩ = some (.slice a n c)) :
    Calls Try.prog 31 #[.pointer (some ⟨P, 0, none⟩), .int .i64 f] w fun e w' => e = .returned (.bool (up f ((n : Int) - 1))) ∧ Below w.heap.size w w' := by
  unfold maxLen at hn
  go_enter Try.func31, Try.ntmps31
  go_wp2_with (go_at_call 28; refine (inUp_calls _ _ _).mono ?_; rintro e w' ⟨rfl, rfl⟩)
  go_ret
  exact ⟨rfl, Below.refl _ _⟩

theorem l6Fault_B (P : Nat) (a : Option Addr) (n c : Nat) (ls : List (Int × Int)) (t : Int) (w : World) (hn : n ≤ maxLen) (hp : w.cell? ⟨P, 0, none⟩ = some (.slice a n c)) (hs : Swd w a n ls) :
    Calls Try.prog 26 #[.pointer (some ⟨P, 0, none⟩), .int .i64 t] w fun e w' => e = .returned (.int .i64 (mfC t ls)) ∧ Below w.heap.size w w' := by
  refine (l6Fault_calls P a n c ls t w hn hp hs).mono ?_
  rintro e w' ⟨rfl, rfl⟩
  exact ⟨rfl, Below.refl _ _⟩

set_option maxRecDepth 100000 in
set_option maxHeartbeats 1000000 in
theorem specLoadWord_calls (a : Option Addr) (n c : Nat) (ls : List (Int × Int)) (p : Int) (w : World) (hn : n ≤ maxLen) (hs : Swd w a n ls) :
    Calls Try.prog 18 #[.agg #[.slice a n c], .int .i64 p] w fun e w' => e = .returned (.agg #[.int .i64 (lwC ls p), .int .i64 (lwX ls p).1, .int .i64 (lwX ls p).2]) ∧ Below w.heap.size w w' := by
  have M0 := ((Mm.start w).alloc1 (.slice a n c) 26).alloc3 (.int .i64 0) (.int .i64 0) (.int .i64 0) 38
  try simp only [World.size_alloc] at M0
  have hlen := hs.1
  go_enter Try.func18, Try.ntmps18
  go_wp2_with fail
  refine (l6Fault_B w.heap.size a n c ls 6 _ hn (M0.cell 3 rfl) (hs.below M0.bel (Nat.le_refl _))).mono ?_
  rintro e w1 ⟨rfl, g1⟩
  have M1 := M0.below g1
  clear M0 g1
  by_cases hf : mfC 6 ls = 0
  rotate_left
  · obtain ⟨HC, HX⟩ : Hid (lwC ls p = mfC 6 ls) ∧ Hid (lwX ls p = (0, 0)) := lwC_fault hf
    have hne : (mfC 6 ls != 0) = true := by simpa using hf
    have c0 := M1.cell 0 rfl
    have c1 := M1.cell 1 rfl
    have c2 := M1.cell 2 rfl
    have f0 := M1.fz 0 rfl
    have f1 := M1.fz 1 rfl
    have f2 := M1.fz 2 rfl
    have HB := hide M1.bel
    clear M1 hf
    go_wp2
    refine bodyPost_ret (v := .agg #[.int .i64 (mfC 6 ls), .int .i64 0, .int .i64 0]) (by simp [results, Try.results18, go_sem, c0, c1, c2]) rfl ⟨by rw [HC.out, HX.out], ?_⟩
    exact ((HB.out.setCell (by simp) _).setCell (by simp) _).setCell (by simp) _
  have hne : (mfC 6 ls != 0) = false := by simp [hf]
  have q0 := M1.cell 3 rfl
  go_wp2_with fail
  refine (l6Has_B w.heap.size a n c p _ hn (M1.cell 3 rfl)).mono ?_
  rintro e w2 ⟨rfl, g2⟩
  have M2 := M1.below g2
  have c0 := M2.cell 0 rfl
  have c1 := M2.cell 1 rfl
  have c2 := M2.cell 2 rfl
  have q3 := M2.cell 3 rfl
  have f0 := M2.fz 0 rfl
  have f1 := M2.fz 1 rfl
  have f2 := M2.fz 2 rfl
  have HB := hide M2.bel
  have hs2 := hs.below M2.bel (Nat.le_refl _)
  clear M1 g2 q0
  cases h1 : up p ((n : Int) - 1) with
  | false =>
    obtain ⟨HC, HX⟩ : Hid (lwC ls p = 3) ∧ Hid (lwX ls p = (0, 0)) := lwC_out hf (by rw [hlen]; exact h1)
    clear M2 hf hne
    go_wp2
    refine bodyPost_ret (v := .agg #[.int .i64 3, .int .i64 0, .int .i64 0]) (by simp [results, Try.results18, go_sem, c0, c1, c2]) rfl ⟨by rw [HC.out, HX.out], ?_⟩
    exact ((HB.out.setCell (by simp) _).setCell (by simp) _).setCell (by simp) _
  | true =>
    obtain ⟨HC, HX⟩ : Hid (lwC ls p = 0) ∧ Hid (lwX ls p = gw ls p.toNat) := lwC_ok hf (by rw [hlen]; exact h1)
    obtain ⟨h2, h3⟩ := up_iff.1 h1
    obtain ⟨j, rfl⟩ : ∃ j : Nat, p = (j : Int) := ⟨p.toNat, by omega⟩
    have hj : j < n := by omega
    obtain ⟨b, off, rfl, hb, hc⟩ := hs2.2 (by omega)
    obtain ⟨r0, r1⟩ := cellsw hc hj
    have HT : Hid (((j : Int)).toNat = j) := by show _ = _; omega
    clear M2 hf hne h1 h2 h3 hc hs2
    go_wp2
    refine bodyPost_ret (v := .agg #[.int .i64 0, .int .i64 (gw ls j).1, .int .i64 (gw ls j).2]) (by simp [results, Try.results18, go_sem, c0, c1, c2]) rfl ⟨by rw [HC.out, HX.out, HT.out], ?_⟩
    exact ((HB.out.setCell (by simp) _).setCell (by simp) _).setCell (by simp) _

set_option maxRecDepth 100000 in
set_option maxHeartbeats 1000000 in
theorem implLoadWord_calls (a : Option Addr) (n c : Nat) (ls : List (Int × Int)) (p : Int) (w : World) (hn : n ≤ maxLen) (hs : Swd w a n ls) :
    Calls Try.prog 10 #[.agg #[.slice a n c], .int .i64 p] w fun e w' => e = .returned (.agg #[.int .i64 (lwC ls p), .int .i64 (lwX ls p).1, .int .i64 (lwX ls p).2]) ∧ Below w.heap.size w w' := by
  have M0 := ((Mm.start w).alloc1 (.slice a n c) 26).alloc3 (.int .i64 0) (.int .i64 0) (.int .i64 0) 38
  try simp only [World.size_alloc] at M0
  have hlen := hs.1
  go_enter Try.func10, Try.ntmps10
  go_wp2_with fail
  refine (implMemoryFault_calls a n c ls 6 _ hn (hs.below M0.bel (Nat.le_refl _))).mono ?_
  rintro e w1 ⟨rfl, g1⟩
  have M1 := M0.below g1
  clear M0 g1
  by_cases hf : mfC 6 ls = 0
  rotate_left
  · obtain ⟨HC, HX⟩ : Hid (lwC ls p = mfC 6 ls) ∧ Hid (lwX ls p = (0, 0)) := lwC_fault hf
    have hne : (mfC 6 ls != 0) = true := by simpa using hf
    have c0 := M1.cell 0 rfl
    have c1 := M1.cell 1 rfl
    have c2 := M1.cell 2 rfl
    have f0 := M1.fz 0 rfl
    have f1 := M1.fz 1 rfl
    have f2 := M1.fz 2 rfl
    have HB := hide M1.bel
    clear M1 hf
    go_wp2
    refine bodyPost_ret (v := .agg #[.int .i64 (mfC 6 ls), .int .i64 0, .int .i64 0]) (by simp [results, Try.results10, go_sem, c0, c1, c2]) rfl ⟨by rw [HC.out, HX.out], ?_⟩
    exact ((HB.out.setCell (by simp) _).setCell (by simp) _).setCell (by simp) _
  have hne : (mfC 6 ls != 0) = false := by simp [hf]
  have q0 := M1.cell 3 rfl
  go_wp2_with fail
  refine (hasOne_calls a n c p _ hn).mono ?_
  rintro e w2 ⟨rfl, g2⟩
  have M2 := M1.below g2
  have c0 := M2.cell 0 rfl
  have c1 := M2.cell 1 rfl
  have c2 := M2.cell 2 rfl
  have q3 := M2.cell 3 rfl
  have f0 := M2.fz 0 rfl
  have f1 := M2.fz 1 rfl
  have f2 := M2.fz 2 rfl
  have HB := hide M2.bel
  have hs2 := hs.below M2.bel (Nat.le_refl _)
  clear M1 g2 q0
  cases h1 : up p ((n : Int) - 1) with
  | false =>
    obtain ⟨HC, HX⟩ : Hid (lwC ls p = 3) ∧ Hid (lwX ls p = (0, 0)) := lwC_out hf (by rw [hlen]; exact h1)
    clear M2 hf hne
    go_wp2
    refine bodyPost_ret (v := .agg #[.int .i64 3, .int .i64 0, .int .i64 0]) (by simp [results, Try.results10, go_sem, c0, c1, c2]) rfl ⟨by rw [HC.out, HX.out], ?_⟩
    exact ((HB.out.setCell (by simp) _).setCell (by simp) _).setCell (by simp) _
  | true =>
    obtain ⟨HC, HX⟩ : Hid (lwC ls p = 0) ∧ Hid (lwX ls p = gw ls p.toNat) := lwC_ok hf (by rw [hlen]; exact h1)
    obtain ⟨h2, h3⟩ := up_iff.1 h1
    obtain ⟨j, rfl⟩ : ∃ j : Nat, p = (j : Int) := ⟨p.toNat, by omega⟩
    have hj : j < n := by omega
    obtain ⟨b, off, rfl, hb, hc⟩ := hs2.2 (by omega)
    obtain ⟨r0, r1⟩ := cellsw hc hj
    have HT : Hid (((j : Int)).toNat = j) := by show _ = _; omega
    clear M2 hf hne h1 h2 h3 hc hs2
    go_wp2
    refine bodyPost_ret (v := .agg #[.int .i64 0, .int .i64 (gw ls j).1, .int .i64 (gw ls j).2]) (by simp [results, Try.results10, go_sem, c0, c1, c2]) rfl ⟨by rw [HC.out, HX.out, HT.out], ?_⟩
    exact ((HB.out.setCell (by simp) _).setCell (by simp) _).setCell (by simp) _

set_option maxRecDepth 100000 in
set_option maxHeartbeats 1000000 in
theorem specCountTag_calls (a : Option Addr) (n c : Nat) (ls : List (Int × Int)) (g : Int) (w : World) (hn : n ≤ maxLen) (hs : Swd w a n ls) :
    Calls Try.prog 14 #[.agg #[.slice a n c], .int .i64 g] w fun e w' => e = .returned (.agg #[.int .i64 (mfC 6 ls), .int .i64 (cgV ls g)]) ∧ Below w.heap.size w w' := by
  have M0 := ((Mm.start w).alloc1 (.slice a n c) 26).alloc2 (.int .i64 0) (.int .i64 0) 43
  try simp only [World.size_alloc] at M0
  have hlen := hs.1
  go_enter Try.func14, Try.ntmps14
  go_wp2_with fail
  refine (l6Fault_B w.heap.size a n c ls 6 _ hn (M0.cell 2 rfl) (hs.below M0.bel (Nat.le_refl _))).mono ?_
  rintro e w1 ⟨rfl, g1⟩
  have M1 := M0.below g1
  clear M0 g1
  have c0 := M1.cell 0 rfl
  have c1 := M1.cell 1 rfl
  have q0 := M1.cell 2 rfl
  have f0 := M1.fz 0 rfl
  have f1 := M1.fz 1 rfl
  have HB := hide M1.bel
  by_cases hf : mfC 6 ls = 0
  rotate_left
  · have HV : Hid (cgV ls g = 0) := if_neg hf
    have hne : (mfC 6 ls != 0) = true := by simpa using hf
    clear M1 hf
    go_wp2
    refine bodyPost_ret (v := .agg #[.int .i64 (mfC 6 ls), .int .i64 0]) (by simp [results, Try.results14, go_sem, c0, c1]) rfl ⟨by rw [HV.out], ?_⟩
    exact (HB.out.setCell (by simp) _).setCell (by simp) _
  have hne : (mfC 6 ls != 0) = false := by simp [hf]
  have HV : Hid (cgV ls g = cgK ls g ls.length) := if_pos hf
  have hle := mfC_len hf
  have HM := hide M1
  clear M1
  go_wp2
  go_loopw [6, 7] (fun m i wr => ∃ k : Nat, k ≤ n ∧ i = .int .i64 k ∧ m = .int .i64 (cgK ls g k) ∧ Mm w wr [(w.heap.size + 1, 0, .int .i64 0), (w.heap.size + 1, 1, .int .i64 0), (w.heap.size, 0, .slice a n c)] []) (fun _ i _ => n - (intOf i).toNat)
  case atStart => exact ⟨0, Nat.zero_le _, rfl, rfl, HM.out⟩
  case round =>
    clear c0 c1 q0 f0 f1
    obtain ⟨k, hk, rfl, rfl, M⟩ := hrel
    have hgk := cgK_le ls g k
    have q0 := M.cell 2 rfl
    by_cases hlt : k < n
    · obtain ⟨b, off, rfl, hb, hc⟩ := (hs.below M.bel (Nat.le_refl _)).2 (by omega)
      obtain ⟨r0, r1⟩ := cellsw hc hlt
      clear hc
      by_cases h1 : (gw ls k).2 = g
      · have HG := hide (cgK_hit h1)
        have h1' : ((gw ls k).2 == g) = true := by simpa using h1
        have HM1 := hide M
        clear M h1
        go_wp2
        go_roundw
        case rel => exact ⟨k + 1, by omega, by go_num, by rw [HG.out], HM1.out⟩
        case measure => simp [intOf]; omega
      · have HG := hide (cgK_miss h1)
        have h1' : ((gw ls k).2 == g) = false := by simpa using h1
        have HM1 := hide M
        clear M h1
        go_wp2
        go_roundw
        case rel => exact ⟨k + 1, by omega, by go_num, by rw [HG.out], HM1.out⟩
        case measure => simp [intOf]; omega
    · have hkn : k = n := by omega
      subst hkn
      have c0 := M.cell 0 rfl
      have c1 := M.cell 1 rfl
      have f0 := M.fz 0 rfl
      have f1 := M.fz 1 rfl
      have HB1 := hide M.bel
      clear M
      go_wp2
      refine bodyPost_ret (v := .agg #[.int .i64 0, .int .i64 (cgK ls g k)]) (by simp [results, Try.results14, go_sem, c0, c1]) rfl ⟨by rw [HV.out, hlen, hf], ?_⟩
      exact (HB1.out.setCell (by simp) _).setCell (by simp) _

set_option maxRecDepth 100000 in
set_option maxHeartbeats 1000000 in
theorem implCountTag_calls (a : Option Addr) (n c : Nat) (ls : List (Int × Int)) (g : Int) (w : World) (hn : n ≤ maxLen) (hs : Swd w a n ls) :
    Calls Try.prog 13 #[.agg #[.slice a n c], .int .i64 g] w fun e w' => e = .returned (.agg #[.int .i64 (mfC 6 ls), .int .i64 (cgV ls g)]) ∧ Below w.heap.size w w' := by
  have M0 := ((Mm.start w).alloc1 (.slice a n c) 26).alloc2 (.int .i64 0) (.int .i64 0) 43
  try simp only [World.size_alloc] at M0
  have hlen := hs.1
  go_enter Try.func13, Try.ntmps13
  go_wp2_with fail
  refine (implMemoryFault_calls a n c ls 6 _ hn (hs.below M0.bel (Nat.le_refl _))).mono ?_
  rintro e w1 ⟨rfl, g1⟩
  have M1 := M0.below g1
  clear M0 g1
  have c0 := M1.cell 0 rfl
  have c1 := M1.cell 1 rfl
  have q0 := M1.cell 2 rfl
  have f0 := M1.fz 0 rfl
  have f1 := M1.fz 1 rfl
  have HB := hide M1.bel
  by_cases hf : mfC 6 ls = 0
  rotate_left
  · have HV : Hid (cgV ls g = 0) := if_neg hf
    have hne : (mfC 6 ls != 0) = true := by simpa using hf
    clear M1 hf
    go_wp2
    refine bodyPost_ret (v := .agg #[.int .i64 (mfC 6 ls), .int .i64 0]) (by simp [results, Try.results13, go_sem, c0, c1]) rfl ⟨by rw [HV.out], ?_⟩
    exact (HB.out.setCell (by simp) _).setCell (by simp) _
  have hne : (mfC 6 ls != 0) = false := by simp [hf]
  have HV : Hid (cgV ls g = cgK ls g ls.length) := if_pos hf
  have hle := mfC_len hf
  have HM := hide M1
  clear M1
  go_wp2
  go_loopw [6, 18] (fun m i wr => ∃ k : Nat, k ≤ n ∧ i = .int .i64 k ∧ m = .int .i64 (cgK ls g k) ∧ Mm w wr [(w.heap.size + 1, 0, .int .i64 0), (w.heap.size + 1, 1, .int .i64 0), (w.heap.size, 0, .slice a n c)] []) (fun _ i _ => n - (intOf i).toNat)
  case atStart => exact ⟨0, Nat.zero_le _, rfl, rfl, HM.out⟩
  case round =>
    clear c0 c1 q0 f0 f1
    obtain ⟨k, hk, rfl, rfl, M⟩ := hrel
    have hgk := cgK_le ls g k
    have q0 := M.cell 2 rfl
    by_cases hlt : k < n
    · obtain ⟨b, off, rfl, hb, hc⟩ := (hs.below M.bel (Nat.le_refl _)).2 (by omega)
      obtain ⟨r0, r1⟩ := cellsw hc hlt
      clear hc
      by_cases h1 : (gw ls k).2 = g
      · have HG := hide (cgK_hit h1)
        have h1' : ((gw ls k).2 == g) = true := by simpa using h1
        have HM1 := hide (M.below ((Below.refl _ _).alloc (Nat.le_refl _) (.cells #[.int .i64 (gw ls k).1, .int .i64 (gw ls k).2] 36)))
        clear M h1
        go_wp2
        go_roundw
        case rel => exact ⟨k + 1, by omega, by go_num, by rw [HG.out], HM1.out⟩
        case measure => simp [intOf]; omega
      · have HG := hide (cgK_miss h1)
        have h1' : ((gw ls k).2 == g) = false := by simpa using h1
        have HM1 := hide (M.below ((Below.refl _ _).alloc (Nat.le_refl _) (.cells #[.int .i64 (gw ls k).1, .int .i64 (gw ls k).2] 36)))
        clear M h1
        go_wp2
        go_roundw
        case rel => exact ⟨k + 1, by omega, by go_num, by rw [HG.out], HM1.out⟩
        case measure => simp [intOf]; omega
    · have hkn : k = n := by omega
      subst hkn
      have c0 := M.cell 0 rfl
      have c1 := M.cell 1 rfl
      have f0 := M.fz 0 rfl
      have f1 := M.fz 1 rfl
      have HB1 := hide M.bel
      clear M
      go_wp2
      refine bodyPost_ret (v := .agg #[.int .i64 0, .int .i64 (cgK ls g k)]) (by simp [results, Try.results13, go_sem, c0, c1]) rfl ⟨by rw [HV.out, hlen, hf], ?_⟩
      exact (HB1.out.setCell (by simp) _).setCell (by simp) _

end Go.Proofs.Ytpkndgkkakomiaa
