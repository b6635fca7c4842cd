import Derived.Test.YtpkndgkkakomiaaWmS
import Derived.WalkKit
import Derived.ProofKit
import Derived.OpenShut
import Derived.ShutString
import Derived.ChangeOld
import Derived.Below
import Derived.WalkSpells
import Derived.Deep.QuietTactic
import Derived.BigQuiet
import Derived.Deep.RegionWith
import Derived.Deep.WholeRow
import Derived.Deep.DeepCutAuto
import Derived.Deep.RegionHeld2
import Derived.Deep.AppendLies
import Derived.Deep.RegionLaw
namespace Go.Proofs.Ytpkndgkkakomiaa
open Go.ChangeShapes Go.WideShapes Go.ChangeAt Go.RowKit

set_option maxRecDepth 100000 in
theorem l6Range_B (P : Nat) (a : Option Addr) (n c : Nat) (f k : Int) (w : World) (hn : n ≤ 32) (hp : w.cell? ⟨P, 0, none⟩ = some (.slice a n c)) :
    Calls Try.prog 27 #[.pointer (some ⟨P, 0, none⟩), .int .i64 f, .int .i64 k] w fun e w' => e = .returned (.bool (hasW n f k)) ∧ Below w.heap.size w w' := by
  cases h0 : up f 32 with
  | false =>
    have HR : Hid (hasW n f k = false) := by
      show _ = _
      rw [Bool.eq_false_iff] at h0 ⊢
      intro h
      unfold hasW at h
      rw [Bool.and_eq_true] at h
      have := up_iff.1 h.1
      exact h0 (up_iff.2 ⟨this.1, by omega⟩)
    go_enter Try.func27, Try.ntmps27
    go_wp2_with (go_at_call 28; refine (inUp_calls _ _ _).mono ?_; rintro e w' ⟨rfl, rfl⟩)
    go_ret
    exact ⟨ret_bool HR.out.symm, Below.refl _ _⟩
  | true =>
    obtain ⟨a1, a2⟩ := up_iff.1 h0
    cases h1 : up k 32 with
    | false =>
      have HR : Hid (hasW n f k = false) := by
        show _ = _
        rw [Bool.eq_false_iff] at h1 ⊢
        intro h
        unfold hasW at h
        rw [Bool.and_eq_true] at h
        have := up_iff.1 h.1
        have := up_iff.1 h.2
        exact h1 (up_iff.2 ⟨this.1, by omega⟩)
      go_enter Try.func27, Try.ntmps27
      go_wp2_with (go_at_call 28; refine (inUp_calls _ _ _).mono ?_; rintro e w' ⟨rfl, rfl⟩)
      go_ret
      exact ⟨ret_bool HR.out.symm, Below.refl _ _⟩
    | true =>
      obtain ⟨b1, b2⟩ := up_iff.1 h1
      have HR : Hid (hasW n f k = decide (f + k ≤ (n : Int))) := by
        show _ = _
        rw [Bool.eq_iff_iff]
        simp [hasW, up]
        omega
      go_enter Try.func27, Try.ntmps27
      go_wp2_with (go_at_call 28; refine (inUp_calls _ _ _).mono ?_; rintro e w' ⟨rfl, rfl⟩)
      go_ret
      exact ⟨ret_bool HR.out.symm, Below.refl _ _⟩

theorem two_step {w : World} {B T b m n : Nat} {ra : Option Addr} {ls : List (Int × Int)} {g : Int} (ho : OWd (InR B T) ra n ls w) (hm : m < n) (hra : ra = some ⟨b, 0, none⟩) :
    (w.cell? ⟨b, m * 2, none⟩ = some (.int .i64 (gw ls m).1) ∧ w.cell? ⟨b, m * 2 + 1, none⟩ = some (.int .i64 (gw ls m).2) ∧ w.frozen? ⟨b, m * 2, none⟩ = false ∧ w.frozen? ⟨b, m * 2 + 1, none⟩ = false ∧ b < w.heap.size) ∧
      OWd (InR B T) ra n (ls.set m (0, g)) ((w.setCell ⟨b, m * 2, none⟩ (.int .i64 0)).setCell ⟨b, m * 2 + 1, none⟩ (.int .i64 g)) ∧ OutS (InR B T) w ((w.setCell ⟨b, m * 2, none⟩ (.int .i64 0)).setCell ⟨b, m * 2 + 1, none⟩ (.int .i64 g)) := by
  obtain ⟨hl, hn, h⟩ := ho
  rcases h with h | ⟨b', e, hb, blk⟩
  · omega
  · rw [hra] at e
    injection e with e
    injection e with e
    subst e
    refine ⟨⟨?_, ?_, blk.2.2 _, blk.2.2 _, blk.1⟩, ⟨by simp [hl], hn, .inr ⟨b, hra, hb, blk_two blk (by omega)⟩⟩, ((OutS.refl _ _).setCell hb _).setCell hb _⟩
    · have h := blk.2.1 (m * 2) (by rw [length_flw]; omega)
      rw [(gt_flw ls m).1] at h
      exact h
    · have h := blk.2.1 (m * 2 + 1) (by rw [length_flw]; omega)
      rw [(gt_flw ls m).2] at h
      exact h

theorem owd_some {S : Nat → Prop} {ra : Option Addr} {n : Nat} {ls : List (Int × Int)} {w : World} (h : OWd S ra n ls w) (hn : 0 < n) : ∃ b, ra = some ⟨b, 0, none⟩ ∧ S b := by
  rcases h.2.2 with h | ⟨b, e, hb, _⟩
  · omega
  · exact ⟨b, e, hb⟩

set_option maxRecDepth 100000 in
set_option maxHeartbeats 1000000 in
theorem l6Retag_O (V : Nat) (ra : Option Addr) (n rc : Nat) (ls : List (Int × Int)) (f k : Nat) (g : Int) (B T : Nat) (w : World) (hp : w.cell? ⟨V, 0, none⟩ = some (.slice ra n rc)) (ho : OWd (InR B T) ra n ls w) (hV : V < B ∨ T ≤ V) (hfk : f + k ≤ n) :
    Calls Try.prog 30 #[.pointer (some ⟨V, 0, none⟩), .int .i64 f, .int .i64 k, .int .i64 g] w fun e w' => e = .returned (.tuple #[]) ∧ OWd (InR B T) ra n (rtK ls f g k) w' ∧ OutS (InR B T) w w' := by
  have hn := ho.2.1
  have hVl := World.block_lt_of_cell? _ _ hp
  have HP := hide hp
  have HO := hide ho
  clear hp ho
  go_enter Try.func30, Try.ntmps30
  go_wp2
  go_loopw [8] (fun i wr => ∃ m : Nat, f ≤ m ∧ m ≤ f + k ∧ i = .int .i64 m ∧ OWd (InR B T) ra n (rtK ls f g (m - f)) wr ∧ OutS (InR B T) w wr) (fun i _ => f + k - (intOf i).toNat)
  case atStart => exact ⟨f, Nat.le_refl _, by omega, rfl, by rw [Nat.sub_self]; exact HO.out, OutS.refl _ _⟩
  case round =>
    obtain ⟨m, hm1, hm2, rfl, how, hout⟩ := hrel
    by_cases hlt : m < f + k
    · obtain ⟨b, rfl, hbS⟩ := owd_some how (by omega)
      obtain ⟨⟨r0, r1, e0, e1, hb⟩, hnew, hstep⟩ := two_step (g := g) how (show m < n by omega) rfl
      have q0 : wr.cell? ⟨V, 0, none⟩ = some (.slice (some ⟨b, 0, none⟩) n rc) := (World.cell?_of_block (a := ⟨V, 0, none⟩) (hout.block V hVl (fun e => by have := e.1; have := e.2; omega))).trans HP.out
      have HW := hide hnew
      have HS := hide (hout.trans hstep)
      have i1 : (m : Int) < (f : Int) + (k : Int) := by omega
      clear how hout hnew hstep
      go_wp2
      go_roundw
      case rel =>
        refine ⟨m + 1, by omega, by omega, by go_num, ?_, HS.out⟩
        have e : m + 1 - f = (m - f) + 1 := by omega
        have e2 : f + (m - f) = m := by omega
        rw [e]
        show OWd _ _ _ ((rtK ls f g (m - f)).set (f + (m - f)) (0, g)) _
        rw [e2]
        exact HW.out
      case measure => simp [intOf]; omega
    · have e : m = f + k := by omega
      subst e
      have e : f + k - f = k := by omega
      rw [e] at how
      have i1 : ¬ ((f : Int) + (k : Int) < (f : Int) + (k : Int)) := by omega
      have HOW := hide how
      have HOU := hide hout
      clear how hout
      go_wp2
      exact bodyPost_end (v := .tuple #[]) (by simp [results, Try.results30, go_sem]) rfl ⟨rfl, HOW.out, HOU.out⟩

set_option maxRecDepth 100000 in
set_option maxHeartbeats 2000000 in
theorem specRetagWords_calls (a : Option Addr) (n c : Nat) (ls : List (Int × Int)) (p k g : Int) (w : World) (hn : n ≤ maxLen) (hs : Swd w a n ls) :
    Calls Try.prog 9 #[.agg #[.slice a n c], .int .i64 p, .int .i64 k, .int .i64 g] w fun e w' => ∃ ra rn rc, e = .returned (.agg #[.int .i64 (rtC ls p k g), .slice ra rn rc]) ∧ OWd (InR w.heap.size w'.heap.size) ra rn (rtL ls p k g) w' ∧ Below w.heap.size w w' := by
  have M0 := ((Mm.start w).alloc1 (.slice a n c) 26).alloc2 (.int .i64 0) (.slice none 0 0) 30
  try simp only [World.size_alloc] at M0
  have hlen := hs.1
  go_enter Try.func9, Try.ntmps9
  go_wp2_with fail
  refine (l6Fault_B w.heap.size a n c ls 6 _ hn (M0.cell 2 rfl) (hs.below M0.bel (Nat.le_refl _))).mono ?_
  rintro e w1 ⟨rfl, g1⟩
  have M1 := M0.below g1
  clear M0 g1
  by_cases hf : mfC 6 ls = 0
  rotate_left
  · obtain ⟨HC, HX⟩ : Hid (rtC ls p k g = mfC 6 ls) ∧ Hid (rtL ls p k g = []) := rtC_fault hf
    have hne : (mfC 6 ls != 0) = true := by simpa using hf
    have c0 := M1.cell 0 rfl
    have c1 := M1.cell 1 rfl
    have f0 := M1.fz 0 rfl
    have f1 := M1.fz 1 rfl
    have HB := hide M1.bel
    clear M1 hf
    go_wp2
    refine bodyPost_ret (v := .agg #[.int .i64 (mfC 6 ls), .slice none 0 0]) (by simp [results, Try.results9, go_sem, c0, c1]) rfl ⟨_, _, _, by rw [HC.out], by rw [HX.out]; exact OWd.nil _ _ _, ?_⟩
    exact (HB.out.setCell (by simp) _).setCell (by simp) _
  have hne : (mfC 6 ls != 0) = false := by simp [hf]
  have hle := mfC_len hf
  have q0 := M1.cell 2 rfl
  go_wp2_with fail
  refine (l6Range_B w.heap.size a n c p k _ (by omega) (M1.cell 2 rfl)).mono ?_
  rintro e w2 ⟨rfl, g2⟩
  have M2 := M1.below g2
  have hs2 := hs.below M2.bel (Nat.le_refl _)
  clear M1 g2 q0
  cases h1 : hasW n p k with
  | false =>
    obtain ⟨HC, HX⟩ : Hid (rtC ls p k g = 3) ∧ Hid (rtL ls p k g = []) := rtC_out hf (by rw [hlen, h1]; rfl)
    have c0 := M2.cell 0 rfl
    have c1 := M2.cell 1 rfl
    have f0 := M2.fz 0 rfl
    have f1 := M2.fz 1 rfl
    have HB := hide M2.bel
    clear M2 hf hne
    go_wp2
    refine bodyPost_ret (v := .agg #[.int .i64 3, .slice none 0 0]) (by simp [results, Try.results9, go_sem, c0, c1]) rfl ⟨_, _, _, by rw [HC.out], by rw [HX.out]; exact OWd.nil _ _ _, ?_⟩
    exact (HB.out.setCell (by simp) _).setCell (by simp) _
  | true =>
    go_wp2_with fail
    refine (inUp_calls g 6 _).mono ?_
    rintro e w3 ⟨rfl, hw3⟩
    subst hw3
    cases h4 : up g 6 with
    | false =>
      obtain ⟨HC, HX⟩ : Hid (rtC ls p k g = 3) ∧ Hid (rtL ls p k g = []) := rtC_out hf (by rw [h4]; simp)
      have c0 := M2.cell 0 rfl
      have c1 := M2.cell 1 rfl
      have f0 := M2.fz 0 rfl
      have f1 := M2.fz 1 rfl
      have HB := hide M2.bel
      clear M2 hf hne
      go_wp2
      refine bodyPost_ret (v := .agg #[.int .i64 3, .slice none 0 0]) (by simp [results, Try.results9, go_sem, c0, c1]) rfl ⟨_, _, _, by rw [HC.out], by rw [HX.out]; exact OWd.nil _ _ _, ?_⟩
      exact (HB.out.setCell (by simp) _).setCell (by simp) _
    | true =>
      obtain ⟨HC, HX⟩ : Hid (rtC ls p k g = 0) ∧ Hid (rtL ls p k g = rtK ls p.toNat g k.toNat) := rtC_ok hf (by rw [hlen, h1, h4]; rfl)
      obtain ⟨h2, h3⟩ : (0 ≤ p ∧ p ≤ (n : Int)) ∧ (0 ≤ k ∧ k ≤ (n : Int) - p) := by unfold hasW at h1; rw [Bool.and_eq_true] at h1; exact ⟨up_iff.1 h1.1, up_iff.1 h1.2⟩
      obtain ⟨f, rfl⟩ : ∃ j : Nat, p = (j : Int) := ⟨p.toNat, by omega⟩
      obtain ⟨m, rfl⟩ : ∃ j : Nat, k = (j : Int) := ⟨k.toNat, by omega⟩
      have hfm : f + m ≤ n := by omega
      rw [Int.toNat_natCast, Int.toNat_natCast] at HX
      have q3 := M2.cell 2 rfl
      have z2 := M2.lt 0 rfl
      clear hf hne h1 h2 h3
      go_wp2_with fail
      refine (l6Copy_O a n c ls _ (by omega) hs2).mono ?_
      rintro e w4 ⟨ra, rc, rfl, ow, g4⟩
      have z4 := g4.size
      have M4 := (M2.below g4).alloc1 (.slice ra n rc) 26
      have ow4 : OWd (InR (w.heap.size + 2) w4.heap.size) ra n ls (w4.alloc (.cells #[.slice ra n rc] 26)) := (OWd.loc.alloc ow _).mono (fun k hk => ⟨by have := hk.1; omega, hk.2⟩)
      clear M2 g4 ow q3 hs2
      have HM := hide M4
      have HO := hide ow4
      have v0 := M4.cell 0 rfl
      clear M4 ow4 v0
      go_wp2_with fail
      refine (l6Retag_O w4.heap.size ra n rc ls f m g (w.heap.size + 2) w4.heap.size _ (HM.out.cell 0 rfl) HO.out (.inr (Nat.le_refl _)) hfm).mono ?_
      rintro e w5 ⟨rfl, ow5, hout⟩
      have M5 := HM.out.out hout (by omega) (by simp) (by simp)
      have z5 := hout.size
      simp only [World.size_alloc] at z5
      have v0 := M5.cell 0 rfl
      have c0 := M5.cell 1 rfl
      have c1 := M5.cell 2 rfl
      have f0 := M5.fz 1 rfl
      have f1 := M5.fz 2 rfl
      have HB := hide M5.bel
      have HO5 := hide ow5
      have k1 : w.heap.size + 1 ≠ w4.heap.size := by omega
      clear M5 ow5 hout HM HO
      go_wp2
      refine bodyPost_ret (v := .agg #[.int .i64 0, .slice ra n rc]) (by simp [results, Try.results9, go_sem, c0, c1]) rfl ⟨_, _, _, by rw [HC.out], ?_, (HB.out.setCell (by simp) _).setCell (by simp) _⟩
      rw [HX.out]
      exact (OWd.loc.setC (OWd.loc.setC HO5.out (fun h => by have h1 : w.heap.size + 2 ≤ w.heap.size + 1 := h.1; omega) _) (fun h => by have h1 : w.heap.size + 2 ≤ w.heap.size + 1 := h.1; omega) _).mono (fun k hk => ⟨by have := hk.1; omega, by have := hk.2; simp; omega⟩)

set_option maxRecDepth 100000 in
set_option maxHeartbeats 2000000 in
theorem implRetagWords_calls (a : Option Addr) (n c : Nat) (ls : List (Int × Int)) (p k g : Int) (w : World) (hn : n ≤ maxLen) (hs : Swd w a n ls) :
    Calls Try.prog 8 #[.agg #[.slice a n c], .int .i64 p, .int .i64 k, .int .i64 g] w fun e w' => ∃ ra rn rc, e = .returned (.agg #[.int .i64 (rtC ls p k g), .slice ra rn rc]) ∧ OWd (InR w.heap.size w'.heap.size) ra rn (rtL ls p k g) w' ∧ Below w.heap.size w w' := by
  have M0 := ((Mm.start w).alloc1 (.slice a n c) 26).alloc2 (.int .i64 0) (.slice none 0 0) 30
  try simp only [World.size_alloc] at M0
  have hlen := hs.1
  go_enter Try.func8, Try.ntmps8
  go_wp2_with fail
  refine (implMemoryFault_calls a n c ls 6 _ hn (hs.below M0.bel (Nat.le_refl _))).mono ?_
  rintro e w1 ⟨rfl, g1⟩
  have M1 := M0.below g1
  clear M0 g1
  by_cases hf : mfC 6 ls = 0
  rotate_left
  · obtain ⟨HC, HX⟩ : Hid (rtC ls p k g = mfC 6 ls) ∧ Hid (rtL ls p k g = []) := rtC_fault hf
    have hne : (mfC 6 ls != 0) = true := by simpa using hf
    have c0 := M1.cell 0 rfl
    have c1 := M1.cell 1 rfl
    have f0 := M1.fz 0 rfl
    have f1 := M1.fz 1 rfl
    have HB := hide M1.bel
    clear M1 hf
    go_wp2
    refine bodyPost_ret (v := .agg #[.int .i64 (mfC 6 ls), .slice none 0 0]) (by simp [results, Try.results8, go_sem, c0, c1]) rfl ⟨_, _, _, by rw [HC.out], by rw [HX.out]; exact OWd.nil _ _ _, ?_⟩
    exact (HB.out.setCell (by simp) _).setCell (by simp) _
  have hne : (mfC 6 ls != 0) = false := by simp [hf]
  have hle := mfC_len hf
  have q0 := M1.cell 2 rfl
  go_wp2_with fail
  refine (hasWords_calls a n c p k _ hn).mono ?_
  rintro e w2 ⟨rfl, g2⟩
  have M2 := M1.below g2
  have hs2 := hs.below M2.bel (Nat.le_refl _)
  clear M1 g2 q0
  cases h1 : hasW n p k with
  | false =>
    obtain ⟨HC, HX⟩ : Hid (rtC ls p k g = 3) ∧ Hid (rtL ls p k g = []) := rtC_out hf (by rw [hlen, h1]; rfl)
    have c0 := M2.cell 0 rfl
    have c1 := M2.cell 1 rfl
    have f0 := M2.fz 0 rfl
    have f1 := M2.fz 1 rfl
    have HB := hide M2.bel
    clear M2 hf hne
    go_wp2
    refine bodyPost_ret (v := .agg #[.int .i64 3, .slice none 0 0]) (by simp [results, Try.results8, go_sem, c0, c1]) rfl ⟨_, _, _, by rw [HC.out], by rw [HX.out]; exact OWd.nil _ _ _, ?_⟩
    exact (HB.out.setCell (by simp) _).setCell (by simp) _
  | true =>
    go_wp2_with fail
    refine (isUpTo_calls g 6 _).mono ?_
    rintro e w3 ⟨rfl, hw3⟩
    subst hw3
    cases h4 : up g 6 with
    | false =>
      obtain ⟨HC, HX⟩ : Hid (rtC ls p k g = 3) ∧ Hid (rtL ls p k g = []) := rtC_out hf (by rw [h4]; simp)
      have c0 := M2.cell 0 rfl
      have c1 := M2.cell 1 rfl
      have f0 := M2.fz 0 rfl
      have f1 := M2.fz 1 rfl
      have HB := hide M2.bel
      clear M2 hf hne
      go_wp2
      refine bodyPost_ret (v := .agg #[.int .i64 3, .slice none 0 0]) (by simp [results, Try.results8, go_sem, c0, c1]) rfl ⟨_, _, _, by rw [HC.out], by rw [HX.out]; exact OWd.nil _ _ _, ?_⟩
      exact (HB.out.setCell (by simp) _).setCell (by simp) _
    | true =>
      obtain ⟨HC, HX⟩ : Hid (rtC ls p k g = 0) ∧ Hid (rtL ls p k g = rtK ls p.toNat g k.toNat) := rtC_ok hf (by rw [hlen, h1, h4]; rfl)
      obtain ⟨h2, h3⟩ : (0 ≤ p ∧ p ≤ (n : Int)) ∧ (0 ≤ k ∧ k ≤ (n : Int) - p) := by unfold hasW at h1; rw [Bool.and_eq_true] at h1; exact ⟨up_iff.1 h1.1, up_iff.1 h1.2⟩
      obtain ⟨f, rfl⟩ : ∃ j : Nat, p = (j : Int) := ⟨p.toNat, by omega⟩
      obtain ⟨m, rfl⟩ : ∃ j : Nat, k = (j : Int) := ⟨k.toNat, by omega⟩
      have hfm : f + m ≤ n := by omega
      rw [Int.toNat_natCast, Int.toNat_natCast] at HX
      have q3 := M2.cell 2 rfl
      have z2 := M2.lt 0 rfl
      clear hf hne h1 h2 h3
      go_wp2_with fail
      refine (copiedMemory_O a n c ls _ (by omega) hs2).mono ?_
      rintro e w4 ⟨ra, rc, rfl, ow, g4⟩
      have z4 := g4.size
      have M4 := (M2.below g4).alloc1 (.slice ra n rc) 26
      have ow4 : OWd (InR (w.heap.size + 2) w4.heap.size) ra n ls (w4.alloc (.cells #[.slice ra n rc] 26)) := (OWd.loc.alloc ow _).mono (fun k hk => ⟨by have := hk.1; omega, hk.2⟩)
      clear M2 g4 ow q3 hs2
      have HM := hide M4
      have HO := hide ow4
      clear M4 ow4
      go_wp2
      go_loopw [32] (fun i wr => ∃ j : Nat, j ≤ m ∧ i = .int .i64 j ∧ OWd (InR (w.heap.size + 2) w4.heap.size) ra n (rtK ls f g j) wr ∧ Mm w wr [(w4.heap.size, 0, .slice ra n rc), (w.heap.size + 1, 0, .int .i64 0), (w.heap.size + 1, 1, .slice none 0 0), (w.heap.size, 0, .slice a n c)] []) (fun i _ => m - (intOf i).toNat)
      case atStart => exact ⟨0, Nat.zero_le _, rfl, HO.out, HM.out⟩
      case round =>
        obtain ⟨j, hj, rfl, how, M⟩ := hrel
        have v0 := M.cell 0 rfl
        by_cases hlt : j < m
        · obtain ⟨b, rfl, hbS⟩ := owd_some how (by omega)
          obtain ⟨⟨r0, r1, e0, e1, hb⟩, hnew, hstep⟩ := two_step (g := g) how (show f + j < n by omega) rfl
          obtain ⟨q, hq⟩ : ∃ q : Nat, q = f + j := ⟨_, rfl⟩
          rw [← hq] at r0 r1 e0 e1 hnew hstep
          have hqi : (f : Int) + (j : Int) = (q : Int) := by omega
          have hqn : q < n := by omega
          have hM' := M.out hstep (by omega) (by simp) (by simp)
          have HW := hide hnew
          have HM1 := hide hM'
          have HQ := hide hq
          clear how M hnew hstep hM' hq
          go_wp2
          go_roundw
          case rel =>
            refine ⟨j + 1, by omega, by go_num, ?_, HM1.out⟩
            show OWd _ _ _ ((rtK ls f g j).set (f + j) (0, g)) _
            rw [← HQ.out]
            exact HW.out
          case measure => simp [intOf]; omega
        · have e : j = m := by omega
          subst e
          have c0 := M.cell 1 rfl
          have c1 := M.cell 2 rfl
          have f0 := M.fz 1 rfl
          have f1 := M.fz 2 rfl
          have HB := hide M.bel
          have HO5 := hide how
          have zz := M.lt 0 rfl
          clear M how
          go_wp2
          refine bodyPost_ret (v := .agg #[.int .i64 0, .slice ra n rc]) (by simp [results, Try.results8, go_sem, c0, c1]) rfl ⟨_, _, _, by rw [HC.out], ?_, (HB.out.setCell (by simp) _).setCell (by simp) _⟩
          rw [HX.out]
          exact (OWd.loc.setC (OWd.loc.setC HO5.out (fun h => by have h1 : w.heap.size + 2 ≤ w.heap.size + 1 := h.1; omega) _) (fun h => by have h1 : w.heap.size + 2 ≤ w.heap.size + 1 := h.1; omega) _).mono (fun k hk => ⟨by have := hk.1; omega, by have := hk.2; simp; omega⟩)

end Go.Proofs.Ytpkndgkkakomiaa
