import Derived.Test.YtpkndgkkakomiaaWmL
import Derived.Test.YtpkndgkkakomiaaWmC
import Derived.WalkKit
import Derived.ProofKit
import Derived.OpenShut
import Derived.ShutString
import Derived.ChangeOld
import Derived.Below
import Derived.WalkSpells
import Derived.Deep.QuietTactic
import Derived.BigQuiet
import Derived.Deep.RegionWith
import Derived.Deep.WholeRow
import Derived.Deep.DeepCutAuto
import Derived.Deep.RegionHeld2
import Derived.Deep.AppendLies
import Derived.Deep.RegionLaw
namespace Go.Proofs.Ytpkndgkkakomiaa
open Go.ChangeShapes Go.WideShapes Go.ChangeAt Go.RowKit

theorem flw_set (x y : Int) : ∀ (ls : List (Int × Int)) (k : Nat), flw (ls.set k (x, y)) = ((flw ls).set (k * 2) x).set (k * 2 + 1) y
  | [], k => by simp [flw]
  | l :: r, 0 => by simp [flw]
  | l :: r, k + 1 => by
    have e0 : (k + 1) * 2 = k * 2 + 1 + 1 := by omega
    rw [e0]
    simp [flw, flw_set x y r k]

theorem gt_set (zs : List Int) (k i : Nat) (v : Int) (hk : k < zs.length) : gt (zs.set k v) i = if i = k then v else gt zs i := by
  by_cases e : i = k
  · subst e; rw [if_pos rfl]; simp [gt, hk]
  · rw [if_neg e]; simp [gt, Ne.symm e]

theorem Blk.put {w : World} {b k : Nat} {zs : List Int} {v : Int} (h : Blk w b zs) (hk : k < zs.length) : Blk (w.setCell ⟨b, k, none⟩ (.int .i64 v)) b (zs.set k v) := by
  obtain ⟨h1, h2, h3⟩ := h
  refine ⟨by simpa [World.setCell] using h1, fun j hj => ?_, fun j => by simpa using h3 j⟩
  rw [List.length_set] at hj
  rw [gt_set zs k j v hk]
  by_cases e : j = k
  · subst e; rw [if_pos rfl]; exact World.cell?_setCell_same _ _ _ (h2 j hj)
  · rw [if_neg e, World.cell?_setCell_other _ _ _ _ (fun h => e (by injection h with _ h2; exact h2.symm))]; exact h2 j hj

theorem blk_one {w : World} {b k : Nat} {ls : List (Int × Int)} {v : Int} (h : Blk w b (flw ls)) (hk : k < ls.length) : Blk (w.setCell ⟨b, k * 2, none⟩ (.int .i64 v)) b (flw (ls.set k (v, (gw ls k).2))) := by
  have h1 := h.put (v := v) (k := k * 2) (by rw [length_flw]; omega)
  rw [flw_set]
  have e : ((flw ls).set (k * 2) v).set (k * 2 + 1) (gw ls k).2 = (flw ls).set (k * 2) v := by
    rw [List.set_comm _ _ (by omega), ← (gt_flw ls k).2]
    congr 1
    apply List.ext_getElem (by simp)
    intro i hi1 hi2
    by_cases e2 : i = k * 2 + 1
    · subst e2
      rw [List.getElem_set_self]
      simp [gt, hi2]
    · rw [List.getElem_set_ne (fun h => e2 h.symm)]
  rw [e]
  exact h1

theorem blk_two {w : World} {b k : Nat} {ls : List (Int × Int)} {x y : Int} (h : Blk w b (flw ls)) (hk : k < ls.length) : Blk ((w.setCell ⟨b, k * 2, none⟩ (.int .i64 x)).setCell ⟨b, k * 2 + 1, none⟩ (.int .i64 y)) b (flw (ls.set k (x, y))) := by
  rw [flw_set]
  exact (h.put (k := k * 2) (by rw [length_flw]; omega)).put (k := k * 2 + 1) (by rw [List.length_set, length_flw]; omega)

set_option maxRecDepth 100000 in
set_option maxHeartbeats 1000000 in
theorem specStoreWord_calls (a : Option Addr) (n c : Nat) (ls : List (Int × Int)) (p v : Int) (w : World) (hn : n ≤ maxLen) (hs : Swd w a n ls) :
    Calls Try.prog 17 #[.agg #[.slice a n c], .int .i64 p, .int .i64 v] w fun e w' => ∃ ra rn rc, e = .returned (.agg #[.int .i64 (swC ls p v), .slice ra rn rc]) ∧ OWd (InR w.heap.size w'.heap.size) ra rn (swL ls p v) w' ∧ Below w.heap.size w w' := by
  have M0 := ((Mm.start w).alloc1 (.slice a n c) 26).alloc2 (.int .i64 0) (.slice none 0 0) 30
  try simp only [World.size_alloc] at M0
  have hlen := hs.1
  go_enter Try.func17, Try.ntmps17
  go_wp2_with fail
  refine (l6Fault_B w.heap.size a n c ls 6 _ hn (M0.cell 2 rfl) (hs.below M0.bel (Nat.le_refl _))).mono ?_
  rintro e w1 ⟨rfl, g1⟩
  have M1 := M0.below g1
  clear M0 g1
  by_cases hf : mfC 6 ls = 0
  rotate_left
  · obtain ⟨HC, HX⟩ : Hid (swC ls p v = mfC 6 ls) ∧ Hid (swL ls p v = []) := swC_fault hf
    have hne : (mfC 6 ls != 0) = true := by simpa using hf
    have c0 := M1.cell 0 rfl
    have c1 := M1.cell 1 rfl
    have f0 := M1.fz 0 rfl
    have f1 := M1.fz 1 rfl
    have HB := hide M1.bel
    clear M1 hf
    go_wp2
    refine bodyPost_ret (v := .agg #[.int .i64 (mfC 6 ls), .slice none 0 0]) (by simp [results, Try.results17, go_sem, c0, c1]) rfl ⟨_, _, _, by rw [HC.out], by rw [HX.out]; exact OWd.nil _ _ _, ?_⟩
    exact (HB.out.setCell (by simp) _).setCell (by simp) _
  have hne : (mfC 6 ls != 0) = false := by simp [hf]
  have q0 := M1.cell 2 rfl
  go_wp2_with fail
  refine (l6Has_B w.heap.size a n c p _ hn (M1.cell 2 rfl)).mono ?_
  rintro e w2 ⟨rfl, g2⟩
  have M2 := M1.below g2
  have hs2 := hs.below M2.bel (Nat.le_refl _)
  clear M1 g2 q0
  cases h1 : up p ((n : Int) - 1) with
  | false =>
    obtain ⟨HC, HX⟩ : Hid (swC ls p v = 3) ∧ Hid (swL ls p v = []) := swC_out hf (by rw [hlen, h1]; rfl)
    have c0 := M2.cell 0 rfl
    have c1 := M2.cell 1 rfl
    have f0 := M2.fz 0 rfl
    have f1 := M2.fz 1 rfl
    have HB := hide M2.bel
    clear M2 hf hne
    go_wp2
    refine bodyPost_ret (v := .agg #[.int .i64 3, .slice none 0 0]) (by simp [results, Try.results17, go_sem, c0, c1]) rfl ⟨_, _, _, by rw [HC.out], by rw [HX.out]; exact OWd.nil _ _ _, ?_⟩
    exact (HB.out.setCell (by simp) _).setCell (by simp) _
  | true =>
    go_wp2_with fail
    refine (inUp_calls v 65535 _).mono ?_
    rintro e w3 ⟨rfl, hw3⟩
    subst hw3
    cases h4 : up v 65535 with
    | false =>
      obtain ⟨HC, HX⟩ : Hid (swC ls p v = 3) ∧ Hid (swL ls p v = []) := swC_out hf (by rw [h4]; simp)
      have c0 := M2.cell 0 rfl
      have c1 := M2.cell 1 rfl
      have f0 := M2.fz 0 rfl
      have f1 := M2.fz 1 rfl
      have HB := hide M2.bel
      clear M2 hf hne
      go_wp2
      refine bodyPost_ret (v := .agg #[.int .i64 3, .slice none 0 0]) (by simp [results, Try.results17, go_sem, c0, c1]) rfl ⟨_, _, _, by rw [HC.out], by rw [HX.out]; exact OWd.nil _ _ _, ?_⟩
      exact (HB.out.setCell (by simp) _).setCell (by simp) _
    | true =>
      obtain ⟨HC, HX⟩ : Hid (swC ls p v = 0) ∧ Hid (swL ls p v = ls.set p.toNat (v, (gw ls p.toNat).2)) := swC_ok hf (by rw [hlen, h1, h4]; rfl)
      obtain ⟨h2, h3⟩ := up_iff.1 h1
      obtain ⟨j, rfl⟩ : ∃ j : Nat, p = (j : Int) := ⟨p.toNat, by omega⟩
      have hj : j < n := by omega
      have hle := mfC_len hf
      have HT : Hid (((j : Int)).toNat = j) := by show _ = _; omega
      have q3 := M2.cell 2 rfl
      have z2 := M2.lt 0 rfl
      clear hf hne h1 h2 h3
      go_wp2_with fail
      refine (l6Copy_O a n c ls _ (by omega) hs2).mono ?_
      rintro e w4 ⟨ra, rc, rfl, ow, g4⟩
      have z4 := g4.size
      have M4 := M2.below g4
      have c0 := M4.cell 0 rfl
      have c1 := M4.cell 1 rfl
      have f0 := M4.fz 0 rfl
      have f1 := M4.fz 1 rfl
      have HB := hide M4.bel
      obtain ⟨_, hn4, ow⟩ := ow
      rcases ow with ow | ⟨b, rfl, hb, blk⟩
      · omega
      have hb1 : w3.heap.size ≤ b := hb.1
      have hb2 : b < w4.heap.size := hb.2
      have r0 : w4.cell? ⟨b, j * 2, none⟩ = some (.int .i64 (gw ls j).1) := by have h := blk.2.1 (j * 2) (by rw [length_flw]; omega); rw [(gt_flw ls j).1] at h; exact h
      have e0 := blk.2.2 (j * 2)
      have HK := hide (blk_one (v := v) blk (show j < ls.length by omega))
      clear M2 M4 g4 blk q3 hs2
      have k1 : w.heap.size + 1 < w4.heap.size := by omega
      go_wp2
      refine bodyPost_ret (v := .agg #[.int .i64 0, .slice (some ⟨b, 0, none⟩) n rc]) (by simp [results, Try.results17, go_sem, c0, c1, k1]) rfl ⟨_, _, _, by rw [HC.out], ?_, ?_⟩
      · rw [HX.out, HT.out]
        refine OWd.ofBlk (Blk.below ((HK.out.setCell ?_ _).setCell ?_ _) ((Below.refl _ _).alloc (Nat.le_refl _) _)) ?_ (by simp [hlen]) hn4
        · simp; omega
        · simp; omega
        · exact ⟨by omega, by simp; omega⟩
      · exact (((HB.out.setCell (by simp; omega) _).setCell (by simp) _).setCell (by simp) _).alloc (by simp; omega) _

set_option maxRecDepth 100000 in
set_option maxHeartbeats 1000000 in
theorem implStoreWord_calls (a : Option Addr) (n c : Nat) (ls : List (Int × Int)) (p v : Int) (w : World) (hn : n ≤ maxLen) (hs : Swd w a n ls) :
    Calls Try.prog 6 #[.agg #[.slice a n c], .int .i64 p, .int .i64 v] w fun e w' => ∃ ra rn rc, e = .returned (.agg #[.int .i64 (swC ls p v), .slice ra rn rc]) ∧ OWd (InR w.heap.size w'.heap.size) ra rn (swL ls p v) w' ∧ Below w.heap.size w w' := by
  have M0 := ((Mm.start w).alloc1 (.slice a n c) 26).alloc2 (.int .i64 0) (.slice none 0 0) 30
  try simp only [World.size_alloc] at M0
  have hlen := hs.1
  go_enter Try.func6, Try.ntmps6
  go_wp2_with fail
  refine (implMemoryFault_calls a n c ls 6 _ hn (hs.below M0.bel (Nat.le_refl _))).mono ?_
  rintro e w1 ⟨rfl, g1⟩
  have M1 := M0.below g1
  clear M0 g1
  by_cases hf : mfC 6 ls = 0
  rotate_left
  · obtain ⟨HC, HX⟩ : Hid (swC ls p v = mfC 6 ls) ∧ Hid (swL ls p v = []) := swC_fault hf
    have hne : (mfC 6 ls != 0) = true := by simpa using hf
    have c0 := M1.cell 0 rfl
    have c1 := M1.cell 1 rfl
    have f0 := M1.fz 0 rfl
    have f1 := M1.fz 1 rfl
    have HB := hide M1.bel
    clear M1 hf
    go_wp2
    refine bodyPost_ret (v := .agg #[.int .i64 (mfC 6 ls), .slice none 0 0]) (by simp [results, Try.results6, go_sem, c0, c1]) rfl ⟨_, _, _, by rw [HC.out], by rw [HX.out]; exact OWd.nil _ _ _, ?_⟩
    exact (HB.out.setCell (by simp) _).setCell (by simp) _
  have hne : (mfC 6 ls != 0) = false := by simp [hf]
  have q0 := M1.cell 2 rfl
  go_wp2_with fail
  refine (hasOne_calls a n c p _ hn).mono ?_
  rintro e w2 ⟨rfl, g2⟩
  have M2 := M1.below g2
  have hs2 := hs.below M2.bel (Nat.le_refl _)
  clear M1 g2 q0
  cases h1 : up p ((n : Int) - 1) with
  | false =>
    obtain ⟨HC, HX⟩ : Hid (swC ls p v = 3) ∧ Hid (swL ls p v = []) := swC_out hf (by rw [hlen, h1]; rfl)
    have c0 := M2.cell 0 rfl
    have c1 := M2.cell 1 rfl
    have f0 := M2.fz 0 rfl
    have f1 := M2.fz 1 rfl
    have HB := hide M2.bel
    clear M2 hf hne
    go_wp2
    refine bodyPost_ret (v := .agg #[.int .i64 3, .slice none 0 0]) (by simp [results, Try.results6, go_sem, c0, c1]) rfl ⟨_, _, _, by rw [HC.out], by rw [HX.out]; exact OWd.nil _ _ _, ?_⟩
    exact (HB.out.setCell (by simp) _).setCell (by simp) _
  | true =>
    go_wp2_with fail
    refine (isUpTo_calls v 65535 _).mono ?_
    rintro e w3 ⟨rfl, hw3⟩
    subst hw3
    cases h4 : up v 65535 with
    | false =>
      obtain ⟨HC, HX⟩ : Hid (swC ls p v = 3) ∧ Hid (swL ls p v = []) := swC_out hf (by rw [h4]; simp)
      have c0 := M2.cell 0 rfl
      have c1 := M2.cell 1 rfl
      have f0 := M2.fz 0 rfl
      have f1 := M2.fz 1 rfl
      have HB := hide M2.bel
      clear M2 hf hne
      go_wp2
      refine bodyPost_ret (v := .agg #[.int .i64 3, .slice none 0 0]) (by simp [results, Try.results6, go_sem, c0, c1]) rfl ⟨_, _, _, by rw [HC.out], by rw [HX.out]; exact OWd.nil _ _ _, ?_⟩
      exact (HB.out.setCell (by simp) _).setCell (by simp) _
    | true =>
      obtain ⟨HC, HX⟩ : Hid (swC ls p v = 0) ∧ Hid (swL ls p v = ls.set p.toNat (v, (gw ls p.toNat).2)) := swC_ok hf (by rw [hlen, h1, h4]; rfl)
      obtain ⟨h2, h3⟩ := up_iff.1 h1
      obtain ⟨j, rfl⟩ : ∃ j : Nat, p = (j : Int) := ⟨p.toNat, by omega⟩
      have hj : j < n := by omega
      have hle := mfC_len hf
      have HT : Hid (((j : Int)).toNat = j) := by show _ = _; omega
      have q3 := M2.cell 2 rfl
      have z2 := M2.lt 0 rfl
      clear hf hne h1 h2 h3
      go_wp2_with fail
      refine (copiedMemory_O a n c ls _ (by omega) hs2).mono ?_
      rintro e w4 ⟨ra, rc, rfl, ow, g4⟩
      have z4 := g4.size
      have M4 := M2.below g4
      have c0 := M4.cell 0 rfl
      have c1 := M4.cell 1 rfl
      have f0 := M4.fz 0 rfl
      have f1 := M4.fz 1 rfl
      have HB := hide M4.bel
      obtain ⟨_, hn4, ow⟩ := ow
      rcases ow with ow | ⟨b, rfl, hb, blk⟩
      · omega
      have hb1 : w3.heap.size ≤ b := hb.1
      have hb2 : b < w4.heap.size := hb.2
      have r0 : w4.cell? ⟨b, j * 2, none⟩ = some (.int .i64 (gw ls j).1) := by have h := blk.2.1 (j * 2) (by rw [length_flw]; omega); rw [(gt_flw ls j).1] at h; exact h
      have e0 := blk.2.2 (j * 2)
      have HK := hide (blk_one (v := v) blk (show j < ls.length by omega))
      clear M2 M4 g4 blk q3 hs2
      have k1 : w.heap.size + 1 < w4.heap.size := by omega
      go_wp2
      refine bodyPost_ret (v := .agg #[.int .i64 0, .slice (some ⟨b, 0, none⟩) n rc]) (by simp [results, Try.results6, go_sem, c0, c1, k1]) rfl ⟨_, _, _, by rw [HC.out], ?_, ?_⟩
      · rw [HX.out, HT.out]
        refine OWd.ofBlk (Blk.below ((HK.out.setCell ?_ _).setCell ?_ _) ((Below.refl _ _).alloc (Nat.le_refl _) _)) ?_ (by simp [hlen]) hn4
        · simp; omega
        · simp; omega
        · exact ⟨by omega, by simp; omega⟩
      · exact (((HB.out.setCell (by simp; omega) _).setCell (by simp) _).setCell (by simp) _).alloc (by simp; omega) _

end Go.Proofs.Ytpkndgkkakomiaa
