import Derived.Test.YtnibngigbcakkaaGreatF4
import Derived.Test.YtnibngigbcakkaaGreatF5
import Derived.Test.YtnibngigbcakkaaGreatF2
import Derived.WalkKit
import Derived.ProofKit
import Derived.OpenShut
import Derived.ShutString
import Derived.ChangeOld
import Derived.Below
import Derived.WalkSpells
import Derived.Deep.QuietTactic
import Derived.BigQuiet
import Derived.Deep.RegionWith
import Derived.Deep.WholeRow
import Derived.Deep.DeepCutAuto
import Derived.Deep.RegionHeld2
import Derived.Deep.AppendLies
import Derived.Deep.RegionLaw
namespace Go.Proofs.YtnibngigbcakkaaGreat
open Go.ChangeShapes Go.WideShapes Go.ChangeAt Go.RowKit

set_option maxRecDepth 100000 in
set_option maxHeartbeats 1000000 in
theorem implCacheFault_calls (s : Int) (a : Option Addr) (n c : Nat) (ls : List (Int × Int × Int)) (w : World) (hn : n ≤ maxLen) (hnc : n ≤ c) (hs : Sln w a n ls) :
    Calls Tryz.prog 15 #[.agg #[.int .i64 s, .slice a n c]] w fun e w' => e = .returned (.int .i64 (faultC s ls)) ∧ Below w.heap.size w w' := by
  unfold maxLen at hn
  have hlen := hs.1
  have M0 := (Mm.start w).alloc2 (.int .i64 s) (.slice a n c) 26
  have HB0 := hide M0.bel
  by_cases h1 : 0 ≤ s
  rotate_left
  · have HR := hide (faultC_size (s := s) (ls := ls) (by simp; omega))
    clear M0
    go_enter Tryz.func15, Tryz.ntmps15
    go_wp2
    go_ret
    exact ⟨ret_int HR.out.symm, HB0.out⟩
  by_cases h2 : s ≤ 6
  rotate_left
  · have HR := hide (faultC_size (s := s) (ls := ls) (by simp; omega))
    have h2' : 6 < s := by omega
    clear M0
    go_enter Tryz.func15, Tryz.ntmps15
    go_wp2
    go_ret
    exact ⟨ret_int HR.out.symm, HB0.out⟩
  have h12 : (decide (0 ≤ s) && decide (s ≤ 6)) = true := by simp [h1, h2]
  have HH1 := hide h12
  clear h12
  by_cases h3 : s < (n : Int)
  · have HR := hide (faultC_many (ls := ls) HH1.out (by omega))
    clear M0
    go_enter Tryz.func15, Tryz.ntmps15
    go_wp2
    go_ret
    exact ⟨ret_int HR.out.symm, HB0.out⟩
  go_enter Tryz.func15, Tryz.ntmps15
  go_wp2
  go_loopw [22] (fun i wr => ∃ k : Nat, k ≤ n ∧ i = .int .i64 k ∧ Mm w wr [(w.heap.size, 0, .int .i64 s), (w.heap.size, 1, .slice a n c)] [] ∧ ∀ j, j < k → lineF ls j = 0) (fun i _ => n - (intOf i).toNat)
  case atStart => exact ⟨0, Nat.zero_le _, rfl, M0, fun j hj => by omega⟩
  case round =>
    clear M0 HB0
    obtain ⟨k, hk, rfl, M, hno⟩ := hrel
    by_cases hlt : k < n
    · have HSR := hide (hs.below M.bel (Nat.le_refl _))
      obtain ⟨_, hs'⟩ := hs
      obtain ⟨b, off, rfl, hb, hc⟩ := hs' (by omega)
      obtain ⟨r0, r1, r2⟩ := cells3 hc hlt
      have p0 := (M.bel.cell (p := ⟨b, off + k * 3, none⟩) hb).trans r0
      have p1 := (M.bel.cell (p := ⟨b, off + k * 3 + 1, none⟩) hb).trans r1
      have p2 := (M.bel.cell (p := ⟨b, off + k * 3 + 2, none⟩) hb).trans r2
      clear hc r0 r1 r2
      have M1 := M.alloc3 (.int .i64 (g3 ls k).1) (.int .i64 (g3 ls k).2.1) (.int .i64 (g3 ls k).2.2) 45
      have HS1 := hide (HSR.out.below ((Below.refl wr.heap.size wr).alloc (Nat.le_refl _) (.cells #[.int .i64 (g3 ls k).1, .int .i64 (g3 ls k).2.1, .int .i64 (g3 ls k).2.2] 45)) (Nat.le_refl _))
      clear M
      cases hok : okL (g3 ls k) with
      | false =>
        have HR := hide (faultC_at (c := 3) HH1.out (by omega) (by omega) hno (lineF_range hok) (by omega))
        go_wp2_with fail
        refine (isInBounds_calls (g3 ls k).1 (g3 ls k).2.1 (g3 ls k).2.2 _).mono ?_
        rintro e w2 ⟨rfl, g2⟩
        have hok' : okL ((g3 ls k).1, (g3 ls k).2.1, (g3 ls k).2.2) = false := hok
        rw [hok']
        have HB := hide (M1.below g2).bel
        clear g2 hok hok' p0 p1 p2 M1
        go_wp2
        go_ret
        exact ⟨ret_int HR.out.symm, HB.out⟩
      | true =>
        go_wp2_with fail
        refine (isInBounds_calls (g3 ls k).1 (g3 ls k).2.1 (g3 ls k).2.2 _).mono ?_
        rintro e w2 ⟨rfl, g2⟩
        have hok' : okL ((g3 ls k).1, (g3 ls k).2.1, (g3 ls k).2.2) = true := hok
        rw [hok']
        have M2 := M1.below g2
        have HS2 := hide ((HS1.out.below g2 (Nat.le_refl _)).take (Nat.le_of_lt hlt))
        have k1 : wr.heap.size < w2.heap.size := M2.lt 0 rfl
        have k2 : w.heap.size < w2.heap.size := M2.lt 3 rfl
        have q1 := M2.cell 4 rfl
        have HOK := hide hok
        have i0 : (0 : Int) ≤ (k : Int) := by omega
        have i1 : (k : Int) ≤ (c : Int) := by omega
        have i2 : k ≤ c := by omega
        have HS0 : Hid (w2.drew.cell? ⟨wr.heap.size, 0, none⟩ = some (.int .i64 (g3 ls k).1) ∧ w2.drew.cell? ⟨wr.heap.size, 1, none⟩ = some (.int .i64 (g3 ls k).2.1) ∧ w2.drew.cell? ⟨wr.heap.size, 2, none⟩ = some (.int .i64 (g3 ls k).2.2) ∧ w2.drew.cell? ⟨w.heap.size, 1, none⟩ = some (.slice (some ⟨b, off, none⟩) n c) ∧ Below w2.heap.size w2 w2.drew) := ⟨M2.cell 0 rfl, M2.cell 1 rfl, M2.cell 2 rfl, M2.cell 4 rfl, (Below.refl _ _).drew⟩
        have HM := hide ((M2.sub (cs' := [(w.heap.size, 0, .int .i64 s), (w.heap.size, 1, .slice (some ⟨b, off, none⟩) n c)]) (fun _ h => List.mem_cons_of_mem _ (List.mem_cons_of_mem _ (List.mem_cons_of_mem _ h))) (fun _ h => h)))
        by_cases hat : atK (ls.take k) (g3 ls k).1 (g3 ls k).2.1 < 0
        · have hge : ¬ (0 ≤ atK (ls.take k) (g3 ls k).1 (g3 ls k).2.1) := by omega
          have HN : Hid (∀ j, j < k + 1 → lineF ls j = 0) := fun j hj => by
            by_cases e : j = k
            · subst e; exact lineF_ok HOK.out ((atK_take (by omega)).1 hat)
            · exact hno j (by omega)
          clear hat g2 hok hok' p0 p1 p2 hno M1 M2
          go_wp2_with fail
          clear q1
          go_region_held2 (fun w' => w'.cell? ⟨wr.heap.size, 0, none⟩ = some (.int .i64 (g3 ls k).1) ∧ w'.cell? ⟨wr.heap.size, 1, none⟩ = some (.int .i64 (g3 ls k).2.1) ∧ w'.cell? ⟨wr.heap.size, 2, none⟩ = some (.int .i64 (g3 ls k).2.2) ∧ w'.cell? ⟨w.heap.size, 1, none⟩ = some (.slice (some ⟨b, off, none⟩) n c) ∧ Below w2.heap.size w2 w')
              (first | with_reducible exact HS0.out | with_reducible assumption)
              (first
                | (go_at_call 38; refine (withoutPerm_calls (g3 ls k).1 (g3 ls k).2.1 (g3 ls k).2.2 _).mono ?_; rintro e v1 ⟨rfl, ga⟩; have hs1 := held4 (W := w2) k1 k1 k1 k2 (by with_reducible assumption) ga; clear ga)
                | (go_at_call 36; refine (placeOf_calls _ k c (ls.take k) _ _ _ (by unfold maxLen; omega) ?_).mono ?_; exact HS2.out.below (And.right (And.right (And.right (And.right (by with_reducible assumption))))) (Nat.le_refl _); rintro e v2 ⟨rfl, gb⟩; have hs2 := held4 (W := w2) k1 k1 k1 k2 (by with_reducible assumption) gb; clear gb))
          have HE := hide (HM.out.below hs2.2.2.2.2)
          clear hs1 hs2 HS0
          go_wp2
          go_roundw
          case rel => exact ⟨k + 1, by omega, by go_num, HE.out, HN.out⟩
          case measure => simp [intOf]; omega
        · have hge : 0 ≤ atK (ls.take k) (g3 ls k).1 (g3 ls k).2.1 := by omega
          have HR := hide (faultC_at (c := 8) HH1.out (by omega) (by omega) hno (lineF_state HOK.out (fun e => hat ((atK_take (by omega)).2 e))) (by omega))
          clear hat g2 hok hok' p0 p1 p2 hno M1 M2
          go_wp2_with fail
          clear q1
          go_region_held2 (fun w' => w'.cell? ⟨wr.heap.size, 0, none⟩ = some (.int .i64 (g3 ls k).1) ∧ w'.cell? ⟨wr.heap.size, 1, none⟩ = some (.int .i64 (g3 ls k).2.1) ∧ w'.cell? ⟨wr.heap.size, 2, none⟩ = some (.int .i64 (g3 ls k).2.2) ∧ w'.cell? ⟨w.heap.size, 1, none⟩ = some (.slice (some ⟨b, off, none⟩) n c) ∧ Below w2.heap.size w2 w')
              (first | with_reducible exact HS0.out | with_reducible assumption)
              (first
                | (go_at_call 38; refine (withoutPerm_calls (g3 ls k).1 (g3 ls k).2.1 (g3 ls k).2.2 _).mono ?_; rintro e v1 ⟨rfl, ga⟩; have hs1 := held4 (W := w2) k1 k1 k1 k2 (by with_reducible assumption) ga; clear ga)
                | (go_at_call 36; refine (placeOf_calls _ k c (ls.take k) _ _ _ (by unfold maxLen; omega) ?_).mono ?_; exact HS2.out.below (And.right (And.right (And.right (And.right (by with_reducible assumption))))) (Nat.le_refl _); rintro e v2 ⟨rfl, gb⟩; have hs2 := held4 (W := w2) k1 k1 k1 k2 (by with_reducible assumption) gb; clear gb))
          have HE := hide (HM.out.below hs2.2.2.2.2).bel
          clear hs1 hs2 HS0
          go_wp2
          go_ret
          exact ⟨ret_int HR.out.symm, HE.out⟩
    · have HR := hide (faultC_ok HH1.out (by omega) (fun j hj => hno j (by omega)))
      have HM := hide M.bel
      clear M
      go_wp2
      go_ret
      exact ⟨ret_int HR.out.symm, HM.out⟩


def lkC (s : Int) (ls : List (Int × Int × Int)) (d t : Int) : Int := if faultC s ls = 0 then (if atK ls d t < 0 then 4 else 0) else faultC s ls

def lkV (s : Int) (ls : List (Int × Int × Int)) (d t : Int) : Int := if faultC s ls = 0 then (if atK ls d t < 0 then 0 else (g3 ls (atK ls d t).toNat).2.2) else 0

set_option maxRecDepth 100000 in
theorem implLookCache_calls (s : Int) (a : Option Addr) (n c : Nat) (ls : List (Int × Int × Int)) (d t : Int) (w : World) (hn : n ≤ maxLen) (hnc : n ≤ c) (hs : Sln w a n ls) :
    Calls Tryz.prog 14 #[.agg #[.int .i64 s, .slice a n c], .int .i64 d, .int .i64 t] w fun e w' => e = .returned (.agg #[.int .i64 (lkC s ls d t), .int .i64 (lkV s ls d t)]) ∧ Below w.heap.size w w' := by
  have M0 := ((Mm.start w).alloc2 (.int .i64 s) (.slice a n c) 26).alloc2 (.int .i64 0) (.int .i64 0) 47
  try simp only [World.size_alloc] at M0
  have hb2 := M0.bel
  have z0 := hb2.size
  have hlen := hs.1
  go_enter Tryz.func14, Tryz.ntmps14
  go_wp2_with fail
  refine (implCacheFault_calls s a n c ls _ hn hnc (hs.below hb2 (Nat.le_refl _))).mono ?_
  rintro e w1 ⟨rfl, g1⟩
  have M1 := M0.below g1
  have c0 := M1.cell 0 rfl
  have c1 := M1.cell 1 rfl
  have c3 := M1.cell 3 rfl
  have f0 := M1.fz 0 rfl
  have f1 := M1.fz 1 rfl
  have HB := hide M1.bel
  by_cases hf : faultC s ls = 0
  rotate_left
  · have HC : Hid (lkC s ls d t = faultC s ls) := if_neg hf
    have HV : Hid (lkV s ls d t = 0) := if_neg hf
    have hne : (faultC s ls != 0) = true := by simpa using hf
    clear M0 M1 g1 hb2 z0 hf
    go_wp2
    refine bodyPost_ret (v := .agg #[.int .i64 (faultC s ls), .int .i64 0]) (by simp [results, Tryz.results14, go_sem, c0, c1]) rfl ⟨by rw [HC.out, HV.out], ?_⟩
    exact (HB.out.setCell (by simp) _).setCell (by simp) _
  · have hne : (faultC s ls != 0) = false := by simp [hf]
    have hl := atK_lt ls d t
    clear M0 g1 hb2
    go_wp2_with fail
    refine (placeOf_calls a n c ls d t _ hn (hs.below M1.bel (Nat.le_refl _))).mono ?_
    rintro e w2 ⟨rfl, g2⟩
    have M2 := M1.below g2
    have d0 := M2.cell 0 rfl
    have d1 := M2.cell 1 rfl
    have d3 := M2.cell 3 rfl
    have e0 := M2.fz 0 rfl
    have e1 := M2.fz 1 rfl
    have HB2 := hide M2.bel
    by_cases hat : atK ls d t < 0
    · have HC : Hid (lkC s ls d t = 4) := by show lkC _ _ _ _ = _; unfold lkC; rw [if_pos hf, if_pos hat]
      have HV : Hid (lkV s ls d t = 0) := by show lkV _ _ _ _ = _; unfold lkV; rw [if_pos hf, if_pos hat]
      clear M1 M2 g2 z0 hf hne c0 c1 c3 f0 f1
      go_wp2
      refine bodyPost_ret (v := .agg #[.int .i64 4, .int .i64 0]) (by simp [results, Tryz.results14, go_sem, d0, d1]) rfl ⟨by rw [HC.out, HV.out], ?_⟩
      exact (HB2.out.setCell (by simp) _).setCell (by simp) _
    · obtain ⟨j, hj⟩ : ∃ j : Nat, atK ls d t = (j : Int) := ⟨(atK ls d t).toNat, by omega⟩
      have hjn : j < n := by omega
      have HC : Hid (lkC s ls d t = 0) := by show lkC _ _ _ _ = _; unfold lkC; rw [if_pos hf, if_neg hat]
      have HV : Hid (lkV s ls d t = (g3 ls j).2.2) := by show lkV _ _ _ _ = _; unfold lkV; rw [if_pos hf, if_neg hat, hj]; simp
      rw [hj]
      obtain ⟨_, hs'⟩ := hs
      obtain ⟨b, off, rfl, hb, hc⟩ := hs' (by omega)
      obtain ⟨_, _, r2⟩ := cells3 hc hjn
      have p2 := (M2.bel.cell (p := ⟨b, off + j * 3 + 2, none⟩) hb).trans r2
      clear M1 M2 g2 z0 hf hne c0 c1 c3 f0 f1 hc r2 hat hl hj
      go_wp2
      refine bodyPost_ret (v := .agg #[.int .i64 0, .int .i64 (g3 ls j).2.2]) (by simp [results, Tryz.results14, go_sem, d0, d1]) rfl ⟨by rw [HC.out, HV.out], ?_⟩
      exact (HB2.out.setCell (by simp) _).setCell (by simp) _

/-- two lines of different domains or tags. -/
def keyNe (x y : Int × Int × Int) : Prop := ¬ (x.1 = y.1 ∧ x.2.1 = y.2.1)

theorem g3_get {ls : List (Int × Int × Int)} {j : Nat} (h : j < ls.length) : g3 ls j = ls[j] := by simp [g3, h]

theorem pw_of {ls : List (Int × Int × Int)} (h : ∀ j, j < ls.length → atK ls (g3 ls j).1 (g3 ls j).2.1 = (j : Int)) : ls.Pairwise keyNe := by
  rw [List.pairwise_iff_getElem]
  intro i j hi hj hij ⟨e1, e2⟩
  have hat := h j hj
  rcases hit_or ls (g3 ls j).1 (g3 ls j).2.1 j with k | ⟨i0, k1, k2, k3⟩
  · have := k i hij
    rw [g3_get hi, g3_get hj] at this
    simp [hitL, e1, e2] at this
  · rw [atK_hit (by omega) k2 k3] at hat
    omega

theorem of_pw {ls : List (Int × Int × Int)} (h : ls.Pairwise keyNe) : ∀ j, j < ls.length → atK ls (g3 ls j).1 (g3 ls j).2.1 = (j : Int) := by
  intro j hj
  refine atK_hit hj (fun i hi => ?_) (hitL_self _)
  rw [List.pairwise_iff_getElem] at h
  have k := h i j (by omega) hj hi
  rw [g3_get (by omega : i < ls.length), g3_get hj]
  cases hh : hitL ls[j].1 ls[j].2.1 ls[i] with
  | false => rfl
  | true => exact absurd (hitL_eq hh) k

theorem faultC_good {s : Int} {ls : List (Int × Int × Int)} (h : faultC s ls = 0) : 0 ≤ s ∧ s ≤ 6 ∧ (ls.length : Int) ≤ s ∧ (∀ y ∈ ls, okL y = true) ∧ ls.Pairwise keyNe := by
  obtain ⟨h1, h2, h3, h4⟩ := faultC_inv h
  exact ⟨h1, h2, h3, fun y hy => by obtain ⟨j, hj, rfl⟩ := mem_g3 hy; exact (h4 j hj).1, pw_of (fun j hj => (h4 j hj).2)⟩

theorem faultC_mk {s : Int} {ls : List (Int × Int × Int)} (h1 : 0 ≤ s) (h2 : s ≤ 6) (h3 : (ls.length : Int) ≤ s) (h4 : ∀ y ∈ ls, okL y = true) (h5 : ls.Pairwise keyNe) : faultC s ls = 0 :=
  faultC_ok (by simp [h1, h2]) (by omega) (fun j hj => lineF_ok (h4 _ (by rw [g3_get hj]; exact List.getElem_mem hj)) (of_pw h5 j hj))

theorem lk_mem {s : Int} {ls : List (Int × Int × Int)} {y : Int × Int × Int} (h : faultC s ls = 0) (hy : y ∈ ls) : lkC s ls y.1 y.2.1 = 0 ∧ lkV s ls y.1 y.2.1 = y.2.2 := by
  obtain ⟨j, hj, rfl⟩ := mem_g3 hy
  have e := ((faultC_inv h).2.2.2 j hj).2
  unfold lkC lkV
  rw [if_pos h, if_pos h, e, if_neg (by omega), if_neg (by omega)]
  simp

theorem lk_not {s : Int} {ls : List (Int × Int × Int)} {d t : Int} (h : faultC s ls = 0) (hy : ∀ y ∈ ls, ¬ (y.1 = d ∧ y.2.1 = t)) : lkC s ls d t = 4 ∧ lkV s ls d t = 0 := by
  have e : atK ls d t = -1 := atK_none (fun j hj => by
    have := hy (g3 ls j) (by rw [g3_get hj]; exact List.getElem_mem hj)
    cases hh : hitL d t (g3 ls j) with
    | false => rfl
    | true => exact absurd (hitL_eq hh) this)
  unfold lkC lkV
  rw [if_pos h, if_pos h, e]
  exact ⟨rfl, rfl⟩

set_option maxRecDepth 100000 in
set_option maxHeartbeats 400000 in
theorem isFlushedBy_calls (d t p wd wt : Int) (w : World) :
    Calls Tryz.prog 41 #[.agg #[.int .i64 d, .int .i64 t, .int .i64 p], .agg #[.int .i64 wd, .int .i64 wt, .int .i64 0]] w fun e w' => e = .returned (.bool (gone wd wt (d, t, p))) ∧ Below w.heap.size w w' := by
  have M0 := ((Mm.start w).alloc3 (.int .i64 d) (.int .i64 t) (.int .i64 p) 45).alloc3 (.int .i64 wd) (.int .i64 wt) (.int .i64 0) 45
  try simp only [World.size_alloc] at M0
  go_enter Tryz.func41, Tryz.ntmps41
  go_wp2_with fail
  refine (withoutPerm_calls d t p _).mono ?_
  rintro e w1 ⟨rfl, g1⟩
  have M1 := M0.below g1
  have f3 := M1.fz 3 rfl
  have f4 := M1.fz 4 rfl
  have f5 := M1.fz 5 rfl
  have c3 := M1.cell 3 rfl
  have c4 := M1.cell 4 rfl
  have c5 := M1.cell 5 rfl
  have M2 := ((M1.set 3 rfl (.int .i64 d) (Nat.le_refl _) (by simp) (by simp)).set 4 rfl (.int .i64 t) (Nat.le_refl _) (by simp) (by simp)).set 5 rfl (.int .i64 0) (Nat.le_refl _) (by simp) (by simp)
  obtain ⟨X, hX⟩ : ∃ X, X = ((w1.setCell ⟨w.heap.size, 0, none⟩ (.int .i64 d)).setCell ⟨w.heap.size, 1, none⟩ (.int .i64 t)).setCell ⟨w.heap.size, 2, none⟩ (.int .i64 0) := ⟨_, rfl⟩
  have HX := hide hX
  rw [← hX] at M2
  simp only [List.set_cons_succ, List.set_cons_zero] at M2
  clear hX M0 M1 g1
  go_upto_region 2 with fail
  rw [← HX.out]
  clear c3 c4 c5 f3 f4 f5 HX
  have c0 := M2.cell 0 rfl
  have c1 := M2.cell 1 rfl
  have c2 := M2.cell 2 rfl
  have c3 := M2.cell 3 rfl
  have c4 := M2.cell 4 rfl
  have c5 := M2.cell 5 rfl
  have f3 := M2.fz 3 rfl
  have f4 := M2.fz 4 rfl
  have HB := hide M2.bel
  clear M2
  by_cases h1 : wd = -1
  · have e1 := eq_true h1
    have e1' : (wd == -1) = true := by simpa using h1
    by_cases h2 : wt = -1
    · have e2' : (wt == -1) = true := by simpa using h2
      have HR : Hid (gone wd wt (d, t, p) = true) := by show _ = _; simp [gone, h1, h2]
      subst h1 h2
      clear e1
      go_wp2
      go_ret
      refine ⟨ret_bool HR.out.symm, ?_⟩
      repeat (first | with_reducible exact HB.out | with_reducible refine Below.setCell ?_ (by simp) _)
    · have e2' : (wt == -1) = false := by simpa using h2
      by_cases h4 : t = wt
      · have HR : Hid (gone wd wt (d, t, p) = true) := by show _ = _; simp [gone, h1, h4]
        subst h1 h4
        clear e1
        go_wp2
        go_ret
        refine ⟨ret_bool HR.out.symm, ?_⟩
        repeat (first | with_reducible exact HB.out | with_reducible refine Below.setCell ?_ (by simp) _)
      · have HR : Hid (gone wd wt (d, t, p) = false) := by show _ = _; simp [gone, h2, h4]
        subst h1
        clear e1
        go_wp2
        go_ret
        refine ⟨ret_bool HR.out.symm, ?_⟩
        repeat (first | with_reducible exact HB.out | with_reducible refine Below.setCell ?_ (by simp) _)
  · have e1' : (wd == -1) = false := by simpa using h1
    by_cases h3 : d = wd
    · by_cases h2 : wt = -1
      · have e2' : (wt == -1) = true := by simpa using h2
        have HR : Hid (gone wd wt (d, t, p) = true) := by show _ = _; simp [gone, h2, h3]
        subst h2 h3
        go_wp2
        go_ret
        refine ⟨ret_bool HR.out.symm, ?_⟩
        repeat (first | with_reducible exact HB.out | with_reducible refine Below.setCell ?_ (by simp) _)
      · have e2' : (wt == -1) = false := by simpa using h2
        by_cases h4 : t = wt
        · have HR : Hid (gone wd wt (d, t, p) = true) := by show _ = _; simp [gone, h3, h4]
          subst h3 h4
          go_wp2
          go_ret
          refine ⟨ret_bool HR.out.symm, ?_⟩
          repeat (first | with_reducible exact HB.out | with_reducible refine Below.setCell ?_ (by simp) _)
        · have HR : Hid (gone wd wt (d, t, p) = false) := by show _ = _; simp [gone, h2, h4]
          subst h3
          go_wp2
          go_ret
          refine ⟨ret_bool HR.out.symm, ?_⟩
          repeat (first | with_reducible exact HB.out | with_reducible refine Below.setCell ?_ (by simp) _)
    · have HR : Hid (gone wd wt (d, t, p) = false) := by show _ = _; simp [gone, h1, h3]
      by_cases h2 : wt = -1
      · have e2' : (wt == -1) = true := by simpa using h2
        subst h2
        go_wp2
        go_ret
        refine ⟨ret_bool HR.out.symm, ?_⟩
        repeat (first | with_reducible exact HB.out | with_reducible refine Below.setCell ?_ (by simp) _)
      · have e2' : (wt == -1) = false := by simpa using h2
        go_wp2
        go_ret
        refine ⟨ret_bool HR.out.symm, ?_⟩
        repeat (first | with_reducible exact HB.out | with_reducible refine Below.setCell ?_ (by simp) _)

end Go.Proofs.YtnibngigbcakkaaGreat
