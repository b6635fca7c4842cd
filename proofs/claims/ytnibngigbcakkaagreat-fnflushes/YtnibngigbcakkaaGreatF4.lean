import Derived.Test.YtnibngigbcakkaaGreatF3
import Derived.Test.YtnibngigbcakkaaGreatF2
import Derived.Lib.SliceRun
import Derived.Deep.Onto
import Derived.WalkKit
import Derived.ProofKit
import Derived.OpenShut
import Derived.ShutString
import Derived.ChangeOld
import Derived.Below
import Derived.WalkSpells
import Derived.Deep.QuietTactic
import Derived.BigQuiet
import Derived.Deep.RegionWith
import Derived.Deep.WholeRow
import Derived.Deep.DeepCutAuto
import Derived.Deep.RegionHeld2
import Derived.Deep.AppendLies
import Derived.Deep.RegionLaw
namespace Go.Proofs.YtnibngigbcakkaaGreat
open Go.ChangeShapes Go.WideShapes Go.ChangeAt Go.RowKit

/-- three cells of a world that later worlds keep: for a region's loads. -/
theorem held3 {W X Y : World} {A B C : Addr} {a b c : Value} (hA : A.block < W.heap.size) (hB : B.block < W.heap.size) (hC : C.block < W.heap.size)
    (h : X.cell? A = some a ∧ X.cell? B = some b ∧ X.cell? C = some c ∧ Below W.heap.size W X) (g : Below X.heap.size X Y) :
    Y.cell? A = some a ∧ Y.cell? B = some b ∧ Y.cell? C = some c ∧ Below W.heap.size W Y := by
  obtain ⟨h1, h2, h3, hb⟩ := h
  have hz := hb.size
  exact ⟨(g.cell (by omega)).trans h1, (g.cell (by omega)).trans h2, (g.cell (by omega)).trans h3, hb.trans (g.mono hz)⟩

set_option maxRecDepth 100000 in
set_option maxHeartbeats 1000000 in
theorem l4Fault_calls (P : Nat) (s : Int) (a : Option Addr) (n c : Nat) (ls : List (Int × Int × Int)) (w : World) (hn : n ≤ maxLen) (hp0 : w.cell? ⟨P, 0, none⟩ = some (.int .i64 s)) (hp1 : w.cell? ⟨P, 1, none⟩ = some (.slice a n c)) (hs : Sln w a n ls) :
    Calls Tryz.prog 27 #[.pointer (some ⟨P, 0, none⟩)] w fun e w' => e = .returned (.int .i64 (faultC s ls)) ∧ Below w.heap.size w w' := by
  have hn' := hn
  unfold maxLen at hn
  have hP : P < w.heap.size := World.block_lt_of_cell? _ _ hp0
  have hlen := hs.1
  have HPP := hide hp1
  by_cases h1 : (decide (0 ≤ s) && decide (s ≤ 6)) = true
  · go_enter Tryz.func27, Tryz.ntmps27
    go_wp2_with fail
    refine (in_calls s 0 6 _).mono ?_
    rintro e w1 ⟨rfl, g1⟩
    rw [h1]
    have c0 := (g1.cell (p := ⟨P, 0, none⟩) hP).trans hp0
    have c1 := (g1.cell (p := ⟨P, 1, none⟩) hP).trans hp1
    clear hp0 hp1
    by_cases h2 : s < (n : Int)
    · have HR := hide (faultC_many (ls := ls) h1 (by omega))
      have HB := hide g1
      clear g1 h1
      go_wp2_with fail
      go_quiet (fail)
      go_wp2
      go_ret
      exact ⟨ret_int HR.out.symm, bdrewN HB.out _⟩
    · have HG := hide g1
      have HH1 := hide h1
      have HP1 := HPP
      clear g1 h1
      go_wp2_with fail
      go_quiet (fail)
      go_wp2
      go_loopw [3] (fun i wr => ∃ k : Nat, k ≤ n ∧ i = .int .i64 k ∧ Below w.heap.size w wr ∧ ∀ j, j < k → lineF ls j = 0) (fun i _ => n - (intOf i).toNat)
      case atStart => exact ⟨0, Nat.zero_le _, rfl, bdrewN HG.out _, fun j hj => by omega⟩
      case round =>
        obtain ⟨k, hk, rfl, hbel, hno⟩ := hrel
        have q1 := (hbel.cell (p := ⟨P, 1, none⟩) hP).trans HP1.out
        by_cases hlt : k < n
        · have hsr := hs.below hbel (Nat.le_refl _)
          have HSR := hide hsr
          obtain ⟨_, hsr⟩ := hsr
          obtain ⟨b, off, rfl, hb, hc⟩ := hsr (by omega)
          obtain ⟨r0, r1, r2⟩ := cells3 hc hlt
          clear hc
          have hPr : P < wr.heap.size := by have := hbel.size; omega
          cases hok : okL (g3 ls k) with
          | false =>
            have HR := hide (faultC_at (c := 3) HH1.out (by omega) (by omega) hno (lineF_range hok) (by omega))
            go_wp2_with fail
            refine (l4Line_calls b (off + k * 3) _ _ _ _ r0 r1 r2).mono ?_
            rintro e w2 ⟨rfl, g2⟩
            have hok' : okL ((g3 ls k).1, (g3 ls k).2.1, (g3 ls k).2.2) = false := hok
            rw [hok']
            have HB := hide (hbel.trans (g2.mono hbel.size))
            clear g2 hok hok' r0 r1 r2 q1
            go_wp2
            go_ret
            exact ⟨ret_int HR.out.symm, HB.out⟩
          | true =>
            go_wp2_with fail
            refine (l4Line_calls b (off + k * 3) _ _ _ _ r0 r1 r2).mono ?_
            rintro e w2 ⟨rfl, g2⟩
            have hok' : okL ((g3 ls k).1, (g3 ls k).2.1, (g3 ls k).2.2) = true := hok
            rw [hok']
            have s0 := (g2.cell (p := ⟨b, off + k * 3, none⟩) hb).trans r0
            have s1 := (g2.cell (p := ⟨b, off + k * 3 + 1, none⟩) hb).trans r1
            have s2 := (g2.cell (p := ⟨P, 1, none⟩) hPr).trans q1
            have HS2 := hide (HSR.out.below g2 (Nat.le_refl _))
            have HB := hide (hbel.trans (g2.mono hbel.size))
            have k1 : b < w2.heap.size := by have := g2.size; omega
            have k2 : P < w2.heap.size := by have := g2.size; omega
            have HOK := hide hok
            have i0 : (0 : Int) ≤ (k : Int) := by omega
            have i1 : (k : Int) < (n : Int) := by omega
            have HS0 : Hid (w2.drew.cell? ⟨b, off + k * 3, none⟩ = some (.int .i64 (g3 ls k).1) ∧ w2.drew.cell? ⟨b, off + k * 3 + 1, none⟩ = some (.int .i64 (g3 ls k).2.1) ∧ w2.drew.cell? ⟨P, 1, none⟩ = some (.slice (some ⟨b, off, none⟩) n c) ∧ Below w2.heap.size w2 w2.drew) := ⟨s0, s1, s2, (Below.refl _ _).drew⟩
            by_cases hat : atK ls (g3 ls k).1 (g3 ls k).2.1 = (k : Int)
            · have hne : (atK ls (g3 ls k).1 (g3 ls k).2.1 != (k : Int)) = false := by simp [hat]
              have HN : Hid (∀ j, j < k + 1 → lineF ls j = 0) := fun j hj => by
                by_cases e : j = k
                · subst e; exact lineF_ok HOK.out hat
                · exact hno j (by omega)
              clear hat g2 hok hok' r0 r1 r2 q1 hno hbel
              go_wp2_with fail
              clear s0 s1 s2
              go_region_held2 (fun w' => w'.cell? ⟨b, off + k * 3, none⟩ = some (.int .i64 (g3 ls k).1) ∧ w'.cell? ⟨b, off + k * 3 + 1, none⟩ = some (.int .i64 (g3 ls k).2.1) ∧ w'.cell? ⟨P, 1, none⟩ = some (.slice (some ⟨b, off, none⟩) n c) ∧ Below w2.heap.size w2 w')
                (first | with_reducible exact HS0.out | with_reducible assumption)
                (first
                  | (go_at_call 53; refine (l4At_calls P _ n c ls _ _ _ hn' (And.left (And.right (And.right (by with_reducible assumption)))) ?_).mono ?_; exact HS2.out.below (And.right (And.right (And.right (by with_reducible assumption)))) (Nat.le_refl _); rintro e v1 ⟨rfl, ga⟩; have hs1 := held3 (W := w2) k1 k1 k2 (by with_reducible assumption) ga; clear ga))
              have HE := hide (HB.out.trans (hs1.2.2.2.mono HB.out.size))
              clear hs1 HS0
              go_wp2
              go_roundw
              case rel => exact ⟨k + 1, by omega, by go_num, HE.out, HN.out⟩
              case measure => simp [intOf]; omega
            · have hne : (atK ls (g3 ls k).1 (g3 ls k).2.1 != (k : Int)) = true := by simp [hat]
              have HR := hide (faultC_at (c := 8) HH1.out (by omega) (by omega) hno (lineF_state HOK.out hat) (by omega))
              clear hat g2 hok hok' r0 r1 r2 q1 hno hbel
              go_wp2_with fail
              clear s0 s1 s2
              go_region_held2 (fun w' => w'.cell? ⟨b, off + k * 3, none⟩ = some (.int .i64 (g3 ls k).1) ∧ w'.cell? ⟨b, off + k * 3 + 1, none⟩ = some (.int .i64 (g3 ls k).2.1) ∧ w'.cell? ⟨P, 1, none⟩ = some (.slice (some ⟨b, off, none⟩) n c) ∧ Below w2.heap.size w2 w')
                (first | with_reducible exact HS0.out | with_reducible assumption)
                (first
                  | (go_at_call 53; refine (l4At_calls P _ n c ls _ _ _ hn' (And.left (And.right (And.right (by with_reducible assumption)))) ?_).mono ?_; exact HS2.out.below (And.right (And.right (And.right (by with_reducible assumption)))) (Nat.le_refl _); rintro e v1 ⟨rfl, ga⟩; have hs1 := held3 (W := w2) k1 k1 k2 (by with_reducible assumption) ga; clear ga))
              have HE := hide (HB.out.trans (hs1.2.2.2.mono HB.out.size))
              clear hs1 HS0
              go_wp2
              go_ret
              exact ⟨ret_int HR.out.symm, HE.out⟩
        · have HR := hide (faultC_ok HH1.out (by omega) (fun j hj => hno j (by omega)))
          go_wp2
          go_ret
          exact ⟨ret_int HR.out.symm, hbel⟩
  · have h1' : (decide (0 ≤ s) && decide (s ≤ 6)) = false := by simpa using h1
    have HR := hide (faultC_size (ls := ls) h1')
    clear h1
    go_enter Tryz.func27, Tryz.ntmps27
    go_wp2_with fail
    refine (in_calls s 0 6 _).mono ?_
    rintro e w1 ⟨rfl, g1⟩
    rw [h1']
    have HB := hide g1
    clear g1
    go_wp2
    go_ret
    exact ⟨ret_int HR.out.symm, HB.out⟩

set_option maxRecDepth 100000 in
theorem isInBounds_calls (d t p : Int) (w : World) :
    Calls Tryz.prog 37 #[.agg #[.int .i64 d, .int .i64 t, .int .i64 p]] w fun e w' => e = .returned (.bool (okL (d, t, p))) ∧ Below w.heap.size w w' := by
  have HB := hide fun o => (Below.refl w.heap.size w).alloc (Nat.le_refl _) o
  by_cases h1 : 0 ≤ d
  · by_cases h2 : d < 4
    · by_cases h3 : 0 ≤ t
      · by_cases h4 : t ≤ 6
        · by_cases h5 : 0 ≤ p
          · by_cases h6 : p ≤ 7
            all_goals
              go_enter Tryz.func37, Tryz.ntmps37
              go_wp2
              go_ret
              exact ⟨ret_bool (by simp [okL]; omega), HB.out _⟩
          · go_enter Tryz.func37, Tryz.ntmps37
            go_wp2
            go_ret
            exact ⟨ret_bool (by simp [okL]; omega), HB.out _⟩
        · go_enter Tryz.func37, Tryz.ntmps37
          go_wp2
          go_ret
          exact ⟨ret_bool (by simp [okL]; omega), HB.out _⟩
      · go_enter Tryz.func37, Tryz.ntmps37
        go_wp2
        go_ret
        exact ⟨ret_bool (by simp [okL]; omega), HB.out _⟩
    · go_enter Tryz.func37, Tryz.ntmps37
      go_wp2
      go_ret
      exact ⟨ret_bool (by simp [okL]; omega), HB.out _⟩
  · go_enter Tryz.func37, Tryz.ntmps37
    go_wp2
    go_ret
    exact ⟨ret_bool (by simp [okL]; omega), HB.out _⟩

set_option maxRecDepth 100000 in
theorem withoutPerm_calls (d t p : Int) (w : World) :
    Calls Tryz.prog 38 #[.agg #[.int .i64 d, .int .i64 t, .int .i64 p]] w fun e w' => e = .returned (.agg #[.int .i64 d, .int .i64 t, .int .i64 0]) ∧ Below w.heap.size w w' := by
  have HB := hide fun o1 o2 => ((Below.refl w.heap.size w).alloc (Nat.le_refl _) o1).alloc (by simp) o2
  go_enter Tryz.func38, Tryz.ntmps38
  go_wp2
  refine bodyPost_ret (v := .agg #[.int .i64 d, .int .i64 t, .int .i64 0]) (by simp [results, Tryz.results38, go_sem]) rfl ⟨rfl, ?_⟩
  first
    | exact HB.out _ _
    | exact ((((HB.out _ _).setCell (by simp) _).setCell (by simp) _).setCell (by simp) _).setCell (by simp) _

set_option maxRecDepth 100000 in
theorem placeOf_calls (a : Option Addr) (n c : Nat) (ls : List (Int × Int × Int)) (d t : Int) (w : World) (hn : n ≤ maxLen) (hs : Sln w a n ls) :
    Calls Tryz.prog 36 #[.slice a n c, .agg #[.int .i64 d, .int .i64 t, .int .i64 0]] w fun e w' => e = .returned (.int .i64 (atK ls d t)) ∧ Below w.heap.size w w' := by
  unfold maxLen at hn
  obtain ⟨hlen, hs⟩ := hs
  have M0 := (Mm.start w).alloc3 (.int .i64 d) (.int .i64 t) (.int .i64 0) 45
  go_enter Tryz.func36, Tryz.ntmps36
  go_wp2
  go_loopw [9] (fun i wr => ∃ k : Nat, k ≤ n ∧ i = .int .i64 k ∧ Mm w wr [(w.heap.size, 0, .int .i64 d), (w.heap.size, 1, .int .i64 t), (w.heap.size, 2, .int .i64 0)] [] ∧ ∀ j, j < k → hitL d t (g3 ls j) = false) (fun i _ => n - (intOf i).toNat)
  case atStart => exact ⟨0, Nat.zero_le _, rfl, M0, fun j hj => by omega⟩
  case round =>
    clear M0
    obtain ⟨k, hk, rfl, M, hno⟩ := hrel
    by_cases hlt : k < n
    · obtain ⟨b, off, rfl, hb, hc⟩ := hs (by omega)
      obtain ⟨r0, r1, r2⟩ := cells3 hc hlt
      have p0 := (M.bel.cell (p := ⟨b, off + k * 3, none⟩) hb).trans r0
      have p1 := (M.bel.cell (p := ⟨b, off + k * 3 + 1, none⟩) hb).trans r1
      have p2 := (M.bel.cell (p := ⟨b, off + k * 3 + 2, none⟩) hb).trans r2
      clear hc r0 r1 r2
      obtain ⟨X, hX⟩ : ∃ X, X = wr.alloc (.cells #[.int .i64 (g3 ls k).1, .int .i64 (g3 ls k).2.1, .int .i64 (g3 ls k).2.2] 45) := ⟨_, rfl⟩
      have M1 := M.alloc3 (.int .i64 (g3 ls k).1) (.int .i64 (g3 ls k).2.1) (.int .i64 (g3 ls k).2.2) 45
      rw [← hX] at M1
      have q0 := M.cell 0 rfl
      have q1 := M.cell 1 rfl
      have q2 := M.cell 2 rfl
      have k1 : wr.heap.size < X.heap.size := M1.lt 0 rfl
      have k2 : w.heap.size < X.heap.size := M1.lt 3 rfl
      have i0 : (0 : Int) ≤ (k : Int) := by omega
      have i1 : (k : Int) < (n : Int) := by omega
      have HS0 : Hid (X.drew.cell? ⟨wr.heap.size, 0, none⟩ = some (.int .i64 (g3 ls k).1) ∧ X.drew.cell? ⟨wr.heap.size, 1, none⟩ = some (.int .i64 (g3 ls k).2.1) ∧ X.drew.cell? ⟨wr.heap.size, 2, none⟩ = some (.int .i64 (g3 ls k).2.2) ∧ X.drew.cell? ⟨w.heap.size, 0, none⟩ = some (.int .i64 d) ∧ X.drew.cell? ⟨w.heap.size, 1, none⟩ = some (.int .i64 t) ∧ X.drew.cell? ⟨w.heap.size, 2, none⟩ = some (.int .i64 0) ∧ Below X.heap.size X X.drew) := ⟨M1.cell 0 rfl, M1.cell 1 rfl, M1.cell 2 rfl, M1.cell 3 rfl, M1.cell 4 rfl, M1.cell 5 rfl, (Below.refl _ _).drew⟩
      have HM := hide ((M1.sub (cs' := [(w.heap.size, 0, .int .i64 d), (w.heap.size, 1, .int .i64 t), (w.heap.size, 2, .int .i64 0)]) (fun _ h => List.mem_cons_of_mem _ (List.mem_cons_of_mem _ (List.mem_cons_of_mem _ h))) (fun _ h => h)))
      have HX := hide hX
      clear M M1 hX
      by_cases h1 : (g3 ls k).1 = d
      · have e1 := eq_true h1
        by_cases h2 : (g3 ls k).2.1 = t
        · have e2 := eq_true h2
          have HR := hide (atK_hit (by omega) hno (show hitL d t (g3 ls k) = true by simp [hitL, h1, h2]))
          clear h1 h2
          go_wp2_with fail
          rw [← HX.out]
          clear p0 p1 p2 q0 q1 q2
          go_region_held2 (fun w' => w'.cell? ⟨wr.heap.size, 0, none⟩ = some (.int .i64 (g3 ls k).1) ∧ w'.cell? ⟨wr.heap.size, 1, none⟩ = some (.int .i64 (g3 ls k).2.1) ∧ w'.cell? ⟨wr.heap.size, 2, none⟩ = some (.int .i64 (g3 ls k).2.2) ∧ w'.cell? ⟨w.heap.size, 0, none⟩ = some (.int .i64 d) ∧ w'.cell? ⟨w.heap.size, 1, none⟩ = some (.int .i64 t) ∧ w'.cell? ⟨w.heap.size, 2, none⟩ = some (.int .i64 0) ∧ Below X.heap.size X w')
            (first | with_reducible exact HS0.out | with_reducible assumption)
            (first
              | (go_at_call 38; refine (withoutPerm_calls (g3 ls k).1 (g3 ls k).2.1 (g3 ls k).2.2 _).mono ?_; rintro e v1 ⟨rfl, ga⟩; have hs1 := held6 (W := X) k1 k1 k1 k2 k2 k2 (by with_reducible assumption) ga; clear ga))
          have HE := hide (HM.out.below hs1.2.2.2.2.2.2).bel
          clear hs1 HS0
          go_wp2
          go_ret
          exact ⟨ret_int HR.out.symm, HE.out⟩
        · have HN : Hid (∀ j, j < k + 1 → hitL d t (g3 ls j) = false) := fun j hj => by
            by_cases e : j = k
            · subst e; simp [hitL, h2]
            · exact hno j (by omega)
          clear h1
          go_wp2_with fail
          rw [← HX.out]
          clear p0 p1 p2 q0 q1 q2
          go_region_held2 (fun w' => w'.cell? ⟨wr.heap.size, 0, none⟩ = some (.int .i64 (g3 ls k).1) ∧ w'.cell? ⟨wr.heap.size, 1, none⟩ = some (.int .i64 (g3 ls k).2.1) ∧ w'.cell? ⟨wr.heap.size, 2, none⟩ = some (.int .i64 (g3 ls k).2.2) ∧ w'.cell? ⟨w.heap.size, 0, none⟩ = some (.int .i64 d) ∧ w'.cell? ⟨w.heap.size, 1, none⟩ = some (.int .i64 t) ∧ w'.cell? ⟨w.heap.size, 2, none⟩ = some (.int .i64 0) ∧ Below X.heap.size X w')
            (first | with_reducible exact HS0.out | with_reducible assumption)
            (first
              | (go_at_call 38; refine (withoutPerm_calls (g3 ls k).1 (g3 ls k).2.1 (g3 ls k).2.2 _).mono ?_; rintro e v1 ⟨rfl, ga⟩; have hs1 := held6 (W := X) k1 k1 k1 k2 k2 k2 (by with_reducible assumption) ga; clear ga))
          have HE := hide (HM.out.below hs1.2.2.2.2.2.2)
          clear hs1 HS0
          go_wp2
          go_roundw
          case rel => exact ⟨k + 1, by omega, by go_num, HE.out, HN.out⟩
          case measure => simp [intOf]; omega
      · have HN : Hid (∀ j, j < k + 1 → hitL d t (g3 ls j) = false) := fun j hj => by
          by_cases e : j = k
          · subst e; simp [hitL, h1]
          · exact hno j (by omega)
        go_wp2_with fail
        rw [← HX.out]
        clear p0 p1 p2 q0 q1 q2
        go_region_held2 (fun w' => w'.cell? ⟨wr.heap.size, 0, none⟩ = some (.int .i64 (g3 ls k).1) ∧ w'.cell? ⟨wr.heap.size, 1, none⟩ = some (.int .i64 (g3 ls k).2.1) ∧ w'.cell? ⟨wr.heap.size, 2, none⟩ = some (.int .i64 (g3 ls k).2.2) ∧ w'.cell? ⟨w.heap.size, 0, none⟩ = some (.int .i64 d) ∧ w'.cell? ⟨w.heap.size, 1, none⟩ = some (.int .i64 t) ∧ w'.cell? ⟨w.heap.size, 2, none⟩ = some (.int .i64 0) ∧ Below X.heap.size X w')
          (first | with_reducible exact HS0.out | with_reducible assumption)
          (first
            | (go_at_call 38; refine (withoutPerm_calls (g3 ls k).1 (g3 ls k).2.1 (g3 ls k).2.2 _).mono ?_; rintro e v1 ⟨rfl, ga⟩; have hs1 := held6 (W := X) k1 k1 k1 k2 k2 k2 (by with_reducible assumption) ga; clear ga))
        have HE := hide (HM.out.below hs1.2.2.2.2.2.2)
        clear hs1 HS0
        go_wp2
        go_roundw
        case rel => exact ⟨k + 1, by omega, by go_num, HE.out, HN.out⟩
        case measure => simp [intOf]; omega
    · have HR := hide (atK_none (ls := ls) (fun j hj => hno j (by omega)))
      have HM := hide M.bel
      clear M
      go_wp2
      go_ret
      exact ⟨ret_int HR.out.symm, HM.out⟩

set_option maxRecDepth 100000 in
set_option maxHeartbeats 1000000 in
theorem cloneL_calls (a : Option Addr) (n cap : Nat) (ls : List (Int × Int × Int)) (w : World) (hn : n ≤ 1048576) (hs : Sln w a n ls) :
    Calls Tryz.prog 40 #[.slice a n cap] w fun e w' => ∃ v, e = .returned v ∧ w'.ownsRow w.heap.size 45 3 v n (vs3 ls) ∧ Below w.heap.size w w' := by
  obtain ⟨hlen, hs⟩ := hs
  obtain ⟨i0, hi, hz0, hz1, hz2⟩ := info_parts infoLine
  have hnil := fun (u : World) (x : Option Addr) (m c : Nat) => Lib.run_eql_slice_nil (P := Tryz.prog) u 24 45 x m c 0 0 Tryz.underlying24
  have hb0 := fun o1 => (Below.refl w.heap.size w).alloc (Nat.le_refl _) o1
  by_cases hp : 0 < n
  · obtain ⟨b, off, rfl, hb, hc⟩ := hs hp
    have hown := World.ownsRow_lit (base := w.heap.size) (e := 45) (size := 3) w #[] 0 (Nat.le_refl _) (Nat.zero_le _) rfl
    have hnews := news_sln (w := w.alloc (.cells #[] 45)) (b := b) (off := off) hlen (fun i hi => ((hb0 _).cell (p := ⟨b, off + i, none⟩) hb).trans (hc i (by omega)))
    have HO := hide hown
    have HN := hide hnews
    have HL : Hid ((vs3 ls).length = n * 3) := by show _ = _; rw [length_vs3, hlen]
    have HM1 : Hid (0 + n ≤ maxLen) := by show _ ≤ _; unfold maxLen; omega
    have HM2 : Hid ((0 + n) * 24 ≤ 140737488355328) := by show _ ≤ _; omega
    have HBS : Hid (w.heap.size ≤ (w.alloc (.cells #[] 45)).heap.size) := by show _ ≤ _; simp
    clear hown hnews hs hc
    go_enter Tryz.func40, Tryz.ntmps40
    go_wp2_with (first
      | (at_builtin; refine wpList_append_own _ rfl _ _ 24 rfl w.heap.size 45 i0 (.agg #[.int .i64 0, .int .i64 0, .int .i64 0]) 3 24 Tryz.underlying24 hi hz0 hz1 hz2 rfl (by decide) _ 0 [] rfl HO.out ⟨b, off, none⟩ n cap (vs3 ls) rfl HL.out HN.out ints_one HM1.out HM2.out HBS.out ?_)
      | go_in)
    intro v' w1 hown' hgrow _
    have hown2 : w1.ownsRow w.heap.size 45 3 v' n (vs3 ls) := by simpa using hown'
    have h1 : Below w.heap.size w w1 := (hb0 _).grown hgrow (by simp) (fun k hk => by simp [Value.ownBlock] at hk; omega)
    have HFR := hide hown2
    have HB1 := hide h1
    clear HO HN hown' hown2 hgrow hb0 h1
    go_wp2
    go_ret
    exact ⟨_, rfl, HFR.out, HB1.out⟩
  · have h0 : n = 0 := by omega
    subst h0
    have hl0 : ls = [] := List.length_eq_zero_iff.1 hlen
    subst hl0
    cases a
    · go_enter Tryz.func40, Tryz.ntmps40
      go_wp2
      go_ret
      exact ⟨_, rfl, World.ownsRow_nil _ _ _ _, Below.refl _ _⟩
    · have HO := hide (World.ownsRow_lit (base := w.heap.size) (e := 45) (size := 3) w #[] 0 (Nat.le_refl _) (Nat.zero_le _) rfl)
      go_enter Tryz.func40, Tryz.ntmps40
      go_wp2
      go_ret
      exact ⟨_, rfl, HO.out, hb0 _⟩

set_option maxRecDepth 100000 in
theorem l4Bad_calls (c : Int) (w : World) :
    Calls Tryz.prog 28 #[.int .i64 c] w fun e w' => e = .returned (.agg #[.int .i64 c, .int .i64 0, .int .i64 0, .slice none 0 0]) ∧ Below w.heap.size w w' := by
  have HB := hide fun o => (Below.refl w.heap.size w).alloc (Nat.le_refl _) o
  go_enter Tryz.func28, Tryz.ntmps28
  go_wp2
  refine bodyPost_ret (v := .agg #[.int .i64 c, .int .i64 0, .int .i64 0, .slice none 0 0]) (by simp [results, Tryz.results28, go_sem]) rfl ⟨rfl, ?_⟩
  first
    | exact HB.out _
    | exact ((((HB.out _).setCell (by simp) _).setCell (by simp) _).setCell (by simp) _).setCell (by simp) _

set_option maxRecDepth 100000 in
theorem remembered_calls (s : Int) (a : Option Addr) (n c : Nat) (w : World) :
    Calls Tryz.prog 19 #[.int .i64 s, .slice a n c] w fun e w' => e = .returned (.agg #[.int .i64 0, .int .i64 n, .int .i64 s, .slice a n c]) ∧ Below w.heap.size w w' := by
  have HB := hide fun o => (Below.refl w.heap.size w).alloc (Nat.le_refl _) o
  go_enter Tryz.func19, Tryz.ntmps19
  go_wp2
  refine bodyPost_ret (v := .agg #[.int .i64 0, .int .i64 n, .int .i64 s, .slice a n c]) (by simp [results, Tryz.results19, go_sem]) rfl ⟨rfl, ?_⟩
  first
    | exact HB.out _
    | exact ((((HB.out _).setCell (by simp) _).setCell (by simp) _).setCell (by simp) _).setCell (by simp) _

theorem own_lit0 (X : World) (T : TypeId) {B : Nat} (h : B ≤ X.heap.size) : (X.alloc (.cells #[] T)).ownsRow B T 3 (.slice (some ⟨X.heap.size, 0, none⟩) 0 0) 0 [] :=
  ⟨rfl, .inr ⟨X.heap.size, 0, #[], rfl, h, heap_alloc_new X _, Nat.le_refl _, Nat.zero_le _, rfl, rfl⟩⟩

theorem own_drew {w : World} {B n : Nat} {e : TypeId} {v : Value} {xs : List Value} (h : w.ownsRow B e 3 v n xs) : w.drew.ownsRow B e 3 v n xs := h

theorem grow_far {X w1 : World} {row : Option Nat} (hg : X.grownBy w1 row) {b o : Nat} {v : Value} (hb : b < X.heap.size) (hne : some b ≠ row) (hc : X.cell? ⟨b, o, none⟩ = some v) (hf : X.frozen? ⟨b, o, none⟩ = false) : w1.cell? ⟨b, o, none⟩ = some v ∧ w1.frozen? ⟨b, o, none⟩ = false :=
  ⟨(World.cell?_of_block (a := ⟨b, o, none⟩) (hg.block b hb hne)).trans hc, (World.frozen?_of_block (a := ⟨b, o, none⟩) (hg.block b hb hne)).trans hf⟩

theorem own_set_below {w : World} {B n P o : Nat} {e : TypeId} {v : Value} {xs : List Value} (h : w.ownsRow B e 3 v n xs) (hP : P < B) (u : Value) : (w.setCell ⟨P, o, none⟩ u).ownsRow B e 3 v n xs := ownsRow_setCell_below h (by exact hP) u

set_option maxRecDepth 100000 in
set_option maxHeartbeats 1000000 in
theorem l4Copy_R (s : Int) (a : Option Addr) (n c : Nat) (ls : List (Int × Int × Int)) (w : World) (hn : n ≤ 1048576) (hs : Sln w a n ls) :
    Calls Tryz.prog 29 #[.agg #[.int .i64 s, .slice a n c]] w fun e w' => ∃ ra rc, e = .returned (.agg #[.int .i64 s, .slice ra n rc]) ∧ w'.ownsRow w.heap.size 45 3 (.slice ra n rc) n (vs3 ls) ∧ Below w.heap.size w w' := by
  obtain ⟨hlen, hs⟩ := hs
  obtain ⟨i0, hi, hz0, hz1, hz2⟩ := info_parts infoLine
  have M0 := ((Mm.start w).alloc2 (.int .i64 s) (.slice a n c) 26).alloc2 (.int .i64 0) (.slice none 0 0) 26
  try simp only [World.size_alloc] at M0
  have HO := hide (own_drew (own_lit0 (((w.alloc (.cells #[.int .i64 s, .slice a n c] 26)).alloc (.cells #[.int .i64 0, .slice none 0 0] 26))) 45 (B := w.heap.size + 1 + 1) (by simp)))
  simp only [World.size_alloc] at HO
  by_cases hp : 0 < n
  · obtain ⟨b, off, rfl, hb, hc⟩ := hs hp
    have M1 := M0.below ((Below.refl _ _).alloc (Nat.le_refl _) (.cells #[] 45))
    have HN := hide (news_sln (w := (((w.alloc (.cells #[.int .i64 s, .slice (some ⟨b, off, none⟩) n c] 26)).alloc (.cells #[.int .i64 0, .slice none 0 0] 26)).alloc (.cells #[] 45)).drew) (b := b) (off := off) hlen (fun i hi => (M1.bel.cell (p := ⟨b, off + i, none⟩) hb).trans (hc i hi)))
    have HL : Hid ((vs3 ls).length = n * 3) := by show _ = _; rw [length_vs3, hlen]
    have HM := hide M1.drew
    clear M0 M1 hs hc
    go_enter Tryz.func29, Tryz.ntmps29
    go_wp2_with fail
    go_region_law (refine step_append_lies _ rfl _ _ 24 rfl (w.heap.size + 1 + 1) 45 i0 (.agg #[.int .i64 0, .int .i64 0, .int .i64 0]) 3 24 Tryz.underlying24 hi hz0 hz1 hz2 rfl (by decide) (.slice (some ⟨w.heap.size + 1 + 1, 0, none⟩) 0 0) 0 [] rfl HO.out ⟨b, off, none⟩ n c (vs3 ls) rfl HL.out HN.out ints_one hp (by unfold maxLen; omega) (by omega) (by simp) (w.heap.size + 1 + 1 + 1) (by simp) ?_; intro g cp w1 hown1 hgrow hat hlt1; simp only [Nat.zero_add, List.nil_append] at hown1 ⊢; obtain ⟨c0, f0⟩ := grow_far hgrow (b := w.heap.size + 1) (o := 0) (by simp) (by simp [Value.ownBlock]) (HM.out.cell 0 rfl) (HM.out.fz 0 rfl); obtain ⟨c1, f1⟩ := grow_far hgrow (b := w.heap.size + 1) (o := 1) (by simp) (by simp [Value.ownBlock]) (HM.out.cell 1 rfl) (HM.out.fz 1 rfl); have c2 := (grow_far hgrow (b := w.heap.size) (o := 0) (by simp; omega) (by simp [Value.ownBlock]; omega) (HM.out.cell 2 rfl) (HM.out.fz 2 rfl)).1; have HB := hide (HM.out.bel.grown hgrow (by simp; omega) (fun k hk => by simp [Value.ownBlock] at hk; omega)); have HW := hide hown1; clear hown1 hgrow hat hlt1)
    all_goals (
      go_wp2
      refine bodyPost_ret (v := .agg #[.int .i64 s, .slice (some ⟨g, 0, none⟩) n cp]) (by simp [results, Tryz.results29, go_sem, c0, c1]) rfl ⟨_, _, rfl, ?_, ?_⟩
      · exact own_mono (own_set_below (own_set_below HW.out (by omega) _) (by omega) _) (by omega)
      · exact (HB.out.setCell (by simp) _).setCell (by simp) _)
  · have h0 : n = 0 := by omega
    subst h0
    have hl0 : ls = [] := List.length_eq_zero_iff.1 hlen
    subst hl0
    have HE : Hid (∀ o1 o2 : Obj, (((w.alloc o1).alloc o2).alloc (.cells #[] 45)).drew.ownsRow w.heap.size 45 3 (.slice (some ⟨w.heap.size + 1 + 1, 0, none⟩) 0 0) 0 []) := fun o1 o2 => by
      have h := own_lit0 ((w.alloc o1).alloc o2) 45 (B := w.heap.size) (by simp; omega)
      simp only [World.size_alloc] at h
      exact own_drew h
    have HB := hide fun o1 o2 o3 => ((((Below.refl w.heap.size w).alloc (Nat.le_refl _) o1).alloc (by simp) o2).alloc (by simp; omega) o3).drew
    clear M0
    cases a
    all_goals (
      go_enter Tryz.func29, Tryz.ntmps29
      go_wp2_with fail
      go_region
      all_goals (
        go_wp2
        exact bodyPost_ret (v := .agg #[.int .i64 s, .slice (some ⟨w.heap.size + 1 + 1, 0, none⟩) 0 0]) (by simp [results, Tryz.results29, go_sem]) rfl ⟨_, _, rfl, HE.out _ _, HB.out _ _ _⟩))

end Go.Proofs.YtnibngigbcakkaaGreat
