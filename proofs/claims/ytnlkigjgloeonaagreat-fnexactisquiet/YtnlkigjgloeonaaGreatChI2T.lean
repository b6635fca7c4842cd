import Derived.Test.YtnlkigjgloeonaaGreatChIT
import Derived.WalkKit
import Derived.ProofKit
import Derived.OpenShut
import Derived.ShutString
import Derived.ChangeOld
import Derived.Below
import Derived.WalkSpells
import Derived.Deep.QuietTactic
import Derived.BigQuiet
import Derived.Deep.RegionWith
import Derived.Deep.WholeRow
import Derived.Deep.DeepCutAuto
import Derived.Deep.RegionHeld2
import Derived.Deep.AppendLies
import Derived.Deep.RegionLaw
namespace Go.Proofs.YtnlkigjgloeonaaGreat
open Go.ChangeShapes Go.WideShapes Go.ChangeAt Go.RowKit

set_option maxRecDepth 100000 in
set_option maxHeartbeats 1000000 in
theorem implCacheFault_calls (s : Int) (a : Option Addr) (n c : Nat) (ls : List (Int × Int × Int)) (w : World) (hn : n ≤ maxLen) (hnc : n ≤ c) (hs : Sln w a n ls) :
    Calls Tryz.prog 86 #[.agg #[.int .i64 s, .slice a n c]] w fun e w' => e = .returned (.int .i64 (faultC s ls)) ∧ Below w.heap.size w w' := by
  unfold maxLen at hn
  have hlen := hs.1
  have M0 := (Mm.start w).alloc2 (.int .i64 s) (.slice a n c) 59
  have HB0 := hide M0.bel
  by_cases h1 : 0 ≤ s
  rotate_left
  · have HR := hide (faultC_size (s := s) (ls := ls) (by simp; omega))
    clear M0
    go_enter Tryz.func86, Tryz.ntmps86
    go_wp2
    go_ret
    exact ⟨ret_int HR.out.symm, HB0.out⟩
  by_cases h2 : s ≤ 6
  rotate_left
  · have HR := hide (faultC_size (s := s) (ls := ls) (by simp; omega))
    have h2' : 6 < s := by omega
    clear M0
    go_enter Tryz.func86, Tryz.ntmps86
    go_wp2
    go_ret
    exact ⟨ret_int HR.out.symm, HB0.out⟩
  have h12 : (decide (0 ≤ s) && decide (s ≤ 6)) = true := by simp [h1, h2]
  have HH1 := hide h12
  clear h12
  by_cases h3 : s < (n : Int)
  · have HR := hide (faultC_many (ls := ls) HH1.out (by omega))
    clear M0
    go_enter Tryz.func86, Tryz.ntmps86
    go_wp2
    go_ret
    exact ⟨ret_int HR.out.symm, HB0.out⟩
  go_enter Tryz.func86, Tryz.ntmps86
  go_wp2
  go_loopw [22] (fun i wr => ∃ k : Nat, k ≤ n ∧ i = .int .i64 k ∧ Mm w wr [(w.heap.size, 0, .int .i64 s), (w.heap.size, 1, .slice a n c)] [] ∧ ∀ j, j < k → lineF ls j = 0) (fun i _ => n - (intOf i).toNat)
  case atStart => exact ⟨0, Nat.zero_le _, rfl, M0, fun j hj => by omega⟩
  case round =>
    clear M0 HB0
    obtain ⟨k, hk, rfl, M, hno⟩ := hrel
    by_cases hlt : k < n
    · have HSR := hide (hs.below M.bel (Nat.le_refl _))
      obtain ⟨_, hs'⟩ := hs
      obtain ⟨b, off, rfl, hb, hc⟩ := hs' (by omega)
      obtain ⟨r0, r1, r2⟩ := cells3 hc hlt
      have p0 := (M.bel.cell (p := ⟨b, off + k * 3, none⟩) hb).trans r0
      have p1 := (M.bel.cell (p := ⟨b, off + k * 3 + 1, none⟩) hb).trans r1
      have p2 := (M.bel.cell (p := ⟨b, off + k * 3 + 2, none⟩) hb).trans r2
      clear hc r0 r1 r2
      have M1 := M.alloc3 (.int .i64 (g3 ls k).1) (.int .i64 (g3 ls k).2.1) (.int .i64 (g3 ls k).2.2) 193
      have HS1 := hide (HSR.out.below ((Below.refl wr.heap.size wr).alloc (Nat.le_refl _) (.cells #[.int .i64 (g3 ls k).1, .int .i64 (g3 ls k).2.1, .int .i64 (g3 ls k).2.2] 193)) (Nat.le_refl _))
      clear M
      cases hok : okL (g3 ls k) with
      | false =>
        have HR := hide (faultC_at (c := 3) HH1.out (by omega) (by omega) hno (lineF_range hok) (by omega))
        go_wp2_with fail
        refine (isInBounds_calls (g3 ls k).1 (g3 ls k).2.1 (g3 ls k).2.2 _).mono ?_
        rintro e w2 ⟨rfl, g2⟩
        have hok' : okL ((g3 ls k).1, (g3 ls k).2.1, (g3 ls k).2.2) = false := hok
        rw [hok']
        have HB := hide (M1.below g2).bel
        clear g2 hok hok' p0 p1 p2 M1
        go_wp2
        go_ret
        exact ⟨ret_int HR.out.symm, HB.out⟩
      | true =>
        go_wp2_with fail
        refine (isInBounds_calls (g3 ls k).1 (g3 ls k).2.1 (g3 ls k).2.2 _).mono ?_
        rintro e w2 ⟨rfl, g2⟩
        have hok' : okL ((g3 ls k).1, (g3 ls k).2.1, (g3 ls k).2.2) = true := hok
        rw [hok']
        have M2 := M1.below g2
        have HS2 := hide ((HS1.out.below g2 (Nat.le_refl _)).take (Nat.le_of_lt hlt))
        have k1 : wr.heap.size < w2.heap.size := M2.lt 0 rfl
        have k2 : w.heap.size < w2.heap.size := M2.lt 3 rfl
        have q1 := M2.cell 4 rfl
        have HOK := hide hok
        have i0 : (0 : Int) ≤ (k : Int) := by omega
        have i1 : (k : Int) ≤ (c : Int) := by omega
        have i2 : k ≤ c := by omega
        have HS0 : Hid (w2.drew.cell? ⟨wr.heap.size, 0, none⟩ = some (.int .i64 (g3 ls k).1) ∧ w2.drew.cell? ⟨wr.heap.size, 1, none⟩ = some (.int .i64 (g3 ls k).2.1) ∧ w2.drew.cell? ⟨wr.heap.size, 2, none⟩ = some (.int .i64 (g3 ls k).2.2) ∧ w2.drew.cell? ⟨w.heap.size, 1, none⟩ = some (.slice (some ⟨b, off, none⟩) n c) ∧ Below w2.heap.size w2 w2.drew) := ⟨M2.cell 0 rfl, M2.cell 1 rfl, M2.cell 2 rfl, M2.cell 4 rfl, (Below.refl _ _).drew⟩
        have HM := hide ((M2.sub (cs' := [(w.heap.size, 0, .int .i64 s), (w.heap.size, 1, .slice (some ⟨b, off, none⟩) n c)]) (fun _ h => List.mem_cons_of_mem _ (List.mem_cons_of_mem _ (List.mem_cons_of_mem _ h))) (fun _ h => h)))
        by_cases hat : atK (ls.take k) (g3 ls k).1 (g3 ls k).2.1 < 0
        · have hge : ¬ (0 ≤ atK (ls.take k) (g3 ls k).1 (g3 ls k).2.1) := by omega
          have HN : Hid (∀ j, j < k + 1 → lineF ls j = 0) := fun j hj => by
            by_cases e : j = k
            · subst e; exact lineF_ok HOK.out ((atK_take (by omega)).1 hat)
            · exact hno j (by omega)
          clear hat g2 hok hok' p0 p1 p2 hno M1 M2
          go_wp2_with fail
          clear q1
          go_region_held2 (fun w' => w'.cell? ⟨wr.heap.size, 0, none⟩ = some (.int .i64 (g3 ls k).1) ∧ w'.cell? ⟨wr.heap.size, 1, none⟩ = some (.int .i64 (g3 ls k).2.1) ∧ w'.cell? ⟨wr.heap.size, 2, none⟩ = some (.int .i64 (g3 ls k).2.2) ∧ w'.cell? ⟨w.heap.size, 1, none⟩ = some (.slice (some ⟨b, off, none⟩) n c) ∧ Below w2.heap.size w2 w')
              (first | with_reducible exact HS0.out | with_reducible assumption)
              (first
                | (go_at_call 129; refine (withoutPerm_calls (g3 ls k).1 (g3 ls k).2.1 (g3 ls k).2.2 _).mono ?_; rintro e v1 ⟨rfl, ga⟩; have hs1 := held4 (W := w2) k1 k1 k1 k2 (by with_reducible assumption) ga; clear ga)
                | (go_at_call 128; refine (placeOf_calls _ k c (ls.take k) _ _ _ (by unfold maxLen; omega) ?_).mono ?_; exact HS2.out.below (And.right (And.right (And.right (And.right (by with_reducible assumption))))) (Nat.le_refl _); rintro e v2 ⟨rfl, gb⟩; have hs2 := held4 (W := w2) k1 k1 k1 k2 (by with_reducible assumption) gb; clear gb))
          have HE := hide (HM.out.below hs2.2.2.2.2)
          clear hs1 hs2 HS0
          go_wp2
          go_roundw
          case rel => exact ⟨k + 1, by omega, by go_num, HE.out, HN.out⟩
          case measure => simp [intOf]; omega
        · have hge : 0 ≤ atK (ls.take k) (g3 ls k).1 (g3 ls k).2.1 := by omega
          have HR := hide (faultC_at (c := 8) HH1.out (by omega) (by omega) hno (lineF_state HOK.out (fun e => hat ((atK_take (by omega)).2 e))) (by omega))
          clear hat g2 hok hok' p0 p1 p2 hno M1 M2
          go_wp2_with fail
          clear q1
          go_region_held2 (fun w' => w'.cell? ⟨wr.heap.size, 0, none⟩ = some (.int .i64 (g3 ls k).1) ∧ w'.cell? ⟨wr.heap.size, 1, none⟩ = some (.int .i64 (g3 ls k).2.1) ∧ w'.cell? ⟨wr.heap.size, 2, none⟩ = some (.int .i64 (g3 ls k).2.2) ∧ w'.cell? ⟨w.heap.size, 1, none⟩ = some (.slice (some ⟨b, off, none⟩) n c) ∧ Below w2.heap.size w2 w')
              (first | with_reducible exact HS0.out | with_reducible assumption)
              (first
                | (go_at_call 129; refine (withoutPerm_calls (g3 ls k).1 (g3 ls k).2.1 (g3 ls k).2.2 _).mono ?_; rintro e v1 ⟨rfl, ga⟩; have hs1 := held4 (W := w2) k1 k1 k1 k2 (by with_reducible assumption) ga; clear ga)
                | (go_at_call 128; refine (placeOf_calls _ k c (ls.take k) _ _ _ (by unfold maxLen; omega) ?_).mono ?_; exact HS2.out.below (And.right (And.right (And.right (And.right (by with_reducible assumption))))) (Nat.le_refl _); rintro e v2 ⟨rfl, gb⟩; have hs2 := held4 (W := w2) k1 k1 k1 k2 (by with_reducible assumption) gb; clear gb))
          have HE := hide (HM.out.below hs2.2.2.2.2).bel
          clear hs1 hs2 HS0
          go_wp2
          go_ret
          exact ⟨ret_int HR.out.symm, HE.out⟩
    · have HR := hide (faultC_ok HH1.out (by omega) (fun j hj => hno j (by omega)))
      have HM := hide M.bel
      clear M
      go_wp2
      go_ret
      exact ⟨ret_int HR.out.symm, HM.out⟩

end Go.Proofs.YtnlkigjgloeonaaGreat
