import Derived.Test.YtnlkigjgloeonaaGreatChFT
import Derived.WalkKit
import Derived.ProofKit
import Derived.OpenShut
import Derived.ShutString
import Derived.ChangeOld
import Derived.Below
import Derived.WalkSpells
import Derived.Deep.QuietTactic
import Derived.BigQuiet
import Derived.Deep.RegionWith
import Derived.Deep.WholeRow
import Derived.Deep.DeepCutAuto
import Derived.Deep.RegionHeld2
import Derived.Deep.AppendLies
import Derived.Deep.RegionLaw
namespace Go.Proofs.YtnlkigjgloeonaaGreat
open Go.ChangeShapes Go.WideShapes Go.ChangeAt Go.RowKit

set_option maxRecDepth 100000 in
theorem isInBounds_calls (d t p : Int) (w : World) :
    Calls Tryz.prog 127 #[.agg #[.int .i64 d, .int .i64 t, .int .i64 p]] w fun e w' => e = .returned (.bool (okL (d, t, p))) ∧ Below w.heap.size w w' := by
  have HB := hide fun o => (Below.refl w.heap.size w).alloc (Nat.le_refl _) o
  by_cases h1 : 0 ≤ d
  · by_cases h2 : d < 4
    · by_cases h3 : 0 ≤ t
      · by_cases h4 : t ≤ 6
        · by_cases h5 : 0 ≤ p
          · by_cases h6 : p ≤ 7
            all_goals
              go_enter Tryz.func127, Tryz.ntmps127
              go_wp2
              go_ret
              exact ⟨ret_bool (by simp [okL]; omega), HB.out _⟩
          · go_enter Tryz.func127, Tryz.ntmps127
            go_wp2
            go_ret
            exact ⟨ret_bool (by simp [okL]; omega), HB.out _⟩
        · go_enter Tryz.func127, Tryz.ntmps127
          go_wp2
          go_ret
          exact ⟨ret_bool (by simp [okL]; omega), HB.out _⟩
      · go_enter Tryz.func127, Tryz.ntmps127
        go_wp2
        go_ret
        exact ⟨ret_bool (by simp [okL]; omega), HB.out _⟩
    · go_enter Tryz.func127, Tryz.ntmps127
      go_wp2
      go_ret
      exact ⟨ret_bool (by simp [okL]; omega), HB.out _⟩
  · go_enter Tryz.func127, Tryz.ntmps127
    go_wp2
    go_ret
    exact ⟨ret_bool (by simp [okL]; omega), HB.out _⟩

set_option maxRecDepth 100000 in
theorem withoutPerm_calls (d t p : Int) (w : World) :
    Calls Tryz.prog 129 #[.agg #[.int .i64 d, .int .i64 t, .int .i64 p]] w fun e w' => e = .returned (.agg #[.int .i64 d, .int .i64 t, .int .i64 0]) ∧ Below w.heap.size w w' := by
  have HB := hide fun o1 o2 => ((Below.refl w.heap.size w).alloc (Nat.le_refl _) o1).alloc (by simp) o2
  go_enter Tryz.func129, Tryz.ntmps129
  go_wp2
  refine bodyPost_ret (v := .agg #[.int .i64 d, .int .i64 t, .int .i64 0]) (by simp [results, Tryz.results129, go_sem]) rfl ⟨rfl, ?_⟩
  first
    | exact HB.out _ _
    | exact ((((HB.out _ _).setCell (by simp) _).setCell (by simp) _).setCell (by simp) _).setCell (by simp) _

set_option maxRecDepth 100000 in
theorem placeOf_calls (a : Option Addr) (n c : Nat) (ls : List (Int × Int × Int)) (d t : Int) (w : World) (hn : n ≤ maxLen) (hs : Sln w a n ls) :
    Calls Tryz.prog 128 #[.slice a n c, .agg #[.int .i64 d, .int .i64 t, .int .i64 0]] w fun e w' => e = .returned (.int .i64 (atK ls d t)) ∧ Below w.heap.size w w' := by
  unfold maxLen at hn
  obtain ⟨hlen, hs⟩ := hs
  have M0 := (Mm.start w).alloc3 (.int .i64 d) (.int .i64 t) (.int .i64 0) 193
  go_enter Tryz.func128, Tryz.ntmps128
  go_wp2
  go_loopw [9] (fun i wr => ∃ k : Nat, k ≤ n ∧ i = .int .i64 k ∧ Mm w wr [(w.heap.size, 0, .int .i64 d), (w.heap.size, 1, .int .i64 t), (w.heap.size, 2, .int .i64 0)] [] ∧ ∀ j, j < k → hitL d t (g3 ls j) = false) (fun i _ => n - (intOf i).toNat)
  case atStart => exact ⟨0, Nat.zero_le _, rfl, M0, fun j hj => by omega⟩
  case round =>
    clear M0
    obtain ⟨k, hk, rfl, M, hno⟩ := hrel
    by_cases hlt : k < n
    · obtain ⟨b, off, rfl, hb, hc⟩ := hs (by omega)
      obtain ⟨r0, r1, r2⟩ := cells3 hc hlt
      have p0 := (M.bel.cell (p := ⟨b, off + k * 3, none⟩) hb).trans r0
      have p1 := (M.bel.cell (p := ⟨b, off + k * 3 + 1, none⟩) hb).trans r1
      have p2 := (M.bel.cell (p := ⟨b, off + k * 3 + 2, none⟩) hb).trans r2
      clear hc r0 r1 r2
      obtain ⟨X, hX⟩ : ∃ X, X = wr.alloc (.cells #[.int .i64 (g3 ls k).1, .int .i64 (g3 ls k).2.1, .int .i64 (g3 ls k).2.2] 193) := ⟨_, rfl⟩
      have M1 := M.alloc3 (.int .i64 (g3 ls k).1) (.int .i64 (g3 ls k).2.1) (.int .i64 (g3 ls k).2.2) 193
      rw [← hX] at M1
      have q0 := M.cell 0 rfl
      have q1 := M.cell 1 rfl
      have q2 := M.cell 2 rfl
      have k1 : wr.heap.size < X.heap.size := M1.lt 0 rfl
      have k2 : w.heap.size < X.heap.size := M1.lt 3 rfl
      have i0 : (0 : Int) ≤ (k : Int) := by omega
      have i1 : (k : Int) < (n : Int) := by omega
      have HS0 : Hid (X.drew.cell? ⟨wr.heap.size, 0, none⟩ = some (.int .i64 (g3 ls k).1) ∧ X.drew.cell? ⟨wr.heap.size, 1, none⟩ = some (.int .i64 (g3 ls k).2.1) ∧ X.drew.cell? ⟨wr.heap.size, 2, none⟩ = some (.int .i64 (g3 ls k).2.2) ∧ X.drew.cell? ⟨w.heap.size, 0, none⟩ = some (.int .i64 d) ∧ X.drew.cell? ⟨w.heap.size, 1, none⟩ = some (.int .i64 t) ∧ X.drew.cell? ⟨w.heap.size, 2, none⟩ = some (.int .i64 0) ∧ Below X.heap.size X X.drew) := ⟨M1.cell 0 rfl, M1.cell 1 rfl, M1.cell 2 rfl, M1.cell 3 rfl, M1.cell 4 rfl, M1.cell 5 rfl, (Below.refl _ _).drew⟩
      have HM := hide ((M1.sub (cs' := [(w.heap.size, 0, .int .i64 d), (w.heap.size, 1, .int .i64 t), (w.heap.size, 2, .int .i64 0)]) (fun _ h => List.mem_cons_of_mem _ (List.mem_cons_of_mem _ (List.mem_cons_of_mem _ h))) (fun _ h => h)))
      have HX := hide hX
      clear M M1 hX
      by_cases h1 : (g3 ls k).1 = d
      · have e1 := eq_true h1
        by_cases h2 : (g3 ls k).2.1 = t
        · have e2 := eq_true h2
          have HR := hide (atK_hit (by omega) hno (show hitL d t (g3 ls k) = true by simp [hitL, h1, h2]))
          clear h1 h2
          go_wp2_with fail
          rw [← HX.out]
          clear p0 p1 p2 q0 q1 q2
          go_region_held2 (fun w' => w'.cell? ⟨wr.heap.size, 0, none⟩ = some (.int .i64 (g3 ls k).1) ∧ w'.cell? ⟨wr.heap.size, 1, none⟩ = some (.int .i64 (g3 ls k).2.1) ∧ w'.cell? ⟨wr.heap.size, 2, none⟩ = some (.int .i64 (g3 ls k).2.2) ∧ w'.cell? ⟨w.heap.size, 0, none⟩ = some (.int .i64 d) ∧ w'.cell? ⟨w.heap.size, 1, none⟩ = some (.int .i64 t) ∧ w'.cell? ⟨w.heap.size, 2, none⟩ = some (.int .i64 0) ∧ Below X.heap.size X w')
            (first | with_reducible exact HS0.out | with_reducible assumption)
            (first
              | (go_at_call 129; refine (withoutPerm_calls (g3 ls k).1 (g3 ls k).2.1 (g3 ls k).2.2 _).mono ?_; rintro e v1 ⟨rfl, ga⟩; have hs1 := held6 (W := X) k1 k1 k1 k2 k2 k2 (by with_reducible assumption) ga; clear ga))
          have HE := hide (HM.out.below hs1.2.2.2.2.2.2).bel
          clear hs1 HS0
          go_wp2
          go_ret
          exact ⟨ret_int HR.out.symm, HE.out⟩
        · have HN : Hid (∀ j, j < k + 1 → hitL d t (g3 ls j) = false) := fun j hj => by
            by_cases e : j = k
            · subst e; simp [hitL, h2]
            · exact hno j (by omega)
          clear h1
          go_wp2_with fail
          rw [← HX.out]
          clear p0 p1 p2 q0 q1 q2
          go_region_held2 (fun w' => w'.cell? ⟨wr.heap.size, 0, none⟩ = some (.int .i64 (g3 ls k).1) ∧ w'.cell? ⟨wr.heap.size, 1, none⟩ = some (.int .i64 (g3 ls k).2.1) ∧ w'.cell? ⟨wr.heap.size, 2, none⟩ = some (.int .i64 (g3 ls k).2.2) ∧ w'.cell? ⟨w.heap.size, 0, none⟩ = some (.int .i64 d) ∧ w'.cell? ⟨w.heap.size, 1, none⟩ = some (.int .i64 t) ∧ w'.cell? ⟨w.heap.size, 2, none⟩ = some (.int .i64 0) ∧ Below X.heap.size X w')
            (first | with_reducible exact HS0.out | with_reducible assumption)
            (first
              | (go_at_call 129; refine (withoutPerm_calls (g3 ls k).1 (g3 ls k).2.1 (g3 ls k).2.2 _).mono ?_; rintro e v1 ⟨rfl, ga⟩; have hs1 := held6 (W := X) k1 k1 k1 k2 k2 k2 (by with_reducible assumption) ga; clear ga))
          have HE := hide (HM.out.below hs1.2.2.2.2.2.2)
          clear hs1 HS0
          go_wp2
          go_roundw
          case rel => exact ⟨k + 1, by omega, by go_num, HE.out, HN.out⟩
          case measure => simp [intOf]; omega
      · have HN : Hid (∀ j, j < k + 1 → hitL d t (g3 ls j) = false) := fun j hj => by
          by_cases e : j = k
          · subst e; simp [hitL, h1]
          · exact hno j (by omega)
        go_wp2_with fail
        rw [← HX.out]
        clear p0 p1 p2 q0 q1 q2
        go_region_held2 (fun w' => w'.cell? ⟨wr.heap.size, 0, none⟩ = some (.int .i64 (g3 ls k).1) ∧ w'.cell? ⟨wr.heap.size, 1, none⟩ = some (.int .i64 (g3 ls k).2.1) ∧ w'.cell? ⟨wr.heap.size, 2, none⟩ = some (.int .i64 (g3 ls k).2.2) ∧ w'.cell? ⟨w.heap.size, 0, none⟩ = some (.int .i64 d) ∧ w'.cell? ⟨w.heap.size, 1, none⟩ = some (.int .i64 t) ∧ w'.cell? ⟨w.heap.size, 2, none⟩ = some (.int .i64 0) ∧ Below X.heap.size X w')
          (first | with_reducible exact HS0.out | with_reducible assumption)
          (first
            | (go_at_call 129; refine (withoutPerm_calls (g3 ls k).1 (g3 ls k).2.1 (g3 ls k).2.2 _).mono ?_; rintro e v1 ⟨rfl, ga⟩; have hs1 := held6 (W := X) k1 k1 k1 k2 k2 k2 (by with_reducible assumption) ga; clear ga))
        have HE := hide (HM.out.below hs1.2.2.2.2.2.2)
        clear hs1 HS0
        go_wp2
        go_roundw
        case rel => exact ⟨k + 1, by omega, by go_num, HE.out, HN.out⟩
        case measure => simp [intOf]; omega
    · have HR := hide (atK_none (ls := ls) (fun j hj => hno j (by omega)))
      have HM := hide M.bel
      clear M
      go_wp2
      go_ret
      exact ⟨ret_int HR.out.symm, HM.out⟩

end Go.Proofs.YtnlkigjgloeonaaGreat
