import Derived.Test.YtnlkigjgloeonaaGreatLnLT
import Derived.Test.YtnlkigjgloeonaaGreatChPT
import Derived.WalkKit
import Derived.ProofKit
import Derived.OpenShut
import Derived.ShutString
import Derived.ChangeOld
import Derived.Below
import Derived.WalkSpells
import Derived.Deep.QuietTactic
import Derived.BigQuiet
import Derived.Deep.RegionWith
import Derived.Deep.WholeRow
import Derived.Deep.DeepCutAuto
import Derived.Deep.RegionHeld2
import Derived.Deep.AppendLies
import Derived.Deep.RegionLaw
namespace Go.Proofs.YtnlkigjgloeonaaGreat
open Go.ChangeShapes Go.WideShapes Go.ChangeAt Go.RowKit

set_option maxRecDepth 100000 in
theorem l4Line_calls (b o : Nat) (d t p : Int) (w : World) (c0 : w.cell? ⟨b, o, none⟩ = some (.int .i64 d)) (c1 : w.cell? ⟨b, o + 1, none⟩ = some (.int .i64 t)) (c2 : w.cell? ⟨b, o + 2, none⟩ = some (.int .i64 p)) :
    Calls Tryz.prog 119 #[.pointer (some ⟨b, o, none⟩)] w fun e w' => e = .returned (.bool (okL (d, t, p))) ∧ Below w.heap.size w w' := by
  have hb : b < w.heap.size := World.block_lt_of_cell? _ _ c0
  by_cases h1 : (decide (0 ≤ d) && decide (d ≤ 3)) = true
  · by_cases h2 : (decide (0 ≤ t) && decide (t ≤ 6)) = true
    · have HR : Hid (okL (d, t, p) = (decide (0 ≤ p) && decide (p ≤ 7))) := by show okL _ = _; simp [okL, h1, h2]
      go_enter Tryz.func119, Tryz.ntmps119
      go_wp2_with fail
      refine (in_calls d 0 3 _).mono ?_
      rintro e w1 ⟨rfl, g1⟩
      rw [h1]
      have c1' := (g1.cell (p := ⟨b, o + 1, none⟩) hb).trans c1
      have c2' := (g1.cell (p := ⟨b, o + 2, none⟩) hb).trans c2
      clear c0 c1 c2
      go_wp2_with fail
      refine (in_calls t 0 6 _).mono ?_
      rintro e w2 ⟨rfl, g2⟩
      rw [h2]
      have g3 := g1.trans (g2.mono g1.size)
      have c2'' := (g2.cell (p := ⟨b, o + 2, none⟩) (by have := g1.size; show b < _; omega)).trans c2'
      clear c1' c2' g1 g2
      go_wp2_with fail
      refine (in_calls p 0 7 _).mono ?_
      rintro e w3 ⟨rfl, g4⟩
      have HB := hide (g3.trans (g4.mono g3.size))
      clear g3 g4
      rw [← HR.out]
      go_wp2
      go_ret
      exact ⟨rfl, HB.out⟩
    · have h2' : (decide (0 ≤ t) && decide (t ≤ 6)) = false := by simpa using h2
      have HR : Hid (okL (d, t, p) = false) := by show okL _ = _; unfold okL; simp only; rw [h2']; simp
      clear h2
      go_enter Tryz.func119, Tryz.ntmps119
      go_wp2_with fail
      refine (in_calls d 0 3 _).mono ?_
      rintro e w1 ⟨rfl, g1⟩
      rw [h1]
      have c1' := (g1.cell (p := ⟨b, o + 1, none⟩) hb).trans c1
      clear c0 c1 c2
      go_wp2_with fail
      refine (in_calls t 0 6 _).mono ?_
      rintro e w2 ⟨rfl, g2⟩
      rw [h2']
      have HB := hide (g1.trans (g2.mono g1.size))
      clear c1' g1 g2
      go_wp2
      go_ret
      exact ⟨ret_bool HR.out.symm, HB.out⟩
  · have h1' : (decide (0 ≤ d) && decide (d ≤ 3)) = false := by simpa using h1
    have HR : Hid (okL (d, t, p) = false) := by show okL _ = _; unfold okL; simp only; rw [h1']; simp
    clear h1
    go_enter Tryz.func119, Tryz.ntmps119
    go_wp2_with fail
    refine (in_calls d 0 3 _).mono ?_
    rintro e w1 ⟨rfl, g1⟩
    rw [h1']
    have HB := hide g1
    clear c0 c1 c2 g1
    go_wp2
    go_ret
    exact ⟨ret_bool HR.out.symm, HB.out⟩

set_option maxRecDepth 100000 in
theorem l4At_calls (P : Nat) (a : Option Addr) (n c : Nat) (ls : List (Int × Int × Int)) (d t : Int) (w : World) (hn : n ≤ maxLen) (h0 : w.cell? ⟨P, 1, none⟩ = some (.slice a n c)) (hs : Sln w a n ls) :
    Calls Tryz.prog 120 #[.pointer (some ⟨P, 0, none⟩), .int .i64 d, .int .i64 t] w fun e w' => e = .returned (.int .i64 (atK ls d t)) ∧ Below w.heap.size w w' := by
  unfold maxLen at hn
  obtain ⟨hlen, hs⟩ := hs
  go_enter Tryz.func120, Tryz.ntmps120
  go_wp2
  go_loop [7] (fun i => ∃ k : Nat, k ≤ n ∧ i = .int .i64 k ∧ ∀ j, j < k → hitL d t (g3 ls j) = false) (fun i => n - (intOf i).toNat)
  case atStart => exact ⟨0, Nat.zero_le _, rfl, fun j hj => by omega⟩
  case round =>
    obtain ⟨k, hk, rfl, hno⟩ := hrel
    by_cases hlt : k < n
    · obtain ⟨b, off, rfl, hb, hc⟩ := hs (by omega)
      obtain ⟨hc0, hc1, _⟩ := cells3 hc hlt
      clear hc
      by_cases h1 : (g3 ls k).1 = d
      · have e1 : ((g3 ls k).1 == d) = true := by simpa using h1
        by_cases h2 : (g3 ls k).2.1 = t
        · have e2 : ((g3 ls k).2.1 == t) = true := by simpa using h2
          have HR := hide (atK_hit (by omega) hno (show hitL d t (g3 ls k) = true by simp [hitL, h1, h2]))
          clear h1 h2
          go_wp2
          go_ret
          exact ⟨ret_int HR.out.symm, Below.refl _ _⟩
        · have e2 : ((g3 ls k).2.1 == t) = false := by simpa using h2
          have HN : Hid (∀ j, j < k + 1 → hitL d t (g3 ls j) = false) := fun j hj => by
            by_cases e : j = k
            · subst e; simp [hitL, h2]
            · exact hno j (by omega)
          clear h1 h2
          go_wp2
          go_round
          case rel => exact ⟨k + 1, by omega, by go_num, HN.out⟩
          case measure => simp [intOf]; omega
      · have e1 : ((g3 ls k).1 == d) = false := by simpa using h1
        have HN : Hid (∀ j, j < k + 1 → hitL d t (g3 ls j) = false) := fun j hj => by
          by_cases e : j = k
          · subst e; simp [hitL, h1]
          · exact hno j (by omega)
        clear h1
        go_wp2
        go_round
        case rel => exact ⟨k + 1, by omega, by go_num, HN.out⟩
        case measure => simp [intOf]; omega
    · have HR := hide (atK_none (ls := ls) (fun j hj => hno j (by omega)))
      go_wp2
      go_ret
      exact ⟨ret_int HR.out.symm, Below.refl _ _⟩

end Go.Proofs.YtnlkigjgloeonaaGreat
