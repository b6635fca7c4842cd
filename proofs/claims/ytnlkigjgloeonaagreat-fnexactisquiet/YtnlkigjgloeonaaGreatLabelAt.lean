import Derived.Test.YtnlkigjgloeonaaGreatMarkAt
import Derived.WalkKit
import Derived.ProofKit
import Derived.OpenShut
import Derived.ShutString
import Derived.ChangeOld
import Derived.Below
import Derived.WalkSpells
import Derived.Deep.QuietTactic
import Derived.BigQuiet
import Derived.Deep.RegionWith
import Derived.Deep.WholeRow
import Derived.Deep.DeepCutAuto
import Derived.Deep.RegionHeld2
import Derived.Deep.AppendLies
import Derived.Deep.RegionLaw
namespace Go.Proofs.YtnlkigjgloeonaaGreat
open Go.ChangeShapes Go.WideShapes Go.ChangeAt Go.RowKit

set_option maxRecDepth 100000 in
theorem labelAt_calls (P M n : Nat) (p : Int) (ss : List (Int × List Int)) (D : DataW Unit) (w : World) (hb : Bk w P M (ss.length : Int) n D) (good : Good ss) (rep : Rep ss D) :
    Calls Tryz.prog 134 #[.pointer (some ⟨P, 0, none⟩), .int .i64 p] w fun e w' => ∃ ra rn rc, e = .returned (.agg #[.int .i64 (atC ss p), .slice ra rn rc]) ∧ OS (InR w.heap.size w'.heap.size) ra rn (atL ss p) w' ∧ Below w.heap.size w w' := by
  have M0 := (Mm.start w).alloc2 (.int .i64 0) (.slice none 0 0) 112
  have hb0 := hb.below ((Below.refl w.heap.size w).alloc (Nat.le_refl _) (.cells #[.int .i64 0, .slice none 0 0] 112))
  by_cases hc : atC ss p = 0
  · have ec : (atC ss p != 0) = false := by simp [hc]
    have hl4 : (atL ss p).length = 4 := by
      unfold atL
      rw [if_pos hc]
      unfold atC at hc
      split at hc
      · cases hc
      · split at hc
        · cases hc
        · rename_i h1 h2
          exact fault_len (good.right _ (by omega) (by have := good.low p.toNat (by omega); omega))
    go_enter Tryz.func134, Tryz.ntmps134
    go_wp2_with fail
    refine (markAt_calls P M n p ss D _ hb0 good rep).mono ?_
    rintro e w1 ⟨rfl, g1⟩
    have M1 := (M0.below g1).alloc4 (.int .i64 (gt (atL ss p) 0)) (.int .i64 (gt (atL ss p) 1)) (.int .i64 (gt (atL ss p) 2)) (.int .i64 (gt (atL ss p) 3)) 232
    have HM1 := hide M1
    clear g1 M0 hb0 M1
    unfold ints4
    go_wp2_with fail
    refine (labelOf_calls _ _ _ _ _).mono ?_
    rintro e w2 ⟨b, rfl, hbN, blk, g2⟩
    have M2 := HM1.out.below g2
    have c0 := M2.cell 4 rfl
    have c1 := M2.cell 5 rfl
    have f0 := M2.fz 4 rfl
    have f1 := M2.fz 5 rfl
    have hlt := M2.lt 4 rfl
    have hW := HM1.out.lt 4 rfl
    have HB := hide M2.bel
    have HK := hide blk
    rw [← list4 hl4] at blk
    have HK := hide blk
    clear M2 g2 blk
    go_wp2
    refine bodyPost_ret (v := .agg #[.int .i64 0, .slice (some ⟨b, 0, none⟩) 4 4]) (by simp [results, Tryz.results134, go_sem, c0, c1]) rfl ⟨_, 4, 4, by rw [hc], OS.ofBlk ((HK.out.setCell (by show w.heap.size ≠ b; omega) _).setCell (by show w.heap.size ≠ b; omega) _) ⟨by omega, by have := HK.out.1; simpa using this⟩ hl4 (by omega), (HB.out.setCell (Nat.le_refl _) _).setCell (Nat.le_refl _) _⟩
  · have ec : (atC ss p != 0) = true := by simp [hc]
    have HL := hide (atL_no hc)
    go_enter Tryz.func134, Tryz.ntmps134
    go_wp2_with fail
    refine (markAt_calls P M n p ss D _ hb0 good rep).mono ?_
    rintro e w1 ⟨rfl, g1⟩
    have M1 := (M0.below g1).alloc4 (.int .i64 (gt (atL ss p) 0)) (.int .i64 (gt (atL ss p) 1)) (.int .i64 (gt (atL ss p) 2)) (.int .i64 (gt (atL ss p) 3)) 232
    have c0 := M1.cell 4 rfl
    have c1 := M1.cell 5 rfl
    have f0 := M1.fz 4 rfl
    have f1 := M1.fz 5 rfl
    have HB := hide M1.bel
    clear g1 M0 hb0 M1
    unfold ints4
    go_wp2
    refine bodyPost_ret (v := .agg #[.int .i64 (atC ss p), .slice none 0 0]) (by simp [results, Tryz.results134, go_sem, c0, c1]) rfl ⟨_, 0, 0, rfl, ⟨by rw [HL.out]; rfl, by omega, .inl rfl⟩, (HB.out.setCell (Nat.le_refl _) _).setCell (Nat.le_refl _) _⟩

end Go.Proofs.YtnlkigjgloeonaaGreat
