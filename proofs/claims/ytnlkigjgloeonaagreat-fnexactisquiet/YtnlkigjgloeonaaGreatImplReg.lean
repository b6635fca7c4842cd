import Derived.Test.YtnlkigjgloeonaaGreatLevels
import Derived.Test.YtnlkigjgloeonaaGreatMap
import Derived.WalkKit
import Derived.ProofKit
import Derived.OpenShut
import Derived.ShutString
import Derived.ChangeOld
import Derived.Below
import Derived.WalkSpells
import Derived.Deep.QuietTactic
import Derived.BigQuiet
import Derived.Deep.RegionWith
import Derived.Deep.WholeRow
import Derived.Deep.DeepCutAuto
import Derived.Deep.RegionHeld2
import Derived.Deep.AppendLies
import Derived.Deep.RegionLaw
namespace Go.Proofs.YtnlkigjgloeonaaGreat
open Go.ChangeShapes Go.WideShapes Go.ChangeAt Go.RowKit

set_option maxRecDepth 100000 in
theorem slotFault_calls (c : Int) (a : Option Addr) (len cap : Nat) (zs : List Int) (w : World) (hl : len ≤ maxLen) (hs : Sl w a len zs) :
    Calls Tryz.prog 163 #[.agg #[.int .i64 c, .slice a len cap]] w fun e w' => e = .returned (.int .i64 (slot1 c zs)) ∧ Below w.heap.size w w' := by
  have hlen := hs.1
  have HS := hide fun o1 => hs.below ((Below.refl w.heap.size w).alloc (Nat.le_refl _) o1) (Nat.le_refl _)
  have HB := hide fun o1 => (Below.refl w.heap.size w).alloc (Nat.le_refl _) o1
  by_cases h0 : c < 0
  · have H : Hid (slot1 c zs = 3) := if_pos (by simp; omega)
    go_enter Tryz.func163, Tryz.ntmps163
    go_wp2
    go_ret
    exact ⟨ret_int H.out.symm, HB.out _⟩
  · by_cases h99 : 99 < c
    · have H : Hid (slot1 c zs = 3) := if_pos (by simp; omega)
      go_enter Tryz.func163, Tryz.ntmps163
      go_wp2
      go_ret
      exact ⟨ret_int H.out.symm, HB.out _⟩
    · have hr : (decide (0 ≤ c) && decide (c ≤ 99)) = true := by simp; omega
      by_cases hp : 0 < c
      · have H : Hid (slot1 c zs = fault zs) := by show slot1 c zs = _; unfold slot1; rw [hr, if_neg (by simp), if_pos hp]
        clear hr
        go_enter Tryz.func163, Tryz.ntmps163
        go_wp2_with fail
        refine (implLabelFault_calls a len cap zs _ hl (HS.out _)).mono ?_
        rintro e w1 ⟨rfl, g1⟩
        go_wp2
        go_ret
        exact ⟨ret_int H.out.symm, (HB.out _).trans (g1.mono (HB.out _).size)⟩
      · by_cases hz : 0 < len
        · have H : Hid (slot1 c zs = 1) := by show slot1 c zs = _; unfold slot1; rw [hr, if_neg (by simp), if_neg hp, if_pos (by omega)]
          clear hr
          go_enter Tryz.func163, Tryz.ntmps163
          go_wp2
          go_ret
          exact ⟨ret_int H.out.symm, HB.out _⟩
        · have H : Hid (slot1 c zs = 0) := by show slot1 c zs = _; unfold slot1; rw [hr, if_neg (by simp), if_neg hp, if_neg (by omega)]
          clear hr
          go_enter Tryz.func163, Tryz.ntmps163
          go_wp2
          go_ret
          exact ⟨ret_int H.out.symm, HB.out _⟩

set_option maxRecDepth 100000 in
theorem markOf_calls (a : Option Addr) (ca : Nat) (zs : List Int) (w : World) (hs : Sl w a 4 zs) :
    Calls Tryz.prog 164 #[.agg #[.slice a 4 ca]] w fun e w' => e = .returned (.agg (ints4 zs)) ∧ Below w.heap.size w w' := by
  have HS := hide fun o1 o2 => hs.below (((Below.refl w.heap.size w).alloc (Nat.le_refl _) o1).alloc (by simp) o2) (Nat.le_refl _)
  go_enter Tryz.func164, Tryz.ntmps164
  go_wp2_with fail
  refine (levelsOf_calls a ca zs _ (HS.out _ _)).mono ?_
  rintro e w1 ⟨rfl, hb⟩
  have HB : Hid (Below w.heap.size w w1) := (((Below.refl w.heap.size w).alloc (Nat.le_refl _) _).alloc (by simp) _).trans (hb.mono (by simp; omega))
  have c0 : w1.cell? ⟨w.heap.size + 1, 0, none⟩ = some (.int .i64 0) := (hb.cell (p := ⟨w.heap.size + 1, 0, none⟩) (by simp)).trans (by go_simp)
  have c1 : w1.cell? ⟨w.heap.size + 1, 1, none⟩ = some (.int .i64 0) := (hb.cell (p := ⟨w.heap.size + 1, 1, none⟩) (by simp)).trans (by go_simp)
  have c2 : w1.cell? ⟨w.heap.size + 1, 2, none⟩ = some (.int .i64 0) := (hb.cell (p := ⟨w.heap.size + 1, 2, none⟩) (by simp)).trans (by go_simp)
  have c3 : w1.cell? ⟨w.heap.size + 1, 3, none⟩ = some (.int .i64 0) := (hb.cell (p := ⟨w.heap.size + 1, 3, none⟩) (by simp)).trans (by go_simp)
  have f0 : w1.frozen? ⟨w.heap.size + 1, 0, none⟩ = false := (hb.frozen (p := ⟨w.heap.size + 1, 0, none⟩) (by simp)).trans (by go_simp)
  have f1 : w1.frozen? ⟨w.heap.size + 1, 1, none⟩ = false := (hb.frozen (p := ⟨w.heap.size + 1, 1, none⟩) (by simp)).trans (by go_simp)
  have f2 : w1.frozen? ⟨w.heap.size + 1, 2, none⟩ = false := (hb.frozen (p := ⟨w.heap.size + 1, 2, none⟩) (by simp)).trans (by go_simp)
  have f3 : w1.frozen? ⟨w.heap.size + 1, 3, none⟩ = false := (hb.frozen (p := ⟨w.heap.size + 1, 3, none⟩) (by simp)).trans (by go_simp)
  clear hb
  unfold ints4
  go_wp2
  refine bodyPost_ret (v := .agg (ints4 zs)) (by simp [results, Tryz.results164, go_sem, ints4, c0, c1, c2, c3]) rfl ⟨rfl, ?_⟩
  exact (((HB.out.setCell (by simp) _).setCell (by simp) _).setCell (by simp) _).setCell (by simp) _

end Go.Proofs.YtnlkigjgloeonaaGreat
