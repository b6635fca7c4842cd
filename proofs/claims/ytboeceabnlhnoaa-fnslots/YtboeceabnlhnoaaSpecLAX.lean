import Derived.Test.YtboeceabnlhnoaaSpecReg
import Derived.Test.YtboeceabnlhnoaaMarkAt
import Derived.Test.YtboeceabnlhnoaaL1Copy
import Derived.Test.YtboeceabnlhnoaaL2Leave
import Derived.WalkKit
import Derived.ProofKit
import Derived.OpenShut
import Derived.ShutString
import Derived.ChangeOld
import Derived.Below
import Derived.WalkSpells
import Derived.Deep.QuietTactic
import Derived.BigQuiet
import Derived.Deep.RegionWith
import Derived.Deep.WholeRow
import Derived.Deep.DeepCutAuto
import Derived.Deep.RegionHeld2
import Derived.Deep.AppendLies
import Derived.Deep.RegionLaw
namespace Go.Proofs.Ytboeceabnlhnoaa
open Go.ChangeShapes Go.WideShapes Go.ChangeAt Go.RowKit

set_option maxRecDepth 100000 in
theorem specLabelAt_calls (a : Option Addr) (n ca : Nat) (ss : List (Int × List Int)) (p : Int) (w : World) (hn : n ≤ maxLen) (hx : Sls w a n ss) :
    Calls Try.prog 12 #[.agg #[.slice a n ca], .int .i64 p] w fun e w' => ∃ ra rn rc, e = .returned (.agg #[.int .i64 (laC ss p), .slice ra rn rc]) ∧ OS (InR w.heap.size w'.heap.size) ra rn (laL ss p) w' ∧ Below w.heap.size w w' := by
  have M0 := ((Mm.start w).alloc1 (.slice a n ca) 26).alloc2 (.int .i64 0) (.slice none 0 0) 40
  simp only [World.size_alloc] at M0
  have hx0 := hx.below M0.bel (Nat.le_refl _)
  have hlen := hx.1
  have hnm := hn
  unfold maxLen at hn
  by_cases hc : laC ss p = 0
  · have ec : (laC ss p != 0) = false := by simp [hc]
    have Hc := hide hc
    obtain ⟨hr, j, rfl, hj, hp, hl, hf⟩ := laC_zero hc
    have h4 := fault_len hf
    have HL := hide hl
    have few := (good_of hr).few
    clear hc hl hr hf
    go_enter Try.func12, Try.ntmps12
    go_wp2_with fail
    refine (l2Asked_calls _ a n ca ss _ _ hnm (M0.lt 2 rfl) (M0.cell 2 rfl) hx0).mono ?_
    rintro e w1 ⟨rfl, g1⟩
    have M1 := M0.below g1
    have hx1 := hx0.below g1 (Nat.le_refl _)
    obtain ⟨b1, o1, rfl, hb1, hc1⟩ := hx1.2 (by omega)
    obtain ⟨_, la, ll, lc, k1, _, ksl⟩ := hc1 j (by omega)
    have hll : (gl ss j).length = ll := ksl.1
    have c1 := M1.cell 2 rfl
    clear g1 hx0 hx1 hc1 M0
    go_wp2_with fail
    refine (l1Copy_O la ll lc (gl ss j) _ (by omega) ksl).mono ?_
    rintro e w2 ⟨ra, rc, rfl, os2, g2⟩
    have M2 := M1.below g2
    have r0 := M2.cell 0 rfl
    have r1 := M2.cell 1 rfl
    have f0 := M2.fz 0 rfl
    have f1 := M2.fz 1 rfl
    have hl1 := M1.lt 0 rfl
    have HB := hide M2.bel
    have HO := hide os2
    have hB2 := M1.bel.size
    clear M1 M2 g2 os2 c1 ksl k1
    go_wp2
    refine bodyPost_ret (v := .agg #[.int .i64 0, .slice ra ll rc]) (by simp [results, Try.results12, go_sem, r0, r1]) rfl ⟨ra, ll, rc, by rw [Hc.out], ?_, (HB.out.setCell (by simp) _).setCell (by simp) _⟩
    rw [HL.out]
    exact (OS.loc w2 _ (fun k hk _ => by rw [Below.heap_setCell _ _ _ _ (fun e => by have := hk.1; simp at e; omega), Below.heap_setCell _ _ _ _ (fun e => by have := hk.1; simp at e; omega)]) HO.out).mono (fun k hk => ⟨by have := hk.1; omega, by simpa using hk.2⟩)
  · have ec : (laC ss p != 0) = true := by simp [hc]
    have HL := hide (laL_no hc)
    clear hc
    go_enter Try.func12, Try.ntmps12
    go_wp2_with fail
    refine (l2Asked_calls _ a n ca ss _ _ hnm (M0.lt 2 rfl) (M0.cell 2 rfl) hx0).mono ?_
    rintro e w1 ⟨rfl, g1⟩
    have M1 := M0.below g1
    have r0 := M1.cell 0 rfl
    have r1 := M1.cell 1 rfl
    have f0 := M1.fz 0 rfl
    have f1 := M1.fz 1 rfl
    have HB := hide M1.bel
    clear M0 M1 g1 hx0
    go_wp2
    refine bodyPost_ret (v := .agg #[.int .i64 (laC ss p), .slice none 0 0]) (by simp [results, Try.results12, go_sem, r0, r1]) rfl ⟨_, 0, 0, rfl, ⟨by rw [HL.out]; rfl, by omega, .inl rfl⟩, (HB.out.setCell (by simp) _).setCell (by simp) _⟩

end Go.Proofs.Ytboeceabnlhnoaa
