import Derived.Test.YtboeceabnlhnoaaLabelAt
import Derived.Test.YtboeceabnlhnoaaOpen
import Derived.Test.YtboeceabnlhnoaaSpecLAX
import Derived.WalkKit
import Derived.ProofKit
import Derived.OpenShut
import Derived.ShutString
import Derived.ChangeOld
import Derived.Below
import Derived.WalkSpells
import Derived.Deep.QuietTactic
import Derived.BigQuiet
import Derived.Deep.RegionWith
import Derived.Deep.WholeRow
import Derived.Deep.DeepCutAuto
import Derived.Deep.RegionHeld2
import Derived.Deep.AppendLies
import Derived.Deep.RegionLaw
namespace Go.Proofs.Ytboeceabnlhnoaa
open Go.ChangeShapes Go.WideShapes Go.ChangeAt Go.RowKit

set_option maxRecDepth 100000 in
theorem implLabelAt_calls (a : Option Addr) (n ca : Nat) (ss : List (Int × List Int)) (p : Int) (w : World) (hn : n ≤ maxLen) (hx : Sls w a n ss) :
    Calls Try.prog 11 #[.agg #[.slice a n ca], .int .i64 p] w fun e w' => ∃ ra rn rc, e = .returned (.agg #[.int .i64 (laC ss p), .slice ra rn rc]) ∧ OS (InR w.heap.size w'.heap.size) ra rn (laL ss p) w' ∧ Below w.heap.size w w' := by
  have M0 := ((Mm.start w).alloc1 (.slice a n ca) 26).alloc2 (.int .i64 0) (.slice none 0 0) 40
  simp only [World.size_alloc] at M0
  have hx0 := hx.below M0.bel (Nat.le_refl _)
  have hlen := hx.1
  by_cases hr : faultR ss = 0
  · have er : (faultR ss != 0) = false := by simp [hr]
    have HC := hide (laC_ok (p := p) hr)
    have HL := hide (laL_at (p := p) hr)
    have Hr := hide hr
    clear hr
    go_enter Try.func11, Try.ntmps11
    go_wp2_with fail
    refine (openRegistry_calls a n ca ss _ hn hx0).mono ?_
    rintro e w1 ⟨sz, mo, rfl, g1, hown⟩
    obtain ⟨rfl, M, rfl, hM, hown⟩ := hown Hr.out
    have M1 := (M0.below g1).alloc2 (.int .i64 (n : Int)) (.map (some M)) 49
    have hbk : Bk (w1.alloc (.cells #[.int .i64 (n : Int), .map (some M)] 49)) w1.heap.size M (ss.length : Int) n (bk ss ss.length) := by
      rw [hlen]
      exact ⟨by simp, by simp, by simp, fun j => by simp, hown.alloc _⟩
    clear g1 hown hx0 M0
    go_wp2_with fail
    refine (labelAt_calls _ M n p ss _ _ hbk (good_of Hr.out) (rep_bk Hr.out)).mono ?_
    rintro e w2 ⟨ra, rn, rc, rfl, os2, g2⟩
    have M2 := M1.below g2
    have r0 := M2.cell 2 rfl
    have r1 := M2.cell 3 rfl
    have f0 := M2.fz 2 rfl
    have f1 := M2.fz 3 rfl
    have hl1 := M1.lt 2 rfl
    have hB2 := M1.bel.size
    have HB := hide M2.bel
    have HO := hide os2
    clear M1 M2 g2 os2 hbk
    go_wp2
    refine bodyPost_ret (v := .agg #[.int .i64 (atC ss p), .slice ra rn rc]) (by simp [results, Try.results11, go_sem, r0, r1]) rfl ⟨ra, rn, rc, by rw [HC.out], ?_, (HB.out.setCell (by simp) _).setCell (by simp) _⟩
    rw [HL.out]
    exact (OS.loc w2 _ (fun k hk _ => by rw [Below.heap_setCell _ _ _ _ (fun e => by have := hk.1; simp at e; omega), Below.heap_setCell _ _ _ _ (fun e => by have := hk.1; simp at e; omega)]) HO.out).mono (fun k hk => ⟨by have := hk.1; omega, by simpa using hk.2⟩)
  · have er : (faultR ss != 0) = true := by simp [hr]
    have HC := hide (laC_bad (p := p) hr)
    have HL := hide (laL_no (ss := ss) (p := p) (by rw [HC.out]; exact hr))
    clear hr
    go_enter Try.func11, Try.ntmps11
    go_wp2_with fail
    refine (openRegistry_calls a n ca ss _ hn hx0).mono ?_
    rintro e w1 ⟨sz, mo, rfl, g1, _⟩
    have M1 := (M0.below g1).alloc2 (.int .i64 sz) (.map mo) 49
    have r0 := M1.cell 2 rfl
    have r1 := M1.cell 3 rfl
    have f0 := M1.fz 2 rfl
    have f1 := M1.fz 3 rfl
    have HB := hide M1.bel
    clear M0 M1 g1 hx0
    go_wp2
    refine bodyPost_ret (v := .agg #[.int .i64 (faultR ss), .slice none 0 0]) (by simp [results, Try.results11, go_sem, r0, r1]) rfl ⟨_, 0, 0, by rw [HC.out], ⟨by rw [HL.out]; rfl, by omega, .inl rfl⟩, (HB.out.setCell (by simp) _).setCell (by simp) _⟩

end Go.Proofs.Ytboeceabnlhnoaa
