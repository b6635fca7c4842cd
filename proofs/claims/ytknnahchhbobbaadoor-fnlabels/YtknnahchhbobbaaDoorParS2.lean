import Derived.Test.YtknnahchhbobbaaDoorParS
import Derived.WalkKit
import Derived.ProofKit
import Derived.OpenShut
import Derived.ShutString
import Derived.ChangeOld
import Derived.Below
import Derived.WalkSpells
import Derived.Deep.QuietTactic
import Derived.BigQuiet
import Derived.Deep.RegionWith
import Derived.Deep.WholeRow
import Derived.Deep.DeepCutAuto
import Derived.Deep.RegionHeld2
import Derived.Deep.AppendLies
import Derived.Deep.RegionLaw
namespace Go.Proofs.YtknnahchhbobbaaDoor
open Go.ChangeShapes Go.WideShapes Go.ChangeAt Go.RowKit

set_option maxRecDepth 100000 in
theorem specParseLabel_calls (s : ByteArray) (w : World) (hs : s.size ≤ 1048576) :
    Calls Tryd.prog 9 #[.string s] w fun e w' => ∃ ra rn rc, e = .returned (.agg #[.int .i64 (plC s), .slice ra rn rc]) ∧ OS (InR w.heap.size w'.heap.size) ra rn (plR s) w' ∧ Below w.heap.size w w' := by
  have M0 := (Mm.start w).alloc2 (.int .i64 0) (.slice none 0 0) 29
  go_enter Tryd.func9, Tryd.ntmps9
  go_wp2_with fail
  refine (l1Parse_calls s _ hs).mono ?_
  rintro e w1 ⟨ra, rc, rfl, ho, g1⟩
  simp only [World.size_alloc] at ho
  have z1 := g1.size
  simp only [World.size_alloc] at z1
  have al := (Below.refl w1.heap.size w1).alloc (Nat.le_refl _) (.cells #[.slice ra s.size rc] 27)
  have M1 := (M0.below g1).alloc1 (.slice ra s.size rc) 27
  have o1 := OS.ofOSl (ho.below al)
  clear M0 g1 ho al
  by_cases hf : fault (plL s) = 0
  · have HC : Hid (plC s = 0) := if_pos hf
    have HR : Hid (plR s = plL s) := resOf_ok HC.out
    have hb : (fault (plL s) == 0) = true := by simp [hf]
    rw [hb]
    have c0 := M1.cell 1 rfl
    have c1 := M1.cell 2 rfl
    have f0 := M1.fz 1 rfl
    have f1 := M1.fz 2 rfl
    have l0 := M1.cell 0 rfl
    have HB := hide M1.bel
    have HO := hide o1
    clear M1 o1 hf hb
    go_wp2
    refine bodyPost_ret (v := .agg #[.int .i64 0, .slice ra s.size rc]) (by simp [results, Tryd.results9, go_sem, c0, c1]) rfl ⟨_, _, _, by rw [HC.out], ?_, (HB.out.setCell (by simp) _).setCell (by simp) _⟩
    rw [HR.out]
    exact (OS.loc.setC (OS.loc.setC HO.out (q := ⟨w.heap.size, 0, none⟩) (fun e => by have := e.1; simp only at this; omega) _) (q := ⟨w.heap.size, 1, none⟩) (fun e => by have := e.1; simp only at this; omega) _).mono (fun k hk => ⟨by have := hk.1; omega, by have := hk.2; simp; omega⟩)
  · have HC : Hid (plC s = 5) := if_neg hf
    have hb : (fault (plL s) == 0) = false := by simp [hf]
    have HR : Hid (plR s = []) := resOf_no (by rw [HC.out]; decide)
    rw [hb]
    have c0 := M1.cell 1 rfl
    have c1 := M1.cell 2 rfl
    have f0 := M1.fz 1 rfl
    have f1 := M1.fz 2 rfl
    have HB := hide M1.bel
    clear M1 o1 hf hb
    go_wp2
    refine bodyPost_ret (v := .agg #[.int .i64 5, .slice none 0 0]) (by simp [results, Tryd.results9, go_sem, c0, c1]) rfl ⟨_, _, _, by rw [HC.out], ?_, (HB.out.setCell (by simp) _).setCell (by simp) _⟩
    rw [HR.out]
    exact ⟨rfl, by omega, .inl rfl⟩

end Go.Proofs.YtknnahchhbobbaaDoor
