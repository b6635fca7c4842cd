import Derived.Test.YthmeebpaaegoiaaNkS
import Derived.Test.YthmeebpaaegoiaaLevels
import Derived.WalkKit
import Derived.ProofKit
import Derived.OpenShut
import Derived.ShutString
import Derived.ChangeOld
import Derived.Below
import Derived.WalkSpells
import Derived.Deep.QuietTactic
import Derived.BigQuiet
import Derived.Deep.RegionWith
import Derived.Deep.WholeRow
import Derived.Deep.DeepCutAuto
import Derived.Deep.RegionHeld2
import Derived.Deep.AppendLies
import Derived.Deep.RegionLaw
namespace Go.Proofs.Ythmeebpaaegoiaa
open Go.ChangeShapes Go.WideShapes Go.ChangeAt Go.RowKit

set_option maxRecDepth 100000 in
set_option maxHeartbeats 2000000 in
theorem implNewKernel_calls (a : Option Addr) (n cap : Nat) (zs : List Int) (q : Int) (w : World) (hm : n ≤ maxLen) (hs : Sl w a n zs) : Calls Try.prog 29 #[.agg #[.slice a n cap], .int .i64 q] w fun e w' => ∃ ra rn rc, e = .returned (.agg #[.int .i64 (nkC zs q), .int .i64 0, .slice ra rn rc]) ∧ OO (InR w.heap.size w'.heap.size) ra rn (nkL zs q) w' ∧ Below w.heap.size w w' := by
  have hlen := hs.1
  have M0 := ((Mm.start w).allocC [.slice a n cap] 54).allocC [.int .i64 0, .int .i64 0, .slice none 0 0] 52
  simp only [World.size_alloc] at M0
  have zm := hm
  have HF := hide (thingFault_calls a n cap zs _ zm (hs.below M0.bel (Nat.le_refl _)))
  have HS := hide hs
  clear hs
  go_enter Try.func29, Try.ntmps29
  go_wp2_with fail
  refine HF.out.mono ?_
  rintro e w1 ⟨rfl, g1⟩
  have z1 : w.heap.size + 2 ≤ w1.heap.size := by have := g1.size; simpa using this
  have HM := hide (M0.below g1)
  clear M0 g1 HF
  by_cases h1 : thgF zs = 0
  rotate_left
  · have HC : Hid (nkC zs q = thgF zs) := nkC_thg h1
    have HL : Hid (nkL zs q = []) := nkL_no (by rw [HC.out]; exact h1)
    have e1 : (thgF zs != 0) = true := by simpa using h1
    have g2 : Below w1.heap.size w1 w1 := Below.refl _ _
    clear h1
    have M2 := HM.out.below g2
    have r0 := (M2.get 0 rfl).cell 0 rfl
    have r1 := (M2.get 0 rfl).cell 1 rfl
    have r2 := (M2.get 0 rfl).cell 2 rfl
    have f0 := (M2.get 0 rfl).fz 0 (by simp)
    have f1 := (M2.get 0 rfl).fz 1 (by simp)
    have f2 := (M2.get 0 rfl).fz 2 (by simp)
    have HB := hide M2.bel
    clear g2 M2
    go_wp2
    refine bodyPost_ret (v := .agg #[.int .i64 (thgF zs), .int .i64 0, .slice none 0 0]) (by simp [results, Try.results29, go_sem, r0, r1, r2]) rfl ⟨none, 0, 0, by rw [HC.out], ?_, ((HB.out.setCell (by simp) _).setCell (by simp) _).setCell (by simp) _⟩
    rw [HL.out]
    exact OO.nil _ _ _
  have e1 : (thgF zs != 0) = false := by simp [h1]
  have hl4 := fault_four (thgF_0 h1)
  cases h3 : up q 200 with
  | false =>
    have HC : Hid (nkC zs q = 3) := nkC_rng h1 h3
    have HL : Hid (nkL zs q = []) := nkL_no (by rw [HC.out]; decide)
    have g2 : Below w1.heap.size w1 w1 := Below.refl _ _
    clear h1
    have M2 := HM.out.below g2
    have r0 := (M2.get 0 rfl).cell 0 rfl
    have r1 := (M2.get 0 rfl).cell 1 rfl
    have r2 := (M2.get 0 rfl).cell 2 rfl
    have f0 := (M2.get 0 rfl).fz 0 (by simp)
    have f1 := (M2.get 0 rfl).fz 1 (by simp)
    have f2 := (M2.get 0 rfl).fz 2 (by simp)
    have HB := hide M2.bel
    clear g2 M2
    go_wp2_with (go_at_call 70; with_reducible refine (isUpTo_is _ _ _ _ h3).mono ?_; rintro e w' ⟨rfl, hw'⟩; rw [hw']; clear hw' w')
    refine bodyPost_ret (v := .agg #[.int .i64 (3), .int .i64 0, .slice none 0 0]) (by simp [results, Try.results29, go_sem, r0, r1, r2]) rfl ⟨none, 0, 0, by rw [HC.out], ?_, ((HB.out.setCell (by simp) _).setCell (by simp) _).setCell (by simp) _⟩
    rw [HL.out]
    exact OO.nil _ _ _
  | true =>
  have HC : Hid (nkC zs q = 0) := nkC_ok h1 h3
  have HL : Hid (nkL zs q = [(-1, 0, 1, zs, q, 1, [])]) := nkL_ok HC.out
  obtain rfl : n = 4 := by omega
  have p1 := (HM.out.get 1 rfl).cell 0 rfl
  clear h1
  go_wp2_with (go_at_call 70; with_reducible refine (isUpTo_is _ _ _ _ h3).mono ?_; rintro e w' ⟨rfl, hw'⟩; rw [hw']; clear hw' w')
  refine (levelsOf_calls a cap zs w1 (HS.out.below HM.out.bel (Nat.le_refl _))).mono ?_
  rintro e wl ⟨rfl, gl⟩
  unfold ints4
  go_wp2_with fail
  refine (labelOf_calls _ _ _ _ wl).mono ?_
  rintro e w2 ⟨lb, rfl, hlb, blk, gk⟩
  rw [← list4 hl4] at blk
  have g2 : Below w1.heap.size w1 w2 := gl.trans (gk.mono gl.size)
  have zl := gl.size
  clear gl gk
  have z2 := g2.size
  have M2 := HM.out.below g2
  have r0 := (M2.get 0 rfl).cell 0 rfl
  have r1 := (M2.get 0 rfl).cell 1 rfl
  have r2 := (M2.get 0 rfl).cell 2 rfl
  have f0 := (M2.get 0 rfl).fz 0 (by simp)
  have f1 := (M2.get 0 rfl).fz 1 (by simp)
  have f2 := (M2.get 0 rfl).fz 2 (by simp)
  have HB := hide M2.bel
  have HO : Hid (OS (fun k => w.heap.size ≤ k ∧ k < w2.heap.size ∧ k ≠ w.heap.size + 1) (some ⟨lb, 0, none⟩) 4 zs w2) := OS.ofBlk blk ⟨by omega, blk.1, by omega⟩ hl4 (by omega)
  have lR : w.heap.size + 1 < w2.heap.size := by omega
  have lS : w.heap.size < w2.heap.size := by omega
  clear M2 g2 HM
  obtain ⟨n0, n1, n2⟩ := nk_cells (la := (some ⟨lb, 0, none⟩)) (lc := 4) (q := q) lR r0 r1 r2
  unfold nkW at n0 n1 n2
  go_wp2
  refine bodyPost_ret (v := .agg #[.int .i64 0, .int .i64 0, .slice (some ⟨w2.heap.size + 1, 0, none⟩) 1 1]) (by simp [results, Try.results29, go_sem, n0, n1, n2]) rfl ⟨some ⟨w2.heap.size + 1, 0, none⟩, 1, 1, by rw [HC.out], ?_, ?_⟩
  · rw [HL.out]
    exact nk_end (lc := 4) HO.out hl4 (by omega) (by omega)
  · exact ((((HB.out.setCell (by simp) _).setCell (by simp) _).setCell (by simp) _).alloc (by simp; omega) _).alloc (by simp; omega) _

end Go.Proofs.Ythmeebpaaegoiaa
