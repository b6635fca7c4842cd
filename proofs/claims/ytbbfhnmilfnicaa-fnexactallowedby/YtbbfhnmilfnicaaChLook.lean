import Derived.Test.YtbbfhnmilfnicaaChI2
import Derived.WalkKit
import Derived.ProofKit
import Derived.OpenShut
import Derived.ShutString
import Derived.ChangeOld
import Derived.Below
import Derived.WalkSpells
import Derived.Deep.QuietTactic
import Derived.BigQuiet
import Derived.Deep.RegionWith
import Derived.Deep.WholeRow
import Derived.Deep.DeepCutAuto
import Derived.Deep.RegionHeld2
import Derived.Deep.AppendLies
import Derived.Deep.RegionLaw
namespace Go.Proofs.Ytbbfhnmilfnicaa
open Go.ChangeShapes Go.WideShapes Go.ChangeAt Go.RowKit


def lkC (s : Int) (ls : List (Int × Int × Int)) (d t : Int) : Int := if faultC s ls = 0 then (if atL ls d t < 0 then 4 else 0) else faultC s ls

def lkV (s : Int) (ls : List (Int × Int × Int)) (d t : Int) : Int := if faultC s ls = 0 then (if atL ls d t < 0 then 0 else (g3 ls (atL ls d t).toNat).2.2) else 0

set_option maxRecDepth 100000 in
theorem implLookCache_calls (s : Int) (a : Option Addr) (n c : Nat) (ls : List (Int × Int × Int)) (d t : Int) (w : World) (hn : n ≤ maxLen) (hnc : n ≤ c) (hs : Sln w a n ls) :
    Calls Try.prog 37 #[.agg #[.int .i64 s, .slice a n c], .int .i64 d, .int .i64 t] w fun e w' => e = .returned (.agg #[.int .i64 (lkC s ls d t), .int .i64 (lkV s ls d t)]) ∧ Below w.heap.size w w' := by
  have M0 := ((Mm.start w).alloc2 (.int .i64 s) (.slice a n c) 45).alloc2 (.int .i64 0) (.int .i64 0) 41
  try simp only [World.size_alloc] at M0
  have hb2 := M0.bel
  have z0 := hb2.size
  have hlen := hs.1
  go_enter Try.func37, Try.ntmps37
  go_wp2_with fail
  refine (implCacheFault_calls s a n c ls _ hn hnc (hs.below hb2 (Nat.le_refl _))).mono ?_
  rintro e w1 ⟨rfl, g1⟩
  have M1 := M0.below g1
  have c0 := M1.cell 0 rfl
  have c1 := M1.cell 1 rfl
  have c3 := M1.cell 3 rfl
  have f0 := M1.fz 0 rfl
  have f1 := M1.fz 1 rfl
  have HB := hide M1.bel
  by_cases hf : faultC s ls = 0
  rotate_left
  · have HC : Hid (lkC s ls d t = faultC s ls) := if_neg hf
    have HV : Hid (lkV s ls d t = 0) := if_neg hf
    have hne : (faultC s ls != 0) = true := by simpa using hf
    clear M0 M1 g1 hb2 z0 hf
    go_wp2
    refine bodyPost_ret (v := .agg #[.int .i64 (faultC s ls), .int .i64 0]) (by simp [results, Try.results37, go_sem, c0, c1]) rfl ⟨by rw [HC.out, HV.out], ?_⟩
    exact (HB.out.setCell (by simp) _).setCell (by simp) _
  · have hne : (faultC s ls != 0) = false := by simp [hf]
    have hl := atL_lt ls d t
    clear M0 g1 hb2
    go_wp2_with fail
    refine (placeOf_calls a n c ls d t _ hn (hs.below M1.bel (Nat.le_refl _))).mono ?_
    rintro e w2 ⟨rfl, g2⟩
    have M2 := M1.below g2
    have d0 := M2.cell 0 rfl
    have d1 := M2.cell 1 rfl
    have d3 := M2.cell 3 rfl
    have e0 := M2.fz 0 rfl
    have e1 := M2.fz 1 rfl
    have HB2 := hide M2.bel
    by_cases hat : atL ls d t < 0
    · have HC : Hid (lkC s ls d t = 4) := by show lkC _ _ _ _ = _; unfold lkC; rw [if_pos hf, if_pos hat]
      have HV : Hid (lkV s ls d t = 0) := by show lkV _ _ _ _ = _; unfold lkV; rw [if_pos hf, if_pos hat]
      clear M1 M2 g2 z0 hf hne c0 c1 c3 f0 f1
      go_wp2
      refine bodyPost_ret (v := .agg #[.int .i64 4, .int .i64 0]) (by simp [results, Try.results37, go_sem, d0, d1]) rfl ⟨by rw [HC.out, HV.out], ?_⟩
      exact (HB2.out.setCell (by simp) _).setCell (by simp) _
    · obtain ⟨j, hj⟩ : ∃ j : Nat, atL ls d t = (j : Int) := ⟨(atL ls d t).toNat, by omega⟩
      have hjn : j < n := by omega
      have HC : Hid (lkC s ls d t = 0) := by show lkC _ _ _ _ = _; unfold lkC; rw [if_pos hf, if_neg hat]
      have HV : Hid (lkV s ls d t = (g3 ls j).2.2) := by show lkV _ _ _ _ = _; unfold lkV; rw [if_pos hf, if_neg hat, hj]; simp
      rw [hj]
      obtain ⟨_, hs'⟩ := hs
      obtain ⟨b, off, rfl, hb, hc⟩ := hs' (by omega)
      obtain ⟨_, _, r2⟩ := cells3 hc hjn
      have p2 := (M2.bel.cell (p := ⟨b, off + j * 3 + 2, none⟩) hb).trans r2
      clear M1 M2 g2 z0 hf hne c0 c1 c3 f0 f1 hc r2 hat hl hj
      go_wp2
      refine bodyPost_ret (v := .agg #[.int .i64 0, .int .i64 (g3 ls j).2.2]) (by simp [results, Try.results37, go_sem, d0, d1]) rfl ⟨by rw [HC.out, HV.out], ?_⟩
      exact (HB2.out.setCell (by simp) _).setCell (by simp) _

end Go.Proofs.Ytbbfhnmilfnicaa
