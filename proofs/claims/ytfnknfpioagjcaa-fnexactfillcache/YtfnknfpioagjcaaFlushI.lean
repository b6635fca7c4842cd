import Derived.Test.YtfnknfpioagjcaaFlushed
import Derived.Test.YtfnknfpioagjcaaChI2
import Derived.WalkKit
import Derived.ProofKit
import Derived.OpenShut
import Derived.ShutString
import Derived.ChangeOld
import Derived.Below
import Derived.WalkSpells
import Derived.Deep.QuietTactic
import Derived.BigQuiet
import Derived.Deep.RegionWith
import Derived.Deep.WholeRow
import Derived.Deep.DeepCutAuto
import Derived.Deep.RegionHeld2
import Derived.Deep.AppendLies
import Derived.Deep.RegionLaw
namespace Go.Proofs.Ytfnknfpioagjcaa
open Go.ChangeShapes Go.WideShapes Go.ChangeAt Go.RowKit

def cV (c n : Int) : Int := if c = 0 then n else 0

def cL (c : Int) (ls : List (Int × Int × Int)) : List (Int × Int × Int) := if c = 0 then ls else []

theorem cV_ok {c n : Int} (h : c = 0) : cV c n = n := if_pos h
theorem cV_no {c n : Int} (h : c ≠ 0) : cV c n = 0 := if_neg h
theorem cL_ok {c : Int} {ls : List (Int × Int × Int)} (h : c = 0) : cL c ls = ls := if_pos h
theorem cL_no {c : Int} {ls : List (Int × Int × Int)} (h : c ≠ 0) : cL c ls = [] := if_neg h

theorem OL.set4 {S : Nat → Prop} {a : Option Addr} {n : Nat} {ls : List (Int × Int × Int)} {w : World} (h : OL S a n ls w) {P : Nat} (hP : ¬ S P) (v0 v1 v2 v3 : Value) :
    OL S a n ls ((((w.setCell ⟨P, 0, none⟩ v0).setCell ⟨P, 1, none⟩ v1).setCell ⟨P, 2, none⟩ v2).setCell ⟨P, 3, none⟩ v3) :=
  OL.loc.setC (OL.loc.setC (OL.loc.setC (OL.loc.setC h (by exact hP) v0) (by exact hP) v1) (by exact hP) v2) (by exact hP) v3

theorem below_set4 {B : Nat} {w u : World} (h : Below B w u) {P : Nat} (hP : B ≤ P) (v0 v1 v2 v3 : Value) :
    Below B w ((((u.setCell ⟨P, 0, none⟩ v0).setCell ⟨P, 1, none⟩ v1).setCell ⟨P, 2, none⟩ v2).setCell ⟨P, 3, none⟩ v3) :=
  (((h.setCell (by exact hP) v0).setCell (by exact hP) v1).setCell (by exact hP) v2).setCell (by exact hP) v3

set_option maxRecDepth 100000 in
set_option maxHeartbeats 1000000 in
theorem implFlushCache_calls (s : Int) (a : Option Addr) (n c : Nat) (ls : List (Int × Int × Int)) (d t : Int) (w : World) (hn : n ≤ maxLen) (hnc : n ≤ c) (hs : Sln w a n ls) :
    Calls Try.prog 24 #[.agg #[.int .i64 s, .slice a n c], .int .i64 d, .int .i64 t] w fun e w' => ∃ ra rn rc, e = .returned (.agg #[.int .i64 (faultC s ls), .int .i64 (cV (faultC s ls) ((flL ls d t).length : Int)), .int .i64 (cV (faultC s ls) s), .slice ra rn rc]) ∧
      OL (InR w.heap.size w'.heap.size) ra rn (cL (faultC s ls) (flL ls d t)) w' ∧ Below w.heap.size w w' := by
  have M0 := ((Mm.start w).alloc2 (.int .i64 s) (.slice a n c) 29).alloc4 (.int .i64 0) (.int .i64 0) (.int .i64 0) (.slice none 0 0) 41
  try simp only [World.size_alloc] at M0
  have hb2 := M0.bel
  have hlen := hs.1
  go_enter Try.func24, Try.ntmps24
  go_wp2_with fail
  refine (implCacheFault_calls s a n c ls _ hn hnc (hs.below hb2 (Nat.le_refl _))).mono ?_
  rintro e w1 ⟨rfl, g1⟩
  have M1 := M0.below g1
  have hs1 := hs.below M1.bel (Nat.le_refl _)
  clear M0 g1 hb2
  by_cases hf : faultC s ls = 0
  rotate_left
  · have HV := hide fun x => cV_no (n := x) hf
    have HL := hide (cL_no (ls := flL ls d t) hf)
    have hne : (faultC s ls != 0) = true := by simpa using hf
    have c0 := M1.cell 0 rfl
    have c1 := M1.cell 1 rfl
    have c2 := M1.cell 2 rfl
    have c3 := M1.cell 3 rfl
    have f0 := M1.fz 0 rfl
    have f1 := M1.fz 1 rfl
    have f2 := M1.fz 2 rfl
    have f3 := M1.fz 3 rfl
    have HB := hide M1.bel
    clear M1 hf
    go_wp2
    refine bodyPost_ret (v := .agg #[.int .i64 (faultC s ls), .int .i64 0, .int .i64 0, .slice none 0 0]) (by simp [results, Try.results24, go_sem, c0, c1, c2, c3]) rfl ⟨_, _, _, by rw [HV.out, HV.out], ?_, ?_⟩
    · rw [HL.out]; exact OL.nil _ _ _
    · exact below_set4 HB.out (by omega) _ _ _ _
  · have HV := hide fun x => cV_ok (n := x) hf
    have HL := hide (cL_ok (ls := flL ls d t) hf)
    have HF := hide hf
    have hne : (faultC s ls != 0) = false := by simp [hf]
    have hinv := faultC_inv hf
    have hn6 : n ≤ 1048576 := by omega
    have hfl := length_flL' ls d t
    have q0 := M1.cell 4 rfl
    have q1 := M1.cell 5 rfl
    have HM := hide M1
    have HS := hide hs1
    have z1 := M1.bel.size
    have zP := M1.lt 0 rfl
    clear M1 hs1 hf hinv
    go_wp2_with fail
    go_region_with (first
      | (go_at_call 40; refine (flushed_calls a n c ls d t _ hn6 ?_).mono ?_; exact HS.out.below (Below.refl _ _).drew (Nat.le_refl _); rintro e w2 ⟨v, rfl, ho, ga⟩; obtain ⟨ra, rc, rfl, hol⟩ := own_ol (by omega) rfl ho; have M2 := HM.out.drew.below ga; have q0' := M2.cell 4 rfl; clear q0 q1; have z2 := ga.size; clear ga ho)
      | (go_at_call 39; refine (remembered_calls s ra _ rc _).mono ?_; rintro e w3 ⟨rfl, gb⟩; have M3 := M2.below gb; have z3 := gb.size; have ol3 := OL.loc.below gb hol; clear gb M2 hol; have r0 := M3.cell 0 rfl; have r1 := M3.cell 1 rfl; have r2 := M3.cell 2 rfl; have r3 := M3.cell 3 rfl; have e0 := M3.fz 0 rfl; have e1 := M3.fz 1 rfl; have e2 := M3.fz 2 rfl; have e3 := M3.fz 3 rfl))
    all_goals (
      have HB := hide M3.bel
      clear M3
      go_wp2
      refine bodyPost_ret (v := .agg #[.int .i64 0, .int .i64 ((flL ls d t).length : Int), .int .i64 s, .slice ra (flL ls d t).length rc]) (by simp [results, Try.results24, go_sem, r0, r1, r2, r3]) rfl ⟨ra, _, rc, by rw [HV.out, HV.out, HF.out], ?_, below_set4 HB.out (by omega) _ _ _ _⟩
      rw [HL.out]
      exact (OL.set4 ol3 (fun e => by have := e.1; simp only [World.size_drew] at this; omega) _ _ _ _).mono (fun k hk => ⟨by have := hk.1; simp only [World.size_drew] at this; omega, by have := hk.2; simp; omega⟩))

end Go.Proofs.Ytfnknfpioagjcaa
