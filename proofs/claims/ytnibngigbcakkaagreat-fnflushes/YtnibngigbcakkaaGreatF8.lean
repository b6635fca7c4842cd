import Derived.Test.YtnibngigbcakkaaGreatF7
import Derived.WalkKit
import Derived.ProofKit
import Derived.OpenShut
import Derived.ShutString
import Derived.ChangeOld
import Derived.Below
import Derived.WalkSpells
import Derived.Deep.QuietTactic
import Derived.BigQuiet
import Derived.Deep.RegionWith
import Derived.Deep.WholeRow
import Derived.Deep.DeepCutAuto
import Derived.Deep.RegionHeld2
import Derived.Deep.AppendLies
import Derived.Deep.RegionLaw
namespace Go.Proofs.YtnibngigbcakkaaGreat
open Go.ChangeShapes Go.WideShapes Go.ChangeAt Go.RowKit

theorem own_capF {w : World} {B n c : Nat} {e : TypeId} {a : Option Addr} {L : List Value} (h : w.ownsRow B e 3 (.slice a n c) n L) : n ≤ c := by
  rcases h.2 with ⟨h', h0⟩ | ⟨g', cap', cur, h', hb, hg, hnc, hcm, hcs, ht⟩
  · omega
  · simp only [Value.slice.injEq] at h'
    omega

set_option maxRecDepth 100000 in
set_option maxHeartbeats 1000000 in
theorem implFlushCacheC_calls (s : Int) (a : Option Addr) (n c : Nat) (ls : List (Int × Int × Int)) (d t : Int) (w : World) (hn : n ≤ maxLen) (hnc : n ≤ c) (hs : Sln w a n ls) :
    Calls Tryz.prog 6 #[.agg #[.int .i64 s, .slice a n c], .int .i64 d, .int .i64 t] w fun e w' => ∃ ra rn rc, e = .returned (.agg #[.int .i64 (faultC s ls), .int .i64 (cV (faultC s ls) ((flL ls d t).length : Int)), .int .i64 (cV (faultC s ls) s), .slice ra rn rc]) ∧ rn ≤ rc ∧
      OL (InR w.heap.size w'.heap.size) ra rn (cL (faultC s ls) (flL ls d t)) w' ∧ Below w.heap.size w w' := by
  have M0 := ((Mm.start w).alloc2 (.int .i64 s) (.slice a n c) 26).alloc4 (.int .i64 0) (.int .i64 0) (.int .i64 0) (.slice none 0 0) 30
  try simp only [World.size_alloc] at M0
  have hb2 := M0.bel
  have hlen := hs.1
  go_enter Tryz.func6, Tryz.ntmps6
  go_wp2_with fail
  refine (implCacheFault_calls s a n c ls _ hn hnc (hs.below hb2 (Nat.le_refl _))).mono ?_
  rintro e w1 ⟨rfl, g1⟩
  have M1 := M0.below g1
  have hs1 := hs.below M1.bel (Nat.le_refl _)
  clear M0 g1 hb2
  by_cases hf : faultC s ls = 0
  rotate_left
  · have HV := hide fun x => cV_no (n := x) hf
    have HL := hide (cL_no (ls := flL ls d t) hf)
    have hne : (faultC s ls != 0) = true := by simpa using hf
    have c0 := M1.cell 0 rfl
    have c1 := M1.cell 1 rfl
    have c2 := M1.cell 2 rfl
    have c3 := M1.cell 3 rfl
    have f0 := M1.fz 0 rfl
    have f1 := M1.fz 1 rfl
    have f2 := M1.fz 2 rfl
    have f3 := M1.fz 3 rfl
    have HB := hide M1.bel
    clear M1 hf
    go_wp2
    refine bodyPost_ret (v := .agg #[.int .i64 (faultC s ls), .int .i64 0, .int .i64 0, .slice none 0 0]) (by simp [results, Tryz.results6, go_sem, c0, c1, c2, c3]) rfl ⟨_, _, _, by rw [HV.out, HV.out], Nat.le_refl _, ?_, ?_⟩
    · rw [HL.out]; exact OL.nil _ _ _
    · exact below_set4 HB.out (by omega) _ _ _ _
  · have HV := hide fun x => cV_ok (n := x) hf
    have HL := hide (cL_ok (ls := flL ls d t) hf)
    have HF := hide hf
    have hne : (faultC s ls != 0) = false := by simp [hf]
    have hinv := faultC_inv hf
    have hn6 : n ≤ 1048576 := by omega
    have hfl := length_flL' ls d t
    have q0 := M1.cell 4 rfl
    have q1 := M1.cell 5 rfl
    have HM := hide M1
    have HS := hide hs1
    have z1 := M1.bel.size
    have zP := M1.lt 0 rfl
    clear M1 hs1 hf hinv
    go_wp2_with fail
    go_region_with (first
      | (go_at_call 20; refine (flushed_calls a n c ls d t _ hn6 ?_).mono ?_; exact HS.out.below (Below.refl _ _).drew (Nat.le_refl _); rintro e w2 ⟨v, rfl, ho, ga⟩; obtain ⟨ra, rc, rfl, hol⟩ := own_ol (by omega) rfl ho; have hcap := own_capF ho; have M2 := HM.out.drew.below ga; have q0' := M2.cell 4 rfl; clear q0 q1; have z2 := ga.size; clear ga ho)
      | (go_at_call 19; refine (remembered_calls s ra _ rc _).mono ?_; rintro e w3 ⟨rfl, gb⟩; have M3 := M2.below gb; have z3 := gb.size; have ol3 := OL.loc.below gb hol; clear gb M2 hol; have r0 := M3.cell 0 rfl; have r1 := M3.cell 1 rfl; have r2 := M3.cell 2 rfl; have r3 := M3.cell 3 rfl; have e0 := M3.fz 0 rfl; have e1 := M3.fz 1 rfl; have e2 := M3.fz 2 rfl; have e3 := M3.fz 3 rfl))
    all_goals (
      have HB := hide M3.bel
      clear M3
      go_wp2
      refine bodyPost_ret (v := .agg #[.int .i64 0, .int .i64 ((flL ls d t).length : Int), .int .i64 s, .slice ra (flL ls d t).length rc]) (by simp [results, Tryz.results6, go_sem, r0, r1, r2, r3]) rfl ⟨ra, _, rc, by rw [HV.out, HV.out, HF.out], hcap, ?_, below_set4 HB.out (by omega) _ _ _ _⟩
      rw [HL.out]
      exact (OL.set4 ol3 (fun e => by have := e.1; simp only [World.size_drew] at this; omega) _ _ _ _).mono (fun k hk => ⟨by have := hk.1; simp only [World.size_drew] at this; omega, by have := hk.2; simp; omega⟩))

end Go.Proofs.YtnibngigbcakkaaGreat
