import Derived.Test.YtdcfdmcooonfkaaPaIp
import Derived.Test.YtdcfdmcooonfkaaPaS2
import Derived.WalkKit
import Derived.ProofKit
import Derived.OpenShut
import Derived.ShutString
import Derived.ChangeOld
import Derived.Below
import Derived.WalkSpells
import Derived.Deep.QuietTactic
import Derived.BigQuiet
import Derived.Deep.RegionWith
import Derived.Deep.WholeRow
import Derived.Deep.DeepCutAuto
import Derived.Deep.RegionHeld2
import Derived.Deep.AppendLies
import Derived.Deep.RegionLaw
namespace Go.Proofs.Ytdcfdmcooonfkaa
open Go.ChangeShapes Go.WideShapes Go.ChangeAt Go.RowKit

set_option maxRecDepth 100000 in
set_option maxHeartbeats 4000000 in
theorem implEnterPass_calls (a : Option Addr) (n c : Nat) (z : List Int) (b : Option Addr) (m d : Nat) (y : List Int) (q : Option Addr) (l k : Nat) (x : List Int) (w : World) (hr : PR w a n z b m y) (hl : l ≤ maxLen) (hs : Sl w q l x) :
    Calls Try.prog 11 #[.agg #[.slice a n c, .slice b m d], .agg #[.slice q l k]] w fun e w' => ∃ ra rn rc, e = .returned (.agg #[.int .i64 (epC z y x), .slice ra rn rc]) ∧ OS (InR w.heap.size w'.heap.size) ra rn (epL z y x) w' ∧ Below w.heap.size w w' := by
  have M0 := (((Mm.start w).allocC [.slice a n c, .slice b m d] 28).allocC [.slice q l k] 26).allocC [.int .i64 0, .slice none 0 0] 32
  simp only [World.size_alloc] at M0
  have hr0 := hr.below M0.bel (Nat.le_refl _)
  have hs0 := hs.below M0.bel (Nat.le_refl _)
  go_enter Try.func11, Try.ntmps11
  go_wp2_with fail
  refine (implPassFault_calls a n c z b m d y _ hr0).mono ?_
  rintro e w1 ⟨rfl, g1⟩
  have M1 := M0.below g1
  have hr1 := hr0.below g1 (Nat.le_refl _)
  have hs1 := hs0.below g1 (Nat.le_refl _)
  have z1 := g1.size
  simp only [World.size_alloc] at z1
  clear g1 M0 hr0 hs0
  by_cases h1 : psF z y = 0
  rotate_left
  · have HC := hide (epC_psF (x := x) h1)
    have HN : Hid (epL z y x = []) := epL_no (by rw [HC.out]; exact h1)
    have e1 : (psF z y != 0) = true := by simpa using h1
    clear h1
    have r0 := (M1.get 0 rfl).cell 0 rfl
    have r1 := (M1.get 0 rfl).cell 1 rfl
    have f0 := (M1.get 0 rfl).fz 0 (by simp)
    have f1 := (M1.get 0 rfl).fz 1 (by simp)
    have HB := hide M1.bel
    clear M1
    go_wp2
    refine bodyPost_ret (v := .agg #[.int .i64 (psF z y), .slice none 0 0]) (by simp [results, Try.results11, go_sem, r0, r1]) rfl ⟨none, 0, 0, by rw [HC.out], ?_, (HB.out.setCell (by simp <;> omega) _).setCell (by simp <;> omega) _⟩
    rw [HN.out]
    exact osNil _ _
  have e1 : (psF z y != 0) = false := by simp [h1]
  have d0 := (M1.get 1 rfl).cell 0 rfl
  have H1 := hide h1
  clear h1
  go_wp2_with fail
  refine (implLabelFault_calls q l k x _ hl hs1).mono ?_
  rintro e w2 ⟨rfl, g2⟩
  have M2 := M1.below g2
  have hr2 := hr1.below g2 (Nat.le_refl _)
  have hs2 := hs1.below g2 (Nat.le_refl _)
  have z2 := g2.size
  clear g2 M1 hr1 hs1 d0
  by_cases h2 : fault x = 0
  rotate_left
  · have HC := hide (epC_who H1.out h2)
    have HN : Hid (epL z y x = []) := epL_no (by rw [HC.out]; exact h2)
    have e2 : (fault x != 0) = true := by simpa using h2
    clear h2
    have r0 := (M2.get 0 rfl).cell 0 rfl
    have r1 := (M2.get 0 rfl).cell 1 rfl
    have f0 := (M2.get 0 rfl).fz 0 (by simp)
    have f1 := (M2.get 0 rfl).fz 1 (by simp)
    have HB := hide M2.bel
    clear M2
    go_wp2
    refine bodyPost_ret (v := .agg #[.int .i64 (fault x), .slice none 0 0]) (by simp [results, Try.results11, go_sem, r0, r1]) rfl ⟨none, 0, 0, by rw [HC.out], ?_, (HB.out.setCell (by simp <;> omega) _).setCell (by simp <;> omega) _⟩
    rw [HN.out]
    exact osNil _ _
  have e2 : (fault x != 0) = false := by simp [h2]
  have H2 := hide h2
  have d0 := (M2.get 1 rfl).cell 0 rfl
  have c0 := (M2.get 2 rfl).cell 0 rfl
  have c1 := (M2.get 2 rfl).cell 1 rfl
  clear h2
  go_wp2_with fail
  refine (implMayEnter_calls a n c z b m d y q l k x _ hr2 hl hs2).mono ?_
  rintro e w3 ⟨rfl, g3⟩
  have hme : meB z y x = belowB x y := by
    unfold meB; rw [H1.out, H2.out]; rfl
  rw [hme]
  have M3 := M2.below g3
  have z3 := g3.size
  clear g3 M2 hr2 hs2 d0 c0 c1 hme
  cases h3 : belowB x y with
  | false =>
    have HC := hide (epC_den H1.out H2.out h3)
    have HN : Hid (epL z y x = []) := epL_no (by rw [HC.out]; decide)
    clear h3
    have r0 := (M3.get 0 rfl).cell 0 rfl
    have r1 := (M3.get 0 rfl).cell 1 rfl
    have f0 := (M3.get 0 rfl).fz 0 (by simp)
    have f1 := (M3.get 0 rfl).fz 1 (by simp)
    have HB := hide M3.bel
    clear M3
    go_wp2
    refine bodyPost_ret (v := .agg #[.int .i64 (6), .slice none 0 0]) (by simp [results, Try.results11, go_sem, r0, r1]) rfl ⟨none, 0, 0, by rw [HC.out], ?_, (HB.out.setCell (by simp <;> omega) _).setCell (by simp <;> omega) _⟩
    rw [HN.out]
    exact osNil _ _
  | true =>
    have HC := hide (epC_ok H1.out H2.out h3)
    have HN := hide (epL_ok HC.out)
    obtain rfl := fault_len4 H2.out hs
    obtain rfl := fault_len4 (psF_zero H1.out).1 hr.hz
    have hxl := hs.1
    have HM4 := hide (mix4 ent (ys := z) hxl)
    have HX := hide (hs.below M3.bel (Nat.le_refl _))
    have HY := hide (hr.hz.below M3.bel (Nat.le_refl _))
    have HM := hide M3
    have k0 := (M3.get 2 rfl).cell 0 rfl
    have k1 := (M3.get 1 rfl).cell 0 rfl
    have hb : Below w3.heap.size w3 w3.drew := (Below.refl _ _).drew
    clear h3 M3 hr hs hl
    go_upto_region 9 with fail
    go_region_with (first
    | (go_at_call_of 45 (Value.slice q 4 k); refine (levelsOf_calls q k x _ (HX.out.below hb (Nat.le_refl _))).mono ?_; rintro e ua ⟨rfl, ga⟩; replace hb := hb.trans (ga.mono hb.size); have N := HM.out.below hb; have k0 := (N.get 2 rfl).cell 0 rfl; have k1 := (N.get 1 rfl).cell 0 rfl; clear N; clear ga)
    | (go_at_call_of 45 (Value.slice a 4 c); refine (levelsOf_calls a c z _ (HY.out.below hb (Nat.le_refl _))).mono ?_; rintro e ub ⟨rfl, ga⟩; replace hb := hb.trans (ga.mono hb.size); have N := HM.out.below hb; have k0 := (N.get 2 rfl).cell 0 rfl; have k1 := (N.get 1 rfl).cell 0 rfl; clear N; clear ga)
    | (go_at_call 44; refine (mixed_ent x z _).mono ?_; rintro e uc ⟨rfl, ga⟩; replace hb := hb.trans (ga.mono hb.size); clear ga)
    | (go_at_call 43; refine (labelOf_calls _ _ _ _ _).mono ?_; rintro e ud ⟨b4, rfl, hl4, blk4, ga⟩; have hz4 := hb.size; replace hb := hb.trans (ga.mono hb.size); have hz5 := ga.size; have lb4 := blk4.1; have M4 := HM.out.below hb; have r0 := (M4.get 0 rfl).cell 0 rfl; have r1 := (M4.get 0 rfl).cell 1 rfl; have f0 := (M4.get 0 rfl).fz 0 (by simp); have f1 := (M4.get 0 rfl).fz 1 (by simp); have HB := hide M4.bel; clear M4; clear ga))
    all_goals (
      have HK : Hid (Blk ud b4 (mix ent x z)) := by show Blk _ _ _; rw [HM4.out]; exact blk4
      have HLn : Hid ((mix ent x z).length = 4) := (length_mix ent x z).trans hxl
      clear blk4 hb
      go_wp2
      refine bodyPost_ret (v := .agg #[.int .i64 0, .slice (some ⟨b4, 0, none⟩) 4 4]) (by simp [results, Try.results11, go_sem, r0, r1]) rfl ⟨_, _, _, by rw [HC.out], ?_, (HB.out.setCell (by simp <;> omega) _).setCell (by simp <;> omega) _⟩
      rw [HN.out]
      exact OS.ofBlk ((HK.out.setCell (by show w.heap.size + 1 + 1 ≠ _; omega) _).setCell (by show w.heap.size + 1 + 1 ≠ _; omega) _) ⟨by omega, by simpa using lb4⟩ HLn.out (by omega))

set_option maxRecDepth 100000 in
set_option maxHeartbeats 4000000 in
theorem implTaintLabel_calls (a : Option Addr) (n c : Nat) (z : List Int) (b : Option Addr) (m d : Nat) (y : List Int) (w : World) (hn : n ≤ maxLen) (hz : Sl w a n z) (hm : m ≤ maxLen) (hy : Sl w b m y) :
    Calls Try.prog 13 #[.agg #[.slice a n c], .agg #[.slice b m d]] w fun e w' => ∃ ra rn rc, e = .returned (.agg #[.int .i64 (tlC z y), .slice ra rn rc]) ∧ OS (InR w.heap.size w'.heap.size) ra rn (tlL z y) w' ∧ Below w.heap.size w w' := by
  have M0 := (((Mm.start w).allocC [.slice a n c] 26).allocC [.slice b m d] 26).allocC [.int .i64 0, .slice none 0 0] 32
  simp only [World.size_alloc] at M0
  have hz0 := hz.below M0.bel (Nat.le_refl _)
  have hy0 := hy.below M0.bel (Nat.le_refl _)
  clear hz hy
  go_enter Try.func13, Try.ntmps13
  go_wp2_with fail
  refine (implLabelFault_calls a n c z _ hn hz0).mono ?_
  rintro e w1 ⟨rfl, g1⟩
  have M1 := M0.below g1
  have hz1 := hz0.below g1 (Nat.le_refl _)
  have hy1 := hy0.below g1 (Nat.le_refl _)
  have z1 := g1.size
  simp only [World.size_alloc] at z1
  clear g1 M0 hz0 hy0
  by_cases h1 : fault z = 0
  rotate_left
  · have HC := hide (tlC_who (y := y) h1)
    have HN : Hid (tlL z y = []) := tlL_no (by rw [HC.out]; exact h1)
    have e1 : (fault z != 0) = true := by simpa using h1
    clear h1
    have r0 := (M1.get 0 rfl).cell 0 rfl
    have r1 := (M1.get 0 rfl).cell 1 rfl
    have f0 := (M1.get 0 rfl).fz 0 (by simp)
    have f1 := (M1.get 0 rfl).fz 1 (by simp)
    have HB := hide M1.bel
    clear M1
    go_wp2
    refine bodyPost_ret (v := .agg #[.int .i64 (fault z), .slice none 0 0]) (by simp [results, Try.results13, go_sem, r0, r1]) rfl ⟨none, 0, 0, by rw [HC.out], ?_, (HB.out.setCell (by simp <;> omega) _).setCell (by simp <;> omega) _⟩
    rw [HN.out]
    exact osNil _ _
  have e1 : (fault z != 0) = false := by simp [h1]
  have HC1 := hide (tlC_thg (y := y) h1)
  obtain rfl := fault_len4 h1 hz1
  have c1 := (M1.get 1 rfl).cell 0 rfl
  have H1 := hide h1
  clear h1
  go_wp2_with fail
  refine (thingFault_calls b m d y _ hm hy1).mono ?_
  rintro e w2 ⟨rfl, g2⟩
  have M2 := M1.below g2
  have hz2 := hz1.below g2 (Nat.le_refl _)
  have hy2 := hy1.below g2 (Nat.le_refl _)
  have z2 := g2.size
  clear g2 M1 hz1 hy1 c1
  by_cases h2 : thgF y = 0
  rotate_left
  · have HN : Hid (tlL z y = []) := tlL_no (by rw [HC1.out]; exact h2)
    have HC := HC1
    have e2 : (thgF y != 0) = true := by simpa using h2
    clear h2
    have r0 := (M2.get 0 rfl).cell 0 rfl
    have r1 := (M2.get 0 rfl).cell 1 rfl
    have f0 := (M2.get 0 rfl).fz 0 (by simp)
    have f1 := (M2.get 0 rfl).fz 1 (by simp)
    have HB := hide M2.bel
    clear M2
    go_wp2
    refine bodyPost_ret (v := .agg #[.int .i64 (thgF y), .slice none 0 0]) (by simp [results, Try.results13, go_sem, r0, r1]) rfl ⟨none, 0, 0, by rw [HC.out], ?_, (HB.out.setCell (by simp <;> omega) _).setCell (by simp <;> omega) _⟩
    rw [HN.out]
    exact osNil _ _
  have e2 : (thgF y != 0) = false := by simp [h2]
  have HC : Hid (tlC z y = 0) := HC1.out.trans h2
  have HN := hide (tlL_ok HC.out)
  have fy : fault y = 0 := by
    unfold thgF at h2
    split at h2
    · contradiction
    · simp_all
  obtain rfl := fault_len4 fy hy2
  have d0 := (M2.get 2 rfl).cell 0 rfl
  have c1 := (M2.get 1 rfl).cell 0 rfl
  have hzl := hz2.1
  clear h2
  go_wp2_with fail
  refine (taintedBy_calls a b c d z y _ hz2 hy2 H1.out fy).mono ?_
  rintro e w3 ⟨bb, rfl, ⟨hb1, blk⟩, g3⟩
  have M3 := M2.below g3
  have z3 := g3.size
  have lb := blk.1
  have r0 := (M3.get 0 rfl).cell 0 rfl
  have r1 := (M3.get 0 rfl).cell 1 rfl
  have f0 := (M3.get 0 rfl).fz 0 (by simp)
  have f1 := (M3.get 0 rfl).fz 1 (by simp)
  have HB := hide M3.bel
  have HK := hide blk
  have HLn : Hid ((mix td z y).length = 4) := (length_mix td z y).trans hzl
  clear M2 M3 g3 blk hz2 hy2 c1 d0
  go_wp2
  refine bodyPost_ret (v := .agg #[.int .i64 0, .slice (some ⟨bb, 0, none⟩) 4 4]) (by simp [results, Try.results13, go_sem, r0, r1]) rfl ⟨_, _, _, by rw [HC.out], ?_, (HB.out.setCell (by simp <;> omega) _).setCell (by simp <;> omega) _⟩
  rw [HN.out]
  exact OS.ofBlk ((HK.out.setCell (by show w.heap.size + 1 + 1 ≠ _; omega) _).setCell (by show w.heap.size + 1 + 1 ≠ _; omega) _) ⟨by omega, by simpa using lb⟩ HLn.out (by omega)

end Go.Proofs.Ytdcfdmcooonfkaa
