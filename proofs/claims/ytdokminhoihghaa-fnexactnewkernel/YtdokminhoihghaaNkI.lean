import Derived.Test.YtdokminhoihghaaNkS
import Derived.Test.YtdokminhoihghaaLevels
import Derived.Test.YtdokminhoihghaaW7
import Derived.WalkKit
import Derived.ProofKit
import Derived.OpenShut
import Derived.ShutString
import Derived.ChangeOld
import Derived.Below
import Derived.WalkSpells
import Derived.Deep.QuietTactic
import Derived.BigQuiet
import Derived.Deep.RegionWith
import Derived.Deep.WholeRow
import Derived.Deep.DeepCutAuto
import Derived.Deep.RegionHeld2
import Derived.Deep.AppendLies
import Derived.Deep.RegionLaw
namespace Go.Proofs.Ytdokminhoihghaa
open Go.ChangeShapes Go.WideShapes Go.ChangeAt Go.RowKit

def nxK (kd : Int) : Int := if kd = 1 then 1 else 0

set_option maxRecDepth 100000 in
set_option maxHeartbeats 1000000 in
theorem emptyObject_calls (kd : Int) (a : Option Addr) (ca : Nat) (zs : List Int) (q : Int) (w : World) (h4 : zs.length = 4) (hs : Sl w a 4 zs) :
    Calls Try.prog 53 #[.int .i64 kd, .agg #[.slice a 4 ca], .int .i64 q] w fun e w' => ∃ b, e = .returned (.agg #[.int .i64 0, .int .i64 0, .int .i64 kd, .slice (some ⟨b, 0, none⟩) 4 4, .int .i64 q, .int .i64 (nxK kd), .slice none 0 0]) ∧ w.heap.size ≤ b ∧ Blk w' b zs ∧ Below w.heap.size w w' := by
  have M0 := ((Mm.start w).allocC [.slice a 4 ca] 40).allocC [.int .i64 0, .int .i64 0, .int .i64 0, .slice none 0 0, .int .i64 0, .int .i64 0, .slice none 0 0] 67
  simp only [World.size_alloc] at M0
  go_enter Try.func53, Try.ntmps53
  go_wp2_with fail
  refine (levelsOf_calls a ca zs _ (hs.below M0.bel (Nat.le_refl _))).mono ?_
  rintro e wl ⟨rfl, gl⟩
  unfold ints4
  go_wp2_with fail
  refine (labelOf_calls _ _ _ _ wl).mono ?_
  rintro e w2 ⟨lb, rfl, hlb, blk, gk⟩
  rw [← list4 h4] at blk
  have zl := gl.size
  simp only [World.size_alloc] at zl
  have zk := gk.size
  have lb2 := blk.1
  have M2 := (M0.below (gl.trans (gk.mono gl.size))).fact (B := lb) (T := lb + 1) (P := fun u => Blk u lb zs) (Blk.loc ⟨Nat.le_refl _, by omega⟩) blk
  have HB1 := hide (below_set7 M2.bel (P := w.heap.size + 1) (by omega) (.int .i64 0) (.int .i64 0) (.int .i64 kd) (.slice (some ⟨lb, 0, none⟩) 4 4) (.int .i64 q) (.int .i64 (nxK kd)) (.slice none 0 0))
  have HK1 := hide (loc_set7 (Blk.loc (S := InR lb (lb + 1)) ⟨Nat.le_refl _, by omega⟩) (M2.get 0 rfl) (P := w.heap.size + 1) (fun h => by have := h.1; omega) (.int .i64 0) (.int .i64 0) (.int .i64 kd) (.slice (some ⟨lb, 0, none⟩) 4 4) (.int .i64 q) (.int .i64 (nxK kd)) (.slice none 0 0))
  have HB := hide (fun o => HB1.out.alloc HB1.out.size o)
  have HK := hide (fun o => HK1.out.below ((Below.refl _ _).alloc (Nat.le_refl _) o))
  clear HB1 HK1
  have d0_ := (M2.get 1 rfl).cell 0 rfl
  have f0_ := (M2.get 1 rfl).fz 0 (by simp)
  have d1_ := (M2.get 1 rfl).cell 1 rfl
  have f1_ := (M2.get 1 rfl).fz 1 (by simp)
  have d2_ := (M2.get 1 rfl).cell 2 rfl
  have f2_ := (M2.get 1 rfl).fz 2 (by simp)
  have d3_ := (M2.get 1 rfl).cell 3 rfl
  have f3_ := (M2.get 1 rfl).fz 3 (by simp)
  have d4_ := (M2.get 1 rfl).cell 4 rfl
  have f4_ := (M2.get 1 rfl).fz 4 (by simp)
  have d5_ := (M2.get 1 rfl).cell 5 rfl
  have f5_ := (M2.get 1 rfl).fz 5 (by simp)
  have d6_ := (M2.get 1 rfl).cell 6 rfl
  have f6_ := (M2.get 1 rfl).fz 6 (by simp)
  have z2 : w.heap.size + 1 < w2.heap.size := by omega
  clear M0 M2 gl gk blk
  by_cases h1 : kd = 1
  · have e1 : (kd == 1) = true := by simpa using h1
    have hn : nxK kd = 1 := if_pos h1
    rw [hn] at HB HK
    have HN := hide hn
    clear h1 hn
    go_wp2
    have r0 := set7_at0 _ _ (.int .i64 0) (.int .i64 0) (.int .i64 kd) (.slice (some ⟨lb, 0, none⟩) 4 4) (.int .i64 q) (.int .i64 1) (.slice none 0 0) ⟨_, d0_⟩
    have r1 := set7_at1 _ _ (.int .i64 0) (.int .i64 0) (.int .i64 kd) (.slice (some ⟨lb, 0, none⟩) 4 4) (.int .i64 q) (.int .i64 1) (.slice none 0 0) ⟨_, d1_⟩
    have r2 := set7_at2 _ _ (.int .i64 0) (.int .i64 0) (.int .i64 kd) (.slice (some ⟨lb, 0, none⟩) 4 4) (.int .i64 q) (.int .i64 1) (.slice none 0 0) ⟨_, d2_⟩
    have r3 := set7_at3 _ _ (.int .i64 0) (.int .i64 0) (.int .i64 kd) (.slice (some ⟨lb, 0, none⟩) 4 4) (.int .i64 q) (.int .i64 1) (.slice none 0 0) ⟨_, d3_⟩
    have r4 := set7_at4 _ _ (.int .i64 0) (.int .i64 0) (.int .i64 kd) (.slice (some ⟨lb, 0, none⟩) 4 4) (.int .i64 q) (.int .i64 1) (.slice none 0 0) ⟨_, d4_⟩
    have r5 := set7_at5 _ _ (.int .i64 0) (.int .i64 0) (.int .i64 kd) (.slice (some ⟨lb, 0, none⟩) 4 4) (.int .i64 q) (.int .i64 1) (.slice none 0 0) ⟨_, d5_⟩
    have r6 := set7_at6 _ _ (.int .i64 0) (.int .i64 0) (.int .i64 kd) (.slice (some ⟨lb, 0, none⟩) 4 4) (.int .i64 q) (.int .i64 1) (.slice none 0 0) ⟨_, d6_⟩
    refine bodyPost_ret (v := .agg #[.int .i64 0, .int .i64 0, .int .i64 kd, .slice (some ⟨lb, 0, none⟩) 4 4, .int .i64 q, .int .i64 1, .slice none 0 0]) (by simp [results, Try.results53, go_sem, z2, r0, r1, r2, r3, r4, r5, r6]) rfl ⟨lb, by rw [HN.out], by omega, HK.out _, HB.out _⟩
  · have e1 : (kd == 1) = false := by simpa using h1
    have hn : nxK kd = 0 := if_neg h1
    rw [hn] at HB HK
    have HN := hide hn
    clear h1 hn
    go_wp2
    have r0 := set7_at0 _ _ (.int .i64 0) (.int .i64 0) (.int .i64 kd) (.slice (some ⟨lb, 0, none⟩) 4 4) (.int .i64 q) (.int .i64 0) (.slice none 0 0) ⟨_, d0_⟩
    have r1 := set7_at1 _ _ (.int .i64 0) (.int .i64 0) (.int .i64 kd) (.slice (some ⟨lb, 0, none⟩) 4 4) (.int .i64 q) (.int .i64 0) (.slice none 0 0) ⟨_, d1_⟩
    have r2 := set7_at2 _ _ (.int .i64 0) (.int .i64 0) (.int .i64 kd) (.slice (some ⟨lb, 0, none⟩) 4 4) (.int .i64 q) (.int .i64 0) (.slice none 0 0) ⟨_, d2_⟩
    have r3 := set7_at3 _ _ (.int .i64 0) (.int .i64 0) (.int .i64 kd) (.slice (some ⟨lb, 0, none⟩) 4 4) (.int .i64 q) (.int .i64 0) (.slice none 0 0) ⟨_, d3_⟩
    have r4 := set7_at4 _ _ (.int .i64 0) (.int .i64 0) (.int .i64 kd) (.slice (some ⟨lb, 0, none⟩) 4 4) (.int .i64 q) (.int .i64 0) (.slice none 0 0) ⟨_, d4_⟩
    have r5 := set7_at5 _ _ (.int .i64 0) (.int .i64 0) (.int .i64 kd) (.slice (some ⟨lb, 0, none⟩) 4 4) (.int .i64 q) (.int .i64 0) (.slice none 0 0) ⟨_, d5_⟩
    have r6 := set7_at6 _ _ (.int .i64 0) (.int .i64 0) (.int .i64 kd) (.slice (some ⟨lb, 0, none⟩) 4 4) (.int .i64 q) (.int .i64 0) (.slice none 0 0) ⟨_, d6_⟩
    refine bodyPost_ret (v := .agg #[.int .i64 0, .int .i64 0, .int .i64 kd, .slice (some ⟨lb, 0, none⟩) 4 4, .int .i64 q, .int .i64 0, .slice none 0 0]) (by simp [results, Try.results53, go_sem, z2, r0, r1, r2, r3, r4, r5, r6]) rfl ⟨lb, by rw [HN.out], by omega, HK.out _, HB.out _⟩

set_option maxRecDepth 100000 in
set_option maxHeartbeats 2000000 in
theorem implNewKernel_calls (a : Option Addr) (n cap : Nat) (zs : List Int) (q : Int) (w : World) (hm : n ≤ maxLen) (hs : Sl w a n zs) : Calls Try.prog 17 #[.agg #[.slice a n cap], .int .i64 q] w fun e w' => ∃ ra rn rc, e = .returned (.agg #[.int .i64 (nkC zs q), .int .i64 0, .slice ra rn rc]) ∧ OO (InR w.heap.size w'.heap.size) ra rn (nkL zs q) w' ∧ Below w.heap.size w w' := by
  have hlen := hs.1
  have M0 := ((Mm.start w).allocC [.slice a n cap] 40).allocC [.int .i64 0, .int .i64 0, .slice none 0 0] 38
  simp only [World.size_alloc] at M0
  have zm := hm
  have HF := hide (thingFault_calls a n cap zs _ zm (hs.below M0.bel (Nat.le_refl _)))
  have HS := hide hs
  clear hs
  go_enter Try.func17, Try.ntmps17
  go_wp2_with fail
  refine HF.out.mono ?_
  rintro e w1 ⟨rfl, g1⟩
  have z1 : w.heap.size + 2 ≤ w1.heap.size := by have := g1.size; simpa using this
  have HM := hide (M0.below g1)
  clear M0 g1 HF
  by_cases h1 : thgF zs = 0
  rotate_left
  · have HC : Hid (nkC zs q = thgF zs) := nkC_thg h1
    have HL : Hid (nkL zs q = []) := nkL_no (by rw [HC.out]; exact h1)
    have e1 : (thgF zs != 0) = true := by simpa using h1
    have g2 : Below w1.heap.size w1 w1 := Below.refl _ _
    clear h1
    have M2 := HM.out.below g2
    have r0 := (M2.get 0 rfl).cell 0 rfl
    have r1 := (M2.get 0 rfl).cell 1 rfl
    have r2 := (M2.get 0 rfl).cell 2 rfl
    have f0 := (M2.get 0 rfl).fz 0 (by simp)
    have f1 := (M2.get 0 rfl).fz 1 (by simp)
    have f2 := (M2.get 0 rfl).fz 2 (by simp)
    have HB := hide M2.bel
    clear g2 M2
    go_wp2
    refine bodyPost_ret (v := .agg #[.int .i64 (thgF zs), .int .i64 0, .slice none 0 0]) (by simp [results, Try.results17, go_sem, r0, r1, r2]) rfl ⟨none, 0, 0, by rw [HC.out], ?_, ((HB.out.setCell (by simp) _).setCell (by simp) _).setCell (by simp) _⟩
    rw [HL.out]
    exact OO.nil _ _ _
  have e1 : (thgF zs != 0) = false := by simp [h1]
  have hl4 := fault_four (thgF_0 h1)
  cases h3 : up q 200 with
  | false =>
    have HC : Hid (nkC zs q = 3) := nkC_rng h1 h3
    have HL : Hid (nkL zs q = []) := nkL_no (by rw [HC.out]; decide)
    have g2 : Below w1.heap.size w1 w1 := Below.refl _ _
    clear h1
    have M2 := HM.out.below g2
    have r0 := (M2.get 0 rfl).cell 0 rfl
    have r1 := (M2.get 0 rfl).cell 1 rfl
    have r2 := (M2.get 0 rfl).cell 2 rfl
    have f0 := (M2.get 0 rfl).fz 0 (by simp)
    have f1 := (M2.get 0 rfl).fz 1 (by simp)
    have f2 := (M2.get 0 rfl).fz 2 (by simp)
    have HB := hide M2.bel
    clear g2 M2
    go_wp2_with (go_at_call 52; with_reducible refine (isUpTo_is _ _ _ _ h3).mono ?_; rintro e w' ⟨rfl, hw'⟩; rw [hw']; clear hw' w')
    refine bodyPost_ret (v := .agg #[.int .i64 (3), .int .i64 0, .slice none 0 0]) (by simp [results, Try.results17, go_sem, r0, r1, r2]) rfl ⟨none, 0, 0, by rw [HC.out], ?_, ((HB.out.setCell (by simp) _).setCell (by simp) _).setCell (by simp) _⟩
    rw [HL.out]
    exact OO.nil _ _ _
  | true =>
  have HC : Hid (nkC zs q = 0) := nkC_ok h1 h3
  have HL : Hid (nkL zs q = [(-1, 0, 1, zs, q, 1, [])]) := nkL_ok HC.out
  obtain rfl : n = 4 := by omega
  have p1 := (HM.out.get 1 rfl).cell 0 rfl
  clear h1
  go_wp2_with (go_at_call 52; with_reducible refine (isUpTo_is _ _ _ _ h3).mono ?_; rintro e w' ⟨rfl, hw'⟩; rw [hw']; clear hw' w')
  refine (emptyObject_calls 1 a cap zs q w1 hl4 (HS.out.below HM.out.bel (Nat.le_refl _))).mono ?_
  rintro e w2 ⟨lb, rfl, hlb, blk, g2⟩
  rw [show nxK 1 = 1 from rfl]
  have z2 := g2.size
  have M2 := HM.out.below g2
  have r0 := (M2.get 0 rfl).cell 0 rfl
  have r1 := (M2.get 0 rfl).cell 1 rfl
  have r2 := (M2.get 0 rfl).cell 2 rfl
  have f0 := (M2.get 0 rfl).fz 0 (by simp)
  have f1 := (M2.get 0 rfl).fz 1 (by simp)
  have f2 := (M2.get 0 rfl).fz 2 (by simp)
  have HB := hide M2.bel
  have HO : Hid (OS (fun k => w.heap.size ≤ k ∧ k < w2.heap.size ∧ k ≠ w.heap.size + 1) (some ⟨lb, 0, none⟩) 4 zs w2) := OS.ofBlk blk ⟨by omega, blk.1, by omega⟩ hl4 (by omega)
  have lR : w.heap.size + 1 < w2.heap.size := by omega
  have lS : w.heap.size < w2.heap.size := by omega
  clear M2 g2 HM
  obtain ⟨n0, n1, n2⟩ := nk_cells (la := (some ⟨lb, 0, none⟩)) (lc := 4) (q := q) lR r0 r1 r2
  unfold nkW at n0 n1 n2
  go_wp2
  refine bodyPost_ret (v := .agg #[.int .i64 0, .int .i64 0, .slice (some ⟨w2.heap.size + 1, 0, none⟩) 1 1]) (by simp [results, Try.results17, go_sem, n0, n1, n2]) rfl ⟨some ⟨w2.heap.size + 1, 0, none⟩, 1, 1, by rw [HC.out], ?_, ?_⟩
  · rw [HL.out]
    exact nk_end (lc := 4) HO.out hl4 (by omega) (by omega)
  · exact ((((HB.out.setCell (by simp) _).setCell (by simp) _).setCell (by simp) _).alloc (by simp; omega) _).alloc (by simp; omega) _

end Go.Proofs.Ytdokminhoihghaa
