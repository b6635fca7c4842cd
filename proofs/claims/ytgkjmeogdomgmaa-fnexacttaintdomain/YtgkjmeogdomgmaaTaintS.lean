import Derived.Test.YtgkjmeogdomgmaaL1JoinO
import Derived.Test.YtgkjmeogdomgmaaAddP
import Derived.Test.YtgkjmeogdomgmaaDropP
import Derived.WalkKit
import Derived.ProofKit
import Derived.OpenShut
import Derived.ShutString
import Derived.ChangeOld
import Derived.Below
import Derived.WalkSpells
import Derived.Deep.QuietTactic
import Derived.BigQuiet
import Derived.Deep.RegionWith
import Derived.Deep.WholeRow
import Derived.Deep.DeepCutAuto
import Derived.Deep.RegionHeld2
import Derived.Deep.AppendLies
import Derived.Deep.RegionLaw
namespace Go.Proofs.Ytgkjmeogdomgmaa
open Go.ChangeShapes Go.WideShapes Go.ChangeAt Go.RowKit

def td (x y : Int) : Int := if x = 0 then 0 else max x y

/-- a label joined with another one, of which the first k levels are done: where it owns, it keeps its star. -/
def tdK (k : Nat) (xs ys : List Int) : List Int := (List.range 4).map (fun j => if j < k then td (gt xs j) (gt ys j) else max (gt xs j) (gt ys j))

theorem length_tdK (k : Nat) (xs ys : List Int) : (tdK k xs ys).length = 4 := by simp [tdK]

theorem gt_tdK (k : Nat) (xs ys : List Int) (j : Nat) (h : j < 4) : gt (tdK k xs ys) j = if j < k then td (gt xs j) (gt ys j) else max (gt xs j) (gt ys j) := by simp [tdK, gt, h]

theorem tdK_start {xs : List Int} (ys : List Int) (h : xs.length = 4) : tdK 0 xs ys = mix max xs ys := by simp [tdK, mix, h]

theorem tdK_end {xs : List Int} (ys : List Int) (h : xs.length = 4) : tdK 4 xs ys = mix td xs ys := by
  unfold tdK mix
  rw [h]
  exact List.map_congr_left (fun j hj => if_pos (by simpa using hj))

theorem tdK_star {k : Nat} {xs : List Int} (ys : List Int) (hk : k < 4) (h : gt xs k = 0) : (tdK k xs ys).set k 0 = tdK (k + 1) xs ys := by
  obtain rfl | rfl | rfl | rfl : k = 0 ∨ k = 1 ∨ k = 2 ∨ k = 3 := by omega
  all_goals simp [tdK, td, h, List.range, List.range.loop]

theorem tdK_same {k : Nat} {xs : List Int} (ys : List Int) (hk : k < 4) (h : gt xs k ≠ 0) : tdK k xs ys = tdK (k + 1) xs ys := by
  obtain rfl | rfl | rfl | rfl : k = 0 ∨ k = 1 ∨ k = 2 ∨ k = 3 := by omega
  all_goals simp [tdK, td, h, List.range, List.range.loop]

theorem blk_store {w : World} {b r : Nat} {zs : List Int} {x : Int} (h : Blk w b zs) (hr : r < zs.length) : Blk (w.setCell ⟨b, r, none⟩ (.int .i64 x)) b (zs.set r x) := by
  refine ⟨by simpa using h.1, fun i hi => ?_, fun i => by simpa using h.2.2 i⟩
  by_cases e : i = r
  · subst e
    rw [World.cell?_setCell_same _ _ _ (h.2.1 i hr)]
    simp [gt, hr]
  · rw [World.cell?_setCell_other _ _ _ _ (fun he => by injection he with _ e2; omega), h.2.1 i (by simpa using hi)]
    simp [gt, Ne.symm e]

set_option maxRecDepth 100000 in
set_option maxHeartbeats 2000000 in
theorem l3Tainted_calls (p o q : Nat) (a b : Option Addr) (ca cb : Nat) (xs ys : List Int) (w : World) (hp : p < w.heap.size) (hq : q < w.heap.size)
    (hpc : w.cell? ⟨p, o, none⟩ = some (.slice a 4 ca)) (hqc : w.cell? ⟨q, 0, none⟩ = some (.slice b 4 cb)) (hx : Sl w a 4 xs) (hy : Sl w b 4 ys) :
    Calls Try.prog 71 #[.pointer (some ⟨p, o, none⟩), .pointer (some ⟨q, 0, none⟩)] w fun e w' => ∃ ra rc, e = .returned (.agg #[.slice ra 4 rc]) ∧ OS (InR w.heap.size w'.heap.size) ra 4 (mix td xs ys) w' ∧ Below w.heap.size w w' := by
  have M0 := (Mm.start w).alloc1 (.slice none 0 0) 41
  have al := (Below.refl w.heap.size w).alloc (Nat.le_refl _) (.cells #[.slice none 0 0] 41)
  have hp0 : p < (w.alloc (.cells #[.slice none 0 0] 41)).heap.size := by simp; omega
  have hq0 : q < (w.alloc (.cells #[.slice none 0 0] 41)).heap.size := by simp; omega
  go_enter Try.func71, Try.ntmps71
  go_wp2_with fail
  refine (l1JoinO_calls p o q a b 4 ca cb xs ys _ (by omega) hp0 hq0 ((al.cell (p := ⟨p, o, none⟩) hp).trans hpc) ((al.cell (p := ⟨q, 0, none⟩) hq).trans hqc) (hx.below al (Nat.le_refl _)) (hy.below al (Nat.le_refl _))).mono ?_
  rintro e w1 ⟨ra, rc, rfl, o1, g1⟩
  obtain ⟨_, _, h4 | ⟨bb, rfl, hbb, blk⟩⟩ := OS.ofOSl o1
  · omega
  have z1 := g1.size
  have hb1 := hbb.1
  have hb2 := hbb.2
  simp only [World.size_alloc] at z1 hb1
  have M1 := (M0.below g1).alloc1 (.slice (some ⟨bb, 0, none⟩) 4 rc) 41
  have blk1 := blk.below ((Below.refl w1.heap.size w1).alloc (Nat.le_refl _) (.cells #[.slice (some ⟨bb, 0, none⟩) 4 rc] 41))
  rw [← tdK_start ys hx.1] at blk1
  have HM1 := hide M1
  have HBk := hide blk1
  have hxl := hx.1
  obtain ⟨_, hx⟩ := hx
  obtain ⟨xb, xo, rfl, hxb, hxc⟩ := hx (by omega)
  clear M0 M1 g1 al o1 blk blk1 hbb hp0 hq0
  go_wp2
  go_loopw [6] (fun i wr => ∃ k : Nat, k ≤ 4 ∧ i = .int .i64 k ∧ Blk wr bb (tdK k xs ys) ∧ Mm w wr [(w1.heap.size, 0, .slice (some ⟨bb, 0, none⟩) 4 rc), (w.heap.size, 0, .slice none 0 0)] []) (fun i _ => 4 - (intOf i).toNat)
  case atStart => exact ⟨0, Nat.zero_le _, rfl, HBk.out, HM1.out⟩
  case round =>
    obtain ⟨k, hk, rfl, blk, M2⟩ := hrel
    have hpr := (M2.bel.cell (p := ⟨p, o, none⟩) hp).trans hpc
    have v0 := M2.cell 0 rfl
    have r0 := M2.cell 1 rfl
    have rf := M2.fz 1 rfl
    by_cases hlt : k < 4
    · have ck := (M2.bel.cell (p := ⟨xb, xo + k, none⟩) hxb).trans (hxc k hlt)
      have hki : (k : Int) < 4 := by omega
      have bc := blk.2.1 k (by rw [length_tdK]; exact hlt)
      have bf := blk.2.2 k
      by_cases h0 : gt xs k = 0
      · have e0 : (gt xs k == 0) = true := by simp [h0]
        have HBs : Hid (Blk (wr.setCell ⟨bb, k, none⟩ (.int .i64 0)) bb (tdK (k + 1) xs ys)) := by show Blk _ _ _; rw [← tdK_star ys hlt h0]; exact blk_store blk (by rw [length_tdK]; exact hlt)
        have HMs := hide (M2.out (B := bb) (T := bb + 1) ((OutS.refl (InR bb (bb + 1)) wr).setCell (p := ⟨bb, k, none⟩) ⟨Nat.le_refl _, Nat.lt_succ_self _⟩ (.int .i64 0)) (by omega) (by simp <;> omega) (by simp))
        clear M2 blk
        go_wp2
        go_roundw
        case rel => exact ⟨k + 1, by omega, by go_num, HBs.out, HMs.out⟩
        case measure => simp [intOf]; omega
      · have e0 : (gt xs k == 0) = false := by simp [h0]
        have HBs : Hid (Blk wr bb (tdK (k + 1) xs ys)) := by show Blk _ _ _; rw [← tdK_same ys hlt h0]; exact blk
        have HMs := hide M2
        clear M2 blk
        go_wp2
        go_roundw
        case rel => exact ⟨k + 1, by omega, by go_num, HBs.out, HMs.out⟩
        case measure => simp [intOf]; omega
    · obtain rfl : k = 4 := by omega
      rw [tdK_end ys hxl] at blk
      have HBs := hide blk
      have HB := hide M2.bel
      have HLn : Hid ((mix td xs ys).length = 4) := (length_mix td xs ys).trans hxl
      clear M2 blk
      go_wp2
      refine bodyPost_ret (v := .agg #[.slice (some ⟨bb, 0, none⟩) 4 rc]) (by simp [results, Try.results71, go_sem, r0]) rfl ⟨_, _, rfl, ?_, HB.out.setCell (by simp) _⟩
      exact OS.ofBlk (HBs.out.setCell (by show w.heap.size ≠ _; omega) _) ⟨by omega, by have := HBs.out.1; simpa using this⟩ HLn.out (by omega)

end Go.Proofs.Ytgkjmeogdomgmaa
