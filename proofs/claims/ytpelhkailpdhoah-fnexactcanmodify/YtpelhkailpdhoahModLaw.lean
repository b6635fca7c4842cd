import Derived.Test.YtpelhkailpdhoahModify
import Derived.WalkKit
import Derived.ProofKit
import Derived.OpenShut
import Derived.ShutString
import Derived.ChangeOld
import Derived.Below
import Derived.WalkSpells
import Derived.Deep.QuietTactic
import Derived.BigQuiet
import Derived.Deep.RegionWith
import Derived.Deep.WholeRow
import Derived.Deep.DeepCutAuto
import Derived.Deep.RegionHeld2
import Derived.Deep.AppendLies
import Derived.Deep.RegionLaw
namespace Go.Proofs.Ytpelhkailpdhoah
open Go.ChangeShapes Go.WideShapes Go.ChangeAt Go.RowKit

theorem law_bigA_CanModify (a0 a1 : Option Addr) (l0 c0 l1 c1 : Nat) (w : World) (hm0 : l0 ≤ maxLen) (hbig : 1048576 < l0) :
    Calls Try.prog 3 #[.agg #[.slice a0 l0 c0], .agg #[.slice a1 l1 c1]] w fun e w' => e = .returned (.bool true) ∧ Below w.heap.size w w' := by
  have hb0 := fun o1 o2 => ((Below.refl w.heap.size w).alloc (Nat.le_refl _) o1).alloc (by simp) o2
  go_enter Try.func3, Try.ntmps3
  go_wp2_with fail
  refine (szLabel_calls a0 l0 c0 1048576 _ (by omega) (by omega) hm0).mono ?_
  rintro e w1 ⟨rfl, hb⟩
  have hbw : Below w.heap.size w w1 := (hb0 _ _).trans (hb.mono (by simp; omega))
  rw [szI_neg (by omega)]
  go_wp2
  go_ret
  exact ⟨rfl, hbw⟩

theorem law_bigB_CanModify (a0 a1 : Option Addr) (l0 c0 l1 c1 : Nat) (w : World) (hm0 : l0 ≤ maxLen) (hm1 : l1 ≤ maxLen) (h0 : l0 ≤ 1048576) (hbig : 1048576 < l0 + l1) :
    Calls Try.prog 3 #[.agg #[.slice a0 l0 c0], .agg #[.slice a1 l1 c1]] w fun e w' => e = .returned (.bool true) ∧ Below w.heap.size w w' := by
  have hb0 := fun o1 o2 => ((Below.refl w.heap.size w).alloc (Nat.le_refl _) o1).alloc (by simp) o2
  go_enter Try.func3, Try.ntmps3
  go_wp2_with fail
  refine (szLabel_calls a0 l0 c0 1048576 _ (by omega) (by omega) hm0).mono ?_
  rintro e w1 ⟨rfl, hb⟩
  have h1 : Below w.heap.size w w1 := (hb0 _ _).trans (hb.mono (by simp; omega))
  have cB1 : w1.cell? ⟨w.heap.size + 1, 0, none⟩ = some (.slice a1 l1 c1) := (hb.cell (p := ⟨w.heap.size + 1, 0, none⟩) (by simp)).trans (by go_simp)
  rw [szI_pos (by omega)]
  have hge : 0 ≤ 1048576 - (l0 : Int) := by omega
  clear hb hb0
  go_wp2_with fail
  refine (szLabel_calls a1 l1 c1 _ _ (by omega) (by omega) hm1).mono ?_
  rintro e w2 ⟨rfl, hb⟩
  have hbw : Below w.heap.size w w2 := h1.trans (hb.mono h1.size)
  rw [szI_neg (by omega)]
  go_wp2
  go_ret
  exact ⟨rfl, hbw⟩

set_option maxHeartbeats 4000000 in
theorem law_small_CanModify (a0 a1 : Option Addr) (l0 c0 l1 c1 : Nat) (z0 z1 : List Int) (w : World) (h0 : l0 + l1 ≤ 1048576) (hs0 : Sl w a0 l0 z0) (hs1 : Sl w a1 l1 z1) :
    Calls Try.prog 3 #[.agg #[.slice a0 l0 c0], .agg #[.slice a1 l1 c1]] w fun e w' => e = .returned (.bool true) ∧ Below w.heap.size w w' := by
  have hl0 : l0 ≤ 1048576 := by omega
  have hl1 : l1 ≤ 1048576 := by omega
  have hm0 : l0 ≤ maxLen := by unfold maxLen; omega
  have hm1 : l1 ≤ maxLen := by unfold maxLen; omega
  have hb0 := fun o1 o2 => ((Below.refl w.heap.size w).alloc (Nat.le_refl _) o1).alloc (by simp) o2
  go_enter Try.func3, Try.ntmps3
  go_wp2_with fail
  refine (szLabel_calls a0 l0 c0 1048576 _ (by omega) (by omega) hm0).mono ?_
  rintro e w1 ⟨rfl, hb⟩
  have h1 : Below w.heap.size w w1 := (hb0 _ _).trans (hb.mono (by simp; omega))
  have cA1 : w1.cell? ⟨w.heap.size, 0, none⟩ = some (.slice a0 l0 c0) := (hb.cell (p := ⟨w.heap.size, 0, none⟩) (by simp; omega)).trans (by go_simp)
  have cB1 : w1.cell? ⟨w.heap.size + 1, 0, none⟩ = some (.slice a1 l1 c1) := (hb.cell (p := ⟨w.heap.size + 1, 0, none⟩) (by simp)).trans (by go_simp)
  have hN1 : w.heap.size + 1 < w1.heap.size := by have := hb.size; simp at this; omega
  rw [szI_pos (by omega)]
  have hge : 0 ≤ 1048576 - (l0 : Int) := by omega
  clear hb hb0
  go_wp2_with fail
  refine (szLabel_calls a1 l1 c1 _ _ (by omega) (by omega) hm1).mono ?_
  rintro e w2 ⟨rfl, hb⟩
  have h2 : Below w.heap.size w w2 := h1.trans (hb.mono h1.size)
  have cA2 := (hb.cell (p := ⟨w.heap.size, 0, none⟩) (by show w.heap.size < _; omega)).trans cA1
  have cB2 := (hb.cell (p := ⟨w.heap.size + 1, 0, none⟩) (by show w.heap.size + 1 < _; omega)).trans cB1
  have hNA : w.heap.size < w2.heap.size := by have := hb.size; omega
  have hNB : w.heap.size + 1 < w2.heap.size := by have := hb.size; omega
  have s0 : Sl w2 a0 l0 z0 := hs0.below h2 (Nat.le_refl _)
  have s1 : Sl w2 a1 l1 z1 := hs1.below h2 (Nat.le_refl _)
  rw [szI_pos (by omega)]
  have hge2 : 0 ≤ 1048576 - (l0 : Int) - (l1 : Int) := by omega
  have e0 : z0.length = l0 := hs0.1
  have e1 : z1.length = l1 := hs1.1
  subst e0 e1
  clear hb cA1 cB1 h1 hs0 hs1 hN1
  go_upto_region 8 with fail
  go_cut [6] (fun v wc => v = .bool (modB z0 z1) ∧ Below w2.heap.size w2 wc)
  case first =>
    go_region_with (first
      | (go_at_call_of 6 (Value.slice a0 z0.length c0); refine (toLabel_calls a0 z0.length c0 z0 _ hl0 ?_).mono ?_; exact s0; rintro e w3 ⟨b3, rfl, hb3N, blk3, hb3⟩; have h23 : Below w2.heap.size w2 w3 := ((Below.refl w2.heap.size w2).drew).trans hb3; have cB3 := (h23.cell (p := ⟨w.heap.size + 1, 0, none⟩) hNB).trans cB2; have s13 := s1.below h23 (Nat.le_refl _); clear hb3)
      | (go_at_call_of 6 (Value.slice a1 z1.length c1); refine (toLabel_calls a1 z1.length c1 z1 _ hl1 ?_).mono ?_; exact s13; rintro e w4 ⟨b4, rfl, hb4N, blk4, hb4⟩; have h24 : Below w2.heap.size w2 w4 := h23.trans (hb4.mono h23.size); have blk34 := blk3.below hb4; clear hb4)
      | (go_at_call 5; refine (specCanModify_calls _ _ _ _ _ _ z0 z1 _ hm0 hm1 ?_ ?_).mono ?_; exact Blk.sl blk34; exact Blk.sl blk4; rintro e w5 ⟨rfl, hb5⟩; have h25 : Below w2.heap.size w2 w5 := h24.trans (hb5.mono h24.size); clear hb5))
    all_goals go_wp2_with fail
    all_goals go_meet
    all_goals exact ⟨rfl, h25⟩
  case rest =>
    obtain ⟨rfl, h2c⟩ := hcut
    have cAc := (h2c.cell (p := ⟨w.heap.size, 0, none⟩) hNA).trans cA2
    have cBc := (h2c.cell (p := ⟨w.heap.size + 1, 0, none⟩) hNB).trans cB2
    have hNAc : w.heap.size < wc.heap.size := by have := h2c.size; omega
    have hNBc : w.heap.size + 1 < wc.heap.size := by have := h2c.size; omega
    have t0 := s0.below h2c (Nat.le_refl _)
    have t1 := s1.below h2c (Nat.le_refl _)
    have h2w : Below w.heap.size w wc := h2.trans (h2c.mono h2.size)
    clear s0 s1 cA2 cB2 h2 h2c hNA hNB
    go_wp2_with fail
    refine (toLabel_calls a0 z0.length c0 z0 _ hl0 t0).mono ?_
    rintro e w3 ⟨b3, rfl, hb3N, blk3, hb3⟩
    have cA3 := (hb3.cell (p := ⟨w.heap.size, 0, none⟩) hNAc).trans cAc
    have cB3 := (hb3.cell (p := ⟨w.heap.size + 1, 0, none⟩) hNBc).trans cBc
    have hNA3 : w.heap.size < w3.heap.size := by have := hb3.size; omega
    have hNB3 : w.heap.size + 1 < w3.heap.size := by have := hb3.size; omega
    have t03 := t0.below hb3 (Nat.le_refl _)
    have t13 := t1.below hb3 (Nat.le_refl _)
    have h3w : Below w.heap.size w w3 := h2w.trans (hb3.mono h2w.size)
    clear hb3 t0 t1 cAc cBc h2w hb3N hNAc hNBc
    go_wp2_with fail
    refine (toLabel_calls a1 z1.length c1 z1 _ hl1 (t13.below ((Below.refl _ _).alloc (Nat.le_refl _) _) (Nat.le_refl _))).mono ?_
    rintro e w4 ⟨b4, rfl, hb4N, blk4, hb4⟩
    have h34 : Below w3.heap.size w3 w4 := ((Below.refl _ _).alloc (Nat.le_refl _) _).trans (hb4.mono (by simp))
    have x4 : w4.cell? ⟨w3.heap.size, 0, none⟩ = some (.slice (some ⟨b3, 0, none⟩) z0.length z0.length) := (hb4.cell (p := ⟨w3.heap.size, 0, none⟩) (by simp)).trans (by go_simp)
    have hx4 : w3.heap.size < w4.heap.size := by have := hb4.size; simp at this; omega
    have cA4 := (h34.cell (p := ⟨w.heap.size, 0, none⟩) hNA3).trans cA3
    have cB4 := (h34.cell (p := ⟨w.heap.size + 1, 0, none⟩) hNB3).trans cB3
    have hNA4 : w.heap.size < w4.heap.size := by omega
    have hNB4 : w.heap.size + 1 < w4.heap.size := by omega
    have t04 := t03.below h34 (Nat.le_refl _)
    have t14 := t13.below h34 (Nat.le_refl _)
    have blk34 := blk3.below h34
    have h4w : Below w.heap.size w w4 := h3w.trans (h34.mono h3w.size)
    clear hb4 t03 t13 cA3 cB3 h3w hb4N hNA3 hNB3 h34 blk3
    go_wp2_with fail
    refine (implCanModify_calls _ _ _ _ _ _ z0 z1 _ hm0 hm1 (blk34.sl.below ((Below.refl _ _).alloc (Nat.le_refl _) _) (Nat.le_refl _)) (blk4.sl.below ((Below.refl _ _).alloc (Nat.le_refl _) _) (Nat.le_refl _))).mono ?_
    rintro e w5 ⟨rfl, hb5⟩
    have h45 : Below w4.heap.size w4 w5 := ((Below.refl _ _).alloc (Nat.le_refl _) _).trans (hb5.mono (by simp))
    have y5 : w5.cell? ⟨w4.heap.size, 0, none⟩ = some (.slice (some ⟨b4, 0, none⟩) z1.length z1.length) := (hb5.cell (p := ⟨w4.heap.size, 0, none⟩) (by simp)).trans (by go_simp)
    have hy5 : w4.heap.size < w5.heap.size := by have := hb5.size; simp at this; omega
    have x5 := (h45.cell (p := ⟨w3.heap.size, 0, none⟩) hx4).trans x4
    have hx5 : w3.heap.size < w5.heap.size := by omega
    have cA5 := (h45.cell (p := ⟨w.heap.size, 0, none⟩) hNA4).trans cA4
    have cB5 := (h45.cell (p := ⟨w.heap.size + 1, 0, none⟩) hNB4).trans cB4
    have hNA5 : w.heap.size < w5.heap.size := by omega
    have hNB5 : w.heap.size + 1 < w5.heap.size := by omega
    have t05 := t04.below h45 (Nat.le_refl _)
    have t15 := t14.below h45 (Nat.le_refl _)
    have blk35 := blk34.below h45
    have blk45 := blk4.below h45
    have h5w : Below w.heap.size w w5 := h4w.trans (h45.mono h4w.size)
    clear hb5 t04 t14 cA4 cB4 h4w hNA4 hNB4 h45 blk34 blk4 x4 hx4
    go_upto_region 14 with fail
    go_cut [39] (fun v wd => v = .bool false ∧ Below w5.heap.size w5 wd)
    case first =>
      go_region_with (first
        | (go_at_call 6; refine (toLabel_calls a0 z0.length c0 z0 _ hl0 ?_).mono ?_; exact t05; rintro e w6 ⟨b6, rfl, hb6N, blk6, hb6⟩; have h56 : Below w5.heap.size w5 w6 := ((Below.refl w5.heap.size w5).drew).trans hb6; have x6 := (h56.cell (p := ⟨w3.heap.size, 0, none⟩) hx5).trans x5; have blk36 := blk35.below h56; clear hb6)
        | (go_at_call 8; refine (eqLabel_calls _ _ _ _ _ _ z0 z0 _ hm0 hm0 ?_ ?_).mono ?_; exact Blk.sl blk36; exact Blk.sl blk6; rintro e w7 ⟨rfl, hb7⟩; rw [decide_eq_true rfl]; have h57 : Below w5.heap.size w5 w7 := h56.trans (hb7.mono h56.size); clear hb7))
      all_goals go_wp2_with fail
      all_goals go_meet
      all_goals exact ⟨rfl, h57⟩
    case rest =>
      obtain ⟨rfl, h5d⟩ := hcut
      have y6 := (h5d.cell (p := ⟨w4.heap.size, 0, none⟩) hy5).trans y5
      have hy6 : w4.heap.size < wc.heap.size := by have := h5d.size; omega
      have cB6 := (h5d.cell (p := ⟨w.heap.size + 1, 0, none⟩) hNB5).trans cB5
      have t16 := t15.below h5d (Nat.le_refl _)
      have blk46 := blk45.below h5d
      have h6w : Below w.heap.size w wc := h5w.trans (h5d.mono h5w.size)
      clear t05 t15 cA5 cB5 h5w hNA5 hNB5 blk35 blk45 x5 hx5 y5 hy5 h5d
      go_wp2_with fail
      go_region_with (first
        | (go_at_call 6; refine (toLabel_calls a1 z1.length c1 z1 _ hl1 ?_).mono ?_; exact t16; rintro e w8 ⟨b8, rfl, hb8N, blk8, hb8⟩; have h68 : Below wc.heap.size wc w8 := ((Below.refl wc.heap.size wc).drew).trans hb8; have y8 := (h68.cell (p := ⟨w4.heap.size, 0, none⟩) hy6).trans y6; have blk48 := blk46.below h68; clear hb8)
        | (go_at_call 8; refine (eqLabel_calls _ _ _ _ _ _ z1 z1 _ hm1 hm1 ?_ ?_).mono ?_; exact Blk.sl blk48; exact Blk.sl blk8; rintro e w9 ⟨rfl, hb9⟩; rw [decide_eq_true rfl]; have h69 : Below wc.heap.size wc w9 := h68.trans (hb9.mono h68.size); clear hb9))
      all_goals go_wp2
      all_goals go_ret
      all_goals exact ⟨rfl, h6w.trans (h69.mono h6w.size)⟩

theorem walk_CanModify (a0 : Option Addr) (l0 c0 : Nat) (z0 : List Int) (a1 : Option Addr) (l1 c1 : Nat) (z1 : List Int) (w : World) (hm0 : l0 ≤ maxLen) (hm1 : l1 ≤ maxLen) (hs0 : Sl w a0 l0 z0) (hs1 : Sl w a1 l1 z1) :
    Calls Try.prog 3 #[.agg #[.slice a0 l0 c0], .agg #[.slice a1 l1 c1]] w fun e w' => e = .returned (.bool true) ∧ Below w.heap.size w w' := by
  by_cases h : l0 ≤ 1048576
  · by_cases h2 : l0 + l1 ≤ 1048576
    · exact law_small_CanModify a0 a1 l0 c0 l1 c1 z0 z1 w h2 hs0 hs1
    · exact law_bigB_CanModify a0 a1 l0 c0 l1 c1 w hm0 hm1 h (by omega)
  · exact law_bigA_CanModify a0 a1 l0 c0 l1 c1 w hm0 (by omega)

end Go.Proofs.Ytpelhkailpdhoah
