import Derived.Test.YtjahlhibgnbkgaiSlotOf1
import Derived.Test.YtjahlhibgnbkgaiSlotOf3
import Derived.Test.YtjahlhibgnbkgaiSzReg
import Derived.Test.YtjahlhibgnbkgaiToReg
import Derived.Test.YtjahlhibgnbkgaiEqReg
import Derived.WalkKit
import Derived.ProofKit
import Derived.OpenShut
import Derived.ShutString
import Derived.ChangeOld
import Derived.Below
import Derived.WalkSpells
import Derived.Deep.QuietTactic
import Derived.BigQuiet
import Derived.Deep.RegionWith
import Derived.Deep.WholeRow
import Derived.Deep.DeepCutAuto
import Derived.Deep.RegionHeld2
import Derived.Deep.AppendLies
import Derived.Deep.RegionLaw
namespace Go.Proofs.Ytjahlhibgnbkgai
open Go.ChangeShapes Go.WideShapes Go.ChangeAt Go.RowKit

theorem HalfS.belowA {wa X wb : World} {N n : Nat} {ss : List (Int × List Int)} (h : HalfS wa N n n ss) (hb : Below X.heap.size X wb) (ha : Below wa.heap.size wa X) : HalfS wb N n n ss := (h.below ha).below hb

theorem HalfS.doneA {wa X : World} {N n : Nat} {ss : List (Int × List Int)} (h : HalfS wa N n n ss) (hn : ss.length = n) (hm : lenSum ss ≤ 1048576) (ha : Below wa.heap.size wa X) : Sls X (some ⟨N, 0, none⟩) n ss := (h.below ha).done hn hm

theorem Blk.slA' {wa X : World} {b n : Nat} {zs : List Int} (h : Blk wa b zs) (hn : zs.length = n) (ha : Below wa.heap.size wa X) : Sl X (some ⟨b, 0, none⟩) n zs := hn ▸ (h.below ha).sl

set_option maxRecDepth 100000 in
theorem law_bigA_SlotOf (a0 a1 : Option Addr) (l0 c0 l1 c1 : Nat) (z0 : List (Int × List Int)) (w : World) (hm0 : l0 ≤ maxLen) (hs0 : Sls w a0 l0 z0) (hbig : 1048576 < l0 + lenSum z0) :
    Calls Try.prog 4 #[.agg #[.slice a0 l0 c0], .agg #[.slice a1 l1 c1]] w fun e w' => e = .returned (.bool true) ∧ Below w.heap.size w w' := by
  have hb0 := fun o1 o2 => ((Below.refl w.heap.size w).alloc (Nat.le_refl _) o1).alloc (by simp) o2
  have hs1 := fun o1 o2 => hs0.below (hb0 o1 o2) (Nat.le_refl _)
  go_enter Try.func4, Try.ntmps4
  go_wp2_with fail
  refine (szRegistry_calls a0 l0 c0 z0 1048576 _ (by omega) (by omega) hm0 (hs1 _ _)).mono ?_
  rintro e w1 ⟨rfl, hb⟩
  have hbw : Below w.heap.size w w1 := (hb0 _ _).trans (hb.mono (by simp; omega))
  rw [szI_neg (by omega)]
  go_wp2
  go_ret
  exact ⟨rfl, hbw⟩

set_option maxRecDepth 100000 in
theorem law_bigB_SlotOf (a0 a1 : Option Addr) (l0 c0 l1 c1 : Nat) (z0 : List (Int × List Int)) (w : World) (hm0 : l0 ≤ maxLen) (hm1 : l1 ≤ maxLen) (hs0 : Sls w a0 l0 z0) (h0 : l0 + lenSum z0 ≤ 1048576) (hbig : 1048576 < l0 + lenSum z0 + l1) :
    Calls Try.prog 4 #[.agg #[.slice a0 l0 c0], .agg #[.slice a1 l1 c1]] w fun e w' => e = .returned (.bool true) ∧ Below w.heap.size w w' := by
  have hb0 := fun o1 o2 => ((Below.refl w.heap.size w).alloc (Nat.le_refl _) o1).alloc (by simp) o2
  have hs1 := fun o1 o2 => hs0.below (hb0 o1 o2) (Nat.le_refl _)
  go_enter Try.func4, Try.ntmps4
  go_wp2_with fail
  refine (szRegistry_calls a0 l0 c0 z0 1048576 _ (by omega) (by omega) hm0 (hs1 _ _)).mono ?_
  rintro e w1 ⟨rfl, hb⟩
  have h1 : Below w.heap.size w w1 := (hb0 _ _).trans (hb.mono (by simp; omega))
  have cB1 : w1.cell? ⟨w.heap.size + 1, 0, none⟩ = some (.slice a1 l1 c1) := (hb.cell (p := ⟨w.heap.size + 1, 0, none⟩) (by simp)).trans (by go_simp)
  rw [szI_pos (by omega)]
  have hge : ¬ (1048576 - ((l0 + lenSum z0 : Nat) : Int) < 0) := by omega
  clear hb hb0 hs1
  go_wp2_with fail
  refine (szLabel_calls a1 l1 c1 _ _ (by omega) (by omega) hm1).mono ?_
  rintro e w2 ⟨rfl, hb⟩
  have hbw : Below w.heap.size w w2 := h1.trans (hb.mono h1.size)
  rw [szI_neg (by omega)]
  go_wp2
  go_ret
  exact ⟨rfl, hbw⟩

set_option maxRecDepth 100000 in
set_option maxHeartbeats 4000000 in
theorem law_small_SlotOf (a0 a1 : Option Addr) (l0 c0 l1 c1 : Nat) (z0 : List (Int × List Int)) (z1 : List Int) (w : World) (h0 : l0 + lenSum z0 + l1 ≤ 1048576) (hs0 : Sls w a0 l0 z0) (hs1 : Sl w a1 l1 z1) :
    Calls Try.prog 4 #[.agg #[.slice a0 l0 c0], .agg #[.slice a1 l1 c1]] w fun e w' => e = .returned (.bool true) ∧ Below w.heap.size w w' := by
  have hl0 : l0 ≤ 1048576 := by omega
  have hu0 : lenSum z0 ≤ 1048576 := by omega
  have hl1 : l1 ≤ 1048576 := by omega
  have hm0 : l0 ≤ maxLen := by unfold maxLen; omega
  have hm1 : l1 ≤ maxLen := by unfold maxLen; omega
  have e0 : z0.length = l0 := hs0.1
  have e1 : z1.length = l1 := hs1.1
  have hb0 := fun o1 o2 => ((Below.refl w.heap.size w).alloc (Nat.le_refl _) o1).alloc (by simp) o2
  have hsA := fun o1 o2 => hs0.below (hb0 o1 o2) (Nat.le_refl _)
  go_enter Try.func4, Try.ntmps4
  go_wp2_with fail
  refine (szRegistry_calls a0 l0 c0 z0 1048576 _ (by omega) (by omega) hm0 (hsA _ _)).mono ?_
  rintro e w1 ⟨rfl, hb⟩
  have h1 : Below w.heap.size w w1 := (hb0 _ _).trans (hb.mono (by simp; omega))
  have cA1 : w1.cell? ⟨w.heap.size, 0, none⟩ = some (.slice a0 l0 c0) := (hb.cell (p := ⟨w.heap.size, 0, none⟩) (by simp; omega)).trans (by go_simp)
  have cB1 : w1.cell? ⟨w.heap.size + 1, 0, none⟩ = some (.slice a1 l1 c1) := (hb.cell (p := ⟨w.heap.size + 1, 0, none⟩) (by simp)).trans (by go_simp)
  have hN1 : w.heap.size + 1 < w1.heap.size := by have := hb.size; simp at this; omega
  rw [szI_pos (by omega)]
  have hge : ¬ (1048576 - ((l0 + lenSum z0 : Nat) : Int) < 0) := by omega
  clear hb hb0 hsA
  go_wp2_with fail
  refine (szLabel_calls a1 l1 c1 _ _ (by omega) (by omega) hm1).mono ?_
  rintro e w2 ⟨rfl, hb⟩
  have h2 : Below w.heap.size w w2 := h1.trans (hb.mono h1.size)
  have cA2 := (hb.cell (p := ⟨w.heap.size, 0, none⟩) (by show w.heap.size < _; omega)).trans cA1
  have cB2 := (hb.cell (p := ⟨w.heap.size + 1, 0, none⟩) (by show w.heap.size + 1 < _; omega)).trans cB1
  have hNA : w.heap.size < w2.heap.size := by have := hb.size; omega
  have hNB : w.heap.size + 1 < w2.heap.size := by have := hb.size; omega
  rw [szI_pos (by omega)]
  have hge2 : ¬ (1048576 - ((l0 + lenSum z0 : Nat) : Int) - (l1 : Int) < 0) := by omega
  have s0 := hs0.below h2 (Nat.le_refl _)
  have s1 := hs1.below h2 (Nat.le_refl _)
  clear hb cA1 cB1 h1 hs0 hs1 hN1
  go_upto_region 8 with fail
  go_cut [6] (fun v6 wc => ∃ P, v6 = .pointer (some ⟨P, 0, none⟩) ∧ wc.cell? ⟨P, 0, none⟩ = some (.int .i64 (soC z0 z1)) ∧ wc.cell? ⟨P, 1, none⟩ = some (.int .i64 (soV z0 z1)) ∧ Below w2.heap.size w2 wc)
  case first =>
    have HS0 : Hid (w2.drew.cell? ⟨w.heap.size, 0, none⟩ = some (.slice a0 l0 c0) ∧ w2.drew.cell? ⟨w.heap.size + 1, 0, none⟩ = some (.slice a1 l1 c1) ∧ Below w2.heap.size w2 w2.drew) := ⟨cA2, cB2, (Below.refl _ _).drew⟩
    go_region_held2 (fun w' => w'.cell? ⟨w.heap.size, 0, none⟩ = some (.slice a0 l0 c0) ∧ w'.cell? ⟨w.heap.size + 1, 0, none⟩ = some (.slice a1 l1 c1) ∧ Below w2.heap.size w2 w')
      (first | with_reducible exact HS0.out | (repeat (first | with_reducible assumption | with_reducible refine q2_allocd hNA hNB ?_ _ | with_reducible refine q2_alloc hNA hNB ?_ _ | with_reducible refine q2_set hNA hNB ?_ ?_ _ | (show (_ : Nat) ≤ _; exact Nat.le_refl _) | (show (_ : Nat) ≤ _; dsimp only; omega))))
      (first
        | (go_at_call 8; refine (toRegistry_calls a0 l0 c0 z0 _ hl0 hu0 ?_).mono ?_; exact s0.below (And.right (And.right (by with_reducible assumption))) (Nat.le_refl _); rintro e wa ⟨ba, rfl, hbaN, blka, hba⟩; have hsa := q2_below hNA hNB (by with_reducible assumption) hba; have hza := hba.size; have hwa := hsa.2.2.size; (try simp only [World.size_alloc, World.size_drew] at hza); (try have hq1 := Nat.lt_of_succ_le hza); obtain ⟨bca, bfa⟩ := bcellQ hba; (try simp only [World.size_alloc, World.size_drew] at bca bfa); clear hba)
        | (go_at_call 17; refine (toLabel_calls a1 l1 c1 z1 _ hl1 ?_).mono ?_; exact s1.below (And.right (And.right (by with_reducible assumption))) (Nat.le_refl _); rintro e wb ⟨bb, rfl, hbbN, blkb, hbb⟩; have hsb := q2_below hNA hNB (by with_reducible assumption) hbb; have hzb := hbb.size; have hwb := hsb.2.2.size; have blkab := HalfS.belowA blka hbb (by first | exact Below.refl _ _ | exact (Below.refl _ _).alloc (Nat.le_refl _) _); (try simp only [World.size_alloc] at hzb); (try have hq2 := Nat.lt_of_succ_le hzb); (try have hq3 := Nat.lt_of_lt_of_le hq1 hzb); obtain ⟨bcb, bfb⟩ := bcellQ hbb; (try simp only [World.size_alloc] at bcb bfb); clear hbb)
        | (go_at_call 16; refine (specSlotOf_calls _ _ l0 _ l1 _ z0 z1 _ hm0 hm1 ?_ ?_).mono ?_; exact HalfS.doneA blkab e0 hu0 (by first | exact Below.refl _ _ | exact (Below.refl _ _).alloc (Nat.le_refl _) _); exact Blk.slA' blkb e1 (by first | exact Below.refl _ _ | exact (Below.refl _ _).alloc (Nat.le_refl _) _); rintro e ws ⟨rfl, hbs⟩; have hss := q2_below hNA hNB (by with_reducible assumption) hbs; have hzs := hbs.size; have hws := hss.2.2.size; obtain ⟨bcs, bfs⟩ := bcellQ hbs; (try simp only [World.size_alloc] at hzs bcs bfs); clear hbs))
    all_goals go_wp2_with fail
    all_goals go_meet
    all_goals refine ⟨_, rfl, ?_, ?_, ?_⟩
    all_goals first | (go_simp; done) | (exact And.right (And.right (by with_reducible assumption)))
  case rest =>
    obtain ⟨P, rfl, cp0, cp1, h2c⟩ := hcut
    have lP : P < wc.heap.size := World.block_lt_of_cell? _ _ cp0
    have M0 : Mem w wc [(P, 0, .int .i64 (soC z0 z1)), (P, 1, .int .i64 (soV z0 z1)), (w.heap.size, 0, .slice a0 l0 c0), (w.heap.size + 1, 0, .slice a1 l1 c1)] [] :=
      ⟨h2.trans (h2c.mono h2.size), by
        intro c hc'
        simp only [List.mem_cons, List.not_mem_nil, or_false] at hc'
        have := h2c.size
        rcases hc' with rfl | rfl | rfl | rfl
        · exact ⟨lP, cp0⟩
        · exact ⟨lP, cp1⟩
        · exact ⟨by show w.heap.size < _; omega, (h2c.cell (p := ⟨w.heap.size, 0, none⟩) hNA).trans cA2⟩
        · exact ⟨by show w.heap.size + 1 < _; omega, (h2c.cell (p := ⟨w.heap.size + 1, 0, none⟩) hNB).trans cB2⟩, by simp⟩
    have t0 := s0.below h2c (Nat.le_refl _)
    have t1 := s1.below h2c (Nat.le_refl _)
    have m1 := M0.cell 2 rfl
    clear cp0 cp1 lP h2 h2c cA2 cB2 hNA hNB s0 s1
    go_wp2_with fail
    refine (toRegistry_calls a0 l0 c0 z0 _ hl0 hu0 t0).mono ?_
    rintro e w3 ⟨b3, rfl, _, blk3, g3⟩
    have M1 := (M0.below g3).alloc1 (.slice (some ⟨b3, 0, none⟩) l0 l0) 34
    have al3 := (Below.refl w3.heap.size w3).alloc (Nat.le_refl _) (.cells #[.slice (some ⟨b3, 0, none⟩) l0 l0] 34)
    have u0 := (t0.below g3 (Nat.le_refl _)).below al3 (Nat.le_refl _)
    have u1 := (t1.below g3 (Nat.le_refl _)).below al3 (Nat.le_refl _)
    have blk3' := blk3.below al3
    have m2 := M1.cell 4 rfl
    clear g3 al3 t0 t1 M0 m1 blk3
    go_wp2_with fail
    refine (toLabel_calls a1 l1 c1 z1 _ hl1 u1).mono ?_
    rintro e w4 ⟨b4, rfl, _, blk4, g4⟩
    have M2 := (M1.below g4).alloc1 (.slice (some ⟨b4, 0, none⟩) l1 l1) 28
    have al4 := (Below.refl w4.heap.size w4).alloc (Nat.le_refl _) (.cells #[.slice (some ⟨b4, 0, none⟩) l1 l1] 28)
    have v0 := (u0.below g4 (Nat.le_refl _)).below al4 (Nat.le_refl _)
    have v1 := (u1.below g4 (Nat.le_refl _)).below al4 (Nat.le_refl _)
    have blk3a := (blk3'.below g4).below al4
    have blk4a := blk4.below al4
    have x2 := M2.cell 1 rfl
    have y2 := M2.cell 0 rfl
    clear g4 al4 u0 u1 M1 m2 blk3' blk4
    go_wp2_with fail
    refine (implSlotOf_calls _ _ l0 _ l1 _ z0 z1 _ hm0 hm1 (blk3a.done e0 hu0) (Blk.slA' blk4a e1 (Below.refl _ _))).mono ?_
    rintro e w5 ⟨rfl, g5⟩
    have M3 := (M2.below g5).alloc2 (.int .i64 (soC z0 z1)) (.int .i64 (soV z0 z1)) 44
    have al5 := (Below.refl w5.heap.size w5).alloc (Nat.le_refl _) (.cells #[.int .i64 (soC z0 z1), .int .i64 (soV z0 z1)] 44)
    have q0 := (v0.below g5 (Nat.le_refl _)).below al5 (Nat.le_refl _)
    have q1 := (v1.below g5 (Nat.le_refl _)).below al5 (Nat.le_refl _)
    have blk3b := (blk3a.below g5).below al5
    have blk4b := (blk4a.below g5).below al5
    have p0 := M3.cell 4 rfl
    have p1 := M3.cell 5 rfl
    clear g5 al5 v0 v1 M2 x2 y2 blk3a blk4a
    go_wp2_with fail
    refine (eqIntResult_calls _ _ _).mono ?_
    rintro e w6 ⟨rfl, g6⟩
    have M4 := M3.below g6
    have x6 := M4.cell 3 rfl
    have cA6 := M4.cell 6 rfl
    have q06 := q0.below g6 (Nat.le_refl _)
    have q16 := q1.below g6 (Nat.le_refl _)
    have blk3c := blk3b.below g6
    have blk4c := blk4b.below g6
    clear g6 M3 q0 q1 blk3b blk4b p0 p1
    go_wp2_with fail
    go_region_with (first
      | (go_at_call 8; refine (toRegistry_calls a0 l0 c0 z0 _ hl0 hu0 ?_).mono ?_; exact q06; rintro e w7 ⟨b7, rfl, _, blk7, g7⟩; have h67 : Below w6.heap.size w6 w7 := ((Below.refl w6.heap.size w6).drew).trans g7; have M5 := M4.below h67; have x7 := M5.cell 3 rfl; have blk37 := blk3c.below h67; clear g7)
      | (go_at_call 11; refine (eqRegistry_calls _ _ l0 l0 l0 z0 _ hm0 ?_ ?_).mono ?_; exact blk37.done e0 hu0; exact blk7.done e0 hu0; rintro e w8 ⟨rfl, g8⟩; have h68 : Below w6.heap.size w6 w8 := h67.trans (g8.mono h67.size); clear g8))
    all_goals
      have M6 := M4.below h68
      have y8 := M6.cell 2 rfl
      have cB8 := M6.cell 7 rfl
      have q18 := q16.below h68 (Nat.le_refl _)
      have blk48 := blk4c.below h68
      clear M4 M5 x6 x7 cA6 q06 q16 blk3c blk4c blk37 blk7 h67 h68
      go_wp2_with fail
      go_region_with (first
        | (go_at_call 17; refine (toLabel_calls a1 l1 c1 z1 _ hl1 ?_).mono ?_; exact q18; rintro e w9 ⟨b9, rfl, _, blk9, g9⟩; have h89 : Below w8.heap.size w8 w9 := ((Below.refl w8.heap.size w8).drew).trans g9; have M7 := M6.below h89; have y9 := M7.cell 2 rfl; have blk49 := blk48.below h89; clear g9)
        | (go_at_call 20; refine (eqLabel_calls _ _ _ _ _ _ z1 z1 _ hm1 hm1 ?_ ?_).mono ?_; exact Blk.slA' blk49 e1 (Below.refl _ _); exact Blk.slA' blk9 e1 (Below.refl _ _); rintro e w10 ⟨rfl, g10⟩; rw [decide_eq_true rfl]; have M8 := M7.below g10; clear g10))
      all_goals go_wp2
      all_goals go_ret
      all_goals exact ⟨rfl, M8.bel⟩

theorem walk_SlotOf (a0 : Option Addr) (l0 c0 : Nat) (z0 : List (Int × List Int)) (a1 : Option Addr) (l1 c1 : Nat) (z1 : List Int) (w : World) (hm0 : l0 ≤ maxLen) (hs0 : Sls w a0 l0 z0) (hm1 : l1 ≤ maxLen) (hs1 : Sl w a1 l1 z1) :
    Calls Try.prog 4 #[.agg #[.slice a0 l0 c0], .agg #[.slice a1 l1 c1]] w fun e w' => e = .returned (.bool true) ∧ Below w.heap.size w w' := by
  by_cases h : l0 + lenSum z0 ≤ 1048576
  · by_cases h2 : l0 + lenSum z0 + l1 ≤ 1048576
    · exact law_small_SlotOf a0 a1 l0 c0 l1 c1 z0 z1 w h2 hs0 hs1
    · exact law_bigB_SlotOf a0 a1 l0 c0 l1 c1 z0 w hm0 hm1 hs0 h (by omega)
  · exact law_bigA_SlotOf a0 a1 l0 c0 l1 c1 z0 w hm0 hs0 (by omega)

end Go.Proofs.Ytjahlhibgnbkgai
