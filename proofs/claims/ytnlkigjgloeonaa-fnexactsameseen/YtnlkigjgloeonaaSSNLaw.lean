import Derived.Test.YtnlkigjgloeonaaSnE
import Derived.Test.YtnlkigjgloeonaaSnS
import Derived.Test.YtnlkigjgloeonaaSnL
import Derived.WalkKit
import Derived.ProofKit
import Derived.OpenShut
import Derived.ShutString
import Derived.ChangeOld
import Derived.Below
import Derived.WalkSpells
import Derived.Deep.QuietTactic
import Derived.BigQuiet
import Derived.Deep.RegionWith
import Derived.Deep.WholeRow
import Derived.Deep.DeepCutAuto
import Derived.Deep.RegionHeld2
import Derived.Deep.AppendLies
import Derived.Deep.RegionLaw
namespace Go.Proofs.Ytnlkigjgloeonaa
open Go.ChangeShapes Go.WideShapes Go.ChangeAt Go.RowKit

theorem q8_bel {W X : World} {A0 A1 A2 A3 A4 A5 A6 A7 : Addr} {v0 v1 v2 v3 v4 v5 v6 v7 : Value} (h : X.cell? A0 = some v0 ∧ X.cell? A1 = some v1 ∧ X.cell? A2 = some v2 ∧ X.cell? A3 = some v3 ∧ X.cell? A4 = some v4 ∧ X.cell? A5 = some v5 ∧ X.cell? A6 = some v6 ∧ X.cell? A7 = some v7 ∧ Below W.heap.size W X) : Below W.heap.size W X := h.2.2.2.2.2.2.2.2

theorem q8_below {W X Y : World} {A0 A1 A2 A3 A4 A5 A6 A7 : Addr} {v0 v1 v2 v3 v4 v5 v6 v7 : Value} (h0 : A0.block < W.heap.size) (h1 : A1.block < W.heap.size) (h2 : A2.block < W.heap.size) (h3 : A3.block < W.heap.size) (h4 : A4.block < W.heap.size) (h5 : A5.block < W.heap.size) (h6 : A6.block < W.heap.size) (h7 : A7.block < W.heap.size) (h : X.cell? A0 = some v0 ∧ X.cell? A1 = some v1 ∧ X.cell? A2 = some v2 ∧ X.cell? A3 = some v3 ∧ X.cell? A4 = some v4 ∧ X.cell? A5 = some v5 ∧ X.cell? A6 = some v6 ∧ X.cell? A7 = some v7 ∧ Below W.heap.size W X) (g : Below X.heap.size X Y) : Y.cell? A0 = some v0 ∧ Y.cell? A1 = some v1 ∧ Y.cell? A2 = some v2 ∧ Y.cell? A3 = some v3 ∧ Y.cell? A4 = some v4 ∧ Y.cell? A5 = some v5 ∧ Y.cell? A6 = some v6 ∧ Y.cell? A7 = some v7 ∧ Below W.heap.size W Y := by
  have hz := (h.2.2.2.2.2.2.2.2).size
  exact ⟨(g.cell (by omega)).trans h.1, (g.cell (by omega)).trans h.2.1, (g.cell (by omega)).trans h.2.2.1, (g.cell (by omega)).trans h.2.2.2.1, (g.cell (by omega)).trans h.2.2.2.2.1, (g.cell (by omega)).trans h.2.2.2.2.2.1, (g.cell (by omega)).trans h.2.2.2.2.2.2.1, (g.cell (by omega)).trans h.2.2.2.2.2.2.2.1, (h.2.2.2.2.2.2.2.2).trans (g.mono hz)⟩

theorem q8_alloc {W X : World} {A0 A1 A2 A3 A4 A5 A6 A7 : Addr} {v0 v1 v2 v3 v4 v5 v6 v7 : Value} (h0 : A0.block < W.heap.size) (h1 : A1.block < W.heap.size) (h2 : A2.block < W.heap.size) (h3 : A3.block < W.heap.size) (h4 : A4.block < W.heap.size) (h5 : A5.block < W.heap.size) (h6 : A6.block < W.heap.size) (h7 : A7.block < W.heap.size) (h : X.cell? A0 = some v0 ∧ X.cell? A1 = some v1 ∧ X.cell? A2 = some v2 ∧ X.cell? A3 = some v3 ∧ X.cell? A4 = some v4 ∧ X.cell? A5 = some v5 ∧ X.cell? A6 = some v6 ∧ X.cell? A7 = some v7 ∧ Below W.heap.size W X) (o : Obj) : (X.alloc o).cell? A0 = some v0 ∧ (X.alloc o).cell? A1 = some v1 ∧ (X.alloc o).cell? A2 = some v2 ∧ (X.alloc o).cell? A3 = some v3 ∧ (X.alloc o).cell? A4 = some v4 ∧ (X.alloc o).cell? A5 = some v5 ∧ (X.alloc o).cell? A6 = some v6 ∧ (X.alloc o).cell? A7 = some v7 ∧ Below W.heap.size W (X.alloc o) := q8_below h0 h1 h2 h3 h4 h5 h6 h7 h ((Below.refl _ _).alloc (Nat.le_refl _) o)

theorem q8_allocd {W X : World} {A0 A1 A2 A3 A4 A5 A6 A7 : Addr} {v0 v1 v2 v3 v4 v5 v6 v7 : Value} (h0 : A0.block < W.heap.size) (h1 : A1.block < W.heap.size) (h2 : A2.block < W.heap.size) (h3 : A3.block < W.heap.size) (h4 : A4.block < W.heap.size) (h5 : A5.block < W.heap.size) (h6 : A6.block < W.heap.size) (h7 : A7.block < W.heap.size) (h : X.drew.cell? A0 = some v0 ∧ X.drew.cell? A1 = some v1 ∧ X.drew.cell? A2 = some v2 ∧ X.drew.cell? A3 = some v3 ∧ X.drew.cell? A4 = some v4 ∧ X.drew.cell? A5 = some v5 ∧ X.drew.cell? A6 = some v6 ∧ X.drew.cell? A7 = some v7 ∧ Below W.heap.size W X.drew) (o : Obj) : (X.alloc o).drew.cell? A0 = some v0 ∧ (X.alloc o).drew.cell? A1 = some v1 ∧ (X.alloc o).drew.cell? A2 = some v2 ∧ (X.alloc o).drew.cell? A3 = some v3 ∧ (X.alloc o).drew.cell? A4 = some v4 ∧ (X.alloc o).drew.cell? A5 = some v5 ∧ (X.alloc o).drew.cell? A6 = some v6 ∧ (X.alloc o).drew.cell? A7 = some v7 ∧ Below W.heap.size W (X.alloc o).drew := q8_alloc h0 h1 h2 h3 h4 h5 h6 h7 h o

theorem q8_set {W X : World} {A0 A1 A2 A3 A4 A5 A6 A7 : Addr} {v0 v1 v2 v3 v4 v5 v6 v7 : Value} (h0 : A0.block < W.heap.size) (h1 : A1.block < W.heap.size) (h2 : A2.block < W.heap.size) (h3 : A3.block < W.heap.size) (h4 : A4.block < W.heap.size) (h5 : A5.block < W.heap.size) (h6 : A6.block < W.heap.size) (h7 : A7.block < W.heap.size) (h : X.cell? A0 = some v0 ∧ X.cell? A1 = some v1 ∧ X.cell? A2 = some v2 ∧ X.cell? A3 = some v3 ∧ X.cell? A4 = some v4 ∧ X.cell? A5 = some v5 ∧ X.cell? A6 = some v6 ∧ X.cell? A7 = some v7 ∧ Below W.heap.size W X) {p : Addr} (hp : W.heap.size ≤ p.block) (y : Value) : (X.setCell p y).cell? A0 = some v0 ∧ (X.setCell p y).cell? A1 = some v1 ∧ (X.setCell p y).cell? A2 = some v2 ∧ (X.setCell p y).cell? A3 = some v3 ∧ (X.setCell p y).cell? A4 = some v4 ∧ (X.setCell p y).cell? A5 = some v5 ∧ (X.setCell p y).cell? A6 = some v6 ∧ (X.setCell p y).cell? A7 = some v7 ∧ Below W.heap.size W (X.setCell p y) :=
  ⟨(World.cell?_setCell_other _ _ _ _ (fun e => by rw [e] at hp; omega)).trans h.1, (World.cell?_setCell_other _ _ _ _ (fun e => by rw [e] at hp; omega)).trans h.2.1, (World.cell?_setCell_other _ _ _ _ (fun e => by rw [e] at hp; omega)).trans h.2.2.1, (World.cell?_setCell_other _ _ _ _ (fun e => by rw [e] at hp; omega)).trans h.2.2.2.1, (World.cell?_setCell_other _ _ _ _ (fun e => by rw [e] at hp; omega)).trans h.2.2.2.2.1, (World.cell?_setCell_other _ _ _ _ (fun e => by rw [e] at hp; omega)).trans h.2.2.2.2.2.1, (World.cell?_setCell_other _ _ _ _ (fun e => by rw [e] at hp; omega)).trans h.2.2.2.2.2.2.1, (World.cell?_setCell_other _ _ _ _ (fun e => by rw [e] at hp; omega)).trans h.2.2.2.2.2.2.2.1, (h.2.2.2.2.2.2.2.2).setCell hp y⟩

set_option maxRecDepth 100000 in
theorem law_big0_SameSeen (A0 : NA) (D0 : ND) (A1 : NA) (w : World) (hs0 : RN w A0 D0) (hbig : 1048576 < szN A0 D0) :
    Calls Try.prog 3 #[.agg #[.slice A0.wa A0.wn A0.wc, .slice A0.xa A0.xn A0.xc, .slice A0.la A0.ln A0.lc, .slice A0.oa A0.on A0.oc], .agg #[.slice A1.wa A1.wn A1.wc, .slice A1.xa A1.xn A1.xc, .slice A1.la A1.ln A1.lc, .slice A1.oa A1.on A1.oc]] w fun e w' => e = .returned (.bool true) ∧ Below w.heap.size w w' := by
  have M0 := (((Mm.start w).alloc4 (.slice A0.wa A0.wn A0.wc) (.slice A0.xa A0.xn A0.xc) (.slice A0.la A0.ln A0.lc) (.slice A0.oa A0.on A0.oc) 27).alloc4 (.slice A1.wa A1.wn A1.wc) (.slice A1.xa A1.xn A1.xc) (.slice A1.la A1.ln A1.lc) (.slice A1.oa A1.on A1.oc) 27)
  try simp only [World.size_alloc] at M0
  go_enter Try.func3, Try.ntmps3
  go_wp2_with fail
  refine (szSeen_calls A0 D0 1048576 _ (by omega) (by omega) (hs0.below M0.bel (Nat.le_refl _))).mono ?_
  rintro e w1 ⟨rfl, g1⟩
  have M1 := M0.below g1
  clear g1 M0
  rw [szI_neg (by omega)]
  have HB := hide M1.bel
  clear M1
  go_wp2
  go_ret
  exact ⟨rfl, HB.out⟩

set_option maxRecDepth 100000 in
theorem law_big1_SameSeen (A0 : NA) (D0 : ND) (A1 : NA) (D1 : ND) (w : World) (hs0 : RN w A0 D0) (hs1 : RN w A1 D1) (hz0 : szN A0 D0 ≤ 1048576) (hbig : 1048576 < szN A0 D0 + szN A1 D1) :
    Calls Try.prog 3 #[.agg #[.slice A0.wa A0.wn A0.wc, .slice A0.xa A0.xn A0.xc, .slice A0.la A0.ln A0.lc, .slice A0.oa A0.on A0.oc], .agg #[.slice A1.wa A1.wn A1.wc, .slice A1.xa A1.xn A1.xc, .slice A1.la A1.ln A1.lc, .slice A1.oa A1.on A1.oc]] w fun e w' => e = .returned (.bool true) ∧ Below w.heap.size w w' := by
  have M0 := (((Mm.start w).alloc4 (.slice A0.wa A0.wn A0.wc) (.slice A0.xa A0.xn A0.xc) (.slice A0.la A0.ln A0.lc) (.slice A0.oa A0.on A0.oc) 27).alloc4 (.slice A1.wa A1.wn A1.wc) (.slice A1.xa A1.xn A1.xc) (.slice A1.la A1.ln A1.lc) (.slice A1.oa A1.on A1.oc) 27)
  try simp only [World.size_alloc] at M0
  go_enter Try.func3, Try.ntmps3
  go_wp2_with fail
  refine (szSeen_calls A0 D0 1048576 _ (by omega) (by omega) (hs0.below M0.bel (Nat.le_refl _))).mono ?_
  rintro e w1 ⟨rfl, g1⟩
  have M1 := M0.below g1
  clear g1 M0
  rw [szI_pos (by omega)]
  have hge0 : ¬ (1048576 - ((szN A0 D0 : Nat) : Int) < 0) := by omega
  have q0_0 := M1.cell 0 rfl
  have q0_1 := M1.cell 1 rfl
  have q0_2 := M1.cell 2 rfl
  have q0_3 := M1.cell 3 rfl
  go_wp2_with fail
  refine (szSeen_calls A1 D1 _ _ (by omega) (by omega) (hs1.below M1.bel (Nat.le_refl _))).mono ?_
  rintro e w2 ⟨rfl, g2⟩
  have M2 := M1.below g2
  clear g2 M1
  rw [szI_neg (by omega)]
  have HB := hide M2.bel
  clear M2
  go_wp2
  go_ret
  exact ⟨rfl, HB.out⟩

set_option maxRecDepth 100000 in
set_option maxHeartbeats 16000000 in
theorem law_small_SameSeen (A0 : NA) (D0 : ND) (A1 : NA) (D1 : ND) (w : World) (hs0 : RN w A0 D0) (hs1 : RN w A1 D1) (hz : szN A0 D0 + szN A1 D1 ≤ 1048576) :
    Calls Try.prog 3 #[.agg #[.slice A0.wa A0.wn A0.wc, .slice A0.xa A0.xn A0.xc, .slice A0.la A0.ln A0.lc, .slice A0.oa A0.on A0.oc], .agg #[.slice A1.wa A1.wn A1.wc, .slice A1.xa A1.xn A1.xc, .slice A1.la A1.ln A1.lc, .slice A1.oa A1.on A1.oc]] w fun e w' => e = .returned (.bool true) ∧ Below w.heap.size w w' := by
  have hz0 : szN A0 D0 ≤ 1048576 := by omega
  have hz1 : szN A1 D1 ≤ 1048576 := by omega
  have M0 := (((Mm.start w).alloc4 (.slice A0.wa A0.wn A0.wc) (.slice A0.xa A0.xn A0.xc) (.slice A0.la A0.ln A0.lc) (.slice A0.oa A0.on A0.oc) 27).alloc4 (.slice A1.wa A1.wn A1.wc) (.slice A1.xa A1.xn A1.xc) (.slice A1.la A1.ln A1.lc) (.slice A1.oa A1.on A1.oc) 27)
  try simp only [World.size_alloc] at M0
  go_enter Try.func3, Try.ntmps3
  go_wp2_with fail
  refine (szSeen_calls A0 D0 1048576 _ (by omega) (by omega) (hs0.below M0.bel (Nat.le_refl _))).mono ?_
  rintro e w1 ⟨rfl, g1⟩
  have zz1 := g1.size
  try simp only [World.size_alloc] at zz1
  have M1 := M0.below g1
  clear g1 M0
  rw [szI_pos (by omega)]
  have hge0 : ¬ (1048576 - ((szN A0 D0 : Nat) : Int) < 0) := by omega
  have q0 := M1.cell 0 rfl
  have q1 := M1.cell 1 rfl
  have q2 := M1.cell 2 rfl
  have q3 := M1.cell 3 rfl
  go_wp2_with fail
  refine (szSeen_calls A1 D1 _ _ (by omega) (by omega) (hs1.below M1.bel (Nat.le_refl _))).mono ?_
  rintro e w2 ⟨rfl, g2⟩
  have zz2 := g2.size
  try simp only [World.size_alloc] at zz2
  have M2 := M1.below g2
  clear g2 M1 q0 q1 q2 q3
  rw [szI_pos (by omega)]
  have hge1 : ¬ (1048576 - ((szN A0 D0 : Nat) : Int) - ((szN A1 D1 : Nat) : Int) < 0) := by omega
  have q0 := M2.cell 4 rfl
  have q1 := M2.cell 5 rfl
  have q2 := M2.cell 6 rfl
  have q3 := M2.cell 7 rfl
  have q4 := M2.cell 0 rfl
  have q5 := M2.cell 1 rfl
  have q6 := M2.cell 2 rfl
  have q7 := M2.cell 3 rfl
  have lt0 := M2.lt 4 rfl
  have lt1 := M2.lt 5 rfl
  have lt2 := M2.lt 6 rfl
  have lt3 := M2.lt 7 rfl
  have lt4 := M2.lt 0 rfl
  have lt5 := M2.lt 1 rfl
  have lt6 := M2.lt 2 rfl
  have lt7 := M2.lt 3 rfl
  have sr0 := hs0.below M2.bel (Nat.le_refl _)
  have sr1 := hs1.below M2.bel (Nat.le_refl _)
  go_upto_region 8 with fail
  go_cut [6] (fun v wd => v = .bool (snB D0 D1) ∧ Below w2.heap.size w2 wd)
  case first =>
    have HS0 : Hid (w2.drew.cell? ⟨w.heap.size, 0, none⟩ = some (.slice A0.wa A0.wn A0.wc) ∧ w2.drew.cell? ⟨w.heap.size, 1, none⟩ = some (.slice A0.xa A0.xn A0.xc) ∧ w2.drew.cell? ⟨w.heap.size, 2, none⟩ = some (.slice A0.la A0.ln A0.lc) ∧ w2.drew.cell? ⟨w.heap.size, 3, none⟩ = some (.slice A0.oa A0.on A0.oc) ∧ w2.drew.cell? ⟨w.heap.size + 1, 0, none⟩ = some (.slice A1.wa A1.wn A1.wc) ∧ w2.drew.cell? ⟨w.heap.size + 1, 1, none⟩ = some (.slice A1.xa A1.xn A1.xc) ∧ w2.drew.cell? ⟨w.heap.size + 1, 2, none⟩ = some (.slice A1.la A1.ln A1.lc) ∧ w2.drew.cell? ⟨w.heap.size + 1, 3, none⟩ = some (.slice A1.oa A1.on A1.oc) ∧ Below w2.heap.size w2 w2.drew) := ⟨q0, q1, q2, q3, q4, q5, q6, q7, (Below.refl _ _).drew⟩
    go_region_held2 (fun w' => w'.cell? ⟨w.heap.size, 0, none⟩ = some (.slice A0.wa A0.wn A0.wc) ∧ w'.cell? ⟨w.heap.size, 1, none⟩ = some (.slice A0.xa A0.xn A0.xc) ∧ w'.cell? ⟨w.heap.size, 2, none⟩ = some (.slice A0.la A0.ln A0.lc) ∧ w'.cell? ⟨w.heap.size, 3, none⟩ = some (.slice A0.oa A0.on A0.oc) ∧ w'.cell? ⟨w.heap.size + 1, 0, none⟩ = some (.slice A1.wa A1.wn A1.wc) ∧ w'.cell? ⟨w.heap.size + 1, 1, none⟩ = some (.slice A1.xa A1.xn A1.xc) ∧ w'.cell? ⟨w.heap.size + 1, 2, none⟩ = some (.slice A1.la A1.ln A1.lc) ∧ w'.cell? ⟨w.heap.size + 1, 3, none⟩ = some (.slice A1.oa A1.on A1.oc) ∧ Below w2.heap.size w2 w')
      (first | with_reducible exact HS0.out | (repeat (first | with_reducible assumption | with_reducible refine q8_allocd lt0 lt1 lt2 lt3 lt4 lt5 lt6 lt7 ?_ _ | with_reducible refine q8_alloc lt0 lt1 lt2 lt3 lt4 lt5 lt6 lt7 ?_ _ | with_reducible refine q8_set lt0 lt1 lt2 lt3 lt4 lt5 lt6 lt7 ?_ ?_ _ | (show (_ : Nat) ≤ _; exact Nat.le_refl _) | (show (_ : Nat) ≤ _; dsimp only; omega))))
      (first
        | (go_at_call_of 6 (Value.slice A0.wa A0.wn A0.wc); refine (toSeen_O A0 D0 _ (by omega) ?_).mono ?_; exact sr0.below (q8_bel (by with_reducible assumption)) (Nat.le_refl _); rintro e wa ⟨b_v0, rfl, o0, ga⟩; have hswa := q8_below lt0 lt1 lt2 lt3 lt4 lt5 lt6 lt7 (by with_reducible assumption) ga; have hzwa := ga.size; have hwwa := (q8_bel hswa).size; (try simp only [World.size_drew] at hzwa); (try have hqwa := Nat.lt_of_succ_le hzwa); obtain ⟨bc0, bf0⟩ := bcellQ ga; (try simp only [World.size_drew] at bc0 bf0); clear ga)
        | (go_at_call_of 6 (Value.slice A1.wa A1.wn A1.wc); refine (toSeen_O A1 D1 _ (by omega) ?_).mono ?_; exact sr1.below (q8_bel (by with_reducible assumption)) (Nat.le_refl _); rintro e wb ⟨b_v1, rfl, o1, ga⟩; have hswb := q8_below lt0 lt1 lt2 lt3 lt4 lt5 lt6 lt7 (by with_reducible assumption) ga; have hzwb := ga.size; have hwwb := (q8_bel hswb).size; have o0 := Loc.belowA ON.loc o0 ga (by first | exact Below.refl _ _ | exact (Below.refl _ _).alloc (Nat.le_refl _) _); (try simp only [World.size_drew] at hzwb); (try have hqwb := Nat.lt_of_succ_le hzwb); (try have hrwb := Nat.lt_of_lt_of_le hqwa hzwb); obtain ⟨bc1, bf1⟩ := bcellQ ga; (try simp only [World.size_drew] at bc1 bf1); clear ga)
        | (go_at_call 5; refine (specSameSeen_calls _ D0 _ D1 _ (Loc.belowB ON.loc o0 (by first | exact Below.refl _ _ | exact (Below.refl _ _).alloc (Nat.le_refl _) _)).rn (Loc.belowB ON.loc o1 (by first | exact Below.refl _ _ | exact (Below.refl _ _).alloc (Nat.le_refl _) _)).rn).mono ?_; rintro e ws ⟨rfl, gs⟩; have hss := q8_below lt0 lt1 lt2 lt3 lt4 lt5 lt6 lt7 (by with_reducible assumption) gs; have hzs := gs.size; have hws := (q8_bel hss).size; obtain ⟨bcs, bfs⟩ := bcellQ gs; (try simp only [World.size_drew] at hzs bcs bfs); (try have hts := Nat.lt_of_succ_le hzs); (try have hus := Nat.lt_of_lt_of_le hqwb hzs); (try have hvs := Nat.lt_of_lt_of_le hrwb hzs); clear gs))
    all_goals go_wp2_with fail
    all_goals go_meet
    all_goals exact ⟨rfl, q8_bel (by with_reducible assumption)⟩
  case rest =>
    obtain ⟨rfl, g3⟩ := hcut
    obtain ⟨w3, rfl⟩ : ∃ x, x = wc := ⟨wc, rfl⟩
    have zz3 := g3.size
    have M3 := (M2.below g3)
    clear g3 M2 lt0 lt1 lt2 lt3 lt4 lt5 lt6 lt7 sr0 sr1 q0 q1 q2 q3 q4 q5 q6 q7
    have q0 := M3.cell 4 rfl
    have q1 := M3.cell 5 rfl
    have q2 := M3.cell 6 rfl
    have q3 := M3.cell 7 rfl
    go_wp2_with fail
    refine (toSeen_O A0 D0 _ (by omega) (hs0.below M3.bel (Nat.le_refl _))).mono ?_
    rintro e w4 ⟨b_x0, rfl, ox0, g4⟩
    have zz4 := g4.size
    try simp only [World.size_alloc] at ox0 zz4
    have M4 := ((M3.below g4).fact ON.loc ox0).alloc4 (.slice b_x0.wa b_x0.wn b_x0.wc) (.slice b_x0.xa b_x0.xn b_x0.xc) (.slice b_x0.la b_x0.ln b_x0.lc) (.slice b_x0.oa b_x0.on b_x0.oc) 34
    clear g4 M3 ox0 q0 q1 q2 q3
    have q0 := M4.cell 4 rfl
    have q1 := M4.cell 5 rfl
    have q2 := M4.cell 6 rfl
    have q3 := M4.cell 7 rfl
    go_wp2_with fail
    refine (toSeen_O A1 D1 _ (by omega) (hs1.below M4.bel (Nat.le_refl _))).mono ?_
    rintro e w5 ⟨b_x1, rfl, ox1, g5⟩
    have zz5 := g5.size
    try simp only [World.size_alloc] at ox1 zz5
    have M5 := ((M4.below g5).fact ON.loc ox1).alloc4 (.slice b_x1.wa b_x1.wn b_x1.wc) (.slice b_x1.xa b_x1.xn b_x1.xc) (.slice b_x1.la b_x1.ln b_x1.lc) (.slice b_x1.oa b_x1.on b_x1.oc) 34
    clear g5 M4 ox1 q0 q1 q2 q3
    have q0 := M5.cell 4 rfl
    have q1 := M5.cell 5 rfl
    have q2 := M5.cell 6 rfl
    have q3 := M5.cell 7 rfl
    have q4 := M5.cell 0 rfl
    have q5 := M5.cell 1 rfl
    have q6 := M5.cell 2 rfl
    have q7 := M5.cell 3 rfl
    go_wp2_with fail
    refine (implSameSeen_calls _ D0 _ D1 _ (M5.get 1 rfl).rn (M5.get 0 rfl).rn).mono ?_
    rintro e w6 ⟨rfl, g6⟩
    have zz6 := g6.size
    try simp only [World.size_alloc] at zz6
    have M6 := (M5.below g6)
    clear g6 M5 q0 q1 q2 q3 q4 q5 q6 q7
    have hne : ((snB D0 D1) != (snB D0 D1)) = false := by simp
    have q0 := M6.cell 4 rfl
    have q1 := M6.cell 5 rfl
    have q2 := M6.cell 6 rfl
    have q3 := M6.cell 7 rfl
    have q4 := M6.cell 12 rfl
    have q5 := M6.cell 13 rfl
    have q6 := M6.cell 14 rfl
    have q7 := M6.cell 15 rfl
    go_upto_region 14 with fail
    go_cut [39] (fun v wd => v = .bool false ∧ Below w6.heap.size w6 wd)
    case first =>
      go_region_with (first
        | (go_at_call 6; refine (toSeen_O A0 D0 _ (by omega) ?_).mono ?_; exact hs0.below M6.drew.bel (Nat.le_refl _); rintro e wa ⟨b_y, rfl, oy, ga⟩; have ha : Below w6.heap.size w6 wa := ((Below.refl w6.heap.size w6).drew).trans ga; have Ma := M6.below ha; have y0 := Ma.cell 4 rfl; have y1 := Ma.cell 5 rfl; have y2 := Ma.cell 6 rfl; have y3 := Ma.cell 7 rfl; clear ga)
        | (go_at_call 8; refine (eqSeen_O _ _ _ _ D0 _ (Ma.get 1 rfl) oy).mono ?_; rintro e wb ⟨rfl, gb⟩; have hb : Below w6.heap.size w6 wb := ha.trans (gb.mono ha.size); clear gb))
      all_goals go_wp2_with fail
      all_goals go_meet
      all_goals exact ⟨rfl, hb⟩
    case rest =>
      obtain ⟨rfl, g7⟩ := hcut
      obtain ⟨w7, rfl⟩ : ∃ x, x = wc := ⟨wc, rfl⟩
      have zz7 := g7.size
      have M7 := M6.below g7
      clear g7 M6 q0 q1 q2 q3 q4 q5 q6 q7
      have q0 := M7.cell 0 rfl
      have q1 := M7.cell 1 rfl
      have q2 := M7.cell 2 rfl
      have q3 := M7.cell 3 rfl
      have q4 := M7.cell 8 rfl
      have q5 := M7.cell 9 rfl
      have q6 := M7.cell 10 rfl
      have q7 := M7.cell 11 rfl
      go_upto_region 16 with fail
      go_cut [44] (fun v wd => v = .bool false ∧ Below w7.heap.size w7 wd)
      case first =>
        go_region_with (first
          | (go_at_call 6; refine (toSeen_O A1 D1 _ (by omega) ?_).mono ?_; exact hs1.below M7.drew.bel (Nat.le_refl _); rintro e wa ⟨b_y, rfl, oy, ga⟩; have ha : Below w7.heap.size w7 wa := ((Below.refl w7.heap.size w7).drew).trans ga; have Ma := M7.below ha; have y0 := Ma.cell 0 rfl; have y1 := Ma.cell 1 rfl; have y2 := Ma.cell 2 rfl; have y3 := Ma.cell 3 rfl; clear ga)
          | (go_at_call 8; refine (eqSeen_O _ _ _ _ D1 _ (Ma.get 0 rfl) oy).mono ?_; rintro e wb ⟨rfl, gb⟩; have hb : Below w7.heap.size w7 wb := ha.trans (gb.mono ha.size); clear gb))
        all_goals go_wp2_with fail
        all_goals go_meet
        all_goals exact ⟨rfl, hb⟩
      case rest =>
        obtain ⟨rfl, g8⟩ := hcut
        obtain ⟨w8, rfl⟩ : ∃ x, x = wc := ⟨wc, rfl⟩
        have zz8 := g8.size
        have M8 := M7.below g8
        clear g8 M7 q0 q1 q2 q3 q4 q5 q6 q7
        have HB := hide M8.bel
        clear M8
        go_wp2
        go_ret
        exact ⟨rfl, HB.out⟩

theorem walk_SameSeen (A0 : NA) (D0 : ND) (A1 : NA) (D1 : ND) (w : World) (hs0 : RN w A0 D0) (hs1 : RN w A1 D1) :
    Calls Try.prog 3 #[.agg #[.slice A0.wa A0.wn A0.wc, .slice A0.xa A0.xn A0.xc, .slice A0.la A0.ln A0.lc, .slice A0.oa A0.on A0.oc], .agg #[.slice A1.wa A1.wn A1.wc, .slice A1.xa A1.xn A1.xc, .slice A1.la A1.ln A1.lc, .slice A1.oa A1.on A1.oc]] w fun e w' => e = .returned (.bool true) ∧ Below w.heap.size w w' := by
  by_cases hz0 : szN A0 D0 ≤ 1048576
  rotate_left
  · exact law_big0_SameSeen A0 D0 A1 w hs0 (by omega)
  by_cases hz1 : szN A0 D0 + szN A1 D1 ≤ 1048576
  rotate_left
  · exact law_big1_SameSeen A0 D0 A1 D1 w hs0 hs1 hz0 (by omega)
  exact law_small_SameSeen A0 D0 A1 D1 w hs0 hs1 hz1

end Go.Proofs.Ytnlkigjgloeonaa
