import Derived.Test.YtgkjmeogdomgmaaTDm2
import Derived.Test.YtgkjmeogdomgmaaTDm3
import Derived.Test.YtgkjmeogdomgmaaTabK
import Derived.Test.YtgkjmeogdomgmaaQs
import Derived.WalkKit
import Derived.ProofKit
import Derived.OpenShut
import Derived.ShutString
import Derived.ChangeOld
import Derived.Below
import Derived.WalkSpells
import Derived.Deep.QuietTactic
import Derived.BigQuiet
import Derived.Deep.RegionWith
import Derived.Deep.WholeRow
import Derived.Deep.DeepCutAuto
import Derived.Deep.RegionHeld2
import Derived.Deep.AppendLies
import Derived.Deep.RegionLaw
namespace Go.Proofs.Ytgkjmeogdomgmaa
open Go.ChangeShapes Go.WideShapes Go.ChangeAt Go.RowKit

theorem set5_at0 (X : World) (P : Nat) (v0 v1 v2 v3 v4 : Value) (h : ∃ u, X.cell? ⟨P, 0, none⟩ = some u) : (((((X.setCell ⟨P, 0, none⟩ v0).setCell ⟨P, 1, none⟩ v1).setCell ⟨P, 2, none⟩ v2).setCell ⟨P, 3, none⟩ v3).setCell ⟨P, 4, none⟩ v4).cell? ⟨P, 0, none⟩ = some v0 := by
  obtain ⟨u, h⟩ := h
  rw [World.cell?_setCell_other _ _ _ _ (fun e => by injection e with _ e2; omega)]
  rw [World.cell?_setCell_other _ _ _ _ (fun e => by injection e with _ e2; omega)]
  rw [World.cell?_setCell_other _ _ _ _ (fun e => by injection e with _ e2; omega)]
  rw [World.cell?_setCell_other _ _ _ _ (fun e => by injection e with _ e2; omega)]
  exact World.cell?_setCell_same _ _ _ h

theorem set5_at1 (X : World) (P : Nat) (v0 v1 v2 v3 v4 : Value) (h : ∃ u, X.cell? ⟨P, 1, none⟩ = some u) : (((((X.setCell ⟨P, 0, none⟩ v0).setCell ⟨P, 1, none⟩ v1).setCell ⟨P, 2, none⟩ v2).setCell ⟨P, 3, none⟩ v3).setCell ⟨P, 4, none⟩ v4).cell? ⟨P, 1, none⟩ = some v1 := by
  obtain ⟨u, h⟩ := h
  rw [World.cell?_setCell_other _ _ _ _ (fun e => by injection e with _ e2; omega)]
  rw [World.cell?_setCell_other _ _ _ _ (fun e => by injection e with _ e2; omega)]
  rw [World.cell?_setCell_other _ _ _ _ (fun e => by injection e with _ e2; omega)]
  exact World.cell?_setCell_same _ _ _ ((World.cell?_setCell_other _ _ _ _ (fun e => by injection e with _ e2; omega)).trans h)

theorem set5_at2 (X : World) (P : Nat) (v0 v1 v2 v3 v4 : Value) (h : ∃ u, X.cell? ⟨P, 2, none⟩ = some u) : (((((X.setCell ⟨P, 0, none⟩ v0).setCell ⟨P, 1, none⟩ v1).setCell ⟨P, 2, none⟩ v2).setCell ⟨P, 3, none⟩ v3).setCell ⟨P, 4, none⟩ v4).cell? ⟨P, 2, none⟩ = some v2 := by
  obtain ⟨u, h⟩ := h
  rw [World.cell?_setCell_other _ _ _ _ (fun e => by injection e with _ e2; omega)]
  rw [World.cell?_setCell_other _ _ _ _ (fun e => by injection e with _ e2; omega)]
  exact World.cell?_setCell_same _ _ _ ((World.cell?_setCell_other _ _ _ _ (fun e => by injection e with _ e2; omega)).trans ((World.cell?_setCell_other _ _ _ _ (fun e => by injection e with _ e2; omega)).trans h))

theorem set5_at3 (X : World) (P : Nat) (v0 v1 v2 v3 v4 : Value) (h : ∃ u, X.cell? ⟨P, 3, none⟩ = some u) : (((((X.setCell ⟨P, 0, none⟩ v0).setCell ⟨P, 1, none⟩ v1).setCell ⟨P, 2, none⟩ v2).setCell ⟨P, 3, none⟩ v3).setCell ⟨P, 4, none⟩ v4).cell? ⟨P, 3, none⟩ = some v3 := by
  obtain ⟨u, h⟩ := h
  rw [World.cell?_setCell_other _ _ _ _ (fun e => by injection e with _ e2; omega)]
  exact World.cell?_setCell_same _ _ _ ((World.cell?_setCell_other _ _ _ _ (fun e => by injection e with _ e2; omega)).trans ((World.cell?_setCell_other _ _ _ _ (fun e => by injection e with _ e2; omega)).trans ((World.cell?_setCell_other _ _ _ _ (fun e => by injection e with _ e2; omega)).trans h)))

theorem set5_at4 (X : World) (P : Nat) (v0 v1 v2 v3 v4 : Value) (h : ∃ u, X.cell? ⟨P, 4, none⟩ = some u) : (((((X.setCell ⟨P, 0, none⟩ v0).setCell ⟨P, 1, none⟩ v1).setCell ⟨P, 2, none⟩ v2).setCell ⟨P, 3, none⟩ v3).setCell ⟨P, 4, none⟩ v4).cell? ⟨P, 4, none⟩ = some v4 := by
  obtain ⟨u, h⟩ := h
  exact World.cell?_setCell_same _ _ _ ((World.cell?_setCell_other _ _ _ _ (fun e => by injection e with _ e2; omega)).trans ((World.cell?_setCell_other _ _ _ _ (fun e => by injection e with _ e2; omega)).trans ((World.cell?_setCell_other _ _ _ _ (fun e => by injection e with _ e2; omega)).trans ((World.cell?_setCell_other _ _ _ _ (fun e => by injection e with _ e2; omega)).trans h))))

theorem OT.allocR {B B' : Nat} {a : Option Addr} {n : Nat} {ss : List (Int × List Int)} {ta : Option Addr} {tn : Nat} {ts : List Int} {da : Option Addr} {dn : Nat} {ds : List Int} {ws : World} {o : Obj} (h : OT (InR B' ws.heap.size) a n ss ta tn ts da dn ds ws) (hB : B ≤ B') : OT (InR B (ws.alloc o).heap.size) a n ss ta tn ts da dn ds (ws.alloc o) :=
  OT.mono (OT.loc.alloc h o) (fun k hk => ⟨by have := hk.1; omega, by have := hk.2; simp; omega⟩)

theorem OT.set5R {B B' P : Nat} {a : Option Addr} {n : Nat} {ss : List (Int × List Int)} {ta : Option Addr} {tn : Nat} {ts : List Int} {da : Option Addr} {dn : Nat} {ds : List Int} {ws : World} (h : OT (InR B' ws.heap.size) a n ss ta tn ts da dn ds ws) (hB : B ≤ B') (hP : P < B') (v0 v1 v2 v3 v4 : Value) :
    OT (InR B (((((ws.setCell ⟨P, 0, none⟩ v0).setCell ⟨P, 1, none⟩ v1).setCell ⟨P, 2, none⟩ v2).setCell ⟨P, 3, none⟩ v3).setCell ⟨P, 4, none⟩ v4).heap.size) a n ss ta tn ts da dn ds (((((ws.setCell ⟨P, 0, none⟩ v0).setCell ⟨P, 1, none⟩ v1).setCell ⟨P, 2, none⟩ v2).setCell ⟨P, 3, none⟩ v3).setCell ⟨P, 4, none⟩ v4) :=
  OT.mono (loc_set5 OT.loc h (fun e => by have := e.1; omega) v0 v1 v2 v3 v4) (fun k hk => ⟨by have := hk.1; omega, by have := hk.2; simpa using this⟩)

theorem toLabel_O (a : Option Addr) (n cap : Nat) (zs : List Int) (w : World) (hl : n ≤ 1048576) (hs : Sl w a n zs) :
    Calls Try.prog 9 #[.agg #[.slice a n cap]] w fun e w' => ∃ b, e = .returned (.agg #[.slice (some ⟨b, 0, none⟩) n n]) ∧ OS (InR w.heap.size w'.heap.size) (some ⟨b, 0, none⟩) n zs w' ∧ Below w.heap.size w w' :=
  (toLabel_calls a n cap zs w hl hs).mono (fun _ _ h => by obtain ⟨b, e, h1, h2, h3⟩ := h; exact ⟨b, e, OS.ofBlk h2 ⟨h1, h2.1⟩ hs.1 hl, h3⟩)

theorem eqLabel_O (S S' : Nat → Prop) (a b : Option Addr) (n ca cb : Nat) (zs : List Int) (w : World) (hx : OS S a n zs w) (hy : OS S' b n zs w) :
    Calls Try.prog 13 #[.agg #[.slice a n ca], .agg #[.slice b n cb]] w fun e w' => e = .returned (.bool true) ∧ Below w.heap.size w w' :=
  (eqLabel_calls a b n ca n cb zs zs w (by have := hx.2.1; unfold maxLen; omega) (by have := hx.2.1; unfold maxLen; omega) hx.sl hy.sl).mono (fun _ _ h => by obtain ⟨h1, h2⟩ := h; exact ⟨by rw [h1, decide_eq_true rfl], h2⟩)

set_option maxRecDepth 100000 in
theorem markLabel_O (S : Nat → Prop) (a : Option Addr) (n cap : Nat) (rs : List Int) (m : Int) (w : World) (hm0 : 0 ≤ m) (hm : m ≤ 4194304) (hs : OS S a n rs w) :
    Calls Try.prog 15 #[.agg #[.slice a n cap], .int .i64 m] w fun e w' => e = .returned (.int .i64 (m + n)) ∧ OS S a n (marksFrom m n) w' ∧ OutS S w w' := by
  go_enter Try.func15, Try.ntmps15
  go_wp2_with fail
  refine (markInt64S_O S a n cap rs m _ hm0 hm (OS.loc.below ((Below.refl _ _).alloc (Nat.le_refl _) _) hs)).mono ?_
  rintro e w1 ⟨rfl, h1, h2⟩
  go_wp2
  go_ret
  exact ⟨rfl, h1, (OutS.of_below ((Below.refl _ _).alloc (Nat.le_refl _) _)).trans h2⟩

set_option maxRecDepth 100000 in
theorem law_big0_TaintDomain (a0 : Option Addr) (l0 c0 : Nat) (z0 : List (Int × List Int)) (ta0 : Option Addr) (tl0 tc0 : Nat) (t0 : List Int) (da0 : Option Addr) (dl0 dc0 : Nat) (d0 : List Int) (x1 : Int) (a2 : Option Addr) (l2 c2 : Nat) (w : World) (hs0 : RT w a0 l0 z0 ta0 tl0 t0 da0 dl0 d0) (hbig : 1048576 < (l0 + lenSum z0 + tl0 + dl0)) :
    Calls Try.prog 3 #[.agg #[.slice a0 l0 c0, .slice ta0 tl0 tc0, .slice da0 dl0 dc0], .int .i64 x1, .agg #[.slice a2 l2 c2]] w fun e w' => e = .returned (.bool true) ∧ Below w.heap.size w w' := by
  have M0 := (((Mm.start w).alloc3 (.slice a0 l0 c0) (.slice ta0 tl0 tc0) (.slice da0 dl0 dc0) 27).alloc1 (.slice a2 l2 c2) 29)
  try simp only [World.size_alloc] at M0
  go_enter Try.func3, Try.ntmps3
  go_wp2_with fail
  refine (szTables_calls a0 l0 c0 z0 ta0 tl0 tc0 t0 da0 dl0 dc0 d0 1048576 _ (by omega) (by omega) (hs0.below M0.bel (Nat.le_refl _))).mono ?_
  rintro e w1 ⟨rfl, g1⟩
  have M1 := M0.below g1
  clear g1 M0
  rw [szI_neg (by omega)]
  have HB := hide M1.bel
  clear M1
  go_wp2
  go_ret
  exact ⟨rfl, HB.out⟩

set_option maxRecDepth 100000 in
theorem law_big2_TaintDomain (a0 : Option Addr) (l0 c0 : Nat) (z0 : List (Int × List Int)) (ta0 : Option Addr) (tl0 tc0 : Nat) (t0 : List Int) (da0 : Option Addr) (dl0 dc0 : Nat) (d0 : List Int) (x1 : Int) (a2 : Option Addr) (l2 c2 : Nat) (z2 : List Int) (w : World) (hs0 : RT w a0 l0 z0 ta0 tl0 t0 da0 dl0 d0) (hm2 : l2 ≤ maxLen) (hs2 : Sl w a2 l2 z2) (hz0 : (l0 + lenSum z0 + tl0 + dl0) ≤ 1048576) (hbig : 1048576 < (l0 + lenSum z0 + tl0 + dl0) + l2) :
    Calls Try.prog 3 #[.agg #[.slice a0 l0 c0, .slice ta0 tl0 tc0, .slice da0 dl0 dc0], .int .i64 x1, .agg #[.slice a2 l2 c2]] w fun e w' => e = .returned (.bool true) ∧ Below w.heap.size w w' := by
  have _ := hs2
  have M0 := (((Mm.start w).alloc3 (.slice a0 l0 c0) (.slice ta0 tl0 tc0) (.slice da0 dl0 dc0) 27).alloc1 (.slice a2 l2 c2) 29)
  try simp only [World.size_alloc] at M0
  go_enter Try.func3, Try.ntmps3
  go_wp2_with fail
  refine (szTables_calls a0 l0 c0 z0 ta0 tl0 tc0 t0 da0 dl0 dc0 d0 1048576 _ (by omega) (by omega) (hs0.below M0.bel (Nat.le_refl _))).mono ?_
  rintro e w1 ⟨rfl, g1⟩
  have M1 := M0.below g1
  clear g1 M0
  rw [szI_pos (by omega)]
  have hge0 : ¬ (1048576 - (((l0 + lenSum z0 + tl0 + dl0) : Nat) : Int) < 0) := by omega
  have q0_0 := M1.cell 0 rfl
  go_wp2_with fail
  refine (szLabel_calls a2 l2 c2 _ _ (by omega) (by omega) hm2).mono ?_
  rintro e w2 ⟨rfl, g2⟩
  have M2 := M1.below g2
  clear g2 M1
  rw [szI_neg (by omega)]
  have HB := hide M2.bel
  clear M2
  go_wp2
  go_ret
  exact ⟨rfl, HB.out⟩

set_option maxRecDepth 100000 in
set_option maxHeartbeats 16000000 in
theorem law_small_TaintDomain (a0 : Option Addr) (l0 c0 : Nat) (z0 : List (Int × List Int)) (ta0 : Option Addr) (tl0 tc0 : Nat) (t0 : List Int) (da0 : Option Addr) (dl0 dc0 : Nat) (d0 : List Int) (x1 : Int) (a2 : Option Addr) (l2 c2 : Nat) (z2 : List Int) (w : World) (hs0 : RT w a0 l0 z0 ta0 tl0 t0 da0 dl0 d0) (hm2 : l2 ≤ maxLen) (hs2 : Sl w a2 l2 z2) (hz : (l0 + lenSum z0 + tl0 + dl0) + l2 ≤ 1048576) :
    Calls Try.prog 3 #[.agg #[.slice a0 l0 c0, .slice ta0 tl0 tc0, .slice da0 dl0 dc0], .int .i64 x1, .agg #[.slice a2 l2 c2]] w fun e w' => e = .returned (.bool true) ∧ Below w.heap.size w w' := by
  have hz0 : (l0 + lenSum z0 + tl0 + dl0) ≤ 1048576 := by omega
  have hz2 : l2 ≤ 1048576 := by omega
  have M0 := (((Mm.start w).alloc3 (.slice a0 l0 c0) (.slice ta0 tl0 tc0) (.slice da0 dl0 dc0) 27).alloc1 (.slice a2 l2 c2) 29)
  try simp only [World.size_alloc] at M0
  go_enter Try.func3, Try.ntmps3
  go_wp2_with fail
  refine (szTables_calls a0 l0 c0 z0 ta0 tl0 tc0 t0 da0 dl0 dc0 d0 1048576 _ (by omega) (by omega) (hs0.below M0.bel (Nat.le_refl _))).mono ?_
  rintro e w1 ⟨rfl, g1⟩
  have zz1 := g1.size
  try simp only [World.size_alloc] at zz1
  have M1 := M0.below g1
  clear g1 M0
  rw [szI_pos (by omega)]
  have hge0 : ¬ (1048576 - (((l0 + lenSum z0 + tl0 + dl0) : Nat) : Int) < 0) := by omega
  have q0 := M1.cell 0 rfl
  go_wp2_with fail
  refine (szLabel_calls a2 l2 c2 _ _ (by omega) (by omega) hm2).mono ?_
  rintro e w2 ⟨rfl, g2⟩
  have zz2 := g2.size
  try simp only [World.size_alloc] at zz2
  have M2 := M1.below g2
  clear g2 M1 q0
  rw [szI_pos (by omega)]
  have hge1 : ¬ (1048576 - (((l0 + lenSum z0 + tl0 + dl0) : Nat) : Int) - ((l2 : Nat) : Int) < 0) := by omega
  have q0 := M2.cell 1 rfl
  have q1 := M2.cell 2 rfl
  have q2 := M2.cell 3 rfl
  have q3 := M2.cell 0 rfl
  have lt0 := M2.lt 1 rfl
  have lt1 := M2.lt 2 rfl
  have lt2 := M2.lt 3 rfl
  have lt3 := M2.lt 0 rfl
  have sr0 := hs0.below M2.bel (Nat.le_refl _)
  have sr2 := hs2.below M2.bel (Nat.le_refl _)
  go_upto_region 8 with fail
  go_cut [8] (fun v wd => ∃ P va vn vc vta vtn vtc vda vdn vdc , v = .pointer (some ⟨P, 0, none⟩) ∧ wd.cell? ⟨P, 0, none⟩ = some (.int .i64 (txC z0 t0 d0 x1 z2)) ∧ wd.frozen? ⟨P, 0, none⟩ = false ∧ wd.cell? ⟨P, 1, none⟩ = some (.int .i64 (txV z0 t0 d0 x1 z2)) ∧ wd.frozen? ⟨P, 1, none⟩ = false ∧ wd.cell? ⟨P, 2, none⟩ = some (.slice va vn vc) ∧ wd.frozen? ⟨P, 2, none⟩ = false ∧ wd.cell? ⟨P, 3, none⟩ = some (.slice vta vtn vtc) ∧ wd.frozen? ⟨P, 3, none⟩ = false ∧ wd.cell? ⟨P, 4, none⟩ = some (.slice vda vdn vdc) ∧ wd.frozen? ⟨P, 4, none⟩ = false ∧ OT (InR w2.heap.size wd.heap.size) va vn (txS z0 t0 d0 x1 z2) vta vtn (txT z0 t0 d0 x1 z2) vda vdn (txD z0 t0 d0 x1 z2) wd ∧ Below w2.heap.size w2 wd)
  case first =>
    have HS0 : Hid (w2.drew.cell? ⟨w.heap.size, 0, none⟩ = some (.slice a0 l0 c0) ∧ w2.drew.cell? ⟨w.heap.size, 1, none⟩ = some (.slice ta0 tl0 tc0) ∧ w2.drew.cell? ⟨w.heap.size, 2, none⟩ = some (.slice da0 dl0 dc0) ∧ w2.drew.cell? ⟨w.heap.size + 1, 0, none⟩ = some (.slice a2 l2 c2) ∧ Below w2.heap.size w2 w2.drew) := ⟨q0, q1, q2, q3, (Below.refl _ _).drew⟩
    go_region_held2 (fun w' => w'.cell? ⟨w.heap.size, 0, none⟩ = some (.slice a0 l0 c0) ∧ w'.cell? ⟨w.heap.size, 1, none⟩ = some (.slice ta0 tl0 tc0) ∧ w'.cell? ⟨w.heap.size, 2, none⟩ = some (.slice da0 dl0 dc0) ∧ w'.cell? ⟨w.heap.size + 1, 0, none⟩ = some (.slice a2 l2 c2) ∧ Below w2.heap.size w2 w')
      (first | with_reducible exact HS0.out | (repeat (first | with_reducible assumption | with_reducible refine q4_allocd lt0 lt1 lt2 lt3 ?_ _ | with_reducible refine q4_alloc lt0 lt1 lt2 lt3 ?_ _ | with_reducible refine q4_set lt0 lt1 lt2 lt3 ?_ ?_ _ | (show (_ : Nat) ≤ _; exact Nat.le_refl _) | (show (_ : Nat) ≤ _; dsimp only; omega))))
      (first
        | (go_at_call_of 8 (Value.slice a0 l0 c0); refine (toTables_O a0 l0 c0 z0 ta0 tl0 tc0 t0 da0 dl0 dc0 d0 _ (by omega) ?_).mono ?_; exact sr0.below (q4_bel (by with_reducible assumption)) (Nat.le_refl _); rintro e wa ⟨b_v0, bt_v0, bd_v0, rfl, o0, ga⟩; have hswa := q4_below lt0 lt1 lt2 lt3 (by with_reducible assumption) ga; have hzwa := ga.size; have hwwa := (q4_bel hswa).size; (try simp only [World.size_alloc, World.size_drew] at hzwa); (try have hqwa := Nat.lt_of_succ_le hzwa); obtain ⟨bc0, bf0⟩ := bcellQ ga; (try simp only [World.size_alloc, World.size_drew] at bc0 bf0); clear ga)
        | (go_at_call_of 9 (Value.slice a2 l2 c2); refine (toLabel_O a2 l2 c2 z2 _ (by omega) ?_).mono ?_; exact sr2.below (q4_bel (by with_reducible assumption)) (Nat.le_refl _); rintro e wb ⟨b_v2, rfl, o2, ga⟩; have hswb := q4_below lt0 lt1 lt2 lt3 (by with_reducible assumption) ga; have hzwb := ga.size; have hwwb := (q4_bel hswb).size; have o0 := Loc.belowA OT.loc o0 ga (by first | exact Below.refl _ _ | exact (Below.refl _ _).alloc (Nat.le_refl _) _); (try simp only [World.size_alloc] at hzwb); (try have hqwb := Nat.lt_of_succ_le hzwb); (try have hrwb := Nat.lt_of_lt_of_le hqwa hzwb); obtain ⟨bc1, bf1⟩ := bcellQ ga; (try simp only [World.size_alloc] at bc1 bf1); clear ga)
        | (go_at_call 7; refine (specTaintDomain_calls _ _ _ z0 _ _ _ t0 _ _ _ d0 x1 _ _ _ z2 _ (Loc.belowB OT.loc o0 (by first | exact Below.refl _ _ | exact (Below.refl _ _).alloc (Nat.le_refl _) _)).rt hm2 (Loc.belowB OS.loc o2 (by first | exact Below.refl _ _ | exact (Below.refl _ _).alloc (Nat.le_refl _) _)).sl).mono ?_; rintro e ws ⟨va, vn, vc, vta, vtn, vtc, vda, vdn, vdc, rfl, os, gs⟩; have hss := q4_below lt0 lt1 lt2 lt3 (by with_reducible assumption) gs; have hzs := gs.size; have hws := (q4_bel hss).size; obtain ⟨bcs, bfs⟩ := bcellQ gs; (try simp only [World.size_alloc] at hzs bcs bfs); (try have hts := Nat.lt_of_succ_le hzs); (try have hus := Nat.lt_of_lt_of_le hqwb hzs); (try have hvs := Nat.lt_of_lt_of_le hrwb hzs); (try simp only [World.size_alloc] at os); clear gs))
    all_goals go_wp2_with fail
    all_goals go_meet
    all_goals (
      refine ⟨_, va, vn, vc, vta, vtn, vtc, vda, vdn, vdc, rfl, ?c0, ?f0, ?c1, ?f1, ?c2, ?f2, ?c3, ?f3, ?c4, ?f4, ?o, ?b⟩
      case b => exact q4_bel (by with_reducible assumption)
      case o => first | (with_reducible exact OT.allocR os (by omega)) | (with_reducible exact OT.set5R os (by omega) (by omega) _ _ _ _ _ )
      case c0 => first | (go_simp; done) | (with_reducible refine set5_at0 _ _ _ _ _ _ _ ?_; go_simp; done)
      case f0 => (go_simp; done)
      case c1 => first | (go_simp; done) | (with_reducible refine set5_at1 _ _ _ _ _ _ _ ?_; go_simp; done)
      case f1 => (go_simp; done)
      case c2 => first | (go_simp; done) | (with_reducible refine set5_at2 _ _ _ _ _ _ _ ?_; go_simp; done)
      case f2 => (go_simp; done)
      case c3 => first | (go_simp; done) | (with_reducible refine set5_at3 _ _ _ _ _ _ _ ?_; go_simp; done)
      case f3 => (go_simp; done)
      case c4 => first | (go_simp; done) | (with_reducible refine set5_at4 _ _ _ _ _ _ _ ?_; go_simp; done)
      case f4 => (go_simp; done))
  case rest =>
    obtain ⟨Pv, va, vn, vc, vta, vtn, vtc, vda, vdn, vdc, rfl, cc0, cf0, cc1, cf1, cc2, cf2, cc3, cf3, cc4, cf4, ov, g3⟩ := hcut
    obtain ⟨w3, rfl⟩ : ∃ x, x = wc := ⟨wc, rfl⟩
    have zz3 := g3.size
    have lPv := World.block_lt_of_cell? _ _ cc0
    have M3 := (((((((M2.below g3).fact OT.loc ov).cons cc4 cf4).cons cc3 cf3).cons cc2 cf2).cons cc1 cf1).cons cc0 cf0)
    clear g3 M2 ov cc0 cc1 cc2 cc3 cc4 cf0 cf1 cf2 cf3 cf4 lt0 lt1 lt2 lt3 sr0 sr2 q0 q1 q2 q3
    have q0 := M3.cell 6 rfl
    have q1 := M3.cell 7 rfl
    have q2 := M3.cell 8 rfl
    go_wp2_with fail
    refine (toTables_O a0 l0 c0 z0 ta0 tl0 tc0 t0 da0 dl0 dc0 d0 _ (by omega) (hs0.below M3.bel (Nat.le_refl _))).mono ?_
    rintro e w4 ⟨b_x0, bt_x0, bd_x0, rfl, ox0, g4⟩
    have zz4 := g4.size
    try simp only [World.size_alloc] at ox0 zz4
    have M4 := ((M3.below g4).fact OT.loc ox0).alloc3 (.slice (some ⟨b_x0, 0, none⟩) l0 l0) (.slice (some ⟨bt_x0, 0, none⟩) tl0 tl0) (.slice (some ⟨bd_x0, 0, none⟩) dl0 dl0) 36
    clear g4 M3 ox0 q0 q1 q2
    have q0 := M4.cell 8 rfl
    go_wp2_with fail
    refine (toLabel_O a2 l2 c2 z2 _ (by omega) (hs2.below M4.bel (Nat.le_refl _))).mono ?_
    rintro e w5 ⟨b_x2, rfl, ox2, g5⟩
    have zz5 := g5.size
    try simp only [World.size_alloc] at ox2 zz5
    have M5 := ((M4.below g5).fact OS.loc ox2).alloc1 (.slice (some ⟨b_x2, 0, none⟩) l2 l2) 41
    clear g5 M4 ox2 q0
    have q0 := M5.cell 1 rfl
    have q1 := M5.cell 2 rfl
    have q2 := M5.cell 3 rfl
    have q3 := M5.cell 0 rfl
    go_wp2_with fail
    refine (implTaintDomain_calls _ _ _ z0 _ _ _ t0 _ _ _ d0 x1 _ _ _ z2 _ (M5.get 1 rfl).rt hm2 (M5.get 0 rfl).sl).mono ?_
    rintro e w6 ⟨ra, rn, rc, rta, rtn, rtc, rda, rdn, rdc, rfl, or, g6⟩
    have zz6 := g6.size
    try simp only [World.size_alloc] at or zz6
    have M6 := ((M5.below g6).fact OT.loc or).alloc5 (.int .i64 (txC z0 t0 d0 x1 z2)) (.int .i64 (txV z0 t0 d0 x1 z2)) (.slice ra rn rc) (.slice rta rtn rtc) (.slice rda rdn rdc) 38
    clear g6 M5 or q0 q1 q2 q3
    have q0 := M6.cell 0 rfl
    have q1 := M6.cell 1 rfl
    have q2 := M6.cell 2 rfl
    have q3 := M6.cell 3 rfl
    have q4 := M6.cell 4 rfl
    have q5 := M6.cell 9 rfl
    have q6 := M6.cell 10 rfl
    have q7 := M6.cell 11 rfl
    have q8 := M6.cell 12 rfl
    have q9 := M6.cell 13 rfl
    go_wp2_with fail
    refine (eqTR_O (txC z0 t0 d0 x1 z2) (txV z0 t0 d0 x1 z2) (txS z0 t0 d0 x1 z2) (txT z0 t0 d0 x1 z2) (txD z0 t0 d0 x1 z2) (M6.get 0 rfl) (M6.get 3 rfl)).mono ?_
    rintro e w7 ⟨rfl, g7⟩
    have zz7 := g7.size
    try simp only [World.size_alloc] at zz7
    have M7 := M6.below g7
    clear g7 M6 q0 q1 q2 q3 q4 q5 q6 q7 q8 q9
    have q0 := M7.cell 6 rfl
    have q1 := M7.cell 7 rfl
    have q2 := M7.cell 8 rfl
    have q3 := M7.cell 15 rfl
    have q4 := M7.cell 16 rfl
    have q5 := M7.cell 17 rfl
    go_upto_region 14 with fail
    go_cut [48] (fun v wd => v = .bool false ∧ Below w7.heap.size w7 wd)
    case first =>
      go_region_with (first
        | (go_at_call 8; refine (toTables_O a0 l0 c0 z0 ta0 tl0 tc0 t0 da0 dl0 dc0 d0 _ (by omega) ?_).mono ?_; exact hs0.below M7.drew.bel (Nat.le_refl _); rintro e wa ⟨b_y, bt_y, bd_y, rfl, oy, ga⟩; have ha : Below w7.heap.size w7 wa := ((Below.refl w7.heap.size w7).drew).trans ga; have Ma := M7.below ha; have y0 := Ma.cell 6 rfl; have y1 := Ma.cell 7 rfl; have y2 := Ma.cell 8 rfl; clear ga)
        | (go_at_call 12; refine (eqTables_O _ _ _ _ _ _ _ z0 _ _ _ _ _ t0 _ _ _ _ _ d0 _ (Ma.get 2 rfl) oy).mono ?_; rintro e wb ⟨rfl, gb⟩; have hb : Below w7.heap.size w7 wb := ha.trans (gb.mono ha.size); clear gb))
      all_goals go_wp2_with fail
      all_goals go_meet
      all_goals exact ⟨rfl, hb⟩
    case rest =>
      obtain ⟨rfl, g8⟩ := hcut
      obtain ⟨w8, rfl⟩ : ∃ x, x = wc := ⟨wc, rfl⟩
      have zz8 := g8.size
      have M8 := M7.below g8
      clear g8 M7 q0 q1 q2 q3 q4 q5
      have q0 := M8.cell 5 rfl
      have q1 := M8.cell 14 rfl
      go_upto_region 16 with fail
      go_cut [53] (fun v wd => v = .bool false ∧ Below w8.heap.size w8 wd)
      case first =>
        go_region_with (first
          | (go_at_call 9; refine (toLabel_O a2 l2 c2 z2 _ (by omega) ?_).mono ?_; exact hs2.below M8.drew.bel (Nat.le_refl _); rintro e wa ⟨b_y, rfl, oy, ga⟩; have ha : Below w8.heap.size w8 wa := ((Below.refl w8.heap.size w8).drew).trans ga; have Ma := M8.below ha; have y0 := Ma.cell 5 rfl; clear ga)
          | (go_at_call 13; refine (eqLabel_O _ _ _ _ _ _ _ z2 _ (Ma.get 1 rfl) oy).mono ?_; rintro e wb ⟨rfl, gb⟩; have hb : Below w8.heap.size w8 wb := ha.trans (gb.mono ha.size); clear gb))
        all_goals go_wp2_with fail
        all_goals go_meet
        all_goals exact ⟨rfl, hb⟩
      case rest =>
        obtain ⟨rfl, g9⟩ := hcut
        obtain ⟨w9, rfl⟩ : ∃ x, x = wc := ⟨wc, rfl⟩
        have zz9 := g9.size
        have M9 := M8.below g9
        clear g9 M8 q0 q1
        have q0 := M9.cell 6 rfl
        have q1 := M9.cell 7 rfl
        have q2 := M9.cell 8 rfl
        go_wp2_with fail
        refine (markTables_O _ _ l0 _ z0 _ tl0 _ t0 _ dl0 _ d0 1 _ (by omega) (by omega) (M9.get 2 rfl) (fun k hk => by have := hk.2; omega)).mono ?_
        rintro e w10 ⟨rfl, _, ho⟩
        have zz10 := ho.size
        have M10 : Mm w w10 [(w6.heap.size, 0, .int .i64 (txC z0 t0 d0 x1 z2)), (w6.heap.size, 1, .int .i64 (txV z0 t0 d0 x1 z2)), (w6.heap.size, 2, .slice ra rn rc), (w6.heap.size, 3, .slice rta rtn rtc), (w6.heap.size, 4, .slice rda rdn rdc), (w5.heap.size, 0, .slice (some ⟨b_x2, 0, none⟩) l2 l2), (Pv, 0, .int .i64 (txC z0 t0 d0 x1 z2)), (Pv, 1, .int .i64 (txV z0 t0 d0 x1 z2)), (Pv, 2, .slice va vn vc), (Pv, 3, .slice vta vtn vtc), (Pv, 4, .slice vda vdn vdc), (w.heap.size + 1, 0, .slice a2 l2 c2), (w.heap.size, 0, .slice a0 l0 c0), (w.heap.size, 1, .slice ta0 tl0 tc0), (w.heap.size, 2, .slice da0 dl0 dc0)] [(w5.heap.size + 1, w6.heap.size, OT (InR (w5.heap.size + 1) (w6.heap.size)) ra rn (txS z0 t0 d0 x1 z2) rta rtn (txT z0 t0 d0 x1 z2) rda rdn (txD z0 t0 d0 x1 z2)), (w4.heap.size + 1, w5.heap.size, OS (InR (w4.heap.size + 1) (w5.heap.size)) (some ⟨b_x2, 0, none⟩) l2 z2), (w2.heap.size, w3.heap.size, OT (InR (w2.heap.size) (w3.heap.size)) va vn (txS z0 t0 d0 x1 z2) vta vtn (txT z0 t0 d0 x1 z2) vda vdn (txD z0 t0 d0 x1 z2))] := (M9.sub (by simp) (by simp)).out ho (by omega) (by simp <;> omega) (by simp <;> omega)
        clear ho M9 q0 q1 q2
        have q0 := M10.cell 5 rfl
        go_wp2_with fail
        refine (markLabel_O _ _ l2 _ z2 _ _ (by omega) (by omega) (M10.get 1 rfl)).mono ?_
        rintro e w11 ⟨rfl, _, ho⟩
        have zz11 := ho.size
        have M11 : Mm w w11 [(w6.heap.size, 0, .int .i64 (txC z0 t0 d0 x1 z2)), (w6.heap.size, 1, .int .i64 (txV z0 t0 d0 x1 z2)), (w6.heap.size, 2, .slice ra rn rc), (w6.heap.size, 3, .slice rta rtn rtc), (w6.heap.size, 4, .slice rda rdn rdc), (Pv, 0, .int .i64 (txC z0 t0 d0 x1 z2)), (Pv, 1, .int .i64 (txV z0 t0 d0 x1 z2)), (Pv, 2, .slice va vn vc), (Pv, 3, .slice vta vtn vtc), (Pv, 4, .slice vda vdn vdc), (w.heap.size + 1, 0, .slice a2 l2 c2), (w.heap.size, 0, .slice a0 l0 c0), (w.heap.size, 1, .slice ta0 tl0 tc0), (w.heap.size, 2, .slice da0 dl0 dc0)] [(w5.heap.size + 1, w6.heap.size, OT (InR (w5.heap.size + 1) (w6.heap.size)) ra rn (txS z0 t0 d0 x1 z2) rta rtn (txT z0 t0 d0 x1 z2) rda rdn (txD z0 t0 d0 x1 z2)), (w2.heap.size, w3.heap.size, OT (InR (w2.heap.size) (w3.heap.size)) va vn (txS z0 t0 d0 x1 z2) vta vtn (txT z0 t0 d0 x1 z2) vda vdn (txD z0 t0 d0 x1 z2))] := (M10.sub (by simp) (by simp)).out ho (by omega) (by simp <;> omega) (by simp <;> omega)
        clear ho M10 q0
        have hlt1 : decide ((1 : Int) + (l0 : Int) + (lenSum z0 : Int) + (tl0 : Int) + (dl0 : Int) + (l2 : Int) < 0) = false := by simp; omega
        have q0 := M11.cell 0 rfl
        have q1 := M11.cell 1 rfl
        have q2 := M11.cell 2 rfl
        have q3 := M11.cell 3 rfl
        have q4 := M11.cell 4 rfl
        have q5 := M11.cell 5 rfl
        have q6 := M11.cell 6 rfl
        have q7 := M11.cell 7 rfl
        have q8 := M11.cell 8 rfl
        have q9 := M11.cell 9 rfl
        go_wp2_with fail
        refine (eqTR_O (txC z0 t0 d0 x1 z2) (txV z0 t0 d0 x1 z2) (txS z0 t0 d0 x1 z2) (txT z0 t0 d0 x1 z2) (txD z0 t0 d0 x1 z2) (M11.get 0 rfl) (M11.get 1 rfl)).mono ?_
        rintro e w12 ⟨rfl, g12⟩
        have zz12 := g12.size
        have M12 := M11.below g12
        clear g12 M11 q0 q1 q2 q3 q4 q5 q6 q7 q8 q9
        have q0 := M12.cell 0 rfl
        have q1 := M12.cell 1 rfl
        have q2 := M12.cell 2 rfl
        have q3 := M12.cell 3 rfl
        have q4 := M12.cell 4 rfl
        go_wp2_with fail
        refine (markTR_O _ _ (M12.get 0 rfl) (fun k hk => by have := hk.2; omega)).mono ?_
        rintro e w13 ⟨rfl, om, ho⟩
        have zz13 := ho.size
        have M13a : Mm w w13 [(w6.heap.size, 0, .int .i64 (txC z0 t0 d0 x1 z2)), (w6.heap.size, 1, .int .i64 (txV z0 t0 d0 x1 z2)), (w6.heap.size, 2, .slice ra rn rc), (w6.heap.size, 3, .slice rta rtn rtc), (w6.heap.size, 4, .slice rda rdn rdc), (Pv, 0, .int .i64 (txC z0 t0 d0 x1 z2)), (Pv, 1, .int .i64 (txV z0 t0 d0 x1 z2)), (Pv, 2, .slice va vn vc), (Pv, 3, .slice vta vtn vtc), (Pv, 4, .slice vda vdn vdc), (w.heap.size + 1, 0, .slice a2 l2 c2), (w.heap.size, 0, .slice a0 l0 c0), (w.heap.size, 1, .slice ta0 tl0 tc0), (w.heap.size, 2, .slice da0 dl0 dc0)] [(w2.heap.size, w3.heap.size, OT (InR (w2.heap.size) (w3.heap.size)) va vn (txS z0 t0 d0 x1 z2) vta vtn (txT z0 t0 d0 x1 z2) vda vdn (txD z0 t0 d0 x1 z2))] := (M12.sub (by simp) (by simp)).out ho (by omega) (by simp <;> omega) (by simp <;> omega)
        have M13 := M13a.fact OT.loc om
        clear ho om M12 M13a q0 q1 q2 q3 q4
        have q0 := M13.cell 0 rfl
        have q1 := M13.cell 1 rfl
        have q2 := M13.cell 2 rfl
        have q3 := M13.cell 3 rfl
        have q4 := M13.cell 4 rfl
        go_wp2_with fail
        refine (heldTR_O _ _ (txS z0 t0 d0 x1 z2) (M13.get 0 rfl)).mono ?_
        rintro e w14 ⟨rfl, g14⟩
        have zz14 := g14.size
        have M14 := M13.below g14
        clear g14 M13 q0 q1 q2 q3 q4
        have hlt2 : decide ((1 : Int) + (rn : Int) + (lenSum (txS z0 t0 d0 x1 z2) : Int) + (rtn : Int) + (rdn : Int) < 0) = false := by simp; omega
        have q0 := M14.cell 11 rfl
        have q1 := M14.cell 12 rfl
        have q2 := M14.cell 13 rfl
        have q3 := M14.cell 10 rfl
        have lt0 := M14.lt 11 rfl
        have lt1 := M14.lt 12 rfl
        have lt2 := M14.lt 13 rfl
        have lt3 := M14.lt 10 rfl
        have sr0 := hs0.below M14.bel (Nat.le_refl _)
        have sr2 := hs2.below M14.bel (Nat.le_refl _)
        go_upto_region 31 with fail
        go_cut [15] (fun v wd => ∃ P ka kn kc kta ktn ktc kda kdn kdc , v = .pointer (some ⟨P, 0, none⟩) ∧ wd.cell? ⟨P, 0, none⟩ = some (.int .i64 (txC z0 t0 d0 x1 z2)) ∧ wd.frozen? ⟨P, 0, none⟩ = false ∧ wd.cell? ⟨P, 1, none⟩ = some (.int .i64 (txV z0 t0 d0 x1 z2)) ∧ wd.frozen? ⟨P, 1, none⟩ = false ∧ wd.cell? ⟨P, 2, none⟩ = some (.slice ka kn kc) ∧ wd.frozen? ⟨P, 2, none⟩ = false ∧ wd.cell? ⟨P, 3, none⟩ = some (.slice kta ktn ktc) ∧ wd.frozen? ⟨P, 3, none⟩ = false ∧ wd.cell? ⟨P, 4, none⟩ = some (.slice kda kdn kdc) ∧ wd.frozen? ⟨P, 4, none⟩ = false ∧ OT (InR w14.heap.size wd.heap.size) ka kn (txS z0 t0 d0 x1 z2) kta ktn (txT z0 t0 d0 x1 z2) kda kdn (txD z0 t0 d0 x1 z2) wd ∧ Below w14.heap.size w14 wd)
        case first =>
          have HS0 : Hid (w14.drew.cell? ⟨w.heap.size, 0, none⟩ = some (.slice a0 l0 c0) ∧ w14.drew.cell? ⟨w.heap.size, 1, none⟩ = some (.slice ta0 tl0 tc0) ∧ w14.drew.cell? ⟨w.heap.size, 2, none⟩ = some (.slice da0 dl0 dc0) ∧ w14.drew.cell? ⟨w.heap.size + 1, 0, none⟩ = some (.slice a2 l2 c2) ∧ Below w14.heap.size w14 w14.drew) := ⟨q0, q1, q2, q3, (Below.refl _ _).drew⟩
          go_region_held2 (fun w' => w'.cell? ⟨w.heap.size, 0, none⟩ = some (.slice a0 l0 c0) ∧ w'.cell? ⟨w.heap.size, 1, none⟩ = some (.slice ta0 tl0 tc0) ∧ w'.cell? ⟨w.heap.size, 2, none⟩ = some (.slice da0 dl0 dc0) ∧ w'.cell? ⟨w.heap.size + 1, 0, none⟩ = some (.slice a2 l2 c2) ∧ Below w14.heap.size w14 w')
            (first | with_reducible exact HS0.out | (repeat (first | with_reducible assumption | with_reducible refine q4_allocd lt0 lt1 lt2 lt3 ?_ _ | with_reducible refine q4_alloc lt0 lt1 lt2 lt3 ?_ _ | with_reducible refine q4_set lt0 lt1 lt2 lt3 ?_ ?_ _ | (show (_ : Nat) ≤ _; exact Nat.le_refl _) | (show (_ : Nat) ≤ _; dsimp only; omega))))
            (first
              | (go_at_call_of 8 (Value.slice a0 l0 c0); refine (toTables_O a0 l0 c0 z0 ta0 tl0 tc0 t0 da0 dl0 dc0 d0 _ (by omega) ?_).mono ?_; exact sr0.below (q4_bel (by with_reducible assumption)) (Nat.le_refl _); rintro e wa ⟨b_k0, bt_k0, bd_k0, rfl, o0, ga⟩; have hswa := q4_below lt0 lt1 lt2 lt3 (by with_reducible assumption) ga; have hzwa := ga.size; have hwwa := (q4_bel hswa).size; (try simp only [World.size_alloc, World.size_drew] at hzwa); (try have hqwa := Nat.lt_of_succ_le hzwa); obtain ⟨bc0, bf0⟩ := bcellQ ga; (try simp only [World.size_alloc, World.size_drew] at bc0 bf0); clear ga)
              | (go_at_call_of 9 (Value.slice a2 l2 c2); refine (toLabel_O a2 l2 c2 z2 _ (by omega) ?_).mono ?_; exact sr2.below (q4_bel (by with_reducible assumption)) (Nat.le_refl _); rintro e wb ⟨b_k2, rfl, o2, ga⟩; have hswb := q4_below lt0 lt1 lt2 lt3 (by with_reducible assumption) ga; have hzwb := ga.size; have hwwb := (q4_bel hswb).size; have o0 := Loc.belowA OT.loc o0 ga (by first | exact Below.refl _ _ | exact (Below.refl _ _).alloc (Nat.le_refl _) _); (try simp only [World.size_alloc] at hzwb); (try have hqwb := Nat.lt_of_succ_le hzwb); (try have hrwb := Nat.lt_of_lt_of_le hqwa hzwb); obtain ⟨bc1, bf1⟩ := bcellQ ga; (try simp only [World.size_alloc] at bc1 bf1); clear ga)
              | (go_at_call 10; refine (implTaintDomain_calls _ _ _ z0 _ _ _ t0 _ _ _ d0 x1 _ _ _ z2 _ (Loc.belowB OT.loc o0 (by first | exact Below.refl _ _ | exact (Below.refl _ _).alloc (Nat.le_refl _) _)).rt hm2 (Loc.belowB OS.loc o2 (by first | exact Below.refl _ _ | exact (Below.refl _ _).alloc (Nat.le_refl _) _)).sl).mono ?_; rintro e ws ⟨ka, kn, kc, kta, ktn, ktc, kda, kdn, kdc, rfl, os, gs⟩; have hss := q4_below lt0 lt1 lt2 lt3 (by with_reducible assumption) gs; have hzs := gs.size; have hws := (q4_bel hss).size; obtain ⟨bcs, bfs⟩ := bcellQ gs; (try simp only [World.size_alloc] at hzs bcs bfs); (try have hts := Nat.lt_of_succ_le hzs); (try have hus := Nat.lt_of_lt_of_le hqwb hzs); (try have hvs := Nat.lt_of_lt_of_le hrwb hzs); (try simp only [World.size_alloc] at os); clear gs))
          all_goals go_wp2_with fail
          all_goals go_meet
          all_goals (
            refine ⟨_, ka, kn, kc, kta, ktn, ktc, kda, kdn, kdc, rfl, ?c0, ?f0, ?c1, ?f1, ?c2, ?f2, ?c3, ?f3, ?c4, ?f4, ?o, ?b⟩
            case b => exact q4_bel (by with_reducible assumption)
            case o => first | (with_reducible exact OT.allocR os (by omega)) | (with_reducible exact OT.set5R os (by omega) (by omega) _ _ _ _ _ )
            case c0 => first | (go_simp; done) | (with_reducible refine set5_at0 _ _ _ _ _ _ _ ?_; go_simp; done)
            case f0 => (go_simp; done)
            case c1 => first | (go_simp; done) | (with_reducible refine set5_at1 _ _ _ _ _ _ _ ?_; go_simp; done)
            case f1 => (go_simp; done)
            case c2 => first | (go_simp; done) | (with_reducible refine set5_at2 _ _ _ _ _ _ _ ?_; go_simp; done)
            case f2 => (go_simp; done)
            case c3 => first | (go_simp; done) | (with_reducible refine set5_at3 _ _ _ _ _ _ _ ?_; go_simp; done)
            case f3 => (go_simp; done)
            case c4 => first | (go_simp; done) | (with_reducible refine set5_at4 _ _ _ _ _ _ _ ?_; go_simp; done)
            case f4 => (go_simp; done))
        case rest =>
          obtain ⟨Pk, ka, kn, kc, kta, ktn, ktc, kda, kdn, kdc, rfl, cc0, cf0, cc1, cf1, cc2, cf2, cc3, cf3, cc4, cf4, ok, g15⟩ := hcut
          obtain ⟨w15, rfl⟩ : ∃ x, x = wc := ⟨wc, rfl⟩
          have zz15 := g15.size
          have lPk := World.block_lt_of_cell? _ _ cc0
          have M15 := (((((((M14.below g15).fact OT.loc ok).cons cc4 cf4).cons cc3 cf3).cons cc2 cf2).cons cc1 cf1).cons cc0 cf0)
          clear g15 M14 ok cc0 cc1 cc2 cc3 cc4 cf0 cf1 cf2 cf3 cf4 lt0 lt1 lt2 lt3 sr0 sr2 q0 q1 q2 q3
          have q0 := M15.cell 0 rfl
          have q1 := M15.cell 1 rfl
          have q2 := M15.cell 2 rfl
          have q3 := M15.cell 3 rfl
          have q4 := M15.cell 4 rfl
          have q5 := M15.cell 10 rfl
          have q6 := M15.cell 11 rfl
          have q7 := M15.cell 12 rfl
          have q8 := M15.cell 13 rfl
          have q9 := M15.cell 14 rfl
          go_wp2_with fail
          refine (eqTR_O (txC z0 t0 d0 x1 z2) (txV z0 t0 d0 x1 z2) (txS z0 t0 d0 x1 z2) (txT z0 t0 d0 x1 z2) (txD z0 t0 d0 x1 z2) (M15.get 0 rfl) (M15.get 2 rfl)).mono ?_
          rintro e w16 ⟨rfl, g16⟩
          have M16 := M15.below g16
          clear g16 M15 q0 q1 q2 q3 q4 q5 q6 q7 q8 q9
          have q0 := M16.cell 5 rfl
          have q1 := M16.cell 6 rfl
          have q2 := M16.cell 7 rfl
          have q3 := M16.cell 8 rfl
          have q4 := M16.cell 9 rfl
          go_wp2_with fail
          refine (heldTR_O _ _ (txS z0 t0 d0 x1 z2) (M16.get 1 rfl)).mono ?_
          rintro e w17 ⟨rfl, g17⟩
          have zz17 := g17.size
          have M17 := M16.below g17
          clear g17 M16 q0 q1 q2 q3 q4
          have HB := hide M17.bel
          clear M17
          go_wp2
          go_ret
          exact ⟨rfl, HB.out⟩

theorem walk_TaintDomain (a0 : Option Addr) (l0 c0 : Nat) (z0 : List (Int × List Int)) (ta0 : Option Addr) (tl0 tc0 : Nat) (t0 : List Int) (da0 : Option Addr) (dl0 dc0 : Nat) (d0 : List Int) (x1 : Int) (a2 : Option Addr) (l2 c2 : Nat) (z2 : List Int) (w : World) (hs0 : RT w a0 l0 z0 ta0 tl0 t0 da0 dl0 d0) (hm2 : l2 ≤ maxLen) (hs2 : Sl w a2 l2 z2) :
    Calls Try.prog 3 #[.agg #[.slice a0 l0 c0, .slice ta0 tl0 tc0, .slice da0 dl0 dc0], .int .i64 x1, .agg #[.slice a2 l2 c2]] w fun e w' => e = .returned (.bool true) ∧ Below w.heap.size w w' := by
  by_cases hz0 : (l0 + lenSum z0 + tl0 + dl0) ≤ 1048576
  rotate_left
  · exact law_big0_TaintDomain a0 l0 c0 z0 ta0 tl0 tc0 t0 da0 dl0 dc0 d0 x1 a2 l2 c2 w hs0 (by omega)
  by_cases hz1 : (l0 + lenSum z0 + tl0 + dl0) + l2 ≤ 1048576
  rotate_left
  · exact law_big2_TaintDomain a0 l0 c0 z0 ta0 tl0 tc0 t0 da0 dl0 dc0 d0 x1 a2 l2 c2 z2 w hs0 hm2 hs2 hz0 (by omega)
  exact law_small_TaintDomain a0 l0 c0 z0 ta0 tl0 tc0 t0 da0 dl0 dc0 d0 x1 a2 l2 c2 z2 w hs0 hm2 hs2 hz1

end Go.Proofs.Ytgkjmeogdomgmaa
