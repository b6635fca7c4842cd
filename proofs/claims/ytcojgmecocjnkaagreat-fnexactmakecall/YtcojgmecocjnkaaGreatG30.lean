import Derived.Test.YtcojgmecocjnkaaGreatG28
import Derived.Test.YtcojgmecocjnkaaGreatG29
import Derived.Test.YtcojgmecocjnkaaGreatG16
import Derived.Test.YtcojgmecocjnkaaGreatG11
import Derived.Test.YtcojgmecocjnkaaGreatG10
import Derived.Test.YtcojgmecocjnkaaGreatG27
import Derived.WalkLawsBesides
import Derived.Recover
import Derived.WalkKit
import Derived.ProofKit
import Derived.OpenShut
import Derived.ShutString
import Derived.ChangeOld
import Derived.Below
import Derived.WalkSpells
import Derived.Deep.QuietTactic
import Derived.BigQuiet
import Derived.Deep.RegionWith
import Derived.Deep.WholeRow
import Derived.Deep.DeepCutAuto
import Derived.Deep.RegionHeld2
import Derived.Deep.AppendLies
import Derived.Deep.RegionLaw
namespace Go.Proofs.YtcojgmecocjnkaaGreat
open Go.ChangeShapes Go.WideShapes Go.ChangeAt Go.RowKit

theorem q5_bel {W X : World} {A0 A1 A2 A3 A4 : Addr} {v0 v1 v2 v3 v4 : Value} (h : X.cell? A0 = some v0 ∧ X.cell? A1 = some v1 ∧ X.cell? A2 = some v2 ∧ X.cell? A3 = some v3 ∧ X.cell? A4 = some v4 ∧ Below W.heap.size W X) : Below W.heap.size W X := h.2.2.2.2.2

theorem q5_below {W X Y : World} {A0 A1 A2 A3 A4 : Addr} {v0 v1 v2 v3 v4 : Value} (h0 : A0.block < W.heap.size) (h1 : A1.block < W.heap.size) (h2 : A2.block < W.heap.size) (h3 : A3.block < W.heap.size) (h4 : A4.block < W.heap.size) (h : X.cell? A0 = some v0 ∧ X.cell? A1 = some v1 ∧ X.cell? A2 = some v2 ∧ X.cell? A3 = some v3 ∧ X.cell? A4 = some v4 ∧ Below W.heap.size W X) (g : Below X.heap.size X Y) : Y.cell? A0 = some v0 ∧ Y.cell? A1 = some v1 ∧ Y.cell? A2 = some v2 ∧ Y.cell? A3 = some v3 ∧ Y.cell? A4 = some v4 ∧ Below W.heap.size W Y := by
  have hz := (h.2.2.2.2.2).size
  exact ⟨(g.cell (by omega)).trans h.1, (g.cell (by omega)).trans h.2.1, (g.cell (by omega)).trans h.2.2.1, (g.cell (by omega)).trans h.2.2.2.1, (g.cell (by omega)).trans h.2.2.2.2.1, (h.2.2.2.2.2).trans (g.mono hz)⟩

theorem q5_alloc {W X : World} {A0 A1 A2 A3 A4 : Addr} {v0 v1 v2 v3 v4 : Value} (h0 : A0.block < W.heap.size) (h1 : A1.block < W.heap.size) (h2 : A2.block < W.heap.size) (h3 : A3.block < W.heap.size) (h4 : A4.block < W.heap.size) (h : X.cell? A0 = some v0 ∧ X.cell? A1 = some v1 ∧ X.cell? A2 = some v2 ∧ X.cell? A3 = some v3 ∧ X.cell? A4 = some v4 ∧ Below W.heap.size W X) (o : Obj) : (X.alloc o).cell? A0 = some v0 ∧ (X.alloc o).cell? A1 = some v1 ∧ (X.alloc o).cell? A2 = some v2 ∧ (X.alloc o).cell? A3 = some v3 ∧ (X.alloc o).cell? A4 = some v4 ∧ Below W.heap.size W (X.alloc o) := q5_below h0 h1 h2 h3 h4 h ((Below.refl _ _).alloc (Nat.le_refl _) o)

theorem q5_allocd {W X : World} {A0 A1 A2 A3 A4 : Addr} {v0 v1 v2 v3 v4 : Value} (h0 : A0.block < W.heap.size) (h1 : A1.block < W.heap.size) (h2 : A2.block < W.heap.size) (h3 : A3.block < W.heap.size) (h4 : A4.block < W.heap.size) (h : X.drew.cell? A0 = some v0 ∧ X.drew.cell? A1 = some v1 ∧ X.drew.cell? A2 = some v2 ∧ X.drew.cell? A3 = some v3 ∧ X.drew.cell? A4 = some v4 ∧ Below W.heap.size W X.drew) (o : Obj) : (X.alloc o).drew.cell? A0 = some v0 ∧ (X.alloc o).drew.cell? A1 = some v1 ∧ (X.alloc o).drew.cell? A2 = some v2 ∧ (X.alloc o).drew.cell? A3 = some v3 ∧ (X.alloc o).drew.cell? A4 = some v4 ∧ Below W.heap.size W (X.alloc o).drew := q5_alloc h0 h1 h2 h3 h4 h o

theorem q5_set {W X : World} {A0 A1 A2 A3 A4 : Addr} {v0 v1 v2 v3 v4 : Value} (h0 : A0.block < W.heap.size) (h1 : A1.block < W.heap.size) (h2 : A2.block < W.heap.size) (h3 : A3.block < W.heap.size) (h4 : A4.block < W.heap.size) (h : X.cell? A0 = some v0 ∧ X.cell? A1 = some v1 ∧ X.cell? A2 = some v2 ∧ X.cell? A3 = some v3 ∧ X.cell? A4 = some v4 ∧ Below W.heap.size W X) {p : Addr} (hp : W.heap.size ≤ p.block) (y : Value) : (X.setCell p y).cell? A0 = some v0 ∧ (X.setCell p y).cell? A1 = some v1 ∧ (X.setCell p y).cell? A2 = some v2 ∧ (X.setCell p y).cell? A3 = some v3 ∧ (X.setCell p y).cell? A4 = some v4 ∧ Below W.heap.size W (X.setCell p y) :=
  ⟨(World.cell?_setCell_other _ _ _ _ (fun e => by rw [e] at hp; omega)).trans h.1, (World.cell?_setCell_other _ _ _ _ (fun e => by rw [e] at hp; omega)).trans h.2.1, (World.cell?_setCell_other _ _ _ _ (fun e => by rw [e] at hp; omega)).trans h.2.2.1, (World.cell?_setCell_other _ _ _ _ (fun e => by rw [e] at hp; omega)).trans h.2.2.2.1, (World.cell?_setCell_other _ _ _ _ (fun e => by rw [e] at hp; omega)).trans h.2.2.2.2.1, (h.2.2.2.2.2).setCell hp y⟩

set_option maxRecDepth 100000 in
set_option maxHeartbeats 4000000 in
theorem passGate_yes (P : Nat) (S : Nat → Prop) (A : SA) (D : SD) (k : Nat) (g v : Int) (w : World) (hy : YM P 0 S A D w) (H : SysR A D k) (hS : ∀ q, S q → q < w.heap.size) (ho : gtO D g v = true) :
    Calls Tryz.prog 141 #[.pointer (some ⟨P, 0, none⟩), .int .i64 g, .int .i64 v] w fun e w' => e = .returned (.tuple #[]) ∧ YM P 0 S A (gtD D g v) w' ∧ OutS S w w' := by
  have hr := hy.y.oy.rs
  obtain ⟨k0, k1, k2, k3, k4, k5, k6, k7⟩ := hr.len
  have x10 := hy.cs.cell 10 rfl
  simp only [Nat.zero_add] at x10
  have hg3 : (A.gn : Int) ≤ 3 := by have := H.g3; omega
  have hPl := hy.lt
  obtain ⟨⟨hu, hv⟩, _⟩ : (up g ((A.gn : Int) - 1) = true ∧ up v 65535 = true) ∧ True := by
    have h := ho
    unfold gtO at h
    rw [k7, Bool.and_eq_true, Bool.and_eq_true] at h
    exact ⟨h.1, trivial⟩
  have hux := up_iff.1 hu
  obtain ⟨j, rfl⟩ : ∃ j : Nat, g = (j : Int) := ⟨g.toNat, by omega⟩
  have hj : j < A.gn := by omega
  obtain ⟨g1, g2, g3, g4⟩ := H.gg j hj
  obtain ⟨d, hd⟩ : ∃ d : Nat, (gw D.gs j).1 = (d : Int) := ⟨(gw D.gs j).1.toNat, by omega⟩
  have hdn : d < A.dn := by omega
  have hdx : d < A.xn := by have := H.xd; omega
  obtain ⟨bg, og, hga, hbg, hcg⟩ := hr.gs.2 (by omega)
  obtain ⟨f0, f1⟩ := gt_flw D.gs j
  have p0 := hcg (j * 2) (by omega)
  have p1 := hcg (j * 2 + 1) (by omega)
  rw [f0, hd] at p0
  rw [f1, ← Nat.add_assoc] at p1
  obtain ⟨en, hen⟩ : ∃ x, x = (gw D.gs j).2 := ⟨_, rfl⟩
  rw [← hen] at p1
  have x0 := hy.cs.cell 0 rfl
  have x1 := hy.cs.cell 1 rfl
  have x2 := hy.cs.cell 2 rfl
  have x4 := hy.cs.cell 4 rfl
  have x5 := hy.cs.cell 5 rfl
  simp only [Nat.zero_add] at x0 x1 x2 x4 x5
  rw [H.ac] at x5
  rw [hga] at x10
  have i0 : (0 : Int) ≤ (j : Int) := by omega
  have i1 : (j : Int) < (A.gn : Int) := by omega
  have HO : gtO D (j : Int) v = belowB (atL D.ss (gt D.ds k)) (atL D.ss (gt D.ds d)) := by
    unfold gtO dmL
    rw [k7, hu, hv, H.ac]
    simp only [Int.toNat_natCast, hd, Bool.and_self, Bool.true_and]
  have fx := atL_right H.good H.sd (j := k) (by have := H.hk; omega)
  have fy := atL_right H.good H.sd (j := d) (by omega)
  have hbb : isBelowB (atL D.ss (gt D.ds k)) (atL D.ss (gt D.ds d)) = true := by rw [isBelowB_of ⟨fx, fy⟩, ← HO, ho]
  have lx := fault_len fx
  have ly := fault_len fy
  have M0 := (Mm.start w).alloc2 (.int .i64 (d : Int)) (.int .i64 en) 138
  have h8 := (H.cx d hdn).1
  have L1 : tgL D.ss D.ts D.ds D.ds (k : Int) = atL D.ss (gt D.ds k) := by rw [tgL_ok H.tf, inL_yes (by have := H.hk; omega)]
  have L2 : tgL D.ss D.ts D.ds D.ds (d : Int) = atL D.ss (gt D.ds d) := by rw [tgL_ok H.tf, inL_yes (by omega)]
  have HD : Hid (true = true → gtD D (j : Int) v = { D with cs := D.cs.set d ((gx D.cs d).1.set 1 v, en, false) }) := fun hb => by
    unfold gtD
    rw [if_pos (ho.trans hb)]
    simp only [Int.toNat_natCast, hd, hen]
  have fd := field1
  have hrt := hr.rt
  have HY := hide hy
  obtain ⟨N, _, _, ea, _, _, _, _, _, _, _, _, _, _, _, _⟩ := hy.ctx3 hdx h8
  rw [ea] at x4
  clear hy H hcg hux g1 g2 g3 g4 hr hen f0 f1 HO
  go_enter Tryz.func141, Tryz.ntmps141
  go_upto_region 2 with (first | (go_at_call 92; with_reducible refine (isUpTo_is _ _ _ _ hu).mono ?_; rintro e w' ⟨rfl, hw'⟩; rw [hw']; clear hw' w') | (go_at_call 92; with_reducible refine (isUpTo_is _ _ _ _ hv).mono ?_; rintro e w' ⟨rfl, hw'⟩; rw [hw']; clear hw' w') | (go_at_call 191; refine (insist_yes _).mono ?_; rintro e w' ⟨rfl, hw'⟩; rw [hw']; clear hw' w'))
  obtain ⟨W, hW⟩ : ∃ x, x = w.alloc (.cells #[.int .i64 (d : Int), .int .i64 en] 138) := ⟨_, rfl⟩
  rw [← hW] at M0 ⊢
  have hWs : W.heap.size = w.heap.size + 1 := by rw [hW]; simp
  clear hW x10 p0 p1
  have BW := M0.bel
  have c0 := (BW.cell (p := ⟨P, 0, none⟩) hPl).trans x0
  have c1 := (BW.cell (p := ⟨P, 1, none⟩) hPl).trans x1
  have c2 := (BW.cell (p := ⟨P, 2, none⟩) hPl).trans x2
  have c5 := (BW.cell (p := ⟨P, 5, none⟩) hPl).trans x5
  have cg := M0.cell 0 rfl
  have cg1 := M0.cell 1 rfl
  have lt0 : P < W.heap.size := by omega
  have lt1 : w.heap.size < W.heap.size := by omega
  have rt := hrt.below BW (Nat.le_refl _)
  have HS0 : Hid (W.drew.cell? ⟨P, 0, none⟩ = some (.slice A.a A.n A.c) ∧ W.drew.cell? ⟨P, 1, none⟩ = some (.slice A.ta A.tn A.tc) ∧ W.drew.cell? ⟨P, 2, none⟩ = some (.slice A.da A.dn A.dc) ∧ W.drew.cell? ⟨P, 5, none⟩ = some (.int .i64 (k : Int)) ∧ W.drew.cell? ⟨w.heap.size, 0, none⟩ = some (.int .i64 (d : Int)) ∧ Below W.heap.size W W.drew) := ⟨c0, c1, c2, c5, cg, (Below.refl _ _).drew⟩
  clear x0 x1 x2 x5 c0 c1 c2 c5 cg hrt M0
  go_region_held2 (fun W' => W'.cell? ⟨P, 0, none⟩ = some (.slice A.a A.n A.c) ∧ W'.cell? ⟨P, 1, none⟩ = some (.slice A.ta A.tn A.tc) ∧ W'.cell? ⟨P, 2, none⟩ = some (.slice A.da A.dn A.dc) ∧ W'.cell? ⟨P, 5, none⟩ = some (.int .i64 (k : Int)) ∧ W'.cell? ⟨w.heap.size, 0, none⟩ = some (.int .i64 (d : Int)) ∧ Below W.heap.size W W')
   (first | with_reducible exact HS0.out | with_reducible assumption)
   (first
    | (go_at_call 197; (with_reducible refine (implDomainLabel_calls A.a A.n A.c D.ss A.ta A.tn A.tc D.ts A.da A.dn A.dc D.ds (k : Int) _ (rt.below (q5_bel (by with_reducible assumption)) (Nat.le_refl _))).mono ?_); rintro e wa ⟨ra, rn, rc, rfl, osr, ga⟩; rw [L1] at osr; have hswa := q5_below lt0 lt0 lt0 lt0 lt1 (by with_reducible assumption) ga; have slr := osr.sl; obtain rfl : rn = 4 := (by have := slr.1; omega); clear ga osr)
    | (go_at_call 197; (with_reducible refine (implDomainLabel_calls A.a A.n A.c D.ss A.ta A.tn A.tc D.ts A.da A.dn A.dc D.ds (d : Int) _ (rt.below (q5_bel (by with_reducible assumption)) (Nat.le_refl _))).mono ?_); rintro e wb ⟨sa, sn, sc, rfl, oss, ga⟩; rw [L2] at oss; have hswb := q5_below lt0 lt0 lt0 lt0 lt1 (by with_reducible assumption) ga; have sls := oss.sl; obtain rfl : sn = 4 := (by have := sls.1; omega); have slr := slr.below ga (Nat.le_refl _); clear ga oss)
    | (go_at_call 196; refine (implIsBelow_calls _ _ 4 rc 4 sc _ _ _ (by unfold maxLen; omega) (by unfold maxLen; omega) slr sls).mono ?_; rintro e wc ⟨rfl, ga⟩; rw [hbb]; have hsc := q5_below lt0 lt0 lt0 lt0 lt1 (by with_reducible assumption) ga; clear ga)
    | (go_at_call 191; refine (insist_yes _).mono ?_; rintro e w' ⟨rfl, hw'⟩; rw [hw']; clear hw' w'))
  all_goals (
    have B3 := BW.trans ((q5_bel hsc).mono (by omega))
    have z3 := B3.size
    have x4' := (B3.cell (p := ⟨P, 4, none⟩) hPl).trans x4
    have cg' := hsc.2.2.2.2.1
    have ch' := ((q5_bel hsc).cell (p := ⟨w.heap.size, 1, none⟩) lt1).trans cg1
    have d0 : (0 : Int) ≤ (d : Int) := by omega
    have d1 : (d : Int) < (A.xn : Int) := by omega
    clear hswa hswb hsc slr sls x4 cg1 rt
    go_wp2_with fail
    go_quiet (fail)
    obtain ⟨u, hu'⟩ : ∃ u, u = wc.drewN nq := ⟨_, rfl⟩
    have B4 : Below w.heap.size w u := by rw [hu']; exact bdrewN B3 nq
    have ch : u.cell? ⟨w.heap.size, 1, none⟩ = some (.int .i64 en) := by rw [hu']; simpa using ch'
    rw [← hu']
    clear hu' x4' cg' ch'
    obtain ⟨N', b, lc, ea', sN, sb, ne, nP, bP, e0, e1, e2, fN, fb, rg, f3⟩ := (HY.out.below B4).ctx3 hdx h8
    obtain rfl : N = N' := by have := ea.symm.trans ea'; simpa using this
    have lN := hS N sN
    have lb := hS b sb
    have nG1 : ¬ b = w.heap.size := by omega
    have nG2 : ¬ N = w.heap.size := by omega
    have r1 := rg 1 (by omega)
    have q1 := fb 1
    have q2 := fN (d * 3 + 1)
    have q3 := fN (d * 3 + 2)
    have HF := hide (f3 v en false)
    have HU := hide ((((OutS.of_below (S := S) B4).setCell (p := ⟨b, 1, none⟩) (by exact sb) (.int .i64 v)).setCell (p := ⟨N, d * 3 + 1, none⟩) (by exact sN) (.int .i64 en)).setCell (p := ⟨N, d * 3 + 2, none⟩) (by exact sN) (.bool false))
    clear f3 rg fb fN
    go_wp2
    refine bodyPost_end (v := .tuple #[]) (by simp [results, Tryz.results141, go_sem]) rfl ⟨rfl, ?_, HU.out⟩
    rw [HD.out (by first | rfl | trivial)]
    exact HF.out)

set_option maxRecDepth 100000 in
set_option maxHeartbeats 4000000 in
theorem passGate_no (P : Nat) (S : Nat → Prop) (A : SA) (D : SD) (k : Nat) (g v : Int) (w : World) (hy : YM P 0 S A D w) (H : SysR A D k) (ho : gtO D g v = false) :
    Calls Tryz.prog 141 #[.pointer (some ⟨P, 0, none⟩), .int .i64 g, .int .i64 v] w fun e w' => (∃ t pv, e = .panicked [{ v := .iface t pv, recovered := false }]) ∧ Below w.heap.size w w' := by
  have hr := hy.y.oy.rs
  obtain ⟨k0, k1, k2, k3, k4, k5, k6, k7⟩ := hr.len
  have x10 := hy.cs.cell 10 rfl
  simp only [Nat.zero_add] at x10
  have hg3 : (A.gn : Int) ≤ 3 := by have := H.g3; omega
  have hPl := hy.lt
  cases hu : up g ((A.gn : Int) - 1) with
  | false =>
    clear hy hr H ho
    go_enter Tryz.func141, Tryz.ntmps141
    go_wp2_with (first | (go_at_call 92; with_reducible refine (isUpTo_is _ _ _ _ hu).mono ?_; rintro e w' ⟨rfl, hw'⟩; rw [hw']; clear hw' w') | (go_at_call 191; fail))
    refine (insist_no _).mono ?_
    rintro e w' ⟨⟨t, pv, rfl⟩, hw'⟩
    rw [hw']
    exact ⟨rfl, ⟨t, pv, rfl⟩, Below.refl _ _⟩
  | true =>
  cases hv : up v 65535 with
  | false =>
    clear hy hr H ho
    go_enter Tryz.func141, Tryz.ntmps141
    go_wp2_with (first | (go_at_call 92; with_reducible refine (isUpTo_is _ _ _ _ hu).mono ?_; rintro e w' ⟨rfl, hw'⟩; rw [hw']; clear hw' w') | (go_at_call 92; with_reducible refine (isUpTo_is _ _ _ _ hv).mono ?_; rintro e w' ⟨rfl, hw'⟩; rw [hw']; clear hw' w') | (go_at_call 191; fail))
    refine (insist_no _).mono ?_
    rintro e w' ⟨⟨t, pv, rfl⟩, hw'⟩
    rw [hw']
    exact ⟨rfl, ⟨t, pv, rfl⟩, Below.refl _ _⟩
  | true =>
  have hux := up_iff.1 hu
  obtain ⟨j, rfl⟩ : ∃ j : Nat, g = (j : Int) := ⟨g.toNat, by omega⟩
  have hj : j < A.gn := by omega
  obtain ⟨g1, g2, g3, g4⟩ := H.gg j hj
  obtain ⟨d, hd⟩ : ∃ d : Nat, (gw D.gs j).1 = (d : Int) := ⟨(gw D.gs j).1.toNat, by omega⟩
  have hdn : d < A.dn := by omega
  have hdx : d < A.xn := by have := H.xd; omega
  obtain ⟨bg, og, hga, hbg, hcg⟩ := hr.gs.2 (by omega)
  obtain ⟨f0, f1⟩ := gt_flw D.gs j
  have p0 := hcg (j * 2) (by omega)
  have p1 := hcg (j * 2 + 1) (by omega)
  rw [f0, hd] at p0
  rw [f1, ← Nat.add_assoc] at p1
  obtain ⟨en, hen⟩ : ∃ x, x = (gw D.gs j).2 := ⟨_, rfl⟩
  rw [← hen] at p1
  have x0 := hy.cs.cell 0 rfl
  have x1 := hy.cs.cell 1 rfl
  have x2 := hy.cs.cell 2 rfl
  have x4 := hy.cs.cell 4 rfl
  have x5 := hy.cs.cell 5 rfl
  simp only [Nat.zero_add] at x0 x1 x2 x4 x5
  rw [H.ac] at x5
  rw [hga] at x10
  have i0 : (0 : Int) ≤ (j : Int) := by omega
  have i1 : (j : Int) < (A.gn : Int) := by omega
  have HO : gtO D (j : Int) v = belowB (atL D.ss (gt D.ds k)) (atL D.ss (gt D.ds d)) := by
    unfold gtO dmL
    rw [k7, hu, hv, H.ac]
    simp only [Int.toNat_natCast, hd, Bool.and_self, Bool.true_and]
  have fx := atL_right H.good H.sd (j := k) (by have := H.hk; omega)
  have fy := atL_right H.good H.sd (j := d) (by omega)
  have hbb : isBelowB (atL D.ss (gt D.ds k)) (atL D.ss (gt D.ds d)) = false := by rw [isBelowB_of ⟨fx, fy⟩, ← HO, ho]
  have lx := fault_len fx
  have ly := fault_len fy
  have M0 := (Mm.start w).alloc2 (.int .i64 (d : Int)) (.int .i64 en) 138
  have h8 := (H.cx d hdn).1
  have L1 : tgL D.ss D.ts D.ds D.ds (k : Int) = atL D.ss (gt D.ds k) := by rw [tgL_ok H.tf, inL_yes (by have := H.hk; omega)]
  have L2 : tgL D.ss D.ts D.ds D.ds (d : Int) = atL D.ss (gt D.ds d) := by rw [tgL_ok H.tf, inL_yes (by omega)]
  have HD : Hid (false = true → gtD D (j : Int) v = { D with cs := D.cs.set d ((gx D.cs d).1.set 1 v, en, false) }) := fun hb => by
    unfold gtD
    rw [if_pos (ho.trans hb)]
    simp only [Int.toNat_natCast, hd, hen]
  have fd := field1
  have hrt := hr.rt
  have HY := hide hy
  obtain ⟨N, _, _, ea, _, _, _, _, _, _, _, _, _, _, _, _⟩ := hy.ctx3 hdx h8
  rw [ea] at x4
  clear hy H hcg hux g1 g2 g3 g4 hr hen f0 f1 HO
  go_enter Tryz.func141, Tryz.ntmps141
  go_upto_region 2 with (first | (go_at_call 92; with_reducible refine (isUpTo_is _ _ _ _ hu).mono ?_; rintro e w' ⟨rfl, hw'⟩; rw [hw']; clear hw' w') | (go_at_call 92; with_reducible refine (isUpTo_is _ _ _ _ hv).mono ?_; rintro e w' ⟨rfl, hw'⟩; rw [hw']; clear hw' w') | (go_at_call 191; refine (insist_yes _).mono ?_; rintro e w' ⟨rfl, hw'⟩; rw [hw']; clear hw' w'))
  obtain ⟨W, hW⟩ : ∃ x, x = w.alloc (.cells #[.int .i64 (d : Int), .int .i64 en] 138) := ⟨_, rfl⟩
  rw [← hW] at M0 ⊢
  have hWs : W.heap.size = w.heap.size + 1 := by rw [hW]; simp
  clear hW x10 p0 p1
  have BW := M0.bel
  have c0 := (BW.cell (p := ⟨P, 0, none⟩) hPl).trans x0
  have c1 := (BW.cell (p := ⟨P, 1, none⟩) hPl).trans x1
  have c2 := (BW.cell (p := ⟨P, 2, none⟩) hPl).trans x2
  have c5 := (BW.cell (p := ⟨P, 5, none⟩) hPl).trans x5
  have cg := M0.cell 0 rfl
  have cg1 := M0.cell 1 rfl
  have lt0 : P < W.heap.size := by omega
  have lt1 : w.heap.size < W.heap.size := by omega
  have rt := hrt.below BW (Nat.le_refl _)
  have HS0 : Hid (W.drew.cell? ⟨P, 0, none⟩ = some (.slice A.a A.n A.c) ∧ W.drew.cell? ⟨P, 1, none⟩ = some (.slice A.ta A.tn A.tc) ∧ W.drew.cell? ⟨P, 2, none⟩ = some (.slice A.da A.dn A.dc) ∧ W.drew.cell? ⟨P, 5, none⟩ = some (.int .i64 (k : Int)) ∧ W.drew.cell? ⟨w.heap.size, 0, none⟩ = some (.int .i64 (d : Int)) ∧ Below W.heap.size W W.drew) := ⟨c0, c1, c2, c5, cg, (Below.refl _ _).drew⟩
  clear x0 x1 x2 x5 c0 c1 c2 c5 cg hrt M0
  refine wp_region_held_drew (S := (fun W' => W'.cell? ⟨P, 0, none⟩ = some (.slice A.a A.n A.c) ∧ W'.cell? ⟨P, 1, none⟩ = some (.slice A.ta A.tn A.tc) ∧ W'.cell? ⟨P, 2, none⟩ = some (.slice A.da A.dn A.dc) ∧ W'.cell? ⟨P, 5, none⟩ = some (.int .i64 (k : Int)) ∧ W'.cell? ⟨w.heap.size, 0, none⟩ = some (.int .i64 (d : Int)) ∧ Below W.heap.size W W')) (by kernel_rfl) HS0.out (fun hHeld => ?_)
  refine wpAnyH_take (i := 0) (oi := { dst := some 28, op := Go.Op.move (Go.Operand.tmp 0), type := 80, pos := "l08_monitor.go:119", after := #[], guard := none }) (v := ?_) rfl (by kernel_rfl) (by kernel_rfl) (by kernel_rfl) (fun _ _ _ h => h) (Or.inl ⟨by rfl, ?_⟩) (by assumption) ?_
  rotate_left
  · (intro w hSw; (try dsimp only at hSw); go_simp; (try with_reducible rfl))
  (try simp only [Act.put, List.setIfInBounds_toArray, List.set_cons_zero, List.set_cons_succ])
  refine wpAnyH_take (i := 1) (oi := { dst := some 29, op := Go.Op.nilCheck (Go.Operand.tmp 28), type := 0, pos := "l08_monitor.go:119", after := #[{ on := 0, ground := Go.Ground.data }], guard := none }) (v := ?_) rfl (by kernel_rfl) (by kernel_rfl) (by kernel_rfl) (fun _ _ _ h => h) (Or.inl ⟨by rfl, ?_⟩) (by assumption) ?_
  rotate_left
  · (intro w hSw; (try dsimp only at hSw); go_simp; (try with_reducible rfl))
  (try simp only [Act.put, List.setIfInBounds_toArray, List.set_cons_zero, List.set_cons_succ])
  refine wpAnyH_take (i := 2) (oi := { dst := some 30, op := Go.Op.fieldAddr 53 (Go.Operand.tmp 29) 0, type := 0, pos := "l08_monitor.go:119", after := #[{ on := 1, ground := Go.Ground.data }], guard := none }) (v := ?_) rfl (by kernel_rfl) (by kernel_rfl) (by kernel_rfl) (fun _ _ _ h => h) (Or.inl ⟨by rfl, ?_⟩) (by assumption) ?_
  rotate_left
  · (intro w hSw; (try dsimp only at hSw); go_simp; (try with_reducible rfl))
  (try simp only [Act.put, List.setIfInBounds_toArray, List.set_cons_zero, List.set_cons_succ])
  refine wpAnyH_take (i := 3) (oi := { dst := some 31, op := Go.Op.load 43 (Go.Operand.tmp 30), type := 43, pos := "l08_monitor.go:119", after := #[{ on := 2, ground := Go.Ground.data }], guard := none }) (v := ?_) rfl (by kernel_rfl) (by kernel_rfl) (by kernel_rfl) (fun _ _ _ h => h) (Or.inl ⟨by rfl, ?_⟩) (by assumption) ?_
  rotate_left
  · (intro w hSw; (try dsimp only at hSw); go_simp; (try with_reducible rfl))
  (try simp only [Act.put, List.setIfInBounds_toArray, List.set_cons_zero, List.set_cons_succ])
  refine wpAnyH_take (i := 4) (oi := { dst := some 32, op := Go.Op.move (Go.Operand.tmp 0), type := 80, pos := "l08_monitor.go:119", after := #[], guard := none }) (v := ?_) rfl (by kernel_rfl) (by kernel_rfl) (by kernel_rfl) (fun _ _ _ h => h) (Or.inl ⟨by rfl, ?_⟩) (by assumption) ?_
  rotate_left
  · (intro w hSw; (try dsimp only at hSw); go_simp; (try with_reducible rfl))
  (try simp only [Act.put, List.setIfInBounds_toArray, List.set_cons_zero, List.set_cons_succ])
  refine wpAnyH_take (i := 5) (oi := { dst := some 33, op := Go.Op.nilCheck (Go.Operand.tmp 32), type := 0, pos := "l08_monitor.go:119", after := #[{ on := 4, ground := Go.Ground.data }], guard := none }) (v := ?_) rfl (by kernel_rfl) (by kernel_rfl) (by kernel_rfl) (fun _ _ _ h => h) (Or.inl ⟨by rfl, ?_⟩) (by assumption) ?_
  rotate_left
  · (intro w hSw; (try dsimp only at hSw); go_simp; (try with_reducible rfl))
  (try simp only [Act.put, List.setIfInBounds_toArray, List.set_cons_zero, List.set_cons_succ])
  refine wpAnyH_take (i := 6) (oi := { dst := some 34, op := Go.Op.fieldAddr 53 (Go.Operand.tmp 33) 3, type := 0, pos := "l08_monitor.go:119", after := #[{ on := 5, ground := Go.Ground.data }], guard := none }) (v := ?_) rfl (by kernel_rfl) (by kernel_rfl) (by kernel_rfl) (fun _ _ _ h => h) (Or.inl ⟨by rfl, ?_⟩) (by assumption) ?_
  rotate_left
  · (intro w hSw; (try dsimp only at hSw); go_simp; (try with_reducible rfl))
  (try simp only [Act.put, List.setIfInBounds_toArray, List.set_cons_zero, List.set_cons_succ])
  refine wpAnyH_take (i := 7) (oi := { dst := some 35, op := Go.Op.load 2 (Go.Operand.tmp 34), type := 2, pos := "l08_monitor.go:119", after := #[{ on := 6, ground := Go.Ground.data }], guard := none }) (v := ?_) rfl (by kernel_rfl) (by kernel_rfl) (by kernel_rfl) (fun _ _ _ h => h) (Or.inl ⟨by rfl, ?_⟩) (by assumption) ?_
  rotate_left
  · (intro w hSw; (try dsimp only at hSw); go_simp; (try with_reducible rfl))
  (try simp only [Act.put, List.setIfInBounds_toArray, List.set_cons_zero, List.set_cons_succ])
  refine wpAnyH_take (i := 10) (oi := { dst := some 38, op := Go.Op.move (Go.Operand.tmp 0), type := 80, pos := "l08_monitor.go:119", after := #[], guard := none }) (v := ?_) rfl (by kernel_rfl) (by kernel_rfl) (by kernel_rfl) (fun _ _ _ h => h) (Or.inl ⟨by rfl, ?_⟩) (by assumption) ?_
  rotate_left
  · (intro w hSw; (try dsimp only at hSw); go_simp; (try with_reducible rfl))
  (try simp only [Act.put, List.setIfInBounds_toArray, List.set_cons_zero, List.set_cons_succ])
  refine wpAnyH_take (i := 11) (oi := { dst := some 39, op := Go.Op.nilCheck (Go.Operand.tmp 38), type := 0, pos := "l08_monitor.go:119", after := #[{ on := 10, ground := Go.Ground.data }], guard := none }) (v := ?_) rfl (by kernel_rfl) (by kernel_rfl) (by kernel_rfl) (fun _ _ _ h => h) (Or.inl ⟨by rfl, ?_⟩) (by assumption) ?_
  rotate_left
  · (intro w hSw; (try dsimp only at hSw); go_simp; (try with_reducible rfl))
  (try simp only [Act.put, List.setIfInBounds_toArray, List.set_cons_zero, List.set_cons_succ])
  refine wpAnyH_take (i := 12) (oi := { dst := some 40, op := Go.Op.fieldAddr 53 (Go.Operand.tmp 39) 0, type := 0, pos := "l08_monitor.go:119", after := #[{ on := 11, ground := Go.Ground.data }], guard := none }) (v := ?_) rfl (by kernel_rfl) (by kernel_rfl) (by kernel_rfl) (fun _ _ _ h => h) (Or.inl ⟨by rfl, ?_⟩) (by assumption) ?_
  rotate_left
  · (intro w hSw; (try dsimp only at hSw); go_simp; (try with_reducible rfl))
  (try simp only [Act.put, List.setIfInBounds_toArray, List.set_cons_zero, List.set_cons_succ])
  refine wpAnyH_take (i := 13) (oi := { dst := some 41, op := Go.Op.load 43 (Go.Operand.tmp 40), type := 43, pos := "l08_monitor.go:119", after := #[{ on := 12, ground := Go.Ground.data }], guard := none }) (v := ?_) rfl (by kernel_rfl) (by kernel_rfl) (by kernel_rfl) (fun _ _ _ h => h) (Or.inl ⟨by rfl, ?_⟩) (by assumption) ?_
  rotate_left
  · (intro w hSw; (try dsimp only at hSw); go_simp; (try with_reducible rfl))
  (try simp only [Act.put, List.setIfInBounds_toArray, List.set_cons_zero, List.set_cons_succ])
  refine wpAnyH_take (i := 14) (oi := { dst := some 42, op := Go.Op.fieldAddr 138 (Go.Operand.tmp 6) 0, type := 0, pos := "l08_monitor.go:119", after := #[], guard := none }) (v := ?_) rfl (by kernel_rfl) (by kernel_rfl) (by kernel_rfl) (fun _ _ _ h => h) (Or.inl ⟨by rfl, ?_⟩) (by assumption) ?_
  rotate_left
  · (intro w hSw; (try dsimp only at hSw); go_simp; (try with_reducible rfl))
  (try simp only [Act.put, List.setIfInBounds_toArray, List.set_cons_zero, List.set_cons_succ])
  refine wpAnyH_take (i := 15) (oi := { dst := some 43, op := Go.Op.load 2 (Go.Operand.tmp 42), type := 2, pos := "l08_monitor.go:119", after := #[{ on := 14, ground := Go.Ground.data }], guard := none }) (v := ?_) rfl (by kernel_rfl) (by kernel_rfl) (by kernel_rfl) (fun _ _ _ h => h) (Or.inl ⟨by rfl, ?_⟩) (by assumption) ?_
  rotate_left
  · (intro w hSw; (try dsimp only at hSw); go_simp; (try with_reducible rfl))
  (try simp only [Act.put, List.setIfInBounds_toArray, List.set_cons_zero, List.set_cons_succ])
  refine wpAnyH_ready (rs := [8]) (by kernel_rfl) (by simp) ?_
  refine AllReadyH.cons (o := { dst := some 36, op := Go.Op.call { callee := Go.Callee.value (Go.Operand.func 197), args := #[Go.Operand.tmp 31, Go.Operand.tmp 35], argTypes := #[43, 2] }, type := 243, pos := "l08_monitor.go:119", after := #[{ on := 3, ground := Go.Ground.data }, { on := 7, ground := Go.Ground.data }], guard := none }) rfl (fun K hK => ?_) AllReadyH.nil
  go_simp
  (with_reducible refine (implDomainLabel_calls A.a A.n A.c D.ss A.ta A.tn A.tc D.ts A.da A.dn A.dc D.ds (k : Int) _ (rt.below (q5_bel hHeld) (Nat.le_refl _))).mono ?_)
  rintro e wa ⟨ra, rn, rc, rfl, osr, ga⟩
  rw [L1] at osr
  have hswa := q5_below lt0 lt0 lt0 lt0 lt1 hHeld ga
  have slr := osr.sl
  obtain rfl : rn = 4 := (by have := slr.1; omega)
  clear ga osr
  refine hK.out _ _ hswa (fun hHeld => ?_)
  clear hK K
  (try simp only [Act.put, List.setIfInBounds_toArray, List.set_cons_zero, List.set_cons_succ])
  refine wpAnyH_take (i := 9) (oi := { dst := some 37, op := Go.Op.field 243 (Go.Operand.tmp 36) 1, type := 174, pos := "l08_monitor.go:119", after := #[{ on := 8, ground := Go.Ground.data }], guard := none }) (v := ?_) rfl (by kernel_rfl) (by kernel_rfl) (by kernel_rfl) (fun _ _ _ h => h) (Or.inl ⟨by rfl, ?_⟩) (by assumption) ?_
  rotate_left
  · (intro w hSw; (try dsimp only at hSw); go_simp; (try with_reducible rfl))
  (try simp only [Act.put, List.setIfInBounds_toArray, List.set_cons_zero, List.set_cons_succ])
  refine wpAnyH_ready (rs := [16]) (by kernel_rfl) (by simp) ?_
  refine AllReadyH.cons (o := { dst := some 44, op := Go.Op.call { callee := Go.Callee.value (Go.Operand.func 197), args := #[Go.Operand.tmp 41, Go.Operand.tmp 43], argTypes := #[43, 2] }, type := 243, pos := "l08_monitor.go:119", after := #[{ on := 13, ground := Go.Ground.data }, { on := 15, ground := Go.Ground.data }, { on := 8, ground := Go.Ground.chain }], guard := none }) rfl (fun K hK => ?_) AllReadyH.nil
  go_simp
  (with_reducible refine (implDomainLabel_calls A.a A.n A.c D.ss A.ta A.tn A.tc D.ts A.da A.dn A.dc D.ds (d : Int) _ (rt.below (q5_bel hHeld) (Nat.le_refl _))).mono ?_)
  rintro e wb ⟨sa, sn, sc, rfl, oss, ga⟩
  rw [L2] at oss
  have hswb := q5_below lt0 lt0 lt0 lt0 lt1 hHeld ga
  have sls := oss.sl
  obtain rfl : sn = 4 := (by have := sls.1; omega)
  have slr := slr.below ga (Nat.le_refl _)
  clear ga oss
  refine hK.out _ _ hswb (fun hHeld => ?_)
  clear hK K
  (try simp only [Act.put, List.setIfInBounds_toArray, List.set_cons_zero, List.set_cons_succ])
  refine wpAnyH_take (i := 17) (oi := { dst := some 45, op := Go.Op.field 243 (Go.Operand.tmp 44) 1, type := 174, pos := "l08_monitor.go:119", after := #[{ on := 16, ground := Go.Ground.data }], guard := none }) (v := ?_) rfl (by kernel_rfl) (by kernel_rfl) (by kernel_rfl) (fun _ _ _ h => h) (Or.inl ⟨by rfl, ?_⟩) (by assumption) ?_
  rotate_left
  · (intro w hSw; (try dsimp only at hSw); go_simp; (try with_reducible rfl))
  (try simp only [Act.put, List.setIfInBounds_toArray, List.set_cons_zero, List.set_cons_succ])
  refine wpAnyH_ready (rs := [18]) (by kernel_rfl) (by simp) ?_
  refine AllReadyH.cons (o := { dst := some 46, op := Go.Op.call { callee := Go.Callee.value (Go.Operand.func 196), args := #[Go.Operand.tmp 37, Go.Operand.tmp 45], argTypes := #[174, 174] }, type := 4, pos := "l08_monitor.go:119", after := #[{ on := 9, ground := Go.Ground.data }, { on := 17, ground := Go.Ground.data }, { on := 16, ground := Go.Ground.chain }], guard := none }) rfl (fun K hK => ?_) AllReadyH.nil
  go_simp
  refine (implIsBelow_calls _ _ 4 rc 4 sc _ _ _ (by unfold maxLen; omega) (by unfold maxLen; omega) slr sls).mono ?_
  rintro e wc ⟨rfl, ga⟩
  rw [hbb]
  have hsc := q5_below lt0 lt0 lt0 lt0 lt1 hHeld ga
  clear ga
  refine hK.out _ _ hsc (fun hHeld => ?_)
  clear hK K
  (try simp only [Act.put, List.setIfInBounds_toArray, List.set_cons_zero, List.set_cons_succ])
  refine wpAnyH_ready (rs := [19]) (by kernel_rfl) (by simp) ?_
  refine AllReadyH.cons (o := { dst := some 47, op := Go.Op.call { callee := Go.Callee.value (Go.Operand.func 191), args := #[Go.Operand.tmp 46], argTypes := #[4] }, type := 0, pos := "l08_monitor.go:119", after := #[{ on := 18, ground := Go.Ground.data }, { on := 18, ground := Go.Ground.chain }], guard := none }) rfl (fun K hK => ?_) AllReadyH.nil
  go_simp
  refine (insist_no _).mono ?_
  rintro e w' ⟨⟨t, pv, rfl⟩, hw'⟩
  rw [hw']
  exact ⟨rfl, ⟨t, pv, rfl⟩, BW.trans ((q5_bel hsc).mono (by omega))⟩

set_option maxRecDepth 100000 in
set_option maxHeartbeats 4000000 in
theorem serveGateV_yes (A : SA) (D : SD) (rf : Int) (c0 c1 : Addr) (E : SD) (w : World) (hr : RS w A D) (hz : szY A D ≤ 1048576) (hdo : ∀ (P : Nat) (S : Nat → Prop) (B : SA) (W : World), Below w.heap.size w W → w.heap.size ≤ P → YM P 0 S B D W → (∀ q, S q → q < W.heap.size) → Calls Tryz.prog 140 #[.pointer (some ⟨P, 0, none⟩), .pointer (some c0), .pointer (some c1)] W fun e w' => e = .returned (.tuple #[]) ∧ (∃ B', YM P 0 (fun q => S q ∨ (W.heap.size ≤ q ∧ q < w'.heap.size)) B' E w') ∧ OutS (fun q => S q ∨ q = P) W w') :
    Calls Tryz.prog 129 #[.agg #[.slice A.a A.n A.c, .slice A.ta A.tn A.tc, .slice A.da A.dn A.dc, .slice A.wa A.wn A.wc, .slice A.xa A.xn A.xc, .int .i64 D.ac, .int .i64 D.cz, .slice A.la A.ln A.lc, .int .i64 D.dv, .slice A.oa A.on A.oc, .slice A.ga A.gn A.gc], .int .i64 rf, .func (.func 140) #[] #[.pointer (some c0), .pointer (some c1)]] w fun e w' => ∃ B : SA, e = .returned (.agg #[.int .i64 0, .int .i64 0, .slice B.a B.n B.c, .slice B.ta B.tn B.tc, .slice B.da B.dn B.dc, .slice B.wa B.wn B.wc, .slice B.xa B.xn B.xc, .int .i64 E.ac, .int .i64 E.cz, .slice B.la B.ln B.lc, .int .i64 E.dv, .slice B.oa B.on B.oc, .slice B.ga B.gn B.gc]) ∧ OY (InR w.heap.size w'.heap.size) B E w' ∧ Below w.heap.size w w' := by
  have hmf : ∀ (fn : Fn) (first cap : Array Value) (w : World), (Instr.makeFunc fn first cap).run Tryz.prog w = .ok (.func fn first cap) w := fun _ _ _ _ => rfl
  have M1 := (((Mm.start w).allocC [.slice A.a A.n A.c, .slice A.ta A.tn A.tc, .slice A.da A.dn A.dc, .slice A.wa A.wn A.wc, .slice A.xa A.xn A.xc, .int .i64 D.ac, .int .i64 D.cz, .slice A.la A.ln A.lc, .int .i64 D.dv, .slice A.oa A.on A.oc, .slice A.ga A.gn A.gc] 53).allocC [.int .i64 rf] 2).allocC [.int .i64 0, .int .i64 0, .slice none 0 0, .slice none 0 0, .slice none 0 0, .slice none 0 0, .slice none 0 0, .int .i64 0, .int .i64 0, .slice none 0 0, .int .i64 0, .slice none 0 0, .slice none 0 0] 64
  simp only [World.size_alloc] at M1
  obtain ⟨w1, hw1⟩ : ∃ x, x = ((w.alloc (.cells #[.slice A.a A.n A.c, .slice A.ta A.tn A.tc, .slice A.da A.dn A.dc, .slice A.wa A.wn A.wc, .slice A.xa A.xn A.xc, .int .i64 D.ac, .int .i64 D.cz, .slice A.la A.ln A.lc, .int .i64 D.dv, .slice A.oa A.on A.oc, .slice A.ga A.gn A.gc] 53)).alloc (.cells #[.int .i64 rf] 2)).alloc (.cells #[.int .i64 0, .int .i64 0, .slice none 0 0, .slice none 0 0, .slice none 0 0, .slice none 0 0, .slice none 0 0, .int .i64 0, .int .i64 0, .slice none 0 0, .int .i64 0, .slice none 0 0, .slice none 0 0] 64) := ⟨_, rfl⟩
  have z1 : w.heap.size + 3 ≤ w1.heap.size := by rw [hw1]; simp
  rw [← hw1] at M1
  have Hw1 := hide hw1
  clear hw1
  go_enter_defers Tryz.func129, Tryz.ntmps129
  go_wp2_with fail
  rw [← Hw1.out]
  clear Hw1
  refine (copiedSystem_O A D _ hz (hr.below M1.bel (Nat.le_refl _))).mono ?_
  rintro e w2 ⟨B, rfl, oy, g2⟩
  have z2 := g2.size
  have M2 := M1.below g2
  obtain ⟨u, hu⟩ : ∃ x, x = w2.alloc (.cells #[.slice B.a B.n B.c, .slice B.ta B.tn B.tc, .slice B.da B.dn B.dc, .slice B.wa B.wn B.wc, .slice B.xa B.xn B.xc, .int .i64 D.ac, .int .i64 D.cz, .slice B.la B.ln B.lc, .int .i64 D.dv, .slice B.oa B.on B.oc, .slice B.ga B.gn B.gc] 53) := ⟨_, rfl⟩
  have al : Below w2.heap.size w2 u := by rw [hu]; exact (Below.refl _ _).alloc (Nat.le_refl _) _
  have zu : u.heap.size = w2.heap.size + 1 := by rw [hu]; simp
  have Y0 : YM w2.heap.size 0 (InR w1.heap.size w2.heap.size) B D u := ⟨CsO.ofCs (by rw [hu]; exact Cs.alloc w2 [.slice B.a B.n B.c, .slice B.ta B.tn B.tc, .slice B.da B.dn B.dc, .slice B.wa B.wn B.wc, .slice B.xa B.xn B.xc, .int .i64 D.ac, .int .i64 D.cz, .slice B.la B.ln B.lc, .int .i64 D.dv, .slice B.oa B.on B.oc, .slice B.ga B.gn B.gc] _), fun j => by rw [hu]; simp, fun h => by have := h.2; omega, by omega, OYR.loc.below al oy⟩
  have M3 := M2.below al
  have Hu := hide hu
  clear M1 M2 g2 oy hu
  go_wp2_with fail
  rw [← Hu.out]
  refine (hdo _ _ B _ M3.bel (by omega) Y0 (fun q hq => by have := hq.2; omega)).mono ?_
  rintro e w3 ⟨rfl, ⟨B2, y3⟩, ho⟩
  have z3 := ho.size
  have M4 := (M3.out (B := w1.heap.size) (T := w2.heap.size + 1) (ho.mono (fun q hq => by rcases hq with hq | hq; exact ⟨hq.1, by have := hq.2; omega⟩; subst hq; exact ⟨by omega, by omega⟩)) (by omega) (by simp) (by simp; omega)).fact OY.loc (B := w1.heap.size) (T := w3.heap.size) (y3.y.oy.mono (fun q hq => by rcases hq with hq | hq; exact ⟨hq.1, by have := hq.2; omega⟩; exact ⟨by have := hq.1; omega, hq.2⟩))
  have a0 := y3.cs.cell 0 rfl
  have a1 := y3.cs.cell 1 rfl
  have a2 := y3.cs.cell 2 rfl
  have a3 := y3.cs.cell 3 rfl
  have a4 := y3.cs.cell 4 rfl
  have a5 := y3.cs.cell 5 rfl
  have a6 := y3.cs.cell 6 rfl
  have a7 := y3.cs.cell 7 rfl
  have a8 := y3.cs.cell 8 rfl
  have a9 := y3.cs.cell 9 rfl
  have a10 := y3.cs.cell 10 rfl
  simp only [Nat.zero_add] at a0 a1 a2 a3 a4 a5 a6 a7 a8 a9 a10
  have c0_ := (M4.get 1 rfl).cell 0 rfl
  have f0 := (M4.get 1 rfl).fz 0 (by simp)
  have c1_ := (M4.get 1 rfl).cell 1 rfl
  have f1 := (M4.get 1 rfl).fz 1 (by simp)
  have c2_ := (M4.get 1 rfl).cell 2 rfl
  have f2 := (M4.get 1 rfl).fz 2 (by simp)
  have c3_ := (M4.get 1 rfl).cell 3 rfl
  have f3 := (M4.get 1 rfl).fz 3 (by simp)
  have c4_ := (M4.get 1 rfl).cell 4 rfl
  have f4 := (M4.get 1 rfl).fz 4 (by simp)
  have c5_ := (M4.get 1 rfl).cell 5 rfl
  have f5 := (M4.get 1 rfl).fz 5 (by simp)
  have c6_ := (M4.get 1 rfl).cell 6 rfl
  have f6 := (M4.get 1 rfl).fz 6 (by simp)
  have c7_ := (M4.get 1 rfl).cell 7 rfl
  have f7 := (M4.get 1 rfl).fz 7 (by simp)
  have c8_ := (M4.get 1 rfl).cell 8 rfl
  have f8 := (M4.get 1 rfl).fz 8 (by simp)
  have c9_ := (M4.get 1 rfl).cell 9 rfl
  have f9 := (M4.get 1 rfl).fz 9 (by simp)
  have c10_ := (M4.get 1 rfl).cell 10 rfl
  have f10 := (M4.get 1 rfl).fz 10 (by simp)
  have c11_ := (M4.get 1 rfl).cell 11 rfl
  have f11 := (M4.get 1 rfl).fz 11 (by simp)
  have c12_ := (M4.get 1 rfl).cell 12 rfl
  have f12 := (M4.get 1 rfl).fz 12 (by simp)
  have HB := hide (below_set13 M4.bel (P := w.heap.size + 1 + 1) (by omega) (.int .i64 0) (.int .i64 0) (.slice B2.a B2.n B2.c) (.slice B2.ta B2.tn B2.tc) (.slice B2.da B2.dn B2.dc) (.slice B2.wa B2.wn B2.wc) (.slice B2.xa B2.xn B2.xc) (.int .i64 E.ac) (.int .i64 E.cz) (.slice B2.la B2.ln B2.lc) (.int .i64 E.dv) (.slice B2.oa B2.on B2.oc) (.slice B2.ga B2.gn B2.gc))
  have HO := hide (loc_set13 OY.loc (M4.get 0 rfl) (P := w.heap.size + 1 + 1) (fun h => by have := h.1; omega) (.int .i64 0) (.int .i64 0) (.slice B2.a B2.n B2.c) (.slice B2.ta B2.tn B2.tc) (.slice B2.da B2.dn B2.dc) (.slice B2.wa B2.wn B2.wc) (.slice B2.xa B2.xn B2.xc) (.int .i64 E.ac) (.int .i64 E.cz) (.slice B2.la B2.ln B2.lc) (.int .i64 E.dv) (.slice B2.oa B2.on B2.oc) (.slice B2.ga B2.gn B2.gc))
  clear M3 M4 y3 ho Y0 al Hu
  go_wp2
  refine leaves_cons (f := 189) (args := #[.pointer (some ⟨w.heap.size + 1, 0, none⟩), .pointer (some ⟨w.heap.size, 0, none⟩), .pointer (some ⟨w.heap.size + 1 + 1, 0, none⟩)]) (by simp) (by simp [go_sem]) ?_
  refine (catch_idle _ _ _ _).mono ?_
  rintro e u' w'' ⟨rfl, rfl, rfl⟩
  have r0 := set13_at0 _ _ (.int .i64 0) (.int .i64 0) (.slice B2.a B2.n B2.c) (.slice B2.ta B2.tn B2.tc) (.slice B2.da B2.dn B2.dc) (.slice B2.wa B2.wn B2.wc) (.slice B2.xa B2.xn B2.xc) (.int .i64 E.ac) (.int .i64 E.cz) (.slice B2.la B2.ln B2.lc) (.int .i64 E.dv) (.slice B2.oa B2.on B2.oc) (.slice B2.ga B2.gn B2.gc) ⟨_, c0_⟩
  have r1 := set13_at1 _ _ (.int .i64 0) (.int .i64 0) (.slice B2.a B2.n B2.c) (.slice B2.ta B2.tn B2.tc) (.slice B2.da B2.dn B2.dc) (.slice B2.wa B2.wn B2.wc) (.slice B2.xa B2.xn B2.xc) (.int .i64 E.ac) (.int .i64 E.cz) (.slice B2.la B2.ln B2.lc) (.int .i64 E.dv) (.slice B2.oa B2.on B2.oc) (.slice B2.ga B2.gn B2.gc) ⟨_, c1_⟩
  have r2 := set13_at2 _ _ (.int .i64 0) (.int .i64 0) (.slice B2.a B2.n B2.c) (.slice B2.ta B2.tn B2.tc) (.slice B2.da B2.dn B2.dc) (.slice B2.wa B2.wn B2.wc) (.slice B2.xa B2.xn B2.xc) (.int .i64 E.ac) (.int .i64 E.cz) (.slice B2.la B2.ln B2.lc) (.int .i64 E.dv) (.slice B2.oa B2.on B2.oc) (.slice B2.ga B2.gn B2.gc) ⟨_, c2_⟩
  have r3 := set13_at3 _ _ (.int .i64 0) (.int .i64 0) (.slice B2.a B2.n B2.c) (.slice B2.ta B2.tn B2.tc) (.slice B2.da B2.dn B2.dc) (.slice B2.wa B2.wn B2.wc) (.slice B2.xa B2.xn B2.xc) (.int .i64 E.ac) (.int .i64 E.cz) (.slice B2.la B2.ln B2.lc) (.int .i64 E.dv) (.slice B2.oa B2.on B2.oc) (.slice B2.ga B2.gn B2.gc) ⟨_, c3_⟩
  have r4 := set13_at4 _ _ (.int .i64 0) (.int .i64 0) (.slice B2.a B2.n B2.c) (.slice B2.ta B2.tn B2.tc) (.slice B2.da B2.dn B2.dc) (.slice B2.wa B2.wn B2.wc) (.slice B2.xa B2.xn B2.xc) (.int .i64 E.ac) (.int .i64 E.cz) (.slice B2.la B2.ln B2.lc) (.int .i64 E.dv) (.slice B2.oa B2.on B2.oc) (.slice B2.ga B2.gn B2.gc) ⟨_, c4_⟩
  have r5 := set13_at5 _ _ (.int .i64 0) (.int .i64 0) (.slice B2.a B2.n B2.c) (.slice B2.ta B2.tn B2.tc) (.slice B2.da B2.dn B2.dc) (.slice B2.wa B2.wn B2.wc) (.slice B2.xa B2.xn B2.xc) (.int .i64 E.ac) (.int .i64 E.cz) (.slice B2.la B2.ln B2.lc) (.int .i64 E.dv) (.slice B2.oa B2.on B2.oc) (.slice B2.ga B2.gn B2.gc) ⟨_, c5_⟩
  have r6 := set13_at6 _ _ (.int .i64 0) (.int .i64 0) (.slice B2.a B2.n B2.c) (.slice B2.ta B2.tn B2.tc) (.slice B2.da B2.dn B2.dc) (.slice B2.wa B2.wn B2.wc) (.slice B2.xa B2.xn B2.xc) (.int .i64 E.ac) (.int .i64 E.cz) (.slice B2.la B2.ln B2.lc) (.int .i64 E.dv) (.slice B2.oa B2.on B2.oc) (.slice B2.ga B2.gn B2.gc) ⟨_, c6_⟩
  have r7 := set13_at7 _ _ (.int .i64 0) (.int .i64 0) (.slice B2.a B2.n B2.c) (.slice B2.ta B2.tn B2.tc) (.slice B2.da B2.dn B2.dc) (.slice B2.wa B2.wn B2.wc) (.slice B2.xa B2.xn B2.xc) (.int .i64 E.ac) (.int .i64 E.cz) (.slice B2.la B2.ln B2.lc) (.int .i64 E.dv) (.slice B2.oa B2.on B2.oc) (.slice B2.ga B2.gn B2.gc) ⟨_, c7_⟩
  have r8 := set13_at8 _ _ (.int .i64 0) (.int .i64 0) (.slice B2.a B2.n B2.c) (.slice B2.ta B2.tn B2.tc) (.slice B2.da B2.dn B2.dc) (.slice B2.wa B2.wn B2.wc) (.slice B2.xa B2.xn B2.xc) (.int .i64 E.ac) (.int .i64 E.cz) (.slice B2.la B2.ln B2.lc) (.int .i64 E.dv) (.slice B2.oa B2.on B2.oc) (.slice B2.ga B2.gn B2.gc) ⟨_, c8_⟩
  have r9 := set13_at9 _ _ (.int .i64 0) (.int .i64 0) (.slice B2.a B2.n B2.c) (.slice B2.ta B2.tn B2.tc) (.slice B2.da B2.dn B2.dc) (.slice B2.wa B2.wn B2.wc) (.slice B2.xa B2.xn B2.xc) (.int .i64 E.ac) (.int .i64 E.cz) (.slice B2.la B2.ln B2.lc) (.int .i64 E.dv) (.slice B2.oa B2.on B2.oc) (.slice B2.ga B2.gn B2.gc) ⟨_, c9_⟩
  have r10 := set13_at10 _ _ (.int .i64 0) (.int .i64 0) (.slice B2.a B2.n B2.c) (.slice B2.ta B2.tn B2.tc) (.slice B2.da B2.dn B2.dc) (.slice B2.wa B2.wn B2.wc) (.slice B2.xa B2.xn B2.xc) (.int .i64 E.ac) (.int .i64 E.cz) (.slice B2.la B2.ln B2.lc) (.int .i64 E.dv) (.slice B2.oa B2.on B2.oc) (.slice B2.ga B2.gn B2.gc) ⟨_, c10_⟩
  have r11 := set13_at11 _ _ (.int .i64 0) (.int .i64 0) (.slice B2.a B2.n B2.c) (.slice B2.ta B2.tn B2.tc) (.slice B2.da B2.dn B2.dc) (.slice B2.wa B2.wn B2.wc) (.slice B2.xa B2.xn B2.xc) (.int .i64 E.ac) (.int .i64 E.cz) (.slice B2.la B2.ln B2.lc) (.int .i64 E.dv) (.slice B2.oa B2.on B2.oc) (.slice B2.ga B2.gn B2.gc) ⟨_, c11_⟩
  have r12 := set13_at12 _ _ (.int .i64 0) (.int .i64 0) (.slice B2.a B2.n B2.c) (.slice B2.ta B2.tn B2.tc) (.slice B2.da B2.dn B2.dc) (.slice B2.wa B2.wn B2.wc) (.slice B2.xa B2.xn B2.xc) (.int .i64 E.ac) (.int .i64 E.cz) (.slice B2.la B2.ln B2.lc) (.int .i64 E.dv) (.slice B2.oa B2.on B2.oc) (.slice B2.ga B2.gn B2.gc) ⟨_, c12_⟩
  refine ⟨.agg #[.int .i64 0, .int .i64 0, .slice B2.a B2.n B2.c, .slice B2.ta B2.tn B2.tc, .slice B2.da B2.dn B2.dc, .slice B2.wa B2.wn B2.wc, .slice B2.xa B2.xn B2.xc, .int .i64 E.ac, .int .i64 E.cz, .slice B2.la B2.ln B2.lc, .int .i64 E.dv, .slice B2.oa B2.on B2.oc, .slice B2.ga B2.gn B2.gc], by simp [results, Tryz.results129, go_sem, r0, r1, r2, r3, r4, r5, r6, r7, r8, r9, r10, r11, r12], B2, rfl, ?_, HB.out⟩
  exact HO.out.mono (fun q hq => ⟨by have := hq.1; omega, by simpa using hq.2⟩)

set_option maxRecDepth 100000 in
set_option maxHeartbeats 4000000 in
theorem serveGateV_no (A : SA) (D : SD) (rf : Int) (c0 c1 : Addr) (w : World) (hr : RS w A D) (hz : szY A D ≤ 1048576) (hdo : ∀ (P : Nat) (S : Nat → Prop) (B : SA) (W : World), Below w.heap.size w W → w.heap.size ≤ P → YM P 0 S B D W → (∀ q, S q → q < W.heap.size) → Calls Tryz.prog 140 #[.pointer (some ⟨P, 0, none⟩), .pointer (some c0), .pointer (some c1)] W fun e w' => (∃ t pv, e = .panicked [{ v := .iface t pv, recovered := false }]) ∧ OutS (fun q => S q ∨ q = P) W w') :
    Calls Tryz.prog 129 #[.agg #[.slice A.a A.n A.c, .slice A.ta A.tn A.tc, .slice A.da A.dn A.dc, .slice A.wa A.wn A.wc, .slice A.xa A.xn A.xc, .int .i64 D.ac, .int .i64 D.cz, .slice A.la A.ln A.lc, .int .i64 D.dv, .slice A.oa A.on A.oc, .slice A.ga A.gn A.gc], .int .i64 rf, .func (.func 140) #[] #[.pointer (some c0), .pointer (some c1)]] w fun e w' => ∃ B : SA, e = .returned (.agg #[.int .i64 0, .int .i64 rf, .slice B.a B.n B.c, .slice B.ta B.tn B.tc, .slice B.da B.dn B.dc, .slice B.wa B.wn B.wc, .slice B.xa B.xn B.xc, .int .i64 D.ac, .int .i64 D.cz, .slice B.la B.ln B.lc, .int .i64 D.dv, .slice B.oa B.on B.oc, .slice B.ga B.gn B.gc]) ∧ OY (InR w.heap.size w'.heap.size) B D w' ∧ Below w.heap.size w w' := by
  have hmf : ∀ (fn : Fn) (first cap : Array Value) (w : World), (Instr.makeFunc fn first cap).run Tryz.prog w = .ok (.func fn first cap) w := fun _ _ _ _ => rfl
  have M1 := (((Mm.start w).allocC [.slice A.a A.n A.c, .slice A.ta A.tn A.tc, .slice A.da A.dn A.dc, .slice A.wa A.wn A.wc, .slice A.xa A.xn A.xc, .int .i64 D.ac, .int .i64 D.cz, .slice A.la A.ln A.lc, .int .i64 D.dv, .slice A.oa A.on A.oc, .slice A.ga A.gn A.gc] 53).allocC [.int .i64 rf] 2).allocC [.int .i64 0, .int .i64 0, .slice none 0 0, .slice none 0 0, .slice none 0 0, .slice none 0 0, .slice none 0 0, .int .i64 0, .int .i64 0, .slice none 0 0, .int .i64 0, .slice none 0 0, .slice none 0 0] 64
  simp only [World.size_alloc] at M1
  obtain ⟨w1, hw1⟩ : ∃ x, x = ((w.alloc (.cells #[.slice A.a A.n A.c, .slice A.ta A.tn A.tc, .slice A.da A.dn A.dc, .slice A.wa A.wn A.wc, .slice A.xa A.xn A.xc, .int .i64 D.ac, .int .i64 D.cz, .slice A.la A.ln A.lc, .int .i64 D.dv, .slice A.oa A.on A.oc, .slice A.ga A.gn A.gc] 53)).alloc (.cells #[.int .i64 rf] 2)).alloc (.cells #[.int .i64 0, .int .i64 0, .slice none 0 0, .slice none 0 0, .slice none 0 0, .slice none 0 0, .slice none 0 0, .int .i64 0, .int .i64 0, .slice none 0 0, .int .i64 0, .slice none 0 0, .slice none 0 0] 64) := ⟨_, rfl⟩
  have z1 : w.heap.size + 3 ≤ w1.heap.size := by rw [hw1]; simp
  rw [← hw1] at M1
  have Hw1 := hide hw1
  clear hw1
  go_enter_defers Tryz.func129, Tryz.ntmps129
  go_wp2_with fail
  rw [← Hw1.out]
  clear Hw1
  refine (copiedSystem_O A D _ hz (hr.below M1.bel (Nat.le_refl _))).mono ?_
  rintro e w2 ⟨B, rfl, oy, g2⟩
  have z2 := g2.size
  have M2 := M1.below g2
  obtain ⟨u, hu⟩ : ∃ x, x = w2.alloc (.cells #[.slice B.a B.n B.c, .slice B.ta B.tn B.tc, .slice B.da B.dn B.dc, .slice B.wa B.wn B.wc, .slice B.xa B.xn B.xc, .int .i64 D.ac, .int .i64 D.cz, .slice B.la B.ln B.lc, .int .i64 D.dv, .slice B.oa B.on B.oc, .slice B.ga B.gn B.gc] 53) := ⟨_, rfl⟩
  have al : Below w2.heap.size w2 u := by rw [hu]; exact (Below.refl _ _).alloc (Nat.le_refl _) _
  have zu : u.heap.size = w2.heap.size + 1 := by rw [hu]; simp
  have Y0 : YM w2.heap.size 0 (InR w1.heap.size w2.heap.size) B D u := ⟨CsO.ofCs (by rw [hu]; exact Cs.alloc w2 [.slice B.a B.n B.c, .slice B.ta B.tn B.tc, .slice B.da B.dn B.dc, .slice B.wa B.wn B.wc, .slice B.xa B.xn B.xc, .int .i64 D.ac, .int .i64 D.cz, .slice B.la B.ln B.lc, .int .i64 D.dv, .slice B.oa B.on B.oc, .slice B.ga B.gn B.gc] _), fun j => by rw [hu]; simp, fun h => by have := h.2; omega, by omega, OYR.loc.below al oy⟩
  have M3 := M2.below al
  have Hu := hide hu
  clear M1 M2 g2 oy hu
  go_wp2_with fail
  rw [← Hu.out]
  refine (hdo _ _ B _ M3.bel (by omega) Y0 (fun q hq => by have := hq.2; omega)).mono ?_
  rintro e w3 ⟨⟨t, pv, rfl⟩, ho⟩
  have z3 := ho.size
  have M4 := M3.out (B := w1.heap.size) (T := w2.heap.size + 1) (ho.mono (fun q hq => by rcases hq with hq | hq; exact ⟨hq.1, by have := hq.2; omega⟩; subst hq; exact ⟨by omega, by omega⟩)) (by omega) (by simp) (by simp; omega)
  clear M3 ho Y0 al Hu
  go_wp2
  refine leaves_cons (f := 189) (args := #[.pointer (some ⟨w.heap.size + 1, 0, none⟩), .pointer (some ⟨w.heap.size, 0, none⟩), .pointer (some ⟨w.heap.size + 1 + 1, 0, none⟩)]) (by simp) (by simp [go_sem]) ?_
  refine (catch_panicking _ _ _ rf A D t pv [] _ ((M4.get 1 rfl).cell 0 rfl) (M4.get 2 rfl) (M4.get 0 rfl) (hr.below M4.bel (Nat.le_refl _)) hz).mono ?_
  rintro e u' w4 ⟨rfl, rfl, B2, hc, oy, ho⟩
  have r0 := hc.cell 0 rfl
  have r1 := hc.cell 1 rfl
  have r2 := hc.cell 2 rfl
  have r3 := hc.cell 3 rfl
  have r4 := hc.cell 4 rfl
  have r5 := hc.cell 5 rfl
  have r6 := hc.cell 6 rfl
  have r7 := hc.cell 7 rfl
  have r8 := hc.cell 8 rfl
  have r9 := hc.cell 9 rfl
  have r10 := hc.cell 10 rfl
  have r11 := hc.cell 11 rfl
  have r12 := hc.cell 12 rfl
  have hb := M4.bel.trans (ho.below (B := w.heap.size) (fun q hq => by subst hq; omega) M4.bel.size)
  refine ⟨.agg #[.int .i64 0, .int .i64 rf, .slice B2.a B2.n B2.c, .slice B2.ta B2.tn B2.tc, .slice B2.da B2.dn B2.dc, .slice B2.wa B2.wn B2.wc, .slice B2.xa B2.xn B2.xc, .int .i64 D.ac, .int .i64 D.cz, .slice B2.la B2.ln B2.lc, .int .i64 D.dv, .slice B2.oa B2.on B2.oc, .slice B2.ga B2.gn B2.gc], by simp [results, Tryz.results129, go_sem, r0, r1, r2, r3, r4, r5, r6, r7, r8, r9, r10, r11, r12], B2, rfl, ?_, hb⟩
  exact oy.mono (fun q hq => ⟨by have := hq.1; omega, hq.2⟩)

set_option maxRecDepth 100000 in
theorem clserveGate_yes (C0 C1 : Nat) (P : Nat) (S : Nat → Prop) (A : SA) (D : SD) (k : Nat) (g v : Int) (w : World) (h0 : w.cell? ⟨C0, 0, none⟩ = some (.int .i64 g)) (h1 : w.cell? ⟨C1, 0, none⟩ = some (.int .i64 v)) (hy : YM P 0 S A D w) (H : SysR A D k) (hS : ∀ q, S q → q < w.heap.size) (ho : gtO D g v = true) :
    Calls Tryz.prog 140 #[.pointer (some ⟨P, 0, none⟩), .pointer (some ⟨C0, 0, none⟩), .pointer (some ⟨C1, 0, none⟩)] w fun e w' => e = .returned (.tuple #[]) ∧ (∃ B', YM P 0 (fun q => S q ∨ (w.heap.size ≤ q ∧ q < w'.heap.size)) B' (gtD D g v) w') ∧ OutS (fun q => S q ∨ q = P) w w' := by
  go_enter Tryz.func140, Tryz.ntmps140
  go_wp2_with fail
  refine (passGate_yes P S A D k g v _ hy H hS ho).mono ?_
  rintro e w' ⟨rfl, hY, hO⟩
  go_wp2
  exact bodyPost_end (v := .tuple #[]) (by simp [results, Tryz.results140, go_sem]) rfl ⟨rfl, ⟨A, hY.mono (fun _ e => .inl e) (fun e => by rcases e with e | e; exact hy.ns e; have := hy.lt; omega)⟩, hO.mono (fun _ e => .inl e)⟩

set_option maxRecDepth 100000 in
theorem clserveGate_no (C0 C1 : Nat) (P : Nat) (S : Nat → Prop) (A : SA) (D : SD) (k : Nat) (g v : Int) (w : World) (h0 : w.cell? ⟨C0, 0, none⟩ = some (.int .i64 g)) (h1 : w.cell? ⟨C1, 0, none⟩ = some (.int .i64 v)) (hy : YM P 0 S A D w) (H : SysR A D k) (ho : gtO D g v = false) :
    Calls Tryz.prog 140 #[.pointer (some ⟨P, 0, none⟩), .pointer (some ⟨C0, 0, none⟩), .pointer (some ⟨C1, 0, none⟩)] w fun e w' => (∃ t pv, e = .panicked [{ v := .iface t pv, recovered := false }]) ∧ OutS (fun q => S q ∨ q = P) w w' := by
  go_enter Tryz.func140, Tryz.ntmps140
  go_wp2_with fail
  refine (passGate_no P S A D k g v _ hy H ho).mono ?_
  rintro e w' ⟨⟨t, pv, rfl⟩, hB⟩
  exact ⟨rfl, ⟨t, pv, rfl⟩, OutS.of_below hB⟩

set_option maxRecDepth 100000 in
set_option maxHeartbeats 4000000 in
theorem serveGate_calls (A : SA) (D : SD) (k : Nat) (g v : Int) (w : World) (hr : RS w A D) (H : SysR A D k) (hz : szY A D ≤ 1048576) :
    Calls Tryz.prog 65 #[.agg #[.slice A.a A.n A.c, .slice A.ta A.tn A.tc, .slice A.da A.dn A.dc, .slice A.wa A.wn A.wc, .slice A.xa A.xn A.xc, .int .i64 D.ac, .int .i64 D.cz, .slice A.la A.ln A.lc, .int .i64 D.dv, .slice A.oa A.on A.oc, .slice A.ga A.gn A.gc], .int .i64 g, .int .i64 v] w fun e w' => ∃ B : SA, e = .returned (.agg #[.int .i64 0, .int .i64 0, .slice B.a B.n B.c, .slice B.ta B.tn B.tc, .slice B.da B.dn B.dc, .slice B.wa B.wn B.wc, .slice B.xa B.xn B.xc, .int .i64 (gtD D g v).ac, .int .i64 (gtD D g v).cz, .slice B.la B.ln B.lc, .int .i64 (gtD D g v).dv, .slice B.oa B.on B.oc, .slice B.ga B.gn B.gc]) ∧ OY (InR w.heap.size w'.heap.size) B (gtD D g v) w' ∧ Below w.heap.size w w' := by
  have hmf : ∀ (fn : Fn) (first cap : Array Value) (w : World), (Instr.makeFunc fn first cap).run Tryz.prog w = .ok (.func fn first cap) w := fun _ _ _ _ => rfl
  have M0 := (((((Mm.start w).allocC [.slice A.a A.n A.c, .slice A.ta A.tn A.tc, .slice A.da A.dn A.dc, .slice A.wa A.wn A.wc, .slice A.xa A.xn A.xc, .int .i64 D.ac, .int .i64 D.cz, .slice A.la A.ln A.lc, .int .i64 D.dv, .slice A.oa A.on A.oc, .slice A.ga A.gn A.gc] 53).allocC [.int .i64 g] 2).allocC [.int .i64 v] 2).allocC [.int .i64 0, .int .i64 0, .slice none 0 0, .slice none 0 0, .slice none 0 0, .slice none 0 0, .slice none 0 0, .int .i64 0, .int .i64 0, .slice none 0 0, .int .i64 0, .slice none 0 0, .slice none 0 0] 64)
  simp only [World.size_alloc] at M0
  obtain ⟨W, hW⟩ : ∃ x, x = ((((w.alloc (.cells #[.slice A.a A.n A.c, .slice A.ta A.tn A.tc, .slice A.da A.dn A.dc, .slice A.wa A.wn A.wc, .slice A.xa A.xn A.xc, .int .i64 D.ac, .int .i64 D.cz, .slice A.la A.ln A.lc, .int .i64 D.dv, .slice A.oa A.on A.oc, .slice A.ga A.gn A.gc] 53)).alloc (.cells #[.int .i64 g] 2)).alloc (.cells #[.int .i64 v] 2)).alloc (.cells #[.int .i64 0, .int .i64 0, .slice none 0 0, .slice none 0 0, .slice none 0 0, .slice none 0 0, .slice none 0 0, .int .i64 0, .int .i64 0, .slice none 0 0, .int .i64 0, .slice none 0 0, .slice none 0 0] 64)) := ⟨_, rfl⟩
  have hWs : W.heap.size = w.heap.size + 4 := by rw [hW]; simp
  rw [← hW] at M0
  have HC : Hid (Calls Tryz.prog 129 #[.agg #[.slice A.a A.n A.c, .slice A.ta A.tn A.tc, .slice A.da A.dn A.dc, .slice A.wa A.wn A.wc, .slice A.xa A.xn A.xc, .int .i64 D.ac, .int .i64 D.cz, .slice A.la A.ln A.lc, .int .i64 D.dv, .slice A.oa A.on A.oc, .slice A.ga A.gn A.gc], .int .i64 0, .func (.func 140) #[] #[.pointer (some ⟨w.heap.size + 1, 0, none⟩), .pointer (some ⟨w.heap.size + 1 + 1, 0, none⟩)]] W fun e w' => ∃ B : SA, e = .returned (.agg #[.int .i64 0, .int .i64 0, .slice B.a B.n B.c, .slice B.ta B.tn B.tc, .slice B.da B.dn B.dc, .slice B.wa B.wn B.wc, .slice B.xa B.xn B.xc, .int .i64 (gtD D g v).ac, .int .i64 (gtD D g v).cz, .slice B.la B.ln B.lc, .int .i64 (gtD D g v).dv, .slice B.oa B.on B.oc, .slice B.ga B.gn B.gc]) ∧ OY (InR W.heap.size w'.heap.size) B (gtD D g v) w' ∧ Below W.heap.size W w') := by
    have hrW := hr.below M0.bel (Nat.le_refl _)
    cases ho : gtO D g v with
    | true =>
      exact serveGateV_yes A D 0 ⟨w.heap.size + 1, 0, none⟩ ⟨w.heap.size + 1 + 1, 0, none⟩ (gtD D g v) W hrW hz (fun P S B X hb hP hy hS => clserveGate_yes (w.heap.size + 1) (w.heap.size + 1 + 1) P S B D k g v X ((hb.cell (p := ⟨w.heap.size + 1, 0, none⟩) (show w.heap.size + 1 < W.heap.size by omega)).trans ((M0.get 2 rfl).cell 0 rfl)) ((hb.cell (p := ⟨w.heap.size + 1 + 1, 0, none⟩) (show w.heap.size + 1 + 1 < W.heap.size by omega)).trans ((M0.get 1 rfl).cell 0 rfl)) hy (H.move hrW hy.y.oy.rs) hS ho)
    | false =>
      have hD : gtD D g v = D := if_neg (by rw [ho]; simp)
      have h1 := serveGateV_no A D 0 ⟨w.heap.size + 1, 0, none⟩ ⟨w.heap.size + 1 + 1, 0, none⟩ W hrW hz (fun P S B X hb hP hy hS => clserveGate_no (w.heap.size + 1) (w.heap.size + 1 + 1) P S B D k g v X ((hb.cell (p := ⟨w.heap.size + 1, 0, none⟩) (show w.heap.size + 1 < W.heap.size by omega)).trans ((M0.get 2 rfl).cell 0 rfl)) ((hb.cell (p := ⟨w.heap.size + 1 + 1, 0, none⟩) (show w.heap.size + 1 + 1 < W.heap.size by omega)).trans ((M0.get 1 rfl).cell 0 rfl)) hy (H.move hrW hy.y.oy.rs) ho)
      rw [hD]
      exact h1
  have HW := hide hW
  clear hW
  go_enter Tryz.func65, Tryz.ntmps65
  go_wp2_with fail
  rw [← HW.out]
  refine HC.out.mono ?_
  rintro e w1 ⟨B, rfl, oy, g1⟩
  have z1 := g1.size
  obtain ⟨E, hE⟩ : ∃ x, x = gtD D g v := ⟨_, rfl⟩
  rw [← hE] at oy
  simp only [← hE]
  have HE := hide hE
  clear hE
  have M1 := M0.below g1
  have c0_ := (M1.get 0 rfl).cell 0 rfl
  have f0 := (M1.get 0 rfl).fz 0 (by simp)
  have c1_ := (M1.get 0 rfl).cell 1 rfl
  have f1 := (M1.get 0 rfl).fz 1 (by simp)
  have c2_ := (M1.get 0 rfl).cell 2 rfl
  have f2 := (M1.get 0 rfl).fz 2 (by simp)
  have c3_ := (M1.get 0 rfl).cell 3 rfl
  have f3 := (M1.get 0 rfl).fz 3 (by simp)
  have c4_ := (M1.get 0 rfl).cell 4 rfl
  have f4 := (M1.get 0 rfl).fz 4 (by simp)
  have c5_ := (M1.get 0 rfl).cell 5 rfl
  have f5 := (M1.get 0 rfl).fz 5 (by simp)
  have c6_ := (M1.get 0 rfl).cell 6 rfl
  have f6 := (M1.get 0 rfl).fz 6 (by simp)
  have c7_ := (M1.get 0 rfl).cell 7 rfl
  have f7 := (M1.get 0 rfl).fz 7 (by simp)
  have c8_ := (M1.get 0 rfl).cell 8 rfl
  have f8 := (M1.get 0 rfl).fz 8 (by simp)
  have c9_ := (M1.get 0 rfl).cell 9 rfl
  have f9 := (M1.get 0 rfl).fz 9 (by simp)
  have c10_ := (M1.get 0 rfl).cell 10 rfl
  have f10 := (M1.get 0 rfl).fz 10 (by simp)
  have c11_ := (M1.get 0 rfl).cell 11 rfl
  have f11 := (M1.get 0 rfl).fz 11 (by simp)
  have c12_ := (M1.get 0 rfl).cell 12 rfl
  have f12 := (M1.get 0 rfl).fz 12 (by simp)
  have HB := hide (below_set13 M1.bel (P := w.heap.size + 1 + 1 + 1) (by omega) (.int .i64 0) (.int .i64 0) (.slice B.a B.n B.c) (.slice B.ta B.tn B.tc) (.slice B.da B.dn B.dc) (.slice B.wa B.wn B.wc) (.slice B.xa B.xn B.xc) (.int .i64 E.ac) (.int .i64 E.cz) (.slice B.la B.ln B.lc) (.int .i64 E.dv) (.slice B.oa B.on B.oc) (.slice B.ga B.gn B.gc))
  have HO := hide (loc_set13 OY.loc oy (P := w.heap.size + 1 + 1 + 1) (fun h => by have := h.1; omega) (.int .i64 0) (.int .i64 0) (.slice B.a B.n B.c) (.slice B.ta B.tn B.tc) (.slice B.da B.dn B.dc) (.slice B.wa B.wn B.wc) (.slice B.xa B.xn B.xc) (.int .i64 E.ac) (.int .i64 E.cz) (.slice B.la B.ln B.lc) (.int .i64 E.dv) (.slice B.oa B.on B.oc) (.slice B.ga B.gn B.gc))
  clear M0 M1 oy g1 HW HC
  go_wp2
  have r0 := set13_at0 _ _ (.int .i64 0) (.int .i64 0) (.slice B.a B.n B.c) (.slice B.ta B.tn B.tc) (.slice B.da B.dn B.dc) (.slice B.wa B.wn B.wc) (.slice B.xa B.xn B.xc) (.int .i64 E.ac) (.int .i64 E.cz) (.slice B.la B.ln B.lc) (.int .i64 E.dv) (.slice B.oa B.on B.oc) (.slice B.ga B.gn B.gc) ⟨_, c0_⟩
  have r1 := set13_at1 _ _ (.int .i64 0) (.int .i64 0) (.slice B.a B.n B.c) (.slice B.ta B.tn B.tc) (.slice B.da B.dn B.dc) (.slice B.wa B.wn B.wc) (.slice B.xa B.xn B.xc) (.int .i64 E.ac) (.int .i64 E.cz) (.slice B.la B.ln B.lc) (.int .i64 E.dv) (.slice B.oa B.on B.oc) (.slice B.ga B.gn B.gc) ⟨_, c1_⟩
  have r2 := set13_at2 _ _ (.int .i64 0) (.int .i64 0) (.slice B.a B.n B.c) (.slice B.ta B.tn B.tc) (.slice B.da B.dn B.dc) (.slice B.wa B.wn B.wc) (.slice B.xa B.xn B.xc) (.int .i64 E.ac) (.int .i64 E.cz) (.slice B.la B.ln B.lc) (.int .i64 E.dv) (.slice B.oa B.on B.oc) (.slice B.ga B.gn B.gc) ⟨_, c2_⟩
  have r3 := set13_at3 _ _ (.int .i64 0) (.int .i64 0) (.slice B.a B.n B.c) (.slice B.ta B.tn B.tc) (.slice B.da B.dn B.dc) (.slice B.wa B.wn B.wc) (.slice B.xa B.xn B.xc) (.int .i64 E.ac) (.int .i64 E.cz) (.slice B.la B.ln B.lc) (.int .i64 E.dv) (.slice B.oa B.on B.oc) (.slice B.ga B.gn B.gc) ⟨_, c3_⟩
  have r4 := set13_at4 _ _ (.int .i64 0) (.int .i64 0) (.slice B.a B.n B.c) (.slice B.ta B.tn B.tc) (.slice B.da B.dn B.dc) (.slice B.wa B.wn B.wc) (.slice B.xa B.xn B.xc) (.int .i64 E.ac) (.int .i64 E.cz) (.slice B.la B.ln B.lc) (.int .i64 E.dv) (.slice B.oa B.on B.oc) (.slice B.ga B.gn B.gc) ⟨_, c4_⟩
  have r5 := set13_at5 _ _ (.int .i64 0) (.int .i64 0) (.slice B.a B.n B.c) (.slice B.ta B.tn B.tc) (.slice B.da B.dn B.dc) (.slice B.wa B.wn B.wc) (.slice B.xa B.xn B.xc) (.int .i64 E.ac) (.int .i64 E.cz) (.slice B.la B.ln B.lc) (.int .i64 E.dv) (.slice B.oa B.on B.oc) (.slice B.ga B.gn B.gc) ⟨_, c5_⟩
  have r6 := set13_at6 _ _ (.int .i64 0) (.int .i64 0) (.slice B.a B.n B.c) (.slice B.ta B.tn B.tc) (.slice B.da B.dn B.dc) (.slice B.wa B.wn B.wc) (.slice B.xa B.xn B.xc) (.int .i64 E.ac) (.int .i64 E.cz) (.slice B.la B.ln B.lc) (.int .i64 E.dv) (.slice B.oa B.on B.oc) (.slice B.ga B.gn B.gc) ⟨_, c6_⟩
  have r7 := set13_at7 _ _ (.int .i64 0) (.int .i64 0) (.slice B.a B.n B.c) (.slice B.ta B.tn B.tc) (.slice B.da B.dn B.dc) (.slice B.wa B.wn B.wc) (.slice B.xa B.xn B.xc) (.int .i64 E.ac) (.int .i64 E.cz) (.slice B.la B.ln B.lc) (.int .i64 E.dv) (.slice B.oa B.on B.oc) (.slice B.ga B.gn B.gc) ⟨_, c7_⟩
  have r8 := set13_at8 _ _ (.int .i64 0) (.int .i64 0) (.slice B.a B.n B.c) (.slice B.ta B.tn B.tc) (.slice B.da B.dn B.dc) (.slice B.wa B.wn B.wc) (.slice B.xa B.xn B.xc) (.int .i64 E.ac) (.int .i64 E.cz) (.slice B.la B.ln B.lc) (.int .i64 E.dv) (.slice B.oa B.on B.oc) (.slice B.ga B.gn B.gc) ⟨_, c8_⟩
  have r9 := set13_at9 _ _ (.int .i64 0) (.int .i64 0) (.slice B.a B.n B.c) (.slice B.ta B.tn B.tc) (.slice B.da B.dn B.dc) (.slice B.wa B.wn B.wc) (.slice B.xa B.xn B.xc) (.int .i64 E.ac) (.int .i64 E.cz) (.slice B.la B.ln B.lc) (.int .i64 E.dv) (.slice B.oa B.on B.oc) (.slice B.ga B.gn B.gc) ⟨_, c9_⟩
  have r10 := set13_at10 _ _ (.int .i64 0) (.int .i64 0) (.slice B.a B.n B.c) (.slice B.ta B.tn B.tc) (.slice B.da B.dn B.dc) (.slice B.wa B.wn B.wc) (.slice B.xa B.xn B.xc) (.int .i64 E.ac) (.int .i64 E.cz) (.slice B.la B.ln B.lc) (.int .i64 E.dv) (.slice B.oa B.on B.oc) (.slice B.ga B.gn B.gc) ⟨_, c10_⟩
  have r11 := set13_at11 _ _ (.int .i64 0) (.int .i64 0) (.slice B.a B.n B.c) (.slice B.ta B.tn B.tc) (.slice B.da B.dn B.dc) (.slice B.wa B.wn B.wc) (.slice B.xa B.xn B.xc) (.int .i64 E.ac) (.int .i64 E.cz) (.slice B.la B.ln B.lc) (.int .i64 E.dv) (.slice B.oa B.on B.oc) (.slice B.ga B.gn B.gc) ⟨_, c11_⟩
  have r12 := set13_at12 _ _ (.int .i64 0) (.int .i64 0) (.slice B.a B.n B.c) (.slice B.ta B.tn B.tc) (.slice B.da B.dn B.dc) (.slice B.wa B.wn B.wc) (.slice B.xa B.xn B.xc) (.int .i64 E.ac) (.int .i64 E.cz) (.slice B.la B.ln B.lc) (.int .i64 E.dv) (.slice B.oa B.on B.oc) (.slice B.ga B.gn B.gc) ⟨_, c12_⟩
  refine bodyPost_ret (v := .agg #[.int .i64 0, .int .i64 0, .slice B.a B.n B.c, .slice B.ta B.tn B.tc, .slice B.da B.dn B.dc, .slice B.wa B.wn B.wc, .slice B.xa B.xn B.xc, .int .i64 E.ac, .int .i64 E.cz, .slice B.la B.ln B.lc, .int .i64 E.dv, .slice B.oa B.on B.oc, .slice B.ga B.gn B.gc]) (by simp [results, Tryz.results65, go_sem, r0, r1, r2, r3, r4, r5, r6, r7, r8, r9, r10, r11, r12]) rfl ⟨B, by rw [← HE.out], ?_, HB.out⟩
  rw [← HE.out]
  exact HO.out.mono (fun q hq => ⟨by have := hq.1; omega, by simpa using hq.2⟩)

end Go.Proofs.YtcojgmecocjnkaaGreat
