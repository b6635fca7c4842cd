import Derived.Test.YtcojgmecocjnkaaGreatG27
import Derived.Test.YtcojgmecocjnkaaGreatG17
import Derived.Test.YtcojgmecocjnkaaGreatG34
import Derived.WalkKit
import Derived.ProofKit
import Derived.OpenShut
import Derived.ShutString
import Derived.ChangeOld
import Derived.Below
import Derived.WalkSpells
import Derived.Deep.QuietTactic
import Derived.BigQuiet
import Derived.Deep.RegionWith
import Derived.Deep.WholeRow
import Derived.Deep.DeepCutAuto
import Derived.Deep.RegionHeld2
import Derived.Deep.AppendLies
import Derived.Deep.RegionLaw
namespace Go.Proofs.YtcojgmecocjnkaaGreat
open Go.ChangeShapes Go.WideShapes Go.ChangeAt Go.RowKit

set_option maxRecDepth 100000 in
set_option maxHeartbeats 4000000 in
theorem l8Gate_calls (P : Nat) (S : Nat → Prop) (A : SA) (D : SD) (k : Nat) (g v : Int) (w : World) (hy : YM P 0 S A D w) (H : SysR A D k) (hS : ∀ q, S q → q < w.heap.size) :
    Calls Tryz.prog 64 #[.pointer (some ⟨P, 0, none⟩), .int .i64 g, .int .i64 v] w fun e w' => e = .returned (.tuple #[]) ∧ YM P 0 S A (gtD D g v) w' ∧ OutS S w w' := by
  have hr := hy.y.oy.rs
  obtain ⟨k0, k1, k2, k3, k4, k5, k6, k7⟩ := hr.len
  have x10 := hy.cs.cell 10 rfl
  simp only [Nat.zero_add] at x10
  have hg3 : (A.gn : Int) ≤ 3 := by have := H.g3; omega
  have hPl := hy.lt
  cases hu : up g ((A.gn : Int) - 1) with
  | false =>
    have HD : Hid (gtD D g v = D) := by show _ = _; unfold gtD gtO; rw [k7, hu]; rfl
    have HY := hide hy
    clear hy hr H hS
    go_enter Tryz.func64, Tryz.ntmps64
    go_wp2_with (go_at_call 132; with_reducible refine (inUp_is _ _ _ _ hu).mono ?_; rintro e w' ⟨rfl, hw'⟩; rw [hw']; clear hw' w')
    refine bodyPost_ret (v := .tuple #[]) (by simp [results, Tryz.results64, go_sem]) rfl ⟨rfl, ?_, OutS.refl _ _⟩
    rw [HD.out]
    exact HY.out
  | true =>
  cases hv : up v 65535 with
  | false =>
    have HD : Hid (gtD D g v = D) := by show _ = _; unfold gtD gtO; rw [k7, hu, hv]; rfl
    have HY := hide hy
    clear hy hr H hS
    go_enter Tryz.func64, Tryz.ntmps64
    go_wp2_with (first | (go_at_call 132; with_reducible refine (inUp_is _ _ _ _ hu).mono ?_; rintro e w' ⟨rfl, hw'⟩; rw [hw']; clear hw' w') | (go_at_call 132; with_reducible refine (inUp_is _ _ _ _ hv).mono ?_; rintro e w' ⟨rfl, hw'⟩; rw [hw']; clear hw' w'))
    refine bodyPost_ret (v := .tuple #[]) (by simp [results, Tryz.results64, go_sem]) rfl ⟨rfl, ?_, OutS.refl _ _⟩
    rw [HD.out]
    exact HY.out
  | true =>
  have hux := up_iff.1 hu
  obtain ⟨j, rfl⟩ : ∃ j : Nat, g = (j : Int) := ⟨g.toNat, by omega⟩
  have hj : j < A.gn := by omega
  obtain ⟨g1, g2, g3, g4⟩ := H.gg j hj
  obtain ⟨d, hd⟩ : ∃ d : Nat, (gw D.gs j).1 = (d : Int) := ⟨(gw D.gs j).1.toNat, by omega⟩
  have hdn : d < A.dn := by omega
  have hdx : d < A.xn := by have := H.xd; omega
  obtain ⟨bg, og, hga, hbg, hcg⟩ := hr.gs.2 (by omega)
  obtain ⟨f0, f1⟩ := gt_flw D.gs j
  have p0 := hcg (j * 2) (by omega)
  have p1 := hcg (j * 2 + 1) (by omega)
  rw [f0, hd] at p0
  rw [f1, ← Nat.add_assoc] at p1
  obtain ⟨en, hen⟩ : ∃ x, x = (gw D.gs j).2 := ⟨_, rfl⟩
  rw [← hen] at p1
  have x0 := hy.cs.cell 0 rfl
  have x2 := hy.cs.cell 2 rfl
  have x4 := hy.cs.cell 4 rfl
  have x5 := hy.cs.cell 5 rfl
  simp only [Nat.zero_add] at x0 x2 x4 x5
  rw [H.ac] at x5
  rw [hga] at x10
  have i0 : (0 : Int) ≤ (j : Int) := by omega
  have i1 : (j : Int) < (A.gn : Int) := by omega
  have HO : Hid (gtO D (j : Int) v = belowB (atL D.ss (gt D.ds k)) (atL D.ss (gt D.ds d))) := by
    show _ = _
    unfold gtO dmL
    rw [k7, hu, hv, H.ac]
    simp only [Int.toNat_natCast, hd, Bool.and_self, Bool.true_and]
  have lx := fault_len (atL_right H.good H.sd (j := k) (by have := H.hk; omega))
  have ly := fault_len (atL_right H.good H.sd (j := d) (by omega))
  have M0 := (Mm.start w).alloc2 (.int .i64 (d : Int)) (.int .i64 en) 138
  have h8 := (H.cx d hdn).1
  obtain ⟨N, _, _, ea, _, _, _, _, _, _, _, _, _, _, _, _⟩ := hy.ctx3 hdx h8
  rw [ea] at x4
  have gd := H.good
  have hsd := H.sd
  have hd4 := H.d4
  have hkk := H.hk
  have HD : Hid (belowB (atL D.ss (gt D.ds k)) (atL D.ss (gt D.ds d)) = true → gtD D (j : Int) v = { D with cs := D.cs.set d ((gx D.cs d).1.set 1 v, en, false) }) := fun hb => by
    unfold gtD
    rw [if_pos (HO.out.trans hb)]
    simp only [Int.toNat_natCast, hd, hen]
  have HN : Hid (belowB (atL D.ss (gt D.ds k)) (atL D.ss (gt D.ds d)) = false → gtD D (j : Int) v = D) := fun hb => by
    unfold gtD
    rw [if_neg (by rw [HO.out, hb]; simp)]
  obtain ⟨_, sx0, _, _, _, sd0⟩ := hr.rt
  have HY := hide hy
  clear hy H hcg hux g1 g2 g3 g4 hr hen f0 f1
  go_enter Tryz.func64, Tryz.ntmps64
  go_upto_region 2 with (first | (go_at_call 132; with_reducible refine (inUp_is _ _ _ _ hu).mono ?_; rintro e w' ⟨rfl, hw'⟩; rw [hw']; clear hw' w') | (go_at_call 132; with_reducible refine (inUp_is _ _ _ _ hv).mono ?_; rintro e w' ⟨rfl, hw'⟩; rw [hw']; clear hw' w'))
  obtain ⟨W, hW⟩ : ∃ x, x = w.alloc (.cells #[.int .i64 (d : Int), .int .i64 en] 138) := ⟨_, rfl⟩
  rw [← hW] at M0 ⊢
  have hWs : W.heap.size = w.heap.size + 1 := by rw [hW]; simp
  clear hW x10 p0 p1
  have BW := M0.bel
  have c0 := (BW.cell (p := ⟨P, 0, none⟩) hPl).trans x0
  have c2 := (BW.cell (p := ⟨P, 2, none⟩) hPl).trans x2
  have c5 := (BW.cell (p := ⟨P, 5, none⟩) hPl).trans x5
  have cg := M0.cell 0 rfl
  have cg1 := M0.cell 1 rfl
  have lt0 : P < W.heap.size := by omega
  have lt1 : w.heap.size < W.heap.size := by omega
  have sx := sx0.below BW (Nat.le_refl _)
  have sd := sd0.below BW (Nat.le_refl _)
  have HS0 : Hid (W.drew.cell? ⟨P, 0, none⟩ = some (.slice A.a A.n A.c) ∧ W.drew.cell? ⟨P, 2, none⟩ = some (.slice A.da A.dn A.dc) ∧ W.drew.cell? ⟨P, 5, none⟩ = some (.int .i64 (k : Int)) ∧ W.drew.cell? ⟨w.heap.size, 0, none⟩ = some (.int .i64 (d : Int)) ∧ Below W.heap.size W W.drew) := ⟨c0, c2, c5, cg, (Below.refl _ _).drew⟩
  clear x0 x2 x5 c0 c2 c5 cg sx0 sd0 M0
  cases hbb : belowB (atL D.ss (gt D.ds k)) (atL D.ss (gt D.ds d)) with
  | false =>
    go_region_held2 (fun W' => W'.cell? ⟨P, 0, none⟩ = some (.slice A.a A.n A.c) ∧ W'.cell? ⟨P, 2, none⟩ = some (.slice A.da A.dn A.dc) ∧ W'.cell? ⟨P, 5, none⟩ = some (.int .i64 (k : Int)) ∧ W'.cell? ⟨w.heap.size, 0, none⟩ = some (.int .i64 (d : Int)) ∧ Below W.heap.size W W')
     (first | with_reducible exact HS0.out | with_reducible assumption)
     (first
      | (go_at_call 139; (with_reducible refine (l3Domain_calls P A.a A.n A.c D.ss A.da A.dn A.dc D.ds k _ gd (by omega) (And.left (by with_reducible assumption)) (And.left (And.right (by with_reducible assumption))) (sx.below (q4_bel (by with_reducible assumption)) (Nat.le_refl _)) (sd.below (q4_bel (by with_reducible assumption)) (Nat.le_refl _)) hsd hkk).mono ?_); rintro e wa ⟨b1, o1, la1, ll1, lc1, rfl, hb1, cb1, _, sb1, ga⟩; have hsa := q4_below lt0 lt0 lt0 lt1 (by with_reducible assumption) ga; have cb1a := (ga.cell (p := ⟨b1, o1, none⟩) hb1).trans cb1; have sb1a := sb1.below ga (Nat.le_refl _); have hb1a := Nat.lt_of_lt_of_le hb1 ga.size; obtain rfl : ll1 = 4 := (by have := sb1.1; omega); clear ga cb1 sb1 hb1)
      | (go_at_call 139; (with_reducible refine (l3Domain_calls P A.a A.n A.c D.ss A.da A.dn A.dc D.ds d _ gd (by omega) (And.left (by with_reducible assumption)) (And.left (And.right (by with_reducible assumption))) (sx.below (q4_bel (by with_reducible assumption)) (Nat.le_refl _)) (sd.below (q4_bel (by with_reducible assumption)) (Nat.le_refl _)) hsd hdn).mono ?_); rintro e wb ⟨b2, o2, la2, ll2, lc2, rfl, hb2, cb2, _, sb2, ga⟩; have hsb := q4_below lt0 lt0 lt0 lt1 (by with_reducible assumption) ga; have cb2a := (ga.cell (p := ⟨b2, o2, none⟩) hb2).trans cb2; have sb2a := sb2.below ga (Nat.le_refl _); have hb2a := Nat.lt_of_lt_of_le hb2 ga.size; obtain rfl : ll2 = 4 := (by have := sb2.1; omega); have cb1b := (ga.cell (p := ⟨b1, o1, none⟩) hb1a).trans cb1a; have sb1b := sb1a.below ga (Nat.le_refl _); have hb1b := Nat.lt_of_lt_of_le hb1a ga.size; clear ga cb2 sb2 hb2)
      | (go_at_call 138; refine (l1BelowO_calls b1 o1 b2 o2 la1 la2 lc1 lc2 _ _ _ hb1b hb2a cb1b cb2a sb1b sb2a).mono ?_; rintro e wc ⟨rfl, ga⟩; rw [hbb]; have hsc := q4_below lt0 lt0 lt0 lt1 (by with_reducible assumption) ga; clear ga))
    all_goals (
      have B3 := BW.trans ((q4_bel hsc).mono (by omega))
      have z3 := B3.size
      have Y3 := hide (HY.out.below B3)
      go_wp2
      refine bodyPost_ret (v := .tuple #[]) (by simp [results, Tryz.results64, go_sem]) rfl ⟨rfl, ?_, OutS.of_below B3⟩
      rw [HN.out hbb]
      exact Y3.out)
  | true =>
    go_region_held2 (fun W' => W'.cell? ⟨P, 0, none⟩ = some (.slice A.a A.n A.c) ∧ W'.cell? ⟨P, 2, none⟩ = some (.slice A.da A.dn A.dc) ∧ W'.cell? ⟨P, 5, none⟩ = some (.int .i64 (k : Int)) ∧ W'.cell? ⟨w.heap.size, 0, none⟩ = some (.int .i64 (d : Int)) ∧ Below W.heap.size W W')
     (first | with_reducible exact HS0.out | with_reducible assumption)
     (first
      | (go_at_call 139; (with_reducible refine (l3Domain_calls P A.a A.n A.c D.ss A.da A.dn A.dc D.ds k _ gd (by omega) (And.left (by with_reducible assumption)) (And.left (And.right (by with_reducible assumption))) (sx.below (q4_bel (by with_reducible assumption)) (Nat.le_refl _)) (sd.below (q4_bel (by with_reducible assumption)) (Nat.le_refl _)) hsd hkk).mono ?_); rintro e wa ⟨b1, o1, la1, ll1, lc1, rfl, hb1, cb1, _, sb1, ga⟩; have hsa := q4_below lt0 lt0 lt0 lt1 (by with_reducible assumption) ga; have cb1a := (ga.cell (p := ⟨b1, o1, none⟩) hb1).trans cb1; have sb1a := sb1.below ga (Nat.le_refl _); have hb1a := Nat.lt_of_lt_of_le hb1 ga.size; obtain rfl : ll1 = 4 := (by have := sb1.1; omega); clear ga cb1 sb1 hb1)
      | (go_at_call 139; (with_reducible refine (l3Domain_calls P A.a A.n A.c D.ss A.da A.dn A.dc D.ds d _ gd (by omega) (And.left (by with_reducible assumption)) (And.left (And.right (by with_reducible assumption))) (sx.below (q4_bel (by with_reducible assumption)) (Nat.le_refl _)) (sd.below (q4_bel (by with_reducible assumption)) (Nat.le_refl _)) hsd hdn).mono ?_); rintro e wb ⟨b2, o2, la2, ll2, lc2, rfl, hb2, cb2, _, sb2, ga⟩; have hsb := q4_below lt0 lt0 lt0 lt1 (by with_reducible assumption) ga; have cb2a := (ga.cell (p := ⟨b2, o2, none⟩) hb2).trans cb2; have sb2a := sb2.below ga (Nat.le_refl _); have hb2a := Nat.lt_of_lt_of_le hb2 ga.size; obtain rfl : ll2 = 4 := (by have := sb2.1; omega); have cb1b := (ga.cell (p := ⟨b1, o1, none⟩) hb1a).trans cb1a; have sb1b := sb1a.below ga (Nat.le_refl _); have hb1b := Nat.lt_of_lt_of_le hb1a ga.size; clear ga cb2 sb2 hb2)
      | (go_at_call 138; refine (l1BelowO_calls b1 o1 b2 o2 la1 la2 lc1 lc2 _ _ _ hb1b hb2a cb1b cb2a sb1b sb2a).mono ?_; rintro e wc ⟨rfl, ga⟩; rw [hbb]; have hsc := q4_below lt0 lt0 lt0 lt1 (by with_reducible assumption) ga; clear ga))
    all_goals (
      have B3 := BW.trans ((q4_bel hsc).mono (by omega))
      have z3 := B3.size
      have x4' := (B3.cell (p := ⟨P, 4, none⟩) hPl).trans x4
      have cg' := hsc.2.2.2.1
      have ch' := ((q4_bel hsc).cell (p := ⟨w.heap.size, 1, none⟩) lt1).trans cg1
      have d0 : (0 : Int) ≤ (d : Int) := by omega
      have d1 : (d : Int) < (A.xn : Int) := by omega
      have HSC := hide hsc
      clear hsa hsb hsc cb1a sb1a cb2a sb2a cb1b sb1b x4 cg1
      go_wp2_with fail
      go_quiet (fail)
      obtain ⟨u, hu'⟩ : ∃ u, u = wc.drewN nq := ⟨_, rfl⟩
      have B4 : Below w.heap.size w u := by rw [hu']; exact bdrewN B3 nq
      have ch : u.cell? ⟨w.heap.size, 1, none⟩ = some (.int .i64 en) := by rw [hu']; simpa using ch'
      rw [← hu']
      clear hu' x4' cg' ch'
      obtain ⟨N', b, lc, ea', sN, sb, ne, nP, bP, e0, e1, e2, fN, fb, rg, f3⟩ := (HY.out.below B4).ctx3 hdx h8
      obtain rfl : N = N' := by have := ea.symm.trans ea'; simpa using this
      have lN := hS N sN
      have lb := hS b sb
      have nG1 : ¬ b = w.heap.size := by omega
      have nG2 : ¬ N = w.heap.size := by omega
      have r1 := rg 1 (by omega)
      have q1 := fb 1
      have q2 := fN (d * 3 + 1)
      have q3 := fN (d * 3 + 2)
      have HF := hide (f3 v en false)
      have HU := hide ((((OutS.of_below (S := S) B4).setCell (p := ⟨b, 1, none⟩) (by exact sb) (.int .i64 v)).setCell (p := ⟨N, d * 3 + 1, none⟩) (by exact sN) (.int .i64 en)).setCell (p := ⟨N, d * 3 + 2, none⟩) (by exact sN) (.bool false))
      clear f3 rg fb fN
      go_wp2
      refine bodyPost_end (v := .tuple #[]) (by simp [results, Tryz.results64, go_sem]) rfl ⟨rfl, ?_, HU.out⟩
      rw [HD.out hbb]
      exact HF.out)

theorem l8Gate_gen (P : Nat) (S : Nat → Prop) (A : SA) (D : SD) (k : Nat) (g v : Int) (w : World) (hy : YM P 0 S A D w) (H : SysR A D k) (hS : ∀ q, S q → q < w.heap.size) :
    Calls Tryz.prog 64 #[.pointer (some ⟨P, 0, none⟩), .int .i64 g, .int .i64 v] w fun e w' => e = .returned (.tuple #[]) ∧ (∃ B, YM P 0 (fun q => S q ∨ (w.heap.size ≤ q ∧ q < w'.heap.size)) B (gtD D g v) w') ∧ OutS (fun q => S q ∨ q = P) w w' :=
  (l8Gate_calls P S A D k g v w hy H hS).mono (fun _ _ h => ⟨h.1, ⟨A, h.2.1.mono (fun _ e => .inl e) (fun e => by rcases e with e | e; exact hy.ns e; have := hy.lt; omega)⟩, h.2.2.mono (fun _ e => .inl e)⟩)

set_option maxRecDepth 100000 in
theorem l8Bad_calls (c : Int) (w : World) : Calls Tryz.prog 58 #[.int .i64 c] w fun e w' => e = .returned (.agg #[.int .i64 c, .int .i64 0, .slice none 0 0, .slice none 0 0, .slice none 0 0, .slice none 0 0, .slice none 0 0, .int .i64 0, .int .i64 0, .slice none 0 0, .int .i64 0, .slice none 0 0, .slice none 0 0]) ∧ Below w.heap.size w w' := by
  go_enter Tryz.func58, Tryz.ntmps58
  go_wp2
  exact bodyPost_ret (v := .agg #[.int .i64 c, .int .i64 0, .slice none 0 0, .slice none 0 0, .slice none 0 0, .slice none 0 0, .slice none 0 0, .int .i64 0, .int .i64 0, .slice none 0 0, .int .i64 0, .slice none 0 0, .slice none 0 0]) (by simp [results, Tryz.results58, go_sem]) rfl ⟨rfl, (Below.refl _ _).alloc (Nat.le_refl _) _⟩

set_option maxRecDepth 100000 in
set_option maxHeartbeats 4000000 in
theorem specEnterGate_calls (A : SA) (D : SD) (g v : Int) (w : World) (hr : RS w A D) (_ : A.ln ≤ A.lc) (hz : szY A D ≤ 1048576) :
    Calls Tryz.prog 24 #[.agg #[.slice A.a A.n A.c, .slice A.ta A.tn A.tc, .slice A.da A.dn A.dc, .slice A.wa A.wn A.wc, .slice A.xa A.xn A.xc, .int .i64 D.ac, .int .i64 D.cz, .slice A.la A.ln A.lc, .int .i64 D.dv, .slice A.oa A.on A.oc, .slice A.ga A.gn A.gc], .int .i64 g, .int .i64 v] w fun e w' => ∃ B : SA, e = .returned (.agg #[.int .i64 (sysF D), .int .i64 (0), .slice B.a B.n B.c, .slice B.ta B.tn B.tc, .slice B.da B.dn B.dc, .slice B.wa B.wn B.wc, .slice B.xa B.xn B.xc, .int .i64 (egD D g v).ac, .int .i64 (egD D g v).cz, .slice B.la B.ln B.lc, .int .i64 (egD D g v).dv, .slice B.oa B.on B.oc, .slice B.ga B.gn B.gc]) ∧ OY (InR w.heap.size w'.heap.size) B (egD D g v) w' ∧ Below w.heap.size w w' := by
  have M0 := ((Mm.start w).allocC [.slice A.a A.n A.c, .slice A.ta A.tn A.tc, .slice A.da A.dn A.dc, .slice A.wa A.wn A.wc, .slice A.xa A.xn A.xc, .int .i64 D.ac, .int .i64 D.cz, .slice A.la A.ln A.lc, .int .i64 D.dv, .slice A.oa A.on A.oc, .slice A.ga A.gn A.gc] 53).allocC [.int .i64 0, .int .i64 0, .slice none 0 0, .slice none 0 0, .slice none 0 0, .slice none 0 0, .slice none 0 0, .int .i64 0, .int .i64 0, .slice none 0 0, .int .i64 0, .slice none 0 0, .slice none 0 0] 64
  simp only [World.size_alloc] at M0
  go_enter Tryz.func24, Tryz.ntmps24
  go_wp2_with fail
  refine (l7Fault_calls w.heap.size A D _ (M0.get 1 rfl) (hr.below M0.bel (Nat.le_refl _))).mono ?_
  rintro e w1 ⟨rfl, g1⟩
  have M1 := M0.below g1
  have z1 : w.heap.size + 2 ≤ w1.heap.size := by have := g1.size; simpa using this
  clear g1 M0
  by_cases hf : sysF D = 0
  rotate_left
  · have HC := hide (egD_bad (D := D) (g := g) (v := v) hf)
    have hne : (sysF D != 0) = true := by simpa using hf
    clear hf
    go_wp2_with fail
    refine (l8Bad_calls (sysF D) _).mono ?_
    rintro e w2 ⟨rfl, g2⟩
    have M2 := M1.below g2
    clear g2 M1
    have c0 := (M2.get 0 rfl).cell 0 rfl
    have f0 := (M2.get 0 rfl).fz 0 (by simp)
    have c1 := (M2.get 0 rfl).cell 1 rfl
    have f1 := (M2.get 0 rfl).fz 1 (by simp)
    have c2 := (M2.get 0 rfl).cell 2 rfl
    have f2 := (M2.get 0 rfl).fz 2 (by simp)
    have c3 := (M2.get 0 rfl).cell 3 rfl
    have f3 := (M2.get 0 rfl).fz 3 (by simp)
    have c4 := (M2.get 0 rfl).cell 4 rfl
    have f4 := (M2.get 0 rfl).fz 4 (by simp)
    have c5 := (M2.get 0 rfl).cell 5 rfl
    have f5 := (M2.get 0 rfl).fz 5 (by simp)
    have c6 := (M2.get 0 rfl).cell 6 rfl
    have f6 := (M2.get 0 rfl).fz 6 (by simp)
    have c7 := (M2.get 0 rfl).cell 7 rfl
    have f7 := (M2.get 0 rfl).fz 7 (by simp)
    have c8 := (M2.get 0 rfl).cell 8 rfl
    have f8 := (M2.get 0 rfl).fz 8 (by simp)
    have c9 := (M2.get 0 rfl).cell 9 rfl
    have f9 := (M2.get 0 rfl).fz 9 (by simp)
    have c10 := (M2.get 0 rfl).cell 10 rfl
    have f10 := (M2.get 0 rfl).fz 10 (by simp)
    have c11 := (M2.get 0 rfl).cell 11 rfl
    have f11 := (M2.get 0 rfl).fz 11 (by simp)
    have c12 := (M2.get 0 rfl).cell 12 rfl
    have f12 := (M2.get 0 rfl).fz 12 (by simp)
    have HB := hide (below_set13 M2.bel (P := w.heap.size + 1) (by omega) (.int .i64 (sysF D)) (.int .i64 0) (.slice none 0 0) (.slice none 0 0) (.slice none 0 0) (.slice none 0 0) (.slice none 0 0) (.int .i64 0) (.int .i64 0) (.slice none 0 0) (.int .i64 0) (.slice none 0 0) (.slice none 0 0))
    clear M2
    go_wp2
    have r0 := set13_at0 _ _ (.int .i64 (sysF D)) (.int .i64 0) (.slice none 0 0) (.slice none 0 0) (.slice none 0 0) (.slice none 0 0) (.slice none 0 0) (.int .i64 0) (.int .i64 0) (.slice none 0 0) (.int .i64 0) (.slice none 0 0) (.slice none 0 0) ⟨_, c0⟩
    have r1 := set13_at1 _ _ (.int .i64 (sysF D)) (.int .i64 0) (.slice none 0 0) (.slice none 0 0) (.slice none 0 0) (.slice none 0 0) (.slice none 0 0) (.int .i64 0) (.int .i64 0) (.slice none 0 0) (.int .i64 0) (.slice none 0 0) (.slice none 0 0) ⟨_, c1⟩
    have r2 := set13_at2 _ _ (.int .i64 (sysF D)) (.int .i64 0) (.slice none 0 0) (.slice none 0 0) (.slice none 0 0) (.slice none 0 0) (.slice none 0 0) (.int .i64 0) (.int .i64 0) (.slice none 0 0) (.int .i64 0) (.slice none 0 0) (.slice none 0 0) ⟨_, c2⟩
    have r3 := set13_at3 _ _ (.int .i64 (sysF D)) (.int .i64 0) (.slice none 0 0) (.slice none 0 0) (.slice none 0 0) (.slice none 0 0) (.slice none 0 0) (.int .i64 0) (.int .i64 0) (.slice none 0 0) (.int .i64 0) (.slice none 0 0) (.slice none 0 0) ⟨_, c3⟩
    have r4 := set13_at4 _ _ (.int .i64 (sysF D)) (.int .i64 0) (.slice none 0 0) (.slice none 0 0) (.slice none 0 0) (.slice none 0 0) (.slice none 0 0) (.int .i64 0) (.int .i64 0) (.slice none 0 0) (.int .i64 0) (.slice none 0 0) (.slice none 0 0) ⟨_, c4⟩
    have r5 := set13_at5 _ _ (.int .i64 (sysF D)) (.int .i64 0) (.slice none 0 0) (.slice none 0 0) (.slice none 0 0) (.slice none 0 0) (.slice none 0 0) (.int .i64 0) (.int .i64 0) (.slice none 0 0) (.int .i64 0) (.slice none 0 0) (.slice none 0 0) ⟨_, c5⟩
    have r6 := set13_at6 _ _ (.int .i64 (sysF D)) (.int .i64 0) (.slice none 0 0) (.slice none 0 0) (.slice none 0 0) (.slice none 0 0) (.slice none 0 0) (.int .i64 0) (.int .i64 0) (.slice none 0 0) (.int .i64 0) (.slice none 0 0) (.slice none 0 0) ⟨_, c6⟩
    have r7 := set13_at7 _ _ (.int .i64 (sysF D)) (.int .i64 0) (.slice none 0 0) (.slice none 0 0) (.slice none 0 0) (.slice none 0 0) (.slice none 0 0) (.int .i64 0) (.int .i64 0) (.slice none 0 0) (.int .i64 0) (.slice none 0 0) (.slice none 0 0) ⟨_, c7⟩
    have r8 := set13_at8 _ _ (.int .i64 (sysF D)) (.int .i64 0) (.slice none 0 0) (.slice none 0 0) (.slice none 0 0) (.slice none 0 0) (.slice none 0 0) (.int .i64 0) (.int .i64 0) (.slice none 0 0) (.int .i64 0) (.slice none 0 0) (.slice none 0 0) ⟨_, c8⟩
    have r9 := set13_at9 _ _ (.int .i64 (sysF D)) (.int .i64 0) (.slice none 0 0) (.slice none 0 0) (.slice none 0 0) (.slice none 0 0) (.slice none 0 0) (.int .i64 0) (.int .i64 0) (.slice none 0 0) (.int .i64 0) (.slice none 0 0) (.slice none 0 0) ⟨_, c9⟩
    have r10 := set13_at10 _ _ (.int .i64 (sysF D)) (.int .i64 0) (.slice none 0 0) (.slice none 0 0) (.slice none 0 0) (.slice none 0 0) (.slice none 0 0) (.int .i64 0) (.int .i64 0) (.slice none 0 0) (.int .i64 0) (.slice none 0 0) (.slice none 0 0) ⟨_, c10⟩
    have r11 := set13_at11 _ _ (.int .i64 (sysF D)) (.int .i64 0) (.slice none 0 0) (.slice none 0 0) (.slice none 0 0) (.slice none 0 0) (.slice none 0 0) (.int .i64 0) (.int .i64 0) (.slice none 0 0) (.int .i64 0) (.slice none 0 0) (.slice none 0 0) ⟨_, c11⟩
    have r12 := set13_at12 _ _ (.int .i64 (sysF D)) (.int .i64 0) (.slice none 0 0) (.slice none 0 0) (.slice none 0 0) (.slice none 0 0) (.slice none 0 0) (.int .i64 0) (.int .i64 0) (.slice none 0 0) (.int .i64 0) (.slice none 0 0) (.slice none 0 0) ⟨_, c12⟩
    refine bodyPost_ret (v := .agg #[.int .i64 (sysF D), .int .i64 0, .slice none 0 0, .slice none 0 0, .slice none 0 0, .slice none 0 0, .slice none 0 0, .int .i64 0, .int .i64 0, .slice none 0 0, .int .i64 0, .slice none 0 0, .slice none 0 0]) (by simp [results, Tryz.results24, go_sem, r0, r1, r2, r3, r4, r5, r6, r7, r8, r9, r10, r11, r12]) rfl ⟨zeroA, ?_, ?_, HB.out⟩
    · rw [HC.out]; rfl
    · rw [HC.out]; exact OY.zero _ _
  have HC := hide (egD_ok (D := D) (g := g) (v := v) hf)
  obtain ⟨k, H⟩ := hr.right hf
  have Hf := hide hf
  have hne : (sysF D != 0) = false := by simp [hf]
  have a0 := (M1.get 1 rfl).cell 0 rfl
  have a1 := (M1.get 1 rfl).cell 1 rfl
  have a2 := (M1.get 1 rfl).cell 2 rfl
  have a3 := (M1.get 1 rfl).cell 3 rfl
  have a4 := (M1.get 1 rfl).cell 4 rfl
  have a5 := (M1.get 1 rfl).cell 5 rfl
  have a6 := (M1.get 1 rfl).cell 6 rfl
  have a7 := (M1.get 1 rfl).cell 7 rfl
  have a8 := (M1.get 1 rfl).cell 8 rfl
  have a9 := (M1.get 1 rfl).cell 9 rfl
  have a10 := (M1.get 1 rfl).cell 10 rfl
  have HR := hide hr
  clear hf hr
  go_wp2_with fail
  refine (l7Copy_O A D _ hz (HR.out.below M1.bel (Nat.le_refl _))).mono ?_
  rintro e w2 ⟨B, rfl, oy, g2⟩
  have z2 := g2.size
  have M2 := M1.below g2
  obtain ⟨u, hu⟩ : ∃ x, x = w2.alloc (.cells #[.slice B.a B.n B.c, .slice B.ta B.tn B.tc, .slice B.da B.dn B.dc, .slice B.wa B.wn B.wc, .slice B.xa B.xn B.xc, .int .i64 D.ac, .int .i64 D.cz, .slice B.la B.ln B.lc, .int .i64 D.dv, .slice B.oa B.on B.oc, .slice B.ga B.gn B.gc] 53) := ⟨_, rfl⟩
  have al : Below w2.heap.size w2 u := by rw [hu]; exact (Below.refl _ _).alloc (Nat.le_refl _) _
  have zu : u.heap.size = w2.heap.size + 1 := by rw [hu]; simp
  have Y0 : YM w2.heap.size 0 (InR w1.heap.size w2.heap.size) B D u := ⟨CsO.ofCs (by rw [hu]; exact Cs.alloc w2 [.slice B.a B.n B.c, .slice B.ta B.tn B.tc, .slice B.da B.dn B.dc, .slice B.wa B.wn B.wc, .slice B.xa B.xn B.xc, .int .i64 D.ac, .int .i64 D.cz, .slice B.la B.ln B.lc, .int .i64 D.dv, .slice B.oa B.on B.oc, .slice B.ga B.gn B.gc] _), fun j => by rw [hu]; simp, fun h => by have := h.2; omega, by omega, OYR.loc.below al oy⟩
  have M3 := M2.below al
  have Hu := hide hu
  clear M1 M2 g2 oy hu a0 a1 a2 a3 a4 a5 a6 a7 a8 a9 a10
  go_wp2_with fail
  rw [← Hu.out]
  refine (l8Gate_gen _ _ B D k g v _ Y0 (H.move HR.out Y0.y.oy.rs) (fun q hq => by have := hq.2; omega)).mono ?_
  rintro e w3 ⟨rfl, ⟨B2, y3⟩, ho⟩
  have z3 := ho.size
  have M4 := (M3.out (B := w1.heap.size) (T := w2.heap.size + 1) (ho.mono (fun q hq => by rcases hq with hq | hq; exact ⟨hq.1, by have := hq.2; omega⟩; subst hq; exact ⟨by omega, by omega⟩)) (by omega) (by simp) (by simp; omega)).fact OY.loc (B := w1.heap.size) (T := w3.heap.size) (y3.y.oy.mono (fun q hq => by rcases hq with hq | hq; exact ⟨hq.1, by have := hq.2; omega⟩; exact ⟨by have := hq.1; omega, hq.2⟩))
  obtain ⟨E, hE⟩ : ∃ x, x = gtD D g v := ⟨_, rfl⟩
  rw [← hE] at y3 M4
  have HE := hide hE
  have a0 := y3.cs.cell 0 rfl
  have a1 := y3.cs.cell 1 rfl
  have a2 := y3.cs.cell 2 rfl
  have a3 := y3.cs.cell 3 rfl
  have a4 := y3.cs.cell 4 rfl
  have a5 := y3.cs.cell 5 rfl
  have a6 := y3.cs.cell 6 rfl
  have a7 := y3.cs.cell 7 rfl
  have a8 := y3.cs.cell 8 rfl
  have a9 := y3.cs.cell 9 rfl
  have a10 := y3.cs.cell 10 rfl
  simp only [Nat.zero_add] at a0 a1 a2 a3 a4 a5 a6 a7 a8 a9 a10
  have c0 := (M4.get 1 rfl).cell 0 rfl
  have f0 := (M4.get 1 rfl).fz 0 (by simp)
  have c1 := (M4.get 1 rfl).cell 1 rfl
  have f1 := (M4.get 1 rfl).fz 1 (by simp)
  have c2 := (M4.get 1 rfl).cell 2 rfl
  have f2 := (M4.get 1 rfl).fz 2 (by simp)
  have c3 := (M4.get 1 rfl).cell 3 rfl
  have f3 := (M4.get 1 rfl).fz 3 (by simp)
  have c4 := (M4.get 1 rfl).cell 4 rfl
  have f4 := (M4.get 1 rfl).fz 4 (by simp)
  have c5 := (M4.get 1 rfl).cell 5 rfl
  have f5 := (M4.get 1 rfl).fz 5 (by simp)
  have c6 := (M4.get 1 rfl).cell 6 rfl
  have f6 := (M4.get 1 rfl).fz 6 (by simp)
  have c7 := (M4.get 1 rfl).cell 7 rfl
  have f7 := (M4.get 1 rfl).fz 7 (by simp)
  have c8 := (M4.get 1 rfl).cell 8 rfl
  have f8 := (M4.get 1 rfl).fz 8 (by simp)
  have c9 := (M4.get 1 rfl).cell 9 rfl
  have f9 := (M4.get 1 rfl).fz 9 (by simp)
  have c10 := (M4.get 1 rfl).cell 10 rfl
  have f10 := (M4.get 1 rfl).fz 10 (by simp)
  have c11 := (M4.get 1 rfl).cell 11 rfl
  have f11 := (M4.get 1 rfl).fz 11 (by simp)
  have c12 := (M4.get 1 rfl).cell 12 rfl
  have f12 := (M4.get 1 rfl).fz 12 (by simp)
  have HB := hide (below_set13 M4.bel (P := w.heap.size + 1) (by omega) (.int .i64 0) (.int .i64 0) (.slice B2.a B2.n B2.c) (.slice B2.ta B2.tn B2.tc) (.slice B2.da B2.dn B2.dc) (.slice B2.wa B2.wn B2.wc) (.slice B2.xa B2.xn B2.xc) (.int .i64 E.ac) (.int .i64 E.cz) (.slice B2.la B2.ln B2.lc) (.int .i64 E.dv) (.slice B2.oa B2.on B2.oc) (.slice B2.ga B2.gn B2.gc))
  have HO := hide (loc_set13 OY.loc (M4.get 0 rfl) (P := w.heap.size + 1) (fun h => by have := h.1; omega) (.int .i64 0) (.int .i64 0) (.slice B2.a B2.n B2.c) (.slice B2.ta B2.tn B2.tc) (.slice B2.da B2.dn B2.dc) (.slice B2.wa B2.wn B2.wc) (.slice B2.xa B2.xn B2.xc) (.int .i64 E.ac) (.int .i64 E.cz) (.slice B2.la B2.ln B2.lc) (.int .i64 E.dv) (.slice B2.oa B2.on B2.oc) (.slice B2.ga B2.gn B2.gc))
  clear M3 M4 y3 ho hE Y0 al Hu
  go_wp2
  have r0 := set13_at0 _ _ (.int .i64 0) (.int .i64 0) (.slice B2.a B2.n B2.c) (.slice B2.ta B2.tn B2.tc) (.slice B2.da B2.dn B2.dc) (.slice B2.wa B2.wn B2.wc) (.slice B2.xa B2.xn B2.xc) (.int .i64 E.ac) (.int .i64 E.cz) (.slice B2.la B2.ln B2.lc) (.int .i64 E.dv) (.slice B2.oa B2.on B2.oc) (.slice B2.ga B2.gn B2.gc) ⟨_, c0⟩
  have r1 := set13_at1 _ _ (.int .i64 0) (.int .i64 0) (.slice B2.a B2.n B2.c) (.slice B2.ta B2.tn B2.tc) (.slice B2.da B2.dn B2.dc) (.slice B2.wa B2.wn B2.wc) (.slice B2.xa B2.xn B2.xc) (.int .i64 E.ac) (.int .i64 E.cz) (.slice B2.la B2.ln B2.lc) (.int .i64 E.dv) (.slice B2.oa B2.on B2.oc) (.slice B2.ga B2.gn B2.gc) ⟨_, c1⟩
  have r2 := set13_at2 _ _ (.int .i64 0) (.int .i64 0) (.slice B2.a B2.n B2.c) (.slice B2.ta B2.tn B2.tc) (.slice B2.da B2.dn B2.dc) (.slice B2.wa B2.wn B2.wc) (.slice B2.xa B2.xn B2.xc) (.int .i64 E.ac) (.int .i64 E.cz) (.slice B2.la B2.ln B2.lc) (.int .i64 E.dv) (.slice B2.oa B2.on B2.oc) (.slice B2.ga B2.gn B2.gc) ⟨_, c2⟩
  have r3 := set13_at3 _ _ (.int .i64 0) (.int .i64 0) (.slice B2.a B2.n B2.c) (.slice B2.ta B2.tn B2.tc) (.slice B2.da B2.dn B2.dc) (.slice B2.wa B2.wn B2.wc) (.slice B2.xa B2.xn B2.xc) (.int .i64 E.ac) (.int .i64 E.cz) (.slice B2.la B2.ln B2.lc) (.int .i64 E.dv) (.slice B2.oa B2.on B2.oc) (.slice B2.ga B2.gn B2.gc) ⟨_, c3⟩
  have r4 := set13_at4 _ _ (.int .i64 0) (.int .i64 0) (.slice B2.a B2.n B2.c) (.slice B2.ta B2.tn B2.tc) (.slice B2.da B2.dn B2.dc) (.slice B2.wa B2.wn B2.wc) (.slice B2.xa B2.xn B2.xc) (.int .i64 E.ac) (.int .i64 E.cz) (.slice B2.la B2.ln B2.lc) (.int .i64 E.dv) (.slice B2.oa B2.on B2.oc) (.slice B2.ga B2.gn B2.gc) ⟨_, c4⟩
  have r5 := set13_at5 _ _ (.int .i64 0) (.int .i64 0) (.slice B2.a B2.n B2.c) (.slice B2.ta B2.tn B2.tc) (.slice B2.da B2.dn B2.dc) (.slice B2.wa B2.wn B2.wc) (.slice B2.xa B2.xn B2.xc) (.int .i64 E.ac) (.int .i64 E.cz) (.slice B2.la B2.ln B2.lc) (.int .i64 E.dv) (.slice B2.oa B2.on B2.oc) (.slice B2.ga B2.gn B2.gc) ⟨_, c5⟩
  have r6 := set13_at6 _ _ (.int .i64 0) (.int .i64 0) (.slice B2.a B2.n B2.c) (.slice B2.ta B2.tn B2.tc) (.slice B2.da B2.dn B2.dc) (.slice B2.wa B2.wn B2.wc) (.slice B2.xa B2.xn B2.xc) (.int .i64 E.ac) (.int .i64 E.cz) (.slice B2.la B2.ln B2.lc) (.int .i64 E.dv) (.slice B2.oa B2.on B2.oc) (.slice B2.ga B2.gn B2.gc) ⟨_, c6⟩
  have r7 := set13_at7 _ _ (.int .i64 0) (.int .i64 0) (.slice B2.a B2.n B2.c) (.slice B2.ta B2.tn B2.tc) (.slice B2.da B2.dn B2.dc) (.slice B2.wa B2.wn B2.wc) (.slice B2.xa B2.xn B2.xc) (.int .i64 E.ac) (.int .i64 E.cz) (.slice B2.la B2.ln B2.lc) (.int .i64 E.dv) (.slice B2.oa B2.on B2.oc) (.slice B2.ga B2.gn B2.gc) ⟨_, c7⟩
  have r8 := set13_at8 _ _ (.int .i64 0) (.int .i64 0) (.slice B2.a B2.n B2.c) (.slice B2.ta B2.tn B2.tc) (.slice B2.da B2.dn B2.dc) (.slice B2.wa B2.wn B2.wc) (.slice B2.xa B2.xn B2.xc) (.int .i64 E.ac) (.int .i64 E.cz) (.slice B2.la B2.ln B2.lc) (.int .i64 E.dv) (.slice B2.oa B2.on B2.oc) (.slice B2.ga B2.gn B2.gc) ⟨_, c8⟩
  have r9 := set13_at9 _ _ (.int .i64 0) (.int .i64 0) (.slice B2.a B2.n B2.c) (.slice B2.ta B2.tn B2.tc) (.slice B2.da B2.dn B2.dc) (.slice B2.wa B2.wn B2.wc) (.slice B2.xa B2.xn B2.xc) (.int .i64 E.ac) (.int .i64 E.cz) (.slice B2.la B2.ln B2.lc) (.int .i64 E.dv) (.slice B2.oa B2.on B2.oc) (.slice B2.ga B2.gn B2.gc) ⟨_, c9⟩
  have r10 := set13_at10 _ _ (.int .i64 0) (.int .i64 0) (.slice B2.a B2.n B2.c) (.slice B2.ta B2.tn B2.tc) (.slice B2.da B2.dn B2.dc) (.slice B2.wa B2.wn B2.wc) (.slice B2.xa B2.xn B2.xc) (.int .i64 E.ac) (.int .i64 E.cz) (.slice B2.la B2.ln B2.lc) (.int .i64 E.dv) (.slice B2.oa B2.on B2.oc) (.slice B2.ga B2.gn B2.gc) ⟨_, c10⟩
  have r11 := set13_at11 _ _ (.int .i64 0) (.int .i64 0) (.slice B2.a B2.n B2.c) (.slice B2.ta B2.tn B2.tc) (.slice B2.da B2.dn B2.dc) (.slice B2.wa B2.wn B2.wc) (.slice B2.xa B2.xn B2.xc) (.int .i64 E.ac) (.int .i64 E.cz) (.slice B2.la B2.ln B2.lc) (.int .i64 E.dv) (.slice B2.oa B2.on B2.oc) (.slice B2.ga B2.gn B2.gc) ⟨_, c11⟩
  have r12 := set13_at12 _ _ (.int .i64 0) (.int .i64 0) (.slice B2.a B2.n B2.c) (.slice B2.ta B2.tn B2.tc) (.slice B2.da B2.dn B2.dc) (.slice B2.wa B2.wn B2.wc) (.slice B2.xa B2.xn B2.xc) (.int .i64 E.ac) (.int .i64 E.cz) (.slice B2.la B2.ln B2.lc) (.int .i64 E.dv) (.slice B2.oa B2.on B2.oc) (.slice B2.ga B2.gn B2.gc) ⟨_, c12⟩
  refine bodyPost_ret (v := .agg #[.int .i64 0, .int .i64 0, .slice B2.a B2.n B2.c, .slice B2.ta B2.tn B2.tc, .slice B2.da B2.dn B2.dc, .slice B2.wa B2.wn B2.wc, .slice B2.xa B2.xn B2.xc, .int .i64 E.ac, .int .i64 E.cz, .slice B2.la B2.ln B2.lc, .int .i64 E.dv, .slice B2.oa B2.on B2.oc, .slice B2.ga B2.gn B2.gc]) (by simp [results, Tryz.results24, go_sem, r0, r1, r2, r3, r4, r5, r6, r7, r8, r9, r10, r11, r12]) rfl ⟨B2, ?_, ?_, HB.out⟩
  · rw [HC.out, Hf.out, ← HE.out]
  · rw [HC.out, ← HE.out]; exact HO.out.mono (fun q hq => ⟨by have := hq.1; omega, by simpa using hq.2⟩)

end Go.Proofs.YtcojgmecocjnkaaGreat
