import Derived.Test.YtcojgmecocjnkabGreatG27
import Derived.Test.YtcojgmecocjnkabGreatG17
import Derived.Test.YtcojgmecocjnkabGreatG34
import Derived.WalkKit
import Derived.ProofKit
import Derived.OpenShut
import Derived.ShutString
import Derived.ChangeOld
import Derived.Below
import Derived.WalkSpells
import Derived.Deep.QuietTactic
import Derived.BigQuiet
import Derived.Deep.RegionWith
import Derived.Deep.WholeRow
import Derived.Deep.DeepCutAuto
import Derived.Deep.RegionHeld2
import Derived.Deep.AppendLies
import Derived.Deep.RegionLaw
namespace Go.Proofs.YtcojgmecocjnkabGreat
open Go.ChangeShapes Go.WideShapes Go.ChangeAt Go.RowKit

set_option maxRecDepth 100000 in
set_option maxHeartbeats 4000000 in
theorem l8Gate_calls (P : Nat) (S : Nat → Prop) (A : SA) (D : SD) (k : Nat) (g v : Int) (w : World) (hy : YM P 0 S A D w) (H : SysR A D k) (hS : ∀ q, S q → q < w.heap.size) :
    Calls Tryz.prog 157 #[.pointer (some ⟨P, 0, none⟩), .int .i64 g, .int .i64 v] w fun e w' => e = .returned (.tuple #[]) ∧ YM P 0 S A (gtD D g v) w' ∧ OutS S w w' := by
  have hr := hy.y.oy.rs
  obtain ⟨k0, k1, k2, k3, k4, k5, k6, k7⟩ := hr.len
  have x10 := hy.cs.cell 10 rfl
  simp only [Nat.zero_add] at x10
  have hg3 : (A.gn : Int) ≤ 3 := by have := H.g3; omega
  have hPl := hy.lt
  cases hu : up g ((A.gn : Int) - 1) with
  | false =>
    have HD : Hid (gtD D g v = D) := by show _ = _; unfold gtD gtO; rw [k7, hu]; rfl
    have HY := hide hy
    clear hy hr H hS
    go_enter Tryz.func157, Tryz.ntmps157
    go_wp2_with (go_at_call 68; with_reducible refine (inUp_is _ _ _ _ hu).mono ?_; rintro e w' ⟨rfl, hw'⟩; rw [hw']; clear hw' w')
    refine bodyPost_ret (v := .tuple #[]) (by simp [results, Tryz.results157, go_sem]) rfl ⟨rfl, ?_, OutS.refl _ _⟩
    rw [HD.out]
    exact HY.out
  | true =>
  cases hv : up v 65535 with
  | false =>
    have HD : Hid (gtD D g v = D) := by show _ = _; unfold gtD gtO; rw [k7, hu, hv]; rfl
    have HY := hide hy
    clear hy hr H hS
    go_enter Tryz.func157, Tryz.ntmps157
    go_wp2_with (first | (go_at_call 68; with_reducible refine (inUp_is _ _ _ _ hu).mono ?_; rintro e w' ⟨rfl, hw'⟩; rw [hw']; clear hw' w') | (go_at_call 68; with_reducible refine (inUp_is _ _ _ _ hv).mono ?_; rintro e w' ⟨rfl, hw'⟩; rw [hw']; clear hw' w'))
    refine bodyPost_ret (v := .tuple #[]) (by simp [results, Tryz.results157, go_sem]) rfl ⟨rfl, ?_, OutS.refl _ _⟩
    rw [HD.out]
    exact HY.out
  | true =>
  have hux := up_iff.1 hu
  obtain ⟨j, rfl⟩ : ∃ j : Nat, g = (j : Int) := ⟨g.toNat, by omega⟩
  have hj : j < A.gn := by omega
  obtain ⟨g1, g2, g3, g4⟩ := H.gg j hj
  obtain ⟨d, hd⟩ : ∃ d : Nat, (gw D.gs j).1 = (d : Int) := ⟨(gw D.gs j).1.toNat, by omega⟩
  have hdn : d < A.dn := by omega
  have hdx : d < A.xn := by have := H.xd; omega
  obtain ⟨bg, og, hga, hbg, hcg⟩ := hr.gs.2 (by omega)
  obtain ⟨f0, f1⟩ := gt_flw D.gs j
  have p0 := hcg (j * 2) (by omega)
  have p1 := hcg (j * 2 + 1) (by omega)
  rw [f0, hd] at p0
  rw [f1, ← Nat.add_assoc] at p1
  obtain ⟨en, hen⟩ : ∃ x, x = (gw D.gs j).2 := ⟨_, rfl⟩
  rw [← hen] at p1
  have x0 := hy.cs.cell 0 rfl
  have x2 := hy.cs.cell 2 rfl
  have x4 := hy.cs.cell 4 rfl
  have x5 := hy.cs.cell 5 rfl
  simp only [Nat.zero_add] at x0 x2 x4 x5
  rw [H.ac] at x5
  rw [hga] at x10
  have i0 : (0 : Int) ≤ (j : Int) := by omega
  have i1 : (j : Int) < (A.gn : Int) := by omega
  have HO : Hid (gtO D (j : Int) v = belowB (atL D.ss (gt D.ds k)) (atL D.ss (gt D.ds d))) := by
    show _ = _
    unfold gtO dmL
    rw [k7, hu, hv, H.ac]
    simp only [Int.toNat_natCast, hd, Bool.and_self, Bool.true_and]
  have lx := fault_len (atL_right H.good H.sd (j := k) (by have := H.hk; omega))
  have ly := fault_len (atL_right H.good H.sd (j := d) (by omega))
  have M0 := (Mm.start w).alloc2 (.int .i64 (d : Int)) (.int .i64 en) 137
  have h8 := (H.cx d hdn).1
  obtain ⟨N, _, _, ea, _, _, _, _, _, _, _, _, _, _, _, _⟩ := hy.ctx3 hdx h8
  rw [ea] at x4
  have gd := H.good
  have hsd := H.sd
  have hd4 := H.d4
  have hkk := H.hk
  have HD : Hid (belowB (atL D.ss (gt D.ds k)) (atL D.ss (gt D.ds d)) = true → gtD D (j : Int) v = { D with cs := D.cs.set d ((gx D.cs d).1.set 1 v, en, false) }) := fun hb => by
    unfold gtD
    rw [if_pos (HO.out.trans hb)]
    simp only [Int.toNat_natCast, hd, hen]
  have HN : Hid (belowB (atL D.ss (gt D.ds k)) (atL D.ss (gt D.ds d)) = false → gtD D (j : Int) v = D) := fun hb => by
    unfold gtD
    rw [if_neg (by rw [HO.out, hb]; simp)]
  obtain ⟨_, sx0, _, _, _, sd0⟩ := hr.rt
  have HY := hide hy
  clear hy H hcg hux g1 g2 g3 g4 hr hen f0 f1
  go_enter Tryz.func157, Tryz.ntmps157
  go_upto_region 2 with (first | (go_at_call 68; with_reducible refine (inUp_is _ _ _ _ hu).mono ?_; rintro e w' ⟨rfl, hw'⟩; rw [hw']; clear hw' w') | (go_at_call 68; with_reducible refine (inUp_is _ _ _ _ hv).mono ?_; rintro e w' ⟨rfl, hw'⟩; rw [hw']; clear hw' w'))
  obtain ⟨W, hW⟩ : ∃ x, x = w.alloc (.cells #[.int .i64 (d : Int), .int .i64 en] 137) := ⟨_, rfl⟩
  rw [← hW] at M0 ⊢
  have hWs : W.heap.size = w.heap.size + 1 := by rw [hW]; simp
  clear hW x10 p0 p1
  have BW := M0.bel
  have c0 := (BW.cell (p := ⟨P, 0, none⟩) hPl).trans x0
  have c2 := (BW.cell (p := ⟨P, 2, none⟩) hPl).trans x2
  have c5 := (BW.cell (p := ⟨P, 5, none⟩) hPl).trans x5
  have cg := M0.cell 0 rfl
  have cg1 := M0.cell 1 rfl
  have lt0 : P < W.heap.size := by omega
  have lt1 : w.heap.size < W.heap.size := by omega
  have sx := sx0.below BW (Nat.le_refl _)
  have sd := sd0.below BW (Nat.le_refl _)
  have HS0 : Hid (W.drew.cell? ⟨P, 0, none⟩ = some (.slice A.a A.n A.c) ∧ W.drew.cell? ⟨P, 2, none⟩ = some (.slice A.da A.dn A.dc) ∧ W.drew.cell? ⟨P, 5, none⟩ = some (.int .i64 (k : Int)) ∧ W.drew.cell? ⟨w.heap.size, 0, none⟩ = some (.int .i64 (d : Int)) ∧ Below W.heap.size W W.drew) := ⟨c0, c2, c5, cg, (Below.refl _ _).drew⟩
  clear x0 x2 x5 c0 c2 c5 cg sx0 sd0 M0
  cases hbb : belowB (atL D.ss (gt D.ds k)) (atL D.ss (gt D.ds d)) with
  | false =>
    go_region_held2 (fun W' => W'.cell? ⟨P, 0, none⟩ = some (.slice A.a A.n A.c) ∧ W'.cell? ⟨P, 2, none⟩ = some (.slice A.da A.dn A.dc) ∧ W'.cell? ⟨P, 5, none⟩ = some (.int .i64 (k : Int)) ∧ W'.cell? ⟨w.heap.size, 0, none⟩ = some (.int .i64 (d : Int)) ∧ Below W.heap.size W W')
     (first | with_reducible exact HS0.out | with_reducible assumption)
     (first
      | (go_at_call 119; (with_reducible refine (l3Domain_calls P A.a A.n A.c D.ss A.da A.dn A.dc D.ds k _ gd (by omega) (And.left (by with_reducible assumption)) (And.left (And.right (by with_reducible assumption))) (sx.below (q4_bel (by with_reducible assumption)) (Nat.le_refl _)) (sd.below (q4_bel (by with_reducible assumption)) (Nat.le_refl _)) hsd hkk).mono ?_); rintro e wa ⟨b1, o1, la1, ll1, lc1, rfl, hb1, cb1, _, sb1, ga⟩; have hsa := q4_below lt0 lt0 lt0 lt1 (by with_reducible assumption) ga; have cb1a := (ga.cell (p := ⟨b1, o1, none⟩) hb1).trans cb1; have sb1a := sb1.below ga (Nat.le_refl _); have hb1a := Nat.lt_of_lt_of_le hb1 ga.size; obtain rfl : ll1 = 4 := (by have := sb1.1; omega); clear ga cb1 sb1 hb1)
      | (go_at_call 119; (with_reducible refine (l3Domain_calls P A.a A.n A.c D.ss A.da A.dn A.dc D.ds d _ gd (by omega) (And.left (by with_reducible assumption)) (And.left (And.right (by with_reducible assumption))) (sx.below (q4_bel (by with_reducible assumption)) (Nat.le_refl _)) (sd.below (q4_bel (by with_reducible assumption)) (Nat.le_refl _)) hsd hdn).mono ?_); rintro e wb ⟨b2, o2, la2, ll2, lc2, rfl, hb2, cb2, _, sb2, ga⟩; have hsb := q4_below lt0 lt0 lt0 lt1 (by with_reducible assumption) ga; have cb2a := (ga.cell (p := ⟨b2, o2, none⟩) hb2).trans cb2; have sb2a := sb2.below ga (Nat.le_refl _); have hb2a := Nat.lt_of_lt_of_le hb2 ga.size; obtain rfl : ll2 = 4 := (by have := sb2.1; omega); have cb1b := (ga.cell (p := ⟨b1, o1, none⟩) hb1a).trans cb1a; have sb1b := sb1a.below ga (Nat.le_refl _); have hb1b := Nat.lt_of_lt_of_le hb1a ga.size; clear ga cb2 sb2 hb2)
      | (go_at_call 169; refine (l1BelowO_calls b1 o1 b2 o2 la1 la2 lc1 lc2 _ _ _ hb1b hb2a cb1b cb2a sb1b sb2a).mono ?_; rintro e wc ⟨rfl, ga⟩; rw [hbb]; have hsc := q4_below lt0 lt0 lt0 lt1 (by with_reducible assumption) ga; clear ga))
    all_goals (
      have B3 := BW.trans ((q4_bel hsc).mono (by omega))
      have z3 := B3.size
      have Y3 := hide (HY.out.below B3)
      go_wp2
      refine bodyPost_ret (v := .tuple #[]) (by simp [results, Tryz.results157, go_sem]) rfl ⟨rfl, ?_, OutS.of_below B3⟩
      rw [HN.out hbb]
      exact Y3.out)
  | true =>
    go_region_held2 (fun W' => W'.cell? ⟨P, 0, none⟩ = some (.slice A.a A.n A.c) ∧ W'.cell? ⟨P, 2, none⟩ = some (.slice A.da A.dn A.dc) ∧ W'.cell? ⟨P, 5, none⟩ = some (.int .i64 (k : Int)) ∧ W'.cell? ⟨w.heap.size, 0, none⟩ = some (.int .i64 (d : Int)) ∧ Below W.heap.size W W')
     (first | with_reducible exact HS0.out | with_reducible assumption)
     (first
      | (go_at_call 119; (with_reducible refine (l3Domain_calls P A.a A.n A.c D.ss A.da A.dn A.dc D.ds k _ gd (by omega) (And.left (by with_reducible assumption)) (And.left (And.right (by with_reducible assumption))) (sx.below (q4_bel (by with_reducible assumption)) (Nat.le_refl _)) (sd.below (q4_bel (by with_reducible assumption)) (Nat.le_refl _)) hsd hkk).mono ?_); rintro e wa ⟨b1, o1, la1, ll1, lc1, rfl, hb1, cb1, _, sb1, ga⟩; have hsa := q4_below lt0 lt0 lt0 lt1 (by with_reducible assumption) ga; have cb1a := (ga.cell (p := ⟨b1, o1, none⟩) hb1).trans cb1; have sb1a := sb1.below ga (Nat.le_refl _); have hb1a := Nat.lt_of_lt_of_le hb1 ga.size; obtain rfl : ll1 = 4 := (by have := sb1.1; omega); clear ga cb1 sb1 hb1)
      | (go_at_call 119; (with_reducible refine (l3Domain_calls P A.a A.n A.c D.ss A.da A.dn A.dc D.ds d _ gd (by omega) (And.left (by with_reducible assumption)) (And.left (And.right (by with_reducible assumption))) (sx.below (q4_bel (by with_reducible assumption)) (Nat.le_refl _)) (sd.below (q4_bel (by with_reducible assumption)) (Nat.le_refl _)) hsd hdn).mono ?_); rintro e wb ⟨b2, o2, la2, ll2, lc2, rfl, hb2, cb2, _, sb2, ga⟩; have hsb := q4_below lt0 lt0 lt0 lt1 (by with_reducible assumption) ga; have cb2a := (ga.cell (p := ⟨b2, o2, none⟩) hb2).trans cb2; have sb2a := sb2.below ga (Nat.le_refl _); have hb2a := Nat.lt_of_lt_of_le hb2 ga.size; obtain rfl : ll2 = 4 := (by have := sb2.1; omega); have cb1b := (ga.cell (p := ⟨b1, o1, none⟩) hb1a).trans cb1a; have sb1b := sb1a.below ga (Nat.le_refl _); have hb1b := Nat.lt_of_lt_of_le hb1a ga.size; clear ga cb2 sb2 hb2)
      | (go_at_call 169; refine (l1BelowO_calls b1 o1 b2 o2 la1 la2 lc1 lc2 _ _ _ hb1b hb2a cb1b cb2a sb1b sb2a).mono ?_; rintro e wc ⟨rfl, ga⟩; rw [hbb]; have hsc := q4_below lt0 lt0 lt0 lt1 (by with_reducible assumption) ga; clear ga))
    all_goals (
      have B3 := BW.trans ((q4_bel hsc).mono (by omega))
      have z3 := B3.size
      have x4' := (B3.cell (p := ⟨P, 4, none⟩) hPl).trans x4
      have cg' := hsc.2.2.2.1
      have ch' := ((q4_bel hsc).cell (p := ⟨w.heap.size, 1, none⟩) lt1).trans cg1
      have d0 : (0 : Int) ≤ (d : Int) := by omega
      have d1 : (d : Int) < (A.xn : Int) := by omega
      have HSC := hide hsc
      clear hsa hsb hsc cb1a sb1a cb2a sb2a cb1b sb1b x4 cg1
      go_wp2_with fail
      go_quiet (fail)
      obtain ⟨u, hu'⟩ : ∃ u, u = wc.drewN nq := ⟨_, rfl⟩
      have B4 : Below w.heap.size w u := by rw [hu']; exact bdrewN B3 nq
      have ch : u.cell? ⟨w.heap.size, 1, none⟩ = some (.int .i64 en) := by rw [hu']; simpa using ch'
      rw [← hu']
      clear hu' x4' cg' ch'
      obtain ⟨N', b, lc, ea', sN, sb, ne, nP, bP, e0, e1, e2, fN, fb, rg, f3⟩ := (HY.out.below B4).ctx3 hdx h8
      obtain rfl : N = N' := by have := ea.symm.trans ea'; simpa using this
      have lN := hS N sN
      have lb := hS b sb
      have nG1 : ¬ b = w.heap.size := by omega
      have nG2 : ¬ N = w.heap.size := by omega
      have r1 := rg 1 (by omega)
      have q1 := fb 1
      have q2 := fN (d * 3 + 1)
      have q3 := fN (d * 3 + 2)
      have HF := hide (f3 v en false)
      have HU := hide ((((OutS.of_below (S := S) B4).setCell (p := ⟨b, 1, none⟩) (by exact sb) (.int .i64 v)).setCell (p := ⟨N, d * 3 + 1, none⟩) (by exact sN) (.int .i64 en)).setCell (p := ⟨N, d * 3 + 2, none⟩) (by exact sN) (.bool false))
      clear f3 rg fb fN
      go_wp2
      refine bodyPost_end (v := .tuple #[]) (by simp [results, Tryz.results157, go_sem]) rfl ⟨rfl, ?_, HU.out⟩
      rw [HD.out hbb]
      exact HF.out)

theorem l8Gate_gen (P : Nat) (S : Nat → Prop) (A : SA) (D : SD) (k : Nat) (g v : Int) (w : World) (hy : YM P 0 S A D w) (H : SysR A D k) (hS : ∀ q, S q → q < w.heap.size) :
    Calls Tryz.prog 157 #[.pointer (some ⟨P, 0, none⟩), .int .i64 g, .int .i64 v] w fun e w' => e = .returned (.tuple #[]) ∧ (∃ B, YM P 0 (fun q => S q ∨ (w.heap.size ≤ q ∧ q < w'.heap.size)) B (gtD D g v) w') ∧ OutS (fun q => S q ∨ q = P) w w' :=
  (l8Gate_calls P S A D k g v w hy H hS).mono (fun _ _ h => ⟨h.1, ⟨A, h.2.1.mono (fun _ e => .inl e) (fun e => by rcases e with e | e; exact hy.ns e; have := hy.lt; omega)⟩, h.2.2.mono (fun _ e => .inl e)⟩)

set_option maxRecDepth 100000 in
theorem l8Bad_calls (c : Int) (w : World) : Calls Tryz.prog 60 #[.int .i64 c] w fun e w' => e = .returned (.agg #[.int .i64 c, .int .i64 0, .slice none 0 0, .slice none 0 0, .slice none 0 0, .slice none 0 0, .slice none 0 0, .int .i64 0, .int .i64 0, .slice none 0 0, .int .i64 0, .slice none 0 0, .slice none 0 0]) ∧ Below w.heap.size w w' := by
  go_enter Tryz.func60, Tryz.ntmps60
  go_wp2
  exact bodyPost_ret (v := .agg #[.int .i64 c, .int .i64 0, .slice none 0 0, .slice none 0 0, .slice none 0 0, .slice none 0 0, .slice none 0 0, .int .i64 0, .int .i64 0, .slice none 0 0, .int .i64 0, .slice none 0 0, .slice none 0 0]) (by simp [results, Tryz.results60, go_sem]) rfl ⟨rfl, (Below.refl _ _).alloc (Nat.le_refl _) _⟩

end Go.Proofs.YtcojgmecocjnkabGreat
