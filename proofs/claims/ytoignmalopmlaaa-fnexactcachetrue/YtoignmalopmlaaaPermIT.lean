import Derived.Test.YtoignmalopmlaaaPermP
import Derived.Test.YtoignmalopmlaaaPermS0
import Derived.WalkKit
import Derived.ProofKit
import Derived.OpenShut
import Derived.ShutString
import Derived.ChangeOld
import Derived.Below
import Derived.WalkSpells
import Derived.Deep.QuietTactic
import Derived.BigQuiet
import Derived.Deep.RegionWith
import Derived.Deep.WholeRow
import Derived.Deep.DeepCutAuto
import Derived.Deep.RegionHeld2
import Derived.Deep.AppendLies
import Derived.Deep.RegionLaw
namespace Go.Proofs.Ytoignmalopmlaaa
open Go.ChangeShapes Go.WideShapes Go.ChangeAt Go.RowKit

set_option maxRecDepth 100000 in
set_option maxHeartbeats 1000000 in
theorem l3Perm_calls (q : Nat) (a : Option Addr) (n ca : Nat) (ss : List (Int × List Int)) (ta : Option Addr) (tl tc : Nat) (ts : List Int) (da : Option Addr) (dl dc : Nat) (ds : List Int) (i j : Nat) (w : World) (good : Good ss) (htl : tl ≤ 10) (hdl : dl ≤ 10) (hq : q < w.heap.size)
    (hqc : w.cell? ⟨q, 0, none⟩ = some (.slice a n ca)) (hqt : w.cell? ⟨q, 1, none⟩ = some (.slice ta tl tc)) (hqd : w.cell? ⟨q, 2, none⟩ = some (.slice da dl dc)) (hrt : RT w a n ss ta tl ts da dl ds) (h1 : allS ss ts = true) (h2 : allS ss ds = true) (hi : i < dl) (hj : j < tl) :
    Calls Try.prog 106 #[.pointer (some ⟨q, 0, none⟩), .int .i64 (i : Int), .int .i64 ((j : Int) + 1)] w fun e w' => e = .returned (.int .i64 (permV (atL ss (gt ds i)) (atL ss (gt ts j)))) ∧ Below w.heap.size w w' := by
  obtain ⟨_, hx, _, ht, _, hd⟩ := hrt
  have fx := atL_right good h2 (j := i) (by have := hd.1; omega)
  have fy := atL_right good h1 (j := j) (by have := ht.1; omega)
  have lx := fault_len fx
  have ly := fault_len fy
  have hp := perm_right fx fy
  have hz : (((j : Int) + 1) == 0) = false := by simp; omega
  have hcore : ∀ w2 : World, Below w.heap.size w w2 → ∀ b o la ll lc b' o' la' ll' lc', b < w2.heap.size → w2.cell? ⟨b, o, none⟩ = some (.slice la ll lc) → Sl w2 la ll (atL ss (gt ds i)) → b' < w2.heap.size → w2.cell? ⟨b', o', none⟩ = some (.slice la' ll' lc') → Sl w2 la' ll' (atL ss (gt ts j)) → ll = 4 ∧ ll' = 4 := fun w2 _ b o la ll lc b' o' la' ll' lc' _ _ s1 _ _ s2 => ⟨by have := s1.1; omega, by have := s2.1; omega⟩
  cases hob : (thing0 (atL ss (gt ts j)) && belowB (atL ss (gt ts j)) (highL (atL ss (gt ds i)))) with
  | true =>
    cases hmo : ((thing0 (atL ss (gt ts j)) && belowB (atL ss (gt ts j)) (highL (atL ss (gt ds i)))) && belowB (atL ss (gt ds i)) (atL ss (gt ts j))) with
    | true =>
      have HV : Hid (permV (atL ss (gt ds i)) (atL ss (gt ts j)) = 7) := by show _ = _; unfold permV; rw [hp.2, hmo]; rfl
      go_enter Try.func106, Try.ntmps106
      go_wp2_with fail
      refine (l3Domain_calls q a n ca ss da dl dc ds i _ good hdl hqc hqd hx hd h2 hi).mono ?_
      rintro e w1 ⟨b, o, la, ll, lc, rfl, hb, cb, _, sb, g1⟩
      have cq1 := (g1.cell (p := ⟨q, 0, none⟩) hq).trans hqc
      have ct1 := (g1.cell (p := ⟨q, 1, none⟩) hq).trans hqt
      go_wp2_with fail
      refine (l3Tag_calls q a n ca ss ta tl tc ts j _ good htl cq1 ct1 (hx.below g1 (Nat.le_refl _)) (ht.below g1 (Nat.le_refl _)) h1 hj).mono ?_
      rintro e w2 ⟨b', o', la', ll', lc', rfl, hb', cb', _, sb', g2⟩
      have g02 := g1.trans (g2.mono g1.size)
      have cb2 := (g02.cell (p := ⟨b, o, none⟩) hb).trans cb
      have sb2 := sb.below g02 (Nat.le_refl _)
      have cb2' := (g2.cell (p := ⟨b', o', none⟩) hb').trans cb'
      have sb2' := sb'.below g2 (Nat.le_refl _)
      have lb2 : b < w2.heap.size := by have := g02.size; omega
      have lb2' : b' < w2.heap.size := by have := g2.size; omega
      obtain ⟨rfl, rfl⟩ := hcore w2 g02 b o la ll lc b' o' la' ll' lc' lb2 cb2 sb2 lb2' cb2' sb2'
      clear g1 g2 cb cb' sb sb' cq1 ct1
      go_wp2_with fail
      refine (l1ObserveO_calls b o b' o' la la' lc lc' _ _ _ lb2 lb2' cb2 cb2' sb2 sb2').mono ?_
      rintro e w3 ⟨rfl, g3⟩
      rw [hob]
      have g03 := g02.trans (g3.mono g02.size)
      have cb3 := (g3.cell (p := ⟨b, o, none⟩) lb2).trans cb2
      have cb3' := (g3.cell (p := ⟨b', o', none⟩) lb2').trans cb2'
      have sb3 := sb2.below g3 (Nat.le_refl _)
      have sb3' := sb2'.below g3 (Nat.le_refl _)
      have lb3 : b < w3.heap.size := by have := g3.size; omega
      have lb3' : b' < w3.heap.size := by have := g3.size; omega
      clear g3 g02 cb2 cb2' sb2 sb2' lb2 lb2'
      go_wp2_with fail
      refine (l1ModifyO_calls b o b' o' la la' lc lc' _ _ _ lb3 lb3' cb3 cb3' sb3 sb3').mono ?_
      rintro e w4 ⟨rfl, g4⟩
      rw [hmo]
      have HE := hide (g03.trans (g4.mono g03.size))
      clear g4 g03 cb3 cb3' sb3 sb3' lb3 lb3' hcore
      go_wp2
      go_ret
      exact ⟨ret_int HV.out.symm, HE.out⟩
    | false =>
      have HV : Hid (permV (atL ss (gt ds i)) (atL ss (gt ts j)) = 5) := by show _ = _; unfold permV; rw [hp.2, hmo, hp.1, hob]; rfl
      go_enter Try.func106, Try.ntmps106
      go_wp2_with fail
      refine (l3Domain_calls q a n ca ss da dl dc ds i _ good hdl hqc hqd hx hd h2 hi).mono ?_
      rintro e w1 ⟨b, o, la, ll, lc, rfl, hb, cb, _, sb, g1⟩
      have cq1 := (g1.cell (p := ⟨q, 0, none⟩) hq).trans hqc
      have ct1 := (g1.cell (p := ⟨q, 1, none⟩) hq).trans hqt
      go_wp2_with fail
      refine (l3Tag_calls q a n ca ss ta tl tc ts j _ good htl cq1 ct1 (hx.below g1 (Nat.le_refl _)) (ht.below g1 (Nat.le_refl _)) h1 hj).mono ?_
      rintro e w2 ⟨b', o', la', ll', lc', rfl, hb', cb', _, sb', g2⟩
      have g02 := g1.trans (g2.mono g1.size)
      have cb2 := (g02.cell (p := ⟨b, o, none⟩) hb).trans cb
      have sb2 := sb.below g02 (Nat.le_refl _)
      have cb2' := (g2.cell (p := ⟨b', o', none⟩) hb').trans cb'
      have sb2' := sb'.below g2 (Nat.le_refl _)
      have lb2 : b < w2.heap.size := by have := g02.size; omega
      have lb2' : b' < w2.heap.size := by have := g2.size; omega
      obtain ⟨rfl, rfl⟩ := hcore w2 g02 b o la ll lc b' o' la' ll' lc' lb2 cb2 sb2 lb2' cb2' sb2'
      clear g1 g2 cb cb' sb sb' cq1 ct1
      go_wp2_with fail
      refine (l1ObserveO_calls b o b' o' la la' lc lc' _ _ _ lb2 lb2' cb2 cb2' sb2 sb2').mono ?_
      rintro e w3 ⟨rfl, g3⟩
      rw [hob]
      have g03 := g02.trans (g3.mono g02.size)
      have cb3 := (g3.cell (p := ⟨b, o, none⟩) lb2).trans cb2
      have cb3' := (g3.cell (p := ⟨b', o', none⟩) lb2').trans cb2'
      have sb3 := sb2.below g3 (Nat.le_refl _)
      have sb3' := sb2'.below g3 (Nat.le_refl _)
      have lb3 : b < w3.heap.size := by have := g3.size; omega
      have lb3' : b' < w3.heap.size := by have := g3.size; omega
      clear g3 g02 cb2 cb2' sb2 sb2' lb2 lb2'
      go_wp2_with fail
      refine (l1ModifyO_calls b o b' o' la la' lc lc' _ _ _ lb3 lb3' cb3 cb3' sb3 sb3').mono ?_
      rintro e w4 ⟨rfl, g4⟩
      rw [hmo]
      have HE := hide (g03.trans (g4.mono g03.size))
      clear g4 g03 cb3 cb3' sb3 sb3' lb3 lb3' hcore
      go_wp2
      go_ret
      exact ⟨ret_int HV.out.symm, HE.out⟩
  | false =>
    have hmo : ((thing0 (atL ss (gt ts j)) && belowB (atL ss (gt ts j)) (highL (atL ss (gt ds i)))) && belowB (atL ss (gt ds i)) (atL ss (gt ts j))) = false := by rw [hob]; rfl
    have HV : Hid (permV (atL ss (gt ds i)) (atL ss (gt ts j)) = 0) := by show _ = _; unfold permV; rw [hp.2, hmo, hp.1, hob]; rfl
    go_enter Try.func106, Try.ntmps106
    go_wp2_with fail
    refine (l3Domain_calls q a n ca ss da dl dc ds i _ good hdl hqc hqd hx hd h2 hi).mono ?_
    rintro e w1 ⟨b, o, la, ll, lc, rfl, hb, cb, _, sb, g1⟩
    have cq1 := (g1.cell (p := ⟨q, 0, none⟩) hq).trans hqc
    have ct1 := (g1.cell (p := ⟨q, 1, none⟩) hq).trans hqt
    go_wp2_with fail
    refine (l3Tag_calls q a n ca ss ta tl tc ts j _ good htl cq1 ct1 (hx.below g1 (Nat.le_refl _)) (ht.below g1 (Nat.le_refl _)) h1 hj).mono ?_
    rintro e w2 ⟨b', o', la', ll', lc', rfl, hb', cb', _, sb', g2⟩
    have g02 := g1.trans (g2.mono g1.size)
    have cb2 := (g02.cell (p := ⟨b, o, none⟩) hb).trans cb
    have sb2 := sb.below g02 (Nat.le_refl _)
    have cb2' := (g2.cell (p := ⟨b', o', none⟩) hb').trans cb'
    have sb2' := sb'.below g2 (Nat.le_refl _)
    have lb2 : b < w2.heap.size := by have := g02.size; omega
    have lb2' : b' < w2.heap.size := by have := g2.size; omega
    obtain ⟨rfl, rfl⟩ := hcore w2 g02 b o la ll lc b' o' la' ll' lc' lb2 cb2 sb2 lb2' cb2' sb2'
    clear g1 g2 cb cb' sb sb' cq1 ct1
    go_wp2_with fail
    refine (l1ObserveO_calls b o b' o' la la' lc lc' _ _ _ lb2 lb2' cb2 cb2' sb2 sb2').mono ?_
    rintro e w3 ⟨rfl, g3⟩
    rw [hob]
    have g03 := g02.trans (g3.mono g02.size)
    have cb3 := (g3.cell (p := ⟨b, o, none⟩) lb2).trans cb2
    have cb3' := (g3.cell (p := ⟨b', o', none⟩) lb2').trans cb2'
    have sb3 := sb2.below g3 (Nat.le_refl _)
    have sb3' := sb2'.below g3 (Nat.le_refl _)
    have lb3 : b < w3.heap.size := by have := g3.size; omega
    have lb3' : b' < w3.heap.size := by have := g3.size; omega
    clear g3 g02 cb2 cb2' sb2 sb2' lb2 lb2'
    go_wp2_with fail
    refine (l1ModifyO_calls b o b' o' la la' lc lc' _ _ _ lb3 lb3' cb3 cb3' sb3 sb3').mono ?_
    rintro e w4 ⟨rfl, g4⟩
    rw [hmo]
    have HE := hide (g03.trans (g4.mono g03.size))
    clear g4 g03 cb3 cb3' sb3 sb3' lb3 lb3' hcore
    go_wp2
    go_ret
    exact ⟨ret_int HV.out.symm, HE.out⟩

theorem pm_bad {ss : List (Int × List Int)} {ts ds : List Int} {d t : Int} (h : tabF ss ts ds ≠ 0) : pmC ss ts ds d t = tabF ss ts ds ∧ pmV ss ts ds d t = 0 := by
  have h1 : pmC ss ts ds d t = tabF ss ts ds := if_neg h
  exact ⟨h1, if_neg (by rw [h1]; exact h)⟩

theorem pm_nodom {ss : List (Int × List Int)} {ts ds : List Int} {d t : Int} (h : tabF ss ts ds = 0) (hd : inC ds d ≠ 0) : pmC ss ts ds d t = 4 ∧ pmV ss ts ds d t = 0 := by
  have h1 : pmC ss ts ds d t = 4 := by unfold pmC; rw [if_pos h, if_neg hd]
  exact ⟨h1, if_neg (by rw [h1]; decide)⟩

theorem pm_own {ss : List (Int × List Int)} {ts ds : List Int} {d : Int} (h : tabF ss ts ds = 0) (hd : inC ds d = 0) : pmC ss ts ds d 0 = 0 ∧ pmV ss ts ds d 0 = 0 := by
  have h1 : pmC ss ts ds d 0 = 0 := by unfold pmC; rw [if_pos h, if_pos hd, if_pos rfl]
  exact ⟨h1, by unfold pmV; rw [if_pos h1, if_pos rfl]⟩

theorem pm_notag {ss : List (Int × List Int)} {ts ds : List Int} {d t : Int} (h : tabF ss ts ds = 0) (hd : inC ds d = 0) (h0 : t ≠ 0) (ht : inC ts (t - 1) = 4) : pmC ss ts ds d t = 4 ∧ pmV ss ts ds d t = 0 := by
  have h1 : pmC ss ts ds d t = 4 := by unfold pmC; rw [if_pos h, if_pos hd, if_neg h0, ht]
  exact ⟨h1, if_neg (by rw [h1]; decide)⟩

theorem pm_yes {ss : List (Int × List Int)} {ts ds : List Int} {d t : Int} (h : tabF ss ts ds = 0) (hd : inC ds d = 0) (h0 : t ≠ 0) (ht : inC ts (t - 1) = 0) : pmC ss ts ds d t = 0 ∧ pmV ss ts ds d t = permV (inL ss ds d) (inL ss ts (t - 1)) := by
  have h1 : pmC ss ts ds d t = 0 := by unfold pmC; rw [if_pos h, if_pos hd, if_neg h0, ht]
  exact ⟨h1, by unfold pmV; rw [if_pos h1, if_neg h0]⟩

set_option maxRecDepth 100000 in
theorem l3Perm0_calls (q : Nat) (d : Int) (w : World) :
    Calls Try.prog 106 #[.pointer (some ⟨q, 0, none⟩), .int .i64 d, .int .i64 0] w fun e w' => e = .returned (.int .i64 0) ∧ Below w.heap.size w w' := by
  go_enter Try.func106, Try.ntmps106
  go_wp2
  go_ret
  exact ⟨rfl, Below.refl _ _⟩

set_option maxRecDepth 100000 in
theorem implPermOf_calls (a : Option Addr) (n c : Nat) (ss : List (Int × List Int)) (ta : Option Addr) (tn tc : Nat) (ts : List Int) (da : Option Addr) (dn dc : Nat) (ds : List Int) (d t : Int) (w : World) (hrt : RT w a n ss ta tn ts da dn ds) :
    Calls Try.prog 71 #[.agg #[.slice a n c, .slice ta tn tc, .slice da dn dc], .int .i64 d, .int .i64 t] w fun e w' => e = .returned (.agg #[.int .i64 (pmC ss ts ds d t), .int .i64 (pmV ss ts ds d t)]) ∧ Below w.heap.size w w' := by
  have M0 := ((Mm.start w).alloc3 (.slice a n c) (.slice ta tn tc) (.slice da dn dc) 36).alloc2 (.int .i64 0) (.int .i64 0) 116
  simp only [World.size_alloc] at M0
  have hrt0 := hrt.below M0.bel (Nat.le_refl _)
  have htl := hrt.2.2.2.1.1
  have hdl := hrt.2.2.2.2.2.1
  by_cases hf : tabF ss ts ds = 0
  · have ef : (tabF ss ts ds != 0) = false := by simp [hf]
    obtain ⟨hr, hm, hA1, hA2, _⟩ := tabF_zero hf
    have hml := many_len hm
    have Hf := hide hf
    clear hf hm
    by_cases hd : inC ds d = 0
    · have ed : (inC ds d != 0) = false := by simp [hd]
      have HD := hide hd
      clear hd
      by_cases h0 : t = 0
      · subst h0
        have HP := hide (pm_own Hf.out HD.out)
        have e0 : ((0 : Int) == 0) = true := by simp
        go_enter Try.func71, Try.ntmps71
        go_wp2_with fail
        refine (openTables_calls a n c ss ta tn tc ts da dn dc ds _ hrt0).mono ?_
        rintro e w1 ⟨sz, mo, xa, xn, xc, ya, yn, yc, rfl, g1, hled⟩
        obtain ⟨rfl, M, X1, X2, X3, rfl, l1, l2, l3, l4, l5, own, ox, oy⟩ := hled Hf.out
        have M1 := (M0.below g1).alloc4 (.int .i64 (ss.length : Int)) (.map (some M)) (.slice xa xn xc) (.slice ya yn yc) 81
        have al := (Below.refl w1.heap.size w1).alloc (Nat.le_refl _) (.cells #[.int .i64 (ss.length : Int), .map (some M), .slice xa xn xc, .slice ya yn yc] 81)
        have hbk : Bk (w1.alloc (.cells #[.int .i64 (ss.length : Int), .map (some M), .slice xa xn xc, .slice ya yn yc] 81)) w1.heap.size M (ss.length : Int) ss.length (bk ss ss.length) := ⟨by simp, by simp, by simp, fun j => by simp, ownsMap_below own al (Nat.le_refl _)⟩
        have ox1 := OS.loc.below al ox
        have oy1 := OS.loc.below al oy
        have hxn := ox.1
        have hyn := oy.1
        clear g1 al ox oy own hled M0 hrt0
        go_wp2_with fail
        refine (domainLabel_calls w1.heap.size M _ ss _ _ _ _ ds d _ hbk (good_of hr) (rep_bk hr) (M1.cell 3 rfl) oy1.sl (by omega) hA2).mono ?_
        rintro e w2 ⟨ra, rn, rc, rfl, os2, g2⟩
        have M2 := (M1.below g2).alloc2 (.int .i64 (inC ds d)) (.slice ra rn rc) 101
        have al2 := (Below.refl w2.heap.size w2).alloc (Nat.le_refl _) (.cells #[.int .i64 (inC ds d), .slice ra rn rc] 101)
        have h12 := g2.trans (al2.mono g2.size)
        have hbk2 := hbk.below h12
        have ox2 := OS.loc.below h12 ox1
        have os2a := OS.loc.below al2 os2
        clear g2 al2 h12 hbk ox1 oy1 M1 os2
        have d0 := M2.cell 0 rfl
        clear hbk2 ox2 os2a
        have r0 := M2.cell 6 rfl
        have r1 := M2.cell 7 rfl
        have f0 := M2.fz 6 rfl
        have f1 := M2.fz 7 rfl
        have HB := hide M2.bel
        clear M2
        go_wp2
        refine bodyPost_ret (v := .agg #[.int .i64 (0), .int .i64 (0)]) (by simp [results, Try.results71, go_sem, r0, r1]) rfl ⟨by rw [HP.out.1, HP.out.2], (HB.out.setCell (by simp) _).setCell (by simp) _⟩
      · have e0 : (t == 0) = false := by simp [h0]
        by_cases ht : inC ts (t - 1) = 0
        · have et : (inC ts (t - 1) != 0) = false := by simp [ht]
          have HP := hide (pm_yes Hf.out HD.out h0 ht)
          clear h0 ht
          go_enter Try.func71, Try.ntmps71
          go_wp2_with fail
          refine (openTables_calls a n c ss ta tn tc ts da dn dc ds _ hrt0).mono ?_
          rintro e w1 ⟨sz, mo, xa, xn, xc, ya, yn, yc, rfl, g1, hled⟩
          obtain ⟨rfl, M, X1, X2, X3, rfl, l1, l2, l3, l4, l5, own, ox, oy⟩ := hled Hf.out
          have M1 := (M0.below g1).alloc4 (.int .i64 (ss.length : Int)) (.map (some M)) (.slice xa xn xc) (.slice ya yn yc) 81
          have al := (Below.refl w1.heap.size w1).alloc (Nat.le_refl _) (.cells #[.int .i64 (ss.length : Int), .map (some M), .slice xa xn xc, .slice ya yn yc] 81)
          have hbk : Bk (w1.alloc (.cells #[.int .i64 (ss.length : Int), .map (some M), .slice xa xn xc, .slice ya yn yc] 81)) w1.heap.size M (ss.length : Int) ss.length (bk ss ss.length) := ⟨by simp, by simp, by simp, fun j => by simp, ownsMap_below own al (Nat.le_refl _)⟩
          have ox1 := OS.loc.below al ox
          have oy1 := OS.loc.below al oy
          have hxn := ox.1
          have hyn := oy.1
          clear g1 al ox oy own hled M0 hrt0
          go_wp2_with fail
          refine (domainLabel_calls w1.heap.size M _ ss _ _ _ _ ds d _ hbk (good_of hr) (rep_bk hr) (M1.cell 3 rfl) oy1.sl (by omega) hA2).mono ?_
          rintro e w2 ⟨ra, rn, rc, rfl, os2, g2⟩
          have M2 := (M1.below g2).alloc2 (.int .i64 (inC ds d)) (.slice ra rn rc) 101
          have al2 := (Below.refl w2.heap.size w2).alloc (Nat.le_refl _) (.cells #[.int .i64 (inC ds d), .slice ra rn rc] 101)
          have h12 := g2.trans (al2.mono g2.size)
          have hbk2 := hbk.below h12
          have ox2 := OS.loc.below h12 ox1
          have os2a := OS.loc.below al2 os2
          clear g2 al2 h12 hbk ox1 oy1 M1 os2
          have d0 := M2.cell 0 rfl
          go_wp2_with fail
          clear d0
          refine (tagLabel_calls w1.heap.size M _ ss _ _ _ _ ts t _ hbk2 (good_of hr) (rep_bk hr) (M2.cell 4 rfl) ox2.sl (by omega) hA1).mono ?_
          rintro e w3 ⟨sa, sn, sc, rfl, os3, g3⟩
          have M3 := (M2.below g3).alloc2 (.int .i64 (inC ts (t - 1))) (.slice sa sn sc) 101
          have al3 := (Below.refl w3.heap.size w3).alloc (Nat.le_refl _) (.cells #[.int .i64 (inC ts (t - 1)), .slice sa sn sc] 101)
          have h23 := g3.trans (al3.mono g3.size)
          have os2b := OS.loc.below h23 os2a
          have os3a := OS.loc.below al3 os3
          clear g3 al3 h23 hbk2 ox2 os2a os3 M2
          have d1 := M3.cell 3 rfl
          have k0 := M3.cell 0 rfl
          have k1 := M3.cell 1 rfl
          go_wp2_with fail
          clear d1 k0 k1
          refine (permBetween_calls ra sa rn rc sn sc _ _ _ (by have := os2b.2.1; unfold maxLen; omega) (by have := os3a.2.1; unfold maxLen; omega) os2b.sl os3a.sl).mono ?_
          rintro e w4 ⟨rfl, g4⟩
          have M4 := M3.below g4
          clear g4 M3 os2b os3a
          have r0 := M4.cell 8 rfl
          have r1 := M4.cell 9 rfl
          have f0 := M4.fz 8 rfl
          have f1 := M4.fz 9 rfl
          have HB := hide M4.bel
          clear M4
          go_wp2
          refine bodyPost_ret (v := .agg #[.int .i64 (0), .int .i64 (permV (inL ss ds d) (inL ss ts (t - 1)))]) (by simp [results, Try.results71, go_sem, r0, r1]) rfl ⟨by rw [HP.out.1, HP.out.2], (HB.out.setCell (by simp) _).setCell (by simp) _⟩
        · have et : (inC ts (t - 1) != 0) = true := by simp [ht]
          have h4 : inC ts (t - 1) = 4 := by unfold inC at ht ⊢; split; (rename_i h; rw [if_pos h] at ht; exact absurd rfl ht); rfl
          have HP := hide (pm_notag Hf.out HD.out h0 h4)
          clear h0 ht
          go_enter Try.func71, Try.ntmps71
          go_wp2_with fail
          refine (openTables_calls a n c ss ta tn tc ts da dn dc ds _ hrt0).mono ?_
          rintro e w1 ⟨sz, mo, xa, xn, xc, ya, yn, yc, rfl, g1, hled⟩
          obtain ⟨rfl, M, X1, X2, X3, rfl, l1, l2, l3, l4, l5, own, ox, oy⟩ := hled Hf.out
          have M1 := (M0.below g1).alloc4 (.int .i64 (ss.length : Int)) (.map (some M)) (.slice xa xn xc) (.slice ya yn yc) 81
          have al := (Below.refl w1.heap.size w1).alloc (Nat.le_refl _) (.cells #[.int .i64 (ss.length : Int), .map (some M), .slice xa xn xc, .slice ya yn yc] 81)
          have hbk : Bk (w1.alloc (.cells #[.int .i64 (ss.length : Int), .map (some M), .slice xa xn xc, .slice ya yn yc] 81)) w1.heap.size M (ss.length : Int) ss.length (bk ss ss.length) := ⟨by simp, by simp, by simp, fun j => by simp, ownsMap_below own al (Nat.le_refl _)⟩
          have ox1 := OS.loc.below al ox
          have oy1 := OS.loc.below al oy
          have hxn := ox.1
          have hyn := oy.1
          clear g1 al ox oy own hled M0 hrt0
          go_wp2_with fail
          refine (domainLabel_calls w1.heap.size M _ ss _ _ _ _ ds d _ hbk (good_of hr) (rep_bk hr) (M1.cell 3 rfl) oy1.sl (by omega) hA2).mono ?_
          rintro e w2 ⟨ra, rn, rc, rfl, os2, g2⟩
          have M2 := (M1.below g2).alloc2 (.int .i64 (inC ds d)) (.slice ra rn rc) 101
          have al2 := (Below.refl w2.heap.size w2).alloc (Nat.le_refl _) (.cells #[.int .i64 (inC ds d), .slice ra rn rc] 101)
          have h12 := g2.trans (al2.mono g2.size)
          have hbk2 := hbk.below h12
          have ox2 := OS.loc.below h12 ox1
          have os2a := OS.loc.below al2 os2
          clear g2 al2 h12 hbk ox1 oy1 M1 os2
          have d0 := M2.cell 0 rfl
          go_wp2_with fail
          clear d0
          refine (tagLabel_calls w1.heap.size M _ ss _ _ _ _ ts t _ hbk2 (good_of hr) (rep_bk hr) (M2.cell 4 rfl) ox2.sl (by omega) hA1).mono ?_
          rw [h4]
          rintro e w3 ⟨sa, sn, sc, rfl, os3, g3⟩
          have M3 := (M2.below g3).alloc2 (.int .i64 4) (.slice sa sn sc) 101
          have al3 := (Below.refl w3.heap.size w3).alloc (Nat.le_refl _) (.cells #[.int .i64 4, .slice sa sn sc] 101)
          have h23 := g3.trans (al3.mono g3.size)
          have os2b := OS.loc.below h23 os2a
          have os3a := OS.loc.below al3 os3
          clear g3 al3 h23 hbk2 ox2 os2a os3 M2
          have k0 := M3.cell 0 rfl
          clear os2b os3a
          have r0 := M3.cell 8 rfl
          have r1 := M3.cell 9 rfl
          have f0 := M3.fz 8 rfl
          have f1 := M3.fz 9 rfl
          have HB := hide M3.bel
          clear M3
          go_wp2
          refine bodyPost_ret (v := .agg #[.int .i64 (4), .int .i64 (0)]) (by simp [results, Try.results71, go_sem, r0, r1]) rfl ⟨by rw [HP.out.1, HP.out.2], (HB.out.setCell (by simp) _).setCell (by simp) _⟩
    · have ed : (inC ds d != 0) = true := by simp [hd]
      have h4 : inC ds d = 4 := by unfold inC at hd ⊢; split; (rename_i h; rw [if_pos h] at hd; exact absurd rfl hd); rfl
      have HP := hide (pm_nodom (t := t) Hf.out hd)
      clear hd
      go_enter Try.func71, Try.ntmps71
      go_wp2_with fail
      refine (openTables_calls a n c ss ta tn tc ts da dn dc ds _ hrt0).mono ?_
      rintro e w1 ⟨sz, mo, xa, xn, xc, ya, yn, yc, rfl, g1, hled⟩
      obtain ⟨rfl, M, X1, X2, X3, rfl, l1, l2, l3, l4, l5, own, ox, oy⟩ := hled Hf.out
      have M1 := (M0.below g1).alloc4 (.int .i64 (ss.length : Int)) (.map (some M)) (.slice xa xn xc) (.slice ya yn yc) 81
      have al := (Below.refl w1.heap.size w1).alloc (Nat.le_refl _) (.cells #[.int .i64 (ss.length : Int), .map (some M), .slice xa xn xc, .slice ya yn yc] 81)
      have hbk : Bk (w1.alloc (.cells #[.int .i64 (ss.length : Int), .map (some M), .slice xa xn xc, .slice ya yn yc] 81)) w1.heap.size M (ss.length : Int) ss.length (bk ss ss.length) := ⟨by simp, by simp, by simp, fun j => by simp, ownsMap_below own al (Nat.le_refl _)⟩
      have ox1 := OS.loc.below al ox
      have oy1 := OS.loc.below al oy
      have hxn := ox.1
      have hyn := oy.1
      clear g1 al ox oy own hled M0 hrt0
      go_wp2_with fail
      refine (domainLabel_calls w1.heap.size M _ ss _ _ _ _ ds d _ hbk (good_of hr) (rep_bk hr) (M1.cell 3 rfl) oy1.sl (by omega) hA2).mono ?_
      rw [h4]
      rintro e w2 ⟨ra, rn, rc, rfl, os2, g2⟩
      have M2 := (M1.below g2).alloc2 (.int .i64 4) (.slice ra rn rc) 101
      have al2 := (Below.refl w2.heap.size w2).alloc (Nat.le_refl _) (.cells #[.int .i64 4, .slice ra rn rc] 101)
      have h12 := g2.trans (al2.mono g2.size)
      have hbk2 := hbk.below h12
      have ox2 := OS.loc.below h12 ox1
      have os2a := OS.loc.below al2 os2
      clear g2 al2 h12 hbk ox1 oy1 M1 os2
      have d0 := M2.cell 0 rfl
      clear hbk2 ox2 os2a
      have r0 := M2.cell 6 rfl
      have r1 := M2.cell 7 rfl
      have f0 := M2.fz 6 rfl
      have f1 := M2.fz 7 rfl
      have HB := hide M2.bel
      clear M2
      go_wp2
      refine bodyPost_ret (v := .agg #[.int .i64 (4), .int .i64 (0)]) (by simp [results, Try.results71, go_sem, r0, r1]) rfl ⟨by rw [HP.out.1, HP.out.2], (HB.out.setCell (by simp) _).setCell (by simp) _⟩
  · have ef : (tabF ss ts ds != 0) = true := by simp [hf]
    have HP := hide (pm_bad (d := d) (t := t) hf)
    clear hf
    go_enter Try.func71, Try.ntmps71
    go_wp2_with fail
    refine (openTables_calls a n c ss ta tn tc ts da dn dc ds _ hrt0).mono ?_
    rintro e w1 ⟨sz, mo, xa, xn, xc, ya, yn, yc, rfl, g1, _⟩
    have M1 := (M0.below g1).alloc4 (.int .i64 sz) (.map mo) (.slice xa xn xc) (.slice ya yn yc) 81
    clear M0 g1 hrt0
    have r0 := M1.cell 4 rfl
    have r1 := M1.cell 5 rfl
    have f0 := M1.fz 4 rfl
    have f1 := M1.fz 5 rfl
    have HB := hide M1.bel
    clear M1
    go_wp2
    refine bodyPost_ret (v := .agg #[.int .i64 (tabF ss ts ds), .int .i64 (0)]) (by simp [results, Try.results71, go_sem, r0, r1]) rfl ⟨by rw [HP.out.1, HP.out.2], (HB.out.setCell (by simp) _).setCell (by simp) _⟩

end Go.Proofs.Ytoignmalopmlaaa
