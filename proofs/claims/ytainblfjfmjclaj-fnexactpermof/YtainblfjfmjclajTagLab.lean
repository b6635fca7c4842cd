import Derived.Test.YtainblfjfmjclajTgP
import Derived.Test.YtainblfjfmjclajL1Copy
import Derived.WalkKit
import Derived.ProofKit
import Derived.OpenShut
import Derived.ShutString
import Derived.ChangeOld
import Derived.Below
import Derived.WalkSpells
import Derived.Deep.QuietTactic
import Derived.BigQuiet
import Derived.Deep.RegionWith
import Derived.Deep.WholeRow
import Derived.Deep.DeepCutAuto
import Derived.Deep.RegionHeld2
import Derived.Deep.AppendLies
import Derived.Deep.RegionLaw
namespace Go.Proofs.Ytainblfjfmjclaj
open Go.ChangeShapes Go.WideShapes Go.ChangeAt Go.RowKit

set_option maxRecDepth 100000 in
theorem lastTag_calls (P : Nat) (a : Option Addr) (n c : Nat) (w : World) (_hn : n ≤ 10) (hc : w.cell? ⟨P, 2, none⟩ = some (.slice a n c)) :
    Calls Try.prog 100 #[.pointer (some ⟨P, 0, none⟩)] w fun e w' => e = .returned (.int .i64 ((n : Int))) ∧ w' = w := by
  go_enter Try.func100, Try.ntmps100
  go_wp2
  go_ret
  exact ⟨rfl, rfl⟩

set_option maxRecDepth 100000 in
set_option maxHeartbeats 1000000 in
theorem tagLabel_calls (P M n : Nat) (ss : List (Int × List Int)) (D : DataW Unit) (a : Option Addr) (l c : Nat) (ts : List Int) (p : Int) (w : World) (hb : Bk w P M (ss.length : Int) n D) (good : Good ss) (rep : Rep ss D) (ct : w.cell? ⟨P, 2, none⟩ = some (.slice a l c)) (hts : Sl w a l ts) (hl : l ≤ 10) (h1 : allS ss ts = true) :
    Calls Try.prog 66 #[.pointer (some ⟨P, 0, none⟩), .int .i64 p] w fun e w' => ∃ ra rn rc, e = .returned (.agg #[.int .i64 (inC ts (p - 1)), .slice ra rn rc]) ∧ OS (InR w.heap.size w'.heap.size) ra rn (inL ss ts (p - 1)) w' ∧ Below w.heap.size w w' := by
  have hP := hb.lt
  obtain ⟨hlen, hts⟩ := hts
  have M0 := (Mm.start w).alloc2 (.int .i64 0) (.slice none 0 0) 53
  have al := (Below.refl w.heap.size w).alloc (Nat.le_refl _) (.cells #[.int .i64 0, .slice none 0 0] 53)
  have ct0 := (al.cell (p := ⟨P, 2, none⟩) hP).trans ct
  have hb0 := hb.below al
  by_cases hin : 0 ≤ p - 1 ∧ p - 1 < (l : Int)
  · obtain ⟨j, hj⟩ : ∃ j : Nat, p - 1 = (j : Int) := ⟨(p - 1).toNat, by omega⟩
    obtain rfl : p = (j : Int) + 1 := by omega
    have hjl : j < l := by omega
    obtain ⟨b, off, rfl, hbb, hc⟩ := hts (by omega)
    have ck := (al.cell (p := ⟨b, off + j, none⟩) hbb).trans (hc j hjl)
    rw [hj]
    have HC := hide (inC_yes (l := ts) (j := j) (by omega))
    have HL := hide (inL_yes (ss := ss) (l := ts) (j := j) (by omega))
    have HA := hide (atC_all h1 (j := j) (by omega))
    have n1 : ¬ ((j : Int) + 1 ≤ 0) := by omega
    have n2 : ¬ ((l : Int) < (j : Int) + 1) := by omega
    have j0 : (0 : Int) ≤ (j : Int) := by omega
    have j1 : (j : Int) < (l : Int) := by omega
    have hj10 : (j : Int) ≤ 10 := by omega
    have hjw : IntKind.i64.wrap (j : Int) = (j : Int) := IntWalk.i64_in _ (by omega)
    have HM0 := hide M0
    have HB0 := hide hb0
    clear M0 al hb0 hin hj
    go_enter Try.func66, Try.ntmps66
    go_wp2_with fail
    refine (lastTag_calls P _ l c _ hl ct0).mono ?_
    rintro e w1 ⟨rfl, rfl⟩
    go_wp2_with fail
    go_region_with (first
      | (go_at_call 94; refine (labelAt_calls P M n (gt ts j) ss D _ (HB0.out.below ((Below.refl _ _).drew)) good rep).mono ?_; rintro e w2 ⟨ra, rn, rc, rfl, o2, g2⟩; have h2 := ((Below.refl (w.alloc (.cells #[.int .i64 0, .slice none 0 0] 53)).heap.size (w.alloc (.cells #[.int .i64 0, .slice none 0 0] 53))).drew).trans g2; have M2 := HM0.out.below h2; have r0 := M2.cell 0 rfl; have r1 := M2.cell 1 rfl; have f0 := M2.fz 0 rfl; have f1 := M2.fz 1 rfl; have HB2 := hide M2.bel; have HO := hide o2; rw [HA.out]; clear g2 h2 M2 o2))
    all_goals go_wp2
    all_goals refine bodyPost_ret (v := .agg #[.int .i64 0, .slice ra rn rc]) (by simp [results, Try.results66, go_sem, r0, r1]) rfl ⟨ra, rn, rc, by rw [HC.out], ?_, (HB2.out.setCell (Nat.le_refl _) _).setCell (Nat.le_refl _) _⟩
    all_goals rw [HL.out]
    all_goals exact (OS.loc w2 _ (fun k hk _ => by rw [Below.heap_setCell _ _ _ _ (fun e => by have := hk.1; simp at e this; omega), Below.heap_setCell _ _ _ _ (fun e => by have := hk.1; simp at e this; omega)]) HO.out).mono (fun k hk => ⟨by have := hk.1; simp at this; omega, by simpa using hk.2⟩)
  · have HC := hide (inC_no (l := ts) (i := p - 1) (by omega))
    have HL := hide (inL_no (ss := ss) (l := ts) (i := p - 1) (by omega))
    have HB := hide M0.bel
    by_cases h0 : p ≤ 0
    · go_enter Try.func66, Try.ntmps66
      clear M0 al hb0 hin
      go_wp2
      refine bodyPost_ret (v := .agg #[.int .i64 4, .slice none 0 0]) (by simp [results, Try.results66, go_sem]) rfl ⟨_, 0, 0, by rw [HC.out], ⟨by rw [HL.out]; rfl, by omega, .inl rfl⟩, (Below.refl _ _).alloc (Nat.le_refl _) _⟩
    · have h2 : (l : Int) < p := by omega
      go_enter Try.func66, Try.ntmps66
      clear M0 al hb0 hin
      go_wp2_with fail
      refine (lastTag_calls P _ l c _ hl ct0).mono ?_
      rintro e w1 ⟨rfl, rfl⟩
      go_wp2
      refine bodyPost_ret (v := .agg #[.int .i64 4, .slice none 0 0]) (by simp [results, Try.results66, go_sem]) rfl ⟨_, 0, 0, by rw [HC.out], ⟨by rw [HL.out]; rfl, by omega, .inl rfl⟩, (Below.refl _ _).alloc (Nat.le_refl _) _⟩

set_option maxRecDepth 100000 in
theorem implTagLabel_calls (a : Option Addr) (n c : Nat) (ss : List (Int × List Int)) (ta : Option Addr) (tn tc : Nat) (ts : List Int) (da : Option Addr) (dn dc : Nat) (ds : List Int) (p : Int) (w : World) (hrt : RT w a n ss ta tn ts da dn ds) :
    Calls Try.prog 24 #[.agg #[.slice a n c, .slice ta tn tc, .slice da dn dc], .int .i64 p] w fun e w' => ∃ ra rn rc, e = .returned (.agg #[.int .i64 (tgC ss ts ds ts (p - 1)), .slice ra rn rc]) ∧ OS (InR w.heap.size w'.heap.size) ra rn (tgL ss ts ds ts (p - 1)) w' ∧ Below w.heap.size w w' := by
  have M0 := ((Mm.start w).alloc3 (.slice a n c) (.slice ta tn tc) (.slice da dn dc) 36).alloc2 (.int .i64 0) (.slice none 0 0) 53
  simp only [World.size_alloc] at M0
  by_cases hf : tabF ss ts ds = 0
  · have ef : (tabF ss ts ds != 0) = false := by simp [hf]
    have HC := hide (tgC_ok (l := ts) (i := p - 1) hf)
    have HL := hide (tgL_ok (l := ts) (i := p - 1) hf)
    obtain ⟨hr, hm, hA1, hA2, _⟩ := tabF_zero hf
    have hml := many_len hm
    have Hf := hide hf
    clear hf hm
    go_enter Try.func24, Try.ntmps24
    go_wp2_with fail
    refine (openTables_calls a n c ss ta tn tc ts da dn dc ds _ (hrt.below M0.bel (Nat.le_refl _))).mono ?_
    rintro e w1 ⟨sz, mo, xa, xn, xc, ya, yn, yc, rfl, g1, hled⟩
    obtain ⟨rfl, M, X1, X2, X3, rfl, l1, l2, l3, l4, l5, own, ox, oy⟩ := hled Hf.out
    have M1 := (M0.below g1).alloc4 (.int .i64 (ss.length : Int)) (.map (some M)) (.slice xa xn xc) (.slice ya yn yc) 79
    have al := (Below.refl w1.heap.size w1).alloc (Nat.le_refl _) (.cells #[.int .i64 (ss.length : Int), .map (some M), .slice xa xn xc, .slice ya yn yc] 79)
    have hbk : Bk (w1.alloc (.cells #[.int .i64 (ss.length : Int), .map (some M), .slice xa xn xc, .slice ya yn yc] 79)) w1.heap.size M (ss.length : Int) ss.length (bk ss ss.length) := ⟨by simp, by simp, by simp, fun j => by simp, ownsMap_below own al (Nat.le_refl _)⟩
    have ox1 := OS.loc.below al ox
    have oy1 := OS.loc.below al oy
    have hxn := ox.1
    have hyn := oy.1
    have ctl := M1.cell 2 rfl
    clear g1 al ox oy own hled M0
    go_wp2_with fail
    refine (tagLabel_calls w1.heap.size M _ ss _ _ _ _ ts p _ hbk (good_of hr) (rep_bk hr) ctl ox1.sl (by omega) hA1).mono ?_
    rintro e w2 ⟨ra, rn, rc, rfl, os2, g2⟩
    have M2 := M1.below g2
    have r0 := M2.cell 4 rfl
    have r1 := M2.cell 5 rfl
    have f0 := M2.fz 4 rfl
    have f1 := M2.fz 5 rfl
    have hl1 := M1.lt 4 rfl
    have hB2 := M1.bel.size
    have HB := hide M2.bel
    have HO := hide os2
    clear M1 M2 g2 os2 hbk ctl ox1 oy1
    go_wp2
    refine bodyPost_ret (v := .agg #[.int .i64 (inC ts (p - 1)), .slice ra rn rc]) (by simp [results, Try.results24, go_sem, r0, r1]) rfl ⟨ra, rn, rc, by rw [HC.out], ?_, (HB.out.setCell (by simp) _).setCell (by simp) _⟩
    rw [HL.out]
    exact (OS.loc w2 _ (fun k hk _ => by rw [Below.heap_setCell _ _ _ _ (fun e => by have := hk.1; simp at e; omega), Below.heap_setCell _ _ _ _ (fun e => by have := hk.1; simp at e; omega)]) HO.out).mono (fun k hk => ⟨by have := hk.1; omega, by simpa using hk.2⟩)
  · have ef : (tabF ss ts ds != 0) = true := by simp [hf]
    have HC := hide (tgC_bad (l := ts) (i := p - 1) hf)
    have HL := hide (tgL_bad (l := ts) (i := p - 1) hf)
    clear hf
    go_enter Try.func24, Try.ntmps24
    go_wp2_with fail
    refine (openTables_calls a n c ss ta tn tc ts da dn dc ds _ (hrt.below M0.bel (Nat.le_refl _))).mono ?_
    rintro e w1 ⟨sz, mo, xa, xn, xc, ya, yn, yc, rfl, g1, _⟩
    have M1 := (M0.below g1).alloc4 (.int .i64 sz) (.map mo) (.slice xa xn xc) (.slice ya yn yc) 79
    have r0 := M1.cell 4 rfl
    have r1 := M1.cell 5 rfl
    have f0 := M1.fz 4 rfl
    have f1 := M1.fz 5 rfl
    have HB := hide M1.bel
    clear M0 M1 g1
    go_wp2
    refine bodyPost_ret (v := .agg #[.int .i64 (tabF ss ts ds), .slice none 0 0]) (by simp [results, Try.results24, go_sem, r0, r1]) rfl ⟨_, 0, 0, by rw [HC.out], ⟨by rw [HL.out]; rfl, by omega, .inl rfl⟩, (HB.out.setCell (by simp) _).setCell (by simp) _⟩

set_option maxRecDepth 100000 in
theorem l3HasTag_calls (q : Nat) (a : Option Addr) (n c : Nat) (p : Int) (w : World) (_hn : n ≤ 10) (hc : w.cell? ⟨q, 1, none⟩ = some (.slice a n c)) :
    Calls Try.prog 63 #[.pointer (some ⟨q, 0, none⟩), .int .i64 p] w fun e w' => e = .returned (.bool (decide (0 ≤ p - 1 ∧ p - 1 < (n : Int)))) ∧ Below w.heap.size w w' := by
  go_enter Try.func63, Try.ntmps63
  go_wp2_with fail
  refine (in_calls _ _ _ _).mono ?_
  rintro e w1 ⟨rfl, g1⟩
  go_wp2
  go_ret
  exact ⟨ret_bool (by rw [Bool.eq_iff_iff]; simp; omega), g1⟩

set_option maxRecDepth 100000 in
theorem l3Tag_calls (q : Nat) (a : Option Addr) (n ca : Nat) (ss : List (Int × List Int)) (ta : Option Addr) (tl tc : Nat) (ts : List Int) (j : Nat) (w : World) (good : Good ss) (htl : tl ≤ 10) (hqc : w.cell? ⟨q, 0, none⟩ = some (.slice a n ca)) (hqt : w.cell? ⟨q, 1, none⟩ = some (.slice ta tl tc)) (hx : Sls w a n ss) (ht : Sl w ta tl ts) (h1 : allS ss ts = true) (hj : j < tl) :
    Calls Try.prog 65 #[.pointer (some ⟨q, 0, none⟩), .int .i64 ((j : Int) + 1)] w fun e w' => ∃ b o la ll lc, e = .returned (.pointer (some ⟨b, o, none⟩)) ∧ b < w.heap.size ∧ w.cell? ⟨b, o, none⟩ = some (.slice la ll lc) ∧ ll ≤ 4 ∧ Sl w la ll (atL ss (gt ts j)) ∧ Below w.heap.size w w' := by
  have hlen := hx.1
  have few := good.few
  have htlen := ht.1
  obtain ⟨b, off, rfl, hbb, hc⟩ := ht.2 (by omega)
  obtain ⟨s, hs, hsl, hsp, hsa⟩ := allS_at good h1 (j := j) (by omega)
  have ck := hc j hj
  rw [hs] at ck
  obtain ⟨b1, o1, rfl, hb1, hc1⟩ := hx.2 (by omega)
  obtain ⟨_, la, ll, lc, k1, kl, ksl⟩ := hc1 s (by omega)
  have h4 : ll ≤ 4 := by rw [← ksl.1, fault_len (good.right s hsl hsp)]; omega
  have i0 : (0 : Int) ≤ (s : Int) := by omega
  have i1 : (s : Int) < (n : Int) := by omega
  have j0 : (0 : Int) ≤ (j : Int) := by omega
  have j1 : (j : Int) < (tl : Int) := by omega
  have HK := hide k1
  have HS := hide ksl
  have HA := hide hsa
  clear k1 ksl hc1 hc hx ht hsa
  go_enter Try.func65, Try.ntmps65
  go_wp2_with fail
  go_quiet (fail)
  go_wp2
  go_ret
  exact ⟨b1, o1 + s * 2 + 1, la, ll, lc, rfl, hb1, HK.out, h4, by rw [HA.out]; exact HS.out, bdrewN (Below.refl _ _) _⟩

set_option maxRecDepth 100000 in
theorem specTagLabel_calls (a : Option Addr) (n c : Nat) (ss : List (Int × List Int)) (ta : Option Addr) (tn tc : Nat) (ts : List Int) (da : Option Addr) (dn dc : Nat) (ds : List Int) (p : Int) (w : World) (hrt : RT w a n ss ta tn ts da dn ds) :
    Calls Try.prog 23 #[.agg #[.slice a n c, .slice ta tn tc, .slice da dn dc], .int .i64 p] w fun e w' => ∃ ra rn rc, e = .returned (.agg #[.int .i64 (tgC ss ts ds ts (p - 1)), .slice ra rn rc]) ∧ OS (InR w.heap.size w'.heap.size) ra rn (tgL ss ts ds ts (p - 1)) w' ∧ Below w.heap.size w w' := by
  have M0 := ((Mm.start w).alloc3 (.slice a n c) (.slice ta tn tc) (.slice da dn dc) 36).alloc2 (.int .i64 0) (.slice none 0 0) 53
  simp only [World.size_alloc] at M0
  have hrt0 := hrt.below M0.bel (Nat.le_refl _)
  have hlx := hrt.2.2.2.1.1
  by_cases hf : tabF ss ts ds = 0
  · have ef : (tabF ss ts ds != 0) = false := by simp [hf]
    have HC := hide (tgC_ok (l := ts) (i := p - 1) hf)
    have HL := hide (tgL_ok (l := ts) (i := p - 1) hf)
    obtain ⟨hr, hm, hA1, hA2, _⟩ := tabF_zero hf
    have hml := many_len hm
    have good := good_of hr
    clear hf hm
    by_cases hin : 0 ≤ p - 1 ∧ p - 1 < (tn : Int)
    · have hd : decide (0 ≤ p - 1 ∧ p - 1 < (tn : Int)) = true := decide_eq_true hin
      obtain ⟨j, hj⟩ : ∃ j : Nat, p - 1 = (j : Int) := ⟨(p - 1).toNat, by omega⟩
      obtain rfl : p = (j : Int) + 1 := by omega
      have HC2 : Hid (inC ts ((j : Int) + 1 - 1) = 0) := by show _ = _; rw [hj]; exact inC_yes (by omega)
      have HL2 : Hid (inL ss ts ((j : Int) + 1 - 1) = atL ss (gt ts j)) := by show _ = _; rw [hj]; exact inL_yes (by omega)
      have hjn : j < tn := by omega
      clear hin hj
      go_enter Try.func23, Try.ntmps23
      go_wp2_with fail
      refine (l3Fault_calls _ a n c ss ta tn tc ts da dn dc ds _ (M0.lt 2 rfl) (M0.cell 2 rfl) (M0.cell 3 rfl) (M0.cell 4 rfl) hrt0).mono ?_
      rintro e w1 ⟨rfl, g1⟩
      have M1 := M0.below g1
      have hrt1 := hrt0.below g1 (Nat.le_refl _)
      clear g1 M0 hrt0
      go_wp2_with fail
      refine (l3HasTag_calls _ ta tn tc _ _ (by omega) (M1.cell 3 rfl)).mono ?_
      rintro e w2 ⟨rfl, g2⟩
      rw [hd]
      have M2 := M1.below g2
      have hrt2 := hrt1.below g2 (Nat.le_refl _)
      clear g2 M1 hrt1 hd
      go_wp2_with fail
      refine (l3Tag_calls _ a n c ss ta tn tc ts j _ good (by omega) (M2.cell 2 rfl) (M2.cell 3 rfl) hrt2.2.1 hrt2.2.2.2.1 hA1 hjn).mono ?_
      rintro e w3 ⟨b, o, la, ll, lc, rfl, hb, cb, h4, ksl, g3⟩
      have M3 := M2.below g3
      have cb3 := (g3.cell (p := ⟨b, o, none⟩) hb).trans cb
      have ksl3 := ksl.below g3 (Nat.le_refl _)
      clear g3 M2 hrt2 cb ksl
      go_wp2_with fail
      refine (l1Copy_O la ll lc _ _ (by omega) ksl3).mono ?_
      rintro e w4 ⟨ra, rc, rfl, os4, g4⟩
      have M4 := M3.below g4
      have r0 := M4.cell 0 rfl
      have r1 := M4.cell 1 rfl
      have f0 := M4.fz 0 rfl
      have f1 := M4.fz 1 rfl
      have hl3 := M3.lt 0 rfl
      have hB3 := M3.bel.size
      have HB := hide M4.bel
      have HO := hide os4
      clear M3 M4 g4 os4 cb3 ksl3
      go_wp2
      refine bodyPost_ret (v := .agg #[.int .i64 0, .slice ra ll rc]) (by simp [results, Try.results23, go_sem, r0, r1]) rfl ⟨ra, ll, rc, by rw [HC.out, HC2.out], ?_, (HB.out.setCell (by simp) _).setCell (by simp) _⟩
      rw [HL.out, HL2.out]
      exact (OS.loc w4 _ (fun k hk _ => by rw [Below.heap_setCell _ _ _ _ (fun e => by have := hk.1; simp at e; omega), Below.heap_setCell _ _ _ _ (fun e => by have := hk.1; simp at e; omega)]) HO.out).mono (fun k hk => ⟨by have := hk.1; omega, by simpa using hk.2⟩)
    · have hd : decide (0 ≤ p - 1 ∧ p - 1 < (tn : Int)) = false := decide_eq_false hin
      have HC2 := hide (inC_no (l := ts) (i := p - 1) (by omega))
      have HL2 := hide (inL_no (ss := ss) (l := ts) (i := p - 1) (by omega))
      clear hin
      go_enter Try.func23, Try.ntmps23
      go_wp2_with fail
      refine (l3Fault_calls _ a n c ss ta tn tc ts da dn dc ds _ (M0.lt 2 rfl) (M0.cell 2 rfl) (M0.cell 3 rfl) (M0.cell 4 rfl) hrt0).mono ?_
      rintro e w1 ⟨rfl, g1⟩
      have M1 := M0.below g1
      clear g1 M0 hrt0
      go_wp2_with fail
      refine (l3HasTag_calls _ ta tn tc _ _ (by omega) (M1.cell 3 rfl)).mono ?_
      rintro e w2 ⟨rfl, g2⟩
      rw [hd]
      have M2 := M1.below g2
      have r0 := M2.cell 0 rfl
      have r1 := M2.cell 1 rfl
      have f0 := M2.fz 0 rfl
      have f1 := M2.fz 1 rfl
      have HB := hide M2.bel
      clear g2 M1 M2 hd
      go_wp2
      refine bodyPost_ret (v := .agg #[.int .i64 4, .slice none 0 0]) (by simp [results, Try.results23, go_sem, r0, r1]) rfl ⟨_, 0, 0, by rw [HC.out, HC2.out], ⟨by rw [HL.out, HL2.out]; rfl, by omega, .inl rfl⟩, (HB.out.setCell (by simp) _).setCell (by simp) _⟩
  · have ef : (tabF ss ts ds != 0) = true := by simp [hf]
    have HC := hide (tgC_bad (l := ts) (i := p - 1) hf)
    have HL := hide (tgL_bad (l := ts) (i := p - 1) hf)
    clear hf
    go_enter Try.func23, Try.ntmps23
    go_wp2_with fail
    refine (l3Fault_calls _ a n c ss ta tn tc ts da dn dc ds _ (M0.lt 2 rfl) (M0.cell 2 rfl) (M0.cell 3 rfl) (M0.cell 4 rfl) hrt0).mono ?_
    rintro e w1 ⟨rfl, g1⟩
    have M1 := M0.below g1
    have r0 := M1.cell 0 rfl
    have r1 := M1.cell 1 rfl
    have f0 := M1.fz 0 rfl
    have f1 := M1.fz 1 rfl
    have HB := hide M1.bel
    clear M0 M1 g1 hrt0
    go_wp2
    refine bodyPost_ret (v := .agg #[.int .i64 (tabF ss ts ds), .slice none 0 0]) (by simp [results, Try.results23, go_sem, r0, r1]) rfl ⟨_, 0, 0, by rw [HC.out], ⟨by rw [HL.out]; rfl, by omega, .inl rfl⟩, (HB.out.setCell (by simp) _).setCell (by simp) _⟩

end Go.Proofs.Ytainblfjfmjclaj
