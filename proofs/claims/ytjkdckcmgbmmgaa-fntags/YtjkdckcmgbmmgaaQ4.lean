import Derived.Test.YtjkdckcmgbmmgaaTgP
import Derived.Test.YtjkdckcmgbmmgaaL1Copy
import Derived.Test.YtjkdckcmgbmmgaaL3Fault
import Derived.Test.YtjkdckcmgbmmgaaDropP
import Derived.Test.YtjkdckcmgbmmgaaAddP
import Derived.Test.YtjkdckcmgbmmgaaEnterP
import Derived.Test.YtjkdckcmgbmmgaaLeaveP
import Derived.Test.YtjkdckcmgbmmgaaBookReg2
import Derived.Test.YtjkdckcmgbmmgaaP1
import Derived.Test.YtjkdckcmgbmmgaaOpenTab
import Derived.Test.YtjkdckcmgbmmgaaClone
import Derived.Test.YtjkdckcmgbmmgaaLeave
import Derived.Test.YtjkdckcmgbmmgaaTabK
import Derived.Test.YtjkdckcmgbmmgaaL2Copy
import Derived.Test.YtjkdckcmgbmmgaaL3CopyR
import Derived.Deep.AppendLies
import Derived.WalkKit
import Derived.ProofKit
import Derived.OpenShut
import Derived.ShutString
import Derived.ChangeOld
import Derived.Below
import Derived.WalkSpells
import Derived.Deep.QuietTactic
import Derived.BigQuiet
import Derived.Deep.RegionWith
import Derived.Deep.WholeRow
import Derived.Deep.DeepCutAuto
import Derived.Deep.RegionHeld2
import Derived.Deep.AppendLies
import Derived.Deep.RegionLaw
namespace Go.Proofs.Ytjkdckcmgbmmgaa
open Go.ChangeShapes Go.WideShapes Go.ChangeAt Go.RowKit

set_option maxRecDepth 100000 in
theorem lastTag_calls (P : Nat) (a : Option Addr) (n c : Nat) (w : World) (_hn : n ≤ 10) (hc : w.cell? ⟨P, 2, none⟩ = some (.slice a n c)) :
    Calls Try.prog 41 #[.pointer (some ⟨P, 0, none⟩)] w fun e w' => e = .returned (.int .i64 ((n : Int))) ∧ w' = w := by
  go_enter Try.func41, Try.ntmps41
  go_wp2
  go_ret
  exact ⟨rfl, rfl⟩

set_option maxRecDepth 100000 in
set_option maxHeartbeats 1000000 in
theorem tagLabel_calls (P M n : Nat) (ss : List (Int × List Int)) (D : DataW Unit) (a : Option Addr) (l c : Nat) (ts : List Int) (p : Int) (w : World) (hb : Bk w P M (ss.length : Int) n D) (good : Good ss) (rep : Rep ss D) (ct : w.cell? ⟨P, 2, none⟩ = some (.slice a l c)) (hts : Sl w a l ts) (hl : l ≤ 10) (h1 : allS ss ts = true) :
    Calls Try.prog 56 #[.pointer (some ⟨P, 0, none⟩), .int .i64 p] w fun e w' => ∃ ra rn rc, e = .returned (.agg #[.int .i64 (inC ts (p - 1)), .slice ra rn rc]) ∧ OS (InR w.heap.size w'.heap.size) ra rn (inL ss ts (p - 1)) w' ∧ Below w.heap.size w w' := by
  have hP := hb.lt
  obtain ⟨hlen, hts⟩ := hts
  have M0 := (Mm.start w).alloc2 (.int .i64 0) (.slice none 0 0) 42
  have al := (Below.refl w.heap.size w).alloc (Nat.le_refl _) (.cells #[.int .i64 0, .slice none 0 0] 42)
  have ct0 := (al.cell (p := ⟨P, 2, none⟩) hP).trans ct
  have hb0 := hb.below al
  by_cases hin : 0 ≤ p - 1 ∧ p - 1 < (l : Int)
  · obtain ⟨j, hj⟩ : ∃ j : Nat, p - 1 = (j : Int) := ⟨(p - 1).toNat, by omega⟩
    obtain rfl : p = (j : Int) + 1 := by omega
    have hjl : j < l := by omega
    obtain ⟨b, off, rfl, hbb, hc⟩ := hts (by omega)
    have ck := (al.cell (p := ⟨b, off + j, none⟩) hbb).trans (hc j hjl)
    rw [hj]
    have HC := hide (inC_yes (l := ts) (j := j) (by omega))
    have HL := hide (inL_yes (ss := ss) (l := ts) (j := j) (by omega))
    have HA := hide (atC_all h1 (j := j) (by omega))
    have n1 : ¬ ((j : Int) + 1 ≤ 0) := by omega
    have n2 : ¬ ((l : Int) < (j : Int) + 1) := by omega
    have j0 : (0 : Int) ≤ (j : Int) := by omega
    have j1 : (j : Int) < (l : Int) := by omega
    have hj10 : (j : Int) ≤ 10 := by omega
    have hjw : IntKind.i64.wrap (j : Int) = (j : Int) := IntWalk.i64_in _ (by omega)
    have HM0 := hide M0
    have HB0 := hide hb0
    clear M0 al hb0 hin hj
    go_enter Try.func56, Try.ntmps56
    go_wp2_with fail
    refine (lastTag_calls P _ l c _ hl ct0).mono ?_
    rintro e w1 ⟨rfl, rfl⟩
    go_wp2_with fail
    go_region_with (first
      | (go_at_call 94; refine (labelAt_calls P M n (gt ts j) ss D _ (HB0.out.below ((Below.refl _ _).drew)) good rep).mono ?_; rintro e w2 ⟨ra, rn, rc, rfl, o2, g2⟩; have h2 := ((Below.refl (w.alloc (.cells #[.int .i64 0, .slice none 0 0] 42)).heap.size (w.alloc (.cells #[.int .i64 0, .slice none 0 0] 42))).drew).trans g2; have M2 := HM0.out.below h2; have r0 := M2.cell 0 rfl; have r1 := M2.cell 1 rfl; have f0 := M2.fz 0 rfl; have f1 := M2.fz 1 rfl; have HB2 := hide M2.bel; have HO := hide o2; rw [HA.out]; clear g2 h2 M2 o2))
    all_goals go_wp2
    all_goals refine bodyPost_ret (v := .agg #[.int .i64 0, .slice ra rn rc]) (by simp [results, Try.results56, go_sem, r0, r1]) rfl ⟨ra, rn, rc, by rw [HC.out], ?_, (HB2.out.setCell (Nat.le_refl _) _).setCell (Nat.le_refl _) _⟩
    all_goals rw [HL.out]
    all_goals exact (OS.loc w2 _ (fun k hk _ => by rw [Below.heap_setCell _ _ _ _ (fun e => by have := hk.1; simp at e this; omega), Below.heap_setCell _ _ _ _ (fun e => by have := hk.1; simp at e this; omega)]) HO.out).mono (fun k hk => ⟨by have := hk.1; simp at this; omega, by simpa using hk.2⟩)
  · have HC := hide (inC_no (l := ts) (i := p - 1) (by omega))
    have HL := hide (inL_no (ss := ss) (l := ts) (i := p - 1) (by omega))
    have HB := hide M0.bel
    by_cases h0 : p ≤ 0
    · go_enter Try.func56, Try.ntmps56
      clear M0 al hb0 hin
      go_wp2
      refine bodyPost_ret (v := .agg #[.int .i64 4, .slice none 0 0]) (by simp [results, Try.results56, go_sem]) rfl ⟨_, 0, 0, by rw [HC.out], ⟨by rw [HL.out]; rfl, by omega, .inl rfl⟩, (Below.refl _ _).alloc (Nat.le_refl _) _⟩
    · have h2 : (l : Int) < p := by omega
      go_enter Try.func56, Try.ntmps56
      clear M0 al hb0 hin
      go_wp2_with fail
      refine (lastTag_calls P _ l c _ hl ct0).mono ?_
      rintro e w1 ⟨rfl, rfl⟩
      go_wp2
      refine bodyPost_ret (v := .agg #[.int .i64 4, .slice none 0 0]) (by simp [results, Try.results56, go_sem]) rfl ⟨_, 0, 0, by rw [HC.out], ⟨by rw [HL.out]; rfl, by omega, .inl rfl⟩, (Below.refl _ _).alloc (Nat.le_refl _) _⟩

set_option maxRecDepth 100000 in
theorem implTagLabel_calls (a : Option Addr) (n c : Nat) (ss : List (Int × List Int)) (ta : Option Addr) (tn tc : Nat) (ts : List Int) (da : Option Addr) (dn dc : Nat) (ds : List Int) (p : Int) (w : World) (hrt : RT w a n ss ta tn ts da dn ds) :
    Calls Try.prog 19 #[.agg #[.slice a n c, .slice ta tn tc, .slice da dn dc], .int .i64 p] w fun e w' => ∃ ra rn rc, e = .returned (.agg #[.int .i64 (tgC ss ts ds ts (p - 1)), .slice ra rn rc]) ∧ OS (InR w.heap.size w'.heap.size) ra rn (tgL ss ts ds ts (p - 1)) w' ∧ Below w.heap.size w w' := by
  have M0 := ((Mm.start w).alloc3 (.slice a n c) (.slice ta tn tc) (.slice da dn dc) 29).alloc2 (.int .i64 0) (.slice none 0 0) 42
  simp only [World.size_alloc] at M0
  by_cases hf : tabF ss ts ds = 0
  · have ef : (tabF ss ts ds != 0) = false := by simp [hf]
    have HC := hide (tgC_ok (l := ts) (i := p - 1) hf)
    have HL := hide (tgL_ok (l := ts) (i := p - 1) hf)
    obtain ⟨hr, hm, hA1, hA2, _⟩ := tabF_zero hf
    have hml := many_len hm
    have Hf := hide hf
    clear hf hm
    go_enter Try.func19, Try.ntmps19
    go_wp2_with fail
    refine (openTables_calls a n c ss ta tn tc ts da dn dc ds _ (hrt.below M0.bel (Nat.le_refl _))).mono ?_
    rintro e w1 ⟨sz, mo, xa, xn, xc, ya, yn, yc, rfl, g1, hled⟩
    obtain ⟨rfl, M, X1, X2, X3, rfl, l1, l2, l3, l4, l5, own, ox, oy⟩ := hled Hf.out
    have M1 := (M0.below g1).alloc4 (.int .i64 (ss.length : Int)) (.map (some M)) (.slice xa xn xc) (.slice ya yn yc) 65
    have al := (Below.refl w1.heap.size w1).alloc (Nat.le_refl _) (.cells #[.int .i64 (ss.length : Int), .map (some M), .slice xa xn xc, .slice ya yn yc] 65)
    have hbk : Bk (w1.alloc (.cells #[.int .i64 (ss.length : Int), .map (some M), .slice xa xn xc, .slice ya yn yc] 65)) w1.heap.size M (ss.length : Int) ss.length (bk ss ss.length) := ⟨by simp, by simp, by simp, fun j => by simp, ownsMap_below own al (Nat.le_refl _)⟩
    have ox1 := OS.loc.below al ox
    have oy1 := OS.loc.below al oy
    have hxn := ox.1
    have hyn := oy.1
    have ctl := M1.cell 2 rfl
    clear g1 al ox oy own hled M0
    go_wp2_with fail
    refine (tagLabel_calls w1.heap.size M _ ss _ _ _ _ ts p _ hbk (good_of hr) (rep_bk hr) ctl ox1.sl (by omega) hA1).mono ?_
    rintro e w2 ⟨ra, rn, rc, rfl, os2, g2⟩
    have M2 := M1.below g2
    have r0 := M2.cell 4 rfl
    have r1 := M2.cell 5 rfl
    have f0 := M2.fz 4 rfl
    have f1 := M2.fz 5 rfl
    have hl1 := M1.lt 4 rfl
    have hB2 := M1.bel.size
    have HB := hide M2.bel
    have HO := hide os2
    clear M1 M2 g2 os2 hbk ctl ox1 oy1
    go_wp2
    refine bodyPost_ret (v := .agg #[.int .i64 (inC ts (p - 1)), .slice ra rn rc]) (by simp [results, Try.results19, go_sem, r0, r1]) rfl ⟨ra, rn, rc, by rw [HC.out], ?_, (HB.out.setCell (by simp) _).setCell (by simp) _⟩
    rw [HL.out]
    exact (OS.loc w2 _ (fun k hk _ => by rw [Below.heap_setCell _ _ _ _ (fun e => by have := hk.1; simp at e; omega), Below.heap_setCell _ _ _ _ (fun e => by have := hk.1; simp at e; omega)]) HO.out).mono (fun k hk => ⟨by have := hk.1; omega, by simpa using hk.2⟩)
  · have ef : (tabF ss ts ds != 0) = true := by simp [hf]
    have HC := hide (tgC_bad (l := ts) (i := p - 1) hf)
    have HL := hide (tgL_bad (l := ts) (i := p - 1) hf)
    clear hf
    go_enter Try.func19, Try.ntmps19
    go_wp2_with fail
    refine (openTables_calls a n c ss ta tn tc ts da dn dc ds _ (hrt.below M0.bel (Nat.le_refl _))).mono ?_
    rintro e w1 ⟨sz, mo, xa, xn, xc, ya, yn, yc, rfl, g1, _⟩
    have M1 := (M0.below g1).alloc4 (.int .i64 sz) (.map mo) (.slice xa xn xc) (.slice ya yn yc) 65
    have r0 := M1.cell 4 rfl
    have r1 := M1.cell 5 rfl
    have f0 := M1.fz 4 rfl
    have f1 := M1.fz 5 rfl
    have HB := hide M1.bel
    clear M0 M1 g1
    go_wp2
    refine bodyPost_ret (v := .agg #[.int .i64 (tabF ss ts ds), .slice none 0 0]) (by simp [results, Try.results19, go_sem, r0, r1]) rfl ⟨_, 0, 0, by rw [HC.out], ⟨by rw [HL.out]; rfl, by omega, .inl rfl⟩, (HB.out.setCell (by simp) _).setCell (by simp) _⟩

set_option maxRecDepth 100000 in
theorem l3HasTag_calls (q : Nat) (a : Option Addr) (n c : Nat) (p : Int) (w : World) (_hn : n ≤ 10) (hc : w.cell? ⟨q, 1, none⟩ = some (.slice a n c)) :
    Calls Try.prog 72 #[.pointer (some ⟨q, 0, none⟩), .int .i64 p] w fun e w' => e = .returned (.bool (decide (0 ≤ p - 1 ∧ p - 1 < (n : Int)))) ∧ Below w.heap.size w w' := by
  go_enter Try.func72, Try.ntmps72
  go_wp2_with fail
  refine (in_calls _ _ _ _).mono ?_
  rintro e w1 ⟨rfl, g1⟩
  go_wp2
  go_ret
  exact ⟨ret_bool (by rw [Bool.eq_iff_iff]; simp; omega), g1⟩

set_option maxRecDepth 100000 in
theorem l3Tag_calls (q : Nat) (a : Option Addr) (n ca : Nat) (ss : List (Int × List Int)) (ta : Option Addr) (tl tc : Nat) (ts : List Int) (j : Nat) (w : World) (good : Good ss) (htl : tl ≤ 10) (hqc : w.cell? ⟨q, 0, none⟩ = some (.slice a n ca)) (hqt : w.cell? ⟨q, 1, none⟩ = some (.slice ta tl tc)) (hx : Sls w a n ss) (ht : Sl w ta tl ts) (h1 : allS ss ts = true) (hj : j < tl) :
    Calls Try.prog 73 #[.pointer (some ⟨q, 0, none⟩), .int .i64 ((j : Int) + 1)] w fun e w' => ∃ b o la ll lc, e = .returned (.pointer (some ⟨b, o, none⟩)) ∧ b < w.heap.size ∧ w.cell? ⟨b, o, none⟩ = some (.slice la ll lc) ∧ ll ≤ 4 ∧ Sl w la ll (atL ss (gt ts j)) ∧ Below w.heap.size w w' := by
  have hlen := hx.1
  have few := good.few
  have htlen := ht.1
  obtain ⟨b, off, rfl, hbb, hc⟩ := ht.2 (by omega)
  obtain ⟨s, hs, hsl, hsp, hsa⟩ := allS_at good h1 (j := j) (by omega)
  have ck := hc j hj
  rw [hs] at ck
  obtain ⟨b1, o1, rfl, hb1, hc1⟩ := hx.2 (by omega)
  obtain ⟨_, la, ll, lc, k1, kl, ksl⟩ := hc1 s (by omega)
  have h4 : ll ≤ 4 := by rw [← ksl.1, fault_len (good.right s hsl hsp)]; omega
  have i0 : (0 : Int) ≤ (s : Int) := by omega
  have i1 : (s : Int) < (n : Int) := by omega
  have j0 : (0 : Int) ≤ (j : Int) := by omega
  have j1 : (j : Int) < (tl : Int) := by omega
  have HK := hide k1
  have HS := hide ksl
  have HA := hide hsa
  clear k1 ksl hc1 hc hx ht hsa
  go_enter Try.func73, Try.ntmps73
  go_wp2_with fail
  go_quiet (fail)
  go_wp2
  go_ret
  exact ⟨b1, o1 + s * 2 + 1, la, ll, lc, rfl, hb1, HK.out, h4, by rw [HA.out]; exact HS.out, bdrewN (Below.refl _ _) _⟩

set_option maxRecDepth 100000 in
theorem specTagLabel_calls (a : Option Addr) (n c : Nat) (ss : List (Int × List Int)) (ta : Option Addr) (tn tc : Nat) (ts : List Int) (da : Option Addr) (dn dc : Nat) (ds : List Int) (p : Int) (w : World) (hrt : RT w a n ss ta tn ts da dn ds) :
    Calls Try.prog 30 #[.agg #[.slice a n c, .slice ta tn tc, .slice da dn dc], .int .i64 p] w fun e w' => ∃ ra rn rc, e = .returned (.agg #[.int .i64 (tgC ss ts ds ts (p - 1)), .slice ra rn rc]) ∧ OS (InR w.heap.size w'.heap.size) ra rn (tgL ss ts ds ts (p - 1)) w' ∧ Below w.heap.size w w' := by
  have M0 := ((Mm.start w).alloc3 (.slice a n c) (.slice ta tn tc) (.slice da dn dc) 29).alloc2 (.int .i64 0) (.slice none 0 0) 42
  simp only [World.size_alloc] at M0
  have hrt0 := hrt.below M0.bel (Nat.le_refl _)
  have hlx := hrt.2.2.2.1.1
  by_cases hf : tabF ss ts ds = 0
  · have ef : (tabF ss ts ds != 0) = false := by simp [hf]
    have HC := hide (tgC_ok (l := ts) (i := p - 1) hf)
    have HL := hide (tgL_ok (l := ts) (i := p - 1) hf)
    obtain ⟨hr, hm, hA1, hA2, _⟩ := tabF_zero hf
    have hml := many_len hm
    have good := good_of hr
    clear hf hm
    by_cases hin : 0 ≤ p - 1 ∧ p - 1 < (tn : Int)
    · have hd : decide (0 ≤ p - 1 ∧ p - 1 < (tn : Int)) = true := decide_eq_true hin
      obtain ⟨j, hj⟩ : ∃ j : Nat, p - 1 = (j : Int) := ⟨(p - 1).toNat, by omega⟩
      obtain rfl : p = (j : Int) + 1 := by omega
      have HC2 : Hid (inC ts ((j : Int) + 1 - 1) = 0) := by show _ = _; rw [hj]; exact inC_yes (by omega)
      have HL2 : Hid (inL ss ts ((j : Int) + 1 - 1) = atL ss (gt ts j)) := by show _ = _; rw [hj]; exact inL_yes (by omega)
      have hjn : j < tn := by omega
      clear hin hj
      go_enter Try.func30, Try.ntmps30
      go_wp2_with fail
      refine (l3Fault_calls _ a n c ss ta tn tc ts da dn dc ds _ (M0.lt 2 rfl) (M0.cell 2 rfl) (M0.cell 3 rfl) (M0.cell 4 rfl) hrt0).mono ?_
      rintro e w1 ⟨rfl, g1⟩
      have M1 := M0.below g1
      have hrt1 := hrt0.below g1 (Nat.le_refl _)
      clear g1 M0 hrt0
      go_wp2_with fail
      refine (l3HasTag_calls _ ta tn tc _ _ (by omega) (M1.cell 3 rfl)).mono ?_
      rintro e w2 ⟨rfl, g2⟩
      rw [hd]
      have M2 := M1.below g2
      have hrt2 := hrt1.below g2 (Nat.le_refl _)
      clear g2 M1 hrt1 hd
      go_wp2_with fail
      refine (l3Tag_calls _ a n c ss ta tn tc ts j _ good (by omega) (M2.cell 2 rfl) (M2.cell 3 rfl) hrt2.2.1 hrt2.2.2.2.1 hA1 hjn).mono ?_
      rintro e w3 ⟨b, o, la, ll, lc, rfl, hb, cb, h4, ksl, g3⟩
      have M3 := M2.below g3
      have cb3 := (g3.cell (p := ⟨b, o, none⟩) hb).trans cb
      have ksl3 := ksl.below g3 (Nat.le_refl _)
      clear g3 M2 hrt2 cb ksl
      go_wp2_with fail
      refine (l1Copy_O la ll lc _ _ (by omega) ksl3).mono ?_
      rintro e w4 ⟨ra, rc, rfl, os4, g4⟩
      have M4 := M3.below g4
      have r0 := M4.cell 0 rfl
      have r1 := M4.cell 1 rfl
      have f0 := M4.fz 0 rfl
      have f1 := M4.fz 1 rfl
      have hl3 := M3.lt 0 rfl
      have hB3 := M3.bel.size
      have HB := hide M4.bel
      have HO := hide os4
      clear M3 M4 g4 os4 cb3 ksl3
      go_wp2
      refine bodyPost_ret (v := .agg #[.int .i64 0, .slice ra ll rc]) (by simp [results, Try.results30, go_sem, r0, r1]) rfl ⟨ra, ll, rc, by rw [HC.out, HC2.out], ?_, (HB.out.setCell (by simp) _).setCell (by simp) _⟩
      rw [HL.out, HL2.out]
      exact (OS.loc w4 _ (fun k hk _ => by rw [Below.heap_setCell _ _ _ _ (fun e => by have := hk.1; simp at e; omega), Below.heap_setCell _ _ _ _ (fun e => by have := hk.1; simp at e; omega)]) HO.out).mono (fun k hk => ⟨by have := hk.1; omega, by simpa using hk.2⟩)
    · have hd : decide (0 ≤ p - 1 ∧ p - 1 < (tn : Int)) = false := decide_eq_false hin
      have HC2 := hide (inC_no (l := ts) (i := p - 1) (by omega))
      have HL2 := hide (inL_no (ss := ss) (l := ts) (i := p - 1) (by omega))
      clear hin
      go_enter Try.func30, Try.ntmps30
      go_wp2_with fail
      refine (l3Fault_calls _ a n c ss ta tn tc ts da dn dc ds _ (M0.lt 2 rfl) (M0.cell 2 rfl) (M0.cell 3 rfl) (M0.cell 4 rfl) hrt0).mono ?_
      rintro e w1 ⟨rfl, g1⟩
      have M1 := M0.below g1
      clear g1 M0 hrt0
      go_wp2_with fail
      refine (l3HasTag_calls _ ta tn tc _ _ (by omega) (M1.cell 3 rfl)).mono ?_
      rintro e w2 ⟨rfl, g2⟩
      rw [hd]
      have M2 := M1.below g2
      have r0 := M2.cell 0 rfl
      have r1 := M2.cell 1 rfl
      have f0 := M2.fz 0 rfl
      have f1 := M2.fz 1 rfl
      have HB := hide M2.bel
      clear g2 M1 M2 hd
      go_wp2
      refine bodyPost_ret (v := .agg #[.int .i64 4, .slice none 0 0]) (by simp [results, Try.results30, go_sem, r0, r1]) rfl ⟨_, 0, 0, by rw [HC.out, HC2.out], ⟨by rw [HL.out, HL2.out]; rfl, by omega, .inl rfl⟩, (HB.out.setCell (by simp) _).setCell (by simp) _⟩
  · have ef : (tabF ss ts ds != 0) = true := by simp [hf]
    have HC := hide (tgC_bad (l := ts) (i := p - 1) hf)
    have HL := hide (tgL_bad (l := ts) (i := p - 1) hf)
    clear hf
    go_enter Try.func30, Try.ntmps30
    go_wp2_with fail
    refine (l3Fault_calls _ a n c ss ta tn tc ts da dn dc ds _ (M0.lt 2 rfl) (M0.cell 2 rfl) (M0.cell 3 rfl) (M0.cell 4 rfl) hrt0).mono ?_
    rintro e w1 ⟨rfl, g1⟩
    have M1 := M0.below g1
    have r0 := M1.cell 0 rfl
    have r1 := M1.cell 1 rfl
    have f0 := M1.fz 0 rfl
    have f1 := M1.fz 1 rfl
    have HB := hide M1.bel
    clear M0 M1 g1 hrt0
    go_wp2
    refine bodyPost_ret (v := .agg #[.int .i64 (tabF ss ts ds), .slice none 0 0]) (by simp [results, Try.results30, go_sem, r0, r1]) rfl ⟨_, 0, 0, by rw [HC.out], ⟨by rw [HL.out]; rfl, by omega, .inl rfl⟩, (HB.out.setCell (by simp) _).setCell (by simp) _⟩

set_option maxRecDepth 100000 in
theorem lastDomain_calls (P : Nat) (a : Option Addr) (n c : Nat) (w : World) (_hn : n ≤ 10) (hc : w.cell? ⟨P, 3, none⟩ = some (.slice a n c)) :
    Calls Try.prog 44 #[.pointer (some ⟨P, 0, none⟩)] w fun e w' => e = .returned (.int .i64 ((n : Int) - 1)) ∧ w' = w := by
  go_enter Try.func44, Try.ntmps44
  go_wp2
  go_ret
  exact ⟨rfl, rfl⟩

set_option maxRecDepth 100000 in
set_option maxHeartbeats 1000000 in
theorem domainLabel_calls (P M n : Nat) (ss : List (Int × List Int)) (D : DataW Unit) (a : Option Addr) (l c : Nat) (ts : List Int) (p : Int) (w : World) (hb : Bk w P M (ss.length : Int) n D) (good : Good ss) (rep : Rep ss D) (ct : w.cell? ⟨P, 3, none⟩ = some (.slice a l c)) (hts : Sl w a l ts) (hl : l ≤ 10) (h1 : allS ss ts = true) :
    Calls Try.prog 54 #[.pointer (some ⟨P, 0, none⟩), .int .i64 p] w fun e w' => ∃ ra rn rc, e = .returned (.agg #[.int .i64 (inC ts (p)), .slice ra rn rc]) ∧ OS (InR w.heap.size w'.heap.size) ra rn (inL ss ts (p)) w' ∧ Below w.heap.size w w' := by
  have hP := hb.lt
  obtain ⟨hlen, hts⟩ := hts
  have M0 := (Mm.start w).alloc2 (.int .i64 0) (.slice none 0 0) 42
  have al := (Below.refl w.heap.size w).alloc (Nat.le_refl _) (.cells #[.int .i64 0, .slice none 0 0] 42)
  have ct0 := (al.cell (p := ⟨P, 3, none⟩) hP).trans ct
  have hb0 := hb.below al
  by_cases hin : 0 ≤ p ∧ p < (l : Int)
  · obtain ⟨j, hj⟩ : ∃ j : Nat, p = (j : Int) := ⟨(p).toNat, by omega⟩
    obtain rfl : p = (j : Int) := by omega
    have hjl : j < l := by omega
    obtain ⟨b, off, rfl, hbb, hc⟩ := hts (by omega)
    have ck := (al.cell (p := ⟨b, off + j, none⟩) hbb).trans (hc j hjl)
    rw [hj]
    have HC := hide (inC_yes (l := ts) (j := j) (by omega))
    have HL := hide (inL_yes (ss := ss) (l := ts) (j := j) (by omega))
    have HA := hide (atC_all h1 (j := j) (by omega))
    have n1 : ¬ ((j : Int) < 0) := by omega
    have n2 : ¬ ((l : Int) - 1 < (j : Int)) := by omega
    have j0 : (0 : Int) ≤ (j : Int) := by omega
    have j1 : (j : Int) < (l : Int) := by omega
    have hj10 : (j : Int) ≤ 10 := by omega
    have hjw : IntKind.i64.wrap (j : Int) = (j : Int) := IntWalk.i64_in _ (by omega)
    have HM0 := hide M0
    have HB0 := hide hb0
    clear M0 al hb0 hin hj
    go_enter Try.func54, Try.ntmps54
    go_wp2_with fail
    refine (lastDomain_calls P _ l c _ hl ct0).mono ?_
    rintro e w1 ⟨rfl, rfl⟩
    go_wp2_with fail
    go_region_with (first
      | (go_at_call 94; refine (labelAt_calls P M n (gt ts j) ss D _ (HB0.out.below ((Below.refl _ _).drew)) good rep).mono ?_; rintro e w2 ⟨ra, rn, rc, rfl, o2, g2⟩; have h2 := ((Below.refl (w.alloc (.cells #[.int .i64 0, .slice none 0 0] 42)).heap.size (w.alloc (.cells #[.int .i64 0, .slice none 0 0] 42))).drew).trans g2; have M2 := HM0.out.below h2; have r0 := M2.cell 0 rfl; have r1 := M2.cell 1 rfl; have f0 := M2.fz 0 rfl; have f1 := M2.fz 1 rfl; have HB2 := hide M2.bel; have HO := hide o2; rw [HA.out]; clear g2 h2 M2 o2))
    all_goals go_wp2
    all_goals refine bodyPost_ret (v := .agg #[.int .i64 0, .slice ra rn rc]) (by simp [results, Try.results54, go_sem, r0, r1]) rfl ⟨ra, rn, rc, by rw [HC.out], ?_, (HB2.out.setCell (Nat.le_refl _) _).setCell (Nat.le_refl _) _⟩
    all_goals rw [HL.out]
    all_goals exact (OS.loc w2 _ (fun k hk _ => by rw [Below.heap_setCell _ _ _ _ (fun e => by have := hk.1; simp at e this; omega), Below.heap_setCell _ _ _ _ (fun e => by have := hk.1; simp at e this; omega)]) HO.out).mono (fun k hk => ⟨by have := hk.1; simp at this; omega, by simpa using hk.2⟩)
  · have HC := hide (inC_no (l := ts) (i := p) (by omega))
    have HL := hide (inL_no (ss := ss) (l := ts) (i := p) (by omega))
    have HB := hide M0.bel
    by_cases h0 : p < 0
    · go_enter Try.func54, Try.ntmps54
      clear M0 al hb0 hin
      go_wp2
      refine bodyPost_ret (v := .agg #[.int .i64 4, .slice none 0 0]) (by simp [results, Try.results54, go_sem]) rfl ⟨_, 0, 0, by rw [HC.out], ⟨by rw [HL.out]; rfl, by omega, .inl rfl⟩, (Below.refl _ _).alloc (Nat.le_refl _) _⟩
    · have h2 : (l : Int) - 1 < p := by omega
      go_enter Try.func54, Try.ntmps54
      clear M0 al hb0 hin
      go_wp2_with fail
      refine (lastDomain_calls P _ l c _ hl ct0).mono ?_
      rintro e w1 ⟨rfl, rfl⟩
      go_wp2
      refine bodyPost_ret (v := .agg #[.int .i64 4, .slice none 0 0]) (by simp [results, Try.results54, go_sem]) rfl ⟨_, 0, 0, by rw [HC.out], ⟨by rw [HL.out]; rfl, by omega, .inl rfl⟩, (Below.refl _ _).alloc (Nat.le_refl _) _⟩

set_option maxRecDepth 100000 in
theorem implDomainLabel_calls (a : Option Addr) (n c : Nat) (ss : List (Int × List Int)) (ta : Option Addr) (tn tc : Nat) (ts : List Int) (da : Option Addr) (dn dc : Nat) (ds : List Int) (p : Int) (w : World) (hrt : RT w a n ss ta tn ts da dn ds) :
    Calls Try.prog 16 #[.agg #[.slice a n c, .slice ta tn tc, .slice da dn dc], .int .i64 p] w fun e w' => ∃ ra rn rc, e = .returned (.agg #[.int .i64 (tgC ss ts ds ds (p)), .slice ra rn rc]) ∧ OS (InR w.heap.size w'.heap.size) ra rn (tgL ss ts ds ds (p)) w' ∧ Below w.heap.size w w' := by
  have M0 := ((Mm.start w).alloc3 (.slice a n c) (.slice ta tn tc) (.slice da dn dc) 29).alloc2 (.int .i64 0) (.slice none 0 0) 42
  simp only [World.size_alloc] at M0
  by_cases hf : tabF ss ts ds = 0
  · have ef : (tabF ss ts ds != 0) = false := by simp [hf]
    have HC := hide (tgC_ok (l := ds) (i := p) hf)
    have HL := hide (tgL_ok (l := ds) (i := p) hf)
    obtain ⟨hr, hm, hA1, hA2, _⟩ := tabF_zero hf
    have hml := many_len hm
    have Hf := hide hf
    clear hf hm
    go_enter Try.func16, Try.ntmps16
    go_wp2_with fail
    refine (openTables_calls a n c ss ta tn tc ts da dn dc ds _ (hrt.below M0.bel (Nat.le_refl _))).mono ?_
    rintro e w1 ⟨sz, mo, xa, xn, xc, ya, yn, yc, rfl, g1, hled⟩
    obtain ⟨rfl, M, X1, X2, X3, rfl, l1, l2, l3, l4, l5, own, ox, oy⟩ := hled Hf.out
    have M1 := (M0.below g1).alloc4 (.int .i64 (ss.length : Int)) (.map (some M)) (.slice xa xn xc) (.slice ya yn yc) 65
    have al := (Below.refl w1.heap.size w1).alloc (Nat.le_refl _) (.cells #[.int .i64 (ss.length : Int), .map (some M), .slice xa xn xc, .slice ya yn yc] 65)
    have hbk : Bk (w1.alloc (.cells #[.int .i64 (ss.length : Int), .map (some M), .slice xa xn xc, .slice ya yn yc] 65)) w1.heap.size M (ss.length : Int) ss.length (bk ss ss.length) := ⟨by simp, by simp, by simp, fun j => by simp, ownsMap_below own al (Nat.le_refl _)⟩
    have ox1 := OS.loc.below al ox
    have oy1 := OS.loc.below al oy
    have hxn := ox.1
    have hyn := oy.1
    have ctl := M1.cell 3 rfl
    clear g1 al ox oy own hled M0
    go_wp2_with fail
    refine (domainLabel_calls w1.heap.size M _ ss _ _ _ _ ds p _ hbk (good_of hr) (rep_bk hr) ctl oy1.sl (by omega) hA2).mono ?_
    rintro e w2 ⟨ra, rn, rc, rfl, os2, g2⟩
    have M2 := M1.below g2
    have r0 := M2.cell 4 rfl
    have r1 := M2.cell 5 rfl
    have f0 := M2.fz 4 rfl
    have f1 := M2.fz 5 rfl
    have hl1 := M1.lt 4 rfl
    have hB2 := M1.bel.size
    have HB := hide M2.bel
    have HO := hide os2
    clear M1 M2 g2 os2 hbk ctl ox1 oy1
    go_wp2
    refine bodyPost_ret (v := .agg #[.int .i64 (inC ds (p)), .slice ra rn rc]) (by simp [results, Try.results16, go_sem, r0, r1]) rfl ⟨ra, rn, rc, by rw [HC.out], ?_, (HB.out.setCell (by simp) _).setCell (by simp) _⟩
    rw [HL.out]
    exact (OS.loc w2 _ (fun k hk _ => by rw [Below.heap_setCell _ _ _ _ (fun e => by have := hk.1; simp at e; omega), Below.heap_setCell _ _ _ _ (fun e => by have := hk.1; simp at e; omega)]) HO.out).mono (fun k hk => ⟨by have := hk.1; omega, by simpa using hk.2⟩)
  · have ef : (tabF ss ts ds != 0) = true := by simp [hf]
    have HC := hide (tgC_bad (l := ds) (i := p) hf)
    have HL := hide (tgL_bad (l := ds) (i := p) hf)
    clear hf
    go_enter Try.func16, Try.ntmps16
    go_wp2_with fail
    refine (openTables_calls a n c ss ta tn tc ts da dn dc ds _ (hrt.below M0.bel (Nat.le_refl _))).mono ?_
    rintro e w1 ⟨sz, mo, xa, xn, xc, ya, yn, yc, rfl, g1, _⟩
    have M1 := (M0.below g1).alloc4 (.int .i64 sz) (.map mo) (.slice xa xn xc) (.slice ya yn yc) 65
    have r0 := M1.cell 4 rfl
    have r1 := M1.cell 5 rfl
    have f0 := M1.fz 4 rfl
    have f1 := M1.fz 5 rfl
    have HB := hide M1.bel
    clear M0 M1 g1
    go_wp2
    refine bodyPost_ret (v := .agg #[.int .i64 (tabF ss ts ds), .slice none 0 0]) (by simp [results, Try.results16, go_sem, r0, r1]) rfl ⟨_, 0, 0, by rw [HC.out], ⟨by rw [HL.out]; rfl, by omega, .inl rfl⟩, (HB.out.setCell (by simp) _).setCell (by simp) _⟩

set_option maxRecDepth 100000 in
theorem l3HasDomain_calls (q : Nat) (a : Option Addr) (n c : Nat) (p : Int) (w : World) (_hn : n ≤ 10) (hc : w.cell? ⟨q, 2, none⟩ = some (.slice a n c)) :
    Calls Try.prog 61 #[.pointer (some ⟨q, 0, none⟩), .int .i64 p] w fun e w' => e = .returned (.bool (decide (0 ≤ p ∧ p < (n : Int)))) ∧ Below w.heap.size w w' := by
  go_enter Try.func61, Try.ntmps61
  go_wp2_with fail
  refine (in_calls _ _ _ _).mono ?_
  rintro e w1 ⟨rfl, g1⟩
  go_wp2
  go_ret
  exact ⟨ret_bool (by rw [Bool.eq_iff_iff]; simp; omega), g1⟩

set_option maxRecDepth 100000 in
theorem l3Domain_calls (q : Nat) (a : Option Addr) (n ca : Nat) (ss : List (Int × List Int)) (ta : Option Addr) (tl tc : Nat) (ts : List Int) (j : Nat) (w : World) (good : Good ss) (htl : tl ≤ 10) (hqc : w.cell? ⟨q, 0, none⟩ = some (.slice a n ca)) (hqt : w.cell? ⟨q, 2, none⟩ = some (.slice ta tl tc)) (hx : Sls w a n ss) (ht : Sl w ta tl ts) (h1 : allS ss ts = true) (hj : j < tl) :
    Calls Try.prog 65 #[.pointer (some ⟨q, 0, none⟩), .int .i64 ((j : Int))] w fun e w' => ∃ b o la ll lc, e = .returned (.pointer (some ⟨b, o, none⟩)) ∧ b < w.heap.size ∧ w.cell? ⟨b, o, none⟩ = some (.slice la ll lc) ∧ ll ≤ 4 ∧ Sl w la ll (atL ss (gt ts j)) ∧ Below w.heap.size w w' := by
  have hlen := hx.1
  have few := good.few
  have htlen := ht.1
  obtain ⟨b, off, rfl, hbb, hc⟩ := ht.2 (by omega)
  obtain ⟨s, hs, hsl, hsp, hsa⟩ := allS_at good h1 (j := j) (by omega)
  have ck := hc j hj
  rw [hs] at ck
  obtain ⟨b1, o1, rfl, hb1, hc1⟩ := hx.2 (by omega)
  obtain ⟨_, la, ll, lc, k1, kl, ksl⟩ := hc1 s (by omega)
  have h4 : ll ≤ 4 := by rw [← ksl.1, fault_len (good.right s hsl hsp)]; omega
  have i0 : (0 : Int) ≤ (s : Int) := by omega
  have i1 : (s : Int) < (n : Int) := by omega
  have j0 : (0 : Int) ≤ (j : Int) := by omega
  have j1 : (j : Int) < (tl : Int) := by omega
  have HK := hide k1
  have HS := hide ksl
  have HA := hide hsa
  clear k1 ksl hc1 hc hx ht hsa
  go_enter Try.func65, Try.ntmps65
  go_wp2_with fail
  go_quiet (fail)
  go_wp2
  go_ret
  exact ⟨b1, o1 + s * 2 + 1, la, ll, lc, rfl, hb1, HK.out, h4, by rw [HA.out]; exact HS.out, bdrewN (Below.refl _ _) _⟩

set_option maxRecDepth 100000 in
theorem specDomainLabel_calls (a : Option Addr) (n c : Nat) (ss : List (Int × List Int)) (ta : Option Addr) (tn tc : Nat) (ts : List Int) (da : Option Addr) (dn dc : Nat) (ds : List Int) (p : Int) (w : World) (hrt : RT w a n ss ta tn ts da dn ds) :
    Calls Try.prog 23 #[.agg #[.slice a n c, .slice ta tn tc, .slice da dn dc], .int .i64 p] w fun e w' => ∃ ra rn rc, e = .returned (.agg #[.int .i64 (tgC ss ts ds ds (p)), .slice ra rn rc]) ∧ OS (InR w.heap.size w'.heap.size) ra rn (tgL ss ts ds ds (p)) w' ∧ Below w.heap.size w w' := by
  have M0 := ((Mm.start w).alloc3 (.slice a n c) (.slice ta tn tc) (.slice da dn dc) 29).alloc2 (.int .i64 0) (.slice none 0 0) 42
  simp only [World.size_alloc] at M0
  have hrt0 := hrt.below M0.bel (Nat.le_refl _)
  have hlx := hrt.2.2.2.2.2.1
  by_cases hf : tabF ss ts ds = 0
  · have ef : (tabF ss ts ds != 0) = false := by simp [hf]
    have HC := hide (tgC_ok (l := ds) (i := p) hf)
    have HL := hide (tgL_ok (l := ds) (i := p) hf)
    obtain ⟨hr, hm, hA1, hA2, _⟩ := tabF_zero hf
    have hml := many_len hm
    have good := good_of hr
    clear hf hm
    by_cases hin : 0 ≤ p ∧ p < (dn : Int)
    · have hd : decide (0 ≤ p ∧ p < (dn : Int)) = true := decide_eq_true hin
      obtain ⟨j, hj⟩ : ∃ j : Nat, p = (j : Int) := ⟨(p).toNat, by omega⟩
      obtain rfl : p = (j : Int) := by omega
      have HC2 : Hid (inC ds ((j : Int)) = 0) := by show _ = _; rw [hj]; exact inC_yes (by omega)
      have HL2 : Hid (inL ss ds ((j : Int)) = atL ss (gt ds j)) := by show _ = _; rw [hj]; exact inL_yes (by omega)
      have hjn : j < dn := by omega
      clear hin hj
      go_enter Try.func23, Try.ntmps23
      go_wp2_with fail
      refine (l3Fault_calls _ a n c ss ta tn tc ts da dn dc ds _ (M0.lt 2 rfl) (M0.cell 2 rfl) (M0.cell 3 rfl) (M0.cell 4 rfl) hrt0).mono ?_
      rintro e w1 ⟨rfl, g1⟩
      have M1 := M0.below g1
      have hrt1 := hrt0.below g1 (Nat.le_refl _)
      clear g1 M0 hrt0
      go_wp2_with fail
      refine (l3HasDomain_calls _ da dn dc _ _ (by omega) (M1.cell 4 rfl)).mono ?_
      rintro e w2 ⟨rfl, g2⟩
      rw [hd]
      have M2 := M1.below g2
      have hrt2 := hrt1.below g2 (Nat.le_refl _)
      clear g2 M1 hrt1 hd
      go_wp2_with fail
      refine (l3Domain_calls _ a n c ss da dn dc ds j _ good (by omega) (M2.cell 2 rfl) (M2.cell 4 rfl) hrt2.2.1 hrt2.2.2.2.2.2 hA2 hjn).mono ?_
      rintro e w3 ⟨b, o, la, ll, lc, rfl, hb, cb, h4, ksl, g3⟩
      have M3 := M2.below g3
      have cb3 := (g3.cell (p := ⟨b, o, none⟩) hb).trans cb
      have ksl3 := ksl.below g3 (Nat.le_refl _)
      clear g3 M2 hrt2 cb ksl
      go_wp2_with fail
      refine (l1Copy_O la ll lc _ _ (by omega) ksl3).mono ?_
      rintro e w4 ⟨ra, rc, rfl, os4, g4⟩
      have M4 := M3.below g4
      have r0 := M4.cell 0 rfl
      have r1 := M4.cell 1 rfl
      have f0 := M4.fz 0 rfl
      have f1 := M4.fz 1 rfl
      have hl3 := M3.lt 0 rfl
      have hB3 := M3.bel.size
      have HB := hide M4.bel
      have HO := hide os4
      clear M3 M4 g4 os4 cb3 ksl3
      go_wp2
      refine bodyPost_ret (v := .agg #[.int .i64 0, .slice ra ll rc]) (by simp [results, Try.results23, go_sem, r0, r1]) rfl ⟨ra, ll, rc, by rw [HC.out, HC2.out], ?_, (HB.out.setCell (by simp) _).setCell (by simp) _⟩
      rw [HL.out, HL2.out]
      exact (OS.loc w4 _ (fun k hk _ => by rw [Below.heap_setCell _ _ _ _ (fun e => by have := hk.1; simp at e; omega), Below.heap_setCell _ _ _ _ (fun e => by have := hk.1; simp at e; omega)]) HO.out).mono (fun k hk => ⟨by have := hk.1; omega, by simpa using hk.2⟩)
    · have hd : decide (0 ≤ p ∧ p < (dn : Int)) = false := decide_eq_false hin
      have HC2 := hide (inC_no (l := ds) (i := p) (by omega))
      have HL2 := hide (inL_no (ss := ss) (l := ds) (i := p) (by omega))
      clear hin
      go_enter Try.func23, Try.ntmps23
      go_wp2_with fail
      refine (l3Fault_calls _ a n c ss ta tn tc ts da dn dc ds _ (M0.lt 2 rfl) (M0.cell 2 rfl) (M0.cell 3 rfl) (M0.cell 4 rfl) hrt0).mono ?_
      rintro e w1 ⟨rfl, g1⟩
      have M1 := M0.below g1
      clear g1 M0 hrt0
      go_wp2_with fail
      refine (l3HasDomain_calls _ da dn dc _ _ (by omega) (M1.cell 4 rfl)).mono ?_
      rintro e w2 ⟨rfl, g2⟩
      rw [hd]
      have M2 := M1.below g2
      have r0 := M2.cell 0 rfl
      have r1 := M2.cell 1 rfl
      have f0 := M2.fz 0 rfl
      have f1 := M2.fz 1 rfl
      have HB := hide M2.bel
      clear g2 M1 M2 hd
      go_wp2
      refine bodyPost_ret (v := .agg #[.int .i64 4, .slice none 0 0]) (by simp [results, Try.results23, go_sem, r0, r1]) rfl ⟨_, 0, 0, by rw [HC.out, HC2.out], ⟨by rw [HL.out, HL2.out]; rfl, by omega, .inl rfl⟩, (HB.out.setCell (by simp) _).setCell (by simp) _⟩
  · have ef : (tabF ss ts ds != 0) = true := by simp [hf]
    have HC := hide (tgC_bad (l := ds) (i := p) hf)
    have HL := hide (tgL_bad (l := ds) (i := p) hf)
    clear hf
    go_enter Try.func23, Try.ntmps23
    go_wp2_with fail
    refine (l3Fault_calls _ a n c ss ta tn tc ts da dn dc ds _ (M0.lt 2 rfl) (M0.cell 2 rfl) (M0.cell 3 rfl) (M0.cell 4 rfl) hrt0).mono ?_
    rintro e w1 ⟨rfl, g1⟩
    have M1 := M0.below g1
    have r0 := M1.cell 0 rfl
    have r1 := M1.cell 1 rfl
    have f0 := M1.fz 0 rfl
    have f1 := M1.fz 1 rfl
    have HB := hide M1.bel
    clear M0 M1 g1 hrt0
    go_wp2
    refine bodyPost_ret (v := .agg #[.int .i64 (tabF ss ts ds), .slice none 0 0]) (by simp [results, Try.results23, go_sem, r0, r1]) rfl ⟨_, 0, 0, by rw [HC.out], ⟨by rw [HL.out]; rfl, by omega, .inl rfl⟩, (HB.out.setCell (by simp) _).setCell (by simp) _⟩

set_option maxRecDepth 100000 in
theorem specTablesFault_calls (a : Option Addr) (n ca : Nat) (ss : List (Int × List Int)) (ta : Option Addr) (tl tc : Nat) (ts : List Int) (da : Option Addr) (dl dc : Nat) (ds : List Int) (w : World) (hrt : RT w a n ss ta tl ts da dl ds) :
    Calls Try.prog 18 #[.agg #[.slice a n ca, .slice ta tl tc, .slice da dl dc]] w fun e w' => e = .returned (.int .i64 (tabF ss ts ds)) ∧ Below w.heap.size w w' := by
  have M0 := (Mm.start w).alloc3 (.slice a n ca) (.slice ta tl tc) (.slice da dl dc) 29
  go_enter Try.func18, Try.ntmps18
  go_wp2_with fail
  refine (l3Fault_calls _ a n ca ss ta tl tc ts da dl dc ds _ (M0.lt 0 rfl) (M0.cell 0 rfl) (M0.cell 1 rfl) (M0.cell 2 rfl) (hrt.below M0.bel (Nat.le_refl _))).mono ?_
  rintro e w1 ⟨rfl, g1⟩
  have HE := hide (M0.below g1).bel
  clear g1 M0
  go_wp2
  go_ret
  exact ⟨rfl, HE.out⟩

set_option maxRecDepth 100000 in
theorem implTablesFault_calls (a : Option Addr) (n ca : Nat) (ss : List (Int × List Int)) (ta : Option Addr) (tl tc : Nat) (ts : List Int) (da : Option Addr) (dl dc : Nat) (ds : List Int) (w : World) (hrt : RT w a n ss ta tl ts da dl ds) :
    Calls Try.prog 13 #[.agg #[.slice a n ca, .slice ta tl tc, .slice da dl dc]] w fun e w' => e = .returned (.int .i64 (tabF ss ts ds)) ∧ Below w.heap.size w w' := by
  have M0 := (Mm.start w).alloc3 (.slice a n ca) (.slice ta tl tc) (.slice da dl dc) 29
  go_enter Try.func13, Try.ntmps13
  go_wp2_with fail
  refine (openTables_calls a n ca ss ta tl tc ts da dl dc ds _ (hrt.below M0.bel (Nat.le_refl _))).mono ?_
  rintro e w1 ⟨sz, mo, xa, xn, xc, ya, yn, yc, rfl, g1, _⟩
  have HE := hide (M0.below g1).bel
  clear g1 M0
  go_wp2
  go_ret
  exact ⟨rfl, HE.out.alloc HE.out.size _⟩

/-- right tables, as one fact. -/
structure Tb (ss : List (Int × List Int)) (ts ds : List Int) : Prop where
  good : Good ss
  nt : ts.length ≤ 6
  nd : ds.length ≤ 4
  tg : ∀ s ∈ ts, ∃ q : Nat, s = (q : Int) ∧ q < ss.length ∧ 0 < gc ss q ∧ thing0 (gl ss q) = true
  dm : ∀ s ∈ ds, ∃ q : Nat, s = (q : Int) ∧ q < ss.length ∧ 0 < gc ss q ∧ lowB (gl ss q) = true
  cn : ∀ i, i < ss.length → gc ss i = cnt ts i + cnt ds i

theorem atL_at {ss : List (Int × List Int)} {q : Nat} (hq : q < ss.length) (hp : 0 < gc ss q) : atC ss (q : Int) = 0 ∧ atL ss (q : Int) = gl ss q := by
  have h1 : atC ss (q : Int) = 0 := by rw [atC_in hq, if_neg (by omega)]
  exact ⟨h1, by unfold atL; rw [if_pos h1]; rfl⟩

theorem thing_of {zs : List Int} (h : fault zs = 0) : thingB zs = thing0 zs := by simp [thingB, thing0, h]

theorem slot_of {ss : List (Int × List Int)} (g : Good ss) {s : Int} (h : okS ss s = true) : ∃ q : Nat, s = (q : Int) ∧ q < ss.length ∧ 0 < gc ss q := by
  have h1 : atC ss s = 0 := of_decide_eq_true h
  obtain ⟨q, e, hq, hp, _⟩ := atC_zero g h1
  exact ⟨q, e, hq, hp⟩

theorem tb_of {ss : List (Int × List Int)} {ts ds : List Int} (h : tabF ss ts ds = 0) : Tb ss ts ds := by
  obtain ⟨hr, hm, a1, a2, t1, l1, hc⟩ := tabF_zero h
  have g := good_of hr
  obtain ⟨n1, n2⟩ := many_len hm
  refine ⟨g, n1, n2, fun s hs => ?_, fun s hs => ?_, fun i hi => ?_⟩
  · obtain ⟨q, e, hq, hp⟩ := slot_of g (List.all_eq_true.1 a1 s hs)
    have h1 := List.all_eq_true.1 t1 (atL ss s) (List.mem_map_of_mem hs)
    rw [e, (atL_at hq hp).2, thing_of (g.right q hq hp)] at h1
    exact ⟨q, e, hq, hp, h1⟩
  · obtain ⟨q, e, hq, hp⟩ := slot_of g (List.all_eq_true.1 a2 s hs)
    have h1 := List.all_eq_true.1 l1 (atL ss s) (List.mem_map_of_mem hs)
    rw [e, (atL_at hq hp).2] at h1
    exact ⟨q, e, hq, hp, h1⟩
  · unfold cntB at hc
    exact of_decide_eq_true (List.all_eq_true.1 hc i (List.mem_range.2 hi))

theorem Tb.tab {ss : List (Int × List Int)} {ts ds : List Int} (h : Tb ss ts ds) : tabF ss ts ds = 0 := by
  have hr := fault_of_good h.good
  have hm : manyB ts ds = false := by have := h.nt; have := h.nd; simp [manyB]; omega
  have a1 : allS ss ts = true := List.all_eq_true.2 fun s hs => by
    obtain ⟨q, e, hq, hp, _⟩ := h.tg s hs
    rw [e]; exact decide_eq_true (atL_at hq hp).1
  have a2 : allS ss ds = true := List.all_eq_true.2 fun s hs => by
    obtain ⟨q, e, hq, hp, _⟩ := h.dm s hs
    rw [e]; exact decide_eq_true (atL_at hq hp).1
  have t1 : thingsB (labs ss ts) = true := List.all_eq_true.2 fun z hz => by
    obtain ⟨s, hs, rfl⟩ := List.mem_map.1 hz
    obtain ⟨q, e, hq, hp, ht⟩ := h.tg s hs
    rw [e, (atL_at hq hp).2, thing_of (h.good.right q hq hp)]; exact ht
  have l1 : lowsB (labs ss ds) = true := List.all_eq_true.2 fun z hz => by
    obtain ⟨s, hs, rfl⟩ := List.mem_map.1 hz
    obtain ⟨q, e, hq, hp, ht⟩ := h.dm s hs
    rw [e, (atL_at hq hp).2]; exact ht
  have hc : cntB ss ts ds = true := List.all_eq_true.2 fun i hi => decide_eq_true (h.cn i (List.mem_range.1 hi))
  unfold tabF
  rw [if_pos hr, if_neg (by simp [hm])]
  simp [ledF, a1, a2, t1, l1, hc]

theorem cnt_snoc (l : List Int) (x : Int) (i : Nat) : cnt (l ++ [x]) i = cnt l i + (if x = (i : Int) then 1 else 0) := by
  unfold cnt
  rw [List.filter_append, List.length_append]
  by_cases h : x = (i : Int)
  · simp [h]
  · simp [h]

theorem cnt_mem {l : List Int} {i : Nat} (h : (i : Int) ∈ l) : 1 ≤ cnt l i := by
  unfold cnt
  have : 0 < (l.filter (fun s => s == (i : Int))).length := List.length_pos_of_mem (List.mem_filter.2 ⟨h, by simp⟩)
  omega

theorem cnt_out {l : List Int} {n i : Nat} (h : ∀ s ∈ l, ∃ q : Nat, s = (q : Int) ∧ q < n) (hi : n ≤ i) : cnt l i = 0 := by
  unfold cnt
  have : l.filter (fun s => s == (i : Int)) = [] := by
    rw [List.filter_eq_nil_iff]
    intro s hs e
    obtain ⟨q, e1, hq⟩ := h s hs
    have e2 : s = (i : Int) := by simpa using e
    omega
  rw [this]
  rfl

theorem gc_out {ss : List (Int × List Int)} {i : Nat} (h : ss.length ≤ i) : gc ss i = 0 := by
  unfold gc
  simp [List.getElem?_eq_none h]

theorem gc_enQ {ss : List (Int × List Int)} (zs : List Int) : gc ss (enQ ss zs) = enN ss zs := by
  rcases at2_cases ss zs with ⟨h1, _⟩ | ⟨j, _, h1, _⟩
  · have e1 : enQ ss zs = fe ss := if_pos (by omega)
    have e2 : enN ss zs = 0 := if_pos (by omega)
    rw [e1, e2]
    rcases Nat.lt_or_ge (fe ss) ss.length with h | h
    · exact fe_gc h
    · exact gc_out h
  · have e1 : enQ ss zs = (at2 ss zs).toNat := if_neg (by omega)
    have e2 : enN ss zs = gc ss (at2 ss zs).toNat := if_neg (by omega)
    rw [e1, e2]

theorem gc_en {ss : List (Int × List Int)} (g : Good ss) (zs : List Int) (i : Nat) : gc (enS ss zs) i = gc ss i + (if i = enQ ss zs then 1 else 0) := by
  have hq := (en_facts g (zs := zs)).1
  unfold enS
  rw [gc_put _ hq]
  by_cases h : i = enQ ss zs
  · rw [if_pos h, if_pos h, h, gc_enQ]
  · rw [if_neg h, if_neg h]; omega

theorem gl_en {ss : List (Int × List Int)} (g : Good ss) (zs : List Int) {i : Nat} (hi : i < ss.length) (hp : 0 < gc ss i) : gl (enS ss zs) i = gl ss i := by
  obtain ⟨hq, _, _, _, h5⟩ := en_facts g (zs := zs)
  unfold enS
  rw [gl_put _ hq]
  by_cases h : i = enQ ss zs
  · rw [if_pos h]
    subst h
    exact (h5 hi hp).symm
  · rw [if_neg h]

theorem gl_enQ {ss : List (Int × List Int)} (g : Good ss) (zs : List Int) : gl (enS ss zs) (enQ ss zs) = zs := by
  have hq := (en_facts g (zs := zs)).1
  unfold enS
  rw [gl_put _ hq, if_pos rfl]

theorem len_en {ss : List (Int × List Int)} (g : Good ss) (zs : List Int) : (enS ss zs).length = max ss.length (enQ ss zs + 1) := length_layS _ (en_facts g).1

/-- what was meant is meant behind an entering, with its label; what was entered is there. -/
theorem en_at {ss : List (Int × List Int)} (g : Good ss) {zs : List Int} {q : Nat} (hq : q < ss.length) (hp : 0 < gc ss q) : q < (enS ss zs).length ∧ 0 < gc (enS ss zs) q ∧ gl (enS ss zs) q = gl ss q := by
  refine ⟨by rw [len_en g]; omega, ?_, gl_en g zs hq hp⟩
  rw [gc_en g]
  split <;> omega

theorem en_new {ss : List (Int × List Int)} (g : Good ss) {zs : List Int} : enQ ss zs < (enS ss zs).length ∧ 0 < gc (enS ss zs) (enQ ss zs) ∧ gl (enS ss zs) (enQ ss zs) = zs := by
  refine ⟨by rw [len_en g]; omega, ?_, gl_enQ g zs⟩
  rw [gc_en g, if_pos rfl]
  have h0 : 0 ≤ gc ss (enQ ss zs) := by rw [gc_enQ]; exact (en_facts g (zs := zs)).2.1
  omega

theorem Tb.cn' {ss : List (Int × List Int)} {ts ds : List Int} (h : Tb ss ts ds) (i : Nat) : gc ss i = cnt ts i + cnt ds i := by
  rcases Nat.lt_or_ge i ss.length with hi | hi
  · exact h.cn i hi
  · rw [gc_out hi, cnt_out (fun s hs => by obtain ⟨q, e, hq, _⟩ := h.tg s hs; exact ⟨q, e, hq⟩) hi, cnt_out (fun s hs => by obtain ⟨q, e, hq, _⟩ := h.dm s hs; exact ⟨q, e, hq⟩) hi]
    rfl

theorem Tb.addTag {ss : List (Int × List Int)} {ts ds zs : List Int} (h : Tb ss ts ds) (hz : fault zs = 0) (ht : thing0 zs = true) (hn : ts.length ≤ 5) (he : etC ss zs = 0) : Tb (enS ss zs) (ts ++ [(enQ ss zs : Int)]) ds := by
  refine ⟨good_enter h.good hz he, by simp; omega, h.nd, fun s hs => ?_, fun s hs => ?_, fun i _ => ?_⟩
  · rcases List.mem_append.1 hs with hs | hs
    · obtain ⟨q, e, hq, hp, hl⟩ := h.tg s hs
      obtain ⟨a, b, c⟩ := en_at h.good (zs := zs) hq hp
      exact ⟨q, e, a, b, by rw [c]; exact hl⟩
    · obtain ⟨a, b, c⟩ := en_new h.good (zs := zs)
      exact ⟨_, by simpa using hs, a, b, by rw [c]; exact ht⟩
  · obtain ⟨q, e, hq, hp, hl⟩ := h.dm s hs
    obtain ⟨a, b, c⟩ := en_at h.good (zs := zs) hq hp
    exact ⟨q, e, a, b, by rw [c]; exact hl⟩
  · rw [gc_en h.good, cnt_snoc, h.cn' i]
    by_cases e : i = enQ ss zs
    · rw [if_pos e, if_pos (by omega)]; omega
    · rw [if_neg e, if_neg (by omega)]; omega

theorem Tb.addDom {ss : List (Int × List Int)} {ts ds zs : List Int} (h : Tb ss ts ds) (hz : fault zs = 0) (ht : lowB zs = true) (hn : ds.length ≤ 3) (he : etC ss zs = 0) : Tb (enS ss zs) ts (ds ++ [(enQ ss zs : Int)]) := by
  refine ⟨good_enter h.good hz he, h.nt, by simp; omega, fun s hs => ?_, fun s hs => ?_, fun i _ => ?_⟩
  · obtain ⟨q, e, hq, hp, hl⟩ := h.tg s hs
    obtain ⟨a, b, c⟩ := en_at h.good (zs := zs) hq hp
    exact ⟨q, e, a, b, by rw [c]; exact hl⟩
  · rcases List.mem_append.1 hs with hs | hs
    · obtain ⟨q, e, hq, hp, hl⟩ := h.dm s hs
      obtain ⟨a, b, c⟩ := en_at h.good (zs := zs) hq hp
      exact ⟨q, e, a, b, by rw [c]; exact hl⟩
    · obtain ⟨a, b, c⟩ := en_new h.good (zs := zs)
      exact ⟨_, by simpa using hs, a, b, by rw [c]; exact ht⟩
  · rw [gc_en h.good, cnt_snoc, h.cn' i]
    by_cases e : i = enQ ss zs
    · rw [if_pos e, if_pos (by omega)]; omega
    · rw [if_neg e, if_neg (by omega)]; omega

/-- what is meant besides keeps its label behind a leaving. -/
theorem lv_at {ss : List (Int × List Int)} {p q : Nat} (hp : p < ss.length) (hq : 0 < gc ss q) (h2 : q = p → 2 ≤ gc ss p) : 0 < gc (leaveS ss p) q ∧ gl (leaveS ss p) q = gl ss q := by
  rw [gc_leave hp, gl_leave hp]
  by_cases e : q = p
  · have := h2 e
    subst e
    rw [if_pos rfl, if_pos rfl, if_neg (by omega)]
    exact ⟨by omega, rfl⟩
  · rw [if_neg e, if_neg e]
    exact ⟨hq, rfl⟩

theorem Tb.dropTag {ss : List (Int × List Int)} {ts ds : List Int} {q : Nat} (h : Tb ss (ts ++ [(q : Int)]) ds) : Tb (leaveS ss q) ts ds := by
  have hmem : (q : Int) ∈ ts ++ [(q : Int)] := by simp
  obtain ⟨q', e, hq, hp, _⟩ := h.tg _ hmem
  obtain rfl : q = q' := by omega
  have hcq := h.cn q hq
  rw [cnt_snoc, if_pos rfl] at hcq
  have c1 := (cnt_le ts q).1
  have c2 := (cnt_le ds q).1
  refine ⟨good_leave h.good hq hp, by have := h.nt; simp at this; omega, h.nd, fun s hs => ?_, fun s hs => ?_, fun i hi => ?_⟩
  · obtain ⟨j, e, hj, hjp, hl⟩ := h.tg s (List.mem_append_left _ hs)
    obtain ⟨a, b⟩ := lv_at hq hjp (fun ej => by have := cnt_mem (l := ts) (i := q) (by rw [← ej, ← e]; exact hs); omega)
    exact ⟨j, e, by rw [length_leaveS]; exact hj, a, by rw [b]; exact hl⟩
  · obtain ⟨j, e, hj, hjp, hl⟩ := h.dm s hs
    obtain ⟨a, b⟩ := lv_at hq hjp (fun ej => by have := cnt_mem (l := ds) (i := q) (by rw [← ej, ← e]; exact hs); omega)
    exact ⟨j, e, by rw [length_leaveS]; exact hj, a, by rw [b]; exact hl⟩
  · rw [length_leaveS] at hi
    have hci := h.cn i hi
    rw [cnt_snoc] at hci
    rw [gc_leave hq]
    by_cases ei : i = q
    · subst ei
      rw [if_pos rfl] at hci ⊢
      omega
    · rw [if_neg ei]
      rw [if_neg (by omega)] at hci
      omega

theorem last_of {ts : List Int} (h : 0 < ts.length) : ts = ts.take (ts.length - 1) ++ [gt ts (ts.length - 1)] := by
  have h1 := List.take_succ_eq_append_getElem (l := ts) (i := ts.length - 1) (by omega)
  have h2 : gt ts (ts.length - 1) = ts[ts.length - 1]'(by omega) := by simp [gt, show ts.length - 1 < ts.length by omega]
  rw [h2, ← h1, Nat.sub_add_cancel (by omega), List.take_length]

/-- a tag that was dropped. -/
theorem dt_right {ss : List (Int × List Int)} {ts ds : List Int} (h : dtC ss ts ds = 0) : tabF (dtS ss ts ds) (dtT ss ts ds) (dtD ss ts ds) = 0 ∧ (dtT ss ts ds).length + 1 = ts.length := by
  have hS : dtS ss ts ds = leaveS ss (gt ts (ts.length - 1)).toNat := if_pos h
  have hT : dtT ss ts ds = ts.take (ts.length - 1) := if_pos h
  have hD : dtD ss ts ds = ds := if_pos h
  unfold dtC at h
  split at h
  · rename_i ht
    split at h
    · cases h
    · rename_i hn
      have tb := tb_of ht
      have hl := last_of (ts := ts) (by omega)
      obtain ⟨q, e, _⟩ := tb.tg (gt ts (ts.length - 1)) (by simp [gt, show ts.length - 1 < ts.length by omega])
      rw [hS, hT, hD, e]
      refine ⟨?_, by simp; omega⟩
      rw [hl, e] at tb
      exact tb.dropTag.tab
  · rename_i ht; exact absurd h ht

theorem inL_at {ss : List (Int × List Int)} {l : List Int} {j q : Nat} (hj : j < l.length) (e : gt l j = (q : Int)) (hq : q < ss.length) (hp : 0 < gc ss q) : inL ss l (j : Int) = gl ss q := by
  unfold inL
  rw [if_pos (inC_yes hj)]
  simp only [Int.toNat_natCast]
  rw [e, (atL_at hq hp).2]

theorem gt_snoc_at (l : List Int) (x : Int) : gt (l ++ [x]) l.length = x := by simp [gt]

theorem gt_snoc_lt {l : List Int} {j : Nat} (x : Int) (h : j < l.length) : gt (l ++ [x]) j = gt l j := by simp [gt, List.getElem?_append_left, h]

/-- a domain that was added. -/
theorem ad_right {ss : List (Int × List Int)} {ts ds zs : List Int} (h : adC ss ts ds zs = 0) : tabF (adS ss ts ds zs) (adT ss ts ds zs) (adD ss ts ds zs) = 0 ∧ tgL (adS ss ts ds zs) (adT ss ts ds zs) (adD ss ts ds zs) (adD ss ts ds zs) (adV ss ts ds zs) = zs := by
  have hS : adS ss ts ds zs = enS ss zs := if_pos h
  have hT : adT ss ts ds zs = ts := if_pos h
  have hD : adD ss ts ds zs = ds ++ [(enQ ss zs : Int)] := if_pos h
  have hV : adV ss ts ds zs = (ds.length : Int) := if_pos h
  rw [hS, hT, hD, hV]
  unfold adC at h
  by_cases h0 : otF ss ts ds zs = 0
  · rw [if_pos h0] at h
    obtain ⟨hf, hz⟩ := otF_zero h0
    have tb := tb_of hf
    by_cases h1 : lowB zs = true
    · rw [if_pos h1] at h
      by_cases h2 : ds.length = 4
      · rw [if_pos h2] at h; cases h
      · rw [if_neg h2] at h
        have tb2 := tb.addDom hz h1 (by have := tb.nd; omega) h
        refine ⟨tb2.tab, ?_⟩
        rw [tgL_ok tb2.tab]
        obtain ⟨a, b, c⟩ := en_new tb.good (zs := zs)
        rw [inL_at (by simp) (gt_snoc_at ds _) a b, c]
    · rw [if_neg h1] at h; cases h
  · rw [if_neg h0] at h; exact absurd h h0

/-- a tag that was added. -/
theorem ag_right {ss : List (Int × List Int)} {ts ds zs : List Int} (h : agC ss ts ds zs = 0) :
    tabF (agS ss ts ds zs) (agT ss ts ds zs) (agD ss ts ds zs) = 0 ∧ agV ss ts ds zs = (ts.length : Int) + 1 ∧ tgL (agS ss ts ds zs) (agT ss ts ds zs) (agD ss ts ds zs) (agT ss ts ds zs) (agV ss ts ds zs - 1) = zs ∧
      (∀ j, j < ts.length → tgL (agS ss ts ds zs) (agT ss ts ds zs) (agD ss ts ds zs) (agT ss ts ds zs) (j : Int) = tgL ss ts ds ts (j : Int)) ∧
      dtC (agS ss ts ds zs) (agT ss ts ds zs) (agD ss ts ds zs) = 0 ∧ dtT (agS ss ts ds zs) (agT ss ts ds zs) (agD ss ts ds zs) = ts ∧ tgC ss ts ds ts (agV ss ts ds zs - 1) = 4 := by
  have hS : agS ss ts ds zs = enS ss zs := if_pos h
  have hT : agT ss ts ds zs = ts ++ [(enQ ss zs : Int)] := if_pos h
  have hD : agD ss ts ds zs = ds := if_pos h
  have hV : agV ss ts ds zs = (ts.length : Int) + 1 := if_pos h
  rw [hS, hT, hD, hV]
  unfold agC at h
  by_cases h0 : otF ss ts ds zs = 0
  · rw [if_pos h0] at h
    obtain ⟨hf, hz⟩ := otF_zero h0
    have tb := tb_of hf
    by_cases h1 : thing0 zs = true
    · rw [if_pos h1] at h
      by_cases h2 : ts.length = 6
      · rw [if_pos h2] at h; cases h
      · rw [if_neg h2] at h
        have tb2 := tb.addTag hz h1 (by have := tb.nt; omega) h
        have e1 : (ts.length : Int) + 1 - 1 = (ts.length : Int) := by omega
        have hdc : dtC (enS ss zs) (ts ++ [(enQ ss zs : Int)]) ds = 0 := dt_ok tb2.tab (by simp)
        refine ⟨tb2.tab, rfl, ?_, fun j hj => ?_, hdc, ?_, ?_⟩
        · rw [tgL_ok tb2.tab, e1]
          obtain ⟨a, b, c⟩ := en_new tb.good (zs := zs)
          rw [inL_at (by simp) (gt_snoc_at ts _) a b, c]
        · rw [tgL_ok tb2.tab, tgL_ok hf]
          obtain ⟨q, e, hq, hp, _⟩ := tb.tg (gt ts j) (by simp [gt, hj])
          obtain ⟨a, b, c⟩ := en_at tb.good (zs := zs) hq hp
          rw [inL_at hj e hq hp, inL_at (by simp; omega) ((gt_snoc_lt _ hj).trans e) a b, c]
        · unfold dtT
          rw [if_pos hdc]
          simp
        · rw [tgC_ok hf, e1]
          exact inC_no (by omega)
    · rw [if_neg h1] at h; cases h
  · rw [if_neg h0] at h; exact absurd h h0

theorem rep_look {ss : List (Int × List Int)} (g : Good ss) {D : DataW Unit} (r : Rep ss D) {zs : List Int} (hz : fault zs = 0) :
    (at2 ss zs = -1 ∧ Go.Maps.has D (kl zs) = false ∧ D.atKey (kl zs) (st 0 0) = st 0 0) ∨ ∃ j, j < ss.length ∧ at2 ss zs = (j : Int) ∧ Go.Maps.has D (kl zs) = true ∧ D.atKey (kl zs) (st 0 0) = st (j : Int) (gc ss j) := by
  rcases at2_cases ss zs with ⟨h1, h2⟩ | ⟨j, hj, h1, h2⟩
  · have hf : Go.Maps.has D (kl zs) = false := by
      cases hx : Go.Maps.has D (kl zs)
      · rfl
      · obtain ⟨j, hj, hp, e⟩ := (r.keys _).1 hx
        have e2 := kl_inj hz (g.right j hj hp) e
        have := h2 j hj
        simp [hit, hp, e2] at this
    exact .inl ⟨h1, hf, Go.Maps.atKey_of_not_has hf _⟩
  · have hh : 0 < gc ss j ∧ gl ss j = zs := by simpa [hit] using h2
    have hv := r.vals j hj hh.1 (st 0 0)
    rw [hh.2] at hv
    exact .inr ⟨j, hj, h1, (r.keys _).2 ⟨j, hj, hh.1, by rw [hh.2]⟩, hv⟩

def etV (ss : List (Int × List Int)) (zs : List Int) : Int := if etC ss zs = 0 then (enQ ss zs : Int) else 0

/-- P's cells from the third on are as they were. -/
def KP (P : Nat) (w w' : World) : Prop := ∀ j, (2 ≤ j → w'.cell? ⟨P, j, none⟩ = w.cell? ⟨P, j, none⟩) ∧ w'.frozen? ⟨P, j, none⟩ = w.frozen? ⟨P, j, none⟩

theorem KP.of_block {P : Nat} {w w' : World} (h : w'.heap[P]? = w.heap[P]?) : KP P w w' := fun j => ⟨fun _ => World.cell?_of_block (a := ⟨P, j, none⟩) h, World.frozen?_of_block (a := ⟨P, j, none⟩) h⟩

theorem KP.trans {P : Nat} {w u v : World} (h : KP P w u) (k : KP P u v) : KP P w v := fun j => ⟨fun hj => ((k j).1 hj).trans ((h j).1 hj), (k j).2.trans (h j).2⟩

theorem KP.set0 {P : Nat} {w u : World} (h : KP P w u) (v : Value) : KP P w (u.setCell ⟨P, 0, none⟩ v) := fun j => ⟨fun hj => (World.cell?_setCell_other _ _ _ _ (fun e => by injection e with _ e2; omega)).trans ((h j).1 hj), by rw [World.frozen?_setCell]; exact (h j).2⟩

/-- blocks but M and P are as they were, and so are P's cells from the third on. -/
def OutP (P M : Nat) (w w' : World) : Prop := OutS (fun k => k = M ∨ k = P) w w' ∧ KP P w w'

theorem OutP.of_below {P M : Nat} {w w' : World} (h : Below w.heap.size w w') (hP : P < w.heap.size) : OutP P M w w' := ⟨OutS.of_below h, KP.of_block (h.block P hP)⟩

theorem OutP.drew {P M : Nat} {w w' : World} (h : OutP P M w w') : OutP P M w w'.drew := ⟨h.1.trans (OutS.of_below (Below.refl _ _).drew), fun j => h.2 j⟩

/-- what 'enter' answers. -/
def EN (P M n : Nat) (ss : List (Int × List Int)) (zs : List Int) (w : World) (e : Ending) (w' : World) : Prop :=
  e = .returned (.tuple #[.int .i64 (etV ss zs), .int .i64 (etC ss zs)]) ∧ OutP P M w w' ∧ (etC ss zs = 0 → ∃ D', Bk w' P M ((enS ss zs).length : Int) (n + 1) D' ∧ Rep (enS ss zs) D')

/-- what stands when a label's place is known: the mark in block w.heap.size, its standing in the block behind. -/
structure EnU (P M n : Nat) (ss : List (Int × List Int)) (zs : List Int) (D : DataW Unit) (c : Int) (w U : World) : Prop where
  bk : Bk U P M (ss.length : Int) n D
  bel : Below w.heap.size w U
  lt : w.heap.size + 1 < U.heap.size
  k : ∀ i, i < 4 → U.cell? ⟨w.heap.size, i, none⟩ = some (.int .i64 (gt zs i))
  z0 : U.cell? ⟨w.heap.size + 1, 0, none⟩ = some (.int .i64 (enQ ss zs : Int))
  z1 : U.cell? ⟨w.heap.size + 1, 1, none⟩ = some (.int .i64 c)
  f : ∀ i, U.frozen? ⟨w.heap.size + 1, i, none⟩ = false

theorem EnU.count {P M n : Nat} {ss : List (Int × List Int)} {zs : List Int} {D : DataW Unit} {c : Int} {w U : World} (h : EnU P M n ss zs D c w U) (hP : P < w.heap.size) (hM : M < w.heap.size) (c' : Int) : EnU P M n ss zs D c' w (U.setCell ⟨w.heap.size + 1, 1, none⟩ (.int .i64 c')) := by
  have hg := setC1_grown U (w.heap.size + 1) 1 (.int .i64 c')
  refine ⟨h.bk.keep hg (by omega) (by omega), h.bel.setCell (by show w.heap.size ≤ w.heap.size + 1; omega) _, by simpa using h.lt, fun i hi => ?_, ?_, World.cell?_setCell_same _ _ _ h.z1, fun i => by simpa using h.f i⟩
  · rw [World.cell?_setCell_other _ _ _ _ (fun e => by injection e with e1 _; omega)]; exact h.k i hi
  · rw [World.cell?_setCell_other _ _ _ _ (fun e => by injection e with _ e2; omega)]; exact h.z0

theorem EnU.place {P M n : Nat} {ss : List (Int × List Int)} {zs : List Int} {D : DataW Unit} {w U : World} (hb : Bk U P M (ss.length : Int) n D) (hbel : Below w.heap.size w U) (hlt : w.heap.size + 1 < U.heap.size) (hk : ∀ i, i < 4 → U.cell? ⟨w.heap.size, i, none⟩ = some (.int .i64 (gt zs i)))
    {x c : Int} (z0 : U.cell? ⟨w.heap.size + 1, 0, none⟩ = some (.int .i64 x)) (z1 : U.cell? ⟨w.heap.size + 1, 1, none⟩ = some (.int .i64 c)) (hf : ∀ i, U.frozen? ⟨w.heap.size + 1, i, none⟩ = false) (hP : P < w.heap.size) (hM : M < w.heap.size) {q : Nat} (hq : enQ ss zs = q) : EnU P M n ss zs D c w (U.setCell ⟨w.heap.size + 1, 0, none⟩ (.int .i64 (q : Int))) := by
  have hg := setC1_grown U (w.heap.size + 1) 0 (.int .i64 (q : Int))
  refine ⟨hb.keep hg (by omega) (by omega), hbel.setCell (by show w.heap.size ≤ w.heap.size + 1; omega) _, by simpa using hlt, fun i hi => ?_, ?_, ?_, fun i => by simpa using hf i⟩
  · rw [World.cell?_setCell_other _ _ _ _ (fun e => by injection e with e1 _; omega)]; exact hk i hi
  · rw [hq]; exact World.cell?_setCell_same _ _ _ z0
  · rw [World.cell?_setCell_other _ _ _ _ (fun e => by injection e with _ e2; omega)]; exact z1

set_option maxRecDepth 100000 in
set_option maxHeartbeats 2000000 in
theorem enter_calls (P M n : Nat) (ss : List (Int × List Int)) (zs : List Int) (D : DataW Unit) (w : World) (hb : Bk w P M (ss.length : Int) n D) (hn : n ≤ 100) (good : Good ss) (rep : Rep ss D) (hz : fault zs = 0) :
    Calls Try.prog 80 #[.pointer (some ⟨P, 0, none⟩), .agg (ints4 zs)] w (EN P M n ss zs w) := by
  have few := good.few
  have hP0 := hb.lt
  have hM0 := hb.own.lt
  have M1 := (Mm.start w).alloc4 (.int .i64 (gt zs 0)) (.int .i64 (gt zs 1)) (.int .i64 (gt zs 2)) (.int .i64 (gt zs 3)) 114
  have al := (Below.refl w.heap.size w).alloc (Nat.le_refl _) (.cells #[.int .i64 (gt zs 0), .int .i64 (gt zs 1), .int .i64 (gt zs 2), .int .i64 (gt zs 3)] 114)
  have hbW := hb.below al
  have b1 := hbW.c1
  have k0 := M1.cell 0 rfl
  have k1 := M1.cell 1 rfl
  have k2 := M1.cell 2 rfl
  have k3 := M1.cell 3 rfl
  have hsW : (w.alloc (.cells #[.int .i64 (gt zs 0), .int .i64 (gt zs 1), .int .i64 (gt zs 2), .int .i64 (gt zs 3)] 114)).heap.size = w.heap.size + 1 := by simp
  have HSW := hide hsW
  have Hz := hide hz
  clear al M1 hsW
  unfold ints4
  go_enter Try.func80, Try.ntmps80
  go_upto_region 1 with fail
  have hWb : Below w.heap.size w (w.alloc (.cells #[.int .i64 (gt zs 0), .int .i64 (gt zs 1), .int .i64 (gt zs 2), .int .i64 (gt zs 3)] 114)) := (Below.refl w.heap.size w).alloc (Nat.le_refl _) _
  generalize hW : (w.alloc (.cells #[.int .i64 (gt zs 0), .int .i64 (gt zs 1), .int .i64 (gt zs 2), .int .i64 (gt zs 3)] 114)) = W at hbW b1 k0 k1 k2 k3 HSW hWb ⊢
  clear hW
  obtain ⟨lp, lc, hat, hlook⟩ := look_run hbW.own Hz.out
  have L1 := hlook W.drew hbW.own.drew
  have L2 := hlook ((W.alloc (.cells #[.int .i64 0, .int .i64 0] 124)).drew) (hbW.own.alloc _).drew
  unfold ints4 at L1 L2
  have nP := World.new_ne W ⟨P, 1, none⟩ b1
  have nK := World.new_ne W ⟨w.heap.size, 0, none⟩ k0
  clear hlook
  go_cut [6, 7] (fun v f wc => v = .pointer (some ⟨W.heap.size, 0, none⟩) ∧ f = .bool (Go.Maps.has D (kl zs)) ∧ wc = (W.alloc (.cells #[.int .i64 lp, .int .i64 lc] 124)).drew)
  case first =>
    go_region_held2 (fun w' => w'.cell? ⟨P, 1, none⟩ = some (.map (some M)) ∧ w'.cell? ⟨w.heap.size, 0, none⟩ = some (.int .i64 (gt zs 0)) ∧ w'.cell? ⟨w.heap.size, 1, none⟩ = some (.int .i64 (gt zs 1)) ∧ w'.cell? ⟨w.heap.size, 2, none⟩ = some (.int .i64 (gt zs 2)) ∧ w'.cell? ⟨w.heap.size, 3, none⟩ = some (.int .i64 (gt zs 3)))
      (go_keep) (fail)
    all_goals go_wp2_with fail
    all_goals go_meet
    all_goals exact ⟨rfl, rfl, rfl⟩
  case rest =>
    obtain ⟨rfl, rfl, rfl⟩ := hcut
    rw [HSW.out]
    clear L1 L2 nP nK
    have al : Below W.heap.size W (W.alloc (.cells #[.int .i64 lp, .int .i64 lc] 124)).drew := ((Below.refl _ _).alloc (Nat.le_refl _) _).drew
    have BU := hbW.below al
    have hwU := hWb.trans (al.mono hWb.size)
    have hk : ∀ i, i < 4 → (W.alloc (.cells #[.int .i64 lp, .int .i64 lc] 124)).drew.cell? ⟨w.heap.size, i, none⟩ = some (.int .i64 (gt zs i)) := fun i hi => by
      refine (al.cell (p := ⟨w.heap.size, i, none⟩) (by have := HSW.out; show w.heap.size < _; omega)).trans ?_
      obtain rfl | rfl | rfl | rfl : i = 0 ∨ i = 1 ∨ i = 2 ∨ i = 3 := by omega
      · exact k0
      · exact k1
      · exact k2
      · exact k3
    have z0 : (W.alloc (.cells #[.int .i64 lp, .int .i64 lc] 124)).drew.cell? ⟨w.heap.size + 1, 0, none⟩ = some (.int .i64 lp) := by rw [← HSW.out]; go_simp
    have z1 : (W.alloc (.cells #[.int .i64 lp, .int .i64 lc] 124)).drew.cell? ⟨w.heap.size + 1, 1, none⟩ = some (.int .i64 lc) := by rw [← HSW.out]; go_simp
    have zf : ∀ i, (W.alloc (.cells #[.int .i64 lp, .int .i64 lc] 124)).drew.frozen? ⟨w.heap.size + 1, i, none⟩ = false := fun i => by rw [← HSW.out]; go_simp
    have hlU : w.heap.size + 1 < (W.alloc (.cells #[.int .i64 lp, .int .i64 lc] 124)).drew.heap.size := by have := HSW.out; simp; omega
    generalize hUe : (W.alloc (.cells #[.int .i64 lp, .int .i64 lc] 124)).drew = U at BU hwU hk z0 z1 zf hlU ⊢
    clear hUe al k0 k1 k2 k3 b1 hbW hWb
    rcases rep_look good rep Hz.out with ⟨ha, hh, hv⟩ | ⟨j, hj, ha, hh, hv⟩
    · obtain ⟨rfl, rfl⟩ := st_inj (hat.symm.trans hv)
      rw [hh]
      have HQ : Hid (enQ ss zs = fe ss) := if_pos (by omega)
      have HN : Hid (enN ss zs = 0) := if_pos (by omega)
      clear hat hv hh
      go_wp2_with fail
      refine (firstEmpty_calls P M n ss D _ BU good rep).mono ?_
      rintro e w3 ⟨rfl, g3⟩
      have hsz3 := g3.size
      have y0 := (g3.cell (p := ⟨w.heap.size + 1, 0, none⟩) hlU).trans z0
      have yf := (g3.frozen (p := ⟨w.heap.size + 1, 0, none⟩) hlU).trans (zf 0)
      have hU : EnU P M n ss zs D (enN ss zs) w (w3.setCell ⟨w.heap.size + 1, 0, none⟩ (.int .i64 (fe ss : Int))) := by
        rw [HN.out]
        exact EnU.place (BU.below g3) (hwU.trans (g3.mono hwU.size)) (by omega) (fun i hi => (g3.cell (p := ⟨w.heap.size, i, none⟩) (by show w.heap.size < _; omega)).trans (hk i hi)) y0 ((g3.cell (p := ⟨w.heap.size + 1, 1, none⟩) hlU).trans z1) (fun i => (g3.frozen (p := ⟨w.heap.size + 1, i, none⟩) hlU).trans (zf i)) hP0 hM0 HQ.out
      clear g3 BU hwU hk z0 z1 zf hlU hsz3
      go_upto_region 4 with fail
      generalize hVe : (w3.setCell ⟨w.heap.size + 1, 0, none⟩ (.int .i64 (fe ss : Int))) = V at hU ⊢
      clear hVe y0 yf
      have d0 := hU.z0
      have d1 := hU.z1
      have df0 := hU.f 0
      have df1 := hU.f 1
      have hund : undef = Value.tuple #[] := rfl
      by_cases h10 : enQ ss zs = 10
      · have e10 : ((enQ ss zs : Int) == 10) = true := by simp; omega
        have HC : Hid (etC ss zs = 7) := if_pos (.inl h10)
        have HO := hide (OutP.of_below (P := P) (M := M) hU.bel hP0)
        clear hU
        go_wp2
        refine bodyPost_ret (v := .tuple #[.int .i64 0, .int .i64 7]) (by simp [results, Try.results80, go_sem]) rfl ⟨by rw [HC.out]; unfold etV; rw [if_neg (by rw [HC.out]; decide)], HO.out, fun h => absurd (HC.out.symm.trans h) (by decide)⟩
      · have e10 : ((enQ ss zs : Int) == 10) = false := by simp; omega
        by_cases h99 : enN ss zs = 99
        · have e99 : (enN ss zs == 99) = true := by simp [h99]
          have HC : Hid (etC ss zs = 7) := if_pos (.inr h99)
          have HO := hide (OutP.of_below (P := P) (M := M) hU.bel hP0)
          clear hU
          go_wp2
          refine bodyPost_ret (v := .tuple #[.int .i64 0, .int .i64 7]) (by simp [results, Try.results80, go_sem]) rfl ⟨by rw [HC.out]; unfold etV; rw [if_neg (by rw [HC.out]; decide)], HO.out, fun h => absurd (HC.out.symm.trans h) (by decide)⟩
        · have e99 : (enN ss zs == 99) = false := by simp [h99]
          have HC : Hid (etC ss zs = 0) := if_neg (fun e => by rcases e with e | e; exact h10 e; exact h99 e)
          have hU2 := hU.count hP0 hM0 (enN ss zs + 1)
          have en0 := (en_facts good (zs := zs)).2.1
          have en9 := (en_facts good (zs := zs)).2.2.1
          have enL := (en_facts good (zs := zs)).1
          clear hU
          go_upto_region 7 with fail
          generalize hXe : (V.setCell ⟨w.heap.size + 1, 1, none⟩ (.int .i64 (enN ss zs + 1))) = X at hU2 ⊢
          clear hXe d0 d1 df0 df1
          have neM := hU2.bk.ne
          obtain ⟨w4, hup, own4, gr4⟩ := (hU2.bk.own.drew).update lawK Try.underlying61 (by unfold maxLen; omega) (key_mk Hz.out) (Rst_mk (enQ ss zs : Int) (enN ss zs + 1))
          have kP := hU2.bk.lt
          have hlX := hU2.lt
          have blkM : ∀ k, k < X.heap.size → k ≠ M → w4.heap[k]? = X.heap[k]? := fun k hk hne => gr4.block k hk (fun e => hne (by injection e))
          have HSa : Hid (X.drew.cell? ⟨P, 1, none⟩ = some (.map (some M)) ∧ X.drew.cell? ⟨w.heap.size, 0, none⟩ = some (.int .i64 (gt zs 0)) ∧ X.drew.cell? ⟨w.heap.size, 1, none⟩ = some (.int .i64 (gt zs 1)) ∧ X.drew.cell? ⟨w.heap.size, 2, none⟩ = some (.int .i64 (gt zs 2)) ∧ X.drew.cell? ⟨w.heap.size, 3, none⟩ = some (.int .i64 (gt zs 3)) ∧ X.drew.cell? ⟨w.heap.size + 1, 0, none⟩ = some (.int .i64 (enQ ss zs : Int)) ∧ X.drew.cell? ⟨w.heap.size + 1, 1, none⟩ = some (.int .i64 (enN ss zs + 1))) := ⟨hU2.bk.c1, hU2.k 0 (by omega), hU2.k 1 (by omega), hU2.k 2 (by omega), hU2.k 3 (by omega), hU2.z0, hU2.z1⟩
          have kb : ∀ k o, k < X.heap.size → k ≠ M → w4.cell? ⟨k, o, none⟩ = X.cell? ⟨k, o, none⟩ := fun k o hk hne => World.cell?_of_block (a := ⟨k, o, none⟩) (blkM k hk hne)
          have HSb : Hid (w4.cell? ⟨P, 1, none⟩ = some (.map (some M)) ∧ w4.cell? ⟨w.heap.size, 0, none⟩ = some (.int .i64 (gt zs 0)) ∧ w4.cell? ⟨w.heap.size, 1, none⟩ = some (.int .i64 (gt zs 1)) ∧ w4.cell? ⟨w.heap.size, 2, none⟩ = some (.int .i64 (gt zs 2)) ∧ w4.cell? ⟨w.heap.size, 3, none⟩ = some (.int .i64 (gt zs 3)) ∧ w4.cell? ⟨w.heap.size + 1, 0, none⟩ = some (.int .i64 (enQ ss zs : Int)) ∧ w4.cell? ⟨w.heap.size + 1, 1, none⟩ = some (.int .i64 (enN ss zs + 1))) := ⟨(kb P 1 kP neM.symm).trans hU2.bk.c1, (kb _ 0 (by omega) (by omega)).trans (hU2.k 0 (by omega)), (kb _ 1 (by omega) (by omega)).trans (hU2.k 1 (by omega)), (kb _ 2 (by omega) (by omega)).trans (hU2.k 2 (by omega)), (kb _ 3 (by omega) (by omega)).trans (hU2.k 3 (by omega)), (kb _ 0 (by omega) (by omega)).trans hU2.z0, (kb _ 1 (by omega) (by omega)).trans hU2.z1⟩
          have x0 := (kb P 0 kP neM.symm).trans hU2.bk.c0
          have xf : ∀ j, w4.frozen? ⟨P, j, none⟩ = false := fun j => (World.frozen?_of_block (a := ⟨P, j, none⟩) (blkM P kP neM.symm)).trans (hU2.bk.f j)
          have xf0 := xf 0
          have x1 := HSb.out.2.2.2.2.2.1
          have hl4 := gr4.size
          simp only [World.size_drew] at hl4
          have HL : Hid (((enS ss zs).length : Int) = max (ss.length : Int) ((enQ ss zs : Int) + 1)) := by
            show ((enS ss zs).length : Int) = _
            unfold enS
            rw [length_layS _ enL]
            omega
          have hg5 := setC1_grown w4 P 0 (.int .i64 (max (ss.length : Int) ((enQ ss zs : Int) + 1)))
          have HBk : Hid (Bk (w4.setCell ⟨P, 0, none⟩ (.int .i64 (max (ss.length : Int) ((enQ ss zs : Int) + 1)))) P M ((enS ss zs).length : Int) (n + 1) (D.put (kl zs) (st (enQ ss zs : Int) (enN ss zs + 1)))) := by
            show Bk _ _ _ _ _ _
            rw [HL.out]
            refine ⟨by simp; omega, World.cell?_setCell_same _ _ _ x0, ?_, fun j => by simpa using xf j, own4.kept hg5 (fun e => neM (by injection e))⟩
            rw [World.cell?_setCell_other _ _ _ _ (fun e => by injection e with _ e2; omega)]
            exact HSb.out.1
          have HO : Hid (OutP P M w (w4.setCell ⟨P, 0, none⟩ (.int .i64 (max (ss.length : Int) ((enQ ss zs : Int) + 1))))) := ⟨OutS.setCell ((OutS.of_below hU2.bel).trans ⟨gr4.os, gr4.tape, gr4.output, gr4.size, fun k hk hn => blkM k hk (fun e => hn (.inl e))⟩) (.inr rfl) _, ((KP.of_block (hU2.bel.block P hP0)).trans (KP.of_block (blkM P kP neM.symm))).set0 _⟩
          have HR := hide (rep_enter good rep hb.own.isMap (zs := zs) Hz.out)
          have HV : Hid (etV ss zs = (enQ ss zs : Int)) := if_pos HC.out
          unfold ints4 at hup
          have HU := hide hU2
          clear own4 gr4 blkM kb hU2 hg5 xf
          go_cut [] (fun wd => wd = w4)
          case first =>
            go_region_held2 (fun w' => w'.cell? ⟨P, 1, none⟩ = some (.map (some M)) ∧ w'.cell? ⟨w.heap.size, 0, none⟩ = some (.int .i64 (gt zs 0)) ∧ w'.cell? ⟨w.heap.size, 1, none⟩ = some (.int .i64 (gt zs 1)) ∧ w'.cell? ⟨w.heap.size, 2, none⟩ = some (.int .i64 (gt zs 2)) ∧ w'.cell? ⟨w.heap.size, 3, none⟩ = some (.int .i64 (gt zs 3)) ∧ w'.cell? ⟨w.heap.size + 1, 0, none⟩ = some (.int .i64 (enQ ss zs : Int)) ∧ w'.cell? ⟨w.heap.size + 1, 1, none⟩ = some (.int .i64 (enN ss zs + 1)))
              (first | with_reducible exact HSa.out | with_reducible exact HSb.out | with_reducible assumption) (fail)
            all_goals go_wp2_with fail
            all_goals go_meet
            all_goals exact rfl
          case rest =>
            subst hcut
            clear hup HSa HSb
            go_wp2_with fail
            go_region
            all_goals go_wp2
            all_goals first
              | (have em : max (ss.length : Int) ((enQ ss zs : Int) + 1) = (enQ ss zs : Int) + 1 := (by omega)
                 rw [em] at HBk HO
                 refine bodyPost_ret (v := .tuple #[.int .i64 (enQ ss zs : Int), .int .i64 0]) (by simp [results, Try.results80, go_sem]) rfl ⟨by rw [HV.out, HC.out], HO.out.drew, fun _ => ⟨_, HBk.out.below (Below.refl _ _).drew, HR.out⟩⟩)
              | (have em : max (ss.length : Int) ((enQ ss zs : Int) + 1) = (ss.length : Int) := (by omega)
                 rw [em] at HBk HO
                 refine bodyPost_ret (v := .tuple #[.int .i64 (enQ ss zs : Int), .int .i64 0]) (by simp [results, Try.results80, go_sem]) rfl ⟨by rw [HV.out, HC.out], HO.out.drew, fun _ => ⟨_, HBk.out.below (Below.refl _ _).drew, HR.out⟩⟩)
    · obtain ⟨rfl, rfl⟩ := st_inj (hat.symm.trans hv)
      rw [hh]
      have hU : EnU P M n ss zs D (enN ss zs) w U := by
        have e1 : enQ ss zs = j := by unfold enQ; rw [if_neg (by omega), ha]; omega
        have e2 : enN ss zs = gc ss j := by unfold enN; rw [if_neg (by omega), ha]; rfl
        rw [e2]
        exact ⟨BU, hwU, hlU, hk, by rw [e1]; exact z0, z1, zf⟩
      clear hat hv hh BU hwU hk z0 z1 zf hlU
      go_upto_region 4 with fail
      have d0 := hU.z0
      have d1 := hU.z1
      have df0 := hU.f 0
      have df1 := hU.f 1
      have hund : undef = Value.tuple #[] := rfl
      by_cases h10 : enQ ss zs = 10
      · have e10 : ((enQ ss zs : Int) == 10) = true := by simp; omega
        have HC : Hid (etC ss zs = 7) := if_pos (.inl h10)
        have HO := hide (OutP.of_below (P := P) (M := M) hU.bel hP0)
        clear hU
        go_wp2
        refine bodyPost_ret (v := .tuple #[.int .i64 0, .int .i64 7]) (by simp [results, Try.results80, go_sem]) rfl ⟨by rw [HC.out]; unfold etV; rw [if_neg (by rw [HC.out]; decide)], HO.out, fun h => absurd (HC.out.symm.trans h) (by decide)⟩
      · have e10 : ((enQ ss zs : Int) == 10) = false := by simp; omega
        by_cases h99 : enN ss zs = 99
        · have e99 : (enN ss zs == 99) = true := by simp [h99]
          have HC : Hid (etC ss zs = 7) := if_pos (.inr h99)
          have HO := hide (OutP.of_below (P := P) (M := M) hU.bel hP0)
          clear hU
          go_wp2
          refine bodyPost_ret (v := .tuple #[.int .i64 0, .int .i64 7]) (by simp [results, Try.results80, go_sem]) rfl ⟨by rw [HC.out]; unfold etV; rw [if_neg (by rw [HC.out]; decide)], HO.out, fun h => absurd (HC.out.symm.trans h) (by decide)⟩
        · have e99 : (enN ss zs == 99) = false := by simp [h99]
          have HC : Hid (etC ss zs = 0) := if_neg (fun e => by rcases e with e | e; exact h10 e; exact h99 e)
          have hU2 := hU.count hP0 hM0 (enN ss zs + 1)
          have en0 := (en_facts good (zs := zs)).2.1
          have en9 := (en_facts good (zs := zs)).2.2.1
          have enL := (en_facts good (zs := zs)).1
          clear hU
          go_upto_region 7 with fail
          generalize hXe : (U.setCell ⟨w.heap.size + 1, 1, none⟩ (.int .i64 (enN ss zs + 1))) = X at hU2 ⊢
          clear hXe d0 d1 df0 df1
          have neM := hU2.bk.ne
          obtain ⟨w4, hup, own4, gr4⟩ := (hU2.bk.own.drew).update lawK Try.underlying61 (by unfold maxLen; omega) (key_mk Hz.out) (Rst_mk (enQ ss zs : Int) (enN ss zs + 1))
          have kP := hU2.bk.lt
          have hlX := hU2.lt
          have blkM : ∀ k, k < X.heap.size → k ≠ M → w4.heap[k]? = X.heap[k]? := fun k hk hne => gr4.block k hk (fun e => hne (by injection e))
          have HSa : Hid (X.drew.cell? ⟨P, 1, none⟩ = some (.map (some M)) ∧ X.drew.cell? ⟨w.heap.size, 0, none⟩ = some (.int .i64 (gt zs 0)) ∧ X.drew.cell? ⟨w.heap.size, 1, none⟩ = some (.int .i64 (gt zs 1)) ∧ X.drew.cell? ⟨w.heap.size, 2, none⟩ = some (.int .i64 (gt zs 2)) ∧ X.drew.cell? ⟨w.heap.size, 3, none⟩ = some (.int .i64 (gt zs 3)) ∧ X.drew.cell? ⟨w.heap.size + 1, 0, none⟩ = some (.int .i64 (enQ ss zs : Int)) ∧ X.drew.cell? ⟨w.heap.size + 1, 1, none⟩ = some (.int .i64 (enN ss zs + 1))) := ⟨hU2.bk.c1, hU2.k 0 (by omega), hU2.k 1 (by omega), hU2.k 2 (by omega), hU2.k 3 (by omega), hU2.z0, hU2.z1⟩
          have kb : ∀ k o, k < X.heap.size → k ≠ M → w4.cell? ⟨k, o, none⟩ = X.cell? ⟨k, o, none⟩ := fun k o hk hne => World.cell?_of_block (a := ⟨k, o, none⟩) (blkM k hk hne)
          have HSb : Hid (w4.cell? ⟨P, 1, none⟩ = some (.map (some M)) ∧ w4.cell? ⟨w.heap.size, 0, none⟩ = some (.int .i64 (gt zs 0)) ∧ w4.cell? ⟨w.heap.size, 1, none⟩ = some (.int .i64 (gt zs 1)) ∧ w4.cell? ⟨w.heap.size, 2, none⟩ = some (.int .i64 (gt zs 2)) ∧ w4.cell? ⟨w.heap.size, 3, none⟩ = some (.int .i64 (gt zs 3)) ∧ w4.cell? ⟨w.heap.size + 1, 0, none⟩ = some (.int .i64 (enQ ss zs : Int)) ∧ w4.cell? ⟨w.heap.size + 1, 1, none⟩ = some (.int .i64 (enN ss zs + 1))) := ⟨(kb P 1 kP neM.symm).trans hU2.bk.c1, (kb _ 0 (by omega) (by omega)).trans (hU2.k 0 (by omega)), (kb _ 1 (by omega) (by omega)).trans (hU2.k 1 (by omega)), (kb _ 2 (by omega) (by omega)).trans (hU2.k 2 (by omega)), (kb _ 3 (by omega) (by omega)).trans (hU2.k 3 (by omega)), (kb _ 0 (by omega) (by omega)).trans hU2.z0, (kb _ 1 (by omega) (by omega)).trans hU2.z1⟩
          have x0 := (kb P 0 kP neM.symm).trans hU2.bk.c0
          have xf : ∀ j, w4.frozen? ⟨P, j, none⟩ = false := fun j => (World.frozen?_of_block (a := ⟨P, j, none⟩) (blkM P kP neM.symm)).trans (hU2.bk.f j)
          have xf0 := xf 0
          have x1 := HSb.out.2.2.2.2.2.1
          have hl4 := gr4.size
          simp only [World.size_drew] at hl4
          have HL : Hid (((enS ss zs).length : Int) = max (ss.length : Int) ((enQ ss zs : Int) + 1)) := by
            show ((enS ss zs).length : Int) = _
            unfold enS
            rw [length_layS _ enL]
            omega
          have hg5 := setC1_grown w4 P 0 (.int .i64 (max (ss.length : Int) ((enQ ss zs : Int) + 1)))
          have HBk : Hid (Bk (w4.setCell ⟨P, 0, none⟩ (.int .i64 (max (ss.length : Int) ((enQ ss zs : Int) + 1)))) P M ((enS ss zs).length : Int) (n + 1) (D.put (kl zs) (st (enQ ss zs : Int) (enN ss zs + 1)))) := by
            show Bk _ _ _ _ _ _
            rw [HL.out]
            refine ⟨by simp; omega, World.cell?_setCell_same _ _ _ x0, ?_, fun j => by simpa using xf j, own4.kept hg5 (fun e => neM (by injection e))⟩
            rw [World.cell?_setCell_other _ _ _ _ (fun e => by injection e with _ e2; omega)]
            exact HSb.out.1
          have HO : Hid (OutP P M w (w4.setCell ⟨P, 0, none⟩ (.int .i64 (max (ss.length : Int) ((enQ ss zs : Int) + 1))))) := ⟨OutS.setCell ((OutS.of_below hU2.bel).trans ⟨gr4.os, gr4.tape, gr4.output, gr4.size, fun k hk hn => blkM k hk (fun e => hn (.inl e))⟩) (.inr rfl) _, ((KP.of_block (hU2.bel.block P hP0)).trans (KP.of_block (blkM P kP neM.symm))).set0 _⟩
          have HR := hide (rep_enter good rep hb.own.isMap (zs := zs) Hz.out)
          have HV : Hid (etV ss zs = (enQ ss zs : Int)) := if_pos HC.out
          unfold ints4 at hup
          have HU := hide hU2
          clear own4 gr4 blkM kb hU2 hg5 xf
          go_cut [] (fun wd => wd = w4)
          case first =>
            go_region_held2 (fun w' => w'.cell? ⟨P, 1, none⟩ = some (.map (some M)) ∧ w'.cell? ⟨w.heap.size, 0, none⟩ = some (.int .i64 (gt zs 0)) ∧ w'.cell? ⟨w.heap.size, 1, none⟩ = some (.int .i64 (gt zs 1)) ∧ w'.cell? ⟨w.heap.size, 2, none⟩ = some (.int .i64 (gt zs 2)) ∧ w'.cell? ⟨w.heap.size, 3, none⟩ = some (.int .i64 (gt zs 3)) ∧ w'.cell? ⟨w.heap.size + 1, 0, none⟩ = some (.int .i64 (enQ ss zs : Int)) ∧ w'.cell? ⟨w.heap.size + 1, 1, none⟩ = some (.int .i64 (enN ss zs + 1)))
              (first | with_reducible exact HSa.out | with_reducible exact HSb.out | with_reducible assumption) (fail)
            all_goals go_wp2_with fail
            all_goals go_meet
            all_goals exact rfl
          case rest =>
            subst hcut
            clear hup HSa HSb
            go_wp2_with fail
            go_region
            all_goals go_wp2
            all_goals first
              | (have em : max (ss.length : Int) ((enQ ss zs : Int) + 1) = (enQ ss zs : Int) + 1 := (by omega)
                 rw [em] at HBk HO
                 refine bodyPost_ret (v := .tuple #[.int .i64 (enQ ss zs : Int), .int .i64 0]) (by simp [results, Try.results80, go_sem]) rfl ⟨by rw [HV.out, HC.out], HO.out.drew, fun _ => ⟨_, HBk.out.below (Below.refl _ _).drew, HR.out⟩⟩)
              | (have em : max (ss.length : Int) ((enQ ss zs : Int) + 1) = (ss.length : Int) := (by omega)
                 rw [em] at HBk HO
                 refine bodyPost_ret (v := .tuple #[.int .i64 (enQ ss zs : Int), .int .i64 0]) (by simp [results, Try.results80, go_sem]) rfl ⟨by rw [HV.out, HC.out], HO.out.drew, fun _ => ⟨_, HBk.out.below (Below.refl _ _).drew, HR.out⟩⟩)

/-- what 'oneMore' answers. -/
def OM (P M nn m : Nat) (ss : List (Int × List Int)) (zs : List Int) (S : Nat → Prop) (xn : Nat) (ts : List Int) (w : World) (e : Ending) (w' : World) : Prop :=
  ∃ ra rn rc, e = .returned (.tuple #[.slice ra rn rc, .int .i64 (if xn = m then 7 else etC ss zs)]) ∧ OutS (fun k => (k = M ∨ k = P) ∨ S k) w w' ∧ KP P w w' ∧
    (xn ≠ m → etC ss zs = 0 → rn = xn + 1 ∧ OS (fun k => S k ∨ InR w.heap.size w'.heap.size k) ra (xn + 1) (ts ++ [(enQ ss zs : Int)]) w' ∧ ∃ D', Bk w' P M ((enS ss zs).length : Int) (nn + 1) D' ∧ Rep (enS ss zs) D')

theorem Bk.keepG {w w' : World} {P M n : Nat} {sz : Int} {D : DataW Unit} (h : Bk w P M sz n D) {row : Option Nat} (hg : w.grownBy w' row) (h1 : some P ≠ row) (h2 : some M ≠ row) : Bk w' P M sz n D := by
  cases row with
  | some r => exact h.keep hg (fun e => h1 (by rw [e])) (fun e => h2 (by rw [e]))
  | none => exact h.below ⟨hg.os, hg.tape, hg.output, hg.size, fun k hk => hg.block k hk (by simp)⟩

set_option maxRecDepth 100000 in
set_option maxHeartbeats 2000000 in
theorem oneMore_calls (P M nn m : Nat) (ss : List (Int × List Int)) (zs : List Int) (D : DataW Unit) (S : Nat → Prop) (xa : Option Addr) (xn xc : Nat) (ts : List Int) (b : Option Addr) (cb : Nat) (w : World) (hb : Bk w P M (ss.length : Int) nn D) (hn : nn ≤ 100) (good : Good ss) (rep : Rep ss D) (hz : fault zs = 0) (hrow : RW S xa xn xc ts w) (hSM : ¬ S M) (hSP : ¬ S P) (hy : Sl w b 4 zs) (hxn : xn ≤ 10) (hm : m ≤ 10) :
    Calls Try.prog 40 #[.pointer (some ⟨P, 0, none⟩), .slice xa xn xc, .int .i64 (m : Int), .agg #[.slice b 4 cb]] w (OM P M nn m ss zs S xn ts w) := by
  have al := (Below.refl w.heap.size w).alloc (Nat.le_refl _) (.cells #[.slice b 4 cb] 31)
  have hP0 := hb.lt
  by_cases hm0 : xn = m
  · have HB := hide al
    subst hm0
    clear hb good rep hrow hy al
    go_enter Try.func40, Try.ntmps40
    go_wp2
    refine bodyPost_ret (v := .tuple #[.slice none 0 0, .int .i64 7]) (by simp [results, Try.results40, go_sem]) rfl ⟨none, 0, 0, by rw [if_pos rfl], OutS.of_below HB.out, KP.of_block (HB.out.block P hP0), fun h => absurd rfl h⟩
  · have HC : Hid ((if xn = m then (7 : Int) else etC ss zs) = etC ss zs) := if_neg hm0
    have em : ((xn : Int) == (m : Int)) = false := by simp; omega
    have hb1 := hb.below al
    have hr1 := RW.loc.below al hrow
    have hy1 := hy.below al (Nat.le_refl _)
    have HB1 := hide hb1
    have HY1 := hide hy1
    have HR1 := hide hr1
    have HG := hide good
    have HRp := hide rep
    obtain ⟨i0, hi, hz0, hzz1, hzz2⟩ := info_parts info2
    clear hb hrow hy hb1 hy1 hr1 good rep al
    go_enter Try.func40, Try.ntmps40
    go_wp2_with fail
    go_region_with (first
      | (go_at_call 81; refine (markOf_calls b cb zs _ ?_).mono ?_; exact HY1.out.below (Below.refl _ _).drew (Nat.le_refl _); rintro e w2 ⟨rfl, g2⟩; have k2 := (Below.refl (w.alloc (.cells #[.slice b 4 cb] 31)).heap.size (w.alloc (.cells #[.slice b 4 cb] 31))).drew.trans g2; clear g2)
      | (go_at_call 80; refine (enter_calls P M nn ss zs D _ (HB1.out.below k2) hn HG.out HRp.out hz).mono ?_; rintro e w3 ⟨rfl, u3, hfin⟩))
    all_goals (
      have hr3 := RW.loc.out u3.1 (fun k h h' => by rcases h' with h' | h'; exact hSM (h' ▸ h); exact hSP (h' ▸ h)) (RW.loc.below k2 HR1.out)
      have HO3 : Hid (OutS (fun k => (k = M ∨ k = P) ∨ S k) w w3) := (OutS.of_below (((Below.refl w.heap.size w).alloc (Nat.le_refl _) (.cells #[.slice b 4 cb] 31)).trans (k2.mono (by simp)))).trans (u3.1.mono (fun k h => .inl h))
      have HK3 : Hid (KP P w w3) := (KP.of_block ((((Below.refl w.heap.size w).alloc (Nat.le_refl _) (.cells #[.slice b 4 cb] 31)).trans (k2.mono (by simp))).block P hP0)).trans u3.2
      have z3 := HO3.out.size
      clear u3 k2 HR1 HB1 HY1
      by_cases ht : etC ss zs = 0
      · obtain ⟨D', hb3, hrep⟩ := hfin ht
        have et : (etC ss zs != 0) = false := by simp [ht]
        have HEV : Hid (etV ss zs = (enQ ss zs : Int)) := if_pos ht
        have al3 := (Below.refl w3.heap.size w3).alloc (Nat.le_refl _) (.cells #[.int .i64 (enQ ss zs : Int)] 2)
        have HR3 := hide (RW.loc.below al3 hr3)
        have HB3 := hide (hb3.below al3)
        have HRep := hide hrep
        have HAl := hide al3
        have HPl := hide hb3.lt
        have HO4 := hide (HO3.out.trans (OutS.of_below al3))
        have Ht := hide ht
        have ho3 := (RW.loc.below al3 hr3).2.1
        have HW3 := hide ho3
        have hs3 : w3.heap.size + 1 = w3.heap.size + 1 := rfl
        rw [HEV.out]
        clear hfin ht hb3 hrep hr3 al3 HO3 ho3
        go_wp2_with (first
          | (at_builtin; refine wpList_append_lies _ rfl _ _ 27 rfl 0 2 i0 (.int .i64 0) 1 8 Try.underlying27 hi hz0 hzz1 hzz2 rfl (by decide) _ xn (ts.map (Value.int .i64)) rfl HW3.out ⟨w3.heap.size, 0, none⟩ 1 1 [.int .i64 (enQ ss zs : Int)] rfl rfl (one_new (by go_simp)) (by simp [Value.oneCell']) (by omega) (by unfold maxLen; omega) (by omega) (Nat.zero_le _) (w3.heap.size + 1) (by simp) ?_)
          | go_in)
        intro g cp w5 hown5 hgrow hat hlt5
        have HA := hide (HR3.out.app hgrow (by rw [World.size_alloc]; exact hat) hown5 (by omega))
        have HK5 : Hid (KP P w w5) := (HK3.out.trans (KP.of_block (HAl.out.block P HPl.out))).trans (KP.of_block (hgrow.block P HB3.out.lt (fun e => hSP (HR3.out.2.2 P e.symm))))
        have hb5 := HB3.out.keepG hgrow (fun e => hSP (HR3.out.2.2 P e.symm)) (fun e => hSM (HR3.out.2.2 M e.symm))
        have HB5 := hide hb5
        clear hown5 hgrow hat hb5
        go_wp2
        refine bodyPost_ret (v := .tuple #[.slice (some ⟨g, 0, none⟩) (xn + 1) cp, .int .i64 0]) (by simp [results, Try.results40, go_sem]) rfl ⟨some ⟨g, 0, none⟩, xn + 1, cp, by rw [HC.out, Ht.out], HO4.out.trans (HA.out.2.mono (fun k h => .inr h)), HK5.out, fun _ _ => ⟨rfl, HA.out.1.mono (fun k h => ?_), D', HB5.out, HRep.out⟩⟩
        rcases h with h | h
        · exact .inl h
        · have h1 := h.1
          have := HO4.out.size
          simp only [World.size_alloc] at h1 this
          exact .inr ⟨by omega, h.2⟩
      · have et : (etC ss zs != 0) = true := by simp [ht]
        have Ht := hide ht
        clear hfin ht hr3
        go_wp2
        refine bodyPost_ret (v := .tuple #[.slice none 0 0, .int .i64 (etC ss zs)]) (by simp [results, Try.results40, go_sem]) rfl ⟨none, 0, 0, by rw [HC.out], HO3.out, HK3.out, fun _ h => absurd h Ht.out⟩)

set_option maxRecDepth 100000 in
theorem lastTagB_calls (P : Nat) (xa : Option Addr) (xn xc : Nat) (w : World) (c2 : w.cell? ⟨P, 2, none⟩ = some (.slice xa xn xc)) :
    Calls Try.prog 41 #[.pointer (some ⟨P, 0, none⟩)] w fun e w' => e = .returned (.int .i64 xn) ∧ Below w.heap.size w w' := by
  go_enter Try.func41, Try.ntmps41
  go_wp2
  go_ret
  exact ⟨rfl, Below.refl _ _⟩

set_option maxRecDepth 100000 in
set_option maxHeartbeats 2000000 in
theorem tables_calls (P M nn : Nat) (ss : List (Int × List Int)) (D : DataW Unit) (xa : Option Addr) (xn xc : Nat) (ya : Option Addr) (yn yc : Nat) (w : World) (hb : Bk w P M (ss.length : Int) nn D) (good : Good ss) (rep : Rep ss D) (c2 : w.cell? ⟨P, 2, none⟩ = some (.slice xa xn xc)) (c3 : w.cell? ⟨P, 3, none⟩ = some (.slice ya yn yc)) :
    Calls Try.prog 42 #[.pointer (some ⟨P, 0, none⟩)] w fun e w' => ∃ b, e = .returned (.agg #[.slice (some ⟨b, 0, none⟩) ss.length ss.length, .slice xa xn xc, .slice ya yn yc]) ∧ OR (InR w.heap.size w'.heap.size) (some ⟨b, 0, none⟩) ss.length ss w' ∧ Below w.heap.size w w' := by
  have hP := hb.lt
  have al := (Below.refl w.heap.size w).alloc (Nat.le_refl _) (.cells #[.slice none 0 0, .slice none 0 0, .slice none 0 0] 29)
  have M0 := (Mm.start w).alloc3 (.slice none 0 0) (.slice none 0 0) (.slice none 0 0) 29
  have hb0 := hb.below al
  have d2 := (al.cell (p := ⟨P, 2, none⟩) hP).trans c2
  have d3 := (al.cell (p := ⟨P, 3, none⟩) hP).trans c3
  have HM := hide M0
  have HBk := hide hb0
  clear al M0 hb0
  go_enter Try.func42, Try.ntmps42
  go_wp2_with fail
  go_region_with (first
    | (go_at_call 82; refine (registry_calls P M nn ss D _ ?_ good rep).mono ?_; exact HBk.out.below (Below.refl _ _).drew; rintro e w1 ⟨b, rfl, o1, g1⟩; have M1 := HM.out.drew.below g1; have z1 := g1.size; have hX : Below (w.alloc (.cells #[.slice none 0 0, .slice none 0 0, .slice none 0 0] 29)).heap.size (w.alloc (.cells #[.slice none 0 0, .slice none 0 0, .slice none 0 0] 29)) w1 := ((Below.refl _ _).drew).trans g1; have e2 := (hX.cell (p := ⟨P, 2, none⟩) (by simp; omega)).trans d2; have e3 := (hX.cell (p := ⟨P, 3, none⟩) (by simp; omega)).trans d3; clear g1 hX; have r0 := M1.cell 0 rfl; have r1 := M1.cell 1 rfl; have r2 := M1.cell 2 rfl; have t0 := M1.fz 0 rfl; have t1 := M1.fz 1 rfl; have t2 := M1.fz 2 rfl))
  all_goals (
    have HB := hide M1.bel
    have HO := hide o1
    clear M1 o1
    go_wp2
    refine bodyPost_ret (v := .agg #[.slice (some ⟨b, 0, none⟩) ss.length ss.length, .slice xa xn xc, .slice ya yn yc]) (by simp [results, Try.results42, go_sem, r0, r1, r2]) rfl ⟨b, rfl, ?_, ((HB.out.setCell (by simp) _).setCell (by simp) _).setCell (by simp) _⟩
    exact (OR.set3 HO.out (fun e => by have h1 := e.1; simp only [World.size_drew, World.size_alloc] at h1; omega) _ _ _).mono (fun k hk => ⟨by have h1 := hk.1; simp only [World.size_drew, World.size_alloc] at h1; omega, by have := hk.2; simp; omega⟩))

set_option maxRecDepth 100000 in
set_option maxHeartbeats 2000000 in
theorem implAddTag_calls (a : Option Addr) (n c : Nat) (ss : List (Int × List Int)) (ta : Option Addr) (tn tc : Nat) (ts : List Int) (da : Option Addr) (dn dc : Nat) (ds : List Int) (b : Option Addr) (lb cb : Nat) (zs : List Int) (w : World) (hrt : RT w a n ss ta tn ts da dn ds) (hlb : lb ≤ maxLen) (hy : Sl w b lb zs) :
    Calls Try.prog 8 #[.agg #[.slice a n c, .slice ta tn tc, .slice da dn dc], .agg #[.slice b lb cb]] w fun e w' => ∃ ra rn rc xa xn xc ya yn yc, e = .returned (.agg #[.int .i64 (agC ss ts ds zs), .int .i64 (agV ss ts ds zs), .slice ra rn rc, .slice xa xn xc, .slice ya yn yc]) ∧
      OT (InR w.heap.size w'.heap.size) ra rn (agS ss ts ds zs) xa xn (agT ss ts ds zs) ya yn (agD ss ts ds zs) w' ∧ Below w.heap.size w w' := by
  have M0 := (((Mm.start w).alloc3 (.slice a n c) (.slice ta tn tc) (.slice da dn dc) 29).alloc1 (.slice b lb cb) 31).alloc5 (.int .i64 0) (.int .i64 0) (.slice none 0 0) (.slice none 0 0) (.slice none 0 0) 35
  simp only [World.size_alloc] at M0
  have hrt0 := hrt.below M0.bel (Nat.le_refl _)
  have hy0 := hy.below M0.bel (Nat.le_refl _)
  go_enter Try.func8, Try.ntmps8
  go_wp2_with fail
  refine (openTablesFor_calls a n c ss ta tn tc ts da dn dc ds b lb cb zs _ hrt0 hlb hy0).mono ?_
  rintro e w1 ⟨sz, mo, xa, xn, xc, ya, yn, yc, rfl, g1, hled⟩
  have M1a := M0.below g1
  have zR := M1a.lt 0 rfl
  have M1 := (M0.below g1).alloc4 (.int .i64 sz) (.map mo) (.slice xa xn xc) (.slice ya yn yc) 65
  have z1 := g1.size
  simp only [World.size_alloc] at z1
  by_cases hf : otF ss ts ds zs = 0
  rotate_left
  · have HC : Hid (agC ss ts ds zs = otF ss ts ds zs) := if_neg hf
    have hf' : agC ss ts ds zs ≠ 0 := by rw [HC.out]; exact hf
    have HV : Hid (agV ss ts ds zs = 0) := if_neg hf'
    have HS : Hid (agS ss ts ds zs = []) := if_neg hf'
    have HT : Hid (agT ss ts ds zs = []) := if_neg hf'
    have HD : Hid (agD ss ts ds zs = []) := if_neg hf'
    clear hf'
    have e1 : (otF ss ts ds zs == 0) = false := by simpa using hf
    have e2 : (otF ss ts ds zs != 0) = true := by simpa using hf
    have c0 := M1a.cell 0 rfl
    have c1 := M1a.cell 1 rfl
    have c2 := M1a.cell 2 rfl
    have c3 := M1a.cell 3 rfl
    have c4 := M1a.cell 4 rfl
    have f0 := M1a.fz 0 rfl
    have f1 := M1a.fz 1 rfl
    have f2 := M1a.fz 2 rfl
    have f3 := M1a.fz 3 rfl
    have f4 := M1a.fz 4 rfl
    have HB := hide M1a.bel
    clear hf M0 M1 M1a g1 hrt0 hy0 hled
    go_wp2
    refine bodyPost_ret (v := .agg #[.int .i64 (otF ss ts ds zs), .int .i64 0, .slice none 0 0, .slice none 0 0, .slice none 0 0]) (by simp [results, Try.results8, go_sem, c0, c1, c2, c3, c4, zR]) rfl ⟨_, _, _, _, _, _, _, _, _, by rw [HC.out, HV.out], ?_, (below_set5 HB.out (by omega) _ _ _ _ _).alloc (by simp; omega) _⟩
    rw [HS.out, HT.out, HD.out]
    exact OT.nil _ _ _ _ _
  obtain ⟨hf1, hz⟩ := otF_zero hf
  obtain ⟨rfl, M, X1, X2, X3, rfl, l1, l2, l3, l4, l5, own, ox, oy⟩ := hled hf1
  simp only [World.size_alloc] at l1
  obtain rfl : lb = 4 := by have := fault_len hz; have := hy.1; omega
  obtain ⟨hr, hmy, _, _, _⟩ := tabF_zero hf1
  have hml := many_len hmy
  have good := good_of hr
  have few := good.few
  have hxn1 : ts.length ≤ xn := Nat.le_of_eq ox.1.1
  have hxn2 : xn ≤ ts.length := Nat.le_of_eq ox.1.1.symm
  have HXL := hide ox.1.1
  have al := (Below.refl w1.heap.size w1).alloc (Nat.le_refl _) (.cells #[.int .i64 (ss.length : Int), .map (some M), .slice xa xn xc, .slice ya yn yc] 65)
  have hbk : Bk (w1.alloc (.cells #[.int .i64 (ss.length : Int), .map (some M), .slice xa xn xc, .slice ya yn yc] 65)) w1.heap.size M (ss.length : Int) ss.length (bk ss ss.length) := ⟨by simp, by simp, by simp, fun j => by simp, ownsMap_below own al (Nat.le_refl _)⟩
  have hM1 := own.lt
  have M2 := M1.alloc1 (.slice b 4 cb) 31
  have al2 := (Below.refl _ (w1.alloc (.cells #[.int .i64 (ss.length : Int), .map (some M), .slice xa xn xc, .slice ya yn yc] 65))).alloc (Nat.le_refl _) (.cells #[.slice b 4 cb] 31)
  have hy2 := ((hy0.below g1 (Nat.le_refl _)).below al (Nat.le_refl _)).below al2 (Nat.le_refl _)
  have hb2 := hbk.below al2
  have ox2 := RW.loc.below al2 (RW.loc.below al ox)
  have oy2 := OS.loc.below al2 (OS.loc.below al oy.1)
  have lc1 := M1.cell 9 rfl
  have lc2 := M2.cell 0 rfl
  simp only [World.size_alloc] at lc2
  rw [hf]
  clear M0 M1 M1a g1 hrt0 hy0 hled own ox oy al al2 hbk hf1
  go_wp2_with fail
  refine (areThings_calls (some ⟨w1.heap.size + 1, 0, none⟩) 1 1 [zs] _ (by omega) (lbs_one lc2 hlb hy2)).mono ?_
  rintro e w2 ⟨rfl, g2⟩
  rw [things_one hz]
  have M3 := M2.below g2
  have z2 := g2.size
  simp only [World.size_alloc] at z2
  have hb3 := hb2.below g2
  have hy3 := hy2.below g2 (Nat.le_refl _)
  have ox3 := RW.loc.below g2 ox2
  have oy3 := OS.loc.below g2 oy2
  clear M2 g2 hb2 hy2 ox2 oy2 lc1 lc2
  by_cases ht : thing0 zs = true
  rotate_left
  · have htf : thing0 zs = false := by simpa using ht
    have HC : Hid (agC ss ts ds zs = 1) := by show _ = _; unfold agC; rw [if_pos hf, if_neg ht]
    have hf' : agC ss ts ds zs ≠ 0 := by rw [HC.out]; decide
    have HV : Hid (agV ss ts ds zs = 0) := if_neg hf'
    have HS : Hid (agS ss ts ds zs = []) := if_neg hf'
    have HT : Hid (agT ss ts ds zs = []) := if_neg hf'
    have HD : Hid (agD ss ts ds zs = []) := if_neg hf'
    rw [htf]
    have c0 := M3.cell 5 rfl
    have c1 := M3.cell 6 rfl
    have c2 := M3.cell 7 rfl
    have c3 := M3.cell 8 rfl
    have c4 := M3.cell 9 rfl
    have f0 := M3.fz 5 rfl
    have f1 := M3.fz 6 rfl
    have f2 := M3.fz 7 rfl
    have f3 := M3.fz 8 rfl
    have f4 := M3.fz 9 rfl
    have HB := hide M3.bel
    clear hf hf' ht htf M3 hb3 hy3 ox3 oy3 hz hr
    go_wp2
    refine bodyPost_ret (v := .agg #[.int .i64 1, .int .i64 0, .slice none 0 0, .slice none 0 0, .slice none 0 0]) (by simp [results, Try.results8, go_sem, c0, c1, c2, c3, c4]) rfl ⟨_, _, _, _, _, _, _, _, _, by rw [HC.out, HV.out], ?_, below_set5 HB.out (by omega) _ _ _ _ _⟩
    rw [HS.out, HT.out, HD.out]
    exact OT.nil _ _ _ _ _
  have HC : Hid (agC ss ts ds zs = if xn = 6 then 7 else etC ss zs) := by show _ = _; unfold agC; rw [if_pos hf, if_pos ht, HXL.out]
  rw [ht]
  have p2 := M3.cell 3 rfl
  have p3 := M3.cell 4 rfl
  have lc3 := M3.cell 10 rfl
  have Hr := hide hr
  have Hz := hide hz
  clear hf ht hr hz
  go_wp2_with fail
  refine (oneMore_calls w1.heap.size M ss.length 6 ss zs _ (InR X1 X2) xa xn xc ts b cb _ hb3 (by omega) good (rep_bk Hr.out) Hz.out ox3 (fun e => by have := e.1; omega) (fun e => by have := e.2; omega) hy3 (by omega) (by omega)).mono ?_
  rintro e w3 ⟨ra, rn, rc, rfl, u3, k3, hfin⟩
  have z3 := u3.size
  have q2 := ((k3 2).1 (by omega)).trans p2
  have q3 := ((k3 3).1 (by omega)).trans p3
  have qf := (k3 2).2.trans (hb3.f 2)
  have M4 : Mm w w3 [(w.heap.size + 1 + 1, 0, .int .i64 0), (w.heap.size + 1 + 1, 1, .int .i64 0), (w.heap.size + 1 + 1, 2, .slice none 0 0), (w.heap.size + 1 + 1, 3, .slice none 0 0), (w.heap.size + 1 + 1, 4, .slice none 0 0)] [] :=
    (M3.sub (fun _ h => by simp only [List.mem_cons, List.not_mem_nil, or_false] at h ⊢; rcases h with h | h | h | h | h <;> simp [h]) (fun _ h => by cases h)).out (B := M) (T := w1.heap.size + 1) (u3.mono (fun k hk => by rcases hk with (hk | hk) | hk; exact ⟨by omega, by omega⟩; exact ⟨by omega, by omega⟩; exact ⟨by have := hk.1; omega, by have := hk.2; omega⟩)) (by omega) (by simp <;> omega) (by simp)
  have oy4 := OS.loc.out u3 (fun k h h' => by have := h.1; have := h.2; rcases h' with (h' | h') | h'; omega; omega; have := h'.2; omega) oy3
  clear M3 u3 k3 hb3 hy3 ox3 oy3 p2 p3 lc3
  by_cases hk : (if xn = 6 then 7 else etC ss zs) = 0
  rotate_left
  · have hf' : agC ss ts ds zs ≠ 0 := by rw [HC.out]; exact hk
    have HV : Hid (agV ss ts ds zs = 0) := if_neg hf'
    have HS : Hid (agS ss ts ds zs = []) := if_neg hf'
    have HT : Hid (agT ss ts ds zs = []) := if_neg hf'
    have HD : Hid (agD ss ts ds zs = []) := if_neg hf'
    rw [← HC.out] at hk ⊢
    have e2 : (agC ss ts ds zs != 0) = true := by simpa using hk
    have M5 := M4
    have c0 := M5.cell 0 rfl
    have c1 := M5.cell 1 rfl
    have c2 := M5.cell 2 rfl
    have c3 := M5.cell 3 rfl
    have c4 := M5.cell 4 rfl
    have f0 := M5.fz 0 rfl
    have f1 := M5.fz 1 rfl
    have f2 := M5.fz 2 rfl
    have f3 := M5.fz 3 rfl
    have f4 := M5.fz 4 rfl
    have HB := hide M5.bel
    have HP : Hid (w.heap.size ≤ w1.heap.size) := by show _ ≤ _; omega
    have hne : w.heap.size + 1 + 1 ≠ w1.heap.size := by omega
    clear hf' hk M4 M5 hfin oy4 HC
    go_wp2
    refine bodyPost_ret (v := .agg #[.int .i64 (agC ss ts ds zs), .int .i64 0, .slice none 0 0, .slice none 0 0, .slice none 0 0]) (by simp [results, Try.results8, go_sem, c0, c1, c2, c3, c4]) rfl ⟨_, _, _, _, _, _, _, _, _, by rw [HV.out], ?_, below_set5 (HB.out.setCell HP.out _) (by omega) _ _ _ _ _⟩
    rw [HS.out, HT.out, HD.out]
    exact OT.nil _ _ _ _ _
  have h6 : xn ≠ 6 := fun e => by rw [if_pos e] at hk; cases hk
  have het : etC ss zs = 0 := by rw [if_neg h6] at hk; exact hk
  have HC0 : Hid (agC ss ts ds zs = 0) := HC.out.trans hk
  have HV : Hid (agV ss ts ds zs = (ts.length : Int) + 1) := if_pos HC0.out
  have HS : Hid (agS ss ts ds zs = enS ss zs) := if_pos HC0.out
  have HT : Hid (agT ss ts ds zs = ts ++ [(enQ ss zs : Int)]) := if_pos HC0.out
  have HD : Hid (agD ss ts ds zs = ds) := if_pos HC0.out
  obtain ⟨rfl, ox4, D3, hb4, hrep⟩ := hfin h6 het
  have gl2 := good_enter good Hz.out het
  rw [hk]
  have hb5 : Bk (w3.setCell ⟨w1.heap.size, 2, none⟩ (.slice ra (xn + 1) rc)) w1.heap.size M ((enS ss zs).length : Int) (ss.length + 1) D3 := by
    refine ⟨by simpa using hb4.lt, ?_, ?_, fun k => by simpa using hb4.f k, hb4.own.setCell (by show M ≠ w1.heap.size; omega) _⟩
    · rw [World.cell?_setCell_other _ _ _ _ (fun e => by injection e with _ e2; omega)]; exact hb4.c0
    · rw [World.cell?_setCell_other _ _ _ _ (fun e => by injection e with _ e2; omega)]; exact hb4.c1
  have ox5 := OS.loc.setC ox4 (q := ⟨w1.heap.size, 2, none⟩) (fun e => by simp only at e; rcases e with e | e; have := e.2; omega; have := e.1; omega) (.slice ra (xn + 1) rc)
  have oy5 := OS.loc.setC oy4 (q := ⟨w1.heap.size, 2, none⟩) (fun e => by have := e.2; simp only at this; omega) (.slice ra (xn + 1) rc)
  have s2 : (w3.setCell ⟨w1.heap.size, 2, none⟩ (.slice ra (xn + 1) rc)).cell? ⟨w1.heap.size, 2, none⟩ = some (.slice ra (xn + 1) rc) := World.cell?_setCell_same _ _ _ q2
  have s3 : (w3.setCell ⟨w1.heap.size, 2, none⟩ (.slice ra (xn + 1) rc)).cell? ⟨w1.heap.size, 3, none⟩ = some (.slice ya yn yc) := (World.cell?_setCell_other _ _ _ _ (fun e => by injection e with _ e2; omega)).trans q3
  have M5 := M4.out (B := w1.heap.size) (T := w1.heap.size + 1) ((OutS.refl (InR w1.heap.size (w1.heap.size + 1)) w3).setCell (p := ⟨w1.heap.size, 2, none⟩) ⟨Nat.le_refl _, Nat.lt_succ_self _⟩ (.slice ra (xn + 1) rc)) (by omega) (by simp <;> omega) (by simp)
  obtain ⟨W4, hW4⟩ : ∃ x, x = w3.setCell ⟨w1.heap.size, 2, none⟩ (.slice ra (xn + 1) rc) := ⟨_, rfl⟩
  have HW4 := hide hW4
  rw [← hW4] at M5 hb5 ox5 oy5 s2 s3
  have z4 : w3.heap.size ≤ W4.heap.size := by rw [hW4]; simp
  have z4' : W4.heap.size ≤ w3.heap.size := by rw [hW4]; simp
  have ec : ((0 : Int) != 0) = false := by simp
  clear hW4 M4 ox4 oy4 hb4 hfin hk HC
  go_upto_region 8 with fail
  rw [← HW4.out]
  clear HW4 q2 q3 qf
  go_wp2_with fail
  refine (lastTagB_calls w1.heap.size ra (xn + 1) rc _ s2).mono ?_
  rintro e w4 ⟨rfl, g4⟩
  have M6 := M5.below g4
  have z5 := g4.size
  have hb6 := hb5.below g4
  have ox6 := OS.loc.below g4 ox5
  have oy6 := OS.loc.below g4 oy5
  have hPl := hb5.lt
  have t2 := (g4.cell (p := ⟨w1.heap.size, 2, none⟩) hPl).trans s2
  have t3 := (g4.cell (p := ⟨w1.heap.size, 3, none⟩) hPl).trans s3
  clear M5 g4 hb5 ox5 oy5 s2 s3
  go_wp2_with fail
  refine (tables_calls w1.heap.size M _ (enS ss zs) D3 ra (xn + 1) rc ya yn yc _ hb6 gl2 hrep t2 t3).mono ?_
  rintro e w5 ⟨bb, rfl, o5, g5⟩
  have M7 := M6.below g5
  have z6 := g5.size
  have ox7 := OS.loc.below g5 ox6
  have oy7 := OS.loc.below g5 oy6
  have c0 := M7.cell 0 rfl
  have c1 := M7.cell 1 rfl
  have c2 := M7.cell 2 rfl
  have c3 := M7.cell 3 rfl
  have c4 := M7.cell 4 rfl
  have f0 := M7.fz 0 rfl
  have f1 := M7.fz 1 rfl
  have f2 := M7.fz 2 rfl
  have f3 := M7.fz 3 rfl
  have f4 := M7.fz 4 rfl
  have HB := hide M7.bel
  have HO : Hid (∀ v0 v1 v2 v3 v4, OT (InR w.heap.size w5.heap.size) (some ⟨bb, 0, none⟩) (enS ss zs).length (enS ss zs) ra (xn + 1) (ts ++ [(enQ ss zs : Int)]) ya yn ds (((((w5.setCell ⟨w.heap.size + 1 + 1, 0, none⟩ v0).setCell ⟨w.heap.size + 1 + 1, 1, none⟩ v1).setCell ⟨w.heap.size + 1 + 1, 2, none⟩ v2).setCell ⟨w.heap.size + 1 + 1, 3, none⟩ v3).setCell ⟨w.heap.size + 1 + 1, 4, none⟩ v4)) := fun v0 v1 v2 v3 v4 =>
    OT.ofS (loc_set5 OR.loc o5 (fun e => by have := e.1; omega) v0 v1 v2 v3 v4) (loc_set5 OS.loc ox7 (fun e => by rcases e with e | e; have := e.1; omega; have := e.1; omega) v0 v1 v2 v3 v4) (loc_set5 OS.loc oy7 (fun e => by have := e.1; omega) v0 v1 v2 v3 v4)
      (fun k h => ⟨by have := h.1; omega, by have := h.2; omega⟩) (fun k h => by rcases h with h | h; exact ⟨by have := h.1; omega, by have := h.2; omega⟩; exact ⟨by have := h.1; omega, by have := h.2; omega⟩) (fun k h => ⟨by have := h.1; omega, by have := h.2; omega⟩)
      (fun k h h' => by have := h.1; rcases h' with h' | h'; have := h'.2; omega; have := h'.2; omega) (fun k h h' => by have := h.1; have := h'.2; omega) (fun k h h' => by have := h'.1; have := h'.2; rcases h with h | h; have := h.2; omega; have := h.1; omega)
  clear M6 M7 g5 o5 ox6 oy6 ox7 oy7 hb6 hrep t2 t3
  go_wp2
  refine bodyPost_ret (v := .agg #[.int .i64 0, .int .i64 ((xn : Int) + 1), .slice (some ⟨bb, 0, none⟩) (enS ss zs).length (enS ss zs).length, .slice ra (xn + 1) rc, .slice ya yn yc]) (by simp [results, Try.results8, go_sem, c0, c1, c2, c3, c4]) rfl ⟨_, _, _, _, _, _, _, _, _, by rw [HC0.out, HV.out, HXL.out], ?_, below_set5 HB.out (by omega) _ _ _ _ _⟩
  rw [HS.out, HT.out, HD.out]
  simpa using HO.out _ _ _ _ _

set_option maxRecDepth 100000 in
theorem lastDomainB_calls (P : Nat) (xa : Option Addr) (xn xc : Nat) (w : World) (c3 : w.cell? ⟨P, 3, none⟩ = some (.slice xa (xn + 1) xc)) (hx : xn ≤ 10) :
    Calls Try.prog 44 #[.pointer (some ⟨P, 0, none⟩)] w fun e w' => e = .returned (.int .i64 (xn : Int)) ∧ Below w.heap.size w w' := by
  go_enter Try.func44, Try.ntmps44
  go_wp2
  go_ret
  exact ⟨by simp, Below.refl _ _⟩

set_option maxRecDepth 100000 in
set_option maxHeartbeats 2000000 in
theorem implAddDomain_calls (a : Option Addr) (n c : Nat) (ss : List (Int × List Int)) (ta : Option Addr) (tn tc : Nat) (ts : List Int) (da : Option Addr) (dn dc : Nat) (ds : List Int) (b : Option Addr) (lb cb : Nat) (zs : List Int) (w : World) (hrt : RT w a n ss ta tn ts da dn ds) (hlb : lb ≤ maxLen) (hy : Sl w b lb zs) :
    Calls Try.prog 9 #[.agg #[.slice a n c, .slice ta tn tc, .slice da dn dc], .agg #[.slice b lb cb]] w fun e w' => ∃ ra rn rc xa xn xc ya yn yc, e = .returned (.agg #[.int .i64 (adC ss ts ds zs), .int .i64 (adV ss ts ds zs), .slice ra rn rc, .slice xa xn xc, .slice ya yn yc]) ∧
      OT (InR w.heap.size w'.heap.size) ra rn (adS ss ts ds zs) xa xn (adT ss ts ds zs) ya yn (adD ss ts ds zs) w' ∧ Below w.heap.size w w' := by
  have M0 := (((Mm.start w).alloc3 (.slice a n c) (.slice ta tn tc) (.slice da dn dc) 29).alloc1 (.slice b lb cb) 31).alloc5 (.int .i64 0) (.int .i64 0) (.slice none 0 0) (.slice none 0 0) (.slice none 0 0) 35
  simp only [World.size_alloc] at M0
  have hrt0 := hrt.below M0.bel (Nat.le_refl _)
  have hy0 := hy.below M0.bel (Nat.le_refl _)
  go_enter Try.func9, Try.ntmps9
  go_wp2_with fail
  refine (openTablesFor_calls a n c ss ta tn tc ts da dn dc ds b lb cb zs _ hrt0 hlb hy0).mono ?_
  rintro e w1 ⟨sz, mo, xa, xn, xc, ya, yn, yc, rfl, g1, hled⟩
  have M1a := M0.below g1
  have zR := M1a.lt 0 rfl
  have M1 := (M0.below g1).alloc4 (.int .i64 sz) (.map mo) (.slice xa xn xc) (.slice ya yn yc) 65
  have z1 := g1.size
  simp only [World.size_alloc] at z1
  by_cases hf : otF ss ts ds zs = 0
  rotate_left
  · have HC : Hid (adC ss ts ds zs = otF ss ts ds zs) := if_neg hf
    have hf' : adC ss ts ds zs ≠ 0 := by rw [HC.out]; exact hf
    have HV : Hid (adV ss ts ds zs = 0) := if_neg hf'
    have HS : Hid (adS ss ts ds zs = []) := if_neg hf'
    have HT : Hid (adT ss ts ds zs = []) := if_neg hf'
    have HD : Hid (adD ss ts ds zs = []) := if_neg hf'
    clear hf'
    have e1 : (otF ss ts ds zs == 0) = false := by simpa using hf
    have e2 : (otF ss ts ds zs != 0) = true := by simpa using hf
    have c0 := M1a.cell 0 rfl
    have c1 := M1a.cell 1 rfl
    have c2 := M1a.cell 2 rfl
    have c3 := M1a.cell 3 rfl
    have c4 := M1a.cell 4 rfl
    have f0 := M1a.fz 0 rfl
    have f1 := M1a.fz 1 rfl
    have f2 := M1a.fz 2 rfl
    have f3 := M1a.fz 3 rfl
    have f4 := M1a.fz 4 rfl
    have HB := hide M1a.bel
    clear hf M0 M1 M1a g1 hrt0 hy0 hled
    go_wp2
    refine bodyPost_ret (v := .agg #[.int .i64 (otF ss ts ds zs), .int .i64 0, .slice none 0 0, .slice none 0 0, .slice none 0 0]) (by simp [results, Try.results9, go_sem, c0, c1, c2, c3, c4, zR]) rfl ⟨_, _, _, _, _, _, _, _, _, by rw [HC.out, HV.out], ?_, (below_set5 HB.out (by omega) _ _ _ _ _).alloc (by simp; omega) _⟩
    rw [HS.out, HT.out, HD.out]
    exact OT.nil _ _ _ _ _
  obtain ⟨hf1, hz⟩ := otF_zero hf
  obtain ⟨rfl, M, X1, X2, X3, rfl, l1, l2, l3, l4, l5, own, ox, oy⟩ := hled hf1
  simp only [World.size_alloc] at l1
  obtain rfl : lb = 4 := by have := fault_len hz; have := hy.1; omega
  obtain ⟨hr, hmy, _, _, _⟩ := tabF_zero hf1
  have hml := many_len hmy
  have good := good_of hr
  have few := good.few
  have hyn1 : ds.length ≤ yn := Nat.le_of_eq oy.1.1
  have hyn2 : yn ≤ ds.length := Nat.le_of_eq oy.1.1.symm
  have HYL := hide oy.1.1
  have al := (Below.refl w1.heap.size w1).alloc (Nat.le_refl _) (.cells #[.int .i64 (ss.length : Int), .map (some M), .slice xa xn xc, .slice ya yn yc] 65)
  have hbk : Bk (w1.alloc (.cells #[.int .i64 (ss.length : Int), .map (some M), .slice xa xn xc, .slice ya yn yc] 65)) w1.heap.size M (ss.length : Int) ss.length (bk ss ss.length) := ⟨by simp, by simp, by simp, fun j => by simp, ownsMap_below own al (Nat.le_refl _)⟩
  have hM1 := own.lt
  have M2 := M1.alloc1 (.slice b 4 cb) 31
  have al2 := (Below.refl _ (w1.alloc (.cells #[.int .i64 (ss.length : Int), .map (some M), .slice xa xn xc, .slice ya yn yc] 65))).alloc (Nat.le_refl _) (.cells #[.slice b 4 cb] 31)
  have hy2 := ((hy0.below g1 (Nat.le_refl _)).below al (Nat.le_refl _)).below al2 (Nat.le_refl _)
  have hb2 := hbk.below al2
  have ox2 := OS.loc.below al2 (OS.loc.below al ox.1)
  have oy2 := RW.loc.below al2 (RW.loc.below al oy)
  have lc1 := M1.cell 9 rfl
  have lc2 := M2.cell 0 rfl
  simp only [World.size_alloc] at lc2
  rw [hf]
  clear M0 M1 M1a g1 hrt0 hy0 hled own ox oy al al2 hbk hf1
  go_wp2_with fail
  refine (areWithoutTop_calls (some ⟨w1.heap.size + 1, 0, none⟩) 1 1 [zs] _ (by omega) (lbs_one lc2 hlb hy2)).mono ?_
  rintro e w2 ⟨rfl, g2⟩
  rw [lows_one]
  have M3 := M2.below g2
  have z2 := g2.size
  simp only [World.size_alloc] at z2
  have hb3 := hb2.below g2
  have hy3 := hy2.below g2 (Nat.le_refl _)
  have ox3 := OS.loc.below g2 ox2
  have oy3 := RW.loc.below g2 oy2
  clear M2 g2 hb2 hy2 ox2 oy2 lc1 lc2
  by_cases ht : lowB zs = true
  rotate_left
  · have htf : lowB zs = false := by simpa using ht
    have HC : Hid (adC ss ts ds zs = 1) := by show _ = _; unfold adC; rw [if_pos hf, if_neg ht]
    have hf' : adC ss ts ds zs ≠ 0 := by rw [HC.out]; decide
    have HV : Hid (adV ss ts ds zs = 0) := if_neg hf'
    have HS : Hid (adS ss ts ds zs = []) := if_neg hf'
    have HT : Hid (adT ss ts ds zs = []) := if_neg hf'
    have HD : Hid (adD ss ts ds zs = []) := if_neg hf'
    rw [htf]
    have c0 := M3.cell 5 rfl
    have c1 := M3.cell 6 rfl
    have c2 := M3.cell 7 rfl
    have c3 := M3.cell 8 rfl
    have c4 := M3.cell 9 rfl
    have f0 := M3.fz 5 rfl
    have f1 := M3.fz 6 rfl
    have f2 := M3.fz 7 rfl
    have f3 := M3.fz 8 rfl
    have f4 := M3.fz 9 rfl
    have HB := hide M3.bel
    clear hf hf' ht htf M3 hb3 hy3 ox3 oy3 hz hr
    go_wp2
    refine bodyPost_ret (v := .agg #[.int .i64 1, .int .i64 0, .slice none 0 0, .slice none 0 0, .slice none 0 0]) (by simp [results, Try.results9, go_sem, c0, c1, c2, c3, c4]) rfl ⟨_, _, _, _, _, _, _, _, _, by rw [HC.out, HV.out], ?_, below_set5 HB.out (by omega) _ _ _ _ _⟩
    rw [HS.out, HT.out, HD.out]
    exact OT.nil _ _ _ _ _
  have HC : Hid (adC ss ts ds zs = if yn = 4 then 7 else etC ss zs) := by show _ = _; unfold adC; rw [if_pos hf, if_pos ht, HYL.out]
  rw [ht]
  have p2 := M3.cell 3 rfl
  have p3 := M3.cell 4 rfl
  have lc3 := M3.cell 10 rfl
  have Hr := hide hr
  have Hz := hide hz
  clear hf ht hr hz
  go_wp2_with fail
  refine (oneMore_calls w1.heap.size M ss.length 4 ss zs _ (InR X2 X3) ya yn yc ds b cb _ hb3 (by omega) good (rep_bk Hr.out) Hz.out oy3 (fun e => by have := e.1; omega) (fun e => by have := e.2; omega) hy3 (by omega) (by omega)).mono ?_
  rintro e w3 ⟨ra, rn, rc, rfl, u3, k3, hfin⟩
  have z3 := u3.size
  have q2 := ((k3 2).1 (by omega)).trans p2
  have q3 := ((k3 3).1 (by omega)).trans p3
  have qf := (k3 3).2.trans (hb3.f 3)
  have M4 : Mm w w3 [(w.heap.size + 1 + 1, 0, .int .i64 0), (w.heap.size + 1 + 1, 1, .int .i64 0), (w.heap.size + 1 + 1, 2, .slice none 0 0), (w.heap.size + 1 + 1, 3, .slice none 0 0), (w.heap.size + 1 + 1, 4, .slice none 0 0)] [] :=
    (M3.sub (fun _ h => by simp only [List.mem_cons, List.not_mem_nil, or_false] at h ⊢; rcases h with h | h | h | h | h <;> simp [h]) (fun _ h => by cases h)).out (B := M) (T := w1.heap.size + 1) (u3.mono (fun k hk => by rcases hk with (hk | hk) | hk; exact ⟨by omega, by omega⟩; exact ⟨by omega, by omega⟩; exact ⟨by have := hk.1; omega, by have := hk.2; omega⟩)) (by omega) (by simp <;> omega) (by simp)
  have ox4 := OS.loc.out u3 (fun k h h' => by have := h.1; have := h.2; rcases h' with (h' | h') | h'; omega; omega; have := h'.1; omega) ox3
  clear M3 u3 k3 hb3 hy3 ox3 oy3 p2 p3 lc3
  by_cases hk : (if yn = 4 then 7 else etC ss zs) = 0
  rotate_left
  · have hf' : adC ss ts ds zs ≠ 0 := by rw [HC.out]; exact hk
    have HV : Hid (adV ss ts ds zs = 0) := if_neg hf'
    have HS : Hid (adS ss ts ds zs = []) := if_neg hf'
    have HT : Hid (adT ss ts ds zs = []) := if_neg hf'
    have HD : Hid (adD ss ts ds zs = []) := if_neg hf'
    rw [← HC.out] at hk ⊢
    have e2 : (adC ss ts ds zs != 0) = true := by simpa using hk
    have M5 := M4
    have c0 := M5.cell 0 rfl
    have c1 := M5.cell 1 rfl
    have c2 := M5.cell 2 rfl
    have c3 := M5.cell 3 rfl
    have c4 := M5.cell 4 rfl
    have f0 := M5.fz 0 rfl
    have f1 := M5.fz 1 rfl
    have f2 := M5.fz 2 rfl
    have f3 := M5.fz 3 rfl
    have f4 := M5.fz 4 rfl
    have HB := hide M5.bel
    have HP : Hid (w.heap.size ≤ w1.heap.size) := by show _ ≤ _; omega
    have hne : w.heap.size + 1 + 1 ≠ w1.heap.size := by omega
    clear hf' hk M4 M5 hfin ox4 HC
    go_wp2
    refine bodyPost_ret (v := .agg #[.int .i64 (adC ss ts ds zs), .int .i64 0, .slice none 0 0, .slice none 0 0, .slice none 0 0]) (by simp [results, Try.results9, go_sem, c0, c1, c2, c3, c4]) rfl ⟨_, _, _, _, _, _, _, _, _, by rw [HV.out], ?_, below_set5 (HB.out.setCell HP.out _) (by omega) _ _ _ _ _⟩
    rw [HS.out, HT.out, HD.out]
    exact OT.nil _ _ _ _ _
  have h6 : yn ≠ 4 := fun e => by rw [if_pos e] at hk; cases hk
  have het : etC ss zs = 0 := by rw [if_neg h6] at hk; exact hk
  have HC0 : Hid (adC ss ts ds zs = 0) := HC.out.trans hk
  have HV : Hid (adV ss ts ds zs = (ds.length : Int)) := if_pos HC0.out
  have HS : Hid (adS ss ts ds zs = enS ss zs) := if_pos HC0.out
  have HT : Hid (adT ss ts ds zs = ts) := if_pos HC0.out
  have HD : Hid (adD ss ts ds zs = ds ++ [(enQ ss zs : Int)]) := if_pos HC0.out
  obtain ⟨rfl, oy4, D3, hb4, hrep⟩ := hfin h6 het
  have gl2 := good_enter good Hz.out het
  rw [hk]
  have hb5 : Bk (w3.setCell ⟨w1.heap.size, 3, none⟩ (.slice ra (yn + 1) rc)) w1.heap.size M ((enS ss zs).length : Int) (ss.length + 1) D3 := by
    refine ⟨by simpa using hb4.lt, ?_, ?_, fun k => by simpa using hb4.f k, hb4.own.setCell (by show M ≠ w1.heap.size; omega) _⟩
    · rw [World.cell?_setCell_other _ _ _ _ (fun e => by injection e with _ e2; omega)]; exact hb4.c0
    · rw [World.cell?_setCell_other _ _ _ _ (fun e => by injection e with _ e2; omega)]; exact hb4.c1
  have oy5 := OS.loc.setC oy4 (q := ⟨w1.heap.size, 3, none⟩) (fun e => by simp only at e; rcases e with e | e; have := e.2; omega; have := e.1; omega) (.slice ra (yn + 1) rc)
  have ox5 := OS.loc.setC ox4 (q := ⟨w1.heap.size, 3, none⟩) (fun e => by have := e.2; simp only at this; omega) (.slice ra (yn + 1) rc)
  have s2 : (w3.setCell ⟨w1.heap.size, 3, none⟩ (.slice ra (yn + 1) rc)).cell? ⟨w1.heap.size, 2, none⟩ = some (.slice xa xn xc) := (World.cell?_setCell_other _ _ _ _ (fun e => by injection e with _ e2; omega)).trans q2
  have s3 : (w3.setCell ⟨w1.heap.size, 3, none⟩ (.slice ra (yn + 1) rc)).cell? ⟨w1.heap.size, 3, none⟩ = some (.slice ra (yn + 1) rc) := World.cell?_setCell_same _ _ _ q3
  have M5 := M4.out (B := w1.heap.size) (T := w1.heap.size + 1) ((OutS.refl (InR w1.heap.size (w1.heap.size + 1)) w3).setCell (p := ⟨w1.heap.size, 3, none⟩) ⟨Nat.le_refl _, Nat.lt_succ_self _⟩ (.slice ra (yn + 1) rc)) (by omega) (by simp <;> omega) (by simp)
  obtain ⟨W4, hW4⟩ : ∃ x, x = w3.setCell ⟨w1.heap.size, 3, none⟩ (.slice ra (yn + 1) rc) := ⟨_, rfl⟩
  have HW4 := hide hW4
  rw [← hW4] at M5 hb5 ox5 oy5 s2 s3
  have z4 : w3.heap.size ≤ W4.heap.size := by rw [hW4]; simp
  have z4' : W4.heap.size ≤ w3.heap.size := by rw [hW4]; simp
  have ec : ((0 : Int) != 0) = false := by simp
  clear hW4 M4 ox4 oy4 hb4 hfin hk HC
  go_upto_region 8 with fail
  rw [← HW4.out]
  clear HW4 q2 q3 qf
  go_wp2_with fail
  refine (lastDomainB_calls w1.heap.size ra yn rc _ s3 (by omega)).mono ?_
  rintro e w4 ⟨rfl, g4⟩
  have M6 := M5.below g4
  have z5 := g4.size
  have hb6 := hb5.below g4
  have ox6 := OS.loc.below g4 ox5
  have oy6 := OS.loc.below g4 oy5
  have hPl := hb5.lt
  have t2 := (g4.cell (p := ⟨w1.heap.size, 2, none⟩) hPl).trans s2
  have t3 := (g4.cell (p := ⟨w1.heap.size, 3, none⟩) hPl).trans s3
  clear M5 g4 hb5 ox5 oy5 s2 s3
  go_wp2_with fail
  refine (tables_calls w1.heap.size M _ (enS ss zs) D3 xa xn xc ra (yn + 1) rc _ hb6 gl2 hrep t2 t3).mono ?_
  rintro e w5 ⟨bb, rfl, o5, g5⟩
  have M7 := M6.below g5
  have z6 := g5.size
  have ox7 := OS.loc.below g5 ox6
  have oy7 := OS.loc.below g5 oy6
  have c0 := M7.cell 0 rfl
  have c1 := M7.cell 1 rfl
  have c2 := M7.cell 2 rfl
  have c3 := M7.cell 3 rfl
  have c4 := M7.cell 4 rfl
  have f0 := M7.fz 0 rfl
  have f1 := M7.fz 1 rfl
  have f2 := M7.fz 2 rfl
  have f3 := M7.fz 3 rfl
  have f4 := M7.fz 4 rfl
  have HB := hide M7.bel
  have HO : Hid (∀ v0 v1 v2 v3 v4, OT (InR w.heap.size w5.heap.size) (some ⟨bb, 0, none⟩) (enS ss zs).length (enS ss zs) xa xn ts ra (yn + 1) (ds ++ [(enQ ss zs : Int)]) (((((w5.setCell ⟨w.heap.size + 1 + 1, 0, none⟩ v0).setCell ⟨w.heap.size + 1 + 1, 1, none⟩ v1).setCell ⟨w.heap.size + 1 + 1, 2, none⟩ v2).setCell ⟨w.heap.size + 1 + 1, 3, none⟩ v3).setCell ⟨w.heap.size + 1 + 1, 4, none⟩ v4)) := fun v0 v1 v2 v3 v4 =>
    OT.ofS (loc_set5 OR.loc o5 (fun e => by have := e.1; omega) v0 v1 v2 v3 v4) (loc_set5 OS.loc ox7 (fun e => by have := e.1; omega) v0 v1 v2 v3 v4) (loc_set5 OS.loc oy7 (fun e => by rcases e with e | e; have := e.1; omega; have := e.1; omega) v0 v1 v2 v3 v4)
      (fun k h => ⟨by have := h.1; omega, by have := h.2; omega⟩) (fun k h => ⟨by have := h.1; omega, by have := h.2; omega⟩) (fun k h => by rcases h with h | h; exact ⟨by have := h.1; omega, by have := h.2; omega⟩; exact ⟨by have := h.1; omega, by have := h.2; omega⟩)
      (fun k h h' => by have := h.1; have := h'.2; omega) (fun k h h' => by have := h.1; rcases h' with h' | h'; have := h'.2; omega; have := h'.2; omega) (fun k h h' => by have := h.1; have := h.2; rcases h' with h' | h'; have := h'.1; omega; have := h'.1; omega)
  clear M6 M7 g5 o5 ox6 oy6 ox7 oy7 hb6 hrep t2 t3
  go_wp2
  refine bodyPost_ret (v := .agg #[.int .i64 0, .int .i64 (yn : Int), .slice (some ⟨bb, 0, none⟩) (enS ss zs).length (enS ss zs).length, .slice xa xn xc, .slice ra (yn + 1) rc]) (by simp [results, Try.results9, go_sem, c0, c1, c2, c3, c4]) rfl ⟨_, _, _, _, _, _, _, _, _, by rw [HC0.out, HV.out, HYL.out], ?_, below_set5 HB.out (by omega) _ _ _ _ _⟩
  rw [HS.out, HT.out, HD.out]
  simpa using HO.out _ _ _ _ _

set_option maxRecDepth 100000 in
set_option maxHeartbeats 1000000 in
theorem clone_C (a : Option Addr) (n cap : Nat) (zs : List Int) (w : World) (hn : n ≤ 1048576) (hs : Sl w a n zs) :
    Calls Try.prog 84 #[.slice a n cap] w fun e w' => ∃ ra rc, e = .returned (.slice ra n rc) ∧ n ≤ rc ∧ OS (InR w.heap.size w'.heap.size) ra n zs w' ∧ Below w.heap.size w w' := by
  obtain ⟨hlen, hs⟩ := hs
  obtain ⟨i0, hi, hz0, hz1, hz2⟩ := info_parts info2
  have hnil := fun (u : World) (x : Option Addr) (m c : Nat) => Lib.run_eql_slice_nil (P := Try.prog) u 27 2 x m c 0 0 Try.underlying27
  have hb0 := fun o1 => (Below.refl w.heap.size w).alloc (Nat.le_refl _) o1
  by_cases hp : 0 < n
  · obtain ⟨b, off, rfl, hb, hc⟩ := hs hp
    have hown := World.ownsRow_lit (base := w.heap.size) (e := 2) (size := 1) w #[] 0 (Nat.le_refl _) (Nat.zero_le _) rfl
    have hnews := ints_at_sl (w := w.alloc (.cells #[] 2)) (b := b) (off := off) (zs := zs) (fun i hi => ((hb0 _).cell (p := ⟨b, off + i, none⟩) hb).trans (hc i (by omega)))
    have HO := hide hown
    have HN := hide hnews
    have hm1 : 0 + n ≤ maxLen := by unfold maxLen; omega
    have hm2 : (0 + n) * 8 ≤ 140737488355328 := by omega
    have hl1 : (zs.map (Value.int .i64)).length = n * 1 := by simp [hlen]
    have hbs : w.heap.size ≤ (w.alloc (.cells #[] 2)).heap.size := by simp
    have HL := hide hl1
    have HM1 := hide hm1
    have HM2 := hide hm2
    have HBS := hide hbs
    clear hown hnews hs hc hl1 hm1 hm2 hbs
    go_enter Try.func84, Try.ntmps84
    go_wp2_with (first
      | (at_builtin; refine wpList_append_own _ rfl _ _ 27 rfl w.heap.size 2 i0 (.int .i64 0) 1 8 Try.underlying27 hi hz0 hz1 hz2 rfl (by decide) _ 0 [] rfl HO.out ⟨b, off, none⟩ n cap (zs.map (Value.int .i64)) rfl HL.out HN.out ints_one HM1.out HM2.out HBS.out ?_)
      | go_in)
    intro v' w1 hown' hgrow _
    have hown2 : w1.ownsRow w.heap.size 2 1 v' n (zs.map (Value.int .i64)) := by simpa using hown'
    obtain ⟨ra, rc, rfl, fr⟩ := owns_osl hn hown2
    have hcap : n ≤ rc := by
      rcases hown2.2 with ⟨h, h0⟩ | ⟨g, cp, cur, h, _, _, hc, _⟩
      · omega
      · simp only [Value.slice.injEq] at h; omega
    have h1 : Below w.heap.size w w1 := (hb0 _).grown hgrow (by simp) (fun k hk => by simp [Value.ownBlock] at hk; omega)
    have HFR := hide (OS.ofOSl fr)
    have HB1 := hide h1
    clear HO HN hown' hown2 hgrow hb0 fr h1
    go_wp2
    go_ret
    exact ⟨ra, rc, rfl, hcap, HFR.out, HB1.out⟩
  · have h0 : n = 0 := by omega
    subst h0
    cases a
    · go_enter Try.func84, Try.ntmps84
      go_wp2
      go_ret
      exact ⟨_, 0, rfl, by omega, ⟨hlen, by omega, .inl rfl⟩, Below.refl _ _⟩
    · go_enter Try.func84, Try.ntmps84
      go_wp2
      go_ret
      exact ⟨_, 0, rfl, by omega, ⟨hlen, by omega, .inl rfl⟩, hb0 _⟩

/-- what 'openTables' answers, with the room of its lists. -/
def OT2 (ss : List (Int × List Int)) (ts ds : List Int) (w : World) (e : Ending) (w' : World) : Prop :=
  ∃ sz mo xa xn xc ya yn yc, e = .returned (.tuple #[.agg #[.int .i64 sz, .map mo, .slice xa xn xc, .slice ya yn yc], .int .i64 (tabF ss ts ds)]) ∧ Below w.heap.size w w' ∧
    (tabF ss ts ds = 0 → sz = (ss.length : Int) ∧ (xn ≤ xc ∧ yn ≤ yc) ∧ Led w.heap.size mo ss xa xn ts ya yn ds w')

theorem OT2.mk {ss : List (Int × List Int)} {ts ds : List Int} {w w' : World} {e : Ending} (sz : Int) (mo : Option Nat) (xa : Option Addr) (xn xc : Nat) (ya : Option Addr) (yn yc : Nat) (he : e = .returned (.tuple #[.agg #[.int .i64 sz, .map mo, .slice xa xn xc, .slice ya yn yc], .int .i64 (tabF ss ts ds)])) (hb : Below w.heap.size w w')
    (h : tabF ss ts ds = 0 → sz = (ss.length : Int) ∧ (xn ≤ xc ∧ yn ≤ yc) ∧ Led w.heap.size mo ss xa xn ts ya yn ds w') : OT2 ss ts ds w e w' := ⟨sz, mo, xa, xn, xc, ya, yn, yc, he, hb, h⟩

set_option maxRecDepth 100000 in
set_option maxHeartbeats 4000000 in
theorem openTables_C (a : Option Addr) (n c : Nat) (ss : List (Int × List Int)) (ta : Option Addr) (tn tc : Nat) (ts : List Int) (da : Option Addr) (dn dc : Nat) (ds : List Int) (w : World) (hx : RT w a n ss ta tn ts da dn ds) :
    Calls Try.prog 45 #[.agg #[.slice a n c, .slice ta tn tc, .slice da dn dc]] w (OT2 ss ts ds w) := by
  have M0 := ((Mm.start w).alloc3 (.slice a n c) (.slice ta tn tc) (.slice da dn dc) 29).alloc4 (.int .i64 0) (.map none) (.slice none 0 0) (.slice none 0 0) 65
  simp only [World.size_alloc] at M0
  have hx0 := hx.below M0.bel (Nat.le_refl _)
  obtain rfl : n = ss.length := hx.2.1.1.symm
  have htl := hx.2.2.2.1.1
  have hdl := hx.2.2.2.2.2.1
  obtain ⟨hn, _, htm, _, hdm, _⟩ := hx
  obtain ⟨_, hss, _, hts, _, hds⟩ := hx0
  by_cases hr : faultR ss = 0
  · have er : (faultR ss != 0) = false := by simp [hr]
    have Hr := hide hr
    clear hr
    by_cases hmany : manyB ts ds = true
    · have HF := hide (tabF_many Hr.out hmany)
      by_cases h6 : 6 < tn
      · go_enter Try.func45, Try.ntmps45
        go_wp2_with fail
        refine (openRegistry_calls a _ c ss _ hn hss).mono ?_
        rintro e w1 ⟨sz, mo, rfl, g1, _⟩
        have M1 := (M0.below g1).alloc2 (.int .i64 sz) (.map mo) 63
        have t1 := M1.cell 7 rfl
        have r0 := M1.cell 2 rfl
        have r1 := M1.cell 3 rfl
        have r2 := M1.cell 4 rfl
        have r3 := M1.cell 5 rfl
        have f0 := M1.fz 2 rfl
        have f1 := M1.fz 3 rfl
        have f2 := M1.fz 4 rfl
        have f3 := M1.fz 5 rfl
        have HB := hide M1.bel
        clear M0 M1 g1 hss hts hds
        go_wp2
        refine bodyPost_ret (v := .tuple #[.agg #[.int .i64 0, .map none, .slice none 0 0, .slice none 0 0], .int .i64 2]) (by simp [results, Try.results45, go_sem, r0, r1, r2, r3]) rfl (OT2.mk 0 none none 0 0 none 0 0 (by rw [HF.out]) ?_ (fun h => absurd (HF.out.symm.trans h) (by decide)))
        exact (((HB.out.setCell (by simp) _).setCell (by simp) _).setCell (by simp) _).setCell (by simp) _
      · have h4 : 4 < dn := by
          unfold manyB at hmany
          simp at hmany
          omega
        go_enter Try.func45, Try.ntmps45
        go_wp2_with fail
        refine (openRegistry_calls a _ c ss _ hn hss).mono ?_
        rintro e w1 ⟨sz, mo, rfl, g1, _⟩
        have M1 := (M0.below g1).alloc2 (.int .i64 sz) (.map mo) 63
        have t1 := M1.cell 7 rfl
        have t2 := M1.cell 8 rfl
        have r0 := M1.cell 2 rfl
        have r1 := M1.cell 3 rfl
        have r2 := M1.cell 4 rfl
        have r3 := M1.cell 5 rfl
        have f0 := M1.fz 2 rfl
        have f1 := M1.fz 3 rfl
        have f2 := M1.fz 4 rfl
        have f3 := M1.fz 5 rfl
        have HB := hide M1.bel
        clear M0 M1 g1 hss hts hds
        go_wp2
        refine bodyPost_ret (v := .tuple #[.agg #[.int .i64 0, .map none, .slice none 0 0, .slice none 0 0], .int .i64 2]) (by simp [results, Try.results45, go_sem, r0, r1, r2, r3]) rfl (OT2.mk 0 none none 0 0 none 0 0 (by rw [HF.out]) ?_ (fun h => absurd (HF.out.symm.trans h) (by decide)))
        exact (((HB.out.setCell (by simp) _).setCell (by simp) _).setCell (by simp) _).setCell (by simp) _
    · have hmf : manyB ts ds = false := by simpa using hmany
      have HF := hide (tabF_led Hr.out hmf)
      have hs6 : ¬ (6 < tn) ∧ ¬ (4 < dn) := by
        unfold manyB at hmf
        simp at hmf
        omega
      obtain ⟨h6, h4⟩ := hs6
      clear hmany hmf
      go_enter Try.func45, Try.ntmps45
      go_wp2_with fail
      refine (openRegistry_calls a _ c ss _ hn hss).mono ?_
      rintro e w1 ⟨sz, mo, rfl, g1, hown⟩
      obtain ⟨rfl, M, rfl, hM, hown⟩ := hown Hr.out
      simp only [World.size_alloc] at hM
      have M1 := (M0.below g1).alloc2 (.int .i64 (ss.length : Int)) (.map (some M)) 63
      have al := (Below.refl w1.heap.size w1).alloc (Nat.le_refl _) (.cells #[.int .i64 (ss.length : Int), .map (some M)] 63)
      have s1 := (hts.below g1 (Nat.le_refl _)).below al (Nat.le_refl _)
      have s2 := (hds.below g1 (Nat.le_refl _)).below al (Nat.le_refl _)
      have hown1 := ownsMap_below hown al (Nat.le_refl _)
      have q0 := M1.cell 0 rfl
      have q1 := M1.cell 1 rfl
      have q2 := M1.cell 7 rfl
      have q3 := M1.cell 8 rfl
      have lt0 := M1.lt 0 rfl
      have lt2 := M1.lt 7 rfl
      have ltR := M1.lt 2 rfl
      have hMlt : M < w1.heap.size := hown.lt
      clear g1 al hown hss hts hds M0
      go_upto_region 6 with fail
      generalize hW : (w1.alloc (.cells #[.int .i64 (ss.length : Int), .map (some M)] 63)) = W at M1 s1 s2 hown1 q0 q1 q2 q3 lt0 lt2 ltR ⊢
      have HWs : Hid (W.heap.size = w1.heap.size + 1) := by show _ = _; rw [← hW]; simp
      clear hW
      go_cut [6] (fun v6 wd => ∃ P xa xc ya yc X1 X2 X3, v6 = .pointer (some ⟨P, 0, none⟩) ∧ wd.cell? ⟨P, 0, none⟩ = some (.int .i64 (ss.length : Int)) ∧ wd.cell? ⟨P, 1, none⟩ = some (.map (some M)) ∧ wd.cell? ⟨P, 2, none⟩ = some (.slice xa tn xc) ∧ wd.cell? ⟨P, 3, none⟩ = some (.slice ya dn yc) ∧
        (∀ j, wd.frozen? ⟨P, j, none⟩ = false) ∧ (W.heap.size ≤ X1 ∧ X1 ≤ X2 ∧ X2 ≤ X3 ∧ X3 ≤ wd.heap.size ∧ tn ≤ xc ∧ dn ≤ yc) ∧ OS (InR X1 X2) xa tn ts wd ∧ OS (InR X2 X3) ya dn ds wd ∧ Below W.heap.size W wd)
      case first =>
        have HS0 : Hid (W.drew.cell? ⟨w1.heap.size, 0, none⟩ = some (.int .i64 (ss.length : Int)) ∧ W.drew.cell? ⟨w1.heap.size, 1, none⟩ = some (.map (some M)) ∧ W.drew.cell? ⟨w.heap.size, 1, none⟩ = some (.slice ta tn tc) ∧ W.drew.cell? ⟨w.heap.size, 2, none⟩ = some (.slice da dn dc) ∧ Below W.heap.size W W.drew) := ⟨q0, q1, q2, q3, (Below.refl _ _).drew⟩
        have HS1 := hide s1
        have HS2 := hide s2
        clear M1 s1 s2 hown1
        go_region_held2 (fun w' => w'.cell? ⟨w1.heap.size, 0, none⟩ = some (.int .i64 (ss.length : Int)) ∧ w'.cell? ⟨w1.heap.size, 1, none⟩ = some (.map (some M)) ∧ w'.cell? ⟨w.heap.size, 1, none⟩ = some (.slice ta tn tc) ∧ w'.cell? ⟨w.heap.size, 2, none⟩ = some (.slice da dn dc) ∧ Below W.heap.size W w')
          (first | with_reducible exact HS0.out | (repeat (first | with_reducible assumption | with_reducible refine q4_allocd lt0 lt0 lt2 lt2 ?_ _ | with_reducible refine q4_alloc lt0 lt0 lt2 lt2 ?_ _ | with_reducible refine q4_set lt0 lt0 lt2 lt2 ?_ ?_ _ | (show (_ : Nat) ≤ _; exact Nat.le_refl _) | (show (_ : Nat) ≤ _; dsimp only; omega))))
          (first
            | (go_at_call_of 84 (Value.slice ta tn tc); refine (clone_C ta tn tc ts _ (by omega) ?_).mono ?_; exact HS1.out.below (q4_bel (by with_reducible assumption)) (Nat.le_refl _); rintro e wa ⟨xa, xc, rfl, kx, ox, ga⟩; have hsa := q4_below lt0 lt0 lt2 lt2 (by with_reducible assumption) ga; have hza := ga.size; have hwa := (q4_bel hsa).size; (try simp only [World.size_alloc, World.size_drew] at hza ox); (try have hqa := Nat.lt_of_succ_le hza); obtain ⟨bca, bfa⟩ := bcellQ ga; (try simp only [World.size_alloc, World.size_drew] at bca bfa); clear ga)
            | (go_at_call_of 84 (Value.slice da dn dc); refine (clone_C da dn dc ds _ (by omega) ?_).mono ?_; exact HS2.out.below (q4_bel (by with_reducible assumption)) (Nat.le_refl _); rintro e wb ⟨ya, yc, rfl, ky, oy, gb⟩; have hsb := q4_below lt0 lt0 lt2 lt2 (by with_reducible assumption) gb; have ox := Loc.belowA OS.loc ox gb (by first | exact Below.refl _ _ | exact (Below.refl _ _).alloc (Nat.le_refl _) _); have hzb := gb.size; have hwb := (q4_bel hsb).size; (try simp only [World.size_alloc] at hzb oy); (try have hqb := Nat.lt_of_succ_le hzb); (try have hrb := Nat.lt_of_lt_of_le hqa hzb); obtain ⟨bcb, bfb⟩ := bcellQ gb; (try simp only [World.size_alloc] at bcb bfb); clear gb))
        all_goals go_wp2_with fail
        all_goals go_meet
        all_goals (
          refine ⟨_, xa, xc, ya, yc, W.heap.size, wa.heap.size, wb.heap.size, rfl, ?c0, ?c1, ?c2, ?c3, fun j => ?fz, ⟨Nat.le_refl _, hwa, ?s1, ?s2, kx, ky⟩, ?ox, ?oy, ?bel⟩
          case c0 => first | (go_simp; done) | (with_reducible refine set4_at0 _ _ _ _ _ _ ?_; go_simp; done)
          case c1 => first | (go_simp; done) | (with_reducible refine set4_at1 _ _ _ _ _ _ ?_; go_simp; done)
          case c2 => first | (go_simp; done) | (with_reducible refine set4_at2 _ _ _ _ _ _ ?_; go_simp; done)
          case c3 => first | (go_simp; done) | (with_reducible refine set4_at3 _ _ _ _ _ _ ?_; go_simp; done)
          case fz => go_simp
          case s1 => omega
          case s2 => first | omega | (simp; done) | (simp; omega)
          case ox => first | with_reducible exact OS.allocR ox (by omega) _ | with_reducible exact OS.set4R ox (by omega) (by omega) _ _ _ _
          case oy => first | with_reducible exact OS.allocR oy (by omega) _ | with_reducible exact OS.set4R oy (by omega) (by omega) _ _ _ _
          case bel => exact q4_bel (by with_reducible assumption))
      case rest =>
        obtain ⟨P, xa, xc, ya, yc, X1, X2, X3, rfl, c0, c1, c2, c3, cf, ⟨k1, k2, k3, k4, kx, ky⟩, ox, oy, hWc⟩ := hcut
        obtain ⟨wq, rfl⟩ : ∃ x, x = wc := ⟨wc, rfl⟩
        have lP : P < wq.heap.size := World.block_lt_of_cell? _ _ c0
        have M2 := M1.below hWc
        have hown2 := ownsMap_below hown1 hWc (Nat.le_refl _)
        have bkq : Bk wq.drew P M (ss.length : Int) ss.length (bk ss ss.length) := ⟨lP, c0, c1, cf, hown2⟩
        have HQ := hide bkq
        have HX := hide (OS.loc.below (Below.refl wq.heap.size wq).drew ox)
        have HY := hide (OS.loc.below (Below.refl wq.heap.size wq).drew oy)
        have HM2 := hide M2
        have kW := HWs.out
        have r0 := M2.cell 2 rfl
        have r1 := M2.cell 3 rfl
        have r2 := M2.cell 4 rfl
        have r3 := M2.cell 5 rfl
        have f0 := M2.fz 2 rfl
        have f1 := M2.fz 3 rfl
        have f2 := M2.fz 4 rfl
        have f3 := M2.fz 5 rfl
        clear M1 M2 hown1 hown2 bkq ox oy hWc s1 s2 q0 q1 q2 q3 HWs
        go_wp2_with fail
        go_region_with (first
          | (go_at_call 85; refine (fault_calls P M _ ss _ xa ya tn xc dn yc ts ds _ HQ.out (good_of Hr.out) (rep_bk Hr.out) c2 c3 HX.out.sl HY.out.sl (by omega) (by omega)).mono ?_; rintro e w3 ⟨rfl, g3⟩; have h3 : Below wq.heap.size wq w3 := ((Below.refl wq.heap.size wq).drew).trans g3; have d0 := (h3.cell (p := ⟨P, 0, none⟩) lP).trans c0; have d1 := (h3.cell (p := ⟨P, 1, none⟩) lP).trans c1; have d2 := (h3.cell (p := ⟨P, 2, none⟩) lP).trans c2; have d3 := (h3.cell (p := ⟨P, 3, none⟩) lP).trans c3; have M3 := HM2.out.below h3; have u0 := M3.cell 2 rfl; have u1 := M3.cell 3 rfl; have u2 := M3.cell 4 rfl; have u3 := M3.cell 5 rfl; have v0 := M3.fz 2 rfl; have v1 := M3.fz 3 rfl; have v2 := M3.fz 4 rfl; have v3 := M3.fz 5 rfl; have HB3 := hide M3.bel; have HL : Hid (Led (w.heap.size + 1 + 1) (some M) ss xa tn ts ya dn ds w3) := ⟨M, X1, X2, X3, rfl, by omega, by omega, k2, k3, by have := h3.size; omega, ownsMap_below HQ.out.own g3 (Nat.le_refl _), OS.loc.below g3 HX.out, OS.loc.below g3 HY.out⟩; clear g3 h3 M3))
        all_goals go_wp2
        all_goals refine bodyPost_ret (v := .tuple #[.agg #[.int .i64 (ss.length : Int), .map (some M), .slice xa tn xc, .slice ya dn yc], .int .i64 (ledF ss ts ds)]) (by simp [results, Try.results45, go_sem, u0, u1, u2, u3]) rfl (OT2.mk (ss.length : Int) (some M) xa tn xc ya dn yc (by rw [HF.out]) ?_ (fun _ => ⟨rfl, ⟨kx, ky⟩, ?_⟩))
        all_goals first | exact (((HB3.out.setCell (by simp) _).setCell (by simp) _).setCell (by simp) _).setCell (by simp) _ | exact ((((HL.out.setCell (by simp) _).setCell (by simp) _).setCell (by simp) _).setCell (by simp) _).mono (by omega)
  · have er : (faultR ss != 0) = true := by simp [hr]
    have HF := hide (tabF_bad (ts := ts) (ds := ds) hr)
    have Hr := hide hr
    clear hr
    go_enter Try.func45, Try.ntmps45
    go_wp2_with fail
    refine (openRegistry_calls a _ c ss _ hn hss).mono ?_
    rintro e w1 ⟨sz, mo, rfl, g1, _⟩
    have M1 := (M0.below g1).alloc2 (.int .i64 sz) (.map mo) 63
    have r0 := M1.cell 2 rfl
    have r1 := M1.cell 3 rfl
    have r2 := M1.cell 4 rfl
    have r3 := M1.cell 5 rfl
    have f0 := M1.fz 2 rfl
    have f1 := M1.fz 3 rfl
    have f2 := M1.fz 4 rfl
    have f3 := M1.fz 5 rfl
    have HB := hide M1.bel
    clear M0 M1 g1 hss hts hds
    go_wp2
    refine bodyPost_ret (v := .tuple #[.agg #[.int .i64 0, .map none, .slice none 0 0, .slice none 0 0], .int .i64 (faultR ss)]) (by simp [results, Try.results45, go_sem, r0, r1, r2, r3]) rfl (OT2.mk 0 none none 0 0 none 0 0 (by rw [HF.out]) ?_ (fun h => absurd (HF.out.symm.trans h) Hr.out))
    exact (((HB.out.setCell (by simp) _).setCell (by simp) _).setCell (by simp) _).setCell (by simp) _

set_option maxRecDepth 100000 in
set_option maxHeartbeats 2000000 in
theorem implDropTag_calls (a : Option Addr) (n c : Nat) (ss : List (Int × List Int)) (ta : Option Addr) (tn tc : Nat) (ts : List Int) (da : Option Addr) (dn dc : Nat) (ds : List Int) (w : World) (hrt : RT w a n ss ta tn ts da dn ds) :
    Calls Try.prog 11 #[.agg #[.slice a n c, .slice ta tn tc, .slice da dn dc]] w fun e w' => ∃ ra rn rc xa xn xc ya yn yc, e = .returned (.agg #[.int .i64 (dtC ss ts ds), .int .i64 (dtV ss ts ds), .slice ra rn rc, .slice xa xn xc, .slice ya yn yc]) ∧
      OT (InR w.heap.size w'.heap.size) ra rn (dtS ss ts ds) xa xn (dtT ss ts ds) ya yn (dtD ss ts ds) w' ∧ Below w.heap.size w w' := by
  have M0 := ((Mm.start w).alloc3 (.slice a n c) (.slice ta tn tc) (.slice da dn dc) 29).alloc5 (.int .i64 0) (.int .i64 0) (.slice none 0 0) (.slice none 0 0) (.slice none 0 0) 35
  try simp only [World.size_alloc] at M0
  have hrt0 := hrt.below M0.bel (Nat.le_refl _)
  have HSL := hide hrt.2.1.1
  have HTL := hide hrt.2.2.2.1.1
  have hsl1 : ss.length ≤ n := Nat.le_of_eq HSL.out
  have hsl2 : n ≤ ss.length := Nat.le_of_eq HSL.out.symm
  have htl1 : ts.length ≤ tn := Nat.le_of_eq HTL.out
  have htl2 : tn ≤ ts.length := Nat.le_of_eq HTL.out.symm
  have hdl1 : ds.length ≤ dn := Nat.le_of_eq hrt.2.2.2.2.2.1
  have hdl2 : dn ≤ ds.length := Nat.le_of_eq hrt.2.2.2.2.2.1.symm
  go_enter Try.func11, Try.ntmps11
  go_wp2_with fail
  refine (openTables_C a n c ss ta tn tc ts da dn dc ds _ hrt0).mono ?_
  rintro e w1 ⟨sz, mo, xa, xn, xc, ya, yn, yc, rfl, g1, hled⟩
  have M1a := M0.below g1
  have zR := M1a.lt 0 rfl
  have M1 := (M0.below g1).alloc4 (.int .i64 sz) (.map mo) (.slice xa xn xc) (.slice ya yn yc) 65
  have z1 := g1.size
  simp only [World.size_alloc] at z1
  have zP := M1.lt 4 rfl
  by_cases hf : tabF ss ts ds = 0
  rotate_left
  · have HC := hide (dt_bad hf)
    have hf' : dtC ss ts ds ≠ 0 := by rw [HC.out]; exact hf
    have HV : Hid (dtV ss ts ds = 0) := if_neg hf'
    have HS : Hid (dtS ss ts ds = []) := if_neg hf'
    have HT : Hid (dtT ss ts ds = []) := if_neg hf'
    have HD : Hid (dtD ss ts ds = []) := if_neg hf'
    clear hf'
    have hne : (tabF ss ts ds != 0) = true := by simpa using hf
    have c0 := M1a.cell 0 rfl
    have c1 := M1a.cell 1 rfl
    have c2 := M1a.cell 2 rfl
    have c3 := M1a.cell 3 rfl
    have c4 := M1a.cell 4 rfl
    have f0 := M1a.fz 0 rfl
    have f1 := M1a.fz 1 rfl
    have f2 := M1a.fz 2 rfl
    have f3 := M1a.fz 3 rfl
    have f4 := M1a.fz 4 rfl
    have HB := hide M1a.bel
    clear hf M0 M1 M1a g1 hrt0 hled
    go_wp2
    refine bodyPost_ret (v := .agg #[.int .i64 (tabF ss ts ds), .int .i64 0, .slice none 0 0, .slice none 0 0, .slice none 0 0]) (by simp [results, Try.results11, go_sem, c0, c1, c2, c3, c4, zR]) rfl ⟨_, _, _, _, _, _, _, _, _, by rw [HC.out, HV.out], ?_, (below_set5 HB.out (by omega) _ _ _ _ _).alloc (by simp; omega) _⟩
    rw [HS.out, HT.out, HD.out]
    exact OT.nil _ _ _ _ _
  have hne : (tabF ss ts ds != 0) = false := by simp [hf]
  obtain ⟨rfl, ⟨kx, ky⟩, M, X1, X2, X3, rfl, l1, l2, l3, l4, l5, own, ox, oy⟩ := hled hf
  simp only [World.size_alloc] at l1
  have hxn := ox.1
  have hyn1 : ds.length ≤ yn := Nat.le_of_eq oy.1
  have hyn2 : yn ≤ ds.length := Nat.le_of_eq oy.1.symm
  have p2 := M1.cell 2 rfl
  have al := (Below.refl w1.heap.size w1).alloc (Nat.le_refl _) (.cells #[.int .i64 (ss.length : Int), .map (some M), .slice xa xn xc, .slice ya yn yc] 65)
  have hbk : Bk (w1.alloc (.cells #[.int .i64 (ss.length : Int), .map (some M), .slice xa xn xc, .slice ya yn yc] 65)) w1.heap.size M (ss.length : Int) ss.length (bk ss ss.length) := ⟨by simp, by simp, by simp, fun j => by simp, ownsMap_below own al (Nat.le_refl _)⟩
  have ox1 := OS.loc.below al ox
  have oy1 := OS.loc.below al oy
  obtain rfl : tn = xn := by omega
  clear hxn
  clear g1 al ox oy hrt0 M0
  by_cases h0 : tn = 0
  · have HC := hide (dt_none (ds := ds) hf (by omega))
    have hf' : dtC ss ts ds ≠ 0 := by rw [HC.out]; omega
    have HV : Hid (dtV ss ts ds = 0) := if_neg hf'
    have HS : Hid (dtS ss ts ds = []) := if_neg hf'
    have HT : Hid (dtT ss ts ds = []) := if_neg hf'
    have HD : Hid (dtD ss ts ds = []) := if_neg hf'
    clear hf'
    subst h0
    have c0 := M1a.cell 0 rfl
    have c1 := M1a.cell 1 rfl
    have c2 := M1a.cell 2 rfl
    have c3 := M1a.cell 3 rfl
    have c4 := M1a.cell 4 rfl
    have f0 := M1a.fz 0 rfl
    have f1 := M1a.fz 1 rfl
    have f2 := M1a.fz 2 rfl
    have f3 := M1a.fz 3 rfl
    have f4 := M1a.fz 4 rfl
    have HB := hide M1a.bel
    clear hf M1 M1a hbk ox1 oy1 own p2
    go_wp2
    refine bodyPost_ret (v := .agg #[.int .i64 4, .int .i64 0, .slice none 0 0, .slice none 0 0, .slice none 0 0]) (by simp [results, Try.results11, go_sem, c0, c1, c2, c3, c4, zR]) rfl ⟨_, _, _, _, _, _, _, _, _, by rw [HC.out, HV.out], ?_, (below_set5 HB.out (by omega) _ _ _ _ _).alloc (by simp; omega) _⟩
    rw [HS.out, HT.out, HD.out]
    exact OT.nil _ _ _ _ _
  · have hpos : 0 < ts.length := by omega
    have HC := hide (dt_ok (ds := ds) hf hpos)
    have HV : Hid (dtV ss ts ds = (ts.length : Int)) := if_pos HC.out
    have HS0 : Hid (dtS ss ts ds = leaveS ss (gt ts (ts.length - 1)).toNat) := if_pos HC.out
    have HT0 : Hid (dtT ss ts ds = ts.take (ts.length - 1)) := if_pos HC.out
    have HD : Hid (dtD ss ts ds = ds) := if_pos HC.out
    obtain ⟨hr, hmy, hA1, hA2, _⟩ := tabF_zero hf
    have hml := many_len hmy
    have good := good_of hr
    obtain ⟨j, hj⟩ : ∃ j, tn = j + 1 := ⟨tn - 1, by omega⟩
    have hat := atC_all hA1 (j := j) (by omega)
    obtain ⟨q, hq, hql, hqp, hqL, hqV⟩ := atC_zero good hat
    have hj1 : ts.length - 1 = j := by omega
    have HS : Hid (dtS ss ts ds = leaveS ss q) := by show _ = _; rw [HS0.out, hj1, hq]; rfl
    have HT : Hid (dtT ss ts ds = ts.take j) := by show _ = _; rw [HT0.out, hj1]
    have gl2 := good_leave good hql hqp
    have hsum := good_sum good
    have hsum2 := good_sum gl2
    rw [length_leaveS] at hsum2
    have hj2 : j < tn := by omega
    have hj3 : tn ≤ j + 1 := by omega
    have Hq := hide hq
    clear hj hq hj1
    have hz0 : ((tn : Int) == 0) = false := by simp; omega
    have hidx : (tn : Int) - 1 = (j : Int) := by omega
    have hM1 := own.lt
    have Hat := hide hat
    have Hqv := hide hqV
    clear hf hat hqL hqV own M1a
    go_wp2_with fail
    refine (lastTagB_calls w1.heap.size xa tn xc _ p2).mono ?_
    rintro e w2 ⟨rfl, g2⟩
    have M2 := M1.below g2
    have z2 := g2.size
    simp only [World.size_alloc] at z2
    have hbk2 := hbk.below g2
    have ox2 := OS.loc.below g2 ox1
    have oy2 := OS.loc.below g2 oy1
    have s2 := M2.cell 2 rfl
    obtain ⟨tb, toff, rfl, htb, hct⟩ := ox2.sl.2 (by omega)
    have htc := hct j (by omega)
    rw [Hq.out] at htc Hat Hqv
    have i0 : (0 : Int) ≤ (j : Int) := by omega
    have i1 : (j : Int) < (tn : Int) := by omega
    clear g2 hbk ox1 oy1 hct M1 p2
    go_wp2_with fail
    refine (leave_calls w1.heap.size M ss.length (q : Int) ss _ _ hbk2 (by have := good.few; omega) good (rep_bk hr)).mono ?_
    rintro e w3 ⟨rfl, u3, hfin⟩
    obtain ⟨D3, hb3, hrep⟩ := hfin Hat.out
    rw [Hqv.out, Hat.out]
    have hqn : ((q : Int)).toNat = q := by omega
    rw [hqn] at hrep
    have z3 := u3.size
    have M3 := M2.out (B := M) (T := M + 1) (u3.mono (fun k hk => ⟨by omega, by omega⟩)) (by omega) (by simp <;> omega) (by simp)
    have ox3 := (OS.loc.out u3 (fun k h h' => by have := h.1; omega) ox2)
    have oy3 := (OS.loc.out u3 (fun k h h' => by have := h.1; omega) oy2)
    have v2 := M3.cell 2 rfl
    have y2 := M3.fz 2 rfl
    have M4 := M3.set 2 rfl (.slice (some ⟨tb, toff, none⟩) j xc) (by omega) (by simp; omega) (by simp)
    simp only [List.set_cons_succ, List.set_cons_zero] at M4
    have hb4 : Bk (w3.setCell ⟨w1.heap.size, 2, none⟩ (.slice (some ⟨tb, toff, none⟩) j xc)) w1.heap.size M (ss.length : Int) (ss.length + 1) D3 := by
      refine ⟨by simpa using hb3.lt, ?_, ?_, fun k => by simpa using hb3.f k, hb3.own.setCell (by show M ≠ w1.heap.size; omega) _⟩
      · rw [World.cell?_setCell_other _ _ _ _ (fun e => by injection e with _ e2; omega)]; exact hb3.c0
      · rw [World.cell?_setCell_other _ _ _ _ (fun e => by injection e with _ e2; omega)]; exact hb3.c1
    have ox4 := (OS.loc.setC ox3 (q := ⟨w1.heap.size, 2, none⟩) (fun e => by have := e.2; simp only at this; omega) (.slice (some ⟨tb, toff, none⟩) j xc)).take (k := j) (by omega)
    have oy4 := OS.loc.setC oy3 (q := ⟨w1.heap.size, 2, none⟩) (fun e => by have := e.2; simp only at this; omega) (.slice (some ⟨tb, toff, none⟩) j xc)
    have i2 : (j : Int) ≤ (xc : Int) := by omega
    have i3 : j ≤ xc := by omega
    obtain ⟨W4, hW4⟩ : ∃ x, x = w3.setCell ⟨w1.heap.size, 2, none⟩ (.slice (some ⟨tb, toff, none⟩) j xc) := ⟨_, rfl⟩
    have HW4 := hide hW4
    rw [← hW4] at M4 hb4 ox4 oy4
    have z4 : w3.heap.size ≤ W4.heap.size := by rw [hW4]; simp
    rw [← length_leaveS ss q] at hb4
    have ec : ((0 : Int) != 0) = false := by simp
    clear hW4 M3 M2 ox3 oy3 ox2 oy2 hbk2 hb3 u3 hfin htc
    go_upto_region 11 with fail
    rw [← HW4.out]
    clear HW4 v2 y2 s2
    have s3 := M4.cell 3 rfl
    have s2 := M4.cell 2 rfl
    go_wp2_with fail
    refine (tables_calls w1.heap.size M _ (leaveS ss q) D3 (some ⟨tb, toff, none⟩) j xc ya yn yc _ hb4 gl2 hrep s2 s3).mono ?_
    rintro e w5 ⟨b, rfl, o5, g5⟩
    have M5 := M4.below g5
    have z5 := g5.size
    have ox5 := OS.loc.below g5 ox4
    have oy5 := OS.loc.below g5 oy4
    have c0 := M5.cell 4 rfl
    have c1 := M5.cell 5 rfl
    have c2 := M5.cell 6 rfl
    have c3 := M5.cell 7 rfl
    have c4 := M5.cell 8 rfl
    have f0 := M5.fz 4 rfl
    have f1 := M5.fz 5 rfl
    have f2 := M5.fz 6 rfl
    have f3 := M5.fz 7 rfl
    have f4 := M5.fz 8 rfl
    have HB := hide M5.bel
    have HO : Hid (∀ v0 v1 v2 v3 v4, OT (InR w.heap.size w5.heap.size) (some ⟨b, 0, none⟩) (leaveS ss q).length (leaveS ss q) (some ⟨tb, toff, none⟩) j (ts.take j) ya yn ds (((((w5.setCell ⟨w.heap.size + 1, 0, none⟩ v0).setCell ⟨w.heap.size + 1, 1, none⟩ v1).setCell ⟨w.heap.size + 1, 2, none⟩ v2).setCell ⟨w.heap.size + 1, 3, none⟩ v3).setCell ⟨w.heap.size + 1, 4, none⟩ v4)) := fun v0 v1 v2 v3 v4 =>
      OT.of3 (loc_set5 OR.loc o5 (fun e => by have := e.1; omega) v0 v1 v2 v3 v4) (loc_set5 OS.loc ox5 (fun e => by have := e.1; omega) v0 v1 v2 v3 v4) (loc_set5 OS.loc oy5 (fun e => by have := e.1; omega) v0 v1 v2 v3 v4) (by omega) (by omega) (by omega) (by omega) (by omega) (by omega) (.inr (by omega)) (.inr (by omega)) (.inl (by omega))
    clear M4 M5 g5 o5 ox4 oy4 ox5 oy5 hb4 hrep s2 s3
    go_wp2
    refine bodyPost_ret (v := .agg #[.int .i64 0, .int .i64 (tn : Int), .slice (some ⟨b, 0, none⟩) (leaveS ss q).length (leaveS ss q).length, .slice (some ⟨tb, toff, none⟩) j xc, .slice ya yn yc]) (by simp [results, Try.results11, go_sem, c0, c1, c2, c3, c4]) rfl ⟨_, _, _, _, _, _, _, _, _, by rw [HC.out, HV.out, HTL.out], ?_, below_set5 HB.out (by omega) _ _ _ _ _⟩
    rw [HS.out, HT.out, HD.out]
    simpa using HO.out _ _ _ _ _

set_option maxRecDepth 100000 in
set_option maxHeartbeats 1000000 in
theorem l1Ints_O (a : Option Addr) (n cap : Nat) (zs : List Int) (w : World) (hn : n ≤ 1048576) (hs : Sl w a n zs) :
    Calls Try.prog 92 #[.slice a n cap] w fun e w' => ∃ ra rc, e = .returned (.slice ra n rc) ∧ n ≤ rc ∧ OS (InR w.heap.size w'.heap.size) ra n zs w' ∧ Below w.heap.size w w' := by
  obtain ⟨hlen, hs⟩ := hs
  obtain ⟨i0, hi, hz0, hz1, hz2⟩ := info_parts info2
  have hb0 := fun o1 => (Below.refl w.heap.size w).alloc (Nat.le_refl _) o1
  by_cases hp : 0 < n
  · obtain ⟨b, off, rfl, hb, hc⟩ := hs hp
    have hown := World.ownsRow_lit (base := w.heap.size) (e := 2) (size := 1) w #[] 0 (Nat.le_refl _) (Nat.zero_le _) rfl
    have hnews := ints_at_sl (w := w.alloc (.cells #[] 2)) (b := b) (off := off) (zs := zs) (fun i hi => ((hb0 _).cell (p := ⟨b, off + i, none⟩) hb).trans (hc i (by omega)))
    have HO := hide hown
    have HN := hide hnews
    have hm1 : 0 + n ≤ maxLen := by unfold maxLen; omega
    have hm2 : (0 + n) * 8 ≤ 140737488355328 := by omega
    have hl1 : (zs.map (Value.int .i64)).length = n * 1 := by simp [hlen]
    have hbs : w.heap.size ≤ (w.alloc (.cells #[] 2)).heap.size := by simp
    have HL := hide hl1
    have HM1 := hide hm1
    have HM2 := hide hm2
    have HBS := hide hbs
    clear hown hnews hs hc hl1 hm1 hm2 hbs
    go_enter Try.func92, Try.ntmps92
    go_wp2_with (first
      | (at_builtin; refine wpList_append_own _ rfl _ _ 27 rfl w.heap.size 2 i0 (.int .i64 0) 1 8 Try.underlying27 hi hz0 hz1 hz2 rfl (by decide) _ 0 [] rfl HO.out ⟨b, off, none⟩ n cap (zs.map (Value.int .i64)) rfl HL.out HN.out ints_one HM1.out HM2.out HBS.out ?_)
      | go_in)
    intro v' w1 hown' hgrow _
    have hown2 : w1.ownsRow w.heap.size 2 1 v' n (zs.map (Value.int .i64)) := by simpa using hown'
    obtain ⟨ra, rc, rfl, fr⟩ := owns_osl hn hown2
    have hcap : n ≤ rc := by
      rcases hown2.2 with ⟨h, h0⟩ | ⟨g, cp, cur, h, _, _, hc, _⟩
      · omega
      · simp only [Value.slice.injEq] at h; omega
    have h1 : Below w.heap.size w w1 := (hb0 _).grown hgrow (by simp) (fun k hk => by simp [Value.ownBlock] at hk; omega)
    have HFR := hide (OS.ofOSl fr)
    have HB1 := hide h1
    clear HO HN hown' hown2 hgrow hb0 fr h1
    go_wp2
    go_ret
    exact ⟨ra, rc, rfl, hcap, HFR.out, HB1.out⟩
  · have h0 : n = 0 := by omega
    subst h0
    cases a
    all_goals
      go_enter Try.func92, Try.ntmps92
      go_wp2
      go_ret
      exact ⟨_, 0, rfl, by omega, ⟨hlen, by omega, .inl rfl⟩, hb0 _⟩

/-- slots, tags and domains in blocks of their own, one behind the other. -/
def L3 (B : Nat) (a : Option Addr) (n : Nat) (ss : List (Int × List Int)) (ta : Option Addr) (tn : Nat) (ts : List Int) (da : Option Addr) (dn : Nat) (ds : List Int) (w : World) : Prop :=
  ∃ B1 B2 B3 B4, B ≤ B1 ∧ B1 ≤ B2 ∧ B2 ≤ B3 ∧ B3 ≤ B4 ∧ B4 ≤ w.heap.size ∧ OR (InR B1 B2) a n ss w ∧ OS (InR B2 B3) ta tn ts w ∧ OS (InR B3 B4) da dn ds w

theorem L3.below {B : Nat} {a : Option Addr} {n : Nat} {ss : List (Int × List Int)} {ta : Option Addr} {tn : Nat} {ts : List Int} {da : Option Addr} {dn : Nat} {ds : List Int} {w w' : World} (h : L3 B a n ss ta tn ts da dn ds w) (hb : Below w.heap.size w w') : L3 B a n ss ta tn ts da dn ds w' := by
  obtain ⟨B1, B2, B3, B4, h1, h2, h3, h4, h5, o1, o2, o3⟩ := h
  exact ⟨B1, B2, B3, B4, h1, h2, h3, h4, by have := hb.size; omega, OR.loc.below hb o1, OS.loc.below hb o2, OS.loc.below hb o3⟩

theorem L3.ot {B T : Nat} {a : Option Addr} {n : Nat} {ss : List (Int × List Int)} {ta : Option Addr} {tn : Nat} {ts : List Int} {da : Option Addr} {dn : Nat} {ds : List Int} {w : World} (h : L3 B a n ss ta tn ts da dn ds w) (hT : w.heap.size ≤ T) : OT (InR B T) a n ss ta tn ts da dn ds w := by
  obtain ⟨B1, B2, B3, B4, h1, h2, h3, h4, h5, o1, o2, o3⟩ := h
  exact ⟨InR B1 B2, InR B2 B3, InR B3 B4, fun k hk => ⟨by have := hk.1; omega, by have := hk.2; omega⟩, fun k hk => ⟨by have := hk.1; omega, by have := hk.2; omega⟩, fun k hk => ⟨by have := hk.1; omega, by have := hk.2; omega⟩,
    fun k h h' => by have := h.2; have := h'.1; omega, fun k h h' => by have := h.2; have := h'.1; omega, fun k h h' => by have := h.2; have := h'.1; omega, o1, o2, o3⟩

theorem L3.setC {B P o : Nat} {a : Option Addr} {n : Nat} {ss : List (Int × List Int)} {ta : Option Addr} {tn : Nat} {ts : List Int} {da : Option Addr} {dn : Nat} {ds : List Int} {w : World} (h : L3 B a n ss ta tn ts da dn ds w) (hP : P < B) (v : Value) : L3 B a n ss ta tn ts da dn ds (w.setCell ⟨P, o, none⟩ v) := by
  obtain ⟨B1, B2, B3, B4, h1, h2, h3, h4, h5, o1, o2, o3⟩ := h
  exact ⟨B1, B2, B3, B4, h1, h2, h3, h4, by simpa using h5, OR.loc.setC o1 (fun e => by have := e.1; simp only at this; omega) v, OS.loc.setC o2 (fun e => by have := e.1; simp only at this; omega) v, OS.loc.setC o3 (fun e => by have := e.1; simp only at this; omega) v⟩

set_option maxRecDepth 100000 in
set_option maxHeartbeats 2000000 in
theorem l3Copy_O (a : Option Addr) (n c : Nat) (ss : List (Int × List Int)) (ta : Option Addr) (tn tc : Nat) (ts : List Int) (da : Option Addr) (dn dc : Nat) (ds : List Int) (w : World) (hm : n + lenSum ss ≤ 1048576) (htn : tn ≤ 1048576) (hdn : dn ≤ 1048576) (hrt : RT w a n ss ta tn ts da dn ds) :
    Calls Try.prog 49 #[.agg #[.slice a n c, .slice ta tn tc, .slice da dn dc]] w fun e w' => ∃ ra rc xa xc ya yc, e = .returned (.agg #[.slice ra n rc, .slice xa tn xc, .slice ya dn yc]) ∧ tn ≤ xc ∧ L3 w.heap.size ra n ss xa tn ts ya dn ds w' ∧ Below w.heap.size w w' := by
  have M0 := ((Mm.start w).alloc3 (.slice a n c) (.slice ta tn tc) (.slice da dn dc) 29).alloc3 (.slice none 0 0) (.slice none 0 0) (.slice none 0 0) 29
  try simp only [World.size_alloc] at M0
  have hr0 := hrt.below M0.bel (Nat.le_refl _)
  have HM := hide M0
  have HR := hide hr0
  clear M0 hr0
  go_enter Try.func49, Try.ntmps49
  go_wp2_with fail
  go_region_with (first
    | (go_at_call 91; refine (l2Copy_O a n c ss _ hm ?_).mono ?_; exact HR.out.2.1.below (Below.refl _ _).drew (Nat.le_refl _); rintro e w1 ⟨ra, rc, rfl, o1, g1⟩; have M1 := HM.out.drew.below g1; have q1 := M1.cell 4 rfl; have q2 := M1.cell 5 rfl; have z1 := g1.size; clear g1)
    | (go_at_call_of 92 (Value.slice ta tn tc); refine (l1Ints_O ta tn tc ts _ htn ?_).mono ?_; exact hrt.2.2.2.1.below M1.bel (Nat.le_refl _); rintro e w2 ⟨xa, xc, rfl, hcx, o2, g2⟩; have M2 := M1.below g2; have q3 := M2.cell 5 rfl; have z2 := g2.size; have o1' := OR.loc.below g2 o1; clear g2)
    | (go_at_call_of 92 (Value.slice da dn dc); refine (l1Ints_O da dn dc ds _ hdn ?_).mono ?_; exact hrt.2.2.2.2.2.below M2.bel (Nat.le_refl _); rintro e w3 ⟨ya, yc, rfl, _, o3, g3⟩; have M3 := M2.below g3; have z3 := g3.size; have o1'' := OR.loc.below g3 o1'; have o2'' := OS.loc.below g3 o2; clear g3; have r0 := M3.cell 0 rfl; have r1 := M3.cell 1 rfl; have r2 := M3.cell 2 rfl; have e0 := M3.fz 0 rfl; have e1 := M3.fz 1 rfl; have e2 := M3.fz 2 rfl))
  all_goals (
    have zw := M3.bel.size
    have HB := hide M3.bel
    have HL : Hid (L3 (w.heap.size + 1 + 1) ra n ss xa tn ts ya dn ds w3) := ⟨_, _, _, _, by simp, z1, z2, z3, Nat.le_refl _, o1'', o2'', o3⟩
    clear M3
    go_wp2
    refine bodyPost_ret (v := .agg #[.slice ra n rc, .slice xa tn xc, .slice ya dn yc]) (by simp [results, Try.results49, go_sem, r0, r1, r2]) rfl ⟨ra, rc, xa, xc, ya, yc, rfl, hcx, ?_, ((HB.out.setCell (by simp) _).setCell (by simp) _).setCell (by simp) _⟩
    obtain ⟨B1, B2, B3, B4, k1, k⟩ := ((HL.out.setC (P := w.heap.size + 1) (o := 0) (by omega) (.slice ra n rc)).setC (P := w.heap.size + 1) (o := 1) (by omega) (.slice xa tn xc)).setC (P := w.heap.size + 1) (o := 2) (by omega) (.slice ya dn yc)
    exact ⟨B1, B2, B3, B4, by omega, k⟩)

set_option maxRecDepth 100000 in
set_option maxHeartbeats 2000000 in
theorem specDropTag_calls (a : Option Addr) (n c : Nat) (ss : List (Int × List Int)) (ta : Option Addr) (tn tc : Nat) (ts : List Int) (da : Option Addr) (dn dc : Nat) (ds : List Int) (w : World) (hrt : RT w a n ss ta tn ts da dn ds) :
    Calls Try.prog 12 #[.agg #[.slice a n c, .slice ta tn tc, .slice da dn dc]] w fun e w' => ∃ ra rn rc xa xn xc ya yn yc, e = .returned (.agg #[.int .i64 (dtC ss ts ds), .int .i64 (dtV ss ts ds), .slice ra rn rc, .slice xa xn xc, .slice ya yn yc]) ∧
      OT (InR w.heap.size w'.heap.size) ra rn (dtS ss ts ds) xa xn (dtT ss ts ds) ya yn (dtD ss ts ds) w' ∧ Below w.heap.size w w' := by
  have M0 := ((Mm.start w).alloc3 (.slice a n c) (.slice ta tn tc) (.slice da dn dc) 29).alloc5 (.int .i64 0) (.int .i64 0) (.slice none 0 0) (.slice none 0 0) (.slice none 0 0) 35
  try simp only [World.size_alloc] at M0
  have hrt0 := hrt.below M0.bel (Nat.le_refl _)
  have HSL := hide hrt.2.1.1
  have HTL := hide hrt.2.2.2.1.1
  have hsl1 : ss.length ≤ n := Nat.le_of_eq HSL.out
  have hsl2 : n ≤ ss.length := Nat.le_of_eq HSL.out.symm
  have htl1 : ts.length ≤ tn := Nat.le_of_eq HTL.out
  have htl2 : tn ≤ ts.length := Nat.le_of_eq HTL.out.symm
  have hdl1 : ds.length ≤ dn := Nat.le_of_eq hrt.2.2.2.2.2.1
  have hdl2 : dn ≤ ds.length := Nat.le_of_eq hrt.2.2.2.2.2.1.symm
  go_enter Try.func12, Try.ntmps12
  go_wp2_with fail
  refine (l3Fault_calls _ a n c ss ta tn tc ts da dn dc ds _ (M0.lt 5 rfl) (M0.cell 5 rfl) (M0.cell 6 rfl) (M0.cell 7 rfl) hrt0).mono ?_
  rintro e w1 ⟨rfl, g1⟩
  have M1 := M0.below g1
  have hrt1 := hrt0.below g1 (Nat.le_refl _)
  clear M0 g1 hrt0
  by_cases hf : tabF ss ts ds = 0
  rotate_left
  · have HC := hide (dt_bad hf)
    have hf' : dtC ss ts ds ≠ 0 := by rw [HC.out]; exact hf
    have HV : Hid (dtV ss ts ds = 0) := if_neg hf'
    have HS : Hid (dtS ss ts ds = []) := if_neg hf'
    have HT : Hid (dtT ss ts ds = []) := if_neg hf'
    have HD : Hid (dtD ss ts ds = []) := if_neg hf'
    clear hf'
    have hne : (tabF ss ts ds != 0) = true := by simpa using hf
    clear hf
    go_wp2_with fail
    refine (l3Bad_calls _ _).mono ?_
    rintro e w2 ⟨rfl, g2⟩
    have M2 := M1.below g2
    have c0 := M2.cell 0 rfl
    have c1 := M2.cell 1 rfl
    have c2 := M2.cell 2 rfl
    have c3 := M2.cell 3 rfl
    have c4 := M2.cell 4 rfl
    have f0 := M2.fz 0 rfl
    have f1 := M2.fz 1 rfl
    have f2 := M2.fz 2 rfl
    have f3 := M2.fz 3 rfl
    have f4 := M2.fz 4 rfl
    have HB := hide M2.bel
    clear M1 M2 g2 hrt1
    go_wp2
    refine bodyPost_ret (v := .agg #[.int .i64 (tabF ss ts ds), .int .i64 0, .slice none 0 0, .slice none 0 0, .slice none 0 0]) (by simp [results, Try.results12, go_sem, c0, c1, c2, c3, c4]) rfl ⟨_, _, _, _, _, _, _, _, _, by rw [HC.out, HV.out], ?_, below_set5 HB.out (by omega) _ _ _ _ _⟩
    rw [HS.out, HT.out, HD.out]
    exact OT.nil _ _ _ _ _
  have hne : (tabF ss ts ds != 0) = false := by simp [hf]
  have p1 := M1.cell 6 rfl
  by_cases h0 : tn = 0
  · have HC := hide (dt_none (ds := ds) hf (by omega))
    have hf' : dtC ss ts ds ≠ 0 := by rw [HC.out]; omega
    have HV : Hid (dtV ss ts ds = 0) := if_neg hf'
    have HS : Hid (dtS ss ts ds = []) := if_neg hf'
    have HT : Hid (dtT ss ts ds = []) := if_neg hf'
    have HD : Hid (dtD ss ts ds = []) := if_neg hf'
    clear hf'
    subst h0
    clear hf
    go_wp2_with fail
    refine (l3Bad_calls _ _).mono ?_
    rintro e w2 ⟨rfl, g2⟩
    have M2 := M1.below g2
    have c0 := M2.cell 0 rfl
    have c1 := M2.cell 1 rfl
    have c2 := M2.cell 2 rfl
    have c3 := M2.cell 3 rfl
    have c4 := M2.cell 4 rfl
    have f0 := M2.fz 0 rfl
    have f1 := M2.fz 1 rfl
    have f2 := M2.fz 2 rfl
    have f3 := M2.fz 3 rfl
    have f4 := M2.fz 4 rfl
    have HB := hide M2.bel
    clear M1 M2 g2 hrt1 p1
    go_wp2
    refine bodyPost_ret (v := .agg #[.int .i64 4, .int .i64 0, .slice none 0 0, .slice none 0 0, .slice none 0 0]) (by simp [results, Try.results12, go_sem, c0, c1, c2, c3, c4]) rfl ⟨_, _, _, _, _, _, _, _, _, by rw [HC.out, HV.out], ?_, below_set5 HB.out (by omega) _ _ _ _ _⟩
    rw [HS.out, HT.out, HD.out]
    exact OT.nil _ _ _ _ _
  · have hpos : 0 < ts.length := by omega
    have HC := hide (dt_ok (ds := ds) hf hpos)
    have HV : Hid (dtV ss ts ds = (ts.length : Int)) := if_pos HC.out
    have HS0 : Hid (dtS ss ts ds = leaveS ss (gt ts (ts.length - 1)).toNat) := if_pos HC.out
    have HT0 : Hid (dtT ss ts ds = ts.take (ts.length - 1)) := if_pos HC.out
    have HD : Hid (dtD ss ts ds = ds) := if_pos HC.out
    obtain ⟨hr, hmy, hA1, hA2, _⟩ := tabF_zero hf
    have hml := many_len hmy
    have good := good_of hr
    obtain ⟨j, hj⟩ : ∃ j, tn = j + 1 := ⟨tn - 1, by omega⟩
    have hat := atC_all hA1 (j := j) (by omega)
    obtain ⟨q, hq, hql, hqp, hqL, hqV⟩ := atC_zero good hat
    have hj1 : ts.length - 1 = j := by omega
    have HS : Hid (dtS ss ts ds = leaveS ss q) := by show _ = _; rw [HS0.out, hj1, hq]; rfl
    have HT : Hid (dtT ss ts ds = ts.take j) := by show _ = _; rw [HT0.out, hj1]
    have gl2 := good_leave good hql hqp
    have hsum := good_sum good
    have hsum2 := good_sum gl2
    rw [length_leaveS] at hsum2
    have hj2 : j < tn := by omega
    have hj3 : tn ≤ j + 1 := by omega
    have Hq := hide hq
    clear hj hq hj1
    have hz0 : ((tn : Int) == 0) = false := by simp; omega
    have hidx : (tn : Int) - 1 = (j : Int) := by omega
    have z1 := M1.bel.size
    have zP := M1.lt 0 rfl
    have k0 := M1.cell 5 rfl
    have k1 := M1.cell 6 rfl
    have k2 := M1.cell 7 rfl
    clear hf hat hqL hqV
    go_wp2_with fail
    refine (l3Copy_O a n c ss ta tn tc ts da dn dc ds _ (by omega) (by omega) (by omega) hrt1).mono ?_
    rintro e w2 ⟨ra, rc, xa, xc, ya, yc, rfl, hcx, L2, g2⟩
    have M2 := (M1.below g2).alloc3 (.slice ra n rc) (.slice xa tn xc) (.slice ya dn yc) 29
    have z2 := g2.size
    have al := (Below.refl w2.heap.size w2).alloc (Nat.le_refl _) (.cells #[.slice ra n rc, .slice xa tn xc, .slice ya dn yc] 29)
    obtain ⟨B1, B2, B3, B4, b1, b2, b3, b4, b5, o1, o2, o3⟩ := L2
    have o1a := OR.loc.below al o1
    have o2a := OS.loc.below al o2
    have o3a := OS.loc.below al o3
    have s0 := M2.cell 0 rfl
    have s1 := M2.cell 1 rfl
    obtain ⟨tb, toff, rfl, htb, hct⟩ := o2a.sl.2 (by omega)
    have htc := hct j (by omega)
    rw [Hq.out] at htc
    have i0 : (0 : Int) ≤ (j : Int) := by omega
    have i1 : (j : Int) < (tn : Int) := by omega
    clear g2 al o1 o2 o3 hct M1 p1 k0 k1 k2 hrt1
    go_wp2_with fail
    refine (l2Leave_O w2.heap.size (InR B1 B2) ra n rc ss q _ s0 o1a (fun e => by have := e.2; omega) (by omega) (by omega) (good.top q hql) (by omega)).mono ?_
    rintro e w3 ⟨rfl, o4, u4⟩
    have z3 := u4.size
    simp only [World.size_alloc] at z3
    have M3 : Mm w w3 [(w2.heap.size, 0, .slice ra n rc), (w2.heap.size, 1, .slice (some ⟨tb, toff, none⟩) tn xc), (w2.heap.size, 2, .slice ya dn yc), (w.heap.size + 1, 0, .int .i64 0), (w.heap.size + 1, 1, .int .i64 0), (w.heap.size + 1, 2, .slice none 0 0), (w.heap.size + 1, 3, .slice none 0 0), (w.heap.size + 1, 4, .slice none 0 0)] [] :=
      (M2.sub (fun _ h => by simp only [List.mem_cons, List.not_mem_nil, or_false] at h ⊢; rcases h with h | h | h | h | h | h | h | h <;> simp [h]) (fun _ h => by cases h)).out u4 (by omega) (by simp <;> omega) (by simp)
    have o5 := (OS.loc.out u4 (fun k h h' => by have := h.1; have := h'.2; omega) o2a).take (k := j) (by omega)
    have o6 := OS.loc.out u4 (fun k h h' => by have := h.1; have := h'.2; omega) o3a
    have s0 := M3.cell 0 rfl
    have s1 := M3.cell 1 rfl
    have s2 := M3.cell 2 rfl
    have t1 := M3.fz 1 rfl
    have c0 := M3.cell 3 rfl
    have c1 := M3.cell 4 rfl
    have c2 := M3.cell 5 rfl
    have c3 := M3.cell 6 rfl
    have c4 := M3.cell 7 rfl
    have f0 := M3.fz 3 rfl
    have f1 := M3.fz 4 rfl
    have f2 := M3.fz 5 rfl
    have f3 := M3.fz 6 rfl
    have f4 := M3.fz 7 rfl
    have HB := hide M3.bel
    have i2 : (j : Int) ≤ (xc : Int) := by omega
    have i3 : j ≤ xc := by omega
    have HO : Hid (∀ v0 v1 v2 v3 v4 v, OT (InR w.heap.size w3.heap.size) ra n (leaveS ss q) (some ⟨tb, toff, none⟩) j (ts.take j) ya dn ds ((((((w3.setCell ⟨w2.heap.size, 1, none⟩ v).setCell ⟨w.heap.size + 1, 0, none⟩ v0).setCell ⟨w.heap.size + 1, 1, none⟩ v1).setCell ⟨w.heap.size + 1, 2, none⟩ v2).setCell ⟨w.heap.size + 1, 3, none⟩ v3).setCell ⟨w.heap.size + 1, 4, none⟩ v4)) := fun v0 v1 v2 v3 v4 v =>
      OT.of3 (B1 := B1) (T1 := B2) (B2 := B2) (T2 := B3) (B3 := B3) (T3 := B4) (loc_set5 OR.loc (OR.loc.setC o4 (fun e => by have := e.2; simp only at this; omega) v) (fun e => by have := e.1; omega) v0 v1 v2 v3 v4) (loc_set5 OS.loc (OS.loc.setC o5 (fun e => by have := e.2; simp only at this; omega) v) (fun e => by have := e.1; omega) v0 v1 v2 v3 v4) (loc_set5 OS.loc (OS.loc.setC o6 (fun e => by have := e.2; simp only at this; omega) v) (fun e => by have := e.1; omega) v0 v1 v2 v3 v4) (by omega) (by omega) (by omega) (by omega) (by omega) (by omega) (.inl (by omega)) (.inl (by omega)) (.inl (by omega))
    have HZ : Hid (w.heap.size ≤ w2.heap.size ∧ w.heap.size + 1 < w2.heap.size) := ⟨by omega, by omega⟩
    have hz12 : w.heap.size + 1 ≠ w2.heap.size := by omega
    clear M2 M3 u4 o4 o5 o6 o1a o2a o3a htc z3
    go_wp2
    refine bodyPost_ret (v := .agg #[.int .i64 0, .int .i64 (tn : Int), .slice ra n rc, .slice (some ⟨tb, toff, none⟩) j xc, .slice ya dn yc]) (by simp [results, Try.results12, go_sem, c0, c1, c2, c3, c4]) rfl ⟨_, _, _, _, _, _, _, _, _, by rw [HC.out, HV.out, HTL.out], ?_, below_set5 (HB.out.setCell (by have := HZ.out.1; simp; omega) _) (by omega) _ _ _ _ _⟩
    rw [HS.out, HT.out, HD.out]
    simpa using HO.out _ _ _ _ _ _

end Go.Proofs.Ytjkdckcmgbmmgaa
