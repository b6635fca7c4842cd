import Derived.Test.YtgkjmeogdomgmaaGreatG8
import Derived.Test.YtgkjmeogdomgmaaGreatG2
import Derived.Test.YtgkjmeogdomgmaaGreatG10
import Derived.WalkKit
import Derived.ProofKit
import Derived.OpenShut
import Derived.ShutString
import Derived.ChangeOld
import Derived.Below
import Derived.WalkSpells
import Derived.Deep.QuietTactic
import Derived.BigQuiet
import Derived.Deep.RegionWith
import Derived.Deep.WholeRow
import Derived.Deep.DeepCutAuto
import Derived.Deep.RegionHeld2
import Derived.Deep.AppendLies
import Derived.Deep.RegionLaw
namespace Go.Proofs.YtgkjmeogdomgmaaGreat
open Go.ChangeShapes Go.WideShapes Go.ChangeAt Go.RowKit

set_option maxRecDepth 100000 in
theorem lastTag_calls (P : Nat) (a : Option Addr) (n c : Nat) (w : World) (_hn : n ≤ 10) (hc : w.cell? ⟨P, 2, none⟩ = some (.slice a n c)) :
    Calls Tryz.prog 172 #[.pointer (some ⟨P, 0, none⟩)] w fun e w' => e = .returned (.int .i64 ((n : Int))) ∧ w' = w := by
  go_enter Tryz.func172, Tryz.ntmps172
  go_wp2
  go_ret
  exact ⟨rfl, rfl⟩

set_option maxRecDepth 100000 in
set_option maxHeartbeats 1000000 in
theorem tagLabel_calls (P M n : Nat) (ss : List (Int × List Int)) (D : DataW Unit) (a : Option Addr) (l c : Nat) (ts : List Int) (p : Int) (w : World) (hb : Bk w P M (ss.length : Int) n D) (good : Good ss) (rep : Rep ss D) (ct : w.cell? ⟨P, 2, none⟩ = some (.slice a l c)) (hts : Sl w a l ts) (hl : l ≤ 10) (h1 : allS ss ts = true) :
    Calls Tryz.prog 145 #[.pointer (some ⟨P, 0, none⟩), .int .i64 p] w fun e w' => ∃ ra rn rc, e = .returned (.agg #[.int .i64 (inC ts (p - 1)), .slice ra rn rc]) ∧ OS (InR w.heap.size w'.heap.size) ra rn (inL ss ts (p - 1)) w' ∧ Below w.heap.size w w' := by
  have hP := hb.lt
  obtain ⟨hlen, hts⟩ := hts
  have M0 := (Mm.start w).alloc2 (.int .i64 0) (.slice none 0 0) 188
  have al := (Below.refl w.heap.size w).alloc (Nat.le_refl _) (.cells #[.int .i64 0, .slice none 0 0] 188)
  have ct0 := (al.cell (p := ⟨P, 2, none⟩) hP).trans ct
  have hb0 := hb.below al
  by_cases hin : 0 ≤ p - 1 ∧ p - 1 < (l : Int)
  · obtain ⟨j, hj⟩ : ∃ j : Nat, p - 1 = (j : Int) := ⟨(p - 1).toNat, by omega⟩
    obtain rfl : p = (j : Int) + 1 := by omega
    have hjl : j < l := by omega
    obtain ⟨b, off, rfl, hbb, hc⟩ := hts (by omega)
    have ck := (al.cell (p := ⟨b, off + j, none⟩) hbb).trans (hc j hjl)
    rw [hj]
    have HC := hide (inC_yes (l := ts) (j := j) (by omega))
    have HL := hide (inL_yes (ss := ss) (l := ts) (j := j) (by omega))
    have HA := hide (atC_all h1 (j := j) (by omega))
    have n1 : ¬ ((j : Int) + 1 ≤ 0) := by omega
    have n2 : ¬ ((l : Int) < (j : Int) + 1) := by omega
    have j0 : (0 : Int) ≤ (j : Int) := by omega
    have j1 : (j : Int) < (l : Int) := by omega
    have hj10 : (j : Int) ≤ 10 := by omega
    have hjw : IntKind.i64.wrap (j : Int) = (j : Int) := IntWalk.i64_in _ (by omega)
    have HM0 := hide M0
    have HB0 := hide hb0
    clear M0 al hb0 hin hj
    go_enter Tryz.func145, Tryz.ntmps145
    go_wp2_with fail
    refine (lastTag_calls P _ l c _ hl ct0).mono ?_
    rintro e w1 ⟨rfl, rfl⟩
    go_wp2_with fail
    go_region_with (first
      | (go_at_call 171; refine (labelAt_calls P M n (gt ts j) ss D _ (HB0.out.below ((Below.refl _ _).drew)) good rep).mono ?_; rintro e w2 ⟨ra, rn, rc, rfl, o2, g2⟩; have h2 := ((Below.refl (w.alloc (.cells #[.int .i64 0, .slice none 0 0] 188)).heap.size (w.alloc (.cells #[.int .i64 0, .slice none 0 0] 188))).drew).trans g2; have M2 := HM0.out.below h2; have r0 := M2.cell 0 rfl; have r1 := M2.cell 1 rfl; have f0 := M2.fz 0 rfl; have f1 := M2.fz 1 rfl; have HB2 := hide M2.bel; have HO := hide o2; rw [HA.out]; clear g2 h2 M2 o2))
    all_goals go_wp2
    all_goals refine bodyPost_ret (v := .agg #[.int .i64 0, .slice ra rn rc]) (by simp [results, Tryz.results145, go_sem, r0, r1]) rfl ⟨ra, rn, rc, by rw [HC.out], ?_, (HB2.out.setCell (Nat.le_refl _) _).setCell (Nat.le_refl _) _⟩
    all_goals rw [HL.out]
    all_goals exact (OS.loc w2 _ (fun k hk _ => by rw [Below.heap_setCell _ _ _ _ (fun e => by have := hk.1; simp at e this; omega), Below.heap_setCell _ _ _ _ (fun e => by have := hk.1; simp at e this; omega)]) HO.out).mono (fun k hk => ⟨by have := hk.1; simp at this; omega, by simpa using hk.2⟩)
  · have HC := hide (inC_no (l := ts) (i := p - 1) (by omega))
    have HL := hide (inL_no (ss := ss) (l := ts) (i := p - 1) (by omega))
    have HB := hide M0.bel
    by_cases h0 : p ≤ 0
    · go_enter Tryz.func145, Tryz.ntmps145
      clear M0 al hb0 hin
      go_wp2
      refine bodyPost_ret (v := .agg #[.int .i64 4, .slice none 0 0]) (by simp [results, Tryz.results145, go_sem]) rfl ⟨_, 0, 0, by rw [HC.out], ⟨by rw [HL.out]; rfl, by omega, .inl rfl⟩, (Below.refl _ _).alloc (Nat.le_refl _) _⟩
    · have h2 : (l : Int) < p := by omega
      go_enter Tryz.func145, Tryz.ntmps145
      clear M0 al hb0 hin
      go_wp2_with fail
      refine (lastTag_calls P _ l c _ hl ct0).mono ?_
      rintro e w1 ⟨rfl, rfl⟩
      go_wp2
      refine bodyPost_ret (v := .agg #[.int .i64 4, .slice none 0 0]) (by simp [results, Tryz.results145, go_sem]) rfl ⟨_, 0, 0, by rw [HC.out], ⟨by rw [HL.out]; rfl, by omega, .inl rfl⟩, (Below.refl _ _).alloc (Nat.le_refl _) _⟩

set_option maxRecDepth 100000 in
theorem implTagLabel_calls (a : Option Addr) (n c : Nat) (ss : List (Int × List Int)) (ta : Option Addr) (tn tc : Nat) (ts : List Int) (da : Option Addr) (dn dc : Nat) (ds : List Int) (p : Int) (w : World) (hrt : RT w a n ss ta tn ts da dn ds) :
    Calls Tryz.prog 120 #[.agg #[.slice a n c, .slice ta tn tc, .slice da dn dc], .int .i64 p] w fun e w' => ∃ ra rn rc, e = .returned (.agg #[.int .i64 (tgC ss ts ds ts (p - 1)), .slice ra rn rc]) ∧ OS (InR w.heap.size w'.heap.size) ra rn (tgL ss ts ds ts (p - 1)) w' ∧ Below w.heap.size w w' := by
  have M0 := ((Mm.start w).alloc3 (.slice a n c) (.slice ta tn tc) (.slice da dn dc) 43).alloc2 (.int .i64 0) (.slice none 0 0) 188
  simp only [World.size_alloc] at M0
  by_cases hf : tabF ss ts ds = 0
  · have ef : (tabF ss ts ds != 0) = false := by simp [hf]
    have HC := hide (tgC_ok (l := ts) (i := p - 1) hf)
    have HL := hide (tgL_ok (l := ts) (i := p - 1) hf)
    obtain ⟨hr, hm, hA1, hA2, _⟩ := tabF_zero hf
    have hml := many_len hm
    have Hf := hide hf
    clear hf hm
    go_enter Tryz.func120, Tryz.ntmps120
    go_wp2_with fail
    refine (openTables_calls a n c ss ta tn tc ts da dn dc ds _ (hrt.below M0.bel (Nat.le_refl _))).mono ?_
    rintro e w1 ⟨sz, mo, xa, xn, xc, ya, yn, yc, rfl, g1, hled⟩
    obtain ⟨rfl, M, X1, X2, X3, rfl, l1, l2, l3, l4, l5, own, ox, oy⟩ := hled Hf.out
    have M1 := (M0.below g1).alloc4 (.int .i64 (ss.length : Int)) (.map (some M)) (.slice xa xn xc) (.slice ya yn yc) 176
    have al := (Below.refl w1.heap.size w1).alloc (Nat.le_refl _) (.cells #[.int .i64 (ss.length : Int), .map (some M), .slice xa xn xc, .slice ya yn yc] 176)
    have hbk : Bk (w1.alloc (.cells #[.int .i64 (ss.length : Int), .map (some M), .slice xa xn xc, .slice ya yn yc] 176)) w1.heap.size M (ss.length : Int) ss.length (bk ss ss.length) := ⟨by simp, by simp, by simp, fun j => by simp, ownsMap_below own al (Nat.le_refl _)⟩
    have ox1 := OS.loc.below al ox
    have oy1 := OS.loc.below al oy
    have hxn := ox.1
    have hyn := oy.1
    have ctl := M1.cell 2 rfl
    clear g1 al ox oy own hled M0
    go_wp2_with fail
    refine (tagLabel_calls w1.heap.size M _ ss _ _ _ _ ts p _ hbk (good_of hr) (rep_bk hr) ctl ox1.sl (by omega) hA1).mono ?_
    rintro e w2 ⟨ra, rn, rc, rfl, os2, g2⟩
    have M2 := M1.below g2
    have r0 := M2.cell 4 rfl
    have r1 := M2.cell 5 rfl
    have f0 := M2.fz 4 rfl
    have f1 := M2.fz 5 rfl
    have hl1 := M1.lt 4 rfl
    have hB2 := M1.bel.size
    have HB := hide M2.bel
    have HO := hide os2
    clear M1 M2 g2 os2 hbk ctl ox1 oy1
    go_wp2
    refine bodyPost_ret (v := .agg #[.int .i64 (inC ts (p - 1)), .slice ra rn rc]) (by simp [results, Tryz.results120, go_sem, r0, r1]) rfl ⟨ra, rn, rc, by rw [HC.out], ?_, (HB.out.setCell (by simp) _).setCell (by simp) _⟩
    rw [HL.out]
    exact (OS.loc w2 _ (fun k hk _ => by rw [Below.heap_setCell _ _ _ _ (fun e => by have := hk.1; simp at e; omega), Below.heap_setCell _ _ _ _ (fun e => by have := hk.1; simp at e; omega)]) HO.out).mono (fun k hk => ⟨by have := hk.1; omega, by simpa using hk.2⟩)
  · have ef : (tabF ss ts ds != 0) = true := by simp [hf]
    have HC := hide (tgC_bad (l := ts) (i := p - 1) hf)
    have HL := hide (tgL_bad (l := ts) (i := p - 1) hf)
    clear hf
    go_enter Tryz.func120, Tryz.ntmps120
    go_wp2_with fail
    refine (openTables_calls a n c ss ta tn tc ts da dn dc ds _ (hrt.below M0.bel (Nat.le_refl _))).mono ?_
    rintro e w1 ⟨sz, mo, xa, xn, xc, ya, yn, yc, rfl, g1, _⟩
    have M1 := (M0.below g1).alloc4 (.int .i64 sz) (.map mo) (.slice xa xn xc) (.slice ya yn yc) 176
    have r0 := M1.cell 4 rfl
    have r1 := M1.cell 5 rfl
    have f0 := M1.fz 4 rfl
    have f1 := M1.fz 5 rfl
    have HB := hide M1.bel
    clear M0 M1 g1
    go_wp2
    refine bodyPost_ret (v := .agg #[.int .i64 (tabF ss ts ds), .slice none 0 0]) (by simp [results, Tryz.results120, go_sem, r0, r1]) rfl ⟨_, 0, 0, by rw [HC.out], ⟨by rw [HL.out]; rfl, by omega, .inl rfl⟩, (HB.out.setCell (by simp) _).setCell (by simp) _⟩

set_option maxRecDepth 100000 in
theorem l3HasTag_calls (q : Nat) (a : Option Addr) (n c : Nat) (p : Int) (w : World) (_hn : n ≤ 10) (hc : w.cell? ⟨q, 1, none⟩ = some (.slice a n c)) :
    Calls Tryz.prog 52 #[.pointer (some ⟨q, 0, none⟩), .int .i64 p] w fun e w' => e = .returned (.bool (decide (0 ≤ p - 1 ∧ p - 1 < (n : Int)))) ∧ Below w.heap.size w w' := by
  go_enter Tryz.func52, Tryz.ntmps52
  go_wp2_with fail
  refine (in_calls _ _ _ _).mono ?_
  rintro e w1 ⟨rfl, g1⟩
  go_wp2
  go_ret
  exact ⟨ret_bool (by rw [Bool.eq_iff_iff]; simp; omega), g1⟩

set_option maxRecDepth 100000 in
theorem l3Tag_calls (q : Nat) (a : Option Addr) (n ca : Nat) (ss : List (Int × List Int)) (ta : Option Addr) (tl tc : Nat) (ts : List Int) (j : Nat) (w : World) (good : Good ss) (htl : tl ≤ 10) (hqc : w.cell? ⟨q, 0, none⟩ = some (.slice a n ca)) (hqt : w.cell? ⟨q, 1, none⟩ = some (.slice ta tl tc)) (hx : Sls w a n ss) (ht : Sl w ta tl ts) (h1 : allS ss ts = true) (hj : j < tl) :
    Calls Tryz.prog 62 #[.pointer (some ⟨q, 0, none⟩), .int .i64 ((j : Int) + 1)] w fun e w' => ∃ b o la ll lc, e = .returned (.pointer (some ⟨b, o, none⟩)) ∧ b < w.heap.size ∧ w.cell? ⟨b, o, none⟩ = some (.slice la ll lc) ∧ ll ≤ 4 ∧ Sl w la ll (atL ss (gt ts j)) ∧ Below w.heap.size w w' := by
  have hlen := hx.1
  have few := good.few
  have htlen := ht.1
  obtain ⟨b, off, rfl, hbb, hc⟩ := ht.2 (by omega)
  obtain ⟨s, hs, hsl, hsp, hsa⟩ := allS_at good h1 (j := j) (by omega)
  have ck := hc j hj
  rw [hs] at ck
  obtain ⟨b1, o1, rfl, hb1, hc1⟩ := hx.2 (by omega)
  obtain ⟨_, la, ll, lc, k1, kl, ksl⟩ := hc1 s (by omega)
  have h4 : ll ≤ 4 := by rw [← ksl.1, fault_len (good.right s hsl hsp)]; omega
  have i0 : (0 : Int) ≤ (s : Int) := by omega
  have i1 : (s : Int) < (n : Int) := by omega
  have j0 : (0 : Int) ≤ (j : Int) := by omega
  have j1 : (j : Int) < (tl : Int) := by omega
  have HK := hide k1
  have HS := hide ksl
  have HA := hide hsa
  clear k1 ksl hc1 hc hx ht hsa
  go_enter Tryz.func62, Tryz.ntmps62
  go_wp2_with fail
  go_quiet (fail)
  go_wp2
  go_ret
  exact ⟨b1, o1 + s * 2 + 1, la, ll, lc, rfl, hb1, HK.out, h4, by rw [HA.out]; exact HS.out, bdrewN (Below.refl _ _) _⟩

set_option maxRecDepth 100000 in
theorem lastDomain_calls (P : Nat) (a : Option Addr) (n c : Nat) (w : World) (_hn : n ≤ 10) (hc : w.cell? ⟨P, 3, none⟩ = some (.slice a n c)) :
    Calls Tryz.prog 170 #[.pointer (some ⟨P, 0, none⟩)] w fun e w' => e = .returned (.int .i64 ((n : Int) - 1)) ∧ w' = w := by
  go_enter Tryz.func170, Tryz.ntmps170
  go_wp2
  go_ret
  exact ⟨rfl, rfl⟩

set_option maxRecDepth 100000 in
set_option maxHeartbeats 1000000 in
theorem domainLabel_calls (P M n : Nat) (ss : List (Int × List Int)) (D : DataW Unit) (a : Option Addr) (l c : Nat) (ts : List Int) (p : Int) (w : World) (hb : Bk w P M (ss.length : Int) n D) (good : Good ss) (rep : Rep ss D) (ct : w.cell? ⟨P, 3, none⟩ = some (.slice a l c)) (hts : Sl w a l ts) (hl : l ≤ 10) (h1 : allS ss ts = true) :
    Calls Tryz.prog 144 #[.pointer (some ⟨P, 0, none⟩), .int .i64 p] w fun e w' => ∃ ra rn rc, e = .returned (.agg #[.int .i64 (inC ts (p)), .slice ra rn rc]) ∧ OS (InR w.heap.size w'.heap.size) ra rn (inL ss ts (p)) w' ∧ Below w.heap.size w w' := by
  have hP := hb.lt
  obtain ⟨hlen, hts⟩ := hts
  have M0 := (Mm.start w).alloc2 (.int .i64 0) (.slice none 0 0) 188
  have al := (Below.refl w.heap.size w).alloc (Nat.le_refl _) (.cells #[.int .i64 0, .slice none 0 0] 188)
  have ct0 := (al.cell (p := ⟨P, 3, none⟩) hP).trans ct
  have hb0 := hb.below al
  by_cases hin : 0 ≤ p ∧ p < (l : Int)
  · obtain ⟨j, hj⟩ : ∃ j : Nat, p = (j : Int) := ⟨(p).toNat, by omega⟩
    obtain rfl : p = (j : Int) := by omega
    have hjl : j < l := by omega
    obtain ⟨b, off, rfl, hbb, hc⟩ := hts (by omega)
    have ck := (al.cell (p := ⟨b, off + j, none⟩) hbb).trans (hc j hjl)
    rw [hj]
    have HC := hide (inC_yes (l := ts) (j := j) (by omega))
    have HL := hide (inL_yes (ss := ss) (l := ts) (j := j) (by omega))
    have HA := hide (atC_all h1 (j := j) (by omega))
    have n1 : ¬ ((j : Int) < 0) := by omega
    have n2 : ¬ ((l : Int) - 1 < (j : Int)) := by omega
    have j0 : (0 : Int) ≤ (j : Int) := by omega
    have j1 : (j : Int) < (l : Int) := by omega
    have hj10 : (j : Int) ≤ 10 := by omega
    have hjw : IntKind.i64.wrap (j : Int) = (j : Int) := IntWalk.i64_in _ (by omega)
    have HM0 := hide M0
    have HB0 := hide hb0
    clear M0 al hb0 hin hj
    go_enter Tryz.func144, Tryz.ntmps144
    go_wp2_with fail
    refine (lastDomain_calls P _ l c _ hl ct0).mono ?_
    rintro e w1 ⟨rfl, rfl⟩
    go_wp2_with fail
    go_region_with (first
      | (go_at_call 171; refine (labelAt_calls P M n (gt ts j) ss D _ (HB0.out.below ((Below.refl _ _).drew)) good rep).mono ?_; rintro e w2 ⟨ra, rn, rc, rfl, o2, g2⟩; have h2 := ((Below.refl (w.alloc (.cells #[.int .i64 0, .slice none 0 0] 188)).heap.size (w.alloc (.cells #[.int .i64 0, .slice none 0 0] 188))).drew).trans g2; have M2 := HM0.out.below h2; have r0 := M2.cell 0 rfl; have r1 := M2.cell 1 rfl; have f0 := M2.fz 0 rfl; have f1 := M2.fz 1 rfl; have HB2 := hide M2.bel; have HO := hide o2; rw [HA.out]; clear g2 h2 M2 o2))
    all_goals go_wp2
    all_goals refine bodyPost_ret (v := .agg #[.int .i64 0, .slice ra rn rc]) (by simp [results, Tryz.results144, go_sem, r0, r1]) rfl ⟨ra, rn, rc, by rw [HC.out], ?_, (HB2.out.setCell (Nat.le_refl _) _).setCell (Nat.le_refl _) _⟩
    all_goals rw [HL.out]
    all_goals exact (OS.loc w2 _ (fun k hk _ => by rw [Below.heap_setCell _ _ _ _ (fun e => by have := hk.1; simp at e this; omega), Below.heap_setCell _ _ _ _ (fun e => by have := hk.1; simp at e this; omega)]) HO.out).mono (fun k hk => ⟨by have := hk.1; simp at this; omega, by simpa using hk.2⟩)
  · have HC := hide (inC_no (l := ts) (i := p) (by omega))
    have HL := hide (inL_no (ss := ss) (l := ts) (i := p) (by omega))
    have HB := hide M0.bel
    by_cases h0 : p < 0
    · go_enter Tryz.func144, Tryz.ntmps144
      clear M0 al hb0 hin
      go_wp2
      refine bodyPost_ret (v := .agg #[.int .i64 4, .slice none 0 0]) (by simp [results, Tryz.results144, go_sem]) rfl ⟨_, 0, 0, by rw [HC.out], ⟨by rw [HL.out]; rfl, by omega, .inl rfl⟩, (Below.refl _ _).alloc (Nat.le_refl _) _⟩
    · have h2 : (l : Int) - 1 < p := by omega
      go_enter Tryz.func144, Tryz.ntmps144
      clear M0 al hb0 hin
      go_wp2_with fail
      refine (lastDomain_calls P _ l c _ hl ct0).mono ?_
      rintro e w1 ⟨rfl, rfl⟩
      go_wp2
      refine bodyPost_ret (v := .agg #[.int .i64 4, .slice none 0 0]) (by simp [results, Tryz.results144, go_sem]) rfl ⟨_, 0, 0, by rw [HC.out], ⟨by rw [HL.out]; rfl, by omega, .inl rfl⟩, (Below.refl _ _).alloc (Nat.le_refl _) _⟩

set_option maxRecDepth 100000 in
theorem l3HasDomain_calls (q : Nat) (a : Option Addr) (n c : Nat) (p : Int) (w : World) (_hn : n ≤ 10) (hc : w.cell? ⟨q, 2, none⟩ = some (.slice a n c)) :
    Calls Tryz.prog 51 #[.pointer (some ⟨q, 0, none⟩), .int .i64 p] w fun e w' => e = .returned (.bool (decide (0 ≤ p ∧ p < (n : Int)))) ∧ Below w.heap.size w w' := by
  go_enter Tryz.func51, Tryz.ntmps51
  go_wp2_with fail
  refine (in_calls _ _ _ _).mono ?_
  rintro e w1 ⟨rfl, g1⟩
  go_wp2
  go_ret
  exact ⟨ret_bool (by rw [Bool.eq_iff_iff]; simp; omega), g1⟩

set_option maxRecDepth 100000 in
theorem l3Domain_calls (q : Nat) (a : Option Addr) (n ca : Nat) (ss : List (Int × List Int)) (ta : Option Addr) (tl tc : Nat) (ts : List Int) (j : Nat) (w : World) (good : Good ss) (htl : tl ≤ 10) (hqc : w.cell? ⟨q, 0, none⟩ = some (.slice a n ca)) (hqt : w.cell? ⟨q, 2, none⟩ = some (.slice ta tl tc)) (hx : Sls w a n ss) (ht : Sl w ta tl ts) (h1 : allS ss ts = true) (hj : j < tl) :
    Calls Tryz.prog 106 #[.pointer (some ⟨q, 0, none⟩), .int .i64 ((j : Int))] w fun e w' => ∃ b o la ll lc, e = .returned (.pointer (some ⟨b, o, none⟩)) ∧ b < w.heap.size ∧ w.cell? ⟨b, o, none⟩ = some (.slice la ll lc) ∧ ll ≤ 4 ∧ Sl w la ll (atL ss (gt ts j)) ∧ Below w.heap.size w w' := by
  have hlen := hx.1
  have few := good.few
  have htlen := ht.1
  obtain ⟨b, off, rfl, hbb, hc⟩ := ht.2 (by omega)
  obtain ⟨s, hs, hsl, hsp, hsa⟩ := allS_at good h1 (j := j) (by omega)
  have ck := hc j hj
  rw [hs] at ck
  obtain ⟨b1, o1, rfl, hb1, hc1⟩ := hx.2 (by omega)
  obtain ⟨_, la, ll, lc, k1, kl, ksl⟩ := hc1 s (by omega)
  have h4 : ll ≤ 4 := by rw [← ksl.1, fault_len (good.right s hsl hsp)]; omega
  have i0 : (0 : Int) ≤ (s : Int) := by omega
  have i1 : (s : Int) < (n : Int) := by omega
  have j0 : (0 : Int) ≤ (j : Int) := by omega
  have j1 : (j : Int) < (tl : Int) := by omega
  have HK := hide k1
  have HS := hide ksl
  have HA := hide hsa
  clear k1 ksl hc1 hc hx ht hsa
  go_enter Tryz.func106, Tryz.ntmps106
  go_wp2_with fail
  go_quiet (fail)
  go_wp2
  go_ret
  exact ⟨b1, o1 + s * 2 + 1, la, ll, lc, rfl, hb1, HK.out, h4, by rw [HA.out]; exact HS.out, bdrewN (Below.refl _ _) _⟩

def permV (who what : List Int) : Int := if modB who what = true then 7 else if obsB who what = true then 5 else 0

def pmC (ss : List (Int × List Int)) (ts ds : List Int) (d t : Int) : Int := if tabF ss ts ds = 0 then (if inC ds d = 0 then (if t = 0 then 0 else inC ts (t - 1)) else 4) else tabF ss ts ds

def pmV (ss : List (Int × List Int)) (ts ds : List Int) (d t : Int) : Int := if pmC ss ts ds d t = 0 then (if t = 0 then 0 else permV (inL ss ds d) (inL ss ts (t - 1))) else 0

theorem atL_right {ss : List (Int × List Int)} (good : Good ss) {l : List Int} (h : allS ss l = true) {j : Nat} (hj : j < l.length) : fault (atL ss (gt l j)) = 0 := by
  obtain ⟨q, _, hl, hp, e⟩ := allS_at good h hj
  rw [e]
  exact good.right q hl hp

theorem perm_right {xs ys : List Int} (hx : fault xs = 0) (hy : fault ys = 0) : obsB xs ys = (thing0 ys && belowB ys (highL xs)) ∧ modB xs ys = ((thing0 ys && belowB ys (highL xs)) && belowB xs ys) := by
  unfold obsB modB
  rw [hx, hy]
  simp

set_option maxRecDepth 100000 in
theorem permBetween_calls (a b : Option Addr) (la ca lb cb : Nat) (xs ys : List Int) (w : World) (hla : la ≤ maxLen) (hlb : lb ≤ maxLen) (hx : Sl w a la xs) (hy : Sl w b lb ys) :
    Calls Tryz.prog 146 #[.agg #[.slice a la ca], .agg #[.slice b lb cb]] w fun e w' => e = .returned (.int .i64 (permV xs ys)) ∧ Below w.heap.size w w' := by
  have M0 := ((Mm.start w).alloc1 (.slice a la ca) 112).alloc1 (.slice b lb cb) 112
  simp only [World.size_alloc] at M0
  cases hm : modB xs ys with
  | true =>
    have HV : Hid (permV xs ys = 7) := if_pos hm
    go_enter Tryz.func146, Tryz.ntmps146
    go_wp2_with fail
    refine (implCanModify_calls a b la ca lb cb xs ys _ hla hlb (hx.below M0.bel (Nat.le_refl _)) (hy.below M0.bel (Nat.le_refl _))).mono ?_
    rintro e w1 ⟨rfl, g1⟩
    rw [hm]
    have HE := hide (M0.below g1).bel
    clear g1 M0 hm
    go_wp2
    go_ret
    exact ⟨ret_int HV.out.symm, HE.out⟩
  | false =>
    cases ho : obsB xs ys with
    | true =>
      have HV : Hid (permV xs ys = 5) := by show _ = _; unfold permV; rw [hm, ho]; rfl
      go_enter Tryz.func146, Tryz.ntmps146
      go_wp2_with fail
      refine (implCanModify_calls a b la ca lb cb xs ys _ hla hlb (hx.below M0.bel (Nat.le_refl _)) (hy.below M0.bel (Nat.le_refl _))).mono ?_
      rintro e w1 ⟨rfl, g1⟩
      rw [hm]
      have M1 := M0.below g1
      have p1 := M1.cell 1 rfl
      have q1 := M1.cell 0 rfl
      clear g1 M0 hm
      go_wp2_with fail
      refine (implCanObserve_calls a b la ca lb cb xs ys _ hla hlb (hx.below M1.bel (Nat.le_refl _)) (hy.below M1.bel (Nat.le_refl _))).mono ?_
      rintro e w2 ⟨rfl, g2⟩
      rw [ho]
      have HE := hide (M1.below g2).bel
      clear g2 M1 ho p1 q1
      go_wp2
      go_ret
      exact ⟨ret_int HV.out.symm, HE.out⟩
    | false =>
      have HV : Hid (permV xs ys = 0) := by show _ = _; unfold permV; rw [hm, ho]; rfl
      go_enter Tryz.func146, Tryz.ntmps146
      go_wp2_with fail
      refine (implCanModify_calls a b la ca lb cb xs ys _ hla hlb (hx.below M0.bel (Nat.le_refl _)) (hy.below M0.bel (Nat.le_refl _))).mono ?_
      rintro e w1 ⟨rfl, g1⟩
      rw [hm]
      have M1 := M0.below g1
      have p1 := M1.cell 1 rfl
      have q1 := M1.cell 0 rfl
      clear g1 M0 hm
      go_wp2_with fail
      refine (implCanObserve_calls a b la ca lb cb xs ys _ hla hlb (hx.below M1.bel (Nat.le_refl _)) (hy.below M1.bel (Nat.le_refl _))).mono ?_
      rintro e w2 ⟨rfl, g2⟩
      rw [ho]
      have HE := hide (M1.below g2).bel
      clear g2 M1 ho p1 q1
      go_wp2
      go_ret
      exact ⟨ret_int HV.out.symm, HE.out⟩

set_option maxRecDepth 100000 in
set_option maxHeartbeats 1000000 in
theorem l3Perm_calls (q : Nat) (a : Option Addr) (n ca : Nat) (ss : List (Int × List Int)) (ta : Option Addr) (tl tc : Nat) (ts : List Int) (da : Option Addr) (dl dc : Nat) (ds : List Int) (i j : Nat) (w : World) (good : Good ss) (htl : tl ≤ 10) (hdl : dl ≤ 10) (hq : q < w.heap.size)
    (hqc : w.cell? ⟨q, 0, none⟩ = some (.slice a n ca)) (hqt : w.cell? ⟨q, 1, none⟩ = some (.slice ta tl tc)) (hqd : w.cell? ⟨q, 2, none⟩ = some (.slice da dl dc)) (hrt : RT w a n ss ta tl ts da dl ds) (h1 : allS ss ts = true) (h2 : allS ss ds = true) (hi : i < dl) (hj : j < tl) :
    Calls Tryz.prog 103 #[.pointer (some ⟨q, 0, none⟩), .int .i64 (i : Int), .int .i64 ((j : Int) + 1)] w fun e w' => e = .returned (.int .i64 (permV (atL ss (gt ds i)) (atL ss (gt ts j)))) ∧ Below w.heap.size w w' := by
  obtain ⟨_, hx, _, ht, _, hd⟩ := hrt
  have fx := atL_right good h2 (j := i) (by have := hd.1; omega)
  have fy := atL_right good h1 (j := j) (by have := ht.1; omega)
  have lx := fault_len fx
  have ly := fault_len fy
  have hp := perm_right fx fy
  have hz : (((j : Int) + 1) == 0) = false := by simp; omega
  have hcore : ∀ w2 : World, Below w.heap.size w w2 → ∀ b o la ll lc b' o' la' ll' lc', b < w2.heap.size → w2.cell? ⟨b, o, none⟩ = some (.slice la ll lc) → Sl w2 la ll (atL ss (gt ds i)) → b' < w2.heap.size → w2.cell? ⟨b', o', none⟩ = some (.slice la' ll' lc') → Sl w2 la' ll' (atL ss (gt ts j)) → ll = 4 ∧ ll' = 4 := fun w2 _ b o la ll lc b' o' la' ll' lc' _ _ s1 _ _ s2 => ⟨by have := s1.1; omega, by have := s2.1; omega⟩
  cases hob : (thing0 (atL ss (gt ts j)) && belowB (atL ss (gt ts j)) (highL (atL ss (gt ds i)))) with
  | true =>
    cases hmo : ((thing0 (atL ss (gt ts j)) && belowB (atL ss (gt ts j)) (highL (atL ss (gt ds i)))) && belowB (atL ss (gt ds i)) (atL ss (gt ts j))) with
    | true =>
      have HV : Hid (permV (atL ss (gt ds i)) (atL ss (gt ts j)) = 7) := by show _ = _; unfold permV; rw [hp.2, hmo]; rfl
      go_enter Tryz.func103, Tryz.ntmps103
      go_wp2_with fail
      refine (l3Domain_calls q a n ca ss da dl dc ds i _ good hdl hqc hqd hx hd h2 hi).mono ?_
      rintro e w1 ⟨b, o, la, ll, lc, rfl, hb, cb, _, sb, g1⟩
      have cq1 := (g1.cell (p := ⟨q, 0, none⟩) hq).trans hqc
      have ct1 := (g1.cell (p := ⟨q, 1, none⟩) hq).trans hqt
      go_wp2_with fail
      refine (l3Tag_calls q a n ca ss ta tl tc ts j _ good htl cq1 ct1 (hx.below g1 (Nat.le_refl _)) (ht.below g1 (Nat.le_refl _)) h1 hj).mono ?_
      rintro e w2 ⟨b', o', la', ll', lc', rfl, hb', cb', _, sb', g2⟩
      have g02 := g1.trans (g2.mono g1.size)
      have cb2 := (g02.cell (p := ⟨b, o, none⟩) hb).trans cb
      have sb2 := sb.below g02 (Nat.le_refl _)
      have cb2' := (g2.cell (p := ⟨b', o', none⟩) hb').trans cb'
      have sb2' := sb'.below g2 (Nat.le_refl _)
      have lb2 : b < w2.heap.size := by have := g02.size; omega
      have lb2' : b' < w2.heap.size := by have := g2.size; omega
      obtain ⟨rfl, rfl⟩ := hcore w2 g02 b o la ll lc b' o' la' ll' lc' lb2 cb2 sb2 lb2' cb2' sb2'
      clear g1 g2 cb cb' sb sb' cq1 ct1
      go_wp2_with fail
      refine (l1ObserveO_calls b o b' o' la la' lc lc' _ _ _ lb2 lb2' cb2 cb2' sb2 sb2').mono ?_
      rintro e w3 ⟨rfl, g3⟩
      rw [hob]
      have g03 := g02.trans (g3.mono g02.size)
      have cb3 := (g3.cell (p := ⟨b, o, none⟩) lb2).trans cb2
      have cb3' := (g3.cell (p := ⟨b', o', none⟩) lb2').trans cb2'
      have sb3 := sb2.below g3 (Nat.le_refl _)
      have sb3' := sb2'.below g3 (Nat.le_refl _)
      have lb3 : b < w3.heap.size := by have := g3.size; omega
      have lb3' : b' < w3.heap.size := by have := g3.size; omega
      clear g3 g02 cb2 cb2' sb2 sb2' lb2 lb2'
      go_wp2_with fail
      refine (l1ModifyO_calls b o b' o' la la' lc lc' _ _ _ lb3 lb3' cb3 cb3' sb3 sb3').mono ?_
      rintro e w4 ⟨rfl, g4⟩
      rw [hmo]
      have HE := hide (g03.trans (g4.mono g03.size))
      clear g4 g03 cb3 cb3' sb3 sb3' lb3 lb3' hcore
      go_wp2
      go_ret
      exact ⟨ret_int HV.out.symm, HE.out⟩
    | false =>
      have HV : Hid (permV (atL ss (gt ds i)) (atL ss (gt ts j)) = 5) := by show _ = _; unfold permV; rw [hp.2, hmo, hp.1, hob]; rfl
      go_enter Tryz.func103, Tryz.ntmps103
      go_wp2_with fail
      refine (l3Domain_calls q a n ca ss da dl dc ds i _ good hdl hqc hqd hx hd h2 hi).mono ?_
      rintro e w1 ⟨b, o, la, ll, lc, rfl, hb, cb, _, sb, g1⟩
      have cq1 := (g1.cell (p := ⟨q, 0, none⟩) hq).trans hqc
      have ct1 := (g1.cell (p := ⟨q, 1, none⟩) hq).trans hqt
      go_wp2_with fail
      refine (l3Tag_calls q a n ca ss ta tl tc ts j _ good htl cq1 ct1 (hx.below g1 (Nat.le_refl _)) (ht.below g1 (Nat.le_refl _)) h1 hj).mono ?_
      rintro e w2 ⟨b', o', la', ll', lc', rfl, hb', cb', _, sb', g2⟩
      have g02 := g1.trans (g2.mono g1.size)
      have cb2 := (g02.cell (p := ⟨b, o, none⟩) hb).trans cb
      have sb2 := sb.below g02 (Nat.le_refl _)
      have cb2' := (g2.cell (p := ⟨b', o', none⟩) hb').trans cb'
      have sb2' := sb'.below g2 (Nat.le_refl _)
      have lb2 : b < w2.heap.size := by have := g02.size; omega
      have lb2' : b' < w2.heap.size := by have := g2.size; omega
      obtain ⟨rfl, rfl⟩ := hcore w2 g02 b o la ll lc b' o' la' ll' lc' lb2 cb2 sb2 lb2' cb2' sb2'
      clear g1 g2 cb cb' sb sb' cq1 ct1
      go_wp2_with fail
      refine (l1ObserveO_calls b o b' o' la la' lc lc' _ _ _ lb2 lb2' cb2 cb2' sb2 sb2').mono ?_
      rintro e w3 ⟨rfl, g3⟩
      rw [hob]
      have g03 := g02.trans (g3.mono g02.size)
      have cb3 := (g3.cell (p := ⟨b, o, none⟩) lb2).trans cb2
      have cb3' := (g3.cell (p := ⟨b', o', none⟩) lb2').trans cb2'
      have sb3 := sb2.below g3 (Nat.le_refl _)
      have sb3' := sb2'.below g3 (Nat.le_refl _)
      have lb3 : b < w3.heap.size := by have := g3.size; omega
      have lb3' : b' < w3.heap.size := by have := g3.size; omega
      clear g3 g02 cb2 cb2' sb2 sb2' lb2 lb2'
      go_wp2_with fail
      refine (l1ModifyO_calls b o b' o' la la' lc lc' _ _ _ lb3 lb3' cb3 cb3' sb3 sb3').mono ?_
      rintro e w4 ⟨rfl, g4⟩
      rw [hmo]
      have HE := hide (g03.trans (g4.mono g03.size))
      clear g4 g03 cb3 cb3' sb3 sb3' lb3 lb3' hcore
      go_wp2
      go_ret
      exact ⟨ret_int HV.out.symm, HE.out⟩
  | false =>
    have hmo : ((thing0 (atL ss (gt ts j)) && belowB (atL ss (gt ts j)) (highL (atL ss (gt ds i)))) && belowB (atL ss (gt ds i)) (atL ss (gt ts j))) = false := by rw [hob]; rfl
    have HV : Hid (permV (atL ss (gt ds i)) (atL ss (gt ts j)) = 0) := by show _ = _; unfold permV; rw [hp.2, hmo, hp.1, hob]; rfl
    go_enter Tryz.func103, Tryz.ntmps103
    go_wp2_with fail
    refine (l3Domain_calls q a n ca ss da dl dc ds i _ good hdl hqc hqd hx hd h2 hi).mono ?_
    rintro e w1 ⟨b, o, la, ll, lc, rfl, hb, cb, _, sb, g1⟩
    have cq1 := (g1.cell (p := ⟨q, 0, none⟩) hq).trans hqc
    have ct1 := (g1.cell (p := ⟨q, 1, none⟩) hq).trans hqt
    go_wp2_with fail
    refine (l3Tag_calls q a n ca ss ta tl tc ts j _ good htl cq1 ct1 (hx.below g1 (Nat.le_refl _)) (ht.below g1 (Nat.le_refl _)) h1 hj).mono ?_
    rintro e w2 ⟨b', o', la', ll', lc', rfl, hb', cb', _, sb', g2⟩
    have g02 := g1.trans (g2.mono g1.size)
    have cb2 := (g02.cell (p := ⟨b, o, none⟩) hb).trans cb
    have sb2 := sb.below g02 (Nat.le_refl _)
    have cb2' := (g2.cell (p := ⟨b', o', none⟩) hb').trans cb'
    have sb2' := sb'.below g2 (Nat.le_refl _)
    have lb2 : b < w2.heap.size := by have := g02.size; omega
    have lb2' : b' < w2.heap.size := by have := g2.size; omega
    obtain ⟨rfl, rfl⟩ := hcore w2 g02 b o la ll lc b' o' la' ll' lc' lb2 cb2 sb2 lb2' cb2' sb2'
    clear g1 g2 cb cb' sb sb' cq1 ct1
    go_wp2_with fail
    refine (l1ObserveO_calls b o b' o' la la' lc lc' _ _ _ lb2 lb2' cb2 cb2' sb2 sb2').mono ?_
    rintro e w3 ⟨rfl, g3⟩
    rw [hob]
    have g03 := g02.trans (g3.mono g02.size)
    have cb3 := (g3.cell (p := ⟨b, o, none⟩) lb2).trans cb2
    have cb3' := (g3.cell (p := ⟨b', o', none⟩) lb2').trans cb2'
    have sb3 := sb2.below g3 (Nat.le_refl _)
    have sb3' := sb2'.below g3 (Nat.le_refl _)
    have lb3 : b < w3.heap.size := by have := g3.size; omega
    have lb3' : b' < w3.heap.size := by have := g3.size; omega
    clear g3 g02 cb2 cb2' sb2 sb2' lb2 lb2'
    go_wp2_with fail
    refine (l1ModifyO_calls b o b' o' la la' lc lc' _ _ _ lb3 lb3' cb3 cb3' sb3 sb3').mono ?_
    rintro e w4 ⟨rfl, g4⟩
    rw [hmo]
    have HE := hide (g03.trans (g4.mono g03.size))
    clear g4 g03 cb3 cb3' sb3 sb3' lb3 lb3' hcore
    go_wp2
    go_ret
    exact ⟨ret_int HV.out.symm, HE.out⟩

theorem pm_bad {ss : List (Int × List Int)} {ts ds : List Int} {d t : Int} (h : tabF ss ts ds ≠ 0) : pmC ss ts ds d t = tabF ss ts ds ∧ pmV ss ts ds d t = 0 := by
  have h1 : pmC ss ts ds d t = tabF ss ts ds := if_neg h
  exact ⟨h1, if_neg (by rw [h1]; exact h)⟩

theorem pm_nodom {ss : List (Int × List Int)} {ts ds : List Int} {d t : Int} (h : tabF ss ts ds = 0) (hd : inC ds d ≠ 0) : pmC ss ts ds d t = 4 ∧ pmV ss ts ds d t = 0 := by
  have h1 : pmC ss ts ds d t = 4 := by unfold pmC; rw [if_pos h, if_neg hd]
  exact ⟨h1, if_neg (by rw [h1]; decide)⟩

theorem pm_own {ss : List (Int × List Int)} {ts ds : List Int} {d : Int} (h : tabF ss ts ds = 0) (hd : inC ds d = 0) : pmC ss ts ds d 0 = 0 ∧ pmV ss ts ds d 0 = 0 := by
  have h1 : pmC ss ts ds d 0 = 0 := by unfold pmC; rw [if_pos h, if_pos hd, if_pos rfl]
  exact ⟨h1, by unfold pmV; rw [if_pos h1, if_pos rfl]⟩

theorem pm_notag {ss : List (Int × List Int)} {ts ds : List Int} {d t : Int} (h : tabF ss ts ds = 0) (hd : inC ds d = 0) (h0 : t ≠ 0) (ht : inC ts (t - 1) = 4) : pmC ss ts ds d t = 4 ∧ pmV ss ts ds d t = 0 := by
  have h1 : pmC ss ts ds d t = 4 := by unfold pmC; rw [if_pos h, if_pos hd, if_neg h0, ht]
  exact ⟨h1, if_neg (by rw [h1]; decide)⟩

theorem pm_yes {ss : List (Int × List Int)} {ts ds : List Int} {d t : Int} (h : tabF ss ts ds = 0) (hd : inC ds d = 0) (h0 : t ≠ 0) (ht : inC ts (t - 1) = 0) : pmC ss ts ds d t = 0 ∧ pmV ss ts ds d t = permV (inL ss ds d) (inL ss ts (t - 1)) := by
  have h1 : pmC ss ts ds d t = 0 := by unfold pmC; rw [if_pos h, if_pos hd, if_neg h0, ht]
  exact ⟨h1, by unfold pmV; rw [if_pos h1, if_neg h0]⟩

set_option maxRecDepth 100000 in
theorem l3Perm0_calls (q : Nat) (d : Int) (w : World) :
    Calls Tryz.prog 103 #[.pointer (some ⟨q, 0, none⟩), .int .i64 d, .int .i64 0] w fun e w' => e = .returned (.int .i64 0) ∧ Below w.heap.size w w' := by
  go_enter Tryz.func103, Tryz.ntmps103
  go_wp2
  go_ret
  exact ⟨rfl, Below.refl _ _⟩

set_option maxRecDepth 100000 in
theorem implPermOf_calls (a : Option Addr) (n c : Nat) (ss : List (Int × List Int)) (ta : Option Addr) (tn tc : Nat) (ts : List Int) (da : Option Addr) (dn dc : Nat) (ds : List Int) (d t : Int) (w : World) (hrt : RT w a n ss ta tn ts da dn ds) :
    Calls Tryz.prog 117 #[.agg #[.slice a n c, .slice ta tn tc, .slice da dn dc], .int .i64 d, .int .i64 t] w fun e w' => e = .returned (.agg #[.int .i64 (pmC ss ts ds d t), .int .i64 (pmV ss ts ds d t)]) ∧ Below w.heap.size w w' := by
  have M0 := ((Mm.start w).alloc3 (.slice a n c) (.slice ta tn tc) (.slice da dn dc) 43).alloc2 (.int .i64 0) (.int .i64 0) 184
  simp only [World.size_alloc] at M0
  have hrt0 := hrt.below M0.bel (Nat.le_refl _)
  have htl := hrt.2.2.2.1.1
  have hdl := hrt.2.2.2.2.2.1
  by_cases hf : tabF ss ts ds = 0
  · have ef : (tabF ss ts ds != 0) = false := by simp [hf]
    obtain ⟨hr, hm, hA1, hA2, _⟩ := tabF_zero hf
    have hml := many_len hm
    have Hf := hide hf
    clear hf hm
    by_cases hd : inC ds d = 0
    · have ed : (inC ds d != 0) = false := by simp [hd]
      have HD := hide hd
      clear hd
      by_cases h0 : t = 0
      · subst h0
        have HP := hide (pm_own Hf.out HD.out)
        have e0 : ((0 : Int) == 0) = true := by simp
        go_enter Tryz.func117, Tryz.ntmps117
        go_wp2_with fail
        refine (openTables_calls a n c ss ta tn tc ts da dn dc ds _ hrt0).mono ?_
        rintro e w1 ⟨sz, mo, xa, xn, xc, ya, yn, yc, rfl, g1, hled⟩
        obtain ⟨rfl, M, X1, X2, X3, rfl, l1, l2, l3, l4, l5, own, ox, oy⟩ := hled Hf.out
        have M1 := (M0.below g1).alloc4 (.int .i64 (ss.length : Int)) (.map (some M)) (.slice xa xn xc) (.slice ya yn yc) 176
        have al := (Below.refl w1.heap.size w1).alloc (Nat.le_refl _) (.cells #[.int .i64 (ss.length : Int), .map (some M), .slice xa xn xc, .slice ya yn yc] 176)
        have hbk : Bk (w1.alloc (.cells #[.int .i64 (ss.length : Int), .map (some M), .slice xa xn xc, .slice ya yn yc] 176)) w1.heap.size M (ss.length : Int) ss.length (bk ss ss.length) := ⟨by simp, by simp, by simp, fun j => by simp, ownsMap_below own al (Nat.le_refl _)⟩
        have ox1 := OS.loc.below al ox
        have oy1 := OS.loc.below al oy
        have hxn := ox.1
        have hyn := oy.1
        clear g1 al ox oy own hled M0 hrt0
        go_wp2_with fail
        refine (domainLabel_calls w1.heap.size M _ ss _ _ _ _ ds d _ hbk (good_of hr) (rep_bk hr) (M1.cell 3 rfl) oy1.sl (by omega) hA2).mono ?_
        rintro e w2 ⟨ra, rn, rc, rfl, os2, g2⟩
        have M2 := (M1.below g2).alloc2 (.int .i64 (inC ds d)) (.slice ra rn rc) 188
        have al2 := (Below.refl w2.heap.size w2).alloc (Nat.le_refl _) (.cells #[.int .i64 (inC ds d), .slice ra rn rc] 188)
        have h12 := g2.trans (al2.mono g2.size)
        have hbk2 := hbk.below h12
        have ox2 := OS.loc.below h12 ox1
        have os2a := OS.loc.below al2 os2
        clear g2 al2 h12 hbk ox1 oy1 M1 os2
        have d0 := M2.cell 0 rfl
        clear hbk2 ox2 os2a
        have r0 := M2.cell 6 rfl
        have r1 := M2.cell 7 rfl
        have f0 := M2.fz 6 rfl
        have f1 := M2.fz 7 rfl
        have HB := hide M2.bel
        clear M2
        go_wp2
        refine bodyPost_ret (v := .agg #[.int .i64 (0), .int .i64 (0)]) (by simp [results, Tryz.results117, go_sem, r0, r1]) rfl ⟨by rw [HP.out.1, HP.out.2], (HB.out.setCell (by simp) _).setCell (by simp) _⟩
      · have e0 : (t == 0) = false := by simp [h0]
        by_cases ht : inC ts (t - 1) = 0
        · have et : (inC ts (t - 1) != 0) = false := by simp [ht]
          have HP := hide (pm_yes Hf.out HD.out h0 ht)
          clear h0 ht
          go_enter Tryz.func117, Tryz.ntmps117
          go_wp2_with fail
          refine (openTables_calls a n c ss ta tn tc ts da dn dc ds _ hrt0).mono ?_
          rintro e w1 ⟨sz, mo, xa, xn, xc, ya, yn, yc, rfl, g1, hled⟩
          obtain ⟨rfl, M, X1, X2, X3, rfl, l1, l2, l3, l4, l5, own, ox, oy⟩ := hled Hf.out
          have M1 := (M0.below g1).alloc4 (.int .i64 (ss.length : Int)) (.map (some M)) (.slice xa xn xc) (.slice ya yn yc) 176
          have al := (Below.refl w1.heap.size w1).alloc (Nat.le_refl _) (.cells #[.int .i64 (ss.length : Int), .map (some M), .slice xa xn xc, .slice ya yn yc] 176)
          have hbk : Bk (w1.alloc (.cells #[.int .i64 (ss.length : Int), .map (some M), .slice xa xn xc, .slice ya yn yc] 176)) w1.heap.size M (ss.length : Int) ss.length (bk ss ss.length) := ⟨by simp, by simp, by simp, fun j => by simp, ownsMap_below own al (Nat.le_refl _)⟩
          have ox1 := OS.loc.below al ox
          have oy1 := OS.loc.below al oy
          have hxn := ox.1
          have hyn := oy.1
          clear g1 al ox oy own hled M0 hrt0
          go_wp2_with fail
          refine (domainLabel_calls w1.heap.size M _ ss _ _ _ _ ds d _ hbk (good_of hr) (rep_bk hr) (M1.cell 3 rfl) oy1.sl (by omega) hA2).mono ?_
          rintro e w2 ⟨ra, rn, rc, rfl, os2, g2⟩
          have M2 := (M1.below g2).alloc2 (.int .i64 (inC ds d)) (.slice ra rn rc) 188
          have al2 := (Below.refl w2.heap.size w2).alloc (Nat.le_refl _) (.cells #[.int .i64 (inC ds d), .slice ra rn rc] 188)
          have h12 := g2.trans (al2.mono g2.size)
          have hbk2 := hbk.below h12
          have ox2 := OS.loc.below h12 ox1
          have os2a := OS.loc.below al2 os2
          clear g2 al2 h12 hbk ox1 oy1 M1 os2
          have d0 := M2.cell 0 rfl
          go_wp2_with fail
          clear d0
          refine (tagLabel_calls w1.heap.size M _ ss _ _ _ _ ts t _ hbk2 (good_of hr) (rep_bk hr) (M2.cell 4 rfl) ox2.sl (by omega) hA1).mono ?_
          rintro e w3 ⟨sa, sn, sc, rfl, os3, g3⟩
          have M3 := (M2.below g3).alloc2 (.int .i64 (inC ts (t - 1))) (.slice sa sn sc) 188
          have al3 := (Below.refl w3.heap.size w3).alloc (Nat.le_refl _) (.cells #[.int .i64 (inC ts (t - 1)), .slice sa sn sc] 188)
          have h23 := g3.trans (al3.mono g3.size)
          have os2b := OS.loc.below h23 os2a
          have os3a := OS.loc.below al3 os3
          clear g3 al3 h23 hbk2 ox2 os2a os3 M2
          have d1 := M3.cell 3 rfl
          have k0 := M3.cell 0 rfl
          have k1 := M3.cell 1 rfl
          go_wp2_with fail
          clear d1 k0 k1
          refine (permBetween_calls ra sa rn rc sn sc _ _ _ (by have := os2b.2.1; unfold maxLen; omega) (by have := os3a.2.1; unfold maxLen; omega) os2b.sl os3a.sl).mono ?_
          rintro e w4 ⟨rfl, g4⟩
          have M4 := M3.below g4
          clear g4 M3 os2b os3a
          have r0 := M4.cell 8 rfl
          have r1 := M4.cell 9 rfl
          have f0 := M4.fz 8 rfl
          have f1 := M4.fz 9 rfl
          have HB := hide M4.bel
          clear M4
          go_wp2
          refine bodyPost_ret (v := .agg #[.int .i64 (0), .int .i64 (permV (inL ss ds d) (inL ss ts (t - 1)))]) (by simp [results, Tryz.results117, go_sem, r0, r1]) rfl ⟨by rw [HP.out.1, HP.out.2], (HB.out.setCell (by simp) _).setCell (by simp) _⟩
        · have et : (inC ts (t - 1) != 0) = true := by simp [ht]
          have h4 : inC ts (t - 1) = 4 := by unfold inC at ht ⊢; split; (rename_i h; rw [if_pos h] at ht; exact absurd rfl ht); rfl
          have HP := hide (pm_notag Hf.out HD.out h0 h4)
          clear h0 ht
          go_enter Tryz.func117, Tryz.ntmps117
          go_wp2_with fail
          refine (openTables_calls a n c ss ta tn tc ts da dn dc ds _ hrt0).mono ?_
          rintro e w1 ⟨sz, mo, xa, xn, xc, ya, yn, yc, rfl, g1, hled⟩
          obtain ⟨rfl, M, X1, X2, X3, rfl, l1, l2, l3, l4, l5, own, ox, oy⟩ := hled Hf.out
          have M1 := (M0.below g1).alloc4 (.int .i64 (ss.length : Int)) (.map (some M)) (.slice xa xn xc) (.slice ya yn yc) 176
          have al := (Below.refl w1.heap.size w1).alloc (Nat.le_refl _) (.cells #[.int .i64 (ss.length : Int), .map (some M), .slice xa xn xc, .slice ya yn yc] 176)
          have hbk : Bk (w1.alloc (.cells #[.int .i64 (ss.length : Int), .map (some M), .slice xa xn xc, .slice ya yn yc] 176)) w1.heap.size M (ss.length : Int) ss.length (bk ss ss.length) := ⟨by simp, by simp, by simp, fun j => by simp, ownsMap_below own al (Nat.le_refl _)⟩
          have ox1 := OS.loc.below al ox
          have oy1 := OS.loc.below al oy
          have hxn := ox.1
          have hyn := oy.1
          clear g1 al ox oy own hled M0 hrt0
          go_wp2_with fail
          refine (domainLabel_calls w1.heap.size M _ ss _ _ _ _ ds d _ hbk (good_of hr) (rep_bk hr) (M1.cell 3 rfl) oy1.sl (by omega) hA2).mono ?_
          rintro e w2 ⟨ra, rn, rc, rfl, os2, g2⟩
          have M2 := (M1.below g2).alloc2 (.int .i64 (inC ds d)) (.slice ra rn rc) 188
          have al2 := (Below.refl w2.heap.size w2).alloc (Nat.le_refl _) (.cells #[.int .i64 (inC ds d), .slice ra rn rc] 188)
          have h12 := g2.trans (al2.mono g2.size)
          have hbk2 := hbk.below h12
          have ox2 := OS.loc.below h12 ox1
          have os2a := OS.loc.below al2 os2
          clear g2 al2 h12 hbk ox1 oy1 M1 os2
          have d0 := M2.cell 0 rfl
          go_wp2_with fail
          clear d0
          refine (tagLabel_calls w1.heap.size M _ ss _ _ _ _ ts t _ hbk2 (good_of hr) (rep_bk hr) (M2.cell 4 rfl) ox2.sl (by omega) hA1).mono ?_
          rw [h4]
          rintro e w3 ⟨sa, sn, sc, rfl, os3, g3⟩
          have M3 := (M2.below g3).alloc2 (.int .i64 4) (.slice sa sn sc) 188
          have al3 := (Below.refl w3.heap.size w3).alloc (Nat.le_refl _) (.cells #[.int .i64 4, .slice sa sn sc] 188)
          have h23 := g3.trans (al3.mono g3.size)
          have os2b := OS.loc.below h23 os2a
          have os3a := OS.loc.below al3 os3
          clear g3 al3 h23 hbk2 ox2 os2a os3 M2
          have k0 := M3.cell 0 rfl
          clear os2b os3a
          have r0 := M3.cell 8 rfl
          have r1 := M3.cell 9 rfl
          have f0 := M3.fz 8 rfl
          have f1 := M3.fz 9 rfl
          have HB := hide M3.bel
          clear M3
          go_wp2
          refine bodyPost_ret (v := .agg #[.int .i64 (4), .int .i64 (0)]) (by simp [results, Tryz.results117, go_sem, r0, r1]) rfl ⟨by rw [HP.out.1, HP.out.2], (HB.out.setCell (by simp) _).setCell (by simp) _⟩
    · have ed : (inC ds d != 0) = true := by simp [hd]
      have h4 : inC ds d = 4 := by unfold inC at hd ⊢; split; (rename_i h; rw [if_pos h] at hd; exact absurd rfl hd); rfl
      have HP := hide (pm_nodom (t := t) Hf.out hd)
      clear hd
      go_enter Tryz.func117, Tryz.ntmps117
      go_wp2_with fail
      refine (openTables_calls a n c ss ta tn tc ts da dn dc ds _ hrt0).mono ?_
      rintro e w1 ⟨sz, mo, xa, xn, xc, ya, yn, yc, rfl, g1, hled⟩
      obtain ⟨rfl, M, X1, X2, X3, rfl, l1, l2, l3, l4, l5, own, ox, oy⟩ := hled Hf.out
      have M1 := (M0.below g1).alloc4 (.int .i64 (ss.length : Int)) (.map (some M)) (.slice xa xn xc) (.slice ya yn yc) 176
      have al := (Below.refl w1.heap.size w1).alloc (Nat.le_refl _) (.cells #[.int .i64 (ss.length : Int), .map (some M), .slice xa xn xc, .slice ya yn yc] 176)
      have hbk : Bk (w1.alloc (.cells #[.int .i64 (ss.length : Int), .map (some M), .slice xa xn xc, .slice ya yn yc] 176)) w1.heap.size M (ss.length : Int) ss.length (bk ss ss.length) := ⟨by simp, by simp, by simp, fun j => by simp, ownsMap_below own al (Nat.le_refl _)⟩
      have ox1 := OS.loc.below al ox
      have oy1 := OS.loc.below al oy
      have hxn := ox.1
      have hyn := oy.1
      clear g1 al ox oy own hled M0 hrt0
      go_wp2_with fail
      refine (domainLabel_calls w1.heap.size M _ ss _ _ _ _ ds d _ hbk (good_of hr) (rep_bk hr) (M1.cell 3 rfl) oy1.sl (by omega) hA2).mono ?_
      rw [h4]
      rintro e w2 ⟨ra, rn, rc, rfl, os2, g2⟩
      have M2 := (M1.below g2).alloc2 (.int .i64 4) (.slice ra rn rc) 188
      have al2 := (Below.refl w2.heap.size w2).alloc (Nat.le_refl _) (.cells #[.int .i64 4, .slice ra rn rc] 188)
      have h12 := g2.trans (al2.mono g2.size)
      have hbk2 := hbk.below h12
      have ox2 := OS.loc.below h12 ox1
      have os2a := OS.loc.below al2 os2
      clear g2 al2 h12 hbk ox1 oy1 M1 os2
      have d0 := M2.cell 0 rfl
      clear hbk2 ox2 os2a
      have r0 := M2.cell 6 rfl
      have r1 := M2.cell 7 rfl
      have f0 := M2.fz 6 rfl
      have f1 := M2.fz 7 rfl
      have HB := hide M2.bel
      clear M2
      go_wp2
      refine bodyPost_ret (v := .agg #[.int .i64 (4), .int .i64 (0)]) (by simp [results, Tryz.results117, go_sem, r0, r1]) rfl ⟨by rw [HP.out.1, HP.out.2], (HB.out.setCell (by simp) _).setCell (by simp) _⟩
  · have ef : (tabF ss ts ds != 0) = true := by simp [hf]
    have HP := hide (pm_bad (d := d) (t := t) hf)
    clear hf
    go_enter Tryz.func117, Tryz.ntmps117
    go_wp2_with fail
    refine (openTables_calls a n c ss ta tn tc ts da dn dc ds _ hrt0).mono ?_
    rintro e w1 ⟨sz, mo, xa, xn, xc, ya, yn, yc, rfl, g1, _⟩
    have M1 := (M0.below g1).alloc4 (.int .i64 sz) (.map mo) (.slice xa xn xc) (.slice ya yn yc) 176
    clear M0 g1 hrt0
    have r0 := M1.cell 4 rfl
    have r1 := M1.cell 5 rfl
    have f0 := M1.fz 4 rfl
    have f1 := M1.fz 5 rfl
    have HB := hide M1.bel
    clear M1
    go_wp2
    refine bodyPost_ret (v := .agg #[.int .i64 (tabF ss ts ds), .int .i64 (0)]) (by simp [results, Tryz.results117, go_sem, r0, r1]) rfl ⟨by rw [HP.out.1, HP.out.2], (HB.out.setCell (by simp) _).setCell (by simp) _⟩

end Go.Proofs.YtgkjmeogdomgmaaGreat
