import Derived.Test.YtnlkigjgloeonaaGreatL3Fault
import Derived.Test.YtnlkigjgloeonaaGreatSep
import Derived.Test.YtnlkigjgloeonaaGreatApp
import Derived.WalkKit
import Derived.ProofKit
import Derived.OpenShut
import Derived.ShutString
import Derived.ChangeOld
import Derived.Below
import Derived.WalkSpells
import Derived.Deep.QuietTactic
import Derived.BigQuiet
import Derived.Deep.RegionWith
import Derived.Deep.WholeRow
import Derived.Deep.DeepCutAuto
import Derived.Deep.RegionHeld2
import Derived.Deep.AppendLies
import Derived.Deep.RegionLaw
namespace Go.Proofs.YtnlkigjgloeonaaGreat
open Go.ChangeShapes Go.WideShapes Go.ChangeAt Go.RowKit

theorem tabF_zero {ss : List (Int × List Int)} {ts ds : List Int} (h : tabF ss ts ds = 0) : faultR ss = 0 ∧ manyB ts ds = false ∧ allS ss ts = true ∧ allS ss ds = true ∧ thingsB (labs ss ts) = true ∧ lowsB (labs ss ds) = true ∧ cntB ss ts ds = true := by
  unfold tabF at h
  split at h
  · rename_i hr
    split at h
    · cases h
    · rename_i hm
      unfold ledF at h
      split at h
      · rename_i h1
        split at h
        · rename_i h2
          split at h
          · rename_i h3
            simp at h1 h2 hm
            exact ⟨hr, hm, h1.1, h1.2, h2.1, h2.2, h3⟩
          · cases h
        · cases h
      · cases h
  · rename_i hr
    exact absurd h hr

theorem many_len {ts ds : List Int} (h : manyB ts ds = false) : ts.length ≤ 6 ∧ ds.length ≤ 4 := by
  unfold manyB at h
  simp at h
  exact h

def inC (l : List Int) (i : Int) : Int := if 0 ≤ i ∧ i < (l.length : Int) then 0 else 4

def inL (ss : List (Int × List Int)) (l : List Int) (i : Int) : List Int := if inC l i = 0 then atL ss (gt l i.toNat) else []

theorem inC_yes {l : List Int} {j : Nat} (h : j < l.length) : inC l (j : Int) = 0 := if_pos (by omega)

theorem inC_no {l : List Int} {i : Int} (h : ¬ (0 ≤ i ∧ i < (l.length : Int))) : inC l i = 4 := if_neg h

theorem inL_yes {ss : List (Int × List Int)} {l : List Int} {j : Nat} (h : j < l.length) : inL ss l (j : Int) = atL ss (gt l j) := by
  unfold inL
  rw [inC_yes h]
  rfl

theorem inL_no {ss : List (Int × List Int)} {l : List Int} {i : Int} (h : ¬ (0 ≤ i ∧ i < (l.length : Int))) : inL ss l i = [] := by
  unfold inL
  rw [inC_no h]
  rfl

def tgC (ss : List (Int × List Int)) (ts ds l : List Int) (i : Int) : Int := if tabF ss ts ds = 0 then inC l i else tabF ss ts ds

def tgL (ss : List (Int × List Int)) (ts ds l : List Int) (i : Int) : List Int := if tabF ss ts ds = 0 then inL ss l i else []

theorem tgC_ok {ss : List (Int × List Int)} {ts ds l : List Int} {i : Int} (h : tabF ss ts ds = 0) : tgC ss ts ds l i = inC l i := if_pos h

theorem tgC_bad {ss : List (Int × List Int)} {ts ds l : List Int} {i : Int} (h : tabF ss ts ds ≠ 0) : tgC ss ts ds l i = tabF ss ts ds := if_neg h

theorem tgL_ok {ss : List (Int × List Int)} {ts ds l : List Int} {i : Int} (h : tabF ss ts ds = 0) : tgL ss ts ds l i = inL ss l i := if_pos h

theorem tgL_bad {ss : List (Int × List Int)} {ts ds l : List Int} {i : Int} (h : tabF ss ts ds ≠ 0) : tgL ss ts ds l i = [] := if_neg h

theorem atC_all {ss : List (Int × List Int)} {l : List Int} (h : allS ss l = true) {j : Nat} (hj : j < l.length) : atC ss (gt l j) = 0 := by
  have h1 := all_get (d := 0) h hj
  simpa [okS, gt] using h1

set_option maxRecDepth 100000 in
set_option maxHeartbeats 1000000 in
theorem l1Copy_O (a : Option Addr) (n cap : Nat) (zs : List Int) (w : World) (hn : n ≤ 1048576) (hs : Sl w a n zs) :
    Calls Tryz.prog 75 #[.agg #[.slice a n cap]] w fun e w' => ∃ ra rc, e = .returned (.agg #[.slice ra n rc]) ∧ OS (InR w.heap.size w'.heap.size) ra n zs w' ∧ Below w.heap.size w w' := by
  obtain ⟨hlen, hs⟩ := hs
  obtain ⟨i0, hi, hz0, hz1, hz2⟩ := info_parts info2
  have hb0 := fun o1 o2 o3 => (((Below.refl w.heap.size w).alloc (Nat.le_refl _) o1).alloc (by simp) o2).alloc (by simp; omega) o3
  by_cases hp : 0 < n
  · obtain ⟨b, off, rfl, hb, hc⟩ := hs hp
    have hown := World.ownsRow_lit (base := w.heap.size + 2) (e := 2) (size := 1) ((w.alloc (.cells #[.slice (some ⟨b, off, none⟩) n cap] 64)).alloc (.cells #[.slice none 0 0] 64)) #[] 0 (by simp) (Nat.zero_le _) rfl
    simp only [World.size_alloc] at hown
    have hnews := ints_at_sl (w := ((w.alloc (.cells #[.slice (some ⟨b, off, none⟩) n cap] 64)).alloc (.cells #[.slice none 0 0] 64)).alloc (.cells #[] 2)) (b := b) (off := off) (zs := zs) (fun i hi => ((hb0 _ _ _).cell (p := ⟨b, off + i, none⟩) hb).trans (hc i (by omega)))
    have HO := hide hown
    have HN := hide hnews
    have hm1 : 0 + n ≤ maxLen := by unfold maxLen; omega
    have hm2 : (0 + n) * 8 ≤ 140737488355328 := by omega
    have hl1 : (zs.map (Value.int .i64)).length = n * 1 := by simp [hlen]
    have hbs : w.heap.size + 2 ≤ (((w.alloc (.cells #[.slice (some ⟨b, off, none⟩) n cap] 64)).alloc (.cells #[.slice none 0 0] 64)).alloc (.cells #[] 2)).heap.size := by simp
    have HL := hide hl1
    have HM1 := hide hm1
    have HM2 := hide hm2
    have HBS := hide hbs
    clear hown hnews hs hc hl1 hm1 hm2 hbs
    go_enter Tryz.func75, Tryz.ntmps75
    go_wp2_with (first
      | (at_builtin; refine wpList_append_own _ rfl _ _ 25 rfl (w.heap.size + 2) 2 i0 (.int .i64 0) 1 8 Tryz.underlying25 hi hz0 hz1 hz2 rfl (by decide) _ 0 [] rfl HO.out ⟨b, off, none⟩ n cap (zs.map (Value.int .i64)) rfl HL.out HN.out ints_one HM1.out HM2.out HBS.out ?_)
      | go_in)
    intro v' w1 hown' hgrow _
    have hown2 : w1.ownsRow (w.heap.size + 2) 2 1 v' n (zs.map (Value.int .i64)) := by simpa using hown'
    obtain ⟨ra, rc, rfl, fr⟩ := owns_osl hn hown2
    have h1 : Below w.heap.size w w1 := (hb0 _ _ _).grown hgrow (by simp; omega) (fun k hk => by simp [Value.ownBlock] at hk; omega)
    have rc1 : w1.cell? ⟨w.heap.size + 1, 0, none⟩ = some (.slice none 0 0) := (World.cell?_of_block (a := ⟨w.heap.size + 1, 0, none⟩) (hgrow.block (w.heap.size + 1) (by simp) (by simp [Value.ownBlock]))).trans (by go_simp)
    have rf1 : w1.frozen? ⟨w.heap.size + 1, 0, none⟩ = false := (World.frozen?_of_block (a := ⟨w.heap.size + 1, 0, none⟩) (hgrow.block (w.heap.size + 1) (by simp) (by simp [Value.ownBlock]))).trans (by go_simp)
    have HFR := hide (OS.ofOSl fr)
    have HB1 := hide h1
    clear HO HN hown' hown2 hgrow hb0 fr h1
    go_wp2
    refine bodyPost_ret (v := .agg #[.slice ra n rc]) (by simp [results, Tryz.results75, go_sem, rc1]) rfl ⟨ra, rc, rfl, ?_, HB1.out.setCell (by show w.heap.size ≤ w.heap.size + 1; omega) _⟩
    exact (OS.loc w1 _ (fun k hk _ => Below.heap_setCell _ _ _ _ (fun e => by have := hk.1; simp at e; omega)) HFR.out).mono (fun k hk => ⟨by have := hk.1; omega, by simpa using hk.2⟩)
  · have h0 : n = 0 := by omega
    subst h0
    cases a
    all_goals
      go_enter Tryz.func75, Tryz.ntmps75
      go_wp2
      refine bodyPost_ret (v := .agg #[.slice (some ⟨w.heap.size + 1 + 1, 0, none⟩) 0 0]) (by simp [results, Tryz.results75, go_sem]) rfl ⟨_, 0, rfl, ⟨hlen, by omega, .inl rfl⟩, hb0 _ _ _⟩

set_option maxRecDepth 100000 in
theorem lastTag_calls (P : Nat) (a : Option Addr) (n c : Nat) (w : World) (_hn : n ≤ 10) (hc : w.cell? ⟨P, 2, none⟩ = some (.slice a n c)) :
    Calls Tryz.prog 133 #[.pointer (some ⟨P, 0, none⟩)] w fun e w' => e = .returned (.int .i64 ((n : Int))) ∧ w' = w := by
  go_enter Tryz.func133, Tryz.ntmps133
  go_wp2
  go_ret
  exact ⟨rfl, rfl⟩

set_option maxRecDepth 100000 in
set_option maxHeartbeats 1000000 in
theorem tagLabel_calls (P M n : Nat) (ss : List (Int × List Int)) (D : DataW Unit) (a : Option Addr) (l c : Nat) (ts : List Int) (p : Int) (w : World) (hb : Bk w P M (ss.length : Int) n D) (good : Good ss) (rep : Rep ss D) (ct : w.cell? ⟨P, 2, none⟩ = some (.slice a l c)) (hts : Sl w a l ts) (hl : l ≤ 10) (h1 : allS ss ts = true) :
    Calls Tryz.prog 90 #[.pointer (some ⟨P, 0, none⟩), .int .i64 p] w fun e w' => ∃ ra rn rc, e = .returned (.agg #[.int .i64 (inC ts (p - 1)), .slice ra rn rc]) ∧ OS (InR w.heap.size w'.heap.size) ra rn (inL ss ts (p - 1)) w' ∧ Below w.heap.size w w' := by
  have hP := hb.lt
  obtain ⟨hlen, hts⟩ := hts
  have M0 := (Mm.start w).alloc2 (.int .i64 0) (.slice none 0 0) 112
  have al := (Below.refl w.heap.size w).alloc (Nat.le_refl _) (.cells #[.int .i64 0, .slice none 0 0] 112)
  have ct0 := (al.cell (p := ⟨P, 2, none⟩) hP).trans ct
  have hb0 := hb.below al
  by_cases hin : 0 ≤ p - 1 ∧ p - 1 < (l : Int)
  · obtain ⟨j, hj⟩ : ∃ j : Nat, p - 1 = (j : Int) := ⟨(p - 1).toNat, by omega⟩
    obtain rfl : p = (j : Int) + 1 := by omega
    have hjl : j < l := by omega
    obtain ⟨b, off, rfl, hbb, hc⟩ := hts (by omega)
    have ck := (al.cell (p := ⟨b, off + j, none⟩) hbb).trans (hc j hjl)
    rw [hj]
    have HC := hide (inC_yes (l := ts) (j := j) (by omega))
    have HL := hide (inL_yes (ss := ss) (l := ts) (j := j) (by omega))
    have HA := hide (atC_all h1 (j := j) (by omega))
    have n1 : ¬ ((j : Int) + 1 ≤ 0) := by omega
    have n2 : ¬ ((l : Int) < (j : Int) + 1) := by omega
    have j0 : (0 : Int) ≤ (j : Int) := by omega
    have j1 : (j : Int) < (l : Int) := by omega
    have hj10 : (j : Int) ≤ 10 := by omega
    have hjw : IntKind.i64.wrap (j : Int) = (j : Int) := IntWalk.i64_in _ (by omega)
    have HM0 := hide M0
    have HB0 := hide hb0
    clear M0 al hb0 hin hj
    go_enter Tryz.func90, Tryz.ntmps90
    go_wp2_with fail
    refine (lastTag_calls P _ l c _ hl ct0).mono ?_
    rintro e w1 ⟨rfl, rfl⟩
    go_wp2_with fail
    go_region_with (first
      | (go_at_call 134; refine (labelAt_calls P M n (gt ts j) ss D _ (HB0.out.below ((Below.refl _ _).drew)) good rep).mono ?_; rintro e w2 ⟨ra, rn, rc, rfl, o2, g2⟩; have h2 := ((Below.refl (w.alloc (.cells #[.int .i64 0, .slice none 0 0] 112)).heap.size (w.alloc (.cells #[.int .i64 0, .slice none 0 0] 112))).drew).trans g2; have M2 := HM0.out.below h2; have r0 := M2.cell 0 rfl; have r1 := M2.cell 1 rfl; have f0 := M2.fz 0 rfl; have f1 := M2.fz 1 rfl; have HB2 := hide M2.bel; have HO := hide o2; rw [HA.out]; clear g2 h2 M2 o2))
    all_goals go_wp2
    all_goals refine bodyPost_ret (v := .agg #[.int .i64 0, .slice ra rn rc]) (by simp [results, Tryz.results90, go_sem, r0, r1]) rfl ⟨ra, rn, rc, by rw [HC.out], ?_, (HB2.out.setCell (Nat.le_refl _) _).setCell (Nat.le_refl _) _⟩
    all_goals rw [HL.out]
    all_goals exact (OS.loc w2 _ (fun k hk _ => by rw [Below.heap_setCell _ _ _ _ (fun e => by have := hk.1; simp at e this; omega), Below.heap_setCell _ _ _ _ (fun e => by have := hk.1; simp at e this; omega)]) HO.out).mono (fun k hk => ⟨by have := hk.1; simp at this; omega, by simpa using hk.2⟩)
  · have HC := hide (inC_no (l := ts) (i := p - 1) (by omega))
    have HL := hide (inL_no (ss := ss) (l := ts) (i := p - 1) (by omega))
    have HB := hide M0.bel
    by_cases h0 : p ≤ 0
    · go_enter Tryz.func90, Tryz.ntmps90
      clear M0 al hb0 hin
      go_wp2
      refine bodyPost_ret (v := .agg #[.int .i64 4, .slice none 0 0]) (by simp [results, Tryz.results90, go_sem]) rfl ⟨_, 0, 0, by rw [HC.out], ⟨by rw [HL.out]; rfl, by omega, .inl rfl⟩, (Below.refl _ _).alloc (Nat.le_refl _) _⟩
    · have h2 : (l : Int) < p := by omega
      go_enter Tryz.func90, Tryz.ntmps90
      clear M0 al hb0 hin
      go_wp2_with fail
      refine (lastTag_calls P _ l c _ hl ct0).mono ?_
      rintro e w1 ⟨rfl, rfl⟩
      go_wp2
      refine bodyPost_ret (v := .agg #[.int .i64 4, .slice none 0 0]) (by simp [results, Tryz.results90, go_sem]) rfl ⟨_, 0, 0, by rw [HC.out], ⟨by rw [HL.out]; rfl, by omega, .inl rfl⟩, (Below.refl _ _).alloc (Nat.le_refl _) _⟩

set_option maxRecDepth 100000 in
theorem l3HasTag_calls (q : Nat) (a : Option Addr) (n c : Nat) (p : Int) (w : World) (_hn : n ≤ 10) (hc : w.cell? ⟨q, 1, none⟩ = some (.slice a n c)) :
    Calls Tryz.prog 67 #[.pointer (some ⟨q, 0, none⟩), .int .i64 p] w fun e w' => e = .returned (.bool (decide (0 ≤ p - 1 ∧ p - 1 < (n : Int)))) ∧ Below w.heap.size w w' := by
  go_enter Tryz.func67, Tryz.ntmps67
  go_wp2_with fail
  refine (in_calls _ _ _ _).mono ?_
  rintro e w1 ⟨rfl, g1⟩
  go_wp2
  go_ret
  exact ⟨ret_bool (by rw [Bool.eq_iff_iff]; simp; omega), g1⟩

set_option maxRecDepth 100000 in
theorem l3Tag_calls (q : Nat) (a : Option Addr) (n ca : Nat) (ss : List (Int × List Int)) (ta : Option Addr) (tl tc : Nat) (ts : List Int) (j : Nat) (w : World) (good : Good ss) (htl : tl ≤ 10) (hqc : w.cell? ⟨q, 0, none⟩ = some (.slice a n ca)) (hqt : w.cell? ⟨q, 1, none⟩ = some (.slice ta tl tc)) (hx : Sls w a n ss) (ht : Sl w ta tl ts) (h1 : allS ss ts = true) (hj : j < tl) :
    Calls Tryz.prog 122 #[.pointer (some ⟨q, 0, none⟩), .int .i64 ((j : Int) + 1)] w fun e w' => ∃ b o la ll lc, e = .returned (.pointer (some ⟨b, o, none⟩)) ∧ b < w.heap.size ∧ w.cell? ⟨b, o, none⟩ = some (.slice la ll lc) ∧ ll ≤ 4 ∧ Sl w la ll (atL ss (gt ts j)) ∧ Below w.heap.size w w' := by
  have hlen := hx.1
  have few := good.few
  have htlen := ht.1
  obtain ⟨b, off, rfl, hbb, hc⟩ := ht.2 (by omega)
  obtain ⟨s, hs, hsl, hsp, hsa⟩ := allS_at good h1 (j := j) (by omega)
  have ck := hc j hj
  rw [hs] at ck
  obtain ⟨b1, o1, rfl, hb1, hc1⟩ := hx.2 (by omega)
  obtain ⟨_, la, ll, lc, k1, kl, ksl⟩ := hc1 s (by omega)
  have h4 : ll ≤ 4 := by rw [← ksl.1, fault_len (good.right s hsl hsp)]; omega
  have i0 : (0 : Int) ≤ (s : Int) := by omega
  have i1 : (s : Int) < (n : Int) := by omega
  have j0 : (0 : Int) ≤ (j : Int) := by omega
  have j1 : (j : Int) < (tl : Int) := by omega
  have HK := hide k1
  have HS := hide ksl
  have HA := hide hsa
  clear k1 ksl hc1 hc hx ht hsa
  go_enter Tryz.func122, Tryz.ntmps122
  go_wp2_with fail
  go_quiet (fail)
  go_wp2
  go_ret
  exact ⟨b1, o1 + s * 2 + 1, la, ll, lc, rfl, hb1, HK.out, h4, by rw [HA.out]; exact HS.out, bdrewN (Below.refl _ _) _⟩

set_option maxRecDepth 100000 in
theorem lastDomain_calls (P : Nat) (a : Option Addr) (n c : Nat) (w : World) (_hn : n ≤ 10) (hc : w.cell? ⟨P, 3, none⟩ = some (.slice a n c)) :
    Calls Tryz.prog 136 #[.pointer (some ⟨P, 0, none⟩)] w fun e w' => e = .returned (.int .i64 ((n : Int) - 1)) ∧ w' = w := by
  go_enter Tryz.func136, Tryz.ntmps136
  go_wp2
  go_ret
  exact ⟨rfl, rfl⟩

set_option maxRecDepth 100000 in
set_option maxHeartbeats 1000000 in
theorem domainLabel_calls (P M n : Nat) (ss : List (Int × List Int)) (D : DataW Unit) (a : Option Addr) (l c : Nat) (ts : List Int) (p : Int) (w : World) (hb : Bk w P M (ss.length : Int) n D) (good : Good ss) (rep : Rep ss D) (ct : w.cell? ⟨P, 3, none⟩ = some (.slice a l c)) (hts : Sl w a l ts) (hl : l ≤ 10) (h1 : allS ss ts = true) :
    Calls Tryz.prog 92 #[.pointer (some ⟨P, 0, none⟩), .int .i64 p] w fun e w' => ∃ ra rn rc, e = .returned (.agg #[.int .i64 (inC ts (p)), .slice ra rn rc]) ∧ OS (InR w.heap.size w'.heap.size) ra rn (inL ss ts (p)) w' ∧ Below w.heap.size w w' := by
  have hP := hb.lt
  obtain ⟨hlen, hts⟩ := hts
  have M0 := (Mm.start w).alloc2 (.int .i64 0) (.slice none 0 0) 112
  have al := (Below.refl w.heap.size w).alloc (Nat.le_refl _) (.cells #[.int .i64 0, .slice none 0 0] 112)
  have ct0 := (al.cell (p := ⟨P, 3, none⟩) hP).trans ct
  have hb0 := hb.below al
  by_cases hin : 0 ≤ p ∧ p < (l : Int)
  · obtain ⟨j, hj⟩ : ∃ j : Nat, p = (j : Int) := ⟨(p).toNat, by omega⟩
    obtain rfl : p = (j : Int) := by omega
    have hjl : j < l := by omega
    obtain ⟨b, off, rfl, hbb, hc⟩ := hts (by omega)
    have ck := (al.cell (p := ⟨b, off + j, none⟩) hbb).trans (hc j hjl)
    rw [hj]
    have HC := hide (inC_yes (l := ts) (j := j) (by omega))
    have HL := hide (inL_yes (ss := ss) (l := ts) (j := j) (by omega))
    have HA := hide (atC_all h1 (j := j) (by omega))
    have n1 : ¬ ((j : Int) < 0) := by omega
    have n2 : ¬ ((l : Int) - 1 < (j : Int)) := by omega
    have j0 : (0 : Int) ≤ (j : Int) := by omega
    have j1 : (j : Int) < (l : Int) := by omega
    have hj10 : (j : Int) ≤ 10 := by omega
    have hjw : IntKind.i64.wrap (j : Int) = (j : Int) := IntWalk.i64_in _ (by omega)
    have HM0 := hide M0
    have HB0 := hide hb0
    clear M0 al hb0 hin hj
    go_enter Tryz.func92, Tryz.ntmps92
    go_wp2_with fail
    refine (lastDomain_calls P _ l c _ hl ct0).mono ?_
    rintro e w1 ⟨rfl, rfl⟩
    go_wp2_with fail
    go_region_with (first
      | (go_at_call 134; refine (labelAt_calls P M n (gt ts j) ss D _ (HB0.out.below ((Below.refl _ _).drew)) good rep).mono ?_; rintro e w2 ⟨ra, rn, rc, rfl, o2, g2⟩; have h2 := ((Below.refl (w.alloc (.cells #[.int .i64 0, .slice none 0 0] 112)).heap.size (w.alloc (.cells #[.int .i64 0, .slice none 0 0] 112))).drew).trans g2; have M2 := HM0.out.below h2; have r0 := M2.cell 0 rfl; have r1 := M2.cell 1 rfl; have f0 := M2.fz 0 rfl; have f1 := M2.fz 1 rfl; have HB2 := hide M2.bel; have HO := hide o2; rw [HA.out]; clear g2 h2 M2 o2))
    all_goals go_wp2
    all_goals refine bodyPost_ret (v := .agg #[.int .i64 0, .slice ra rn rc]) (by simp [results, Tryz.results92, go_sem, r0, r1]) rfl ⟨ra, rn, rc, by rw [HC.out], ?_, (HB2.out.setCell (Nat.le_refl _) _).setCell (Nat.le_refl _) _⟩
    all_goals rw [HL.out]
    all_goals exact (OS.loc w2 _ (fun k hk _ => by rw [Below.heap_setCell _ _ _ _ (fun e => by have := hk.1; simp at e this; omega), Below.heap_setCell _ _ _ _ (fun e => by have := hk.1; simp at e this; omega)]) HO.out).mono (fun k hk => ⟨by have := hk.1; simp at this; omega, by simpa using hk.2⟩)
  · have HC := hide (inC_no (l := ts) (i := p) (by omega))
    have HL := hide (inL_no (ss := ss) (l := ts) (i := p) (by omega))
    have HB := hide M0.bel
    by_cases h0 : p < 0
    · go_enter Tryz.func92, Tryz.ntmps92
      clear M0 al hb0 hin
      go_wp2
      refine bodyPost_ret (v := .agg #[.int .i64 4, .slice none 0 0]) (by simp [results, Tryz.results92, go_sem]) rfl ⟨_, 0, 0, by rw [HC.out], ⟨by rw [HL.out]; rfl, by omega, .inl rfl⟩, (Below.refl _ _).alloc (Nat.le_refl _) _⟩
    · have h2 : (l : Int) - 1 < p := by omega
      go_enter Tryz.func92, Tryz.ntmps92
      clear M0 al hb0 hin
      go_wp2_with fail
      refine (lastDomain_calls P _ l c _ hl ct0).mono ?_
      rintro e w1 ⟨rfl, rfl⟩
      go_wp2
      refine bodyPost_ret (v := .agg #[.int .i64 4, .slice none 0 0]) (by simp [results, Tryz.results92, go_sem]) rfl ⟨_, 0, 0, by rw [HC.out], ⟨by rw [HL.out]; rfl, by omega, .inl rfl⟩, (Below.refl _ _).alloc (Nat.le_refl _) _⟩

set_option maxRecDepth 100000 in
theorem implDomainLabel_calls (a : Option Addr) (n c : Nat) (ss : List (Int × List Int)) (ta : Option Addr) (tn tc : Nat) (ts : List Int) (da : Option Addr) (dn dc : Nat) (ds : List Int) (p : Int) (w : World) (hrt : RT w a n ss ta tn ts da dn ds) :
    Calls Tryz.prog 58 #[.agg #[.slice a n c, .slice ta tn tc, .slice da dn dc], .int .i64 p] w fun e w' => ∃ ra rn rc, e = .returned (.agg #[.int .i64 (tgC ss ts ds ds (p)), .slice ra rn rc]) ∧ OS (InR w.heap.size w'.heap.size) ra rn (tgL ss ts ds ds (p)) w' ∧ Below w.heap.size w w' := by
  have M0 := ((Mm.start w).alloc3 (.slice a n c) (.slice ta tn tc) (.slice da dn dc) 54).alloc2 (.int .i64 0) (.slice none 0 0) 112
  simp only [World.size_alloc] at M0
  by_cases hf : tabF ss ts ds = 0
  · have ef : (tabF ss ts ds != 0) = false := by simp [hf]
    have HC := hide (tgC_ok (l := ds) (i := p) hf)
    have HL := hide (tgL_ok (l := ds) (i := p) hf)
    obtain ⟨hr, hm, hA1, hA2, _⟩ := tabF_zero hf
    have hml := many_len hm
    have Hf := hide hf
    clear hf hm
    go_enter Tryz.func58, Tryz.ntmps58
    go_wp2_with fail
    refine (openTables_calls a n c ss ta tn tc ts da dn dc ds _ (hrt.below M0.bel (Nat.le_refl _))).mono ?_
    rintro e w1 ⟨sz, mo, xa, xn, xc, ya, yn, yc, rfl, g1, hled⟩
    obtain ⟨rfl, M, X1, X2, X3, rfl, l1, l2, l3, l4, l5, own, ox, oy⟩ := hled Hf.out
    have M1 := (M0.below g1).alloc4 (.int .i64 (ss.length : Int)) (.map (some M)) (.slice xa xn xc) (.slice ya yn yc) 154
    have al := (Below.refl w1.heap.size w1).alloc (Nat.le_refl _) (.cells #[.int .i64 (ss.length : Int), .map (some M), .slice xa xn xc, .slice ya yn yc] 154)
    have hbk : Bk (w1.alloc (.cells #[.int .i64 (ss.length : Int), .map (some M), .slice xa xn xc, .slice ya yn yc] 154)) w1.heap.size M (ss.length : Int) ss.length (bk ss ss.length) := ⟨by simp, by simp, by simp, fun j => by simp, ownsMap_below own al (Nat.le_refl _)⟩
    have ox1 := OS.loc.below al ox
    have oy1 := OS.loc.below al oy
    have hxn := ox.1
    have hyn := oy.1
    have ctl := M1.cell 3 rfl
    clear g1 al ox oy own hled M0
    go_wp2_with fail
    refine (domainLabel_calls w1.heap.size M _ ss _ _ _ _ ds p _ hbk (good_of hr) (rep_bk hr) ctl oy1.sl (by omega) hA2).mono ?_
    rintro e w2 ⟨ra, rn, rc, rfl, os2, g2⟩
    have M2 := M1.below g2
    have r0 := M2.cell 4 rfl
    have r1 := M2.cell 5 rfl
    have f0 := M2.fz 4 rfl
    have f1 := M2.fz 5 rfl
    have hl1 := M1.lt 4 rfl
    have hB2 := M1.bel.size
    have HB := hide M2.bel
    have HO := hide os2
    clear M1 M2 g2 os2 hbk ctl ox1 oy1
    go_wp2
    refine bodyPost_ret (v := .agg #[.int .i64 (inC ds (p)), .slice ra rn rc]) (by simp [results, Tryz.results58, go_sem, r0, r1]) rfl ⟨ra, rn, rc, by rw [HC.out], ?_, (HB.out.setCell (by simp) _).setCell (by simp) _⟩
    rw [HL.out]
    exact (OS.loc w2 _ (fun k hk _ => by rw [Below.heap_setCell _ _ _ _ (fun e => by have := hk.1; simp at e; omega), Below.heap_setCell _ _ _ _ (fun e => by have := hk.1; simp at e; omega)]) HO.out).mono (fun k hk => ⟨by have := hk.1; omega, by simpa using hk.2⟩)
  · have ef : (tabF ss ts ds != 0) = true := by simp [hf]
    have HC := hide (tgC_bad (l := ds) (i := p) hf)
    have HL := hide (tgL_bad (l := ds) (i := p) hf)
    clear hf
    go_enter Tryz.func58, Tryz.ntmps58
    go_wp2_with fail
    refine (openTables_calls a n c ss ta tn tc ts da dn dc ds _ (hrt.below M0.bel (Nat.le_refl _))).mono ?_
    rintro e w1 ⟨sz, mo, xa, xn, xc, ya, yn, yc, rfl, g1, _⟩
    have M1 := (M0.below g1).alloc4 (.int .i64 sz) (.map mo) (.slice xa xn xc) (.slice ya yn yc) 154
    have r0 := M1.cell 4 rfl
    have r1 := M1.cell 5 rfl
    have f0 := M1.fz 4 rfl
    have f1 := M1.fz 5 rfl
    have HB := hide M1.bel
    clear M0 M1 g1
    go_wp2
    refine bodyPost_ret (v := .agg #[.int .i64 (tabF ss ts ds), .slice none 0 0]) (by simp [results, Tryz.results58, go_sem, r0, r1]) rfl ⟨_, 0, 0, by rw [HC.out], ⟨by rw [HL.out]; rfl, by omega, .inl rfl⟩, (HB.out.setCell (by simp) _).setCell (by simp) _⟩

set_option maxRecDepth 100000 in
theorem l3HasDomain_calls (q : Nat) (a : Option Addr) (n c : Nat) (p : Int) (w : World) (_hn : n ≤ 10) (hc : w.cell? ⟨q, 2, none⟩ = some (.slice a n c)) :
    Calls Tryz.prog 66 #[.pointer (some ⟨q, 0, none⟩), .int .i64 p] w fun e w' => e = .returned (.bool (decide (0 ≤ p ∧ p < (n : Int)))) ∧ Below w.heap.size w w' := by
  go_enter Tryz.func66, Tryz.ntmps66
  go_wp2_with fail
  refine (in_calls _ _ _ _).mono ?_
  rintro e w1 ⟨rfl, g1⟩
  go_wp2
  go_ret
  exact ⟨ret_bool (by rw [Bool.eq_iff_iff]; simp; omega), g1⟩

set_option maxRecDepth 100000 in
theorem l3Domain_calls (q : Nat) (a : Option Addr) (n ca : Nat) (ss : List (Int × List Int)) (ta : Option Addr) (tl tc : Nat) (ts : List Int) (j : Nat) (w : World) (good : Good ss) (htl : tl ≤ 10) (hqc : w.cell? ⟨q, 0, none⟩ = some (.slice a n ca)) (hqt : w.cell? ⟨q, 2, none⟩ = some (.slice ta tl tc)) (hx : Sls w a n ss) (ht : Sl w ta tl ts) (h1 : allS ss ts = true) (hj : j < tl) :
    Calls Tryz.prog 55 #[.pointer (some ⟨q, 0, none⟩), .int .i64 ((j : Int))] w fun e w' => ∃ b o la ll lc, e = .returned (.pointer (some ⟨b, o, none⟩)) ∧ b < w.heap.size ∧ w.cell? ⟨b, o, none⟩ = some (.slice la ll lc) ∧ ll ≤ 4 ∧ Sl w la ll (atL ss (gt ts j)) ∧ Below w.heap.size w w' := by
  have hlen := hx.1
  have few := good.few
  have htlen := ht.1
  obtain ⟨b, off, rfl, hbb, hc⟩ := ht.2 (by omega)
  obtain ⟨s, hs, hsl, hsp, hsa⟩ := allS_at good h1 (j := j) (by omega)
  have ck := hc j hj
  rw [hs] at ck
  obtain ⟨b1, o1, rfl, hb1, hc1⟩ := hx.2 (by omega)
  obtain ⟨_, la, ll, lc, k1, kl, ksl⟩ := hc1 s (by omega)
  have h4 : ll ≤ 4 := by rw [← ksl.1, fault_len (good.right s hsl hsp)]; omega
  have i0 : (0 : Int) ≤ (s : Int) := by omega
  have i1 : (s : Int) < (n : Int) := by omega
  have j0 : (0 : Int) ≤ (j : Int) := by omega
  have j1 : (j : Int) < (tl : Int) := by omega
  have HK := hide k1
  have HS := hide ksl
  have HA := hide hsa
  clear k1 ksl hc1 hc hx ht hsa
  go_enter Tryz.func55, Tryz.ntmps55
  go_wp2_with fail
  go_quiet (fail)
  go_wp2
  go_ret
  exact ⟨b1, o1 + s * 2 + 1, la, ll, lc, rfl, hb1, HK.out, h4, by rw [HA.out]; exact HS.out, bdrewN (Below.refl _ _) _⟩

end Go.Proofs.YtnlkigjgloeonaaGreat
