import Derived.Test.YtoignmalopmlaaaTgP
import Derived.Test.YtoignmalopmlaaaL1Copy
import Derived.WalkKit
import Derived.ProofKit
import Derived.OpenShut
import Derived.ShutString
import Derived.ChangeOld
import Derived.Below
import Derived.WalkSpells
import Derived.Deep.QuietTactic
import Derived.BigQuiet
import Derived.Deep.RegionWith
import Derived.Deep.WholeRow
import Derived.Deep.DeepCutAuto
import Derived.Deep.RegionHeld2
import Derived.Deep.AppendLies
import Derived.Deep.RegionLaw
namespace Go.Proofs.Ytoignmalopmlaaa
open Go.ChangeShapes Go.WideShapes Go.ChangeAt Go.RowKit

set_option maxRecDepth 100000 in
theorem lastDomain_calls (P : Nat) (a : Option Addr) (n c : Nat) (w : World) (_hn : n ≤ 10) (hc : w.cell? ⟨P, 3, none⟩ = some (.slice a n c)) :
    Calls Try.prog 57 #[.pointer (some ⟨P, 0, none⟩)] w fun e w' => e = .returned (.int .i64 ((n : Int) - 1)) ∧ w' = w := by
  go_enter Try.func57, Try.ntmps57
  go_wp2
  go_ret
  exact ⟨rfl, rfl⟩

set_option maxRecDepth 100000 in
set_option maxHeartbeats 1000000 in
theorem domainLabel_calls (P M n : Nat) (ss : List (Int × List Int)) (D : DataW Unit) (a : Option Addr) (l c : Nat) (ts : List Int) (p : Int) (w : World) (hb : Bk w P M (ss.length : Int) n D) (good : Good ss) (rep : Rep ss D) (ct : w.cell? ⟨P, 3, none⟩ = some (.slice a l c)) (hts : Sl w a l ts) (hl : l ≤ 10) (h1 : allS ss ts = true) :
    Calls Try.prog 61 #[.pointer (some ⟨P, 0, none⟩), .int .i64 p] w fun e w' => ∃ ra rn rc, e = .returned (.agg #[.int .i64 (inC ts (p)), .slice ra rn rc]) ∧ OS (InR w.heap.size w'.heap.size) ra rn (inL ss ts (p)) w' ∧ Below w.heap.size w w' := by
  have hP := hb.lt
  obtain ⟨hlen, hts⟩ := hts
  have M0 := (Mm.start w).alloc2 (.int .i64 0) (.slice none 0 0) 101
  have al := (Below.refl w.heap.size w).alloc (Nat.le_refl _) (.cells #[.int .i64 0, .slice none 0 0] 101)
  have ct0 := (al.cell (p := ⟨P, 3, none⟩) hP).trans ct
  have hb0 := hb.below al
  by_cases hin : 0 ≤ p ∧ p < (l : Int)
  · obtain ⟨j, hj⟩ : ∃ j : Nat, p = (j : Int) := ⟨(p).toNat, by omega⟩
    obtain rfl : p = (j : Int) := by omega
    have hjl : j < l := by omega
    obtain ⟨b, off, rfl, hbb, hc⟩ := hts (by omega)
    have ck := (al.cell (p := ⟨b, off + j, none⟩) hbb).trans (hc j hjl)
    rw [hj]
    have HC := hide (inC_yes (l := ts) (j := j) (by omega))
    have HL := hide (inL_yes (ss := ss) (l := ts) (j := j) (by omega))
    have HA := hide (atC_all h1 (j := j) (by omega))
    have n1 : ¬ ((j : Int) < 0) := by omega
    have n2 : ¬ ((l : Int) - 1 < (j : Int)) := by omega
    have j0 : (0 : Int) ≤ (j : Int) := by omega
    have j1 : (j : Int) < (l : Int) := by omega
    have hj10 : (j : Int) ≤ 10 := by omega
    have hjw : IntKind.i64.wrap (j : Int) = (j : Int) := IntWalk.i64_in _ (by omega)
    have HM0 := hide M0
    have HB0 := hide hb0
    clear M0 al hb0 hin hj
    go_enter Try.func61, Try.ntmps61
    go_wp2_with fail
    refine (lastDomain_calls P _ l c _ hl ct0).mono ?_
    rintro e w1 ⟨rfl, rfl⟩
    go_wp2_with fail
    go_region_with (first
      | (go_at_call 99; refine (labelAt_calls P M n (gt ts j) ss D _ (HB0.out.below ((Below.refl _ _).drew)) good rep).mono ?_; rintro e w2 ⟨ra, rn, rc, rfl, o2, g2⟩; have h2 := ((Below.refl (w.alloc (.cells #[.int .i64 0, .slice none 0 0] 101)).heap.size (w.alloc (.cells #[.int .i64 0, .slice none 0 0] 101))).drew).trans g2; have M2 := HM0.out.below h2; have r0 := M2.cell 0 rfl; have r1 := M2.cell 1 rfl; have f0 := M2.fz 0 rfl; have f1 := M2.fz 1 rfl; have HB2 := hide M2.bel; have HO := hide o2; rw [HA.out]; clear g2 h2 M2 o2))
    all_goals go_wp2
    all_goals refine bodyPost_ret (v := .agg #[.int .i64 0, .slice ra rn rc]) (by simp [results, Try.results61, go_sem, r0, r1]) rfl ⟨ra, rn, rc, by rw [HC.out], ?_, (HB2.out.setCell (Nat.le_refl _) _).setCell (Nat.le_refl _) _⟩
    all_goals rw [HL.out]
    all_goals exact (OS.loc w2 _ (fun k hk _ => by rw [Below.heap_setCell _ _ _ _ (fun e => by have := hk.1; simp at e this; omega), Below.heap_setCell _ _ _ _ (fun e => by have := hk.1; simp at e this; omega)]) HO.out).mono (fun k hk => ⟨by have := hk.1; simp at this; omega, by simpa using hk.2⟩)
  · have HC := hide (inC_no (l := ts) (i := p) (by omega))
    have HL := hide (inL_no (ss := ss) (l := ts) (i := p) (by omega))
    have HB := hide M0.bel
    by_cases h0 : p < 0
    · go_enter Try.func61, Try.ntmps61
      clear M0 al hb0 hin
      go_wp2
      refine bodyPost_ret (v := .agg #[.int .i64 4, .slice none 0 0]) (by simp [results, Try.results61, go_sem]) rfl ⟨_, 0, 0, by rw [HC.out], ⟨by rw [HL.out]; rfl, by omega, .inl rfl⟩, (Below.refl _ _).alloc (Nat.le_refl _) _⟩
    · have h2 : (l : Int) - 1 < p := by omega
      go_enter Try.func61, Try.ntmps61
      clear M0 al hb0 hin
      go_wp2_with fail
      refine (lastDomain_calls P _ l c _ hl ct0).mono ?_
      rintro e w1 ⟨rfl, rfl⟩
      go_wp2
      refine bodyPost_ret (v := .agg #[.int .i64 4, .slice none 0 0]) (by simp [results, Try.results61, go_sem]) rfl ⟨_, 0, 0, by rw [HC.out], ⟨by rw [HL.out]; rfl, by omega, .inl rfl⟩, (Below.refl _ _).alloc (Nat.le_refl _) _⟩

set_option maxRecDepth 100000 in
theorem l3HasDomain_calls (q : Nat) (a : Option Addr) (n c : Nat) (p : Int) (w : World) (_hn : n ≤ 10) (hc : w.cell? ⟨q, 2, none⟩ = some (.slice a n c)) :
    Calls Try.prog 58 #[.pointer (some ⟨q, 0, none⟩), .int .i64 p] w fun e w' => e = .returned (.bool (decide (0 ≤ p ∧ p < (n : Int)))) ∧ Below w.heap.size w w' := by
  go_enter Try.func58, Try.ntmps58
  go_wp2_with fail
  refine (in_calls _ _ _ _).mono ?_
  rintro e w1 ⟨rfl, g1⟩
  go_wp2
  go_ret
  exact ⟨ret_bool (by rw [Bool.eq_iff_iff]; simp; omega), g1⟩

set_option maxRecDepth 100000 in
theorem l3Domain_calls (q : Nat) (a : Option Addr) (n ca : Nat) (ss : List (Int × List Int)) (ta : Option Addr) (tl tc : Nat) (ts : List Int) (j : Nat) (w : World) (good : Good ss) (htl : tl ≤ 10) (hqc : w.cell? ⟨q, 0, none⟩ = some (.slice a n ca)) (hqt : w.cell? ⟨q, 2, none⟩ = some (.slice ta tl tc)) (hx : Sls w a n ss) (ht : Sl w ta tl ts) (h1 : allS ss ts = true) (hj : j < tl) :
    Calls Try.prog 98 #[.pointer (some ⟨q, 0, none⟩), .int .i64 ((j : Int))] w fun e w' => ∃ b o la ll lc, e = .returned (.pointer (some ⟨b, o, none⟩)) ∧ b < w.heap.size ∧ w.cell? ⟨b, o, none⟩ = some (.slice la ll lc) ∧ ll ≤ 4 ∧ Sl w la ll (atL ss (gt ts j)) ∧ Below w.heap.size w w' := by
  have hlen := hx.1
  have few := good.few
  have htlen := ht.1
  obtain ⟨b, off, rfl, hbb, hc⟩ := ht.2 (by omega)
  obtain ⟨s, hs, hsl, hsp, hsa⟩ := allS_at good h1 (j := j) (by omega)
  have ck := hc j hj
  rw [hs] at ck
  obtain ⟨b1, o1, rfl, hb1, hc1⟩ := hx.2 (by omega)
  obtain ⟨_, la, ll, lc, k1, kl, ksl⟩ := hc1 s (by omega)
  have h4 : ll ≤ 4 := by rw [← ksl.1, fault_len (good.right s hsl hsp)]; omega
  have i0 : (0 : Int) ≤ (s : Int) := by omega
  have i1 : (s : Int) < (n : Int) := by omega
  have j0 : (0 : Int) ≤ (j : Int) := by omega
  have j1 : (j : Int) < (tl : Int) := by omega
  have HK := hide k1
  have HS := hide ksl
  have HA := hide hsa
  clear k1 ksl hc1 hc hx ht hsa
  go_enter Try.func98, Try.ntmps98
  go_wp2_with fail
  go_quiet (fail)
  go_wp2
  go_ret
  exact ⟨b1, o1 + s * 2 + 1, la, ll, lc, rfl, hb1, HK.out, h4, by rw [HA.out]; exact HS.out, bdrewN (Below.refl _ _) _⟩

end Go.Proofs.Ytoignmalopmlaaa
