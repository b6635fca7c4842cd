import Derived.Test.YtainblfjfmjclaiSpecReg2
import Derived.Test.YtainblfjfmjclaiMarkAt
import Derived.Test.YtainblfjfmjclaiL1Copy
import Derived.WalkKit
import Derived.ProofKit
import Derived.OpenShut
import Derived.ShutString
import Derived.ChangeOld
import Derived.Below
import Derived.WalkSpells
import Derived.Deep.QuietTactic
import Derived.BigQuiet
import Derived.Deep.RegionWith
import Derived.Deep.WholeRow
import Derived.Deep.DeepCutAuto
import Derived.Deep.RegionHeld2
import Derived.Deep.AppendLies
import Derived.Deep.RegionLaw
namespace Go.Proofs.Ytainblfjfmjclai
open Go.ChangeShapes Go.WideShapes Go.ChangeAt Go.RowKit

def laC (ss : List (Int × List Int)) (p : Int) : Int := if faultR ss = 0 then atC ss p else faultR ss

def laL (ss : List (Int × List Int)) (p : Int) : List Int := if laC ss p = 0 then gl ss p.toNat else []

theorem laC_ok {ss : List (Int × List Int)} {p : Int} (h : faultR ss = 0) : laC ss p = atC ss p := if_pos h

theorem laC_bad {ss : List (Int × List Int)} {p : Int} (h : faultR ss ≠ 0) : laC ss p = faultR ss := if_neg h

theorem laL_no {ss : List (Int × List Int)} {p : Int} (h : laC ss p ≠ 0) : laL ss p = [] := if_neg h

theorem laL_at {ss : List (Int × List Int)} {p : Int} (h : faultR ss = 0) : laL ss p = atL ss p := by
  unfold laL atL
  rw [laC_ok h]

theorem laC_zero {ss : List (Int × List Int)} {p : Int} (h : laC ss p = 0) : faultR ss = 0 ∧ ∃ q : Nat, p = (q : Int) ∧ q < ss.length ∧ 0 < gc ss q ∧ laL ss p = gl ss q ∧ fault (gl ss q) = 0 := by
  have hr : faultR ss = 0 := by
    by_cases hr : faultR ss = 0
    · exact hr
    · rw [laC_bad hr] at h
      exact absurd h hr
  refine ⟨hr, p.toNat, ?_⟩
  have g := good_of hr
  have h2 := h
  rw [laC_ok hr] at h2
  unfold atC at h2
  split at h2
  · cases h2
  · split at h2
    · cases h2
    · rename_i h3 h4
      have hp : 0 < gc ss p.toNat := by have := g.low p.toNat (by omega); omega
      exact ⟨by omega, by omega, hp, if_pos h, g.right _ (by omega) hp⟩

set_option maxRecDepth 100000 in
theorem l2Asked_calls (q : Nat) (a : Option Addr) (n ca : Nat) (ss : List (Int × List Int)) (p : Int) (w : World) (hn : n ≤ maxLen) (hq : q < w.heap.size) (hqc : w.cell? ⟨q, 0, none⟩ = some (.slice a n ca)) (hx : Sls w a n ss) :
    Calls Try.prog 41 #[.pointer (some ⟨q, 0, none⟩), .int .i64 p] w fun e w' => e = .returned (.int .i64 (laC ss p)) ∧ Below w.heap.size w w' := by
  have hlen := hx.1
  have hnm := hn
  unfold maxLen at hn
  by_cases hr : faultR ss = 0
  · have er : (faultR ss != 0) = false := by simp [hr]
    have HC := hide (laC_ok (p := p) hr)
    have few := (good_of hr).few
    clear hr
    by_cases hp : 0 ≤ p ∧ p ≤ (n : Int) - 1
    · obtain ⟨j, rfl⟩ : ∃ j : Nat, p = (j : Int) := ⟨p.toNat, by omega⟩
      have hj : j < n := by omega
      have hin : (decide ((0 : Int) ≤ (j : Int)) && decide ((j : Int) ≤ (n : Int) - 1)) = true := by simp; omega
      obtain ⟨b1, o1, rfl, hb1, hc1⟩ := hx.2 (by omega)
      have k0 := (hc1 j hj).1
      by_cases h0 : gc ss j = 0
      · have e0 : (gc ss j == 0) = true := by simp [h0]
        have HA : Hid (atC ss (j : Int) = 4) := by show _ = _; rw [atC_in (by omega), if_pos h0]
        go_enter Try.func41, Try.ntmps41
        go_wp2_with fail
        refine (l2Fault_calls q _ n ca ss _ hnm hq hqc hx).mono ?_
        rintro e w1 ⟨rfl, g1⟩
        have c1 := (g1.cell (p := ⟨q, 0, none⟩) hq).trans hqc
        go_wp2_with fail
        refine (in_calls _ _ _ _).mono ?_
        rintro e w2 ⟨rfl, g2⟩
        rw [hin]
        have hb2 := g1.trans (g2.mono g1.size)
        have c2 := (hb2.cell (p := ⟨q, 0, none⟩) hq).trans hqc
        have k2 := (hb2.cell (p := ⟨b1, o1 + j * 2, none⟩) hb1).trans k0
        clear c1 g1 g2 hx hc1 k0 hqc
        go_wp2
        go_ret
        exact ⟨ret_int (HC.out.trans HA.out).symm, hb2⟩
      · have e0 : (gc ss j == 0) = false := by simp [h0]
        have HA : Hid (atC ss (j : Int) = 0) := by show _ = _; rw [atC_in (by omega), if_neg h0]
        go_enter Try.func41, Try.ntmps41
        go_wp2_with fail
        refine (l2Fault_calls q _ n ca ss _ hnm hq hqc hx).mono ?_
        rintro e w1 ⟨rfl, g1⟩
        have c1 := (g1.cell (p := ⟨q, 0, none⟩) hq).trans hqc
        go_wp2_with fail
        refine (in_calls _ _ _ _).mono ?_
        rintro e w2 ⟨rfl, g2⟩
        rw [hin]
        have hb2 := g1.trans (g2.mono g1.size)
        have c2 := (hb2.cell (p := ⟨q, 0, none⟩) hq).trans hqc
        have k2 := (hb2.cell (p := ⟨b1, o1 + j * 2, none⟩) hb1).trans k0
        clear c1 g1 g2 hx hc1 k0 hqc
        go_wp2
        go_ret
        exact ⟨ret_int (HC.out.trans HA.out).symm, hb2⟩
    · have hin : (decide ((0 : Int) ≤ p) && decide (p ≤ (n : Int) - 1)) = false := by simp; omega
      have HA := hide (atC_range (ss := ss) (p := p) (by omega))
      clear hp
      go_enter Try.func41, Try.ntmps41
      go_wp2_with fail
      refine (l2Fault_calls q _ n ca ss _ hnm hq hqc hx).mono ?_
      rintro e w1 ⟨rfl, g1⟩
      have c1 := (g1.cell (p := ⟨q, 0, none⟩) hq).trans hqc
      go_wp2_with fail
      refine (in_calls _ _ _ _).mono ?_
      rintro e w2 ⟨rfl, g2⟩
      rw [hin]
      have hb2 := g1.trans (g2.mono g1.size)
      clear c1 g1 g2 hx hqc
      go_wp2
      go_ret
      exact ⟨ret_int (HC.out.trans HA.out).symm, hb2⟩
  · have er : (faultR ss != 0) = true := by simp [hr]
    have HC := hide (laC_bad (p := p) hr)
    clear hr
    go_enter Try.func41, Try.ntmps41
    go_wp2_with fail
    refine (l2Fault_calls q _ n ca ss _ hnm hq hqc hx).mono ?_
    rintro e w1 ⟨rfl, g1⟩
    go_wp2
    go_ret
    exact ⟨ret_int HC.out.symm, g1⟩

set_option maxRecDepth 100000 in
theorem specLabelAt_calls (a : Option Addr) (n ca : Nat) (ss : List (Int × List Int)) (p : Int) (w : World) (hn : n ≤ maxLen) (hx : Sls w a n ss) :
    Calls Try.prog 10 #[.agg #[.slice a n ca], .int .i64 p] w fun e w' => ∃ ra rn rc, e = .returned (.agg #[.int .i64 (laC ss p), .slice ra rn rc]) ∧ OS (InR w.heap.size w'.heap.size) ra rn (laL ss p) w' ∧ Below w.heap.size w w' := by
  have M0 := ((Mm.start w).alloc1 (.slice a n ca) 34).alloc2 (.int .i64 0) (.slice none 0 0) 30
  simp only [World.size_alloc] at M0
  have hx0 := hx.below M0.bel (Nat.le_refl _)
  have hlen := hx.1
  have hnm := hn
  unfold maxLen at hn
  by_cases hc : laC ss p = 0
  · have ec : (laC ss p != 0) = false := by simp [hc]
    have Hc := hide hc
    obtain ⟨hr, j, rfl, hj, hp, hl, hf⟩ := laC_zero hc
    have h4 := fault_len hf
    have HL := hide hl
    have few := (good_of hr).few
    clear hc hl hr hf
    go_enter Try.func10, Try.ntmps10
    go_wp2_with fail
    refine (l2Asked_calls _ a n ca ss _ _ hnm (M0.lt 2 rfl) (M0.cell 2 rfl) hx0).mono ?_
    rintro e w1 ⟨rfl, g1⟩
    have M1 := M0.below g1
    have hx1 := hx0.below g1 (Nat.le_refl _)
    obtain ⟨b1, o1, rfl, hb1, hc1⟩ := hx1.2 (by omega)
    obtain ⟨_, la, ll, lc, k1, _, ksl⟩ := hc1 j (by omega)
    have hll : (gl ss j).length = ll := ksl.1
    have c1 := M1.cell 2 rfl
    clear g1 hx0 hx1 hc1 M0
    go_wp2_with fail
    refine (l1Copy_O la ll lc (gl ss j) _ (by omega) ksl).mono ?_
    rintro e w2 ⟨ra, rc, rfl, os2, g2⟩
    have M2 := M1.below g2
    have r0 := M2.cell 0 rfl
    have r1 := M2.cell 1 rfl
    have f0 := M2.fz 0 rfl
    have f1 := M2.fz 1 rfl
    have hl1 := M1.lt 0 rfl
    have HB := hide M2.bel
    have HO := hide os2
    have hB2 := M1.bel.size
    clear M1 M2 g2 os2 c1 ksl k1
    go_wp2
    refine bodyPost_ret (v := .agg #[.int .i64 0, .slice ra ll rc]) (by simp [results, Try.results10, go_sem, r0, r1]) rfl ⟨ra, ll, rc, by rw [Hc.out], ?_, (HB.out.setCell (by simp) _).setCell (by simp) _⟩
    rw [HL.out]
    exact (OS.loc w2 _ (fun k hk _ => by rw [Below.heap_setCell _ _ _ _ (fun e => by have := hk.1; simp at e; omega), Below.heap_setCell _ _ _ _ (fun e => by have := hk.1; simp at e; omega)]) HO.out).mono (fun k hk => ⟨by have := hk.1; omega, by simpa using hk.2⟩)
  · have ec : (laC ss p != 0) = true := by simp [hc]
    have HL := hide (laL_no hc)
    clear hc
    go_enter Try.func10, Try.ntmps10
    go_wp2_with fail
    refine (l2Asked_calls _ a n ca ss _ _ hnm (M0.lt 2 rfl) (M0.cell 2 rfl) hx0).mono ?_
    rintro e w1 ⟨rfl, g1⟩
    have M1 := M0.below g1
    have r0 := M1.cell 0 rfl
    have r1 := M1.cell 1 rfl
    have f0 := M1.fz 0 rfl
    have f1 := M1.fz 1 rfl
    have HB := hide M1.bel
    clear M0 M1 g1 hx0
    go_wp2
    refine bodyPost_ret (v := .agg #[.int .i64 (laC ss p), .slice none 0 0]) (by simp [results, Try.results10, go_sem, r0, r1]) rfl ⟨_, 0, 0, rfl, ⟨by rw [HL.out]; rfl, by omega, .inl rfl⟩, (HB.out.setCell (by simp) _).setCell (by simp) _⟩

end Go.Proofs.Ytainblfjfmjclai
