import Derived.Test.YtboeceabnlhnoaaEnter
import Derived.Test.YtboeceabnlhnoaaOpen
import Derived.Test.YtboeceabnlhnoaaL2Leave
import Derived.WalkKit
import Derived.ProofKit
import Derived.OpenShut
import Derived.ShutString
import Derived.ChangeOld
import Derived.Below
import Derived.WalkSpells
import Derived.Deep.QuietTactic
import Derived.BigQuiet
import Derived.Deep.RegionWith
import Derived.Deep.WholeRow
import Derived.Deep.DeepCutAuto
import Derived.Deep.RegionHeld2
import Derived.Deep.AppendLies
import Derived.Deep.RegionLaw
namespace Go.Proofs.Ytboeceabnlhnoaa
open Go.ChangeShapes Go.WideShapes Go.ChangeAt Go.RowKit

set_option maxRecDepth 100000 in
theorem openRegistryFor_calls (a b : Option Addr) (n ca lb cb : Nat) (ss : List (Int × List Int)) (zs : List Int) (w : World) (hn : n ≤ maxLen) (hlb : lb ≤ maxLen) (hx : Sls w a n ss) (hy : Sl w b lb zs) :
    Calls Try.prog 19 #[.agg #[.slice a n ca], .agg #[.slice b lb cb]] w fun e w' => ∃ sz mo, e = .returned (.tuple #[.agg #[.int .i64 sz, .map mo], .int .i64 (codeFor ss zs)]) ∧ Below w.heap.size w w' ∧
      (faultR ss = 0 → sz = (n : Int) ∧ ∃ M, mo = some M ∧ w.heap.size ≤ M ∧ w'.ownsMap Try.prog 57 Rst M n (bk ss n)) := by
  have M0 := (((Mem.start w).alloc1 (.slice a n ca) 26).alloc1 (.slice b lb cb) 29).alloc2 (.int .i64 0) (.map none) 49
  simp only [World.size_alloc] at M0
  have hx0 := hx.below M0.bel (Nat.le_refl _)
  have hy0 := hy.below M0.bel (Nat.le_refl _)
  by_cases hr : faultR ss = 0
  · have er : (faultR ss == 0) = true := by simp [hr]
    have HC : Hid (codeFor ss zs = fault zs) := if_pos hr
    have Hr := hide hr
    clear hr
    go_enter Try.func19, Try.ntmps19
    go_wp2_with fail
    refine (openRegistry_calls a n ca ss _ hn hx0).mono ?_
    rintro e w1 ⟨sz, mo, rfl, g1, hown⟩
    obtain ⟨rfl, M, rfl, hM, hown⟩ := hown Hr.out
    have M1 := (M0.below g1).alloc2 (.int .i64 (n : Int)) (.map (some M)) 49
    have f0 : (w1.alloc (.cells #[.int .i64 (n : Int), .map (some M)] 49)).frozen? ⟨w.heap.size + 1 + 1, 0, none⟩ = false := (World.frozen?_alloc_old _ _ _ (by have := (M0.below g1).lt 0 rfl; simp; omega)).trans ((g1.frozen (p := ⟨w.heap.size + 1 + 1, 0, none⟩) (by simp)).trans (by go_simp))
    have f1 : (w1.alloc (.cells #[.int .i64 (n : Int), .map (some M)] 49)).frozen? ⟨w.heap.size + 1 + 1, 1, none⟩ = false := (World.frozen?_alloc_old _ _ _ (by have := (M0.below g1).lt 0 rfl; simp; omega)).trans ((g1.frozen (p := ⟨w.heap.size + 1 + 1, 1, none⟩) (by simp)).trans (by go_simp))
    have hown1 := hown.alloc (.cells #[.int .i64 (n : Int), .map (some M)] 49)
    have hy1 := (hy0.below g1 (Nat.le_refl _)).below ((Below.refl w1.heap.size w1).alloc (Nat.le_refl _) (.cells #[.int .i64 (n : Int), .map (some M)] 49)) (Nat.le_refl _)
    have l0 := M1.cell 4 rfl
    simp only [World.size_alloc] at hM
    clear g1 hown hx0 hy0
    go_wp2_with fail
    refine (implLabelFault_calls b lb cb zs _ hlb hy1).mono ?_
    rintro e w2 ⟨rfl, g2⟩
    have M2 := M1.below g2
    have o0 := M2.cell 0 rfl
    have o1 := M2.cell 1 rfl
    have r0 := M2.cell 2 rfl
    have r1 := M2.cell 3 rfl
    have f20 := (g2.frozen (p := ⟨w.heap.size + 1 + 1, 0, none⟩) (M1.lt 2 rfl)).trans f0
    have f21 := (g2.frozen (p := ⟨w.heap.size + 1 + 1, 1, none⟩) (M1.lt 2 rfl)).trans f1
    have Hown := hide (ownsMap_below hown1 g2 (Nat.le_refl _))
    have HE := hide M2.bel
    clear g2 M0 M1 M2 f0 f1 hy1 hown1 l0
    go_wp2
    refine bodyPost_ret (v := .tuple #[.agg #[.int .i64 (n : Int), .map (some M)], .int .i64 (fault zs)]) (by simp [results, Try.results19, go_sem, r0, r1]) rfl ⟨(n : Int), some M, by rw [HC.out], ?_, fun _ => ⟨rfl, M, rfl, by omega, ?_⟩⟩
    · exact (HE.out.setCell (by simp; omega) _).setCell (by simp; omega) _
    · exact (Hown.out.setCell (by show M ≠ w.heap.size + 1 + 1; omega) _).setCell (by show M ≠ w.heap.size + 1 + 1; omega) _
  · have er : (faultR ss == 0) = false := by simp [hr]
    have HC : Hid (codeFor ss zs = faultR ss) := if_neg hr
    have Hr := hide hr
    clear hr
    go_enter Try.func19, Try.ntmps19
    go_wp2_with fail
    refine (openRegistry_calls a n ca ss _ hn hx0).mono ?_
    rintro e w1 ⟨sz, mo, rfl, g1, _⟩
    have M1 := (M0.below g1).alloc2 (.int .i64 sz) (.map mo) 49
    have f0 : (w1.alloc (.cells #[.int .i64 sz, .map mo] 49)).frozen? ⟨w.heap.size + 1 + 1, 0, none⟩ = false := (World.frozen?_alloc_old _ _ _ (by have := (M0.below g1).lt 0 rfl; simp; omega)).trans ((g1.frozen (p := ⟨w.heap.size + 1 + 1, 0, none⟩) (by simp)).trans (by go_simp))
    have f1 : (w1.alloc (.cells #[.int .i64 sz, .map mo] 49)).frozen? ⟨w.heap.size + 1 + 1, 1, none⟩ = false := (World.frozen?_alloc_old _ _ _ (by have := (M0.below g1).lt 0 rfl; simp; omega)).trans ((g1.frozen (p := ⟨w.heap.size + 1 + 1, 1, none⟩) (by simp)).trans (by go_simp))
    have o0 := M1.cell 0 rfl
    have o1 := M1.cell 1 rfl
    have r0 := M1.cell 2 rfl
    have r1 := M1.cell 3 rfl
    have HE := hide M1.bel
    clear g1 M0 M1 hx0 hy0
    go_wp2
    refine bodyPost_ret (v := .tuple #[.agg #[.int .i64 sz, .map mo], .int .i64 (faultR ss)]) (by simp [results, Try.results19, go_sem, r0, r1]) rfl ⟨sz, mo, by rw [HC.out], ?_, fun h => absurd h Hr.out⟩
    exact (HE.out.setCell (by simp; omega) _).setCell (by simp; omega) _

def elC (ss : List (Int × List Int)) (zs : List Int) : Int := if codeFor ss zs = 0 then etC ss zs else codeFor ss zs

def elV (ss : List (Int × List Int)) (zs : List Int) : Int := if elC ss zs = 0 then (enQ ss zs : Int) else 0

def elL (ss : List (Int × List Int)) (zs : List Int) : List (Int × List Int) := if elC ss zs = 0 then enS ss zs else []

set_option maxRecDepth 100000 in
set_option maxHeartbeats 1000000 in
theorem implEnterLabel_calls (a : Option Addr) (n ca : Nat) (ss : List (Int × List Int)) (b : Option Addr) (lb cb : Nat) (zs : List Int) (w : World) (hn : n ≤ maxLen) (hx : Sls w a n ss) (hlb : lb ≤ maxLen) (hy : Sl w b lb zs) :
    Calls Try.prog 6 #[.agg #[.slice a n ca], .agg #[.slice b lb cb]] w fun e w' => ∃ ra rn rc, e = .returned (.agg #[.int .i64 (elC ss zs), .int .i64 (elV ss zs), .slice ra rn rc]) ∧ OR (InR w.heap.size w'.heap.size) ra rn (elL ss zs) w' ∧ Below w.heap.size w w' := by
  have M0 := (((Mm.start w).alloc1 (.slice a n ca) 26).alloc1 (.slice b lb cb) 29).alloc3 (.int .i64 0) (.int .i64 0) (.slice none 0 0) 33
  simp only [World.size_alloc] at M0
  have hx0 := hx.below M0.bel (Nat.le_refl _)
  have hy0 := hy.below M0.bel (Nat.le_refl _)
  have hlen := hx.1
  by_cases hc : codeFor ss zs = 0
  · obtain ⟨hr, hz⟩ := codeFor_zero hc
    have ec : (codeFor ss zs != 0) = false := by simp [hc]
    have few := (good_of hr).few
    obtain rfl : lb = 4 := by have := fault_len hz; have := hy.1; omega
    have HE : Hid (elC ss zs = etC ss zs) := if_pos hc
    have Hc := hide hc
    have Hr := hide hr
    have Hz := hide hz
    clear hc hr hz
    go_enter Try.func6, Try.ntmps6
    go_wp2_with fail
    refine (openRegistryFor_calls a b n ca 4 cb ss zs _ hn hlb hx0 hy0).mono ?_
    rintro e w1 ⟨sz, mo, rfl, g1, hown⟩
    obtain ⟨rfl, M, rfl, hM, hown⟩ := hown Hr.out
    have hz1 := g1.size
    simp only [World.size_alloc] at hz1 hM
    have hM1 := hown.lt
    have M1 := (M0.below g1).alloc2 (.int .i64 (n : Int)) (.map (some M)) 49
    have hbk : Bk (w1.alloc (.cells #[.int .i64 (n : Int), .map (some M)] 49)) w1.heap.size M (ss.length : Int) n (bk ss ss.length) := by
      rw [hlen]
      exact ⟨by simp, by simp, by simp, fun j => by simp, hown.alloc _⟩
    have hy1 := (hy0.below g1 (Nat.le_refl _)).below ((Below.refl w1.heap.size w1).alloc (Nat.le_refl _) (.cells #[.int .i64 (n : Int), .map (some M)] 49)) (Nat.le_refl _)
    have l0 := M1.cell 5 rfl
    rw [Hc.out]
    clear g1 hown hx0 hy0 M0
    go_wp2_with fail
    refine (markOf_calls b cb zs _ hy1).mono ?_
    rintro e w2 ⟨rfl, g2⟩
    have M2 := M1.below g2
    have hbk2 := hbk.below g2
    have hz2 := g2.size
    simp only [World.size_alloc] at hz2
    clear g2 M1 hbk hy1 l0
    go_wp2_with fail
    refine (enter_calls _ M n ss zs _ _ hbk2 (by omega) (good_of Hr.out) (rep_bk Hr.out) Hz.out).mono ?_
    rintro e w3 ⟨rfl, u3, hfin⟩
    have M3 : Mm w w3 [(w.heap.size + 1 + 1, 0, .int .i64 0), (w.heap.size + 1 + 1, 1, .int .i64 0), (w.heap.size + 1 + 1, 2, .slice none 0 0)] [] := (M2.sub (by simp) (by simp)).out (B := M) (T := w1.heap.size + 1) (u3.mono (fun k hk => ⟨by omega, by omega⟩)) (by omega) (by simp <;> omega) (by simp)
    have hz3 := u3.size
    have hzw : w.heap.size + 1 + 1 < w3.heap.size := by omega
    clear u3 M2 hbk2
    by_cases ht : etC ss zs = 0
    · have et : (etC ss zs != 0) = false := by simp [ht]
      obtain ⟨D2, hb3, hrep⟩ := hfin ht
      have Ht := hide ht
      have HEV : Hid (etV ss zs = (enQ ss zs : Int)) := if_pos ht
      have HV : Hid (elV ss zs = (enQ ss zs : Int)) := if_pos (HE.out.trans ht)
      have HL : Hid (elL ss zs = enS ss zs) := if_pos (HE.out.trans ht)
      rw [HEV.out, ht]
      clear hfin ht hz1 hz2 hz3
      go_wp2_with fail
      refine (registry_calls _ M _ (enS ss zs) D2 _ hb3 (good_enter (good_of Hr.out) Hz.out Ht.out) hrep).mono ?_
      rintro e w4 ⟨rb, rfl, o4, g4⟩
      have M4 := M3.below g4
      have r0 := M4.cell 0 rfl
      have r1 := M4.cell 1 rfl
      have r2 := M4.cell 2 rfl
      have f0 := M4.fz 0 rfl
      have f1 := M4.fz 1 rfl
      have f2 := M4.fz 2 rfl
      have HB := hide M4.bel

      have HO := hide o4
      have HZ := hide hzw
      clear M3 M4 g4 o4 hb3 hrep hzw
      go_wp2
      refine bodyPost_ret (v := .agg #[.int .i64 0, .int .i64 (enQ ss zs : Int), .slice (some ⟨rb, 0, none⟩) (enS ss zs).length (enS ss zs).length]) (by simp [results, Try.results6, go_sem, r0, r1, r2]) rfl ⟨_, _, _, by rw [HE.out, Ht.out, HV.out], ?_, ((HB.out.setCell (by simp; omega) _).setCell (by simp; omega) _).setCell (by simp; omega) _⟩
      rw [HL.out]
      exact (OR.set3 HO.out (fun e => by have := e.1; have := HZ.out; omega) _ _ _).mono (fun k hk => ⟨by have := hk.1; have := HZ.out; omega, by have := hk.2; simp; omega⟩)
    · have et : (etC ss zs != 0) = true := by simp [ht]
      have HN : Hid (elC ss zs ≠ 0) := by show _ ≠ _; rw [HE.out]; exact ht
      have HV : Hid (elV ss zs = 0) := if_neg HN.out
      have HL : Hid (elL ss zs = []) := if_neg HN.out
      have HC : Hid (elC ss zs = etC ss zs) := HE
      have r0 := M3.cell 0 rfl
      have r1 := M3.cell 1 rfl
      have r2 := M3.cell 2 rfl
      have f0 := M3.fz 0 rfl
      have f1 := M3.fz 1 rfl
      have f2 := M3.fz 2 rfl
      have HB := hide M3.bel

      clear M3 hfin ht hz1 hz2 hz3 hzw
      go_wp2
      refine bodyPost_ret (v := .agg #[.int .i64 (etC ss zs), .int .i64 0, .slice none 0 0]) (by simp [results, Try.results6, go_sem, r0, r1, r2]) rfl ⟨none, 0, 0, by rw [HC.out, HV.out], ?_, ((HB.out.setCell (by simp; omega) _).setCell (by simp; omega) _).setCell (by simp; omega) _⟩
      rw [HL.out]
      exact OR.nil _ _ _
  · have ec : (codeFor ss zs != 0) = true := by simp [hc]
    have HC : Hid (elC ss zs = codeFor ss zs) := if_neg hc
    have HN : Hid (elC ss zs ≠ 0) := by show _ ≠ _; rw [HC.out]; exact hc
    have HV : Hid (elV ss zs = 0) := if_neg HN.out
    have HL : Hid (elL ss zs = []) := if_neg HN.out
    clear hc
    go_enter Try.func6, Try.ntmps6
    go_wp2_with fail
    refine (openRegistryFor_calls a b n ca lb cb ss zs _ hn hlb hx0 hy0).mono ?_
    rintro e w1 ⟨sz, mo, rfl, g1, _⟩
    have M1 := (M0.below g1).alloc2 (.int .i64 sz) (.map mo) 49
    have r0 := M1.cell 2 rfl
    have r1 := M1.cell 3 rfl
    have r2 := M1.cell 4 rfl
    have f0 := M1.fz 2 rfl
    have f1 := M1.fz 3 rfl
    have f2 := M1.fz 4 rfl
    have HB := hide M1.bel

    clear M0 M1 g1 hx0 hy0
    go_wp2
    refine bodyPost_ret (v := .agg #[.int .i64 (codeFor ss zs), .int .i64 0, .slice none 0 0]) (by simp [results, Try.results6, go_sem, r0, r1, r2]) rfl ⟨none, 0, 0, by rw [HC.out, HV.out], ?_, ((HB.out.setCell (by simp; omega) _).setCell (by simp; omega) _).setCell (by simp; omega) _⟩
    rw [HL.out]
    exact OR.nil _ _ _

end Go.Proofs.Ytboeceabnlhnoaa
