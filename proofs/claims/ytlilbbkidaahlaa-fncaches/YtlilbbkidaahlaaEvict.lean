import Derived.Test.YtlilbbkidaahlaaDeleteL
import Derived.Test.YtlilbbkidaahlaaL4Flush
import Derived.Test.YtlilbbkidaahlaaChP
import Derived.WalkKit
import Derived.ProofKit
import Derived.OpenShut
import Derived.ShutString
import Derived.ChangeOld
import Derived.Below
import Derived.WalkSpells
import Derived.Deep.QuietTactic
import Derived.BigQuiet
import Derived.Deep.RegionWith
import Derived.Deep.WholeRow
import Derived.Deep.DeepCutAuto
import Derived.Deep.RegionHeld2
import Derived.Deep.AppendLies
import Derived.Deep.RegionLaw
namespace Go.Proofs.Ytlilbbkidaahlaa
open Go.ChangeShapes Go.WideShapes Go.ChangeAt Go.RowKit

/-- the line at the place that their number leaves of p is gone. -/
def evL (ls : List (Int × Int × Int)) (p : Int) : List (Int × Int × Int) := if ls.length = 0 then ls else ls.eraseIdx (p % (ls.length : Int)).toNat

def evC (s : Int) (ls : List (Int × Int × Int)) (p : Int) : Int := if faultC s ls = 0 then (if p < 0 then 3 else 0) else faultC s ls

theorem evL_nil {ls : List (Int × Int × Int)} {p : Int} (h : ls.length = 0) : evL ls p = ls := if_pos h

theorem evL_at {ls : List (Int × Int × Int)} {p : Int} {i : Nat} (h : 0 < ls.length) (hi : p % (ls.length : Int) = (i : Int)) : evL ls p = ls.eraseIdx i := by
  unfold evL
  rw [if_neg (by omega), hi]
  rfl

theorem length_evL (ls : List (Int × Int × Int)) (p : Int) : (evL ls p).length ≤ ls.length := by
  unfold evL
  split
  · exact Nat.le_refl _
  · exact List.length_eraseIdx_le _ _

theorem rem_nat (p : Int) (n : Nat) (h : 0 < n) : ∃ i : Nat, p % (n : Int) = (i : Int) ∧ i < n := by
  have h1 := Int.emod_nonneg p (b := (n : Int)) (by omega)
  have h2 := Int.emod_lt_of_pos p (b := (n : Int)) (by omega)
  exact ⟨(p % (n : Int)).toNat, by omega, by omega⟩

set_option maxRecDepth 100000 in
set_option maxHeartbeats 1000000 in
theorem evicted_calls (a : Option Addr) (n c : Nat) (ls : List (Int × Int × Int)) (p : Int) (w : World) (hn : n ≤ 1048576) (hp : 0 ≤ p) (hs : Sln w a n ls) :
    Calls Try.prog 23 #[.slice a n c, .int .i64 p] w fun e w' => ∃ v, e = .returned v ∧ w'.ownsRow w.heap.size 28 3 v (evL ls p).length (vs3 (evL ls p)) ∧ Below w.heap.size w w' := by
  have hlen := hs.1
  by_cases h0 : 0 < n
  · obtain ⟨i, hpi, hin⟩ := rem_nat p n h0
    have HE := hide (evL_at (ls := ls) (by omega) (by rw [hlen]; exact hpi))
    have hll : (ls.eraseIdx i).length = n - 1 := by rw [List.length_eraseIdx_of_lt (by omega), hlen]
    have HLL := hide hll
    have hnz : ((n : Int) == 0) = false := by simp; omega
    clear hll
    go_enter Try.func23, Try.ntmps23
    go_wp2_with fail
    refine (cloneL_calls a n c ls _ hn hs).mono ?_
    rintro e w1 ⟨v, rfl, ho, g1⟩
    obtain ⟨g, cap, rfl, hB, hlt⟩ := ho.form h0
    have HO := hide ho
    have HG := hide g1
    clear ho g1 hs
    go_wp2_with fail
    refine (deleteL_calls w.heap.size g n cap i ls _ hn hin hlen HO.out).mono ?_
    rintro e w2 ⟨rfl, ho2, g2⟩
    have HO2 : Hid (w2.ownsRow w.heap.size 28 3 (.slice (some ⟨g, 0, none⟩) (n - 1) cap) (evL ls p).length (vs3 (evL ls p))) := by
      show World.ownsRow _ _ _ _ _ _ _
      rw [HE.out, HLL.out]
      exact ho2
    have HB := hide (HG.out.trans g2)
    clear ho2 g2
    go_wp2
    go_ret
    exact ⟨_, rfl, HO2.out, HB.out⟩
  · have hn0 : n = 0 := by omega
    subst hn0
    have HE := hide (evL_nil (p := p) hlen)
    go_enter Try.func23, Try.ntmps23
    go_wp2_with fail
    refine (cloneL_calls a 0 c ls _ hn hs).mono ?_
    rintro e w1 ⟨v, rfl, ho, g1⟩
    obtain ⟨ra, rc, rfl, _⟩ := own_ol hn hlen ho
    have HO : Hid (w1.ownsRow w.heap.size 28 3 (.slice ra 0 rc) (evL ls p).length (vs3 (evL ls p))) := by
      show World.ownsRow _ _ _ _ _ _ _
      rw [HE.out, hlen]
      exact ho
    have HB := hide g1
    clear ho g1
    go_wp2
    go_ret
    exact ⟨_, rfl, HO.out, HB.out⟩

set_option maxRecDepth 100000 in
set_option maxHeartbeats 2000000 in
theorem l4Drop_V (B P : Nat) (s : Int) (a : Option Addr) (n c i : Nat) (ls : List (Int × Int × Int)) (w : World) (hn : n ≤ 1048576) (hin : i < n) (hv : CV w B P s (.slice a n c) n ls) :
    Calls Try.prog 36 #[.pointer (some ⟨P, 0, none⟩), .int .i64 i] w fun e w' => e = .returned (.tuple #[]) ∧ ∃ ra rc, CV w' B P s (.slice ra (n - 1) rc) (n - 1) (ls.eraseIdx i) ∧ Below B w w' ∧ OutS (fun k => k = P) w w' := by
  obtain ⟨i0, hi0, hz0, hz1, hz2⟩ := info_parts infoLine
  have hlen := hv.len
  have hP := hv.lt
  have hBP := hv.hB
  have c1 := hv.c1
  obtain ⟨g, c', hgv, _, hgw⟩ := hv.own.form (by omega)
  simp only [Value.slice.injEq] at hgv
  obtain ⟨rfl, _, rfl⟩ := hgv
  have hrm := own_room hv.own
  obtain ⟨hnc, hcm, hBg, _⟩ := hrm
  unfold maxLen at hcm
  have hvl : (fl3 ls).length = n * 3 := by rw [length_fl3, hlen]
  have HV := hide hv
  have O0 := own_lit0 w 28 (B := w.heap.size) (Nat.le_refl _)
  have N0 : Hid (∀ j u, (vs3 (ls.take i))[j]? = some u → (w.alloc (.cells #[] 28)).cell? ((Addr.mk g 0 none).add j) = some u) := by
    refine news_sln (n := i) (by simp; omega) (fun j hj => ?_)
    rw [Nat.zero_add, ← fl3_take, (((Below.refl w.heap.size w).alloc (Nat.le_refl _) (.cells #[] 28)).cell (p := ⟨g, j, none⟩) hgw).trans (own_cell hv.own (j := j) (by omega))]
    simp [gt, hj]
  have HL : Hid ((vs3 (ls.take i)).length = i * 3) := by show _ = _; rw [length_vs3, List.length_take, hlen, Nat.min_eq_left (by omega)]
  have HM1 : Hid (0 + i ≤ maxLen) := by show _ ≤ _; unfold maxLen; omega
  have HM2 : Hid ((0 + i) * 24 ≤ 140737488355328) := by show _ ≤ _; omega
  have HBS : Hid (w.heap.size ≤ (w.alloc (.cells #[] 28)).heap.size) := by show _ ≤ _; simp
  have HO := hide O0
  have b0 : (0 : Int) ≤ (i : Int) := by omega
  have b1 : (i : Int) ≤ (c : Int) := by omega
  have b2 : (0 : Int) ≤ (i : Int) + 1 := by omega
  have b3 : (i : Int) + 1 ≤ (n : Int) := by omega
  have b4 : i ≤ c := by omega
  clear O0 hv
  go_enter Try.func36, Try.ntmps36
  go_wp2_with (first
    | (at_builtin; refine wpList_append_own _ rfl _ _ 24 rfl w.heap.size 28 i0 (.agg #[.int .i64 0, .int .i64 0, .int .i64 0]) 3 24 Try.underlying24 hi0 hz0 hz1 hz2 rfl (by decide) _ 0 [] rfl HO.out ⟨g, 0, none⟩ i c (vs3 (ls.take i)) rfl HL.out N0.out ints_one HM1.out HM2.out HBS.out ?_)
    | go_in)
  intro v1 w1 hown1 hgrow1 _
  have G1 : Below w.heap.size w w1 := ((Below.refl _ _).alloc (Nat.le_refl _) _).grown hgrow1 (by simp) (fun k hk => by simp [Value.ownBlock] at hk; omega)
  have z1 := G1.size
  have c1' := (G1.cell (p := ⟨P, 1, none⟩) hP).trans c1
  have own1 : w1.ownsRow w.heap.size 28 3 v1 i (vs3 (ls.take i)) := by simpa using hown1
  obtain ⟨A, hA, hsrc⟩ : ∃ A : Addr, (if c = i + 1 then some (⟨g, 0, none⟩ : Addr) else some ⟨g, (i + 1) * 3, none⟩) = some A ∧ Hid (∀ t u, (vs3 (ls.drop (i + 1)))[t]? = some u → w1.cell? (A.add t) = some u) := by
    have hdl : (vs3 (ls.drop (i + 1))).length = (n - (i + 1)) * 3 := by rw [length_vs3, List.length_drop, hlen]
    by_cases h : c = i + 1
    · refine ⟨⟨g, 0, none⟩, by simp [h], fun t u hu => ?_⟩
      have := (List.getElem?_eq_some_iff.1 hu).1
      omega
    · refine ⟨⟨g, (i + 1) * 3, none⟩, by simp [h], fun t u hu => ?_⟩
      have ht := (List.getElem?_eq_some_iff.1 hu).1
      have hadd : (Addr.mk g ((i + 1) * 3) none).add t = ⟨g, (i + 1) * 3 + t, none⟩ := by cases t <;> simp [Addr.add]
      rw [hadd, (G1.cell (p := ⟨g, (i + 1) * 3 + t, none⟩) hgw).trans (own_cell HV.out.own (j := (i + 1) * 3 + t) (by omega)), ← hu, vs3, ← fl3_drop]
      simp [gt, show (i + 1) * 3 + t < (fl3 ls).length by omega]
  have HL2 : Hid ((vs3 (ls.drop (i + 1))).length = (n - (i + 1)) * 3) := by show _ = _; rw [length_vs3, List.length_drop, hlen]
  have HM3 : Hid (i + (n - (i + 1)) ≤ maxLen) := by show _ ≤ _; unfold maxLen; omega
  have HM4 : Hid ((i + (n - (i + 1))) * 24 ≤ 140737488355328) := by show _ ≤ _; omega
  have HO1 := hide own1
  have HG1 := hide G1
  clear hown1 hgrow1 own1 G1 HO N0 c1
  go_wp2_with (first
    | (at_builtin; refine wpList_append_own _ rfl _ _ 24 rfl w.heap.size 28 i0 (.agg #[.int .i64 0, .int .i64 0, .int .i64 0]) 3 24 Try.underlying24 hi0 hz0 hz1 hz2 rfl (by decide) v1 i (vs3 (ls.take i)) rfl HO1.out A (n - (i + 1)) (c - (i + 1)) (vs3 (ls.drop (i + 1))) rfl HL2.out hsrc.out ints_one HM3.out HM4.out z1 ?_)
    | go_in)
  intro v2 w2 hown2 hgrow2 _
  have G2 : Below w.heap.size w w2 := HG1.out.grown hgrow2 z1 (fun k hk => (HO1.out.lt k hk).1)
  have own2 : w2.ownsRow w.heap.size 28 3 v2 (n - 1) (vs3 (ls.eraseIdx i)) := by
    rw [List.eraseIdx_eq_take_drop_succ, vs3_append, show n - 1 = i + (n - (i + 1)) by omega]
    exact hown2
  have hel : (ls.eraseIdx i).length = n - 1 := by rw [List.length_eraseIdx_of_lt (by omega), hlen]
  obtain ⟨ra, rc, rfl, _⟩ := own_ol (by omega) hel own2
  have k0 := (G2.cell (p := ⟨P, 0, none⟩) hP).trans HV.out.c0
  have k1 := (G2.cell (p := ⟨P, 1, none⟩) hP).trans HV.out.c1
  have m0 := (G2.frozen (p := ⟨P, 0, none⟩) hP).trans HV.out.f0
  have m1 := (G2.frozen (p := ⟨P, 1, none⟩) hP).trans HV.out.f1
  have hB1 : B ≤ w.heap.size := by omega
  have HR := hide (HV.out.put k0 ⟨_, k1⟩ m0 m1 (own_mono own2 hB1) hel (fun e => by have := (own2.lt P e).1; omega))
  have HE := hide ((G2.mono hB1).setCell (p := ⟨P, 1, none⟩) (by exact hBP) (.slice ra (n - 1) rc))
  have HU := hide (OutS.setCell (S := fun k => k = P) (OutS.of_below G2) (p := ⟨P, 1, none⟩) (by rfl) (.slice ra (n - 1) rc))
  clear hown2 hgrow2 own2 G2 k0 m0 HO1 HG1 c1'
  go_wp2
  exact bodyPost_end (v := .tuple #[]) (by simp [results, Try.results36, go_sem]) rfl ⟨rfl, _, _, HR.out, HE.out, HU.out⟩

set_option maxRecDepth 100000 in
theorem l4Evict_V (B P : Nat) (s : Int) (a : Option Addr) (n c : Nat) (ls : List (Int × Int × Int)) (p : Int) (w : World) (hn : n ≤ 1048576) (hp : 0 ≤ p) (hv : CV w B P s (.slice a n c) n ls) :
    Calls Try.prog 37 #[.pointer (some ⟨P, 0, none⟩), .int .i64 p] w fun e w' => e = .returned (.tuple #[]) ∧ ∃ ra rc, CV w' B P s (.slice ra (evL ls p).length rc) (evL ls p).length (evL ls p) ∧ Below B w w' ∧ OutS (fun k => k = P) w w' := by
  have hlen := hv.len
  have c1 := hv.c1
  have HV := hide hv
  clear hv
  by_cases h0 : 0 < n
  · obtain ⟨i, hpi, hin⟩ := rem_nat p n h0
    have HE := hide (evL_at (ls := ls) (by omega) (by rw [hlen]; exact hpi))
    have HLL : Hid ((ls.eraseIdx i).length = n - 1) := by show _ = _; rw [List.length_eraseIdx_of_lt (by omega), hlen]
    have hnz : (0 : Int) < (n : Int) := by omega
    go_enter Try.func37, Try.ntmps37
    go_wp2_with fail
    refine (l4Drop_V B P s a n c i ls _ hn hin HV.out).mono ?_
    rintro e w2 ⟨rfl, ra, rc, V2, g2, u2⟩
    have HR : Hid (CV w2 B P s (.slice ra (evL ls p).length rc) (evL ls p).length (evL ls p)) := by
      show CV _ _ _ _ _ _ _
      rw [HE.out, HLL.out]
      exact V2
    have HB := hide g2
    have HU := hide u2
    clear V2 g2 u2
    go_wp2
    exact bodyPost_end (v := .tuple #[]) (by simp [results, Try.results37, go_sem]) rfl ⟨rfl, _, _, HR.out, HB.out, HU.out⟩
  · have hn0 : n = 0 := by omega
    subst hn0
    have HE := hide (evL_nil (p := p) hlen)
    have HR : Hid (CV w B P s (.slice a (evL ls p).length c) (evL ls p).length (evL ls p)) := by
      show CV _ _ _ _ _ _ _
      rw [HE.out, hlen]
      exact HV.out
    go_enter Try.func37, Try.ntmps37
    go_wp2
    exact bodyPost_end (v := .tuple #[]) (by simp [results, Try.results37, go_sem]) rfl ⟨rfl, _, _, HR.out, Below.refl _ _, OutS.refl _ _⟩

end Go.Proofs.Ytlilbbkidaahlaa
