import Derived.Test.YtjahlhibgnbkgaaBentD
import Derived.Test.YtjahlhibgnbkgaaJoin1
import Derived.WalkKit
import Derived.ProofKit
import Derived.OpenShut
import Derived.ShutString
import Derived.ChangeOld
import Derived.Below
import Derived.WalkSpells
import Derived.Deep.QuietTactic
import Derived.BigQuiet
import Derived.Deep.RegionWith
import Derived.Deep.WholeRow
import Derived.Deep.DeepCutAuto
import Derived.Deep.RegionHeld2
import Derived.Deep.AppendLies
import Derived.Deep.RegionLaw
namespace Go.Proofs.Ytjahlhibgnbkgaa
open Go.ChangeShapes Go.WideShapes Go.ChangeAt Go.RowKit

/-- the bytes of a code: in a block below B. -/
def Cd (w : World) (a : Option Addr) (len : Nat) : Prop :=
  len ≤ 1048576 ∧ (0 < len → ∃ b off, a = some ⟨b, off, none⟩ ∧ b < w.heap.size ∧ ∀ i, i < len → ∃ v : Int, 0 ≤ v ∧ v ≤ 255 ∧ w.cell? ⟨b, off + i, none⟩ = some (.int .u8 v))

theorem Cd.below {w u : World} {a : Option Addr} {len : Nat} (h : Cd w a len) (hb : Below w.heap.size w u) : Cd u a len :=
  ⟨h.1, fun hp => by
    obtain ⟨b, off, e, h1, h2⟩ := h.2 hp
    exact ⟨b, off, e, by have := hb.size; omega, fun i hi => by obtain ⟨v, v0, v1, hv⟩ := h2 i hi; exact ⟨v, v0, v1, (hb.cell (p := ⟨b, off + i, none⟩) h1).trans hv⟩⟩⟩

theorem Cd.src {w : World} {a : Option Addr} {len cap : Nat} (h : Cd w a len) (t : TypeId) : Src (w.alloc (.cells #[.slice a len cap, .int .i64 0] t)) w.heap.size a len cap 0 :=
  ⟨by simp, by simp, by simp, by simp, h.1, fun hp => by
    obtain ⟨b, off, e, h1, h2⟩ := h.2 hp
    exact ⟨b, off, e, h1, fun i hi => by obtain ⟨v, v0, v1, hv⟩ := h2 i hi; exact ⟨v, v0, v1, (World.cell?_alloc_past _ _ _ h1).trans hv⟩⟩⟩

theorem Outside.cellB {B T : Nat} {w u : World} (h : Outside B T w u) {q : Addr} {v : Value} (hq : q.block < w.heap.size) (hn : q.block < B) (hv : w.cell? q = some v) : u.cell? q = some v := (World.cell?_of_block (h.block q.block hq (.inl hn))).trans hv

theorem Outside.frozenB {B T : Nat} {w u : World} (h : Outside B T w u) {q : Addr} {v : Bool} (hq : q.block < w.heap.size) (hn : q.block < B) (hv : w.frozen? q = v) : u.frozen? q = v := (World.frozen?_of_block (h.block q.block hq (.inl hn))).trans hv

theorem Fr.lo {w : World} {lo lo' : Nat} {a : Option Addr} {n : Nat} {xs : List Int} (h : Fr w lo a n xs) (hl : lo' ≤ lo) : Fr w lo' a n xs :=
  ⟨h.1, h.2.1, fun h0 => by obtain ⟨b, off, e, h1, h2⟩ := h.2.2 h0; exact ⟨b, off, e, by omega, h2⟩⟩

theorem OSl.fr {w : World} {B T lo : Nat} {a : Option Addr} {n : Nat} {rs : List Int} (h : OSl w B T a n rs) (h4 : n ≤ 4) (hl : lo ≤ B) : Fr w lo a n rs := by
  obtain ⟨h1, _, h2⟩ := h
  refine ⟨h1, h4, fun h0 => ?_⟩
  rcases h2 with ⟨_, h2⟩ | ⟨b, rfl, h3, _, hb⟩
  · omega
  · exact ⟨b, 0, rfl, by omega, hb.1, fun i hi => by rw [Nat.zero_add]; exact hb.2.1 i (by omega)⟩

theorem Fr.setAt {w : World} {lo Q : Nat} {a : Option Addr} {n : Nat} {xs : List Int} (h : Fr w lo a n xs) (hq : 0 < n → ∃ b off, a = some ⟨b, off, none⟩ ∧ b ≠ Q) (v : Value) : Fr (w.setCell ⟨Q, 0, none⟩ v) lo a n xs :=
  ⟨h.1, h.2.1, fun h0 => by
    obtain ⟨b, off, e, h1, h2, h3⟩ := h.2.2 h0
    obtain ⟨b', off', e', hne⟩ := hq h0
    have eb : b = b' := by rw [e] at e'; injection e' with e1; injection e1
    exact ⟨b, off, e, h1, by simpa using h2, fun i hi => by rw [World.cell?_setCell_other _ _ _ _ (fun e => by injection e with e1; omega)]; exact h3 i hi⟩⟩

set_option maxRecDepth 100000 in
theorem l1Source_calls (a : Option Addr) (len cap : Nat) (w : World) :
    Calls Try.prog 64 #[.slice a len cap] w fun e w' => e = .returned (.pointer (some ⟨w.heap.size, 0, none⟩)) ∧ w' = w.alloc (.cells #[.slice a len cap, .int .i64 0] 105) := by
  go_enter Try.func64, Try.ntmps64
  go_wp2
  go_ret
  exact ⟨rfl, rfl⟩

set_option maxRecDepth 100000 in
set_option maxHeartbeats 4000000 in
theorem l1Two_calls (a : Option Addr) (len cap : Nat) (w : World) (hc : Cd w a len) :
    Calls Try.prog 41 #[.slice a len cap] w fun e w' => ∃ ra n rc xs rb m rd ys, e = .returned (.tuple #[.agg #[.slice ra n rc], .agg #[.slice rb m rd]]) ∧ Fr w' w.heap.size ra n xs ∧ Fr w' w.heap.size rb m ys ∧ Below w.heap.size w w' := by
  have hb0 := fun o1 o2 => ((Below.refl w.heap.size w).alloc (Nat.le_refl _) o1).alloc (by simp) o2
  go_enter Try.func41, Try.ntmps41
  go_wp2_with fail
  refine (l1Source_calls a len cap _).mono ?_
  rintro e w0 ⟨rfl, rfl⟩
  have S0 := (hc.below (hb0 (.cells #[.slice none 0 0] 26) (.cells #[.slice none 0 0] 26))).src (cap := cap) 105
  simp only [World.size_alloc] at S0 ⊢
  go_wp2_with fail
  refine (l1Bent_calls (w.heap.size + 1 + 1) a len cap 0 _ (by omega) S0).mono ?_
  rintro e w1 ⟨ra, n, rc, xs, t1, rfl, fa, s1, ht1, o1⟩
  simp only [World.size_alloc] at fa
  have z1 : w.heap.size + 3 ≤ w1.heap.size := by have := o1.size; simp at this; omega
  have ha1 := (Below.refl w1.heap.size w1).alloc (Nat.le_refl _) (.cells #[.slice ra n rc] 26)
  go_wp2_with fail
  refine (l1Bent_calls (w.heap.size + 1 + 1) a len cap t1 _ (by omega) (s1.below ha1)).mono ?_
  rintro e w2 ⟨rb, m, rd, ys, t2, rfl, fb, s2, ht2, o2⟩
  simp only [World.size_alloc] at fb
  have z2 : w1.heap.size + 1 ≤ w2.heap.size := by have := o2.size; simp at this; omega
  have ha2 := (Below.refl w2.heap.size w2).alloc (Nat.le_refl _) (.cells #[.slice rb m rd] 26)
  go_wp2_with fail
  refine (l1Chance_calls (w.heap.size + 1 + 1) a len cap t2 3 _ (by omega) (by omega) (by omega) (s2.below ha2)).mono ?_
  rintro e w3 ⟨q, rfl, s3, o3⟩
  have z3 : w2.heap.size + 1 ≤ w3.heap.size := by have := o3.size; simp at this; omega
  have hpl : w.heap.size + 1 + 1 < w.heap.size + 1 + 1 + 1 := by omega
  have OA := (((o1.trans (Outside.alloc _ _ _ _)).trans o2).trans (Outside.alloc _ _ _ _)).trans o3
  have r0 : w3.cell? ⟨w.heap.size, 0, none⟩ = some (.slice none 0 0) := OA.cellB (q := ⟨w.heap.size, 0, none⟩) (by simp; omega) (by show w.heap.size < _; omega) (by go_simp)
  have r1 : w3.cell? ⟨w.heap.size + 1, 0, none⟩ = some (.slice none 0 0) := OA.cellB (q := ⟨w.heap.size + 1, 0, none⟩) (by simp) (by show w.heap.size + 1 < _; omega) (by go_simp)
  have f0 : w3.frozen? ⟨w.heap.size, 0, none⟩ = false := OA.frozenB (q := ⟨w.heap.size, 0, none⟩) (by simp; omega) (by show w.heap.size < _; omega) (by go_simp)
  have f1 : w3.frozen? ⟨w.heap.size + 1, 0, none⟩ = false := OA.frozenB (q := ⟨w.heap.size + 1, 0, none⟩) (by simp) (by show w.heap.size + 1 < _; omega) (by go_simp)
  have xA : w3.cell? ⟨w1.heap.size, 0, none⟩ = some (.slice ra n rc) := ((o2.trans (Outside.alloc _ _ _ _)).trans o3).cell (q := ⟨w1.heap.size, 0, none⟩) (by simp) (by show _ ≤ w1.heap.size; omega) (by go_simp)
  have xB : w3.cell? ⟨w2.heap.size, 0, none⟩ = some (.slice rb m rd) := o3.cell (q := ⟨w2.heap.size, 0, none⟩) (by simp) (by show _ ≤ w2.heap.size; omega) (by go_simp)
  have xBf : w3.frozen? ⟨w2.heap.size, 0, none⟩ = false := o3.frozen (q := ⟨w2.heap.size, 0, none⟩) (by simp) (by show _ ≤ w2.heap.size; omega) (by go_simp)
  have fa3 := ((((fa.below ha1).outside o2 hpl).below ha2).outside o3 hpl)
  have fb3 := (fb.below ha2).outside o3 (by omega)
  have hbw : Below w.heap.size w w3 := ((hb0 _ _).alloc (by simp; omega) _).trans (OA.below (by omega) (by simp; omega))
  have hn4 : n ≤ 4 := fa.2.1
  have hAb : 0 < n → ∃ b off, ra = some ⟨b, off, none⟩ ∧ b ≠ w2.heap.size := fun h => by obtain ⟨b, off, e, _, h2, _⟩ := fa.2.2 h; exact ⟨b, off, e, by omega⟩
  have HFA := hide fa3
  have HFB := hide fb3
  have HBW := hide hbw
  clear OA o1 o2 o3 ha1 ha2 fa fb fa3 fb3 hbw s1 s2 s3 S0 hc hb0 hpl ht1 ht2
  have hA3 : w1.heap.size < w3.heap.size := by omega
  have hB3 : w2.heap.size < w3.heap.size := by omega
  have hj : (q = true ∧ n = m) ∨ (q = false ∨ n ≠ m) := by
    cases q
    · exact .inr (.inl rfl)
    · by_cases e : n = m
      · exact .inl ⟨rfl, e⟩
      · exact .inr (.inr e)
  rcases hj with ⟨rfl, rfl⟩ | hj
  · have hnn : ((n : Int) == (n : Int)) = true := by simp
    go_wp2_with fail
    refine (l1Join_calls w1.heap.size w2.heap.size ra rb n rc rd xs ys _ (by omega) hA3 hB3 xA xB HFA.out.sl HFB.out.sl).mono ?_
    rintro e w4 ⟨rj, rjc, rfl, oj, hb4⟩
    have r04 := (hb4.cell (p := ⟨w.heap.size, 0, none⟩) (by show w.heap.size < _; omega)).trans r0
    have r14 := (hb4.cell (p := ⟨w.heap.size + 1, 0, none⟩) (by show w.heap.size + 1 < _; omega)).trans r1
    have f04 := (hb4.frozen (p := ⟨w.heap.size, 0, none⟩) (by show w.heap.size < _; omega)).trans f0
    have f14 := (hb4.frozen (p := ⟨w.heap.size + 1, 0, none⟩) (by show w.heap.size + 1 < _; omega)).trans f1
    have xA4 := (hb4.cell (p := ⟨w1.heap.size, 0, none⟩) hA3).trans xA
    have xB4 := (hb4.cell (p := ⟨w2.heap.size, 0, none⟩) hB3).trans xB
    have xBf4 := (hb4.frozen (p := ⟨w2.heap.size, 0, none⟩) hB3).trans xBf
    have HFA4 := hide (HFA.out.below hb4)
    have HOJ := hide oj
    have HB4 := hide (HBW.out.trans (hb4.mono HBW.out.size))
    clear r0 r1 f0 f1 xA xB xBf oj hb4
    have hBr : w2.heap.size ≠ w.heap.size := by omega
    have hBr1 : w2.heap.size ≠ w.heap.size + 1 := by omega
    have hBA : w2.heap.size ≠ w1.heap.size := by omega
    have r0U : (w4.setCell ⟨w2.heap.size, 0, none⟩ (.slice rj n rjc)).cell? ⟨w.heap.size, 0, none⟩ = some (.slice none 0 0) := (World.cell?_setCell_other _ _ _ _ (fun e => hBr (by injection e with e1))).trans r04
    have r1U : (w4.setCell ⟨w2.heap.size, 0, none⟩ (.slice rj n rjc)).cell? ⟨w.heap.size + 1, 0, none⟩ = some (.slice none 0 0) := (World.cell?_setCell_other _ _ _ _ (fun e => hBr1 (by injection e with e1))).trans r14
    have f0U : (w4.setCell ⟨w2.heap.size, 0, none⟩ (.slice rj n rjc)).frozen? ⟨w.heap.size, 0, none⟩ = false := by rw [World.frozen?_setCell]; exact f04
    have f1U : (w4.setCell ⟨w2.heap.size, 0, none⟩ (.slice rj n rjc)).frozen? ⟨w.heap.size + 1, 0, none⟩ = false := by rw [World.frozen?_setCell]; exact f14
    have xAU : (w4.setCell ⟨w2.heap.size, 0, none⟩ (.slice rj n rjc)).cell? ⟨w1.heap.size, 0, none⟩ = some (.slice ra n rc) := (World.cell?_setCell_other _ _ _ _ (fun e => hBA (by injection e with e1))).trans xA4
    have xBU : (w4.setCell ⟨w2.heap.size, 0, none⟩ (.slice rj n rjc)).cell? ⟨w2.heap.size, 0, none⟩ = some (.slice rj n rjc) := World.cell?_setCell_same _ _ _ xB4
    have hAr : w1.heap.size ≠ w.heap.size := by omega
    have hAr1 : w1.heap.size ≠ w.heap.size + 1 := by omega
    clear r04 r14 f04 f14 xA4
    go_wp2
    go_region
    all_goals go_wp2
    all_goals refine bodyPost_ret (v := .tuple #[.agg #[.slice ra n rc], .agg #[.slice rj n rjc]]) (by simp [results, Try.results41, go_sem, r0U, r1U]) rfl ⟨ra, n, rc, xs, rj, n, rjc, mix max xs ys, rfl, ?_, ?_, ?_⟩
    all_goals first | exact Fr.lo ((((HFA4.out.setAt hAb _).setCell (by show w.heap.size < _; omega) _).setCell (by show w.heap.size + 1 < _; omega) _).below (Below.refl _ _).drew) (by omega) | exact OSl.fr ((HOJ.out.map (fun b h1 _ hb => ((hb.setCell (by simp; omega) _).setCell (by simp; omega) _).setCell (by simp; omega) _)).below (Below.refl _ _).drew) hn4 (by omega) | exact (((HB4.out.setCell (by show w.heap.size ≤ w2.heap.size; omega) _).setCell (Nat.le_refl _) _).setCell (by show w.heap.size ≤ w.heap.size + 1; omega) _).drew
  · have hAr : w1.heap.size ≠ w.heap.size := by omega
    have hAr1 : w1.heap.size ≠ w.heap.size + 1 := by omega
    have hBr : w2.heap.size ≠ w.heap.size := by omega
    have hBr1 : w2.heap.size ≠ w.heap.size + 1 := by omega
    cases q with
    | false =>
      go_wp2
      go_region
      all_goals go_wp2
      all_goals refine bodyPost_ret (v := .tuple #[.agg #[.slice ra n rc], .agg #[.slice rb m rd]]) (by simp [results, Try.results41, go_sem, r0, r1]) rfl ⟨ra, n, rc, xs, rb, m, rd, ys, rfl, ?_, ?_, ?_⟩
      all_goals first | exact (((HFA.out.setCell (by show w.heap.size < _; omega) _).setCell (by show w.heap.size + 1 < _; omega) _).below (Below.refl _ _).drew).lo (by omega) | exact (((HFB.out.setCell (by show w.heap.size < _; omega) _).setCell (by show w.heap.size + 1 < _; omega) _).below (Below.refl _ _).drew).lo (by omega) | exact ((HBW.out.setCell (Nat.le_refl _) _).setCell (by show w.heap.size ≤ w.heap.size + 1; omega) _).drew
    | true =>
      have hne : ((n : Int) == (m : Int)) = false := by
        rcases hj with hj | hj
        · cases hj
        · simp; omega
      go_wp2
      go_region
      all_goals go_wp2
      all_goals refine bodyPost_ret (v := .tuple #[.agg #[.slice ra n rc], .agg #[.slice rb m rd]]) (by simp [results, Try.results41, go_sem, r0, r1]) rfl ⟨ra, n, rc, xs, rb, m, rd, ys, rfl, ?_, ?_, ?_⟩
      all_goals first | exact (((HFA.out.setCell (by show w.heap.size < _; omega) _).setCell (by show w.heap.size + 1 < _; omega) _).below (Below.refl _ _).drew).lo (by omega) | exact (((HFB.out.setCell (by show w.heap.size < _; omega) _).setCell (by show w.heap.size + 1 < _; omega) _).below (Below.refl _ _).drew).lo (by omega) | exact ((HBW.out.setCell (Nat.le_refl _) _).setCell (by show w.heap.size ≤ w.heap.size + 1; omega) _).drew

end Go.Proofs.Ytjahlhibgnbkgaa
