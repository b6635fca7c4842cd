import Derived.Test.YtboeceabnlhnoaaL2Bent
import Derived.Test.YtboeceabnlhnoaaL1Copy
import Derived.Deep.Slices
import Derived.WalkKit
import Derived.ProofKit
import Derived.OpenShut
import Derived.ShutString
import Derived.ChangeOld
import Derived.Below
import Derived.WalkSpells
import Derived.Deep.QuietTactic
import Derived.BigQuiet
import Derived.Deep.RegionWith
import Derived.Deep.WholeRow
import Derived.Deep.DeepCutAuto
import Derived.Deep.RegionHeld2
import Derived.Deep.AppendLies
import Derived.Deep.RegionLaw
namespace Go.Proofs.Ytboeceabnlhnoaa
open Go.ChangeShapes Go.WideShapes Go.ChangeAt Go.RowKit

/-- the bytes of a code. -/
def Cd (w : World) (a : Option Addr) (len : Nat) : Prop :=
  len ≤ 1048576 ∧ (0 < len → ∃ b off, a = some ⟨b, off, none⟩ ∧ b < w.heap.size ∧ ∀ i, i < len → ∃ v : Int, 0 ≤ v ∧ v ≤ 255 ∧ w.cell? ⟨b, off + i, none⟩ = some (.int .u8 v))

theorem Cd.below {w u : World} {a : Option Addr} {len : Nat} (h : Cd w a len) (hb : Below w.heap.size w u) : Cd u a len :=
  ⟨h.1, fun hp => by
    obtain ⟨b, off, e, h1, h2⟩ := h.2 hp
    exact ⟨b, off, e, by have := hb.size; omega, fun i hi => by obtain ⟨v, v0, v1, hv⟩ := h2 i hi; exact ⟨v, v0, v1, (hb.cell (p := ⟨b, off + i, none⟩) h1).trans hv⟩⟩⟩

theorem Cd.src {w : World} {a : Option Addr} {len cap : Nat} (h : Cd w a len) (t : TypeId) : Src (w.alloc (.cells #[.slice a len cap, .int .i64 0] t)) w.heap.size a len cap 0 :=
  ⟨by simp, by simp, by simp, by simp, h.1, fun hp => by
    obtain ⟨b, off, e, h1, h2⟩ := h.2 hp
    exact ⟨b, off, e, h1, fun i hi => by obtain ⟨v, v0, v1, hv⟩ := h2 i hi; exact ⟨v, v0, v1, (World.cell?_alloc_past _ _ _ h1).trans hv⟩⟩⟩

set_option maxRecDepth 100000 in
theorem l1Source_calls (a : Option Addr) (len cap : Nat) (w : World) :
    Calls Try.prog 23 #[.slice a len cap] w fun e w' => e = .returned (.pointer (some ⟨w.heap.size, 0, none⟩)) ∧ w' = w.alloc (.cells #[.slice a len cap, .int .i64 0] 92) := by
  go_enter Try.func23, Try.ntmps23
  go_wp2
  go_ret
  exact ⟨rfl, rfl⟩

theorem keepV {X : World} {V R o : Nat} {v y : Value} (h : V ≠ R) (hc : X.cell? ⟨V, 0, none⟩ = some v) : (X.setCell ⟨R, o, none⟩ y).cell? ⟨V, 0, none⟩ = some v := by
  rw [World.cell?_setCell_other _ _ _ _ (fun e => h (by injection e with e1; exact e1.symm))]; exact hc

theorem keepVL {X : World} {V R b off n : Nat} {LQ : Nat → Option Addr × Nat × Nat} {v y : Value} (h : V ≠ R) (hb : b ≠ R) (hc : X.cell? ⟨V, 0, none⟩ = some v ∧ ∀ i, i < n → X.cell? ⟨b, off + i * 2 + 1, none⟩ = some (.slice (LQ i).1 (LQ i).2.1 (LQ i).2.2)) :
    (X.setCell ⟨R, 0, none⟩ y).cell? ⟨V, 0, none⟩ = some v ∧ ∀ i, i < n → (X.setCell ⟨R, 0, none⟩ y).cell? ⟨b, off + i * 2 + 1, none⟩ = some (.slice (LQ i).1 (LQ i).2.1 (LQ i).2.2) :=
  ⟨keepV h hc.1, fun i hi => by rw [World.cell?_setCell_other _ _ _ _ (fun e => hb (by injection e with e1; exact e1.symm))]; exact hc.2 i hi⟩

/-- what l2With gives. -/
def DrewWi (w : World) (e : Ending) (w' : World) : Prop :=
  ∃ (ra : Option Addr) (n rc : Nat) (ss : List (Int × List Int)) (la : Option Addr) (ll lc : Nat) (zs : List Int), e = .returned (.tuple #[.agg #[.slice ra n rc], .agg #[.slice la ll lc]]) ∧ RgS (InR w.heap.size w'.heap.size) ra n ss w' ∧ n ≤ 11 ∧ FrS (InR w.heap.size w'.heap.size) la ll zs w' ∧ ll ≤ 1048576 ∧ Below w.heap.size w w'

theorem DrewWi.mk {w X : World} {B T B' T' : Nat} {cs : List (Nat × Nat × Value)} {ra la : Option Addr} {n rc ll lc : Nat} {ss : List (Int × List Int)} {zs : List Int} (M : Mm w X cs [(B', T', FrS (InR B' T') la ll zs), (B, T, RgS (InR B T) ra n ss)]) (hn : n ≤ 11) (hl : ll ≤ 1048576) (hB : w.heap.size + 1 < B) (hB' : w.heap.size + 1 < B') (hT : T ≤ X.heap.size) (hT' : T' ≤ X.heap.size) (i j : Nat) (hi : w.heap.size ≤ i) (hi' : i ≤ w.heap.size + 1) (hj : w.heap.size ≤ j) (hj' : j ≤ w.heap.size + 1) (y z : Value) :
    DrewWi w (.returned (.tuple #[.agg #[.slice ra n rc], .agg #[.slice la ll lc]])) ((X.setCell ⟨i, 0, none⟩ y).setCell ⟨j, 0, none⟩ z) := by
  refine ⟨ra, n, rc, ss, la, ll, lc, zs, rfl, ?_, hn, ?_, hl, (M.bel.setCell (by exact hi) _).setCell (by exact hj) _⟩
  · exact (RgS.loc.setC (RgS.loc.setC (M.get 1 rfl) (q := ⟨i, 0, none⟩) (fun e => by have h1 : B ≤ i := e.1; omega) y) (q := ⟨j, 0, none⟩) (fun e => by have h1 : B ≤ j := e.1; omega) z).mono (fun k hk => ⟨by have := hk.1; omega, by have := hk.2; simp; omega⟩)
  · exact (FrS.loc.setC (FrS.loc.setC (M.get 0 rfl) (q := ⟨i, 0, none⟩) (fun e => by have h1 : B' ≤ i := e.1; omega) y) (q := ⟨j, 0, none⟩) (fun e => by have h1 : B' ≤ j := e.1; omega) z).mono (fun k hk => ⟨by have := hk.1; omega, by have := hk.2; simp; omega⟩)

set_option maxRecDepth 100000 in
set_option maxHeartbeats 4000000 in
theorem l2With_calls (a : Option Addr) (len cap : Nat) (w : World) (hc : Cd w a len) :
    Calls Try.prog 18 #[.slice a len cap] w (DrewWi w) := by
  have M0 := ((Mm.start w).alloc1 (.slice none 0 0) 26).alloc1 (.slice none 0 0) 29
  simp only [World.size_alloc] at M0
  have S0 := (hc.below M0.bel).src (cap := cap) 92
  have M1 := M0.below ((Below.refl _ _).alloc (Nat.le_refl _) (.cells #[.slice a len cap, .int .i64 0] 92))
  simp only [World.size_alloc] at S0
  clear M0
  go_enter Try.func18, Try.ntmps18
  go_wp2_with (go_at_call 23; refine (l1Source_calls a len cap _).mono ?_; rintro e w0 ⟨rfl, rfl⟩)
  refine (l2Bent_calls (w.heap.size + 1 + 1) a len cap 0 _ (by omega) S0).mono ?_
  rintro e w1 ⟨ra, n, rc, ss, t1, rfl, rg, hn, s1, ht1, u1⟩
  have z1 := u1.size
  simp only [World.size_alloc] at z1 rg
  have M2 := ((M1.out (OutS.of_outside u1) (by omega) (by simp <;> omega) (by simp)).fact RgS.loc rg).alloc1 (.slice ra n rc) 26
  have s1' := s1.below ((Below.refl _ _).alloc (Nat.le_refl _) (.cells #[.slice ra n rc] 26))
  have hV0 : w1.heap.size ≠ w.heap.size := by omega
  have hV1 : w1.heap.size ≠ w.heap.size + 1 := by omega
  clear M1 S0 u1 rg s1
  by_cases hn0 : 0 < n
  · have hn0' : (0 : Int) < (n : Int) := by omega
    have x0 := M2.cell 0 rfl
    go_wp2_with fail
    refine (l1Chance_calls (w.heap.size + 1 + 1) a len cap t1 2 _ (by omega) (by omega) (by omega) s1').mono ?_
    rintro e w2 ⟨ch, rfl, s2, u2⟩
    have z2 := u2.size
    simp only [World.size_alloc] at z2
    have M3 := M2.out (OutS.of_outside u2) (by omega) (by simp <;> omega) (by simp <;> omega)
    clear M2 s1' u2 x0
    cases ch with
    | true =>
      have x3 := M3.cell 0 rfl
      have SX := hide (s2.below (Below.refl _ _).drew)
      have HM := hide M3.drew
      have hnI : (n : Int) ≤ 11 := by omega
      obtain ⟨b, off, rfl, hbS, hb2, hbc⟩ := (M3.get 0 rfl).2 hn0
      have HBC := hide hbc
      have hbB : w.heap.size + 1 + 1 + 1 + 1 ≤ b := hbS.1
      have hbT : b < w1.heap.size := hbS.2
      clear M3 s2 hbc
      obtain ⟨LQ, hLQ⟩ := Go.Deep.choose_lt (n := n) (p := fun i (x : Option Addr × Nat × Nat) => w2.cell? ⟨b, off + i * 2 + 1, none⟩ = some (.slice x.1 x.2.1 x.2.2) ∧ x.2.1 ≤ 1048576 ∧ FrS (InR (w.heap.size + 1 + 1 + 1 + 1) w1.heap.size) x.1 x.2.1 (gl ss i) w2) (fun i hi => by obtain ⟨_, la, ll, lc, c1, hll, hf⟩ := HBC.out i hi; exact ⟨(la, ll, lc), c1, hll, hf⟩)
      have HQ := hide hLQ
      have HS0 : Hid (w2.drew.cell? ⟨w1.heap.size, 0, none⟩ = some (.slice (some ⟨b, off, none⟩) n rc) ∧ ∀ i, i < n → w2.drew.cell? ⟨b, off + i * 2 + 1, none⟩ = some (.slice (LQ i).1 (LQ i).2.1 (LQ i).2.2)) := ⟨x3, fun i hi => (hLQ i hi).1⟩
      have hbV0 : b ≠ w.heap.size := by omega
      have hbV1 : b ≠ w.heap.size + 1 := by omega
      clear hLQ HBC
      go_upto_region 4 with fail
      clear x3
      go_region_held2 (fun w' => w'.cell? ⟨w1.heap.size, 0, none⟩ = some (.slice (some ⟨b, off, none⟩) n rc) ∧ ∀ i, i < n → w'.cell? ⟨b, off + i * 2 + 1, none⟩ = some (.slice (LQ i).1 (LQ i).2.1 (LQ i).2.2))
        (first | with_reducible exact HS0.out | with_reducible assumption | (with_reducible refine keepVL hV0 hbV0 ?_; with_reducible assumption) | (with_reducible refine keepVL hV1 hbV1 ?_; with_reducible assumption))
        (first
          | (go_at_call 25; refine (l1Next_calls (w.heap.size + 1 + 1) a len cap (t1 + 1) (n : Int) _ (by omega) (by omega) (by omega) SX.out).mono ?_; rintro e w3 ⟨j, rfl, j0, j1, s3, u3⟩; have M4 := HM.out.out (OutS.of_outside u3) (by omega) (by simp <;> omega) (by simp <;> omega); obtain ⟨jn, rfl⟩ : ∃ i : Nat, j = (i : Int) := ⟨j.toNat, by omega⟩; have hjn : jn < n := (by omega); have z3 : w2.heap.size ≤ w3.heap.size := u3.size; have hs3 : w3.cell? ⟨w1.heap.size, 0, none⟩ = some (.slice (some ⟨b, off, none⟩) n rc) ∧ ∀ i, i < n → w3.cell? ⟨b, off + i * 2 + 1, none⟩ = some (.slice (LQ i).1 (LQ i).2.1 (LQ i).2.2) := ⟨M4.cell 0 rfl, fun i hi => (World.cell?_of_block (a := ⟨b, off + i * 2 + 1, none⟩) (u3.block b hb2 (.inr (by omega)))).trans (HQ.out i hi).1⟩; have HF3 := hide (FrS.loc _ w3 (fun k hk hl => u3.block k hl (.inr (by have h1 : w.heap.size + 1 + 1 + 1 + 1 ≤ k := hk.1; omega))) (HQ.out jn hjn).2.2); have HM4 := hide M4; clear M4 s3 u3)
          | (go_at_call 33; refine (l1Copy_O (LQ jn).1 (LQ jn).2.1 (LQ jn).2.2 (gl ss jn) _ (HQ.out jn hjn).2.1 HF3.out.sl).mono ?_; rintro e w4 ⟨ka, kc, rfl, os4, g4⟩; have M5 := (HM4.out.below g4).fact FrS.loc (os4.frS (S' := InR w3.heap.size w4.heap.size) (fun k hk => hk)); have hs4 : w4.cell? ⟨w1.heap.size, 0, none⟩ = some (.slice (some ⟨b, off, none⟩) n rc) ∧ ∀ i, i < n → w4.cell? ⟨b, off + i * 2 + 1, none⟩ = some (.slice (LQ i).1 (LQ i).2.1 (LQ i).2.2) := ⟨M5.cell 0 rfl, fun i hi => (g4.cell (p := ⟨b, off + i * 2 + 1, none⟩) (by show b < _; omega)).trans (hs3.2 i hi)⟩; have z4 := g4.size; have c0 := M5.cell 2 rfl; have d0 := M5.cell 1 rfl; have f0 := M5.fz 2 rfl; have e0 := M5.fz 1 rfl; have hl4 := (HQ.out jn hjn).2.1; have HM5 := hide M5; clear M5 os4 g4))
      all_goals (
        go_wp2
        first
          | exact bodyPost_ret (v := .tuple #[.agg #[.slice (some ⟨b, off, none⟩) n rc], .agg #[.slice ka (LQ jn).2.1 kc]]) (by simp [results, Try.results18, go_sem, c0, d0]) rfl (DrewWi.mk HM5.out hn hl4 (by omega) (by omega) (by omega) (by omega) w.heap.size (w.heap.size + 1) (by omega) (by omega) (by omega) (by omega) _ _)
          | exact bodyPost_ret (v := .tuple #[.agg #[.slice (some ⟨b, off, none⟩) n rc], .agg #[.slice ka (LQ jn).2.1 kc]]) (by simp [results, Try.results18, go_sem, c0, d0]) rfl (DrewWi.mk HM5.out hn hl4 (by omega) (by omega) (by omega) (by omega) (w.heap.size + 1) w.heap.size (by omega) (by omega) (by omega) (by omega) _ _))
    | false =>
      have x3 := M3.cell 0 rfl
      have SX := hide (s2.below (Below.refl _ _).drew)
      have HM := hide M3.drew
      have HS0 : Hid (w2.drew.cell? ⟨w1.heap.size, 0, none⟩ = some (.slice ra n rc)) := M3.cell 0 rfl
      clear M3 s2
      go_upto_region 5 with fail
      clear x3
      go_region_held2 (fun w' => w'.cell? ⟨w1.heap.size, 0, none⟩ = some (.slice ra n rc))
        (first | with_reducible exact HS0.out | with_reducible assumption | (with_reducible refine keepV hV0 ?_; with_reducible assumption) | (with_reducible refine keepV hV1 ?_; with_reducible assumption))
        (first
          | (go_at_call 41; refine (l1Bent_calls (w.heap.size + 1 + 1) a len cap (t1 + 1) _ (by omega) SX.out).mono ?_; rintro e w5 ⟨la, ll, lc, zs, t5, rfl, fr, s5, ht5, o5⟩; have z5 : w2.heap.size ≤ w5.heap.size := o5.size; have hl5 : ll ≤ 1048576 := (by have := fr.2.1; omega); have M5 := (HM.out.out (OutS.of_outside o5) (by omega) (by simp <;> omega) (by simp <;> omega)).fact FrS.loc (fr.frS.mono (S' := InR w2.heap.size w5.heap.size) (fun k hk => hk)); have hs5 : w5.cell? ⟨w1.heap.size, 0, none⟩ = some (.slice ra n rc) := M5.cell 0 rfl; have c0 := M5.cell 2 rfl; have d0 := M5.cell 1 rfl; have f0 := M5.fz 2 rfl; have e0 := M5.fz 1 rfl; have HM5 := hide M5; clear M5 s5 o5 fr))
      all_goals (
        go_wp2
        first
          | exact bodyPost_ret (v := .tuple #[.agg #[.slice ra n rc], .agg #[.slice la ll lc]]) (by simp [results, Try.results18, go_sem, c0, d0]) rfl (DrewWi.mk HM5.out hn hl5 (by omega) (by omega) (by omega) (by omega) w.heap.size (w.heap.size + 1) (by omega) (by omega) (by omega) (by omega) _ _)
          | exact bodyPost_ret (v := .tuple #[.agg #[.slice ra n rc], .agg #[.slice la ll lc]]) (by simp [results, Try.results18, go_sem, c0, d0]) rfl (DrewWi.mk HM5.out hn hl5 (by omega) (by omega) (by omega) (by omega) (w.heap.size + 1) w.heap.size (by omega) (by omega) (by omega) (by omega) _ _))
  · have hn0' : ¬ (0 : Int) < (n : Int) := by omega
    obtain ⟨X, hX⟩ : ∃ X : World, X = w1.alloc (.cells #[.slice ra n rc] 26) := ⟨_, rfl⟩
    have hXz : X.heap.size = w1.heap.size + 1 := by rw [hX]; simp
    have x3 := M2.cell 0 rfl
    rw [← hX] at M2 s1'
    have HX := hide hX
    have SX := hide (s1'.below (Below.refl _ _).drew)
    have HM := hide M2.drew
    have HS0 : Hid (X.drew.cell? ⟨w1.heap.size, 0, none⟩ = some (.slice ra n rc)) := M2.cell 0 rfl
    clear M2 s1' hX
    go_upto_region 5 with fail
    rw [← HX.out]
    clear x3
    go_region_held2 (fun w' => w'.cell? ⟨w1.heap.size, 0, none⟩ = some (.slice ra n rc))
      (first | with_reducible exact HS0.out | with_reducible assumption | (with_reducible refine keepV hV0 ?_; with_reducible assumption) | (with_reducible refine keepV hV1 ?_; with_reducible assumption))
      (first
        | (go_at_call 41; refine (l1Bent_calls (w.heap.size + 1 + 1) a len cap (t1) _ (by omega) SX.out).mono ?_; rintro e w5 ⟨la, ll, lc, zs, t5, rfl, fr, s5, ht5, o5⟩; have z5 : X.heap.size ≤ w5.heap.size := o5.size; have hl5 : ll ≤ 1048576 := (by have := fr.2.1; omega); have M5 := (HM.out.out (OutS.of_outside o5) (by omega) (by simp <;> omega) (by simp <;> omega)).fact FrS.loc (fr.frS.mono (S' := InR X.heap.size w5.heap.size) (fun k hk => hk)); have hs5 : w5.cell? ⟨w1.heap.size, 0, none⟩ = some (.slice ra n rc) := M5.cell 0 rfl; have c0 := M5.cell 2 rfl; have d0 := M5.cell 1 rfl; have f0 := M5.fz 2 rfl; have e0 := M5.fz 1 rfl; have HM5 := hide M5; clear M5 s5 o5 fr))
    all_goals (
      go_wp2
      first
        | exact bodyPost_ret (v := .tuple #[.agg #[.slice ra n rc], .agg #[.slice la ll lc]]) (by simp [results, Try.results18, go_sem, c0, d0]) rfl (DrewWi.mk HM5.out hn hl5 (by omega) (by omega) (by omega) (by omega) w.heap.size (w.heap.size + 1) (by omega) (by omega) (by omega) (by omega) _ _)
        | exact bodyPost_ret (v := .tuple #[.agg #[.slice ra n rc], .agg #[.slice la ll lc]]) (by simp [results, Try.results18, go_sem, c0, d0]) rfl (DrewWi.mk HM5.out hn hl5 (by omega) (by omega) (by omega) (by omega) (w.heap.size + 1) w.heap.size (by omega) (by omega) (by omega) (by omega) _ _))

set_option maxRecDepth 100000 in
set_option maxHeartbeats 1000000 in
theorem drawEnterLabel_calls (a : Option Addr) (len cap : Nat) (w : World) (hc : Cd w a len) :
    Calls Try.prog 5 #[.slice a len cap] w (DrewWi w) := by
  have M0 := ((Mm.start w).alloc1 (.slice none 0 0) 26).alloc1 (.slice none 0 0) 29
  simp only [World.size_alloc] at M0
  go_enter Try.func5, Try.ntmps5
  go_wp2_with fail
  refine (l2With_calls a len cap _ (hc.below M0.bel)).mono ?_
  rintro e w1 ⟨ra, n, rc, ss, la, ll, lc, zs, rfl, rg, hn, fr, hl, g1⟩
  have z1 := g1.size
  simp only [World.size_alloc] at z1 rg fr
  have M1 := ((M0.below g1).fact RgS.loc rg).fact FrS.loc fr
  have c0 := M1.cell 1 rfl
  have d0 := M1.cell 0 rfl
  have f0 := M1.fz 1 rfl
  have e0 := M1.fz 0 rfl
  have HM := hide M1
  clear M0 M1 g1 rg fr
  go_wp2
  exact bodyPost_ret (v := .tuple #[.agg #[.slice ra n rc], .agg #[.slice la ll lc]]) (by simp [results, Try.results5, go_sem, c0, d0]) rfl (DrewWi.mk HM.out hn hl (by omega) (by omega) (by omega) (by omega) w.heap.size (w.heap.size + 1) (by omega) (by omega) (by omega) (by omega) _ _)

end Go.Proofs.Ytboeceabnlhnoaa
