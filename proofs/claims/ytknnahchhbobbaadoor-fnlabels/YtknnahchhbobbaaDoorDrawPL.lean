import Derived.Test.YtknnahchhbobbaaDoorRow4
import Derived.Test.YtknnahchhbobbaaDoorLbBent
import Derived.WalkKit
import Derived.ProofKit
import Derived.OpenShut
import Derived.ShutString
import Derived.ChangeOld
import Derived.Below
import Derived.WalkSpells
import Derived.Deep.QuietTactic
import Derived.BigQuiet
import Derived.Deep.RegionWith
import Derived.Deep.WholeRow
import Derived.Deep.DeepCutAuto
import Derived.Deep.RegionHeld2
import Derived.Deep.AppendLies
import Derived.Deep.RegionLaw
namespace Go.Proofs.YtknnahchhbobbaaDoor
open Go.ChangeShapes Go.WideShapes Go.ChangeAt Go.RowKit

/-- the bytes of a code. -/
def Cd (w : World) (a : Option Addr) (len : Nat) : Prop :=
  len ≤ 1048576 ∧ (0 < len → ∃ b off, a = some ⟨b, off, none⟩ ∧ b < w.heap.size ∧ ∀ i, i < len → ∃ v : Int, 0 ≤ v ∧ v ≤ 255 ∧ w.cell? ⟨b, off + i, none⟩ = some (.int .u8 v))

theorem Cd.below {w u : World} {a : Option Addr} {len : Nat} (h : Cd w a len) (hb : Below w.heap.size w u) : Cd u a len :=
  ⟨h.1, fun hp => by
    obtain ⟨b, off, e, h1, h2⟩ := h.2 hp
    exact ⟨b, off, e, by have := hb.size; omega, fun i hi => by obtain ⟨v, v0, v1, hv⟩ := h2 i hi; exact ⟨v, v0, v1, (hb.cell (p := ⟨b, off + i, none⟩) h1).trans hv⟩⟩⟩

theorem Cd.src {w : World} {a : Option Addr} {len cap : Nat} (h : Cd w a len) (t : TypeId) : Src (w.alloc (.cells #[.slice a len cap, .int .i64 0] t)) w.heap.size a len cap 0 :=
  ⟨by simp, by simp, by simp, by simp, h.1, fun hp => by
    obtain ⟨b, off, e, h1, h2⟩ := h.2 hp
    exact ⟨b, off, e, h1, fun i hi => by obtain ⟨v, v0, v1, hv⟩ := h2 i hi; exact ⟨v, v0, v1, (World.cell?_alloc_past _ _ _ h1).trans hv⟩⟩⟩

set_option maxRecDepth 100000 in
theorem l1Source_calls (a : Option Addr) (len cap : Nat) (w : World) :
    Calls Tryd.prog 22 #[.slice a len cap] w fun e w' => e = .returned (.pointer (some ⟨w.heap.size, 0, none⟩)) ∧ w' = w.alloc (.cells #[.slice a len cap, .int .i64 0] 67) := by
  go_enter Tryd.func22, Tryd.ntmps22
  go_wp2
  go_ret
  exact ⟨rfl, rfl⟩

theorem Fr.lo {w : World} {lo l2 : Nat} {a : Option Addr} {n : Nat} {xs : List Int} (h : Fr w lo a n xs) (hl : l2 ≤ lo) : Fr w l2 a n xs :=
  ⟨h.1, h.2.1, fun hp => by obtain ⟨b, off, e, h1, h2⟩ := h.2.2 hp; exact ⟨b, off, e, by omega, h2⟩⟩

theorem all_ok {zs : List Int} (h : ∀ v ∈ zs, 0 ≤ v ∧ v ≤ 5) : zs.all okI = true := by
  rw [List.all_eq_true]
  intro v hv
  have := h v hv
  simp [okI, this.1, this.2]

theorem four_at {wr : World} {t : TypeId} : ∀ i, i < 4 → ((wr.alloc (.cells #[.int .i64 52, .int .i64 74, .int .i64 42, .int .i64 120] t))).cell? ⟨wr.heap.size, i, none⟩ = some (.int .i64 (gt [52, 74, 42, 120] i)) := by
  intro i hi
  rw [World.cell?_alloc_new]
  rcases (by omega : i = 0 ∨ i = 1 ∨ i = 2 ∨ i = 3) with rfl | rfl | rfl | rfl <;> rfl

set_option maxRecDepth 100000 in
set_option maxHeartbeats 4000000 in
theorem drawParseLabel_calls (a : Option Addr) (len cap : Nat) (w : World) (hc : Cd w a len) :
    Calls Tryd.prog 7 #[.slice a len cap] w fun e w' => ∃ s : ByteArray, e = .returned (.string s) ∧ s.size ≤ 4 ∧ Below w.heap.size w w' := by
  have s0 := hc.src (cap := cap) 67
  have b0 := (Below.refl w.heap.size w).alloc (Nat.le_refl _) (.cells #[.slice a len cap, .int .i64 0] 67)
  go_enter Tryd.func7, Tryd.ntmps7
  go_wp2_with (go_at_call 22; refine (l1Source_calls a len cap _).mono ?_; rintro e w0 ⟨rfl, rfl⟩)
  refine (l1DrawR_calls w.heap.size a len cap 0 _ (by omega) s0).mono ?_
  rintro e w1 ⟨ra, rc, zs, t1, rfl, hcap, ho, s1, ht1, o1, hrg⟩
  obtain ⟨g, rfl, hgB, hgT, blk, h4⟩ := ho.four
  have hz1 : w.heap.size < w1.heap.size := s1.1
  have b1 : Below w.heap.size w w1 := b0.trans (o1.below (Nat.le_refl _) (by simp))
  have al := (Below.refl w1.heap.size w1).alloc (Nat.le_refl _) (.cells #[.slice (some ⟨g, 0, none⟩) 4 rc] 27)
  have hsl := (blk.below al).sl
  rw [h4] at hsl
  have hft := fault_ok zs h4 (all_ok hrg)
  have s1' := s1.below al
  have b1' := b1.trans (al.mono (by omega))
  clear ho o1 hrg blk b0 s0 b1 s1
  go_wp2_with fail
  refine (l1Text_calls w1.heap.size (some ⟨g, 0, none⟩) rc zs _ hft (by simp) (by simp) hsl).mono ?_
  rintro e w2 ⟨rfl, g2⟩
  have hst : (strOfNums (zs.map sg)).size = 4 := by rw [strOfNums_size]; simpa using h4
  generalize strOfNums (zs.map sg) = st at hst
  have s2 := s1'.below g2
  have b2 := b1'.trans (g2.mono (by simp; omega))
  have hz2 : w.heap.size < w2.heap.size := s2.1
  obtain ⟨kc, W, x0, x1, x2, x3, hk, hkm, hcv, bW, hB⟩ := lay4 w2 st hst
  have s3 := s2.below bW
  have b3 := b2.trans (bW.mono (by omega))
  clear al hsl hft s1' b1' g2 s2 b2 h4 hst hcap hgB hgT
  go_wp2_with fail
  refine (l1Next_calls w.heap.size a len cap t1 6 _ (by omega) (by omega) (by omega) s3).mono ?_
  rintro e w3 ⟨q, rfl, q0, q1, s4, o4⟩
  have hB4 := hB.outside o4 hz2
  have b4 : Below w.heap.size w w3 := b3.trans (o4.below (Nat.le_refl _) (by have := s3.1; omega))
  clear hcv bW hB s3 o4 b3 hz1
  by_cases hq0 : q = 0
  · have e0 : (q == 0) = true := by simp [hq0]
    have hz3 : w.heap.size < w3.heap.size := s4.1
    clear hq0 q0 q1
    go_wp2_with fail
    refine (l1Next_calls w.heap.size a len cap (t1 + 1) 4 _ (by omega) (by omega) (by omega) s4).mono ?_
    rintro e w4 ⟨r, rfl, r0, r1, s5, o5⟩
    have hB5 := hB4.outside o5 hz2
    have b5 : Below w.heap.size w w4 := b4.trans (o5.below (Nat.le_refl _) (by omega))
    have al := (Below.refl w4.heap.size w4).alloc (Nat.le_refl _) (.cells #[.int .i64 52, .int .i64 74, .int .i64 42, .int .i64 120] 2)
    have hz4 : w.heap.size < w4.heap.size := s5.1
    have s5' := s5.below al
    have hB5' := hB5.below al
    have b5' := b5.trans (al.mono (by omega))
    clear s4 o5 hB4 b4 s5 hB5 b5 al
    go_wp2_with fail
    refine (l1PickM_calls w.heap.size a len cap (t1 + 1 + 1) w4.heap.size 4 4 [52, 74, 42, 120] _ (by omega) (by omega) (by omega) s5' hz4 (by simp) rfl four_at).mono ?_
    rintro e w5 ⟨j, _, rfl, s6, o6⟩
    have hB6 := hB5'.outside o6 hz2
    have b6 : Below w.heap.size w w5 := b5'.trans (o6.below (Nat.le_refl _) (by simp; omega))
    generalize gt [52, 74, 42, 120] j = y
    obtain ⟨z, hz⟩ := hB6.cellAt r0 r1
    have hf := hB6.2 r.toNat (by omega)
    obtain ⟨z0, z1, z2, z3, hb⟩ := hB6.set r.toNat (by omega) (y % 256)
    have hcv2 := hb.conv kc
    have HB := hide b6
    clear s5' hB5' b5' o6 s6 hB6 b6 hb
    go_wp2
    go_ret
    exact ⟨_, rfl, by rw [strOfNums_size]; simp, HB.out.setCell (by show w.heap.size ≤ w2.heap.size; omega) _⟩
  · have e0 : (q == 0) = false := by simp [hq0]
    by_cases hq1 : q = 1
    · have e1 : (q == 1) = true := by simp [hq1]
      have hcv1 := hB4.conv1 (kc - 1)
      have HB := hide b4
      clear hq0 hq1 q0 q1 s4 b4 hB4
      go_wp2
      go_ret
      exact ⟨_, rfl, by rw [strOfNums_size]; simp, HB.out⟩
    · have e1 : (q == 1) = false := by simp [hq1]
      have hcv1 := hB4.conv kc
      have HB := hide b4
      clear hq0 hq1 q0 q1 s4 b4 hB4
      go_wp2
      go_ret
      exact ⟨_, rfl, by rw [strOfNums_size]; simp, HB.out⟩

set_option maxRecDepth 100000 in
theorem drawLabelText_calls (a : Option Addr) (len cap : Nat) (w : World) (hc : Cd w a len) :
    Calls Tryd.prog 11 #[.slice a len cap] w fun e w' => ∃ ra n rc xs, e = .returned (.agg #[.slice ra n rc]) ∧ Fr w' w.heap.size ra n xs ∧ Below w.heap.size w w' := by
  have b0 := (Below.refl w.heap.size w).alloc (Nat.le_refl _) (.cells #[.slice none 0 0] 27)
  have s0 := (hc.below b0).src (cap := cap) 67
  have b1 := b0.alloc (by simp) (.cells #[.slice a len cap, .int .i64 0] 67)
  go_enter Tryd.func11, Tryd.ntmps11
  go_wp2_with (go_at_call 22; refine (l1Source_calls a len cap _).mono ?_; rintro e w0 ⟨rfl, rfl⟩)
  simp only [World.size_alloc] at s0
  refine (l1Bent_calls (w.heap.size + 1) a len cap 0 _ (by omega) s0).mono ?_
  rintro e w1 ⟨ra, n, rc, xs, t', rfl, hfr, s1, ht', o1⟩
  simp only [World.size_alloc] at hfr
  have b2 : Below w.heap.size w w1 := b1.trans (o1.below (by omega) (by simp; omega))
  have r0 : w1.cell? ⟨w.heap.size, 0, none⟩ = some (.slice none 0 0) := (World.cell?_of_block (a := ⟨w.heap.size, 0, none⟩) (o1.block w.heap.size (by simp; omega) (.inl (by omega)))).trans (by go_simp)
  have f0 : w1.frozen? ⟨w.heap.size, 0, none⟩ = false := (World.frozen?_of_block (a := ⟨w.heap.size, 0, none⟩) (o1.block w.heap.size (by simp; omega) (.inl (by omega)))).trans (by go_simp)
  have HF := hide hfr
  have HB := hide b2
  clear hfr b2 s1 o1 b0 b1 s0
  go_wp2
  refine bodyPost_ret (v := .agg #[.slice ra n rc]) (by simp [results, Tryd.results11, go_sem, r0]) rfl ⟨ra, n, rc, xs, rfl, ?_, ?_⟩
  · exact Fr.lo (HF.out.setCell (q := ⟨w.heap.size, 0, none⟩) (by show w.heap.size < w.heap.size + 1 + 1; omega) _) (by omega)
  · exact HB.out.setCell (Nat.le_refl _) _

end Go.Proofs.YtknnahchhbobbaaDoor
