import Derived.Test.YtgkjmeogdomgmaaLbDrawM2
import Derived.WalkKit
import Derived.ProofKit
import Derived.OpenShut
import Derived.ShutString
import Derived.ChangeOld
import Derived.Below
import Derived.WalkSpells
import Derived.Deep.QuietTactic
import Derived.BigQuiet
import Derived.Deep.RegionWith
import Derived.Deep.WholeRow
import Derived.Deep.DeepCutAuto
import Derived.Deep.RegionHeld2
import Derived.Deep.AppendLies
import Derived.Deep.RegionLaw
namespace Go.Proofs.Ytgkjmeogdomgmaa
open Go.ChangeShapes Go.WideShapes Go.ChangeAt Go.RowKit

theorem pick3R {x y z : Int} {j : Nat} (hj : j < 3) (hx : 0 ≤ x ∧ x ≤ 5) (hy : 0 ≤ y ∧ y ≤ 5) (hz : 0 ≤ z ∧ z ≤ 5) : 0 ≤ gt [x, y, z] j ∧ gt [x, y, z] j ≤ 5 := by
  rcases (by omega : j = 0 ∨ j = 1 ∨ j = 2) with rfl | rfl | rfl
  · exact hx
  · exact hy
  · exact hz

theorem lit3s {wr : World} {t : TypeId} {x y z : Int} : ∀ i, i < 3 → (wr.alloc (.cells #[.int .i64 x, .int .i64 y, .int .i64 z] t)).cell? ⟨wr.heap.size, i, none⟩ = some (.int .i64 (gt [x, y, z] i)) := by
  intro i hi
  rw [World.cell?_alloc_new]
  rcases (by omega : i = 0 ∨ i = 1 ∨ i = 2) with rfl | rfl | rfl <;> rfl

theorem blk_lit4 (U : World) (x y z u : Int) (t : TypeId) : Blk (U.alloc (.cells #[.int .i64 x, .int .i64 y, .int .i64 z, .int .i64 u] t)) U.heap.size [x, y, z, u] := by
  refine ⟨by simp, fun i hi => ?_, fun i => by simp⟩
  simp at hi
  rw [World.cell?_alloc_new]
  rcases (by omega : i = 0 ∨ i = 1 ∨ i = 2 ∨ i = 3) with rfl | rfl | rfl | rfl <;> rfl

theorem fault4 {x y z u : Int} (hx : 0 ≤ x ∧ x ≤ 5) (hy : 0 ≤ y ∧ y ≤ 5) (hz : 0 ≤ z ∧ z ≤ 5) (hu : 0 ≤ u ∧ u ≤ 5) : fault [x, y, z, u] = 0 := by
  simp [fault, okI]
  omega

/-- what l3Some gives: a right label. -/
def DrewSo (p : Nat) (a : Option Addr) (len cap t : Nat) (w : World) (e : Ending) (w' : World) : Prop :=
  ∃ (ra : Option Addr) (rc : Nat) (zs : List Int) (t' : Nat), e = .returned (.agg #[.slice ra 4 rc]) ∧ OSl w' w.heap.size w'.heap.size ra 4 zs ∧ fault zs = 0 ∧ Src w' p a len cap t' ∧ t' ≤ t + 3 ∧ Outside p (p + 1) w w'

set_option maxRecDepth 100000 in
set_option maxHeartbeats 4000000 in
theorem l3Some_calls (p : Nat) (a : Option Addr) (len cap t : Nat) (st : Bool) (w : World) (ht : t ≤ 990000) (hs : Src w p a len cap t) :
    Calls Try.prog 121 #[.pointer (some ⟨p, 0, none⟩), .bool st] w (DrewSo p a len cap t w) := by
  have hp : p < w.heap.size := hs.1
  have M0 := (Mo.start p w).alloc1 hp (.slice none 0 0) 41
  have al0 := (((Below.refl w.heap.size w).alloc (Nat.le_refl _) (.cells #[.slice none 0 0] 41)).alloc (by simp) (.cells #[.int .i64 2, .int .i64 2, .int .i64 4] 2))
  have s0 := hs.below al0
  have M0' := M0.below ((Below.refl _ _).alloc (Nat.le_refl _) (.cells #[.int .i64 2, .int .i64 2, .int .i64 4] 2))
  have l0 := @lit3s (w.alloc (.cells #[.slice none 0 0] 41)) 2 2 2 4
  simp only [World.size_alloc] at l0
  clear M0 al0
  go_enter Try.func121, Try.ntmps121
  go_wp2_with fail
  refine (l1PickM_calls p a len cap t (w.heap.size + 1) 3 3 [2, 2, 4] _ (by omega) (by omega) (by omega) s0 (by omega) (by simp) rfl l0).mono ?_
  rintro e w1 ⟨j, hj, rfl, s1, o1⟩
  have hx := pick3R (x := 2) (y := 2) (z := 4) hj (by omega) (by omega) (by omega)
  generalize gt [2, 2, 4] j = x at hx
  have M1 := M0'.next o1
  have hp1 := s1.1
  have al1 := (Below.refl w1.heap.size w1).alloc (Nat.le_refl _) (.cells #[.int .i64 2, .int .i64 2, .int .i64 3] 2)
  have s1' := s1.below al1
  have M1' := M1.below al1
  clear M0' s0 l0 o1 s1 M1 al1
  go_wp2_with fail
  refine (l1PickM_calls p a len cap (t + 1) w1.heap.size 3 3 [2, 2, 3] _ (by omega) (by omega) (by omega) s1' hp1 (by simp) rfl lit3s).mono ?_
  rintro e w2 ⟨j2, hj2, rfl, s2, o2⟩
  have hy := pick3R (x := 2) (y := 2) (z := 3) hj2 (by omega) (by omega) (by omega)
  generalize gt [2, 2, 3] j2 = y at hy
  have M2 := M1'.next o2
  have z2 := o2.size
  simp only [World.size_alloc] at z2
  have hR := M2.lt 0 rfl
  have blk := blk_lit4 w2 x y 2 2 2
  have al2 := (((Below.refl w2.heap.size w2).alloc (Nat.le_refl _) (.cells #[.int .i64 x, .int .i64 y, .int .i64 2, .int .i64 2] 2)).alloc (by simp) (.cells #[.slice (some ⟨w2.heap.size, 0, none⟩) 4 4] 41))
  have blk' := blk.below ((Below.refl _ _).alloc (Nat.le_refl _) (.cells #[.slice (some ⟨w2.heap.size, 0, none⟩) 4 4] 41))
  have s2' := s2.below al2
  have M2' := M2.below al2
  obtain ⟨X, hX⟩ : ∃ X : World, X = ((w2.alloc (.cells #[.int .i64 x, .int .i64 y, .int .i64 2, .int .i64 2] 2)).alloc (.cells #[.slice (some ⟨w2.heap.size, 0, none⟩) 4 4] 41)) := ⟨_, rfl⟩
  have v0 : X.cell? ⟨w2.heap.size + 1, 0, none⟩ = some (.slice (some ⟨w2.heap.size, 0, none⟩) 4 4) := by rw [hX]; go_simp
  have hXz : X.heap.size = w2.heap.size + 1 + 1 := by rw [hX]; simp
  rw [← hX] at blk' s2' M2'
  have HX := hide hX
  clear M1' s1' o2 M2 s2 al2 blk hX
  cases st with
  | false =>
    have d0 := M2'.cell 0 rfl
    have e0 := M2'.fz 0 rfl
    have HO := hide M2'.out
    have HK := hide blk'
    have HS := hide s2'
    clear M2' s2' blk'
    go_upto_region 2 with fail
    rw [← HX.out]
    go_wp2
    exact bodyPost_ret (v := .agg #[.slice (some ⟨w2.heap.size, 0, none⟩) 4 4]) (by simp [results, Try.results121, go_sem, d0]) rfl ⟨_, _, [x, y, 2, 2], t + 1 + 1, rfl, OSl.ofBlk (HK.out.setCell (by simp; omega) _) (by omega) rfl (by omega), fault4 hx hy (by omega) (by omega), HS.out.setCell (by exact hp) _, by omega, HO.out.setNew (Nat.le_refl _) _⟩
  | true =>
    go_upto_region 2 with fail
    rw [← HX.out]
    go_wp2_with fail
    refine (l1Chance_calls p a len cap (t + 1 + 1) 4 _ (by omega) (by omega) (by omega) s2').mono ?_
    rintro e w3 ⟨ch, rfl, s3, o3⟩
    have M3 := M2'.next o3
    have blk3 := blk'.outside o3 (by omega)
    have v3 := o3.cell (q := ⟨w2.heap.size + 1, 0, none⟩) (by show w2.heap.size + 1 < _; omega) (by show p + 1 ≤ w2.heap.size + 1; omega) v0
    have d0 := M3.cell 0 rfl
    have e0 := M3.fz 0 rfl
    have b0 : w3.cell? ⟨w2.heap.size, 0, none⟩ = some (.int .i64 x) := blk3.2.1 0 (by simp)
    have bf := blk3.2.2 0
    have HO := hide M3.out
    have HK := hide blk3
    have HS := hide s3
    have z3 := o3.size
    have hV : w2.heap.size ≠ w2.heap.size + 1 := by omega
    have hR2 : w2.heap.size ≠ w.heap.size := by omega
    clear M2' s2' blk' v0 M3 o3 blk3 s3 HX
    cases ch with
    | false =>
      go_wp2
      exact bodyPost_ret (v := .agg #[.slice (some ⟨w2.heap.size, 0, none⟩) 4 4]) (by simp [results, Try.results121, go_sem, d0]) rfl ⟨_, _, [x, y, 2, 2], _, rfl, OSl.ofBlk (HK.out.setCell (by simp; omega) _) (by omega) rfl (by omega), fault4 hx hy (by omega) (by omega), HS.out.setCell (by exact hp) _, by omega, HO.out.setNew (Nat.le_refl _) _⟩
    | true =>
      have xu : (w3.setCell ⟨w2.heap.size, 0, none⟩ (.int .i64 0)).cell? ⟨w2.heap.size + 1, 0, none⟩ = some (.slice (some ⟨w2.heap.size, 0, none⟩) 4 4) := by
        rw [World.cell?_setCell_other _ _ _ _ (fun e => hV (by injection e with e1))]; exact v3
      have ru : (w3.setCell ⟨w2.heap.size, 0, none⟩ (.int .i64 0)).cell? ⟨w.heap.size, 0, none⟩ = some (.slice none 0 0) := by
        rw [World.cell?_setCell_other _ _ _ _ (fun e => hR2 (by injection e with e1))]; exact d0
      have HK2 := hide (Blk.store (x := 0) HK.out (show 0 < [x, y, 2, 2].length by simp))
      have HS2 := hide (HS.out.setCell (q := ⟨w2.heap.size, 0, none⟩) (by show p < w2.heap.size; omega) (.int .i64 0))
      have HO2 := hide (HO.out.setNew (q := ⟨w2.heap.size, 0, none⟩) (by show w.heap.size ≤ w2.heap.size; omega) (.int .i64 0))
      go_wp2
      exact bodyPost_ret (v := .agg #[.slice (some ⟨w2.heap.size, 0, none⟩) 4 4]) (by simp [results, Try.results121, go_sem, ru]) rfl ⟨_, _, [0, y, 2, 2], _, rfl, OSl.ofBlk (HK2.out.setCell (by simp; omega) _) (by omega) rfl (by omega), fault4 (by omega) hy (by omega) (by omega), HS2.out.setCell (by exact hp) _, by omega, HO2.out.setNew (Nat.le_refl _) _⟩

end Go.Proofs.Ytgkjmeogdomgmaa
