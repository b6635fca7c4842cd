import Derived.Test.YtpcdfeccmiiglaaLbDrawM2
import Derived.Test.YtpcdfeccmiiglaaThing
import Derived.WalkKit
import Derived.ProofKit
import Derived.OpenShut
import Derived.ShutString
import Derived.ChangeOld
import Derived.Below
import Derived.WalkSpells
import Derived.Deep.QuietTactic
import Derived.BigQuiet
import Derived.Deep.RegionWith
import Derived.Deep.WholeRow
import Derived.Deep.DeepCutAuto
import Derived.Deep.RegionHeld2
import Derived.Deep.AppendLies
import Derived.Deep.RegionLaw
namespace Go.Proofs.Ytpcdfeccmiiglaa
open Go.ChangeShapes Go.WideShapes Go.ChangeAt Go.RowKit

theorem lit3s {wr : World} {t : TypeId} {x y z : Int} : ∀ i, i < 3 → (wr.alloc (.cells #[.int .i64 x, .int .i64 y, .int .i64 z] t)).cell? ⟨wr.heap.size, i, none⟩ = some (.int .i64 (gt [x, y, z] i)) := by
  intro i hi
  rw [World.cell?_alloc_new]
  rcases (by omega : i = 0 ∨ i = 1 ∨ i = 2) with rfl | rfl | rfl <;> rfl

theorem blk_lit4 (U : World) (x y z u : Int) (t : TypeId) : Blk (U.alloc (.cells #[.int .i64 x, .int .i64 y, .int .i64 z, .int .i64 u] t)) U.heap.size [x, y, z, u] := by
  refine ⟨by simp, fun i hi => ?_, fun i => by simp⟩
  simp at hi
  rw [World.cell?_alloc_new]
  rcases (by omega : i = 0 ∨ i = 1 ∨ i = 2 ∨ i = 3) with rfl | rfl | rfl | rfl <;> rfl

theorem fault4 {x y z u : Int} (hx : 0 ≤ x ∧ x ≤ 5) (hy : 0 ≤ y ∧ y ≤ 5) (hz : 0 ≤ z ∧ z ≤ 5) (hu : 0 ≤ u ∧ u ≤ 5) : fault [x, y, z, u] = 0 := by
  simp [fault, okI]
  omega

theorem pick3T {x y z : Int} {j : Nat} (hj : j < 3) (hx : 1 ≤ x ∧ x ≤ 4) (hy : 1 ≤ y ∧ y ≤ 4) (hz : 1 ≤ z ∧ z ≤ 4) : 1 ≤ gt [x, y, z] j ∧ gt [x, y, z] j ≤ 4 := by
  rcases (by omega : j = 0 ∨ j = 1 ∨ j = 2) with rfl | rfl | rfl
  · exact hx
  · exact hy
  · exact hz

theorem thing4 {x y : Int} (hx : 1 ≤ x ∧ x ≤ 4) (hy : 1 ≤ y ∧ y ≤ 4) : thing0 [x, y, 2, 2] = true := by
  apply thing0_yes
  intro j hj
  simp at hj
  rcases (by omega : j = 0 ∨ j = 1 ∨ j = 2 ∨ j = 3) with rfl | rfl | rfl | rfl
  · show x ≠ 0 ∧ x ≠ 5; omega
  · show y ≠ 0 ∧ y ≠ 5; omega
  · show (2 : Int) ≠ 0 ∧ (2 : Int) ≠ 5; omega
  · show (2 : Int) ≠ 0 ∧ (2 : Int) ≠ 5; omega

/-- what l3Some gives of no star: a thing's label. -/
def DrewTh (p : Nat) (a : Option Addr) (len cap t : Nat) (w : World) (e : Ending) (w' : World) : Prop :=
  ∃ (ra : Option Addr) (rc : Nat) (zs : List Int) (t' : Nat), e = .returned (.agg #[.slice ra 4 rc]) ∧ OSl w' w.heap.size w'.heap.size ra 4 zs ∧ fault zs = 0 ∧ thing0 zs = true ∧ Src w' p a len cap t' ∧ t' ≤ t + 3 ∧ Outside p (p + 1) w w'

set_option maxRecDepth 100000 in
set_option maxHeartbeats 4000000 in
theorem l3Thing_calls (p : Nat) (a : Option Addr) (len cap t : Nat) (w : World) (ht : t ≤ 990000) (hs : Src w p a len cap t) :
    Calls Try.prog 91 #[.pointer (some ⟨p, 0, none⟩), .bool false] w (DrewTh p a len cap t w) := by
  have hp : p < w.heap.size := hs.1
  have M0 := (Mo.start p w).alloc1 hp (.slice none 0 0) 47
  have al0 := (((Below.refl w.heap.size w).alloc (Nat.le_refl _) (.cells #[.slice none 0 0] 47)).alloc (by simp) (.cells #[.int .i64 2, .int .i64 2, .int .i64 4] 2))
  have s0 := hs.below al0
  have M0' := M0.below ((Below.refl _ _).alloc (Nat.le_refl _) (.cells #[.int .i64 2, .int .i64 2, .int .i64 4] 2))
  have l0 := @lit3s (w.alloc (.cells #[.slice none 0 0] 47)) 2 2 2 4
  simp only [World.size_alloc] at l0
  clear M0 al0
  go_enter Try.func91, Try.ntmps91
  go_wp2_with fail
  refine (l1PickM_calls p a len cap t (w.heap.size + 1) 3 3 [2, 2, 4] _ (by omega) (by omega) (by omega) s0 (by omega) (by simp) rfl l0).mono ?_
  rintro e w1 ⟨j, hj, rfl, s1, o1⟩
  have hx := pick3T (x := 2) (y := 2) (z := 4) hj (by omega) (by omega) (by omega)
  generalize gt [2, 2, 4] j = x at hx
  have M1 := M0'.next o1
  have hp1 := s1.1
  have al1 := (Below.refl w1.heap.size w1).alloc (Nat.le_refl _) (.cells #[.int .i64 2, .int .i64 2, .int .i64 3] 2)
  have s1' := s1.below al1
  have M1' := M1.below al1
  clear M0' s0 l0 o1 s1 M1 al1
  go_wp2_with fail
  refine (l1PickM_calls p a len cap (t + 1) w1.heap.size 3 3 [2, 2, 3] _ (by omega) (by omega) (by omega) s1' hp1 (by simp) rfl lit3s).mono ?_
  rintro e w2 ⟨j2, hj2, rfl, s2, o2⟩
  have hy := pick3T (x := 2) (y := 2) (z := 3) hj2 (by omega) (by omega) (by omega)
  generalize gt [2, 2, 3] j2 = y at hy
  have M2 := M1'.next o2
  have z2 := o2.size
  simp only [World.size_alloc] at z2
  have hR := M2.lt 0 rfl
  have blk := blk_lit4 w2 x y 2 2 2
  have al2 := (((Below.refl w2.heap.size w2).alloc (Nat.le_refl _) (.cells #[.int .i64 x, .int .i64 y, .int .i64 2, .int .i64 2] 2)).alloc (by simp) (.cells #[.slice (some ⟨w2.heap.size, 0, none⟩) 4 4] 47))
  have blk' := blk.below ((Below.refl _ _).alloc (Nat.le_refl _) (.cells #[.slice (some ⟨w2.heap.size, 0, none⟩) 4 4] 47))
  have s2' := s2.below al2
  have M2' := M2.below al2
  obtain ⟨X, hX⟩ : ∃ X : World, X = ((w2.alloc (.cells #[.int .i64 x, .int .i64 y, .int .i64 2, .int .i64 2] 2)).alloc (.cells #[.slice (some ⟨w2.heap.size, 0, none⟩) 4 4] 47)) := ⟨_, rfl⟩
  have v0 : X.cell? ⟨w2.heap.size + 1, 0, none⟩ = some (.slice (some ⟨w2.heap.size, 0, none⟩) 4 4) := by rw [hX]; go_simp
  have hXz : X.heap.size = w2.heap.size + 1 + 1 := by rw [hX]; simp
  rw [← hX] at blk' s2' M2'
  have HX := hide hX
  clear M1' s1' o2 M2 s2 al2 blk hX
  have d0 := M2'.cell 0 rfl
  have e0 := M2'.fz 0 rfl
  have HO := hide M2'.out
  have HK := hide blk'
  have HS := hide s2'
  clear M2' s2' blk'
  go_upto_region 2 with fail
  rw [← HX.out]
  go_wp2
  exact bodyPost_ret (v := .agg #[.slice (some ⟨w2.heap.size, 0, none⟩) 4 4]) (by simp [results, Try.results91, go_sem, d0]) rfl ⟨_, _, [x, y, 2, 2], t + 1 + 1, rfl, OSl.ofBlk (HK.out.setCell (by simp; omega) _) (by omega) rfl (by omega), fault4 (by omega) (by omega) (by omega) (by omega), thing4 hx hy, HS.out.setCell (by exact hp) _, by omega, HO.out.setNew (Nat.le_refl _) _⟩

end Go.Proofs.Ytpcdfeccmiiglaa
