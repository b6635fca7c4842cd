import Derived.Test.YtlilbbkidaahlaaDrawN
import Derived.Test.YtlilbbkidaahlaaLnL
import Derived.WalkKit
import Derived.ProofKit
import Derived.OpenShut
import Derived.ShutString
import Derived.ChangeOld
import Derived.Below
import Derived.WalkSpells
import Derived.Deep.QuietTactic
import Derived.BigQuiet
import Derived.Deep.RegionWith
import Derived.Deep.WholeRow
import Derived.Deep.DeepCutAuto
import Derived.Deep.RegionHeld2
import Derived.Deep.AppendLies
import Derived.Deep.RegionLaw
namespace Go.Proofs.Ytlilbbkidaahlaa
open Go.ChangeShapes Go.WideShapes Go.ChangeAt Go.RowKit

theorem at3 {wr : World} {t : TypeId} {x y z : Int} : ∀ i, i < 3 → (wr.alloc (.cells #[.int .i64 x, .int .i64 y, .int .i64 z] t)).cell? ⟨wr.heap.size, i, none⟩ = some (.int .i64 (gt [x, y, z] i)) := by
  intro i hi
  rw [World.cell?_alloc_new]
  rcases (by omega : i = 0 ∨ i = 1 ∨ i = 2) with rfl | rfl | rfl <;> rfl

set_option maxRecDepth 100000 in
set_option maxHeartbeats 1000000 in
theorem l4DrawLine_calls (p : Nat) (a : Option Addr) (len cap t : Nat) (w : World) (ht : t ≤ 999000) (hs : Src w p a len cap t) :
    Calls Try.prog 15 #[.pointer (some ⟨p, 0, none⟩)] w fun e w' => ∃ d g q : Int, e = .returned (.agg #[.int .i64 d, .int .i64 g, .int .i64 q]) ∧ Src w' p a len cap (t + 1 + 1 + 1) ∧ Outside p (p + 1) w w' := by
  have hp : p < w.heap.size := hs.1
  have M0 := (Mo.start p w).alloc3 hp (.int .i64 0) (.int .i64 0) (.int .i64 0) 28
  have s0 := hs.below ((Below.refl _ _).alloc (Nat.le_refl _) (.cells #[.int .i64 0, .int .i64 0, .int .i64 0] 28))
  go_enter Try.func15, Try.ntmps15
  go_wp2_with fail
  refine (l1Next_calls p a len cap t 3 _ (by omega) (by omega) (by omega) s0).mono ?_
  rintro e w1 ⟨d, rfl, _, _, s1, o1⟩
  have M1 := M0.next o1
  clear M0 s0 o1
  go_wp2_with fail
  refine (l1Next_calls p a len cap (t + 1) 4 _ (by omega) (by omega) (by omega) s1).mono ?_
  rintro e w2 ⟨g, rfl, _, _, s2, o2⟩
  have M2 := M1.next o2
  have hp2 := s2.1
  have s2' := s2.below ((Below.refl _ _).alloc (Nat.le_refl _) (.cells #[.int .i64 0, .int .i64 5, .int .i64 7] 2))
  have M2' := M2.below ((Below.refl _ _).alloc (Nat.le_refl _) (.cells #[.int .i64 0, .int .i64 5, .int .i64 7] 2))
  clear M1 s1 o2 M2 s2
  go_wp2_with fail
  refine (l1PickM_calls p a len cap (t + 1 + 1) w2.heap.size 3 3 [0, 5, 7] _ (by omega) (by omega) (by omega) s2' hp2 (by simp) rfl at3).mono ?_
  rintro e w3 ⟨j, _, rfl, s3, o3⟩
  have M3 := M2'.next o3
  have c0 := M3.cell 0 rfl
  have c1 := M3.cell 1 rfl
  have c2 := M3.cell 2 rfl
  have f0 := M3.fz 0 rfl
  have f1 := M3.fz 1 rfl
  have f2 := M3.fz 2 rfl
  have HS := hide s3
  have HO := hide M3.out
  clear M2' M3 s2' o3 s3
  go_wp2
  exact bodyPost_ret (v := .agg #[.int .i64 d, .int .i64 g, .int .i64 (gt [0, 5, 7] j)]) (by simp [results, Try.results15, go_sem, c0, c1, c2]) rfl ⟨d, g, _, rfl, ((HS.out.setCell (by exact hp) _).setCell (by exact hp) _).setCell (by exact hp) _, ((HO.out.setNew (Nat.le_refl _) _).setNew (Nat.le_refl _) _).setNew (Nat.le_refl _) _⟩

end Go.Proofs.Ytlilbbkidaahlaa
