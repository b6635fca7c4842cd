import Derived.Test.YtlilbbkidaahlaaBentR
import Derived.WalkKit
import Derived.ProofKit
import Derived.OpenShut
import Derived.ShutString
import Derived.ChangeOld
import Derived.Below
import Derived.WalkSpells
import Derived.Deep.QuietTactic
import Derived.BigQuiet
import Derived.Deep.RegionWith
import Derived.Deep.WholeRow
import Derived.Deep.DeepCutAuto
import Derived.Deep.RegionHeld2
import Derived.Deep.AppendLies
import Derived.Deep.RegionLaw
namespace Go.Proofs.Ytlilbbkidaahlaa
open Go.ChangeShapes Go.WideShapes Go.ChangeAt Go.RowKit

set_option maxRecDepth 100000 in
set_option maxHeartbeats 40000000 in
theorem l4Bent_calls (p : Nat) (a : Option Addr) (len cap t : Nat) (w : World) (ht : t ≤ 980000) (hs : Src w p a len cap t) :
    Calls Try.prog 14 #[.pointer (some ⟨p, 0, none⟩)] w (BentC p a len cap t w) := by
  have hp : p < w.heap.size := hs.1
  have M0 := (Mo.start p w).alloc2 hp (.int .i64 0) (.slice none 0 0) 26
  have s0 := hs.below ((Below.refl _ _).alloc (Nat.le_refl _) (.cells #[.int .i64 0, .slice none 0 0] 26))
  go_enter Try.func14, Try.ntmps14
  go_wp2_with fail
  refine (l4Draw_calls p a len cap t _ (by omega) s0).mono ?_
  rintro e w1 ⟨s, ra, n, rc, ls, t1, rfl, own, hl, hn, hns, s1, ht1, o1⟩
  have M1 := M0.next o1
  have z1 := o1.size
  simp only [World.size_alloc] at z1 own
  clear M0 s0 o1
  have al := (Below.refl w1.heap.size w1).alloc (Nat.le_refl _) (.cells #[.int .i64 s, .slice ra n rc] 26)
  have V1 : CV (w1.alloc (.cells #[.int .i64 s, .slice ra n rc] 26)) (w.heap.size + 1) w1.heap.size s (.slice ra n rc) n ls :=
    ⟨by omega, by simp, by simp, by simp, by simp, by simp, own_below (own_mono own (by omega)) al, hl, fun e => by have := (own_ge own e).2; omega⟩
  have s1' := s1.below al
  have M1' := M1.below al
  have hpB : p < w.heap.size + 1 := by omega
  clear own s1 M1 al
  go_wp2_with fail
  refine (l1Next_calls p a len cap t1 12 _ (by omega) (by omega) (by omega) s1').mono ?_
  rintro e w2 ⟨q, rfl, q0, q1, s2, o2⟩
  have V2 := V1.outside o2 hpB
  have M2 := M1'.next o2
  have z2 := V2.lt
  have hne : w1.heap.size ≠ w.heap.size := by omega
  clear V1 M1' s1' o2
  by_cases hq0 : q = 0
  · have hb0 : (q == 0) = true := by simp [hq0]
    have s2' := s2.below ((Below.refl _ _).alloc (Nat.le_refl _) (.cells #[.int .i64 (-1), .int .i64 0, .int .i64 7] 2))
    have M2' := M2.below ((Below.refl _ _).alloc (Nat.le_refl _) (.cells #[.int .i64 (-1), .int .i64 0, .int .i64 7] 2))
    have V2' := V2.below ((Below.refl _ _).alloc (Nat.le_refl _) (.cells #[.int .i64 (-1), .int .i64 0, .int .i64 7] 2))
    have hp2 := s2.1
    clear hq0 q0 q1 s2 M2 V2
    go_wp2_with fail
    refine (l1PickM_calls p a len cap (t1 + 1) w2.heap.size 3 3 [-1, 0, 7] _ (by omega) (by omega) (by omega) s2' hp2 (by simp) rfl at3).mono ?_
    rintro e w3 ⟨j, _, rfl, s3, o3⟩
    have V3 := V2'.outside o3 hpB
    have M3 := M2'.next o3
    clear s2' M2' V2' o3
    generalize gt [-1, 0, 7] j = x
    have c0 := V3.c0
    have c1 := V3.c1
    have g0 := V3.f0
    have d0 := M3.cell 0 rfl
    have d1 := M3.cell 1 rfl
    have e0 := M3.fz 0 rfl
    have e1 := M3.fz 1 rfl
    have HO := hide M3.out
    have HV := hide V3
    have HS := hide s3
    clear M3 V3 s3
    go_wp2
    exact bodyPost_ret (v := .agg #[.int .i64 x, .slice ra n rc]) (by simp [results, Try.results14, go_sem, d0, d1]) rfl (BentC.mk
      (own_set (own_set (own_set HV.out.own HV.out.ne _) (fun e => by have := (own_ge HV.out.own e).1; simp only at this; omega) _) (fun e => by have := (own_ge HV.out.own e).1; simp only at this; omega) _) hl (by omega) (((HS.out.setCell (by show p < w1.heap.size; omega) _).setCell (by exact hp) _).setCell (by exact hp) _) (by omega) (((HO.out.setNew (by show w.heap.size ≤ w1.heap.size; omega) _).setNew (Nat.le_refl _) _).setNew (Nat.le_refl _) _))
  · have hb0 : (q == 0) = false := by simp [hq0]
    by_cases hq1 : q = 1
    · have hb1 : (q == 1) = true := by simp [hq1]
      have HK0 : Hid (KB p a len cap w (w.heap.size + 1) w1.heap.size s (.slice ra n rc) n ls (t1 + 1) w2) := ⟨s2, V2, M2⟩
      have c1 := V2.c1
      have hp2 : p < w2.heap.size := s2.1
      have hP2 : p < w1.heap.size := by omega
      have htt : t1 + 1 ≤ 999000 := by omega
      clear hq0 hq1
      have hq1 : p < w2.heap.size + 1 := by omega
      have hP3a : w1.heap.size < w2.heap.size + 1 := by omega
      have hP3b : w1.heap.size < w2.heap.size + 1 + 1 := by omega
      have hq2 : p < w2.heap.size + 1 + 1 := by omega
      clear q0 q1 M2 V2 s2
      go_wp2_with fail
      refine bent_region (T0 := t1 + 1) (B := w.heap.size + 1) (P := w1.heap.size) (by omega) hpB (by omega) (fun _ x y _ e h => by cases x; cases y; cases e; exact h) ?_ w2 HK0.out _ _ _ _ _ _ _ _ _ _ _
      intro Y w5 y1 y2 y3 g cp x19 x22 x25 hk3 k0 k1 k2 k3 k4 k5
      have HK3 := hide hk3
      have HA := hide k3
      have HN := hide k4
      have HX := hide k5
      clear hk3 k3 k4 k5
      have M5 := HK3.out.mo.belowB HX.out (by omega) (by simp) (by simp)
      have s5 := HK3.out.src.belowB HX.out hpB
      have d0 := M5.cell 0 rfl
      have d1 := M5.cell 1 rfl
      have e0 := M5.fz 0 rfl
      have e1 := M5.fz 1 rfl
      have HO := hide M5.out
      have HS := hide s5
      have hgP : g ≠ w1.heap.size := HN.out
      have hge : w.heap.size + 1 ≤ g := (own_ge (g := g) HA.out rfl).1
      have hgR : g ≠ w.heap.size := by omega
      clear M5 s5
      go_wp2
      exact bodyPost_ret (v := .agg #[.int .i64 s, .slice (some ⟨g, 0, none⟩) (n + 1) cp]) (by simp [results, Try.results14, go_sem, d0, d1]) rfl (BentC.mk
        (own_set (own_set (own_set HA.out (fun e => by simp [Value.ownBlock] at e; omega) _) (fun e => by simp [Value.ownBlock] at e; omega) _) (fun e => by simp [Value.ownBlock] at e; omega) _) (by simp; omega) (by omega) (((HS.out.setCell (by show p < w1.heap.size; omega) _).setCell (by exact hp) _).setCell (by exact hp) _) (by omega) (((HO.out.setNew (by show w.heap.size ≤ w1.heap.size; omega) _).setNew (Nat.le_refl _) _).setNew (Nat.le_refl _) _))
    · have hb1 : (q == 1) = false := by simp [hq1]
      have c0 := V2.c0
      have c1 := V2.c1
      have d0 := M2.cell 0 rfl
      have d1 := M2.cell 1 rfl
      have e0 := M2.fz 0 rfl
      have e1 := M2.fz 1 rfl
      have HO := hide M2.out
      have HV := hide V2
      have HS := hide s2
      clear M2 V2 s2 hq0 hq1 q0 q1
      go_wp2
      exact bodyPost_ret (v := .agg #[.int .i64 s, .slice ra n rc]) (by simp [results, Try.results14, go_sem, d0, d1]) rfl (BentC.mk
        (own_set (own_set HV.out.own (fun e => by have := (own_ge HV.out.own e).1; simp only at this; omega) _) (fun e => by have := (own_ge HV.out.own e).1; simp only at this; omega) _) hl (by omega) ((HS.out.setCell (by exact hp) _).setCell (by exact hp) _) (by omega) ((HO.out.setNew (Nat.le_refl _) _).setNew (Nat.le_refl _) _))

end Go.Proofs.Ytlilbbkidaahlaa
