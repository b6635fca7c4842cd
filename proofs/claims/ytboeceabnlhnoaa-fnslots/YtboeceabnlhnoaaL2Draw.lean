import Derived.Test.YtboeceabnlhnoaaRV
import Derived.Test.YtboeceabnlhnoaaLbDrawM2
import Derived.WalkKit
import Derived.ProofKit
import Derived.OpenShut
import Derived.ShutString
import Derived.ChangeOld
import Derived.Below
import Derived.WalkSpells
import Derived.Deep.QuietTactic
import Derived.BigQuiet
import Derived.Deep.RegionWith
import Derived.Deep.WholeRow
import Derived.Deep.DeepCutAuto
import Derived.Deep.RegionHeld2
import Derived.Deep.AppendLies
import Derived.Deep.RegionLaw
namespace Go.Proofs.Ytboeceabnlhnoaa
open Go.ChangeShapes Go.WideShapes Go.ChangeAt Go.RowKit

/-- what l2Draw gives. -/
def DrewR (p : Nat) (a : Option Addr) (len cap t : Nat) (w : World) (e : Ending) (w' : World) : Prop :=
  ∃ (S : Nat → Prop) (ra : Option Addr) (n rc : Nat) (ss : List (Int × List Int)) (t' : Nat), e = .returned (.agg #[.slice ra n rc]) ∧ OR S ra n ss w' ∧ (∃ ys, w'.ownsRow (w.heap.size + 1 + 1) 72 2 (.slice ra n rc) n ys) ∧ (∀ g, (Value.slice ra n rc).ownBlock = some g → S g) ∧ (∀ k, S k → w.heap.size + 1 + 1 ≤ k ∧ k < w'.heap.size) ∧ Good ss ∧ Src w' p a len cap t' ∧ t' ≤ t + 100 ∧ Outside p (p + 1) w w'

set_option maxRecDepth 100000 in
set_option maxHeartbeats 8000000 in
theorem l2Draw_calls (p : Nat) (a : Option Addr) (len cap t : Nat) (w : World) (ht : t ≤ 990000) (hs : Src w p a len cap t) :
    Calls Try.prog 46 #[.pointer (some ⟨p, 0, none⟩)] w (DrewR p a len cap t w) := by
  have hp : p < w.heap.size := hs.1
  have M0 := (Mo.start p w).alloc1 hp (.slice none 0 0) 26
  have V0 := RV.new (w.alloc (.cells #[.slice none 0 0] 26)) 26
  have s0 := hs.below (((Below.refl _ _).alloc (Nat.le_refl _) (.cells #[.slice none 0 0] 26)).alloc (by simp) (.cells #[.slice none 0 0] 26))
  have M0' := M0.below ((Below.refl _ _).alloc (Nat.le_refl _) (.cells #[.slice none 0 0] 26))
  simp only [World.size_alloc] at V0
  clear M0
  go_enter Try.func46, Try.ntmps46
  go_wp2_with fail
  refine (l1Next_calls p a len cap t 10 _ (by omega) (by omega) (by omega) s0).mono ?_
  rintro e w1 ⟨r, rfl, r0, r1, s1, o1⟩
  have M1 := M0'.next o1
  have V1 := V0.outside o1 (by omega)
  clear M0' V0 s0 o1
  obtain ⟨K, rfl⟩ : ∃ K : Nat, r = (K : Int) := ⟨r.toNat, by omega⟩
  go_wp2
  go_loopw [4] (fun i wr => ∃ (k : Nat) (S : Nat → Prop) (ra : Option Addr) (n rc : Nat) (ss : List (Int × List Int)) (t' : Nat), k ≤ 9 ∧ i = .int .i64 k ∧ RV (w.heap.size + 1) S ra n rc ss wr ∧ Src wr p a len cap t' ∧ t' + 8 * k ≤ t + 1 + 80 ∧ Mo p w wr [(w.heap.size, 0, .slice none 0 0)] []) (fun i _ => (intOf i).toNat)
  case atStart => exact ⟨K, _, none, 0, 0, [], t + 1, by omega, rfl, V1, s1, by omega, M1⟩
  case round =>
    clear M1 V1 s1 r0 r1
    obtain ⟨k, S, ra, n, rc, ss, t', hk, rfl, V, src, htk, M⟩ := hrel
    have hn10 : n ≤ 10 := by have h1 := V.good.few; have h2 := V.o.1; omega
    have hsn : ss.length = n := V.o.1
    by_cases hlt : 0 < k
    · have hlt' : (0 : Int) < (k : Int) := by omega
      go_wp2_with fail
      refine (l1DrawR_calls p a len cap t' _ (by omega) src).mono ?_
      rintro e u1 ⟨la, lc, zs, t1, rfl, _, ol, s1, ht1, o1, hrng⟩
      have hz : fault zs = 0 := fault_rng ol.1 hrng
      have z1 := o1.size
      have al := (Below.refl u1.heap.size u1).alloc (Nat.le_refl _) (.cells #[.slice la 4 lc] 29)
      have V1 := (V.outside o1 (by omega)).below al
      have M1 := (M.next o1).below al
      have s1' := s1.below al
      have hq1 : w.heap.size + 1 < u1.heap.size := by have := (V.outside o1 (by omega)).lt; omega
      have ol1 := ol.below al
      have hpw : p < wr.heap.size := src.1
      have hSu : ∀ j, S j → j < u1.heap.size := fun j hj => ((V.outside o1 (by omega)).sS j hj).2
      have c1 : (u1.alloc (.cells #[.slice la 4 lc] 29)).cell? ⟨u1.heap.size, 0, none⟩ = some (.slice la 4 lc) := by simp
      clear V M src s1 ol o1 hrng
      go_wp2_with fail
      refine (l1Chance_calls p a len cap t1 4 _ (by omega) (by omega) (by omega) s1').mono ?_
      rintro e u2 ⟨ch, rfl, s2, o2⟩
      have z2 := o2.size
      simp only [World.size_alloc] at z2
      have V2 := V1.outside o2 (by omega)
      have M2 := M1.next o2
      have hpu : p + 1 ≤ u1.heap.size := by omega
      have c2 := o2.cell (q := ⟨u1.heap.size, 0, none⟩) (by simp) hpu c1
      have sl2 : Sl u2 la 4 zs := (ol1.map (fun b h1 _ k => k.outside o2 (by omega))).sl
      clear V1 M1 s1' al ol1 c1
      have q2 := V2.c
      cases ch with
      | false =>
        have hqS : ¬ S (w.heap.size + 1) := fun e => by have := (V2.sS _ e).1; omega
        have hrS : ¬ S u1.heap.size := fun e => by have := hSu _ e; omega
        obtain ⟨ys, hrow⟩ := V2.row
        go_wp2_with fail
        refine (l2Enter_S (w.heap.size + 1) u1.heap.size (w.heap.size + 1 + 1) S ra la n rc lc ss zs ys _ V2.lt hqS (by omega) hrS (by omega) V2.sS V2.c V2.f c2 V2.o hrow V2.vT V2.good sl2 hz).mono ?_
        intro e u4 he
        have B4 := V2.enterB he
        obtain ⟨S', ra', n', rc', ss', V4⟩ := V2.entered hz he
        obtain ⟨rfl, _⟩ := he
        have M4 := M2.belowB B4 (by omega) (by simp) (by simp)
        have s4 := s2.belowB B4 (by omega)
        have HV := hide V4
        have HM := hide M4
        have HS := hide s4
        clear V2 V4 M2 M4 s2 s4 B4 o2 c2 sl2 q2 hrow
        go_wp2
        go_roundw
        case rel => exact ⟨k - 1, S', ra', n', rc', ss', _, by omega, by go_num, HV.out, HS.out, by omega, HM.out⟩
        case measure => simp [intOf]; omega
      | true =>
        by_cases hn0 : 0 < n
        · have hn0' : (0 : Int) < (n : Int) := by omega
          clear c2 sl2
          go_wp2_with fail
          refine (l1Next_calls p a len cap (t1 + 1) (n : Int) _ (by omega) (by omega) (by omega) s2).mono ?_
          rintro e u3 ⟨j, rfl, j0, j1, s3, o3⟩
          have V3 := V2.outside o3 (by omega)
          have M3 := M2.next o3
          clear V2 M2 s2 q2 o2
          obtain ⟨j, rfl⟩ : ∃ i : Nat, j = (i : Int) := ⟨j.toNat, by omega⟩
          have hjn : j < n := by omega
          have q3 := V3.c
          obtain ⟨N, fa, fc, fb, rfl, hb⟩ := V3.o.body (by omega)
          have k0 := hb.c0 j hjn
          have hg0 := V3.good.low j (by omega)
          have hg9 := V3.good.top j (by omega)
          by_cases hg : 0 < gc ss j
          · have hq : ¬ S (w.heap.size + 1) := fun e => by have := (V3.sS _ e).1; omega
            have hgl := good_leave V3.good (q := j) (by omega) hg
            have hm := good_sum hgl
            rw [length_leaveS, hsn] at hm
            go_wp2_with fail
            refine (l2Leave_R (w.heap.size + 1) (w.heap.size + 1 + 1) S (some ⟨N, 0, none⟩) n rc ss j _ V3.c V3.o V3.row hq hjn (by omega) hg9 hm).mono ?_
            rintro e u4 ⟨rfl, o4, r4, os4⟩
            have V4 := V3.left (by omega) hg o4 r4 os4
            have B4 : Below (w.heap.size + 1) u3 u4 := os4.below (fun i hi => by have := (V3.sS i hi).1; omega) (by have := V3.lt; omega)
            have M4 := M3.belowB B4 (by omega) (by simp) (by simp)
            have s4 := s3.belowB B4 (by omega)
            have HV := hide V4
            have HM := hide M4
            have HS := hide s4
            clear V3 V4 M3 M4 s3 s4 B4 os4 o4 r4 hb q3 k0 o3
            go_wp2
            go_roundw
            case rel => exact ⟨k - 1, S, _, n, rc, _, _, by omega, by go_num, HV.out, HS.out, by omega, HM.out⟩
            case measure => simp [intOf]; omega
          · have hg' : ¬ 0 < gc ss j := hg
            have HV := hide V3
            have HM := hide M3
            have HS := hide s3
            clear V3 M3 s3 hb o3
            go_wp2
            go_roundw
            case rel => exact ⟨k - 1, S, _, n, rc, _, _, by omega, by go_num, HV.out, HS.out, by omega, HM.out⟩
            case measure => simp [intOf]; omega
        · have hn00 : n = 0 := by omega
          have hn0' : ¬ (0 : Int) < (n : Int) := by omega
          have hqS : ¬ S (w.heap.size + 1) := fun e => by have := (V2.sS _ e).1; omega
          have hrS : ¬ S u1.heap.size := fun e => by have := hSu _ e; omega
          obtain ⟨ys, hrow⟩ := V2.row
          go_wp2_with fail
          refine (l2Enter_S (w.heap.size + 1) u1.heap.size (w.heap.size + 1 + 1) S ra la n rc lc ss zs ys _ V2.lt hqS (by omega) hrS (by omega) V2.sS V2.c V2.f c2 V2.o hrow V2.vT V2.good sl2 hz).mono ?_
          intro e u4 he
          have B4 := V2.enterB he
          obtain ⟨S', ra', n', rc', ss', V4⟩ := V2.entered hz he
          obtain ⟨rfl, _⟩ := he
          have M4 := M2.belowB B4 (by omega) (by simp) (by simp)
          have s4 := s2.belowB B4 (by omega)
          have HV := hide V4
          have HM := hide M4
          have HS := hide s4
          clear V2 V4 M2 M4 s2 s4 B4 o2 c2 sl2 q2 hrow
          go_wp2
          go_roundw
          case rel => exact ⟨k - 1, S', ra', n', rc', ss', _, by omega, by go_num, HV.out, HS.out, by omega, HM.out⟩
          case measure => simp [intOf]; omega
    · have hk0 : k = 0 := by omega
      subst hk0
      have hlt' : ¬ (0 : Int) < 0 := by omega
      have c0 := V.c
      have d0 := M.cell 0 rfl
      have e0 := M.fz 0 rfl
      have HO := hide M.out
      have HV := hide V
      have HS := hide src
      clear M V src
      go_wp2
      refine bodyPost_ret (v := .agg #[.slice ra n rc]) (by simp [results, Try.results46, go_sem, d0]) rfl ⟨S, ra, n, rc, ss, t', rfl, ?_, ?_, HV.out.vT, fun j hj => ⟨(HV.out.sS j hj).1, by simpa using (HV.out.sS j hj).2⟩, HV.out.good, HS.out.setCell (by exact hp) _, by omega, HO.out.setNew (Nat.le_refl _) _⟩
      · exact OR.loc.setC HV.out.o (q := ⟨w.heap.size, 0, none⟩) (fun e => by have h1 : w.heap.size + 1 + 1 ≤ w.heap.size := (HV.out.sS _ e).1; omega) _
      · obtain ⟨ys, hy⟩ := HV.out.row
        exact ⟨ys, ownsRow_setCell_below hy (by show w.heap.size < _; omega) _⟩

end Go.Proofs.Ytboeceabnlhnoaa
