import Derived.Test.YtnibngigbcakkaaGreatF42
import Derived.Test.YtnibngigbcakkaaGreatF28
import Derived.Test.YtnibngigbcakkaaGreatF26
import Derived.Test.YtnibngigbcakkaaGreatF21
import Derived.WalkKit
import Derived.ProofKit
import Derived.OpenShut
import Derived.ShutString
import Derived.ChangeOld
import Derived.Below
import Derived.WalkSpells
import Derived.Deep.QuietTactic
import Derived.BigQuiet
import Derived.Deep.RegionWith
import Derived.Deep.WholeRow
import Derived.Deep.DeepCutAuto
import Derived.Deep.RegionHeld2
import Derived.Deep.AppendLies
import Derived.Deep.RegionLaw
namespace Go.Proofs.YtnibngigbcakkaaGreat
open Go.ChangeShapes Go.WideShapes Go.ChangeAt Go.RowKit

/-- the bytes of a code. -/
def Cd (w : World) (a : Option Addr) (len : Nat) : Prop :=
  len ≤ 1048576 ∧ (0 < len → ∃ b off, a = some ⟨b, off, none⟩ ∧ b < w.heap.size ∧ ∀ i, i < len → ∃ v : Int, 0 ≤ v ∧ v ≤ 255 ∧ w.cell? ⟨b, off + i, none⟩ = some (.int .u8 v))

theorem Cd.below {w u : World} {a : Option Addr} {len : Nat} (h : Cd w a len) (hb : Below w.heap.size w u) : Cd u a len :=
  ⟨h.1, fun hp => by
    obtain ⟨b, off, e, h1, h2⟩ := h.2 hp
    exact ⟨b, off, e, by have := hb.size; omega, fun i hi => by obtain ⟨v, v0, v1, hv⟩ := h2 i hi; exact ⟨v, v0, v1, (hb.cell (p := ⟨b, off + i, none⟩) h1).trans hv⟩⟩⟩

theorem Cd.src {w : World} {a : Option Addr} {len cap : Nat} (h : Cd w a len) (t : TypeId) : Src (w.alloc (.cells #[.slice a len cap, .int .i64 0] t)) w.heap.size a len cap 0 :=
  ⟨by simp, by simp, by simp, by simp, h.1, fun hp => by
    obtain ⟨b, off, e, h1, h2⟩ := h.2 hp
    exact ⟨b, off, e, h1, fun i hi => by obtain ⟨v, v0, v1, hv⟩ := h2 i hi; exact ⟨v, v0, v1, (World.cell?_alloc_past _ _ _ h1).trans hv⟩⟩⟩

set_option maxRecDepth 100000 in
theorem l1Source_calls (a : Option Addr) (len cap : Nat) (w : World) :
    Calls Tryz.prog 16 #[.slice a len cap] w fun e w' => e = .returned (.pointer (some ⟨w.heap.size, 0, none⟩)) ∧ w' = w.alloc (.cells #[.slice a len cap, .int .i64 0] 76) := by
  go_enter Tryz.func16, Tryz.ntmps16
  go_wp2
  go_ret
  exact ⟨rfl, rfl⟩

/-- what DrawFlushCache gives. -/
def DrewFl (w : World) (e : Ending) (w' : World) : Prop :=
  ∃ (s : Int) (ra : Option Addr) (n rc : Nat) (ls : List (Int × Int × Int)) (d g : Int), e = .returned (.tuple #[.agg #[.int .i64 s, .slice ra n rc], .int .i64 d, .int .i64 g]) ∧ OL (InR w.heap.size w'.heap.size) ra n ls w' ∧ n ≤ 7 ∧ n ≤ rc ∧ Below w.heap.size w w'

/-- what DrawEvictCache gives. -/
def DrewEv (w : World) (e : Ending) (w' : World) : Prop :=
  ∃ (s : Int) (ra : Option Addr) (n rc : Nat) (ls : List (Int × Int × Int)) (d : Int), e = .returned (.tuple #[.agg #[.int .i64 s, .slice ra n rc], .int .i64 d]) ∧ OL (InR w.heap.size w'.heap.size) ra n ls w' ∧ n ≤ 7 ∧ n ≤ rc ∧ Below w.heap.size w w'

theorem ol_fin {w X : World} {B T : Nat} {cs : List (Nat × Nat × Value)} {ra : Option Addr} {n : Nat} {ls : List (Int × Int × Int)} (M : Mm w X cs [(B, T, OL (InR B T) ra n ls)]) (hB : w.heap.size < B) (hT : T ≤ X.heap.size) (v0 v1 : Value) :
    OL (InR w.heap.size ((X.setCell ⟨w.heap.size, 0, none⟩ v0).setCell ⟨w.heap.size, 1, none⟩ v1).heap.size) ra n ls ((X.setCell ⟨w.heap.size, 0, none⟩ v0).setCell ⟨w.heap.size, 1, none⟩ v1) ∧ Below w.heap.size w ((X.setCell ⟨w.heap.size, 0, none⟩ v0).setCell ⟨w.heap.size, 1, none⟩ v1) := by
  have hn : ¬ InR B T w.heap.size := fun e => by have := e.1; omega
  exact ⟨(OL.loc.setC (OL.loc.setC (M.get 0 rfl) (q := ⟨w.heap.size, 0, none⟩) hn v0) (q := ⟨w.heap.size, 1, none⟩) hn v1).mono (fun k hk => ⟨by have := hk.1; omega, by have := hk.2; simp; omega⟩), (M.bel.setCell (by simp) _).setCell (by simp) _⟩

set_option maxRecDepth 100000 in
set_option maxHeartbeats 2000000 in
theorem drawFlushCache_calls (a : Option Addr) (len cap : Nat) (w : World) (hc : Cd w a len) :
    Calls Tryz.prog 5 #[.slice a len cap] w (DrewFl w) := by
  have M0 := (Mm.start w).alloc2 (.int .i64 0) (.slice none 0 0) 26
  have S0 := (hc.below M0.bel).src (cap := cap) 76
  have M1 := M0.below ((Below.refl _ _).alloc (Nat.le_refl _) (.cells #[.slice a len cap, .int .i64 0] 76))
  simp only [World.size_alloc] at S0
  clear M0
  go_enter Tryz.func5, Tryz.ntmps5
  go_wp2_with (go_at_call 16; refine (l1Source_calls a len cap _).mono ?_; rintro e w0 ⟨rfl, rfl⟩)
  refine (l4Bent_calls (w.heap.size + 1) a len cap 0 _ (by omega) S0).mono ?_
  rintro e w1 ⟨s, ra, n, rc, ls, t1, rfl, o1, hn, hrc, s1, ht1, u1⟩
  have z1 := u1.size
  simp only [World.size_alloc] at z1 o1
  have M2 := (M1.out (OutS.of_outside u1) (by omega) (by simp) (by simp)).fact OL.loc o1
  clear M1 S0 u1 o1
  go_wp2_with fail
  refine (l1Next_calls (w.heap.size + 1) a len cap t1 4 _ (by omega) (by omega) (by omega) s1).mono ?_
  rintro e w2 ⟨x1, rfl, a1, b1, s2, u2⟩
  have M3 := M2.out (OutS.of_outside u2) (by omega) (by simp) (by simp <;> omega)
  have z2 := u2.size
  clear M2 s1 u2
  go_wp2_with fail
  refine (l1Next_calls (w.heap.size + 1) a len cap (t1 + 1) 5 _ (by omega) (by omega) (by omega) s2).mono ?_
  rintro e w3 ⟨x2, rfl, a2, b2, s3, u3⟩
  have M4 := M3.out (OutS.of_outside u3) (by omega) (by simp) (by simp <;> omega)
  have z3 := u3.size
  clear M3 s2 s3 u3
  have c0 := M4.cell 0 rfl
  have c1 := M4.cell 1 rfl
  have f0 := M4.fz 0 rfl
  have f1 := M4.fz 1 rfl
  have HM := hide M4
  clear M4
  go_wp2
  obtain ⟨h1, h2⟩ := ol_fin HM.out (by omega) (by omega) (.int .i64 s) (.slice ra n rc)
  exact bodyPost_ret (v := .tuple #[.agg #[.int .i64 s, .slice ra n rc], .int .i64 (x1 - 1), .int .i64 (x2 - 1)]) (by simp [results, Tryz.results5, go_sem, c0, c1]) rfl ⟨s, ra, n, rc, ls, x1 - 1, x2 - 1, rfl, h1, hn, hrc, h2⟩

set_option maxRecDepth 100000 in
set_option maxHeartbeats 2000000 in
theorem drawEvictCache_calls (a : Option Addr) (len cap : Nat) (w : World) (hc : Cd w a len) :
    Calls Tryz.prog 7 #[.slice a len cap] w (DrewEv w) := by
  have M0 := (Mm.start w).alloc2 (.int .i64 0) (.slice none 0 0) 26
  have S0 := (hc.below M0.bel).src (cap := cap) 76
  have M1 := M0.below ((Below.refl _ _).alloc (Nat.le_refl _) (.cells #[.slice a len cap, .int .i64 0] 76))
  simp only [World.size_alloc] at S0
  clear M0
  go_enter Tryz.func7, Tryz.ntmps7
  go_wp2_with (go_at_call 16; refine (l1Source_calls a len cap _).mono ?_; rintro e w0 ⟨rfl, rfl⟩)
  refine (l4Bent_calls (w.heap.size + 1) a len cap 0 _ (by omega) S0).mono ?_
  rintro e w1 ⟨s, ra, n, rc, ls, t1, rfl, o1, hn, hrc, s1, ht1, u1⟩
  have z1 := u1.size
  simp only [World.size_alloc] at z1 o1
  have M2 := (M1.out (OutS.of_outside u1) (by omega) (by simp) (by simp)).fact OL.loc o1
  clear M1 S0 u1 o1
  go_wp2_with fail
  refine (l1Next_calls (w.heap.size + 1) a len cap t1 9 _ (by omega) (by omega) (by omega) s1).mono ?_
  rintro e w2 ⟨x1, rfl, a1, b1, s2, u2⟩
  have M3 := M2.out (OutS.of_outside u2) (by omega) (by simp) (by simp <;> omega)
  have z2 := u2.size
  clear M2 s1 u2
  go_wp2_with fail
  refine (l1Next_calls (w.heap.size + 1) a len cap (t1 + 1) 9 _ (by omega) (by omega) (by omega) s2).mono ?_
  rintro e w3 ⟨x2, rfl, a2, b2, s3, u3⟩
  have M4 := (M3.out (OutS.of_outside u3) (by omega) (by simp) (by simp <;> omega)).below ((Below.refl _ _).alloc (Nat.le_refl _) (.cells #[.int .i64 x1, .int .i64 x2, .int .i64 (-1)] 2))
  have s3' := s3.below ((Below.refl _ _).alloc (Nat.le_refl _) (.cells #[.int .i64 x1, .int .i64 x2, .int .i64 (-1)] 2))
  have z3 := u3.size
  clear M3 s2 s3 u3
  go_wp2_with fail
  refine (l1Pick_calls (w.heap.size + 1) a len cap (t1 + 1 + 1) w3.heap.size 3 3 [x1, x2, -1] _ (by omega) (by omega) (by omega) s3' (by omega) (by simp) rfl lit3).mono ?_
  rintro e w4 ⟨y, rfl, s4, u4⟩
  have M5 := M4.out (OutS.of_outside u4) (by omega) (by simp) (by simp <;> omega)
  have z4 := u4.size
  simp only [World.size_alloc] at z4
  clear M4 s3' s4 u4
  have c0 := M5.cell 0 rfl
  have c1 := M5.cell 1 rfl
  have f0 := M5.fz 0 rfl
  have f1 := M5.fz 1 rfl
  have HM := hide M5
  clear M5
  go_wp2
  obtain ⟨h1, h2⟩ := ol_fin HM.out (by omega) (by omega) (.int .i64 s) (.slice ra n rc)
  exact bodyPost_ret (v := .tuple #[.agg #[.int .i64 s, .slice ra n rc], .int .i64 y]) (by simp [results, Tryz.results7, go_sem, c0, c1]) rfl ⟨s, ra, n, rc, ls, y, rfl, h1, hn, hrc, h2⟩

theorem size_of2 {j : Nat} (hj : j < 5) : 0 ≤ gt [0, 1, 2, 6, 6] j ∧ gt [0, 1, 2, 6, 6] j ≤ 6 := by
  rcases (by omega : j = 0 ∨ j = 1 ∨ j = 2 ∨ j = 3 ∨ j = 4) with rfl | rfl | rfl | rfl | rfl <;> decide

set_option maxRecDepth 100000 in
set_option maxHeartbeats 8000000 in
theorem l4With_calls (p q : Nat) (a : Option Addr) (len cap t : Nat) (S : Nat → Prop) (ta : Option Addr) (tn tc : Nat) (ss : List (Int × List Int)) (xa : Option Addr) (xn xc : Nat) (ts : List Int) (ya : Option Addr) (yn yc : Nat) (ds : List Int) (w : World) (ht : t ≤ 990000) (hs : Src w p a len cap t) (hq : q < w.heap.size) (hqp : q ≠ p)
    (h0 : w.cell? ⟨q, 0, none⟩ = some (.slice ta tn tc)) (h1 : w.cell? ⟨q, 1, none⟩ = some (.slice xa xn xc)) (h2 : w.cell? ⟨q, 2, none⟩ = some (.slice ya yn yc)) (tb : TbS S ta tn ss xa xn ts ya yn ds w) (hS : ∀ k, S k → k ≠ p) (hf : tabF ss ts ds = 0) :
    Calls Tryz.prog 26 #[.pointer (some ⟨p, 0, none⟩), .pointer (some ⟨q, 0, none⟩)] w (DrewC p a len cap t w) := by
  have hp : p < w.heap.size := hs.1
  have KT : Hid (∀ X, Outside p (p + 1) w X → X.cell? ⟨q, 0, none⟩ = some (.slice ta tn tc) ∧ X.cell? ⟨q, 1, none⟩ = some (.slice xa xn xc) ∧ X.cell? ⟨q, 2, none⟩ = some (.slice ya yn yc) ∧ RT X ta tn ss xa xn ts ya yn ds ∧ q < X.heap.size) := fun X ho => by
    have hb := ho.block q hq (by omega)
    exact ⟨(World.cell?_of_block (a := ⟨q, 0, none⟩) hb).trans h0, (World.cell?_of_block (a := ⟨q, 1, none⟩) hb).trans h1, (World.cell?_of_block (a := ⟨q, 2, none⟩) hb).trans h2, (TbS.loc w X (fun k hk hl => ho.block k hl (by have := hS k hk; omega)) tb).rt, Nat.lt_of_lt_of_le hq ho.size⟩
  obtain ⟨hr, hm, hA1, hA2, _⟩ := tabF_zero hf
  obtain ⟨hxl, hyl⟩ := many_len hm
  have good := hide (good_of hr)
  have HA1 := hide hA1
  have HA2 := hide hA2
  have hx6 : xn ≤ 6 := by have := tb.rt.2.2.2.1.1; omega
  have hy4 : yn ≤ 4 := by have := tb.rt.2.2.2.2.2.1; omega
  have M0 := (Mo.start p w).alloc2 hp (.int .i64 0) (.slice none 0 0) 26
  have s0 := hs.below (((Below.refl _ _).alloc (Nat.le_refl _) (.cells #[.int .i64 0, .slice none 0 0] 26)).alloc (by simp) (.cells #[.int .i64 0, .int .i64 1, .int .i64 2, .int .i64 6, .int .i64 6] 2))
  have M0' := M0.below ((Below.refl _ _).alloc (Nat.le_refl _) (.cells #[.int .i64 0, .int .i64 1, .int .i64 2, .int .i64 6, .int .i64 6] 2))
  clear M0 h0 h1 h2 hf hr hm hA1 hA2 tb hS hxl hyl
  go_enter Tryz.func26, Tryz.ntmps26
  go_wp2_with fail
  refine (l1PickM_calls p a len cap t (w.heap.size + 1) 5 5 [0, 1, 2, 6, 6] _ (by omega) (by omega) (by omega) s0 (by omega) (by simp) rfl (by have := @at5 (w.alloc (.cells #[.int .i64 0, .slice none 0 0] 26)) 2 0 1 2 6 6; simpa using this)).mono ?_
  rintro e w1 ⟨j, hj, rfl, s1, o1⟩
  have M1 := M0'.next o1
  obtain ⟨hz0, hz6⟩ := size_of2 hj
  generalize hsz : gt [0, 1, 2, 6, 6] j = sz at hz0 hz6
  clear hsz hj M0' s0
  have z1 := o1.size
  simp only [World.size_alloc] at z1
  have V1 := CV.new (w := w1) sz
  have al := (Below.refl w1.heap.size w1).alloc (Nat.le_refl _) (.cells #[.int .i64 sz, .slice none 0 0] 26)
  have s1' := s1.below al
  have M1' := M1.below al
  have hpP : p < w1.heap.size := by omega
  clear o1 s1 M1 al
  go_wp2_with fail
  refine (l1Next_calls p a len cap (t + 1) 5 _ (by omega) (by omega) (by omega) s1').mono ?_
  rintro e w2 ⟨r, rfl, r0, r1, s2, o2⟩
  have V2 := V1.outside o2 hpP
  have M2 := M1'.next o2
  clear V1 M1' s1' o2
  obtain ⟨k0, rfl⟩ : ∃ k : Nat, r = (k : Int) := ⟨r.toNat, by omega⟩
  go_wp2
  go_loopw [6] (fun i wr => ∃ (k : Nat) (ra : Option Addr) (n rc : Nat) (ls : List (Int × Int × Int)) (t' : Nat), k ≤ 4 ∧ i = .int .i64 k ∧ CV wr w1.heap.size w1.heap.size sz (.slice ra n rc) n ls ∧ n ≤ 6 ∧ (n : Int) ≤ sz ∧ Src wr p a len cap t' ∧ t' + 4 * k ≤ t + 30 ∧ Mo p w wr [(w.heap.size, 0, .int .i64 0), (w.heap.size, 1, .slice none 0 0)] []) (fun i _ => (intOf i).toNat)
  case atStart => exact ⟨k0, none, 0, 0, [], t + 1 + 1, by omega, rfl, V2, by omega, by omega, s2, by omega, M2⟩
  case round =>
    clear M2 V2 s2
    obtain ⟨k, ra, n, rc, ls, t', hk, rfl, V, hn, hns, src, htk, M⟩ := hrel
    obtain ⟨g0, g1, g2, grt, gq⟩ := KT.out wr M.out
    by_cases hlt : 0 < k ∧ 0 < yn
    · have hlt' : (0 : Int) < (k : Int) := by omega
      have hly' : (0 : Int) < (yn : Int) := by omega
      clear grt g0 gq
      go_wp2_with fail
      refine (l1Next_calls p a len cap t' (yn : Int) _ (by omega) (by omega) (by omega) src).mono ?_
      rintro e u1 ⟨d, rfl, d0, d1, s1, o1⟩
      have V1 := V.outside o1 hpP
      have M1 := M.next o1
      obtain ⟨i, rfl⟩ : ∃ i : Nat, d = (i : Int) := ⟨d.toNat, by omega⟩
      obtain ⟨k0', k1', k2', krt, kq⟩ := KT.out u1 M1.out
      clear V M src o1 g1 g2 krt k0' k2' kq
      go_wp2_with fail
      refine (l1Next_calls p a len cap (t' + 1) ((xn : Int) + 1) _ (by omega) (by omega) (by omega) s1).mono ?_
      rintro e u2 ⟨g, rfl, e0, e1, s2, o2⟩
      have V2 := V1.outside o2 hpP
      have M2 := M1.next o2
      obtain ⟨k0, k1, k2, krt, kq⟩ := KT.out u2 M2.out
      clear V1 M1 s1 o2 k1'
      by_cases hg : g = 0
      · subst hg
        go_wp2_with fail
        refine (l3Perm0_calls q (i : Int) _).mono ?_
        rintro e u3 ⟨rfl, g3⟩
        have V3 := V2.below g3
        have M3 := M2.below g3
        have s3 := s2.below g3
        clear V2 M2 s2 g3 k0 k1 k2 krt kq
        go_wp2_with fail
        refine (l1Next_calls p a len cap (t' + 1 + 1) 6 _ (by omega) (by omega) (by omega) s3).mono ?_
        rintro e u4 ⟨r, rfl, r0, r1, s4, o4⟩
        have V4 := V3.outside o4 hpP
        have M4 := M3.next o4
        clear V3 M3 s3 o4
        go_wp2_with fail
        refine (l4Fill_V w1.heap.size w1.heap.size sz ra n rc ls (i : Int) 0 0 r _ hn hns r0 V4).mono ?_
        rintro e u5 ⟨rfl, fa, fc, V5, gB⟩
        have hl := length_fiL_le ((i : Int), 0, 0) r r0 (by rw [V4.len]; exact hns)
        have M5 := M4.belowB gB (by omega) (by simp; omega) (by simp)
        have s5 := s4.belowB gB hpP
        have HV := hide V5
        have HM := hide M5
        have HS := hide s5
        have HL := hide hl
        clear V4 V5 M4 M5 s4 s5 gB hl
        go_wp2
        go_roundw
        case rel => exact ⟨k - 1, fa, _, fc, _, t' + 1 + 1 + 1, by omega, by go_num, HV.out, by have := HL.out; omega, HL.out, HS.out, by omega, HM.out⟩
        case measure => simp [intOf]; omega
      · obtain ⟨j, rfl⟩ : ∃ j : Nat, g = (j : Int) + 1 := ⟨(g - 1).toNat, by omega⟩
        go_wp2_with fail
        refine (l3Perm_calls q ta tn tc ss xa xn xc ts ya yn yc ds i j _ good.out (by omega) (by omega) kq k0 k1 k2 krt HA1.out HA2.out (by omega) (by omega)).mono ?_
        rintro e u3 ⟨rfl, g3⟩
        generalize permV (atL ss (gt ds i)) (atL ss (gt ts j)) = pv
        have V3 := V2.below g3
        have M3 := M2.below g3
        have s3 := s2.below g3
        clear V2 M2 s2 g3 k0 k1 k2 krt kq
        go_wp2_with fail
        refine (l1Next_calls p a len cap (t' + 1 + 1) 6 _ (by omega) (by omega) (by omega) s3).mono ?_
        rintro e u4 ⟨r, rfl, r0, r1, s4, o4⟩
        have V4 := V3.outside o4 hpP
        have M4 := M3.next o4
        clear V3 M3 s3 o4
        go_wp2_with fail
        refine (l4Fill_V w1.heap.size w1.heap.size sz ra n rc ls (i : Int) ((j : Int) + 1) pv r _ hn hns r0 V4).mono ?_
        rintro e u5 ⟨rfl, fa, fc, V5, gB⟩
        have hl := length_fiL_le ((i : Int), (j : Int) + 1, pv) r r0 (by rw [V4.len]; exact hns)
        have M5 := M4.belowB gB (by omega) (by simp; omega) (by simp)
        have s5 := s4.belowB gB hpP
        have HV := hide V5
        have HM := hide M5
        have HS := hide s5
        have HL := hide hl
        clear V4 V5 M4 M5 s4 s5 gB hl
        go_wp2
        go_roundw
        case rel => exact ⟨k - 1, fa, _, fc, _, t' + 1 + 1 + 1, by omega, by go_num, HV.out, by have := HL.out; omega, HL.out, HS.out, by omega, HM.out⟩
        case measure => simp [intOf]; omega
    · have c0 := V.c0
      have c1 := V.c1
      have hl := V.len
      have d0 := M.cell 0 rfl
      have d1 := M.cell 1 rfl
      have e0 := M.fz 0 rfl
      have e1 := M.fz 1 rfl
      have HO := hide M.out
      have HW := hide V.own
      have HS := hide src
      clear M V src grt
      have fin := hide (fun v0 v1 => DrewC.mk (s := sz) (rc := rc) (t := t) (own_mono (own_keep HW.out (u := (wr.setCell ⟨w.heap.size, 0, none⟩ v0).setCell ⟨w.heap.size, 1, none⟩ v1) (fun g hg => by rw [Below.heap_setCell _ _ _ _ (by have := (own_ge HW.out hg).1; simp; omega), Below.heap_setCell _ _ _ _ (by have := (own_ge HW.out hg).1; simp; omega)])) (by omega)) hl hn hns ((HS.out.setCell (by exact hp) _).setCell (by exact hp) _) (by omega) ((HO.out.setNew (Nat.le_refl _) _).setNew (Nat.le_refl _) _))
      by_cases hk0 : 0 < k
      · have hlt' : (0 : Int) < (k : Int) := by omega
        have hly' : ¬ (0 : Int) < (yn : Int) := by omega
        go_wp2
        exact bodyPost_ret (v := .agg #[.int .i64 sz, .slice ra n rc]) (by simp [results, Tryz.results26, go_sem, d0, d1]) rfl (fin.out _ _)
      · have hlt' : ¬ (0 : Int) < (k : Int) := by omega
        go_wp2
        exact bodyPost_ret (v := .agg #[.int .i64 sz, .slice ra n rc]) (by simp [results, Tryz.results26, go_sem, d0, d1]) rfl (fin.out _ _)

/-- what DrawCacheTrue gives. -/
def DrewCT (w : World) (e : Ending) (w' : World) : Prop :=
  ∃ (s : Int) (ra : Option Addr) (n rc : Nat) (ls : List (Int × Int × Int)) (ta : Option Addr) (tn tc : Nat) (ss : List (Int × List Int)) (xa : Option Addr) (xn xc : Nat) (ts : List Int) (ya : Option Addr) (yn yc : Nat) (ds : List Int), e = .returned (.tuple #[.agg #[.int .i64 s, .slice ra n rc], .agg #[.slice ta tn tc, .slice xa xn xc, .slice ya yn yc]]) ∧ OL (InR w.heap.size w'.heap.size) ra n ls w' ∧ n ≤ 7 ∧ n ≤ rc ∧ TbS (InR w.heap.size w'.heap.size) ta tn ss xa xn ts ya yn ds w' ∧ Below w.heap.size w w'

theorem OL.set5C {S S' : Nat → Prop} {a : Option Addr} {n : Nat} {ls : List (Int × Int × Int)} {X : World} {B C : Nat} (h : OL S a n ls X) (hB : ¬ S B) (hC : ¬ S C) (hs : ∀ k, S k → S' k) (v0 v1 v2 v3 v4 : Value) : OL S' a n ls (((((X.setCell ⟨B, 0, none⟩ v0).setCell ⟨B, 1, none⟩ v1).setCell ⟨C, 0, none⟩ v2).setCell ⟨C, 1, none⟩ v3).setCell ⟨C, 2, none⟩ v4) :=
  (OL.loc.setC (OL.loc.setC (OL.loc.setC (OL.loc.setC (OL.loc.setC h (q := ⟨B, 0, none⟩) hB v0) (q := ⟨B, 1, none⟩) hB v1) (q := ⟨C, 0, none⟩) hC v2) (q := ⟨C, 1, none⟩) hC v3) (q := ⟨C, 2, none⟩) hC v4).mono hs

theorem TbS.set5C {S S' : Nat → Prop} {a : Option Addr} {n : Nat} {ss : List (Int × List Int)} {ta : Option Addr} {tn : Nat} {ts : List Int} {da : Option Addr} {dn : Nat} {ds : List Int} {X : World} {B C : Nat} (h : TbS S a n ss ta tn ts da dn ds X) (hB : ¬ S B) (hC : ¬ S C) (hs : ∀ k, S k → S' k) (v0 v1 v2 v3 v4 : Value) : TbS S' a n ss ta tn ts da dn ds (((((X.setCell ⟨B, 0, none⟩ v0).setCell ⟨B, 1, none⟩ v1).setCell ⟨C, 0, none⟩ v2).setCell ⟨C, 1, none⟩ v3).setCell ⟨C, 2, none⟩ v4) :=
  (TbS.loc.setC (TbS.loc.setC (TbS.loc.setC (TbS.loc.setC (TbS.loc.setC h (q := ⟨B, 0, none⟩) hB v0) (q := ⟨B, 1, none⟩) hB v1) (q := ⟨C, 0, none⟩) hC v2) (q := ⟨C, 1, none⟩) hC v3) (q := ⟨C, 2, none⟩) hC v4).mono hs

theorem keepW {X : World} {q o R i : Nat} {v x : Value} (h : q ≠ R) (hc : X.cell? ⟨q, o, none⟩ = some v) : (X.setCell ⟨R, i, none⟩ x).cell? ⟨q, o, none⟩ = some v := by
  rw [World.cell?_setCell_other _ _ _ _ (fun e => h (by injection e with e1 _; exact e1.symm))]; exact hc

set_option maxRecDepth 100000 in
set_option maxHeartbeats 4000000 in
theorem drawCacheTrue_calls (a : Option Addr) (len cap : Nat) (w : World) (hc : Cd w a len) :
    Calls Tryz.prog 9 #[.slice a len cap] w (DrewCT w) := by
  have M0 := ((Mm.start w).alloc2 (.int .i64 0) (.slice none 0 0) 26).alloc3 (.slice none 0 0) (.slice none 0 0) (.slice none 0 0) 40
  simp only [World.size_alloc] at M0
  have S0 := (hc.below M0.bel).src (cap := cap) 76
  have M1 := M0.below ((Below.refl _ _).alloc (Nat.le_refl _) (.cells #[.slice a len cap, .int .i64 0] 76))
  simp only [World.size_alloc] at S0
  clear M0
  go_enter Tryz.func9, Tryz.ntmps9
  go_wp2_with (go_at_call 16; refine (l1Source_calls a len cap _).mono ?_; rintro e w0 ⟨rfl, rfl⟩)
  refine (l3Draw_calls (w.heap.size + 1 + 1) a len cap 0 _ (by omega) S0).mono ?_
  rintro e w1 ⟨ta, tn, tc, ss, xa, xn, xc, ts, ya, yn, yc, ds, t1, rfl, _, htf, oo, s1, ht1, u1⟩
  have z1 := u1.size
  simp only [World.size_alloc] at z1 oo
  have M2 := ((M1.out (OutS.of_outside u1) (by omega) (by simp <;> omega) (by simp)).fact TbS.loc oo.tbS).alloc3 (.slice ta tn tc) (.slice xa xn xc) (.slice ya yn yc) 40
  have s1' := s1.below ((Below.refl _ _).alloc (Nat.le_refl _) (.cells #[.slice ta tn tc, .slice xa xn xc, .slice ya yn yc] 40))
  have HTF := hide htf
  clear M1 S0 u1 oo s1 htf
  go_wp2_with fail
  refine (l1Chance_calls (w.heap.size + 1 + 1) a len cap t1 4 _ (by omega) (by omega) (by omega) s1').mono ?_
  rintro e w2 ⟨b, rfl, s2, u2⟩
  have z2 := u2.size
  simp only [World.size_alloc] at z2
  have M3 := M2.out (OutS.of_outside u2) (by omega) (by simp <;> omega) (by simp <;> omega)
  clear M2 s1' u2
  cases b
  rotate_left
  · go_wp2_with fail
    refine (l4Bent_calls (w.heap.size + 1 + 1) a len cap (t1 + 1) _ (by omega) s2).mono ?_
    rintro e w3 ⟨s, ra, n, rc, ls, t3, rfl, o3, hn, hrc, s3, ht3, u3⟩
    have z3 := u3.size
    have M4 := (M3.out (OutS.of_outside u3) (by omega) (by simp <;> omega) (by simp <;> omega)).fact OL.loc o3
    clear M3 s2 u3 o3
    go_wp2_with fail
    refine (l3Bent_calls (w.heap.size + 1 + 1) a len cap t3 _ (by omega) s3).mono ?_
    rintro e w4 ⟨pa, pn, pc, ps, qa, qn, qc, qs, ra', rn', rc', rs, t4, rfl, tb4, s4, ht4, u4⟩
    have z4 := u4.size
    have M5 := M4.out (OutS.of_outside u4) (by omega) (by simp <;> omega) (by simp <;> omega)
    clear M4 s3 s4 u4
    have c0 := M5.cell 6 rfl
    have c1 := M5.cell 7 rfl
    have c2 := M5.cell 3 rfl
    have c3 := M5.cell 4 rfl
    have c4 := M5.cell 5 rfl
    have f0 := M5.fz 6 rfl
    have f1 := M5.fz 7 rfl
    have f2 := M5.fz 3 rfl
    have f3 := M5.fz 4 rfl
    have f4 := M5.fz 5 rfl
    have HM := hide M5
    have HT := hide tb4
    clear M5 tb4
    go_wp2
    exact bodyPost_ret (v := .tuple #[.agg #[.int .i64 s, .slice ra n rc], .agg #[.slice pa pn pc, .slice qa qn qc, .slice ra' rn' rc']]) (by simp [results, Tryz.results9, go_sem, c0, c1, c2, c3, c4]) rfl ⟨s, ra, n, rc, ls, pa, pn, pc, ps, qa, qn, qc, qs, ra', rn', rc', rs, rfl,
      OL.set5C (HM.out.get 0 rfl) (fun e => by have := e.1; omega) (fun e => by have := e.1; omega) (fun k hk => ⟨by have := hk.1; omega, by have := hk.2; simp; omega⟩) _ _ _ _ _, hn, hrc,
      TbS.set5C HT.out (fun e => by have := e.1; omega) (fun e => by have := e.1; omega) (fun k hk => ⟨by have := hk.1; omega, by have := hk.2; simp; omega⟩) _ _ _ _ _,
      ((((HM.out.bel.setCell (by simp) _).setCell (by simp) _).setCell (by simp) _).setCell (by simp) _).setCell (by simp) _⟩
  · have HM := hide M3
    have SX := hide s2.drew
    have HS0 : Hid (w2.drew.cell? ⟨w1.heap.size, 0, none⟩ = some (.slice ta tn tc) ∧ w2.drew.cell? ⟨w1.heap.size, 1, none⟩ = some (.slice xa xn xc) ∧ w2.drew.cell? ⟨w1.heap.size, 2, none⟩ = some (.slice ya yn yc)) := ⟨M3.cell 0 rfl, M3.cell 1 rfl, M3.cell 2 rfl⟩
    clear M3 s2
    go_upto_region 5 with fail
    go_region_held2 (fun W => W.cell? ⟨w1.heap.size, 0, none⟩ = some (.slice ta tn tc) ∧ W.cell? ⟨w1.heap.size, 1, none⟩ = some (.slice xa xn xc) ∧ W.cell? ⟨w1.heap.size, 2, none⟩ = some (.slice ya yn yc))
      (first | with_reducible assumption | with_reducible exact HS0.out | (refine ⟨?_, ?_, ?_⟩ <;> (repeat (with_reducible refine keepW (by omega) ?_)) <;> first | with_reducible exact h3.1 | with_reducible exact h3.2.1 | with_reducible exact h3.2.2))
      (first
        | (go_at_call 26; refine (l4With_calls (w.heap.size + 1 + 1) w1.heap.size a len cap (t1 + 1) _ ta tn tc ss xa xn xc ts ya yn yc ds _ (by omega) SX.out (by simp; omega) (by omega) HS0.out.1 HS0.out.2.1 HS0.out.2.2 (HM.out.drew.get 0 rfl) (fun k hk => by have := hk.1; omega) HTF.out).mono ?_; rintro e u1 ⟨s, ra, n, rc, ls, t3, rfl, hown, hls, hn6, hns, s3, ht3, u3⟩; have z3 : w2.heap.size ≤ u1.heap.size := u3.size; obtain ⟨ra2, rc2, e2, ol⟩ := own_ol (by omega) hls hown; have hcap := own_cap hown; simp only [Value.slice.injEq, true_and] at e2; obtain ⟨rfl, rfl⟩ := e2; have M4 := HM.out.drew.out (OutS.of_outside u3) (by omega) (by simp <;> omega) (by simp <;> omega); have h3 : u1.cell? ⟨w1.heap.size, 0, none⟩ = some (.slice ta tn tc) ∧ u1.cell? ⟨w1.heap.size, 1, none⟩ = some (.slice xa xn xc) ∧ u1.cell? ⟨w1.heap.size, 2, none⟩ = some (.slice ya yn yc) := ⟨M4.cell 0 rfl, M4.cell 1 rfl, M4.cell 2 rfl⟩; have c0 := M4.cell 6 rfl; have c1 := M4.cell 7 rfl; have c2 := M4.cell 3 rfl; have c3 := M4.cell 4 rfl; have c4 := M4.cell 5 rfl; have f0 := M4.fz 6 rfl; have f1 := M4.fz 7 rfl; have f2 := M4.fz 3 rfl; have f3 := M4.fz 4 rfl; have f4 := M4.fz 5 rfl; have HM4 := hide M4; have HOL := hide ol; clear M4 s3 u3 hown ol))
    all_goals (
      go_wp2
      exact bodyPost_ret (v := .tuple #[.agg #[.int .i64 s, .slice ra n rc], .agg #[.slice ta tn tc, .slice xa xn xc, .slice ya yn yc]]) (by simp [results, Tryz.results9, go_sem, c0, c1, c2, c3, c4]) rfl ⟨s, ra, n, rc, ls, ta, tn, tc, ss, xa, xn, xc, ts, ya, yn, yc, ds, rfl,
        OL.set5C HOL.out (fun e => by have := e.1; simp at this; omega) (fun e => by have := e.1; simp at this; omega) (fun k hk => ⟨by have := hk.1; simp at this; omega, by have := hk.2; simp; omega⟩) _ _ _ _ _, by omega, hcap,
        TbS.set5C (HM4.out.get 0 rfl) (fun e => by have := e.1; omega) (fun e => by have := e.1; omega) (fun k hk => ⟨by have := hk.1; omega, by have := hk.2; simp; omega⟩) _ _ _ _ _,
        ((((HM4.out.bel.setCell (by simp) _).setCell (by simp) _).setCell (by simp) _).setCell (by simp) _).setCell (by simp) _⟩)

end Go.Proofs.YtnibngigbcakkaaGreat
