import Derived.Test.YtipfaoecodclaaaSkA
import Derived.WalkKit
import Derived.ProofKit
import Derived.OpenShut
import Derived.ShutString
import Derived.ChangeOld
import Derived.Below
import Derived.WalkSpells
import Derived.Deep.QuietTactic
import Derived.BigQuiet
import Derived.Deep.RegionWith
import Derived.Deep.WholeRow
import Derived.Deep.DeepCutAuto
import Derived.Deep.RegionHeld2
import Derived.Deep.AppendLies
import Derived.Deep.RegionLaw
namespace Go.Proofs.Ytipfaoecodclaaa
open Go.ChangeShapes Go.WideShapes Go.ChangeAt Go.RowKit

set_option maxRecDepth 100000 in
set_option maxHeartbeats 2000000 in
theorem equalFuncK_calls (a b : Option Addr) (n m ca cb : Nat) (xs ys : List OB) (w : World) (hn : n ≤ maxLen) (hm : m ≤ maxLen) (hx : Sob w a n xs) (hy : Sob w b m ys) :
    Calls Try.prog 42 #[.slice a n ca, .slice b m cb, .func (.func 43) #[] #[]] w fun e w' => e = .returned (.bool (decide (xs = ys))) ∧ Below w.heap.size w w' := by
  unfold maxLen at hn hm
  obtain ⟨hxl, hx⟩ := hx
  obtain ⟨hyl, hy⟩ := hy
  by_cases hne : n = m
  · subst hne
    have hnn : ((n : Int) != (n : Int)) = false := by simp
    go_enter Try.func42, Try.ntmps42
    go_wp2
    go_loopw [17] (fun i wr => ∃ k : Nat, k ≤ n ∧ i = .int .i64 k ∧ Below w.heap.size w wr ∧ ∀ j, j < k → gO xs j = gO ys j) (fun i _ => n - (intOf i).toNat)
    case atStart => exact ⟨0, Nat.zero_le _, rfl, Below.refl _ _, fun j hj => by omega⟩
    case round =>
      obtain ⟨k, hk, rfl, hbel, hall⟩ := hrel
      have Hall := hide hall
      clear hall
      by_cases hlt : k < n
      · obtain ⟨b1, o1, rfl, hb1, hc1⟩ := hx (by omega)
        obtain ⟨b2, o2, rfl, hb2, hc2⟩ := hy (by omega)
        obtain ⟨la, lc, da, dc, h7, x3, xs3, x6, xs6⟩ := hc1 k hlt
        obtain ⟨ma, mc, na, nc, g7, y3, ys3, y6, ys6⟩ := hc2 k hlt
        obtain ⟨r0, r1, r2, r3, r4, r5, r6⟩ := h7.of_block (hbel.block b1 hb1)
        obtain ⟨s0, s1, s2, s3, s4, s5, s6⟩ := g7.of_block ((hbel.alloc hbel.size (.cells #[.int .i64 (gO xs k).1, .int .i64 (gO xs k).2.1, .int .i64 (gO xs k).2.2.1, .slice la (gO xs k).2.2.2.1.length lc, .int .i64 (gO xs k).2.2.2.2.1, .int .i64 (gO xs k).2.2.2.2.2.1, .slice da (gO xs k).2.2.2.2.2.2.length dc] 57)).block b2 hb2)
        have k0 : (0 : Int) ≤ (k : Int) := by omega
        have k1 : (k : Int) < (n : Int) := by omega
        have al := ((Below.refl wr.heap.size wr).alloc (Nat.le_refl _) (.cells #[.int .i64 (gO xs k).1, .int .i64 (gO xs k).2.1, .int .i64 (gO xs k).2.2.1, .slice la (gO xs k).2.2.2.1.length lc, .int .i64 (gO xs k).2.2.2.2.1, .int .i64 (gO xs k).2.2.2.2.2.1, .slice da (gO xs k).2.2.2.2.2.2.length dc] 57)).alloc (by simp) (.cells #[.int .i64 (gO ys k).1, .int .i64 (gO ys k).2.1, .int .i64 (gO ys k).2.2.1, .slice ma (gO ys k).2.2.2.1.length mc, .int .i64 (gO ys k).2.2.2.2.1, .int .i64 (gO ys k).2.2.2.2.2.1, .slice na (gO ys k).2.2.2.2.2.2.length nc] 57)
        have HB := hide (hbel.trans (al.mono hbel.size))
        have HS := hide (sameObject_calls (gO xs k) (gO ys k) la lc da dc ma mc na nc ((wr.alloc (.cells #[.int .i64 (gO xs k).1, .int .i64 (gO xs k).2.1, .int .i64 (gO xs k).2.2.1, .slice la (gO xs k).2.2.2.1.length lc, .int .i64 (gO xs k).2.2.2.2.1, .int .i64 (gO xs k).2.2.2.2.2.1, .slice da (gO xs k).2.2.2.2.2.2.length dc] 57)).alloc (.cells #[.int .i64 (gO ys k).1, .int .i64 (gO ys k).2.1, .int .i64 (gO ys k).2.2.1, .slice ma (gO ys k).2.2.2.1.length mc, .int .i64 (gO ys k).2.2.2.2.1, .int .i64 (gO ys k).2.2.2.2.2.1, .slice na (gO ys k).2.2.2.2.2.2.length nc] 57)) x3 y3 x6 y6 (xs3.below HB.out (Nat.le_refl _)) (ys3.below HB.out (Nat.le_refl _)) (xs6.below HB.out (Nat.le_refl _)) (ys6.below HB.out (Nat.le_refl _)))
        clear h7 g7 al hc1 hc2 xs3 ys3 xs6 ys6
        by_cases hs : gO xs k = gO ys k
        · have He := hide hs
          clear hs
          go_wp2_with fail
          refine HS.out.mono ?_
          rintro e w1 ⟨rfl, g1⟩
          rw [decide_eq_true He.out]
          have HE := hide (HB.out.trans (g1.mono HB.out.size))
          clear g1 r0 r1 r2 r3 r4 r5 r6 s0 s1 s2 s3 s4 s5 s6
          go_wp2
          go_roundw
          case rel => exact ⟨k + 1, by omega, by go_num, HE.out, fun j hj => by (by_cases e : j = k); (subst e; exact He.out); exact Hall.out j (by omega)⟩
          case measure => simp [intOf]; omega
        · have He := hide hs
          have Hn : Hid (decide (xs = ys) = false) := decide_eq_false (fun e => hs (by rw [e]))
          clear hs
          go_wp2_with fail
          refine HS.out.mono ?_
          rintro e w1 ⟨rfl, g1⟩
          rw [decide_eq_false He.out]
          have HE := hide (HB.out.trans (g1.mono HB.out.size))
          clear g1 r0 r1 r2 r3 r4 r5 r6 s0 s1 s2 s3 s4 s5 s6
          go_wp2
          go_ret
          exact ⟨ret_bool Hn.out.symm, HE.out⟩
      · have Hn : Hid (decide (xs = ys) = true) := decide_eq_true (gO_ext (by omega) (fun j hj => Hall.out j (by omega)))
        clear hx hy
        go_wp2
        go_ret
        exact ⟨ret_bool Hn.out.symm, hbel⟩
  · have hnn : ((n : Int) != (m : Int)) = true := by simp; omega
    have Hn : Hid (decide (xs = ys) = false) := decide_eq_false (fun e => hne (by rw [← hxl, ← hyl, e]))
    clear hx hy
    go_enter Try.func42, Try.ntmps42
    go_wp2
    go_ret
    exact ⟨ret_bool Hn.out.symm, Below.refl _ _⟩

set_option maxRecDepth 100000 in
set_option maxHeartbeats 2000000 in
theorem specSameKernels_calls (a : Option Addr) (n ca : Nat) (xs : List OB) (b : Option Addr) (m cb : Nat) (ys : List OB) (w : World) (hn : n ≤ maxLen) (hx : Sob w a n xs) (_hca : n ≤ ca) (hm : m ≤ maxLen) (hy : Sob w b m ys) (_hcb : m ≤ cb) :
    Calls Try.prog 40 #[.agg #[.slice a n ca], .agg #[.slice b m cb]] w fun e w' => e = .returned (.bool (decide (xs = ys))) ∧ Below w.heap.size w w' := by
  have M0 := ((Mm.start w).alloc1 (.slice a n ca) 35).alloc1 (.slice b m cb) 35
  simp only [World.size_alloc] at M0
  unfold maxLen at hn hm
  have HM := hide M0
  have HB0 := hide M0.bel
  obtain ⟨hxl, hx⟩ := hx
  obtain ⟨hyl, hy⟩ := hy
  by_cases hne : n = m
  rotate_left
  · have hnn : ((n : Int) != (m : Int)) = true := by simp; omega
    have Hn : Hid (decide (xs = ys) = false) := decide_eq_false (fun e => hne (by rw [← hxl, ← hyl, e]))
    clear hx hy M0
    go_enter Try.func40, Try.ntmps40
    go_wp2
    go_ret
    exact ⟨ret_bool Hn.out.symm, HB0.out⟩
  subst hne
  have hnn : ((n : Int) != (n : Int)) = false := by simp
  clear M0
  go_enter Try.func40, Try.ntmps40
  go_wp2
  clear hnn
  go_loopw [5] (fun i wr => ∃ k : Nat, k ≤ n ∧ i = .int .i64 k ∧ Mm w wr [(w.heap.size + 1, 0, .slice b n cb), (w.heap.size, 0, .slice a n ca)] [] ∧ ∀ j, j < k → gO xs j = gO ys j) (fun i _ => n - (intOf i).toNat)
  case atStart => exact ⟨0, Nat.zero_le _, rfl, HM.out, fun j hj => by omega⟩
  case round =>
    obtain ⟨k, hk, rfl, M, hall⟩ := hrel
    have Hall := hide hall
    clear hall
    have pa := M.cell 1 rfl
    have pb := M.cell 0 rfl
    have hbel := M.bel
    by_cases hlt : k < n
    · obtain ⟨b1, o1, rfl, hb1, hc1⟩ := hx (by omega)
      obtain ⟨b2, o2, rfl, hb2, hc2⟩ := hy (by omega)
      obtain ⟨la, lc, da, dc, h7, x3, xs3, x6, xs6⟩ := hc1 k hlt
      obtain ⟨ma, mc, na, nc, g7, y3, ys3, y6, ys6⟩ := hc2 k hlt
      have k0 : (0 : Int) ≤ (k : Int) := by omega
      have k1 : (k : Int) < (n : Int) := by omega
      have HSO : Hid (∀ W, Below wr.heap.size wr W → Calls Try.prog 59 #[.pointer (some ⟨b1, o1 + k * 7, none⟩), .pointer (some ⟨b2, o2 + k * 7, none⟩)] W fun e w' => e = .returned (.bool (decide (gO xs k = gO ys k))) ∧ Below W.heap.size W w') := fun W hW => by
        have hw := hbel.trans (hW.mono hbel.size)
        exact l11SameObject_calls b1 (o1 + k * 7) b2 (o2 + k * 7) (gO xs k) (gO ys k) la lc da dc ma mc na nc W (by have := hw.size; omega) (by have := hw.size; omega) (h7.of_block (hw.block b1 hb1)) (g7.of_block (hw.block b2 hb2)) x3 y3 x6 y6 (xs3.below hw (Nat.le_refl _)) (ys3.below hw (Nat.le_refl _)) (xs6.below hw (Nat.le_refl _)) (ys6.below hw (Nat.le_refl _))
      have HM1 := hide M
      clear h7 g7 hc1 hc2 xs3 ys3 xs6 ys6 hbel M
      go_wp2_with fail
      go_region_with (go_at_call 59; refine (HSO.out _ ((Below.refl _ _).drew)).mono ?_; rintro e w1 ⟨rfl, g1⟩; have HM2 := hide ((HM1.out.below ((Below.refl _ _).drew)).below g1); clear g1)
      all_goals (
        clear pa pb
        by_cases hs : gO xs k = gO ys k
        · have He := hide hs
          rw [decide_eq_true hs]
          clear hs
          go_wp2
          go_roundw
          case rel => exact ⟨k + 1, by omega, by go_num, HM2.out, fun j hj => by (by_cases e : j = k); (subst e; exact He.out); exact Hall.out j (by omega)⟩
          case measure => simp [intOf]; omega
        · have Hn : Hid (decide (xs = ys) = false) := decide_eq_false (fun e => hs (by rw [e]))
          rw [decide_eq_false hs]
          have HB2 := hide HM2.out.bel
          clear hs
          go_wp2
          go_ret
          exact ⟨ret_bool Hn.out.symm, HB2.out⟩)
    · have Hn : Hid (decide (xs = ys) = true) := decide_eq_true (gO_ext (by omega) (fun j hj => Hall.out j (by omega)))
      clear hx hy M
      go_wp2
      go_ret
      exact ⟨ret_bool Hn.out.symm, hbel⟩

end Go.Proofs.Ytipfaoecodclaaa
