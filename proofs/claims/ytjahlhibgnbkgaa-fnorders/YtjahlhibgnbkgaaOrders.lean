import Derived.Test.YtjahlhibgnbkgaaDrawM
import Derived.Test.YtjahlhibgnbkgaaBelowImpl
import Derived.Test.YtjahlhibgnbkgaaBig
import Derived.WalkKit
import Derived.ProofKit
import Derived.OpenShut
import Derived.ShutString
import Derived.ChangeOld
import Derived.Below
import Derived.WalkSpells
import Derived.Deep.QuietTactic
import Derived.BigQuiet
import Derived.Deep.RegionWith
import Derived.Deep.WholeRow
import Derived.Deep.DeepCutAuto
import Derived.Deep.RegionHeld2
import Derived.Deep.AppendLies
import Derived.Deep.RegionLaw
namespace Go.Proofs.Ytjahlhibgnbkgaa
open Go.ChangeShapes Go.WideShapes Go.ChangeAt Go.RowKit

theorem belowB_le {xs ys : List Int} (h : belowB xs ys = true) : ∀ j, j < 4 → gt xs j ≤ gt ys j := by
  intro j hj
  unfold belowB at h
  have := List.all_eq_true.1 h j (List.mem_range.2 hj)
  simpa using this

theorem belowB_refl (xs : List Int) : belowB xs xs = true := belowB_yes (fun _ _ => Int.le_refl _)

theorem isBelowB_iff {xs ys : List Int} (hx : fault xs = 0) (hy : fault ys = 0) : isBelowB xs ys = belowB xs ys := isBelowB_of ⟨hx, hy⟩

theorem belowB_anti {xs ys : List Int} (hx : xs.length = 4) (hy : ys.length = 4) (h : belowB xs ys = true) (k : belowB ys xs = true) : xs = ys :=
  getD_ext (by omega) (fun i hi => by have := belowB_le h i (by omega); have := belowB_le k i (by omega); omega)

theorem belowB_trans {xs ys zs : List Int} (h : belowB xs ys = true) (k : belowB ys zs = true) : belowB xs zs = true :=
  belowB_yes (fun j hj => by have := belowB_le h j hj; have := belowB_le k j hj; omega)

theorem isBelowB_fault {xs ys : List Int} (h : isBelowB xs ys = true) : fault xs = 0 ∧ fault ys = 0 := by
  unfold isBelowB at h
  simp only [Bool.and_eq_true, beq_iff_eq] at h
  exact h.1

set_option maxRecDepth 100000 in
theorem orders_big (a : Option Addr) (len cap : Nat) (w : World) (hl : len ≤ maxLen) (hbig : 1048576 < len) :
    Calls Try.prog 3 #[.slice a len cap] w fun e w' => e = .returned (.bool true) ∧ Below w.heap.size w w' := by
  go_enter Try.func3, Try.ntmps3
  go_wp2_with fail
  refine (lwBig_calls a len cap _ hl).mono ?_
  rintro e w1 ⟨rfl, hw⟩
  obtain rfl : w = w1 := hw.symm
  clear hw
  rw [decide_eq_true (by omega)]
  go_wp2
  go_ret
  exact ⟨rfl, Below.refl _ _⟩

set_option maxRecDepth 100000 in
set_option maxHeartbeats 4000000 in
theorem orders_small (a : Option Addr) (len cap : Nat) (w : World) (hc : Cd w a len) :
    Calls Try.prog 3 #[.slice a len cap] w fun e w' => e = .returned (.bool true) ∧ Below w.heap.size w w' := by
  have hlm : len ≤ maxLen := by have := hc.1; unfold maxLen; omega
  have hlb : ¬ (1048576 < (len : Int)) := by have := hc.1; omega
  go_enter Try.func3, Try.ntmps3
  go_wp2_with fail
  refine (lwBig_calls a len cap _ hlm).mono ?_
  rintro e w0 ⟨rfl, hw⟩
  obtain rfl : w = w0 := hw.symm
  rw [decide_eq_false (by omega)]
  clear hw
  go_wp2_with fail
  refine (drawIsBelow_calls a len cap _ hc).mono ?_
  rintro e w1 ⟨ra, n, rc, xs, rb, m, rd, ys, rfl, fa, fb, hb1⟩
  have ha1 := ((Below.refl w1.heap.size w1).alloc (Nat.le_refl _) (.cells #[.slice ra n rc] 26)).alloc (by simp) (.cells #[.slice rb m rd] 26)
  have hc1 := (hc.below hb1).below ha1
  go_wp2_with fail
  refine (drawCanModify_calls a len cap _ hc1).mono ?_
  rintro e w2 ⟨rp, i, rpc, zs, ro, k, roc, os, rfl, fc, _, hb2⟩
  have z2 : w1.heap.size + 2 ≤ w2.heap.size := by have := hb2.size; simp at this; omega
  have cA : w2.cell? ⟨w1.heap.size, 0, none⟩ = some (.slice ra n rc) := (hb2.cell (p := ⟨w1.heap.size, 0, none⟩) (by simp; omega)).trans (by go_simp)
  have cB : w2.cell? ⟨w1.heap.size + 1, 0, none⟩ = some (.slice rb m rd) := (hb2.cell (p := ⟨w1.heap.size + 1, 0, none⟩) (by simp)).trans (by go_simp)
  have hA2 : w1.heap.size < w2.heap.size := by omega
  have hB2 : w1.heap.size + 1 < w2.heap.size := by omega
  have ha2 := ((Below.refl w2.heap.size w2).alloc (Nat.le_refl _) (.cells #[.slice rp i rpc] 26)).alloc (by simp) (.cells #[.slice ro k roc] 26)
  have hw1 : Below w.heap.size w w1 := hb1
  have h12 : Below w1.heap.size w1 w2 := ha1.trans (hb2.mono ha1.size)
  have MW : Mem w ((w2.alloc (.cells #[.slice rp i rpc] 26)).alloc (.cells #[.slice ro k roc] 26)) [(w2.heap.size, 0, .slice rp i rpc), (w1.heap.size + 1, 0, .slice rb m rd), (w1.heap.size, 0, .slice ra n rc)] [] :=
    ⟨(hw1.trans (h12.mono hw1.size)).trans (ha2.mono (by have := hw1.size; have := h12.size; omega)), by
      intro c hc'
      simp only [List.mem_cons, List.not_mem_nil, or_false] at hc'
      rcases hc' with rfl | rfl | rfl
      · exact ⟨by simp only [World.size_alloc]; omega, by go_simp⟩
      · exact ⟨by simp only [World.size_alloc]; omega, by go_simp⟩
      · exact ⟨by simp only [World.size_alloc]; omega, by go_simp⟩, by simp⟩
  have SA := (fa.sl.below h12 (Nat.le_refl _)).below ha2 (Nat.le_refl _)
  have SB := (fb.sl.below h12 (Nat.le_refl _)).below ha2 (Nat.le_refl _)
  have SC := fc.sl.below ha2 (Nat.le_refl _)
  have hn : n ≤ maxLen := by have := fa.2.1; unfold maxLen; omega
  have hm : m ≤ maxLen := by have := fb.2.1; unfold maxLen; omega
  have hi : i ≤ maxLen := by have := fc.2.1; unfold maxLen; omega
  clear hc hc1 ha1 ha2 hb1 hb2 hw1 h12 fa fb fc
  by_cases hfa : fault xs = 0
  · have ea : (fault xs != 0) = false := by simp [hfa]
    have Ha := hide hfa
    by_cases hfb : fault ys = 0
    · have eb : (fault ys != 0) = false := by simp [hfb]
      have Hb := hide hfb
      by_cases hfc : fault zs = 0
      · have ec : (fault zs != 0) = false := by simp [hfc]
        have Hc := hide hfc
        clear hfa hfb hfc
        go_wp2_with fail
        refine (implLabelFault_calls ra n rc xs _ hn SA).mono ?_
        rintro e u1 ⟨rfl, h1⟩
        have M1 := MW.below h1
        have c1 := M1.cell 1 rfl
        go_wp2_with fail
        refine (implLabelFault_calls rb m rd ys _ hm (SB.below h1 (Nat.le_refl _))).mono ?_
        rintro e u2 ⟨rfl, h2⟩
        have M2 := M1.below h2
        have h02 := h1.trans (h2.mono h1.size)
        have c2 := M2.cell 0 rfl
        go_wp2_with fail
        refine (implLabelFault_calls rp i rpc zs _ hi (SC.below h02 (Nat.le_refl _))).mono ?_
        rintro e u3 ⟨rfl, h3⟩
        have M3 := M2.below h3
        have h03 := h02.trans (h3.mono h02.size)
        have a3 := M3.cell 2 rfl
        have b3 := M3.cell 1 rfl
        have c3 := M3.cell 0 rfl
        clear c1 c2 h1 h2 h3 M1 M2 h02 cA cB
        have Haa : Hid (isBelowB xs xs = true) := hide ((isBelowB_iff Ha.out Ha.out).trans (belowB_refl xs))
        cases hx : isBelowB xs ys with
        | false =>
          have Hx := hide hx
          clear hx
          go_wp2_with fail
          refine (implIsBelow_calls ra rb n rc m rd xs ys _ hn hm (SA.below h03 (Nat.le_refl _)) (SB.below h03 (Nat.le_refl _))).mono ?_
          rintro e u4 ⟨rfl, g4⟩
          rw [Hx.out]
          have M4 := M3.below g4
          have h04 := h03.trans (g4.mono h03.size)
          have a4 := M4.cell 2 rfl
          have b4 := M4.cell 1 rfl
          have c4 := M4.cell 0 rfl
          clear a3 b3 c3 g4 M3 h03
          go_wp2_with fail
          refine (implIsBelow_calls rb ra m rd n rc ys xs _ hm hn (SB.below h04 (Nat.le_refl _)) (SA.below h04 (Nat.le_refl _))).mono ?_
          rintro e u5 ⟨rfl, g5⟩
          have M5 := M4.below g5
          have h05 := h04.trans (g5.mono h04.size)
          have a5 := M5.cell 2 rfl
          have b5 := M5.cell 1 rfl
          have c5 := M5.cell 0 rfl
          clear a4 b4 c4 g5 M4 h04
          go_wp2_with fail
          refine (implIsBelow_calls ra ra n rc n rc xs xs _ hn hn (SA.below h05 (Nat.le_refl _)) (SA.below h05 (Nat.le_refl _))).mono ?_
          rintro e u6 ⟨rfl, g6⟩
          rw [Haa.out]
          have M6 := M5.below g6
          have h06 := h05.trans (g6.mono h05.size)
          have a6 := M6.cell 2 rfl
          have b6 := M6.cell 1 rfl
          have c6 := M6.cell 0 rfl
          clear a5 b5 c5 g6 M5 h05
          go_wp2_with fail
          refine (specIsBelow_calls ra rb n rc m rd xs ys _ hn hm (SA.below h06 (Nat.le_refl _)) (SB.below h06 (Nat.le_refl _))).mono ?_
          rintro e u7 ⟨rfl, g7⟩
          rw [Hx.out]
          have M7 := M6.below g7
          have h07 := h06.trans (g7.mono h06.size)
          have a7 := M7.cell 2 rfl
          have b7 := M7.cell 1 rfl
          have c7 := M7.cell 0 rfl
          clear a6 b6 c6 g7 M6 h06
          go_wp2
          go_ret
          exact ⟨rfl, M7.bel⟩
        | true =>
          have Hx := hide hx
          have hx' : belowB xs ys = true := (isBelowB_iff Ha.out Hb.out).symm.trans hx
          clear hx
          cases hy : isBelowB ys xs with
          | false =>
            have Hy := hide hy
            clear hy
            cases hbc : isBelowB ys zs with
            | false =>
              have Hbc := hide hbc
              clear hbc hx'
              go_wp2_with fail
              refine (implIsBelow_calls ra rb n rc m rd xs ys _ hn hm (SA.below h03 (Nat.le_refl _)) (SB.below h03 (Nat.le_refl _))).mono ?_
              rintro e u4 ⟨rfl, g4⟩
              rw [Hx.out]
              have M4 := M3.below g4
              have h04 := h03.trans (g4.mono h03.size)
              have a4 := M4.cell 2 rfl
              have b4 := M4.cell 1 rfl
              have c4 := M4.cell 0 rfl
              clear a3 b3 c3 g4 M3 h03
              go_wp2_with fail
              refine (implIsBelow_calls rb ra m rd n rc ys xs _ hm hn (SB.below h04 (Nat.le_refl _)) (SA.below h04 (Nat.le_refl _))).mono ?_
              rintro e u5 ⟨rfl, g5⟩
              rw [Hy.out]
              have M5 := M4.below g5
              have h05 := h04.trans (g5.mono h04.size)
              have a5 := M5.cell 2 rfl
              have b5 := M5.cell 1 rfl
              have c5 := M5.cell 0 rfl
              clear a4 b4 c4 g5 M4 h04
              go_wp2_with fail
              refine (implIsBelow_calls ra ra n rc n rc xs xs _ hn hn (SA.below h05 (Nat.le_refl _)) (SA.below h05 (Nat.le_refl _))).mono ?_
              rintro e u6 ⟨rfl, g6⟩
              rw [Haa.out]
              have M6 := M5.below g6
              have h06 := h05.trans (g6.mono h05.size)
              have a6 := M6.cell 2 rfl
              have b6 := M6.cell 1 rfl
              have c6 := M6.cell 0 rfl
              clear a5 b5 c5 g6 M5 h05
              go_wp2_with fail
              refine (implIsBelow_calls rb rp m rd i rpc ys zs _ hm hi (SB.below h06 (Nat.le_refl _)) (SC.below h06 (Nat.le_refl _))).mono ?_
              rintro e u7 ⟨rfl, g7⟩
              rw [Hbc.out]
              have M7 := M6.below g7
              have h07 := h06.trans (g7.mono h06.size)
              have a7 := M7.cell 2 rfl
              have b7 := M7.cell 1 rfl
              have c7 := M7.cell 0 rfl
              clear a6 b6 c6 g7 M6 h06
              go_wp2_with fail
              refine (specIsBelow_calls ra rb n rc m rd xs ys _ hn hm (SA.below h07 (Nat.le_refl _)) (SB.below h07 (Nat.le_refl _))).mono ?_
              rintro e u8 ⟨rfl, g8⟩
              rw [Hx.out]
              have M8 := M7.below g8
              have h08 := h07.trans (g8.mono h07.size)
              have a8 := M8.cell 2 rfl
              have b8 := M8.cell 1 rfl
              have c8 := M8.cell 0 rfl
              clear a7 b7 c7 g8 M7 h07
              go_wp2
              go_ret
              exact ⟨rfl, M8.bel⟩
            | true =>
              have Hbc := hide hbc
              have Hac : Hid (isBelowB xs zs = true) := hide ((isBelowB_iff Ha.out Hc.out).trans (belowB_trans hx' ((isBelowB_iff Hb.out Hc.out).symm.trans hbc)))
              clear hbc hx'
              go_wp2_with fail
              refine (implIsBelow_calls ra rb n rc m rd xs ys _ hn hm (SA.below h03 (Nat.le_refl _)) (SB.below h03 (Nat.le_refl _))).mono ?_
              rintro e u4 ⟨rfl, g4⟩
              rw [Hx.out]
              have M4 := M3.below g4
              have h04 := h03.trans (g4.mono h03.size)
              have a4 := M4.cell 2 rfl
              have b4 := M4.cell 1 rfl
              have c4 := M4.cell 0 rfl
              clear a3 b3 c3 g4 M3 h03
              go_wp2_with fail
              refine (implIsBelow_calls rb ra m rd n rc ys xs _ hm hn (SB.below h04 (Nat.le_refl _)) (SA.below h04 (Nat.le_refl _))).mono ?_
              rintro e u5 ⟨rfl, g5⟩
              rw [Hy.out]
              have M5 := M4.below g5
              have h05 := h04.trans (g5.mono h04.size)
              have a5 := M5.cell 2 rfl
              have b5 := M5.cell 1 rfl
              have c5 := M5.cell 0 rfl
              clear a4 b4 c4 g5 M4 h04
              go_wp2_with fail
              refine (implIsBelow_calls ra ra n rc n rc xs xs _ hn hn (SA.below h05 (Nat.le_refl _)) (SA.below h05 (Nat.le_refl _))).mono ?_
              rintro e u6 ⟨rfl, g6⟩
              rw [Haa.out]
              have M6 := M5.below g6
              have h06 := h05.trans (g6.mono h05.size)
              have a6 := M6.cell 2 rfl
              have b6 := M6.cell 1 rfl
              have c6 := M6.cell 0 rfl
              clear a5 b5 c5 g6 M5 h05
              go_wp2_with fail
              refine (implIsBelow_calls rb rp m rd i rpc ys zs _ hm hi (SB.below h06 (Nat.le_refl _)) (SC.below h06 (Nat.le_refl _))).mono ?_
              rintro e u7 ⟨rfl, g7⟩
              rw [Hbc.out]
              have M7 := M6.below g7
              have h07 := h06.trans (g7.mono h06.size)
              have a7 := M7.cell 2 rfl
              have b7 := M7.cell 1 rfl
              have c7 := M7.cell 0 rfl
              clear a6 b6 c6 g7 M6 h06
              go_wp2_with fail
              refine (implIsBelow_calls ra rp n rc i rpc xs zs _ hn hi (SA.below h07 (Nat.le_refl _)) (SC.below h07 (Nat.le_refl _))).mono ?_
              rintro e u8 ⟨rfl, g8⟩
              rw [Hac.out]
              have M8 := M7.below g8
              have h08 := h07.trans (g8.mono h07.size)
              have a8 := M8.cell 2 rfl
              have b8 := M8.cell 1 rfl
              have c8 := M8.cell 0 rfl
              clear a7 b7 c7 g8 M7 h07
              go_wp2_with fail
              refine (specIsBelow_calls ra rb n rc m rd xs ys _ hn hm (SA.below h08 (Nat.le_refl _)) (SB.below h08 (Nat.le_refl _))).mono ?_
              rintro e u9 ⟨rfl, g9⟩
              rw [Hx.out]
              have M9 := M8.below g9
              have h09 := h08.trans (g9.mono h08.size)
              have a9 := M9.cell 2 rfl
              have b9 := M9.cell 1 rfl
              have c9 := M9.cell 0 rfl
              clear a8 b8 c8 g9 M8 h08
              go_wp2
              go_ret
              exact ⟨rfl, M9.bel⟩
          | true =>
            have Hy := hide hy
            have Heq : Hid (decide (xs = ys) = true) := hide (decide_eq_true (belowB_anti (fault_len Ha.out) (fault_len Hb.out) hx' ((isBelowB_iff Hb.out Ha.out).symm.trans hy)))
            clear hy
            cases hbc : isBelowB ys zs with
            | false =>
              have Hbc := hide hbc
              clear hbc hx'
              go_wp2_with fail
              refine (implIsBelow_calls ra rb n rc m rd xs ys _ hn hm (SA.below h03 (Nat.le_refl _)) (SB.below h03 (Nat.le_refl _))).mono ?_
              rintro e u4 ⟨rfl, g4⟩
              rw [Hx.out]
              have M4 := M3.below g4
              have h04 := h03.trans (g4.mono h03.size)
              have a4 := M4.cell 2 rfl
              have b4 := M4.cell 1 rfl
              have c4 := M4.cell 0 rfl
              clear a3 b3 c3 g4 M3 h03
              go_wp2_with fail
              refine (implIsBelow_calls rb ra m rd n rc ys xs _ hm hn (SB.below h04 (Nat.le_refl _)) (SA.below h04 (Nat.le_refl _))).mono ?_
              rintro e u5 ⟨rfl, g5⟩
              rw [Hy.out]
              have M5 := M4.below g5
              have h05 := h04.trans (g5.mono h04.size)
              have a5 := M5.cell 2 rfl
              have b5 := M5.cell 1 rfl
              have c5 := M5.cell 0 rfl
              clear a4 b4 c4 g5 M4 h04
              go_wp2_with fail
              refine (implIsBelow_calls ra ra n rc n rc xs xs _ hn hn (SA.below h05 (Nat.le_refl _)) (SA.below h05 (Nat.le_refl _))).mono ?_
              rintro e u6 ⟨rfl, g6⟩
              rw [Haa.out]
              have M6 := M5.below g6
              have h06 := h05.trans (g6.mono h05.size)
              have a6 := M6.cell 2 rfl
              have b6 := M6.cell 1 rfl
              have c6 := M6.cell 0 rfl
              clear a5 b5 c5 g6 M5 h05
              go_wp2_with fail
              refine (lwNums_calls ra rb n rc m rd xs ys _ hn hm (SA.below h06 (Nat.le_refl _)) (SB.below h06 (Nat.le_refl _))).mono ?_
              rintro e u7 ⟨rfl, g7⟩
              rw [Heq.out]
              have M7 := M6.below g7
              have h07 := h06.trans (g7.mono h06.size)
              have a7 := M7.cell 2 rfl
              have b7 := M7.cell 1 rfl
              have c7 := M7.cell 0 rfl
              clear a6 b6 c6 g7 M6 h06
              go_wp2_with fail
              refine (implIsBelow_calls rb rp m rd i rpc ys zs _ hm hi (SB.below h07 (Nat.le_refl _)) (SC.below h07 (Nat.le_refl _))).mono ?_
              rintro e u8 ⟨rfl, g8⟩
              rw [Hbc.out]
              have M8 := M7.below g8
              have h08 := h07.trans (g8.mono h07.size)
              have a8 := M8.cell 2 rfl
              have b8 := M8.cell 1 rfl
              have c8 := M8.cell 0 rfl
              clear a7 b7 c7 g8 M7 h07
              go_wp2_with fail
              refine (specIsBelow_calls ra rb n rc m rd xs ys _ hn hm (SA.below h08 (Nat.le_refl _)) (SB.below h08 (Nat.le_refl _))).mono ?_
              rintro e u9 ⟨rfl, g9⟩
              rw [Hx.out]
              have M9 := M8.below g9
              have h09 := h08.trans (g9.mono h08.size)
              have a9 := M9.cell 2 rfl
              have b9 := M9.cell 1 rfl
              have c9 := M9.cell 0 rfl
              clear a8 b8 c8 g9 M8 h08
              go_wp2
              go_ret
              exact ⟨rfl, M9.bel⟩
            | true =>
              have Hbc := hide hbc
              have Hac : Hid (isBelowB xs zs = true) := hide ((isBelowB_iff Ha.out Hc.out).trans (belowB_trans hx' ((isBelowB_iff Hb.out Hc.out).symm.trans hbc)))
              clear hbc hx'
              go_wp2_with fail
              refine (implIsBelow_calls ra rb n rc m rd xs ys _ hn hm (SA.below h03 (Nat.le_refl _)) (SB.below h03 (Nat.le_refl _))).mono ?_
              rintro e u4 ⟨rfl, g4⟩
              rw [Hx.out]
              have M4 := M3.below g4
              have h04 := h03.trans (g4.mono h03.size)
              have a4 := M4.cell 2 rfl
              have b4 := M4.cell 1 rfl
              have c4 := M4.cell 0 rfl
              clear a3 b3 c3 g4 M3 h03
              go_wp2_with fail
              refine (implIsBelow_calls rb ra m rd n rc ys xs _ hm hn (SB.below h04 (Nat.le_refl _)) (SA.below h04 (Nat.le_refl _))).mono ?_
              rintro e u5 ⟨rfl, g5⟩
              rw [Hy.out]
              have M5 := M4.below g5
              have h05 := h04.trans (g5.mono h04.size)
              have a5 := M5.cell 2 rfl
              have b5 := M5.cell 1 rfl
              have c5 := M5.cell 0 rfl
              clear a4 b4 c4 g5 M4 h04
              go_wp2_with fail
              refine (implIsBelow_calls ra ra n rc n rc xs xs _ hn hn (SA.below h05 (Nat.le_refl _)) (SA.below h05 (Nat.le_refl _))).mono ?_
              rintro e u6 ⟨rfl, g6⟩
              rw [Haa.out]
              have M6 := M5.below g6
              have h06 := h05.trans (g6.mono h05.size)
              have a6 := M6.cell 2 rfl
              have b6 := M6.cell 1 rfl
              have c6 := M6.cell 0 rfl
              clear a5 b5 c5 g6 M5 h05
              go_wp2_with fail
              refine (lwNums_calls ra rb n rc m rd xs ys _ hn hm (SA.below h06 (Nat.le_refl _)) (SB.below h06 (Nat.le_refl _))).mono ?_
              rintro e u7 ⟨rfl, g7⟩
              rw [Heq.out]
              have M7 := M6.below g7
              have h07 := h06.trans (g7.mono h06.size)
              have a7 := M7.cell 2 rfl
              have b7 := M7.cell 1 rfl
              have c7 := M7.cell 0 rfl
              clear a6 b6 c6 g7 M6 h06
              go_wp2_with fail
              refine (implIsBelow_calls rb rp m rd i rpc ys zs _ hm hi (SB.below h07 (Nat.le_refl _)) (SC.below h07 (Nat.le_refl _))).mono ?_
              rintro e u8 ⟨rfl, g8⟩
              rw [Hbc.out]
              have M8 := M7.below g8
              have h08 := h07.trans (g8.mono h07.size)
              have a8 := M8.cell 2 rfl
              have b8 := M8.cell 1 rfl
              have c8 := M8.cell 0 rfl
              clear a7 b7 c7 g8 M7 h07
              go_wp2_with fail
              refine (implIsBelow_calls ra rp n rc i rpc xs zs _ hn hi (SA.below h08 (Nat.le_refl _)) (SC.below h08 (Nat.le_refl _))).mono ?_
              rintro e u9 ⟨rfl, g9⟩
              rw [Hac.out]
              have M9 := M8.below g9
              have h09 := h08.trans (g9.mono h08.size)
              have a9 := M9.cell 2 rfl
              have b9 := M9.cell 1 rfl
              have c9 := M9.cell 0 rfl
              clear a8 b8 c8 g9 M8 h08
              go_wp2_with fail
              refine (specIsBelow_calls ra rb n rc m rd xs ys _ hn hm (SA.below h09 (Nat.le_refl _)) (SB.below h09 (Nat.le_refl _))).mono ?_
              rintro e u10 ⟨rfl, g10⟩
              rw [Hx.out]
              have M10 := M9.below g10
              have h010 := h09.trans (g10.mono h09.size)
              have a10 := M10.cell 2 rfl
              have b10 := M10.cell 1 rfl
              have c10 := M10.cell 0 rfl
              clear a9 b9 c9 g10 M9 h09
              go_wp2
              go_ret
              exact ⟨rfl, M10.bel⟩
      · have ec : (fault zs != 0) = true := by simp [hfc]
        clear hfa hfb hfc
        go_wp2_with fail
        refine (implLabelFault_calls ra n rc xs _ hn SA).mono ?_
        rintro e u1 ⟨rfl, h01⟩
        have M1 := MW.below h01
        have a1 := M1.cell 2 rfl
        have b1 := M1.cell 1 rfl
        have c1 := M1.cell 0 rfl
        go_wp2_with fail
        refine (implLabelFault_calls rb m rd ys _ hm (SB.below h01 (Nat.le_refl _))).mono ?_
        rintro e u2 ⟨rfl, g2⟩
        have M2 := M1.below g2
        have h02 := h01.trans (g2.mono h01.size)
        have a2 := M2.cell 2 rfl
        have b2 := M2.cell 1 rfl
        have c2 := M2.cell 0 rfl
        clear a1 b1 c1 g2
        go_wp2_with fail
        refine (implLabelFault_calls rp i rpc zs _ hi (SC.below h02 (Nat.le_refl _))).mono ?_
        rintro e u3 ⟨rfl, g3⟩
        have M3 := M2.below g3
        have h03 := h02.trans (g3.mono h02.size)
        have a3 := M3.cell 2 rfl
        have b3 := M3.cell 1 rfl
        clear a2 b2 c2 g3
        cases hx : isBelowB xs ys with
        | false =>
          have Hx := hide hx
          clear hx
          have HSA := hide ((SA.below h03 (Nat.le_refl _)).below (Below.refl _ _).drew (Nat.le_refl _))
          have HSB := hide ((SB.below h03 (Nat.le_refl _)).below (Below.refl _ _).drew (Nat.le_refl _))
          have MD := Mem.drew M3
          go_wp2_with fail
          have hund : undef = Value.tuple #[] := rfl
          first | (go_region_with (first
            | (go_at_call 11; refine (implIsBelow_calls ra rb n rc m rd xs ys _ hn hm ?_ ?_).mono ?_; exact HSA.out; exact HSB.out; rintro e v1 ⟨rfl, g1⟩; rw [Hx.out]; have N1 := Mem.below MD g1; have a1' := N1.cell 2 rfl; have HS1 := hide (HSA.out.below g1 (Nat.le_refl _)); clear g1)
            | (go_at_call 12; refine (specLabelFault_calls ra n rc xs _ hn ?_).mono ?_; exact HS1.out; rintro e v2 ⟨rfl, g2⟩; have N2 := Mem.below N1 g2; have a2' := N2.cell 2 rfl; have HS2 := hide (HS1.out.below g2 (Nat.le_refl _)); clear g2)
            | (go_at_call 10; refine (implLabelFault_calls ra n rc xs _ hn ?_).mono ?_; exact HS2.out; rintro e v3 ⟨rfl, g3⟩; have N3 := Mem.below N2 g3; clear g3))) | fail
          all_goals go_wp2
          all_goals go_ret
          all_goals exact ⟨rfl, N3.bel⟩
        | true =>
          have Hx := hide hx
          clear hx
          have HSA := hide ((SA.below h03 (Nat.le_refl _)).below (Below.refl _ _).drew (Nat.le_refl _))
          have HSB := hide ((SB.below h03 (Nat.le_refl _)).below (Below.refl _ _).drew (Nat.le_refl _))
          have MD := Mem.drew M3
          go_wp2_with fail
          have hund : undef = Value.tuple #[] := rfl
          first | (go_region_with (first
            | (go_at_call 11; refine (implIsBelow_calls ra rb n rc m rd xs ys _ hn hm ?_ ?_).mono ?_; exact HSA.out; exact HSB.out; rintro e v1 ⟨rfl, g1⟩; rw [Hx.out]; have N1 := Mem.below MD g1; have a1' := N1.cell 2 rfl; have b1' := N1.cell 1 rfl; have HS1 := hide (HSA.out.below g1 (Nat.le_refl _)); have HT1 := hide (HSB.out.below g1 (Nat.le_refl _)); clear g1)
            | (go_at_call_of 10 (Value.slice ra n rc); refine (implLabelFault_calls ra n rc xs _ hn ?_).mono ?_; exact HS1.out; rintro e v2 ⟨rfl, g2⟩; rw [Ha.out]; have N2 := Mem.below N1 g2; have b2' := N2.cell 1 rfl; have HT2 := hide (HT1.out.below g2 (Nat.le_refl _)); clear g2)
            | (go_at_call_of 10 (Value.slice rb m rd); refine (implLabelFault_calls rb m rd ys _ hm ?_).mono ?_; exact HT2.out; rintro e v3 ⟨rfl, g3⟩; rw [Hb.out]; have N3 := Mem.below N2 g3; clear g3))) | fail
          all_goals go_wp2
          all_goals go_ret
          all_goals exact ⟨rfl, N3.bel⟩
    · have eb : (fault ys != 0) = true := by simp [hfb]
      have Hx : Hid (isBelowB xs ys = false) := hide (by cases h : isBelowB xs ys; rfl; exact absurd (isBelowB_fault h).2 hfb)
      clear hfa hfb
      go_wp2_with fail
      refine (implLabelFault_calls ra n rc xs _ hn SA).mono ?_
      rintro e u1 ⟨rfl, h01⟩
      have M1 := MW.below h01
      have a1 := M1.cell 2 rfl
      have b1 := M1.cell 1 rfl
      have c1 := M1.cell 0 rfl
      go_wp2_with fail
      refine (implLabelFault_calls rb m rd ys _ hm (SB.below h01 (Nat.le_refl _))).mono ?_
      rintro e u2 ⟨rfl, g2⟩
      have M2 := M1.below g2
      have h02 := h01.trans (g2.mono h01.size)
      have a2 := M2.cell 2 rfl
      have b2 := M2.cell 1 rfl
      have c2 := M2.cell 0 rfl
      clear a1 b1 c1 g2
      have HSA := hide ((SA.below h02 (Nat.le_refl _)).below (Below.refl _ _).drew (Nat.le_refl _))
      have HSB := hide ((SB.below h02 (Nat.le_refl _)).below (Below.refl _ _).drew (Nat.le_refl _))
      have MD := Mem.drew M2
      go_wp2_with fail
      have hund : undef = Value.tuple #[] := rfl
      first | (go_region_with (first
        | (go_at_call 11; refine (implIsBelow_calls ra rb n rc m rd xs ys _ hn hm ?_ ?_).mono ?_; exact HSA.out; exact HSB.out; rintro e v1 ⟨rfl, g1⟩; rw [Hx.out]; have N1 := Mem.below MD g1; have a1' := N1.cell 2 rfl; have HS1 := hide (HSA.out.below g1 (Nat.le_refl _)); clear g1)
        | (go_at_call 12; refine (specLabelFault_calls ra n rc xs _ hn ?_).mono ?_; exact HS1.out; rintro e v2 ⟨rfl, g2⟩; have N2 := Mem.below N1 g2; have a2' := N2.cell 2 rfl; have HS2 := hide (HS1.out.below g2 (Nat.le_refl _)); clear g2)
        | (go_at_call 10; refine (implLabelFault_calls ra n rc xs _ hn ?_).mono ?_; exact HS2.out; rintro e v3 ⟨rfl, g3⟩; have N3 := Mem.below N2 g3; clear g3))) | fail
      all_goals go_wp2
      all_goals go_ret
      all_goals exact ⟨rfl, N3.bel⟩
  · have ea : (fault xs != 0) = true := by simp [hfa]
    have Hx : Hid (isBelowB xs ys = false) := hide (by cases h : isBelowB xs ys; rfl; exact absurd (isBelowB_fault h).1 hfa)
    clear hfa
    go_wp2_with fail
    refine (implLabelFault_calls ra n rc xs _ hn SA).mono ?_
    rintro e u1 ⟨rfl, h01⟩
    have M1 := MW.below h01
    have a1 := M1.cell 2 rfl
    have b1 := M1.cell 1 rfl
    have c1 := M1.cell 0 rfl
    have HSA := hide ((SA.below h01 (Nat.le_refl _)).below (Below.refl _ _).drew (Nat.le_refl _))
    have HSB := hide ((SB.below h01 (Nat.le_refl _)).below (Below.refl _ _).drew (Nat.le_refl _))
    have MD := Mem.drew M1
    go_wp2_with fail
    have hund : undef = Value.tuple #[] := rfl
    first | (go_region_with (first
      | (go_at_call 11; refine (implIsBelow_calls ra rb n rc m rd xs ys _ hn hm ?_ ?_).mono ?_; exact HSA.out; exact HSB.out; rintro e v1 ⟨rfl, g1⟩; rw [Hx.out]; have N1 := Mem.below MD g1; have a1' := N1.cell 2 rfl; have HS1 := hide (HSA.out.below g1 (Nat.le_refl _)); clear g1)
      | (go_at_call 12; refine (specLabelFault_calls ra n rc xs _ hn ?_).mono ?_; exact HS1.out; rintro e v2 ⟨rfl, g2⟩; have N2 := Mem.below N1 g2; have a2' := N2.cell 2 rfl; have HS2 := hide (HS1.out.below g2 (Nat.le_refl _)); clear g2)
      | (go_at_call 10; refine (implLabelFault_calls ra n rc xs _ hn ?_).mono ?_; exact HS2.out; rintro e v3 ⟨rfl, g3⟩; have N3 := Mem.below N2 g3; clear g3))) | fail
    all_goals go_wp2
    all_goals go_ret
    all_goals exact ⟨rfl, N3.bel⟩

end Go.Proofs.Ytjahlhibgnbkgaa
