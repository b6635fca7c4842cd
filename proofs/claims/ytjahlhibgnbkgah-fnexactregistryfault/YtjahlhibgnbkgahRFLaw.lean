import Derived.Test.YtjahlhibgnbkgahOpen
import Derived.Test.YtjahlhibgnbkgahSpecReg2
import Derived.Test.YtjahlhibgnbkgahToReg
import Derived.Test.YtjahlhibgnbkgahSzReg
import Derived.Test.YtjahlhibgnbkgahEqReg
import Derived.WalkKit
import Derived.ProofKit
import Derived.OpenShut
import Derived.ShutString
import Derived.ChangeOld
import Derived.Below
import Derived.WalkSpells
import Derived.Deep.QuietTactic
import Derived.BigQuiet
import Derived.Deep.RegionWith
import Derived.Deep.WholeRow
import Derived.Deep.DeepCutAuto
import Derived.Deep.RegionHeld2
import Derived.Deep.AppendLies
import Derived.Deep.RegionLaw
namespace Go.Proofs.Ytjahlhibgnbkgah
open Go.ChangeShapes Go.WideShapes Go.ChangeAt Go.RowKit

set_option maxRecDepth 100000 in
theorem implRegistryFault_calls (a : Option Addr) (n ca : Nat) (ss : List (Int × List Int)) (w : World) (hn : n ≤ maxLen) (hx : Sls w a n ss) :
    Calls Try.prog 15 #[.agg #[.slice a n ca]] w fun e w' => e = .returned (.int .i64 (faultR ss)) ∧ Below w.heap.size w w' := by
  go_enter Try.func15, Try.ntmps15
  go_wp2_with fail
  refine (openRegistry_calls a n ca ss _ hn (hx.below ((Below.refl _ _).alloc (Nat.le_refl _) _) (Nat.le_refl _))).mono ?_
  rintro e w1 ⟨sz, mo, rfl, hb, _⟩
  have HB : Hid (Below w.heap.size w w1) := ((Below.refl _ _).alloc (Nat.le_refl _) _).trans (hb.mono (by simp))
  clear hb
  go_wp2
  go_ret
  exact ⟨rfl, HB.out.alloc HB.out.size _⟩

set_option maxRecDepth 100000 in
theorem law_big_RegistryFault (a : Option Addr) (n cap : Nat) (ss : List (Int × List Int)) (w : World) (hl : n ≤ maxLen) (hs : Sls w a n ss) (hbig : 1048576 < n + lenSum ss) :
    Calls Try.prog 4 #[.agg #[.slice a n cap]] w fun e w' => e = .returned (.bool true) ∧ Below w.heap.size w w' := by
  have hs1 := hs.below ((Below.refl w.heap.size w).alloc (Nat.le_refl _) (.cells #[.slice a n cap] 32)) (Nat.le_refl _)
  go_enter Try.func4, Try.ntmps4
  go_wp2_with fail
  refine (szRegistry_calls a n cap ss 1048576 _ (by omega) (by omega) hl hs1).mono ?_
  rintro e w1 ⟨rfl, hb⟩
  have hbw : Below w.heap.size w w1 := ((Below.refl _ _).alloc (Nat.le_refl _) _).trans (hb.mono (by simp))
  rw [szI_neg (by omega)]
  go_wp2
  go_ret
  exact ⟨rfl, hbw⟩

set_option maxRecDepth 100000 in
theorem law_small_RegistryFault (a : Option Addr) (n cap : Nat) (ss : List (Int × List Int)) (w : World) (hl : n + lenSum ss ≤ 1048576) (hs : Sls w a n ss) :
    Calls Try.prog 4 #[.agg #[.slice a n cap]] w fun e w' => e = .returned (.bool true) ∧ Below w.heap.size w w' := by
  have hlm : n ≤ maxLen := by unfold maxLen; omega
  have hlen : ss.length = n := hs.1
  have hn1 : n ≤ 1048576 := by omega
  have hn2 : lenSum ss ≤ 1048576 := by omega
  have hs1 := hs.below ((Below.refl w.heap.size w).alloc (Nat.le_refl _) (.cells #[.slice a n cap] 32)) (Nat.le_refl _)
  have hneq : (faultR ss != faultR ss) = false := by simp
  go_enter Try.func4, Try.ntmps4
  go_wp2_with fail
  refine (szRegistry_calls a n cap ss 1048576 _ (by omega) (by omega) hlm hs1).mono ?_
  rintro e w1 ⟨rfl, hb⟩
  have hb1 : Below w.heap.size w w1 := ((Below.refl _ _).alloc (Nat.le_refl _) _).trans (hb.mono (by simp))
  have hN : w.heap.size < w1.heap.size := by have := hb.size; simp at this; omega
  have c1 : w1.cell? ⟨w.heap.size, 0, none⟩ = some (.slice a n cap) := (hb.cell (p := ⟨w.heap.size, 0, none⟩) (by simp)).trans (by go_simp)
  have s1 : Sls w1 a n ss := hs.below hb1 (Nat.le_refl _)
  rw [szI_pos (by omega)]
  have hge : ¬ (1048576 - ((n + lenSum ss : Nat) : Int) < 0) := by omega
  clear hb hs hs1
  go_wp2_with fail
  refine (toRegistry_calls a n cap ss _ hn1 hn2 s1).mono ?_
  rintro e w2 ⟨b2, rfl, hb2N, blk2, hb2⟩
  go_wp2_with fail
  refine (specRegistryFault_calls _ _ _ ss _ hlm (blk2.done hlen hn2)).mono ?_
  rintro e w3 ⟨rfl, hb3⟩
  have h13 : Below w1.heap.size w1 w3 := hb2.trans (hb3.mono hb2.size)
  have c3 := (h13.cell (p := ⟨w.heap.size, 0, none⟩) hN).trans c1
  have s3 := s1.below h13 (Nat.le_refl _)
  clear hb2 hb3 blk2 hb2N
  go_wp2_with fail
  refine (toRegistry_calls a _ cap ss _ hn1 hn2 s3).mono ?_
  rintro e w4 ⟨b4, rfl, hb4N, blk4, hb4⟩
  have h14 : Below w1.heap.size w1 w4 := h13.trans (hb4.mono h13.size)
  have c4 := (h14.cell (p := ⟨w.heap.size, 0, none⟩) hN).trans c1
  go_wp2_with fail
  refine (implRegistryFault_calls _ _ _ ss _ hlm ((blk4.done hlen hn2).below ((Below.refl _ _).alloc (Nat.le_refl _) _) (Nat.le_refl _))).mono ?_
  rintro e w5 ⟨rfl, hb5⟩
  have h45 : Below w4.heap.size w4 w5 := ((Below.refl _ _).alloc (Nat.le_refl _) _).trans (hb5.mono (by simp))
  have x5 : w5.cell? ⟨w4.heap.size, 0, none⟩ = some (.slice (some ⟨b4, 0, none⟩) n n) := (hb5.cell (p := ⟨w4.heap.size, 0, none⟩) (by simp)).trans (by go_simp)
  have h15 : Below w1.heap.size w1 w5 := h14.trans (h45.mono h14.size)
  have c5 := (h15.cell (p := ⟨w.heap.size, 0, none⟩) hN).trans c1
  have s5 := s1.below h15 (Nat.le_refl _)
  have blk5 := blk4.below h45
  have hw4 : w4.heap.size < w5.heap.size := by have := hb5.size; simp at this; omega
  clear hb5 h45 blk4 hb4 hb4N h13 h14 c4 c3 s3
  go_wp2_with fail
  go_region_with (first
    | (go_at_call 14; refine (toRegistry_calls a n cap ss _ hn1 hn2 ?_).mono ?_; exact s5; rintro e w6 ⟨b6, rfl, hb6N, blk6, hb6⟩; have h56 : Below w5.heap.size w5 w6 := ((Below.refl w5.heap.size w5).drew).trans hb6; have x6 := (h56.cell (p := ⟨w4.heap.size, 0, none⟩) hw4).trans x5; have blk56 := blk5.below h56; clear hb6)
    | (go_at_call 16; refine (eqRegistry_calls _ _ n n n ss _ hlm ?_ ?_).mono ?_; exact blk56.done hlen hn2; exact blk6.done hlen hn2; rintro e w7 ⟨rfl, hb7⟩))
  all_goals go_wp2
  all_goals go_ret
  all_goals exact ⟨rfl, hb1.trans ((h15.trans ((h56.trans (hb7.mono h56.size)).mono h15.size)).mono hb1.size)⟩

theorem walk_RegistryFault (a : Option Addr) (n cap : Nat) (ss : List (Int × List Int)) (w : World) (hl : n ≤ maxLen) (hs : Sls w a n ss) :
    Calls Try.prog 4 #[.agg #[.slice a n cap]] w fun e w' => e = .returned (.bool true) ∧ Below w.heap.size w w' := by
  by_cases h : n + lenSum ss ≤ 1048576
  · exact law_small_RegistryFault a n cap ss w h hs
  · exact law_big_RegistryFault a n cap ss w hl hs (by omega)

end Go.Proofs.Ytjahlhibgnbkgah
