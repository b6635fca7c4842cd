import Derived.Test.YtpelhkailpdhoagOwns
import Derived.WalkKit
import Derived.ProofKit
import Derived.OpenShut
import Derived.ShutString
import Derived.ChangeOld
import Derived.Below
import Derived.WalkSpells
import Derived.Deep.QuietTactic
import Derived.BigQuiet
import Derived.Deep.RegionWith
namespace Go.Proofs.Ytpelhkailpdhoag
open Go.ChangeShapes Go.WideShapes Go.ChangeAt Go.RowKit

theorem law_big_OwnsAny (a : Option Addr) (len cap : Nat) (w : World) (hl : len ≤ maxLen) (hbig : 1048576 < len) :
    Calls Try.prog 7 #[.agg #[.slice a len cap]] w fun e w' => e = .returned (.bool true) ∧ Below w.heap.size w w' := by
  go_enter Try.func7, Try.ntmps7
  go_wp2_with fail
  refine (szLabel_calls a len cap 1048576 _ (by omega) (by omega) hl).mono ?_
  rintro e w1 ⟨rfl, hb⟩
  have hbw : Below w.heap.size w w1 := ((Below.refl _ _).alloc (Nat.le_refl _) _).trans (hb.mono (by simp))
  rw [szI_neg (by omega)]
  go_wp2
  go_ret
  exact ⟨rfl, hbw⟩

theorem law_small_OwnsAny (a : Option Addr) (len cap : Nat) (zs : List Int) (w : World) (hl : len ≤ 1048576) (hs : Sl w a len zs) :
    Calls Try.prog 7 #[.agg #[.slice a len cap]] w fun e w' => e = .returned (.bool true) ∧ Below w.heap.size w w' := by
  have hlm : len ≤ maxLen := by unfold maxLen; omega
  have hlen : zs.length = len := hs.1
  go_enter Try.func7, Try.ntmps7
  go_wp2_with fail
  refine (szLabel_calls a len cap 1048576 _ (by omega) (by omega) hlm).mono ?_
  rintro e w1 ⟨rfl, hb⟩
  have hb1 : Below w.heap.size w w1 := ((Below.refl _ _).alloc (Nat.le_refl _) _).trans (hb.mono (by simp))
  have hN : w.heap.size < w1.heap.size := by have := hb.size; simp at this; omega
  have c1 : w1.cell? ⟨w.heap.size, 0, none⟩ = some (.slice a len cap) := (hb.cell (p := ⟨w.heap.size, 0, none⟩) (by simp)).trans (by go_simp)
  have s1 : Sl w1 a len zs := hs.below hb1 (Nat.le_refl _)
  rw [szI_pos (by omega)]
  have hge : 0 ≤ 1048576 - (len : Int) := by omega
  clear hb hs
  go_wp2_with fail
  refine (toLabel_calls a len cap zs _ hl s1).mono ?_
  rintro e w2 ⟨b2, rfl, hb2N, blk2, hb2⟩
  go_wp2_with fail
  subst hlen
  refine (specOwnsAny_calls _ _ _ zs _ hlm blk2.sl).mono ?_
  rintro e w3 ⟨rfl, hb3⟩
  have h13 : Below w1.heap.size w1 w3 := hb2.trans (hb3.mono hb2.size)
  have c3 := (h13.cell (p := ⟨w.heap.size, 0, none⟩) hN).trans c1
  have s3 : Sl w3 a zs.length zs := s1.below h13 (Nat.le_refl _)
  clear hb2 hb3 blk2 hb2N
  go_wp2_with fail
  refine (toLabel_calls a _ cap zs _ hl s3).mono ?_
  rintro e w4 ⟨b4, rfl, hb4N, blk4, hb4⟩
  have h14 : Below w1.heap.size w1 w4 := h13.trans (hb4.mono h13.size)
  have c4 := (h14.cell (p := ⟨w.heap.size, 0, none⟩) hN).trans c1
  go_wp2_with fail
  refine (implOwnsAny_calls _ _ _ zs _ hlm ((blk4.sl).below ((Below.refl _ _).alloc (Nat.le_refl _) _) (Nat.le_refl _))).mono ?_
  rintro e w5 ⟨rfl, hb5⟩
  have h45 : Below w4.heap.size w4 w5 := ((Below.refl _ _).alloc (Nat.le_refl _) _).trans (hb5.mono (by simp))
  have x5 : w5.cell? ⟨w4.heap.size, 0, none⟩ = some (.slice (some ⟨b4, 0, none⟩) zs.length zs.length) := (hb5.cell (p := ⟨w4.heap.size, 0, none⟩) (by simp)).trans (by go_simp)
  have h15 : Below w1.heap.size w1 w5 := h14.trans (h45.mono h14.size)
  have c5 := (h15.cell (p := ⟨w.heap.size, 0, none⟩) hN).trans c1
  have s5 : Sl w5 a zs.length zs := s1.below h15 (Nat.le_refl _)
  have blk5 : Blk w5 b4 zs := blk4.below h45
  have hw4 : w4.heap.size < w5.heap.size := by have := hb5.size; simp at this; omega
  clear hb5 h45 blk4 hb4 hb4N h13 h14 c4 c3 s3
  go_wp2_with fail
  go_region_with (first
    | (go_at_call 11; refine (toLabel_calls a zs.length cap zs _ hl ?_).mono ?_; exact s5; rintro e w6 ⟨b6, rfl, hb6N, blk6, hb6⟩; have h56 : Below w5.heap.size w5 w6 := ((Below.refl w5.heap.size w5).drew).trans hb6; have x6 := (h56.cell (p := ⟨w4.heap.size, 0, none⟩) hw4).trans x5; have blk56 := blk5.below h56; clear hb6)
    | (go_at_call 13; refine (eqLabel_calls _ _ _ _ _ _ zs zs _ hlm hlm ?_ ?_).mono ?_; exact Blk.sl blk56; exact Blk.sl blk6; rintro e w7 ⟨rfl, hb7⟩; rw [decide_eq_true rfl]))
  all_goals go_wp2
  all_goals go_ret
  all_goals exact ⟨rfl, hb1.trans ((h15.trans ((h56.trans (hb7.mono h56.size)).mono h15.size)).mono hb1.size)⟩

theorem walk_OwnsAny (a : Option Addr) (len cap : Nat) (zs : List Int) (w : World) (hl : len ≤ maxLen) (hs : Sl w a len zs) :
    Calls Try.prog 7 #[.agg #[.slice a len cap]] w fun e w' => e = .returned (.bool true) ∧ Below w.heap.size w w' := by
  by_cases h : len ≤ 1048576
  · exact law_small_OwnsAny a len cap zs w h hs
  · exact law_big_OwnsAny a len cap w hl (by omega)

end Go.Proofs.Ytpelhkailpdhoag
