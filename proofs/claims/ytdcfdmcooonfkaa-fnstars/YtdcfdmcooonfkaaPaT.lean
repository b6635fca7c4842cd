import Derived.Test.YtdcfdmcooonfkaaPaP
import Derived.Test.YtdcfdmcooonfkaaApp
import Derived.Test.YtdcfdmcooonfkaaSep
import Derived.Deep.AppendLies
import Derived.WalkKit
import Derived.ProofKit
import Derived.OpenShut
import Derived.ShutString
import Derived.ChangeOld
import Derived.Below
import Derived.WalkSpells
import Derived.Deep.QuietTactic
import Derived.BigQuiet
import Derived.Deep.RegionWith
import Derived.Deep.WholeRow
import Derived.Deep.DeepCutAuto
import Derived.Deep.RegionHeld2
import Derived.Deep.AppendLies
import Derived.Deep.RegionLaw
namespace Go.Proofs.Ytdcfdmcooonfkaa
open Go.ChangeShapes Go.WideShapes Go.ChangeAt Go.RowKit

set_option maxRecDepth 100000 in
theorem l1Max_calls (x y : Int) (w : World) : Calls Try.prog 77 #[.int .i64 x, .int .i64 y] w fun e w' => e = .returned (.int .i64 (max x y)) ∧ w' = w := by
  by_cases h : y < x
  · go_enter Try.func77, Try.ntmps77
    go_wp2
    go_ret
    exact ⟨ret_int (by omega), rfl⟩
  · go_enter Try.func77, Try.ntmps77
    go_wp2
    go_ret
    exact ⟨ret_int (by omega), rfl⟩

set_option maxRecDepth 100000 in
set_option maxHeartbeats 4000000 in
theorem l1JoinO_calls (p o q : Nat) (a b : Option Addr) (n ca cb : Nat) (xs ys : List Int) (w : World) (hn : n ≤ 1048576) (hp : p < w.heap.size) (hq : q < w.heap.size)
    (hpc : w.cell? ⟨p, o, none⟩ = some (.slice a n ca)) (hqc : w.cell? ⟨q, 0, none⟩ = some (.slice b n cb)) (hx : Sl w a n xs) (hy : Sl w b n ys) :
    Calls Try.prog 60 #[.pointer (some ⟨p, o, none⟩), .pointer (some ⟨q, 0, none⟩)] w fun e w' => ∃ ra rc, e = .returned (.agg #[.slice ra n rc]) ∧ OSl w' w.heap.size w'.heap.size ra n (mix max xs ys) ∧ Below w.heap.size w w' := by
  obtain ⟨hxl, hx⟩ := hx
  obtain ⟨hyl, hy⟩ := hy
  obtain ⟨i0, hi, hz0, hz1, hz2⟩ := info_parts info2
  go_enter Try.func60, Try.ntmps60
  go_wp2
  go_loopw [6] (fun i wr => ∃ (k : Nat) (v : Value), k ≤ n ∧ i = .int .i64 k ∧ wr.cell? ⟨w.heap.size + 1, 0, none⟩ = some v ∧ wr.frozen? ⟨w.heap.size + 1, 0, none⟩ = false ∧ wr.ownsRow (w.heap.size + 2) 2 1 v k (((mix max xs ys).take k).map (Value.int .i64)) ∧
      wr.cell? ⟨w.heap.size, 0, none⟩ = some (.slice none 0 0) ∧ wr.frozen? ⟨w.heap.size, 0, none⟩ = false ∧ Below w.heap.size w wr ∧ w.heap.size + 2 ≤ wr.heap.size) (fun i _ => n - (intOf i).toNat)
  case atStart => exact ⟨0, .slice none 0 0, Nat.zero_le _, rfl, by go_simp, by go_simp, World.ownsRow_nil _ _ _ _, by go_simp, by go_simp, ((Below.refl _ _).alloc (Nat.le_refl _) _).alloc (by simp) _, by simp⟩
  case round =>
    obtain ⟨k, v, hk, rfl, hv, hvf, hown, hr, hrf, hbel, hsz⟩ := hrel
    have hpr := (hbel.cell (p := ⟨p, o, none⟩) hp).trans hpc
    have hqr := (hbel.cell (p := ⟨q, 0, none⟩) hq).trans hqc
    by_cases hlt : k < n
    · obtain ⟨b1, o1, rfl, hb1, hc1⟩ := hx (by omega)
      obtain ⟨b2, o2, rfl, hb2, hc2⟩ := hy (by omega)
      have hck1 := (hbel.cell (p := ⟨b1, o1 + k, none⟩) hb1).trans (hc1 k hlt)
      have hck2 := (hbel.cell (p := ⟨b2, o2 + k, none⟩) hb2).trans (hc2 k hlt)
      have hki : (k : Int) < (n : Int) := by omega
      have hsz1 : w.heap.size + 1 < wr.heap.size := by omega
      have HO := hide hown
      clear hown hx hy hc1 hc2
      go_wp2_with fail
      go_region_law (first
        | (refine step_append_lies _ rfl _ _ 24 rfl (w.heap.size + 2) 2 i0 (.int .i64 0) 1 8 Try.underlying24 hi hz0 hz1 hz2 rfl (by decide) v k (((mix max xs ys).take k).map (Value.int .i64)) rfl (HO.out.alloc _) ⟨wr.heap.size, 0, none⟩ 1 1 [.int .i64 (max (gt xs k) (gt ys k))] rfl rfl (one_new (by go_simp)) (by simp [Value.oneCell']) (by omega) (by unfold maxLen; omega) (by omega) (by simp; omega) (wr.heap.size + 1) (by simp) ?_; intro g cp w1 hown1 hgrow hat hlt1; have gv := grow_cell HO.out hgrow hsz (p := ⟨w.heap.size + 1, 0, none⟩) (by simp); rw [hv, hvf] at gv; obtain ⟨gv1, gv2⟩ := gv)
        | (go_simp; go_at_call 77; refine (l1Max_calls _ _ _).mono ?_; rintro e w2 ⟨rfl, rfl⟩))
      all_goals
        have R := app_step hbel hsz (by omega : w.heap.size + 1 < w.heap.size + 2) (by omega) hv hvf HO.out hgrow hown1
        have RN := R.2.2.2.1 ⟨w.heap.size, 0, none⟩ (by simp) (by simp)
        rw [hr, hrf] at RN
        rw [← mix_take max xs ys k (by omega)] at R
        have HR := hide R
        have HRN := hide RN
        clear R RN gv1 gv2 hown1 hgrow hat hlt1
        go_wp2
        go_roundw
        case rel => exact ⟨k + 1, _, by omega, by go_num, HR.out.1, HR.out.2.1, HR.out.2.2.1, HRN.out.1, HRN.out.2, HR.out.2.2.2.2.1, HR.out.2.2.2.2.2⟩
        case measure => simp [intOf]; omega
    · have hkn : k = n := by omega
      subst hkn
      rw [List.take_of_length_le (by rw [length_mix]; omega)] at hown
      obtain ⟨ra, rc, rfl, ho⟩ := owns_osl hn hown
      clear hown
      go_wp2
      refine bodyPost_ret (v := .agg #[.slice ra k rc]) (by simp [results, Try.results60, go_sem, hr]) rfl ⟨ra, rc, rfl, ?_, hbel.setCell (by simp) _⟩
      exact (ho.map (fun b h1 _ hb => hb.setCell (by simp; omega) _)).mono (by omega) (by simp)

set_option maxRecDepth 100000 in
set_option maxHeartbeats 2000000 in
theorem l3Tainted_calls (p o q : Nat) (a b : Option Addr) (ca cb : Nat) (xs ys : List Int) (w : World) (hp : p < w.heap.size) (hq : q < w.heap.size)
    (hpc : w.cell? ⟨p, o, none⟩ = some (.slice a 4 ca)) (hqc : w.cell? ⟨q, 0, none⟩ = some (.slice b 4 cb)) (hx : Sl w a 4 xs) (hy : Sl w b 4 ys) :
    Calls Try.prog 52 #[.pointer (some ⟨p, o, none⟩), .pointer (some ⟨q, 0, none⟩)] w fun e w' => ∃ ra rc, e = .returned (.agg #[.slice ra 4 rc]) ∧ OS (InR w.heap.size w'.heap.size) ra 4 (mix td xs ys) w' ∧ Below w.heap.size w w' := by
  have M0 := (Mm.start w).alloc1 (.slice none 0 0) 26
  have al := (Below.refl w.heap.size w).alloc (Nat.le_refl _) (.cells #[.slice none 0 0] 26)
  have hp0 : p < (w.alloc (.cells #[.slice none 0 0] 26)).heap.size := by simp; omega
  have hq0 : q < (w.alloc (.cells #[.slice none 0 0] 26)).heap.size := by simp; omega
  go_enter Try.func52, Try.ntmps52
  go_wp2_with fail
  refine (l1JoinO_calls p o q a b 4 ca cb xs ys _ (by omega) hp0 hq0 ((al.cell (p := ⟨p, o, none⟩) hp).trans hpc) ((al.cell (p := ⟨q, 0, none⟩) hq).trans hqc) (hx.below al (Nat.le_refl _)) (hy.below al (Nat.le_refl _))).mono ?_
  rintro e w1 ⟨ra, rc, rfl, o1, g1⟩
  obtain ⟨_, _, h4 | ⟨bb, rfl, hbb, blk⟩⟩ := OS.ofOSl o1
  · omega
  have z1 := g1.size
  have hb1 := hbb.1
  have hb2 := hbb.2
  simp only [World.size_alloc] at z1 hb1
  have M1 := (M0.below g1).alloc1 (.slice (some ⟨bb, 0, none⟩) 4 rc) 26
  have blk1 := blk.below ((Below.refl w1.heap.size w1).alloc (Nat.le_refl _) (.cells #[.slice (some ⟨bb, 0, none⟩) 4 rc] 26))
  rw [← tdK_start ys hx.1] at blk1
  have HM1 := hide M1
  have HBk := hide blk1
  have hxl := hx.1
  obtain ⟨_, hx⟩ := hx
  obtain ⟨xb, xo, rfl, hxb, hxc⟩ := hx (by omega)
  clear M0 M1 g1 al o1 blk blk1 hbb hp0 hq0
  go_wp2
  go_loopw [6] (fun i wr => ∃ k : Nat, k ≤ 4 ∧ i = .int .i64 k ∧ Blk wr bb (tdK k xs ys) ∧ Mm w wr [(w1.heap.size, 0, .slice (some ⟨bb, 0, none⟩) 4 rc), (w.heap.size, 0, .slice none 0 0)] []) (fun i _ => 4 - (intOf i).toNat)
  case atStart => exact ⟨0, Nat.zero_le _, rfl, HBk.out, HM1.out⟩
  case round =>
    obtain ⟨k, hk, rfl, blk, M2⟩ := hrel
    have hpr := (M2.bel.cell (p := ⟨p, o, none⟩) hp).trans hpc
    have v0 := M2.cell 0 rfl
    have r0 := M2.cell 1 rfl
    have rf := M2.fz 1 rfl
    by_cases hlt : k < 4
    · have ck := (M2.bel.cell (p := ⟨xb, xo + k, none⟩) hxb).trans (hxc k hlt)
      have hki : (k : Int) < 4 := by omega
      have bc := blk.2.1 k (by rw [length_tdK]; exact hlt)
      have bf := blk.2.2 k
      by_cases h0 : gt xs k = 0
      · have e0 : (gt xs k == 0) = true := by simp [h0]
        have HBs : Hid (Blk (wr.setCell ⟨bb, k, none⟩ (.int .i64 0)) bb (tdK (k + 1) xs ys)) := by show Blk _ _ _; rw [← tdK_star ys hlt h0]; exact blk_store blk (by rw [length_tdK]; exact hlt)
        have HMs := hide (M2.out (B := bb) (T := bb + 1) ((OutS.refl (InR bb (bb + 1)) wr).setCell (p := ⟨bb, k, none⟩) ⟨Nat.le_refl _, Nat.lt_succ_self _⟩ (.int .i64 0)) (by omega) (by simp <;> omega) (by simp))
        clear M2 blk
        go_wp2
        go_roundw
        case rel => exact ⟨k + 1, by omega, by go_num, HBs.out, HMs.out⟩
        case measure => simp [intOf]; omega
      · have e0 : (gt xs k == 0) = false := by simp [h0]
        have HBs : Hid (Blk wr bb (tdK (k + 1) xs ys)) := by show Blk _ _ _; rw [← tdK_same ys hlt h0]; exact blk
        have HMs := hide M2
        clear M2 blk
        go_wp2
        go_roundw
        case rel => exact ⟨k + 1, by omega, by go_num, HBs.out, HMs.out⟩
        case measure => simp [intOf]; omega
    · obtain rfl : k = 4 := by omega
      rw [tdK_end ys hxl] at blk
      have HBs := hide blk
      have HB := hide M2.bel
      have HLn : Hid ((mix td xs ys).length = 4) := (length_mix td xs ys).trans hxl
      clear M2 blk
      go_wp2
      refine bodyPost_ret (v := .agg #[.slice (some ⟨bb, 0, none⟩) 4 rc]) (by simp [results, Try.results52, go_sem, r0]) rfl ⟨_, _, rfl, ?_, HB.out.setCell (by simp) _⟩
      exact OS.ofBlk (HBs.out.setCell (by show w.heap.size ≠ _; omega) _) ⟨by omega, by have := HBs.out.1; simpa using this⟩ HLn.out (by omega)

end Go.Proofs.Ytdcfdmcooonfkaa
