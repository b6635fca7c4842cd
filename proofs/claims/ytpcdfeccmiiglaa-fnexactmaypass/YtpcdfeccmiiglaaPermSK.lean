import Derived.Test.YtpcdfeccmiiglaaKfT
import Derived.Test.YtpcdfeccmiiglaaQs
import Derived.WalkKit
import Derived.ProofKit
import Derived.OpenShut
import Derived.ShutString
import Derived.ChangeOld
import Derived.Below
import Derived.WalkSpells
import Derived.Deep.QuietTactic
import Derived.BigQuiet
import Derived.Deep.RegionWith
import Derived.Deep.WholeRow
import Derived.Deep.DeepCutAuto
import Derived.Deep.RegionHeld2
import Derived.Deep.AppendLies
import Derived.Deep.RegionLaw
namespace Go.Proofs.Ytpcdfeccmiiglaa
open Go.ChangeShapes Go.WideShapes Go.ChangeAt Go.RowKit

set_option maxRecDepth 100000 in
theorem l1HighO_calls (p o : Nat) (a : Option Addr) (cap : Nat) (zs : List Int) (w : World) (hp : p < w.heap.size) (hpc : w.cell? ⟨p, o, none⟩ = some (.slice a 4 cap)) (hs : Sl w a 4 zs) :
    Calls Try.prog 101 #[.pointer (some ⟨p, o, none⟩)] w fun e w' => ∃ b c, e = .returned (.agg #[.slice (some ⟨b, 0, none⟩) 4 c]) ∧ w.heap.size ≤ b ∧ Blk w' b (highL zs) ∧ Below w.heap.size w w' := by
  obtain ⟨hlen, hs⟩ := hs
  obtain ⟨b, off, rfl, hb, hc⟩ := hs (by omega)
  obtain ⟨i0, hi, hz0, hz1, hz2⟩ := info_parts info2
  have hb0 := fun o1 o2 => ((Below.refl w.heap.size w).alloc (Nat.le_refl _) o1).alloc (by simp) o2
  have hown := World.ownsRow_lit (base := w.heap.size) (e := 2) (size := 1) (w.alloc (.cells #[.slice none 0 0] 47)) #[] 0 (by simp) (Nat.zero_le _) rfl
  have hnews := ints_at_sl (w := (w.alloc (.cells #[.slice none 0 0] 47)).alloc (.cells #[] 2)) (b := b) (off := off) (zs := zs) (fun i hi => ((hb0 _ _).cell (p := ⟨b, off + i, none⟩) hb).trans (hc i (by omega)))
  rw [World.size_alloc] at hown
  have HO := hide hown
  have HN := hide hnews
  clear hown hnews hs hc
  go_enter Try.func101, Try.ntmps101
  go_wp2_with (first
    | (at_builtin; refine wpList_append_own _ rfl _ _ 29 rfl w.heap.size 2 i0 (.int .i64 0) 1 8 Try.underlying29 hi hz0 hz1 hz2 rfl (by decide) _ 0 [] rfl HO.out ⟨b, off, none⟩ 4 cap (zs.map (Value.int .i64)) rfl (by simp [hlen]) HN.out ints_one (by decide) (by decide) (by simp; omega) ?_)
    | go_in)
  intro v' w1 hown' hgrow _
  have hown2 : w1.ownsRow w.heap.size 2 1 v' 4 (zs.map (Value.int .i64)) := hown'
  obtain ⟨g, cap', rfl, hg, hcap, _, blk⟩ := owns_blk (by omega) hown2
  have h1 : Below w.heap.size w w1 := (hb0 _ _).grown hgrow (by simp; omega) (fun k hk => by simp [Value.ownBlock] at hk; omega)
  have hgn : w1.heap.size ≠ g := by have := blk.1; omega
  have hr : w.heap.size ≠ g := by
    intro e
    have h0 := hgrow.block w.heap.size (by simp; omega) (by simp [Value.ownBlock])
    have h3 := blk.2.1 0 (by omega)
    rw [← e] at h3
    have h4 : ((w.alloc (.cells #[.slice none 0 0] 47)).alloc (.cells #[] 2)).cell? ⟨w.heap.size, 0, none⟩ = some (.int .i64 (gt zs 0)) := (World.cell?_of_block (a := ⟨w.heap.size, 0, none⟩) h0).symm.trans h3
    rw [show ((w.alloc (.cells #[.slice none 0 0] 47)).alloc (.cells #[] 2)).cell? ⟨w.heap.size, 0, none⟩ = some (.slice none 0 0) from by go_simp] at h4
    cases h4
  have rc : w1.cell? ⟨w.heap.size, 0, none⟩ = some (.slice none 0 0) := (World.cell?_of_block (a := ⟨w.heap.size, 0, none⟩) (hgrow.block w.heap.size (by simp; omega) (by simp [Value.ownBlock]))).trans (by go_simp)
  have rf : w1.frozen? ⟨w.heap.size, 0, none⟩ = false := (World.frozen?_of_block (a := ⟨w.heap.size, 0, none⟩) (hgrow.block w.heap.size (by simp; omega) (by simp [Value.ownBlock]))).trans (by go_simp)
  have hN1 : w.heap.size < w1.heap.size := by have := hgrow.size; simp at this; omega
  clear HO HN hown' hown2 hgrow hb0
  go_wp2
  go_loopw [4] (fun i wr => ∃ k : Nat, k ≤ 4 ∧ i = .int .i64 k ∧ Below w.heap.size w wr ∧ HRow wr g k zs ∧ wr.cell? ⟨w1.heap.size, 0, none⟩ = some (.slice (some ⟨g, 0, none⟩) 4 cap') ∧ wr.cell? ⟨w.heap.size, 0, none⟩ = some (.slice none 0 0) ∧ wr.frozen? ⟨w.heap.size, 0, none⟩ = false) (fun i _ => 4 - (intOf i).toNat)
  case atStart => exact ⟨0, Nat.zero_le _, rfl, h1.alloc h1.size _, HRow.start (blk.below ((Below.refl _ _).alloc (Nat.le_refl _) _)) hlen, by go_simp, by go_simp, by go_simp⟩
  case round =>
    obtain ⟨k, hk, rfl, hbel, hrow, hq, rc', rf'⟩ := hrel
    by_cases hlt : k < 4
    · have hck := hrow.2.1 k hlt
      rw [if_neg (by omega)] at hck
      have hfk := hrow.2.2 k
      by_cases he : gt zs k = 0
      · have hz : (gt zs k == 0) = true := by simp [he]
        have He := hide he
        have hq2 : (wr.setCell ⟨g, k, none⟩ (.int .i64 5)).cell? ⟨w1.heap.size, 0, none⟩ = some (.slice (some ⟨g, 0, none⟩) 4 cap') := by
          rw [World.cell?_setCell_other _ _ _ _ (fun h => hgn (by injection h with h2; exact h2.symm))]; exact hq
        have rc2 : (wr.setCell ⟨g, k, none⟩ (.int .i64 5)).cell? ⟨w.heap.size, 0, none⟩ = some (.slice none 0 0) := by
          rw [World.cell?_setCell_other _ _ _ _ (fun h => hr (by injection h with h2; exact h2.symm))]; exact rc'
        have Hq2 := hide hq2
        have Rc2 := hide rc2
        clear he hq2 rc2
        go_wp2
        go_roundw
        case rel => exact ⟨k + 1, by omega, by go_num, hbel.setCell hg _, hrow.set hlt He.out, Hq2.out, Rc2.out, by simpa using rf'⟩
        case measure => simp [intOf]; omega
      · have hz : (gt zs k == 0) = false := by simp [he]
        have He := hide he
        clear he
        go_wp2
        go_roundw
        case rel => exact ⟨k + 1, by omega, by go_num, hbel, hrow.keep He.out, hq, rc', rf'⟩
        case measure => simp [intOf]; omega
    · have hk4 : k = 4 := by omega
      subst hk4
      go_wp2
      refine bodyPost_ret (v := .agg #[.slice (some ⟨g, 0, none⟩) 4 cap']) (by simp [results, Try.results101, go_sem, rc']) rfl ⟨g, cap', rfl, hg, (hrow.done hlen).setCell (by simpa using hr) _, hbel.setCell (Nat.le_refl _) _⟩


set_option maxRecDepth 100000 in
theorem l1BelowO_calls (p o q r : Nat) (a b : Option Addr) (ca cb : Nat) (xs ys : List Int) (w : World) (hp : p < w.heap.size) (hq : q < w.heap.size)
    (hpc : w.cell? ⟨p, o, none⟩ = some (.slice a 4 ca)) (hqc : w.cell? ⟨q, r, none⟩ = some (.slice b 4 cb)) (hx : Sl w a 4 xs) (hy : Sl w b 4 ys) :
    Calls Try.prog 102 #[.pointer (some ⟨p, o, none⟩), .pointer (some ⟨q, r, none⟩)] w fun e w' => e = .returned (.bool (belowB xs ys)) ∧ Below w.heap.size w w' := by
  obtain ⟨hxl, hx⟩ := hx
  obtain ⟨hyl, hy⟩ := hy
  obtain ⟨b1, o1, rfl, hb1, hc1⟩ := hx (by omega)
  obtain ⟨b2, o2, rfl, hb2, hc2⟩ := hy (by omega)
  go_enter Try.func102, Try.ntmps102
  go_wp2
  go_loopw [5] (fun i wr => ∃ k : Nat, k ≤ 4 ∧ i = .int .i64 k ∧ Below w.heap.size w wr ∧ ∀ j, j < k → gt xs j ≤ gt ys j) (fun i _ => 4 - (intOf i).toNat)
  case atStart => exact ⟨0, Nat.zero_le _, rfl, Below.refl _ _, fun j hj => by omega⟩
  case round =>
    obtain ⟨k, hk, rfl, hbel, hall⟩ := hrel
    have Hall : Hid (∀ j, j < k → gt xs j ≤ gt ys j) := hall
    clear hall
    have hpr := (hbel.cell (p := ⟨p, o, none⟩) hp).trans hpc
    have hqr := (hbel.cell (p := ⟨q, r, none⟩) hq).trans hqc
    by_cases hlt : k < 4
    · have hck1 := (hbel.cell (p := ⟨b1, o1 + k, none⟩) hb1).trans (hc1 k hlt)
      have hck2 := (hbel.cell (p := ⟨b2, o2 + k, none⟩) hb2).trans (hc2 k hlt)
      have hki : (k : Int) < 4 := by omega
      by_cases he : gt ys k < gt xs k
      · go_wp2_with fail
        go_quiet (fail)
        go_wp2
        go_ret
        exact ⟨ret_bool (belowB_no hlt he).symm, bdrewN hbel _⟩
      · have hle : gt xs k ≤ gt ys k := by omega
        go_wp2_with fail
        go_quiet (fail)
        go_wp2
        go_roundw
        case rel => exact ⟨k + 1, by omega, by go_num, bdrewN hbel _, fun j hj => by (by_cases e : j = k); (subst e; exact hle); exact Hall.out j (by omega)⟩
        case measure => simp [intOf]; omega
    · go_wp2
      go_ret
      exact ⟨ret_bool (belowB_yes (fun j hj => Hall.out j (by omega))).symm, hbel⟩


set_option maxRecDepth 100000 in
theorem l1ObserveO_calls (p o q r : Nat) (a b : Option Addr) (ca cb : Nat) (xs ys : List Int) (w : World) (hp : p < w.heap.size) (hq : q < w.heap.size)
    (hpc : w.cell? ⟨p, o, none⟩ = some (.slice a 4 ca)) (hqc : w.cell? ⟨q, r, none⟩ = some (.slice b 4 cb)) (hx : Sl w a 4 xs) (hy : Sl w b 4 ys) :
    Calls Try.prog 86 #[.pointer (some ⟨p, o, none⟩), .pointer (some ⟨q, r, none⟩)] w fun e w' => e = .returned (.bool (thing0 ys && belowB ys (highL xs))) ∧ Below w.heap.size w w' := by
  go_enter Try.func86, Try.ntmps86
  go_wp2_with fail
  refine (l1HighO_calls p o a ca xs _ hp hpc hx).mono ?_
  rintro e w1 ⟨g, c, rfl, hgN, blk, hb1⟩
  have hq1 := (hb1.cell (p := ⟨q, r, none⟩) hq).trans hqc
  have hqs : q < w1.heap.size := by have := hb1.size; omega
  have ha := (Below.refl w1.heap.size w1).alloc (Nat.le_refl _) (.cells #[.slice (some ⟨g, 0, none⟩) 4 c] 47)
  have h1a : Below w.heap.size w (w1.alloc (.cells #[.slice (some ⟨g, 0, none⟩) 4 c] 47)) := hb1.trans (ha.mono hb1.size)
  have hlen : (highL xs).length = 4 := by rw [length_highL]; exact hx.1
  have hsl := hlen ▸ blk.sl
  go_wp2_with fail
  refine (l1ThingO_calls q r b 4 cb ys _ (by unfold maxLen; omega) (by go_simp) (hy.below h1a (Nat.le_refl _))).mono ?_
  rintro e w2 ⟨rfl, hw2⟩
  have hb2 : Below (w1.alloc (.cells #[.slice (some ⟨g, 0, none⟩) 4 c] 47)).heap.size (w1.alloc (.cells #[.slice (some ⟨g, 0, none⟩) 4 c] 47)) w2 := by rw [hw2]; exact Below.refl _ _
  clear hw2
  have h2 : Below w.heap.size w w2 := h1a.trans (hb2.mono (by have := hb1.size; simp; omega))
  have hq2 := (h2.cell (p := ⟨q, r, none⟩) hq).trans hqc
  have hhc : w2.cell? ⟨w1.heap.size, 0, none⟩ = some (.slice (some ⟨g, 0, none⟩) 4 c) := (hb2.cell (p := ⟨w1.heap.size, 0, none⟩) (by simp)).trans (by go_simp)
  have hhs : w1.heap.size < w2.heap.size := by have := hb2.size; simp at this; omega
  have hsl2 := (hsl.below ha (Nat.le_refl _)).below hb2 (Nat.le_refl _)
  cases ht : thing0 ys with
  | true =>
    go_wp2_with fail
    refine (l1BelowO_calls q r w1.heap.size 0 b (some ⟨g, 0, none⟩) cb c ys (highL xs) _ (by omega) hhs hq2 hhc (hy.below h2 (Nat.le_refl _)) hsl2).mono ?_
    rintro e w3 ⟨rfl, hb3⟩
    go_wp2
    go_ret
    exact ⟨ret_bool (by rw [ht]; rfl), h2.trans (hb3.mono h2.size)⟩
  | false =>
    go_wp2
    go_ret
    exact ⟨ret_bool (by rw [ht]; rfl), h2⟩

end Go.Proofs.Ytpcdfeccmiiglaa
