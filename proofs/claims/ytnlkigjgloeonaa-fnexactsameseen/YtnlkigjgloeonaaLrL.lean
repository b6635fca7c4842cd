import Derived.Test.YtnlkigjgloeonaaLrP
import Derived.Test.YtnlkigjgloeonaaBase
import Derived.WalkKit
import Derived.ProofKit
import Derived.OpenShut
import Derived.ShutString
import Derived.ChangeOld
import Derived.Below
import Derived.WalkSpells
import Derived.Deep.QuietTactic
import Derived.BigQuiet
import Derived.Deep.RegionWith
import Derived.Deep.WholeRow
import Derived.Deep.DeepCutAuto
import Derived.Deep.RegionHeld2
import Derived.Deep.AppendLies
import Derived.Deep.RegionLaw
namespace Go.Proofs.Ytnlkigjgloeonaa
open Go.ChangeShapes Go.WideShapes Go.ChangeAt Go.RowKit

theorem q2_bel {W X : World} {A0 A1 : Addr} {v0 v1 : Value} (h : X.cell? A0 = some v0 ∧ X.cell? A1 = some v1 ∧ Below W.heap.size W X) : Below W.heap.size W X := h.2.2

theorem q2_below {W X Y : World} {A0 A1 : Addr} {v0 v1 : Value} (h0 : A0.block < W.heap.size) (h1 : A1.block < W.heap.size) (h : X.cell? A0 = some v0 ∧ X.cell? A1 = some v1 ∧ Below W.heap.size W X) (g : Below X.heap.size X Y) : Y.cell? A0 = some v0 ∧ Y.cell? A1 = some v1 ∧ Below W.heap.size W Y := by
  have hz := (h.2.2).size
  exact ⟨(g.cell (by omega)).trans h.1, (g.cell (by omega)).trans h.2.1, (h.2.2).trans (g.mono hz)⟩

theorem q2_alloc {W X : World} {A0 A1 : Addr} {v0 v1 : Value} (h0 : A0.block < W.heap.size) (h1 : A1.block < W.heap.size) (h : X.cell? A0 = some v0 ∧ X.cell? A1 = some v1 ∧ Below W.heap.size W X) (o : Obj) : (X.alloc o).cell? A0 = some v0 ∧ (X.alloc o).cell? A1 = some v1 ∧ Below W.heap.size W (X.alloc o) := q2_below h0 h1 h ((Below.refl _ _).alloc (Nat.le_refl _) o)

theorem q2_allocd {W X : World} {A0 A1 : Addr} {v0 v1 : Value} (h0 : A0.block < W.heap.size) (h1 : A1.block < W.heap.size) (h : X.drew.cell? A0 = some v0 ∧ X.drew.cell? A1 = some v1 ∧ Below W.heap.size W X.drew) (o : Obj) : (X.alloc o).drew.cell? A0 = some v0 ∧ (X.alloc o).drew.cell? A1 = some v1 ∧ Below W.heap.size W (X.alloc o).drew := q2_alloc h0 h1 h o

theorem q2_set {W X : World} {A0 A1 : Addr} {v0 v1 : Value} (h0 : A0.block < W.heap.size) (h1 : A1.block < W.heap.size) (h : X.cell? A0 = some v0 ∧ X.cell? A1 = some v1 ∧ Below W.heap.size W X) {p : Addr} (hp : W.heap.size ≤ p.block) (y : Value) : (X.setCell p y).cell? A0 = some v0 ∧ (X.setCell p y).cell? A1 = some v1 ∧ Below W.heap.size W (X.setCell p y) :=
  ⟨(World.cell?_setCell_other _ _ _ _ (fun e => by rw [e] at hp; omega)).trans h.1, (World.cell?_setCell_other _ _ _ _ (fun e => by rw [e] at hp; omega)).trans h.2.1, (h.2.2).setCell hp y⟩

set_option maxRecDepth 100000 in
theorem szLabelS_calls (a : Option Addr) (n cap : Nat) (xs : List (List Int)) (left : Int) (w : World) (h0 : 0 ≤ left) (h1 : left ≤ 1048576) (hl : n ≤ maxLen) (hs : Slb w a n xs) :
    Calls Try.prog 11 #[.slice a n cap, .int .i64 left] w fun e w' => e = .returned (.int .i64 (szI (n + lenL xs) left)) ∧ Below w.heap.size w w' := by
  unfold maxLen at hl
  obtain ⟨hlen, hs⟩ := hs
  by_cases h : left - n < 0
  · go_enter Try.func11, Try.ntmps11
    go_wp2
    go_ret
    exact ⟨ret_int (szI_neg (by omega)).symm, Below.refl _ _⟩
  · go_enter Try.func11, Try.ntmps11
    go_wp2
    go_loopw [5, 1] (fun i l wr => ∃ k : Nat, k ≤ n ∧ i = .int .i64 k ∧ l = .int .i64 (left - n - lenL (xs.take k)) ∧ 0 ≤ left - n - lenL (xs.take k) ∧ Below w.heap.size w wr) (fun i _ _ => n - (intOf i).toNat)
    case atStart => exact ⟨0, Nat.zero_le _, rfl, by simp [lenL], by simp [lenL]; omega, Below.refl _ _⟩
    case round =>
      obtain ⟨k, hk, rfl, rfl, hpos, hbel⟩ := hrel
      by_cases hlt : k < n
      · obtain ⟨b, off, rfl, hb, hc⟩ := hs (by omega)
        obtain ⟨la, lc, hc0, hll, hsl⟩ := hc k hlt
        have hck0 := (hbel.cell (p := ⟨b, off + k, none⟩) hb).trans hc0
        obtain ⟨ll, hzl⟩ : ∃ ll, (gL xs k).length = ll := ⟨_, rfl⟩
        have hstep := lenL_take xs k (by omega)
        have htot := lenL_le xs (k + 1)
        have hb1 : left - n - lenL (xs.take k) ≤ 1048576 := by omega
        rw [hzl] at hck0 hll hstep
        by_cases hneg : left - n - lenL (xs.take k) - ll < 0
        · have Hr := hide (szI_neg (len := n + lenL xs) (left := left) (by omega))
          clear hstep htot
          go_wp2_with fail
          refine (szLabel_calls la ll lc _ _ hpos hb1 hll).mono ?_
          rintro e w1 ⟨rfl, g1⟩
          rw [szI_neg hneg]
          go_wp2
          go_ret
          exact ⟨ret_int Hr.out.symm, hbel.trans (g1.mono hbel.size)⟩
        · have hp2 : 0 ≤ left - n - lenL (xs.take k) - ll := by omega
          have Hr : Hid (left - n - lenL (xs.take k) - ll = left - n - lenL (xs.take (k + 1)) ∧ 0 ≤ left - n - lenL (xs.take (k + 1))) := ⟨by omega, by omega⟩
          clear hstep htot
          go_wp2_with fail
          refine (szLabel_calls la ll lc _ _ hpos hb1 hll).mono ?_
          rintro e w1 ⟨rfl, g1⟩
          rw [szI_pos hp2]
          go_wp2
          go_roundw
          case rel => exact ⟨k + 1, by omega, by go_num, by rw [Hr.out.1], Hr.out.2, hbel.trans (g1.mono hbel.size)⟩
          case measure => simp [intOf]; omega
      · have hkn : k = n := by omega
        have ht : xs.take k = xs := by rw [hkn, ← hlen, List.take_length]
        have Hr : Hid (szI (n + lenL xs) left = left - n - lenL (xs.take k)) := by
          rw [ht] at hpos ⊢
          show szI _ _ = _
          rw [szI_pos (by omega)]; omega
        clear ht
        go_wp2
        go_ret
        exact ⟨ret_int Hr.out.symm, hbel⟩

theorem infoLabelS : (Try.prog.info? 56).map (fun i => (i.zero, i.size, i.bytes)) = some (some (.agg #[.slice none 0 0]), 1, 24) := by kernel_rfl

set_option maxRecDepth 100000 in
theorem toLabelS_O (a : Option Addr) (n cap : Nat) (xs : List (List Int)) (w : World) (hm : n + lenL xs ≤ 1048576) (hs : Slb w a n xs) :
    Calls Try.prog 16 #[.slice a n cap] w fun e w' => ∃ b, e = .returned (.slice (some ⟨b, 0, none⟩) n n) ∧ OLr (InR w.heap.size w'.heap.size) (some ⟨b, 0, none⟩) n xs w' ∧ Below w.heap.size w w' := by
  obtain ⟨hlen, hs⟩ := hs
  obtain ⟨i0, hi, hz0, hz1, hz2⟩ := info_parts infoLabelS
  have hmk : ∀ u : World, (Instr.makeSlice 32 (.int .i64 (n : Int)) (.int .i64 (n : Int))).run Try.prog u =
      .ok (.slice (some ⟨u.heap.size, 0, none⟩) n n) (u.alloc (.cells (madeCells #[.slice none 0 0] n) 56)) := fun u => by
    have h := run_make (P := Try.prog) u 32 56 i0 (.agg #[.slice none 0 0]) Try.underlying32 hi hz0 .i64 .i64 (n : Int) (n : Int) (by omega) (Int.le_refl _) (by rw [hz2]; omega) (by omega)
    simpa [hz1, Value.cells] using h
  go_enter Try.func16, Try.ntmps16
  go_wp2
  go_loopw [4] (fun i wr => ∃ k : Nat, k ≤ n ∧ i = .int .i64 k ∧ Below w.heap.size w wr ∧ ∃ lb, HalfL wr w.heap.size n k xs lb) (fun i _ => n - (intOf i).toNat)
  case atStart => exact ⟨0, Nat.zero_le _, rfl, (Below.refl _ _).alloc (Nat.le_refl _) _, fun _ => 0, HalfL.start _ _ _ _ _⟩
  case round =>
    obtain ⟨k, hk, rfl, hbel, lb, hh⟩ := hrel
    by_cases hlt : k < n
    · obtain ⟨b, off, rfl, hb, hc⟩ := hs (by omega)
      obtain ⟨la, lc, hc0, hll, hsl⟩ := hc k hlt
      have hck0 := (hbel.cell (p := ⟨b, off + k, none⟩) hb).trans hc0
      have hl2 := gL_le xs k (by omega)
      have hsl2 := hsl.below hbel (Nat.le_refl _)
      go_wp2_with fail
      refine (toLabel_calls la _ lc (gL xs k) _ (by omega) hsl2).mono ?_
      rintro e w1 ⟨nb, rfl, hlb, hblk, hb1⟩
      have hh1 := hh.below hb1
      obtain ⟨v0, hv0⟩ := hh1.all k (by omega)
      have hf0 := hh1.fz k
      have hbw := hbel.trans (hb1.mono hbel.size)
      have hN := hh.lt
      have HH := hide (hh.store hb1 hlt hlb hblk)
      clear hh hh1 hb1 hblk hsl2 hsl hck0
      go_wp2
      go_roundw
      case rel => exact ⟨k + 1, by omega, by go_num, hbw.setCell (Nat.le_refl _) _, _, HH.out⟩
      case measure => simp [intOf]; omega
    · have hkn : k = n := by omega
      subst hkn
      go_wp2
      go_ret
      exact ⟨w.heap.size, rfl, hh.ol (Nat.le_refl _) hlen hm, hbel⟩

set_option maxRecDepth 100000 in
theorem eqLabelS_calls (a b : Option Addr) (n ca cb : Nat) (xs : List (List Int)) (w : World) (hn : n ≤ maxLen) (hx : Slb w a n xs) (hy : Slb w b n xs) :
    Calls Try.prog 26 #[.slice a n ca, .slice b n cb] w fun e w' => e = .returned (.bool true) ∧ Below w.heap.size w w' := by
  unfold maxLen at hn
  obtain ⟨hlen, hx⟩ := hx
  obtain ⟨_, hy⟩ := hy
  have hnn : ((n : Int) == (n : Int)) = true := by simp
  go_enter Try.func26, Try.ntmps26
  go_wp2
  go_loopw [5] (fun i wr => ∃ k : Nat, k ≤ n ∧ i = .int .i64 k ∧ Below w.heap.size w wr) (fun i _ => n - (intOf i).toNat)
  case atStart => exact ⟨0, Nat.zero_le _, rfl, Below.refl _ _⟩
  case round =>
    obtain ⟨k, hk, rfl, hbel⟩ := hrel
    by_cases hlt : k < n
    · obtain ⟨b1, o1, rfl, hb1, hc1⟩ := hx (by omega)
      obtain ⟨b2, o2, rfl, hb2, hc2⟩ := hy (by omega)
      obtain ⟨la, lc, p0, pl, psl⟩ := hc1 k hlt
      obtain ⟨ma, mc, q0, ql, qsl⟩ := hc2 k hlt
      have hp0 := (hbel.cell (p := ⟨b1, o1 + k, none⟩) hb1).trans p0
      have hq0 := (hbel.cell (p := ⟨b2, o2 + k, none⟩) hb2).trans q0
      have HP := hide (psl.below hbel (Nat.le_refl _))
      have HQ := hide (qsl.below hbel (Nat.le_refl _))
      clear p0 q0 psl qsl
      have i0 : (0 : Int) ≤ (k : Int) := by omega
      have i1 : (k : Int) < (n : Int) := by omega
      have k1 : b1 < wr.heap.size := by have := hbel.size; omega
      have k2 : b2 < wr.heap.size := by have := hbel.size; omega
      have HS0 : Hid (wr.drew.cell? ⟨b1, o1 + k, none⟩ = some (.slice la (gL xs k).length lc) ∧ wr.drew.cell? ⟨b2, o2 + k, none⟩ = some (.slice ma (gL xs k).length mc) ∧ Below wr.heap.size wr wr.drew) := ⟨hp0, hq0, (Below.refl _ _).drew⟩
      go_wp2_with fail
      clear hp0 hq0
      go_region_held2 (fun w' => w'.cell? ⟨b1, o1 + k, none⟩ = some (.slice la (gL xs k).length lc) ∧ w'.cell? ⟨b2, o2 + k, none⟩ = some (.slice ma (gL xs k).length mc) ∧ Below wr.heap.size wr w')
        (first | with_reducible exact HS0.out | with_reducible assumption)
        (first
          | (go_at_call 38; refine (eqLabel_calls la ma _ lc _ mc (gL xs k) (gL xs k) _ pl ql ?_ ?_).mono ?_; exact HP.out.below (q2_bel (by with_reducible assumption)) (Nat.le_refl _); exact HQ.out.below (q2_bel (by with_reducible assumption)) (Nat.le_refl _); rintro e v1 ⟨rfl, g1⟩; rw [decide_eq_true rfl]; have hs1 := q2_below (W := wr) k1 k2 (by with_reducible assumption) g1; clear g1))
      have HE := hide (hbel.trans ((q2_bel hs1).mono hbel.size))
      clear hs1 HS0 HP HQ
      go_wp2
      go_roundw
      case rel => exact ⟨k + 1, by omega, by go_num, HE.out⟩
      case measure => simp [intOf]; omega
    · go_wp2
      go_ret
      exact ⟨rfl, hbel⟩

end Go.Proofs.Ytnlkigjgloeonaa
