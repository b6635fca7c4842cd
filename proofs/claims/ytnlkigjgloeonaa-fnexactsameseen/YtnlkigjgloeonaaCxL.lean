import Derived.Test.YtnlkigjgloeonaaCxP
import Derived.Test.YtnlkigjgloeonaaBase
import Derived.WalkKit
import Derived.ProofKit
import Derived.OpenShut
import Derived.ShutString
import Derived.ChangeOld
import Derived.Below
import Derived.WalkSpells
import Derived.Deep.QuietTactic
import Derived.BigQuiet
import Derived.Deep.RegionWith
import Derived.Deep.WholeRow
import Derived.Deep.DeepCutAuto
import Derived.Deep.RegionHeld2
import Derived.Deep.AppendLies
import Derived.Deep.RegionLaw
namespace Go.Proofs.Ytnlkigjgloeonaa
open Go.ChangeShapes Go.WideShapes Go.ChangeAt Go.RowKit

theorem q6_bel {W X : World} {A0 A1 A2 A3 A4 A5 : Addr} {v0 v1 v2 v3 v4 v5 : Value} (h : X.cell? A0 = some v0 ∧ X.cell? A1 = some v1 ∧ X.cell? A2 = some v2 ∧ X.cell? A3 = some v3 ∧ X.cell? A4 = some v4 ∧ X.cell? A5 = some v5 ∧ Below W.heap.size W X) : Below W.heap.size W X := h.2.2.2.2.2.2

theorem q6_below {W X Y : World} {A0 A1 A2 A3 A4 A5 : Addr} {v0 v1 v2 v3 v4 v5 : Value} (h0 : A0.block < W.heap.size) (h1 : A1.block < W.heap.size) (h2 : A2.block < W.heap.size) (h3 : A3.block < W.heap.size) (h4 : A4.block < W.heap.size) (h5 : A5.block < W.heap.size) (h : X.cell? A0 = some v0 ∧ X.cell? A1 = some v1 ∧ X.cell? A2 = some v2 ∧ X.cell? A3 = some v3 ∧ X.cell? A4 = some v4 ∧ X.cell? A5 = some v5 ∧ Below W.heap.size W X) (g : Below X.heap.size X Y) : Y.cell? A0 = some v0 ∧ Y.cell? A1 = some v1 ∧ Y.cell? A2 = some v2 ∧ Y.cell? A3 = some v3 ∧ Y.cell? A4 = some v4 ∧ Y.cell? A5 = some v5 ∧ Below W.heap.size W Y := by
  have hz := (h.2.2.2.2.2.2).size
  exact ⟨(g.cell (by omega)).trans h.1, (g.cell (by omega)).trans h.2.1, (g.cell (by omega)).trans h.2.2.1, (g.cell (by omega)).trans h.2.2.2.1, (g.cell (by omega)).trans h.2.2.2.2.1, (g.cell (by omega)).trans h.2.2.2.2.2.1, (h.2.2.2.2.2.2).trans (g.mono hz)⟩

theorem q6_alloc {W X : World} {A0 A1 A2 A3 A4 A5 : Addr} {v0 v1 v2 v3 v4 v5 : Value} (h0 : A0.block < W.heap.size) (h1 : A1.block < W.heap.size) (h2 : A2.block < W.heap.size) (h3 : A3.block < W.heap.size) (h4 : A4.block < W.heap.size) (h5 : A5.block < W.heap.size) (h : X.cell? A0 = some v0 ∧ X.cell? A1 = some v1 ∧ X.cell? A2 = some v2 ∧ X.cell? A3 = some v3 ∧ X.cell? A4 = some v4 ∧ X.cell? A5 = some v5 ∧ Below W.heap.size W X) (o : Obj) : (X.alloc o).cell? A0 = some v0 ∧ (X.alloc o).cell? A1 = some v1 ∧ (X.alloc o).cell? A2 = some v2 ∧ (X.alloc o).cell? A3 = some v3 ∧ (X.alloc o).cell? A4 = some v4 ∧ (X.alloc o).cell? A5 = some v5 ∧ Below W.heap.size W (X.alloc o) := q6_below h0 h1 h2 h3 h4 h5 h ((Below.refl _ _).alloc (Nat.le_refl _) o)

theorem q6_allocd {W X : World} {A0 A1 A2 A3 A4 A5 : Addr} {v0 v1 v2 v3 v4 v5 : Value} (h0 : A0.block < W.heap.size) (h1 : A1.block < W.heap.size) (h2 : A2.block < W.heap.size) (h3 : A3.block < W.heap.size) (h4 : A4.block < W.heap.size) (h5 : A5.block < W.heap.size) (h : X.drew.cell? A0 = some v0 ∧ X.drew.cell? A1 = some v1 ∧ X.drew.cell? A2 = some v2 ∧ X.drew.cell? A3 = some v3 ∧ X.drew.cell? A4 = some v4 ∧ X.drew.cell? A5 = some v5 ∧ Below W.heap.size W X.drew) (o : Obj) : (X.alloc o).drew.cell? A0 = some v0 ∧ (X.alloc o).drew.cell? A1 = some v1 ∧ (X.alloc o).drew.cell? A2 = some v2 ∧ (X.alloc o).drew.cell? A3 = some v3 ∧ (X.alloc o).drew.cell? A4 = some v4 ∧ (X.alloc o).drew.cell? A5 = some v5 ∧ Below W.heap.size W (X.alloc o).drew := q6_alloc h0 h1 h2 h3 h4 h5 h o

theorem q6_set {W X : World} {A0 A1 A2 A3 A4 A5 : Addr} {v0 v1 v2 v3 v4 v5 : Value} (h0 : A0.block < W.heap.size) (h1 : A1.block < W.heap.size) (h2 : A2.block < W.heap.size) (h3 : A3.block < W.heap.size) (h4 : A4.block < W.heap.size) (h5 : A5.block < W.heap.size) (h : X.cell? A0 = some v0 ∧ X.cell? A1 = some v1 ∧ X.cell? A2 = some v2 ∧ X.cell? A3 = some v3 ∧ X.cell? A4 = some v4 ∧ X.cell? A5 = some v5 ∧ Below W.heap.size W X) {p : Addr} (hp : W.heap.size ≤ p.block) (y : Value) : (X.setCell p y).cell? A0 = some v0 ∧ (X.setCell p y).cell? A1 = some v1 ∧ (X.setCell p y).cell? A2 = some v2 ∧ (X.setCell p y).cell? A3 = some v3 ∧ (X.setCell p y).cell? A4 = some v4 ∧ (X.setCell p y).cell? A5 = some v5 ∧ Below W.heap.size W (X.setCell p y) :=
  ⟨(World.cell?_setCell_other _ _ _ _ (fun e => by rw [e] at hp; omega)).trans h.1, (World.cell?_setCell_other _ _ _ _ (fun e => by rw [e] at hp; omega)).trans h.2.1, (World.cell?_setCell_other _ _ _ _ (fun e => by rw [e] at hp; omega)).trans h.2.2.1, (World.cell?_setCell_other _ _ _ _ (fun e => by rw [e] at hp; omega)).trans h.2.2.2.1, (World.cell?_setCell_other _ _ _ _ (fun e => by rw [e] at hp; omega)).trans h.2.2.2.2.1, (World.cell?_setCell_other _ _ _ _ (fun e => by rw [e] at hp; omega)).trans h.2.2.2.2.2.1, (h.2.2.2.2.2.2).setCell hp y⟩

set_option maxRecDepth 100000 in
theorem szContext_calls (a : Option Addr) (len cap : Nat) (p : Int) (h : Bool) (left : Int) (w : World) (h0 : 0 ≤ left) (h1 : left ≤ 1048576) (hl : len ≤ maxLen) :
    Calls Try.prog 28 #[.agg #[.slice a len cap, .int .i64 p, .bool h], .int .i64 left] w fun e w' => e = .returned (.int .i64 (szI len left)) ∧ Below w.heap.size w w' := by
  by_cases h : left - len < 0
  · go_enter Try.func28, Try.ntmps28
    go_wp2_with fail
    refine (sz_calls a len cap left _ h0 h1 hl).mono ?_
    rintro e w1 ⟨rfl, hb⟩
    rw [szI_neg h]
    go_wp2
    go_ret
    exact ⟨ret_int (szI_neg h).symm, ((Below.refl _ _).alloc (Nat.le_refl _) _).trans (hb.mono (by simp))⟩
  · have hp : 0 ≤ left - len := by omega
    go_enter Try.func28, Try.ntmps28
    go_wp2_with fail
    refine (sz_calls a len cap left _ h0 h1 hl).mono ?_
    rintro e w1 ⟨rfl, hb⟩
    rw [szI_pos hp]
    go_wp2
    go_ret
    exact ⟨ret_int (szI_pos hp).symm, ((Below.refl _ _).alloc (Nat.le_refl _) _).trans (hb.mono (by simp))⟩

set_option maxRecDepth 100000 in
theorem szContextS_calls (a : Option Addr) (n cap : Nat) (cs : List (List Int × Int × Bool)) (left : Int) (w : World) (h0 : 0 ≤ left) (h1 : left ≤ 1048576) (hl : n ≤ maxLen) (hs : Scx w a n cs) :
    Calls Try.prog 10 #[.slice a n cap, .int .i64 left] w fun e w' => e = .returned (.int .i64 (szI (n + lenX cs) left)) ∧ Below w.heap.size w w' := by
  unfold maxLen at hl
  obtain ⟨hlen, hs⟩ := hs
  by_cases h : left - n < 0
  · go_enter Try.func10, Try.ntmps10
    go_wp2
    go_ret
    exact ⟨ret_int (szI_neg (by omega)).symm, Below.refl _ _⟩
  · go_enter Try.func10, Try.ntmps10
    go_wp2
    go_loopw [5, 1] (fun i l wr => ∃ k : Nat, k ≤ n ∧ i = .int .i64 k ∧ l = .int .i64 (left - n - lenX (cs.take k)) ∧ 0 ≤ left - n - lenX (cs.take k) ∧ Below w.heap.size w wr) (fun i _ _ => n - (intOf i).toNat)
    case atStart => exact ⟨0, Nat.zero_le _, rfl, by simp [lenX], by simp [lenX]; omega, Below.refl _ _⟩
    case round =>
      obtain ⟨k, hk, rfl, rfl, hpos, hbel⟩ := hrel
      by_cases hlt : k < n
      · obtain ⟨b, off, rfl, hb, hc⟩ := hs (by omega)
        obtain ⟨la, ll, lc, hc0, hc1, hc2, hll, hsl⟩ := hc k hlt
        have hck0 := (hbel.cell (p := ⟨b, off + k * 3, none⟩) hb).trans hc0
        have hck1 := (hbel.cell (p := ⟨b, off + k * 3 + 1, none⟩) hb).trans hc1
        have hck2 := (hbel.cell (p := ⟨b, off + k * 3 + 2, none⟩) hb).trans hc2
        have hzl : (gx cs k).1.length = ll := hsl.1
        have hstep := lenX_take cs k (by omega)
        have htot := lenX_le cs (k + 1)
        have hb1 : left - n - lenX (cs.take k) ≤ 1048576 := by omega
        by_cases hneg : left - n - lenX (cs.take k) - ll < 0
        · have Hr := hide (szI_neg (len := n + lenX cs) (left := left) (by omega))
          clear hstep htot
          go_wp2_with fail
          refine (szContext_calls la ll lc (gx cs k).2.1 (gx cs k).2.2 _ _ hpos hb1 hll).mono ?_
          rintro e w1 ⟨rfl, g1⟩
          rw [szI_neg hneg]
          go_wp2
          go_ret
          exact ⟨ret_int Hr.out.symm, hbel.trans (g1.mono hbel.size)⟩
        · have hp2 : 0 ≤ left - n - lenX (cs.take k) - ll := by omega
          have Hr : Hid (left - n - lenX (cs.take k) - ll = left - n - lenX (cs.take (k + 1)) ∧ 0 ≤ left - n - lenX (cs.take (k + 1))) := ⟨by omega, by omega⟩
          clear hstep htot
          go_wp2_with fail
          refine (szContext_calls la ll lc (gx cs k).2.1 (gx cs k).2.2 _ _ hpos hb1 hll).mono ?_
          rintro e w1 ⟨rfl, g1⟩
          rw [szI_pos hp2]
          go_wp2
          go_roundw
          case rel => exact ⟨k + 1, by omega, by go_num, by rw [Hr.out.1], Hr.out.2, hbel.trans (g1.mono hbel.size)⟩
          case measure => simp [intOf]; omega
      · have hkn : k = n := by omega
        have ht : cs.take k = cs := by rw [hkn, ← hlen, List.take_length]
        have Hr : Hid (szI (n + lenX cs) left = left - n - lenX (cs.take k)) := by
          rw [ht] at hpos ⊢
          show szI _ _ = _
          rw [szI_pos (by omega)]; omega
        clear ht
        go_wp2
        go_ret
        exact ⟨ret_int Hr.out.symm, hbel⟩

theorem infoContext : (Try.prog.info? 52).map (fun i => (i.zero, i.size, i.bytes)) = some (some (.agg #[.slice none 0 0, .int .i64 0, .bool false]), 3, 40) := by kernel_rfl

set_option maxRecDepth 100000 in
theorem toContext_calls (a : Option Addr) (n cap : Nat) (p : Int) (h : Bool) (zs : List Int) (w : World) (hl : n ≤ 1048576) (hs : Sl w a n zs) :
    Calls Try.prog 34 #[.agg #[.slice a n cap, .int .i64 p, .bool h]] w fun e w' => ∃ b, e = .returned (.agg #[.slice (some ⟨b, 0, none⟩) n n, .int .i64 p, .bool h]) ∧ w.heap.size ≤ b ∧ Blk w' b zs ∧ Below w.heap.size w w' := by
  have M0 := (((Mm.start w).alloc3 (.slice a n cap) (.int .i64 p) (.bool h) 62).alloc3 (.slice none 0 0) (.int .i64 0) (.bool false) 52).alloc3 (.slice none 0 0) (.int .i64 0) (.bool false) 52
  try simp only [World.size_alloc] at M0
  have hb3 := M0.bel
  go_enter Try.func34, Try.ntmps34
  go_wp2_with fail
  refine (toInts_calls a n cap zs _ hl (hs.below hb3 (Nat.le_refl _))).mono ?_
  rintro e w1 ⟨b, rfl, hbN, hblk, hb⟩
  have M1 := M0.below hb
  have hz := hb.size
  simp only [World.size_alloc] at hbN hz
  have c0 := M1.cell 0 rfl
  have c1 := M1.cell 1 rfl
  have c2 := M1.cell 2 rfl
  have c3 := M1.cell 3 rfl
  have c4 := M1.cell 4 rfl
  have c5 := M1.cell 5 rfl
  have c6 := M1.cell 6 rfl
  have c7 := M1.cell 7 rfl
  have c8 := M1.cell 8 rfl
  have f0 := M1.fz 0 rfl
  have f1 := M1.fz 1 rfl
  have f2 := M1.fz 2 rfl
  have f3 := M1.fz 3 rfl
  have f4 := M1.fz 4 rfl
  have f5 := M1.fz 5 rfl
  have HB := hide M1.bel
  have HK := hide hblk
  clear M0 M1 hb hb3 hblk hs
  go_wp2
  refine bodyPost_ret (v := .agg #[.slice (some ⟨b, 0, none⟩) n n, .int .i64 p, .bool h]) (by simp [results, Try.results34, go_sem, c3, c4, c5]) rfl ⟨b, rfl, by omega, ?_, ?_⟩
  · exact (((((HK.out.setCell (by simp; omega) _).setCell (by simp; omega) _).setCell (by simp; omega) _).setCell (by simp; omega) _).setCell (by simp; omega) _).setCell (by simp; omega) _
  · exact (((((HB.out.setCell (by simp; omega) _).setCell (by simp; omega) _).setCell (by simp; omega) _).setCell (by simp) _).setCell (by simp) _).setCell (by simp) _

set_option maxRecDepth 100000 in
theorem toContextS_O (a : Option Addr) (n cap : Nat) (cs : List (List Int × Int × Bool)) (w : World) (hm : n + lenX cs ≤ 1048576) (hs : Scx w a n cs) :
    Calls Try.prog 15 #[.slice a n cap] w fun e w' => ∃ b, e = .returned (.slice (some ⟨b, 0, none⟩) n n) ∧ OX (InR w.heap.size w'.heap.size) (some ⟨b, 0, none⟩) n cs w' ∧ Below w.heap.size w w' := by
  obtain ⟨hlen, hs⟩ := hs
  obtain ⟨i0, hi, hz0, hz1, hz2⟩ := info_parts infoContext
  have hmk : ∀ u : World, (Instr.makeSlice 31 (.int .i64 (n : Int)) (.int .i64 (n : Int))).run Try.prog u =
      .ok (.slice (some ⟨u.heap.size, 0, none⟩) n n) (u.alloc (.cells (madeCells #[.slice none 0 0, .int .i64 0, .bool false] (n * 3)) 52)) := fun u => by
    have h := run_make (P := Try.prog) u 31 52 i0 (.agg #[.slice none 0 0, .int .i64 0, .bool false]) Try.underlying31 hi hz0 .i64 .i64 (n : Int) (n : Int) (by omega) (Int.le_refl _) (by rw [hz2]; omega) (by omega)
    simpa [hz1, Value.cells] using h
  go_enter Try.func15, Try.ntmps15
  go_wp2
  go_loopw [4] (fun i wr => ∃ k : Nat, k ≤ n ∧ i = .int .i64 k ∧ Below w.heap.size w wr ∧ ∃ lb, HalfX wr w.heap.size n k cs lb) (fun i _ => n - (intOf i).toNat)
  case atStart => exact ⟨0, Nat.zero_le _, rfl, (Below.refl _ _).alloc (Nat.le_refl _) _, fun _ => 0, HalfX.start _ _ _ _ _⟩
  case round =>
    obtain ⟨k, hk, rfl, hbel, lb, hh⟩ := hrel
    by_cases hlt : k < n
    · obtain ⟨b, off, rfl, hb, hc⟩ := hs (by omega)
      obtain ⟨la, ll, lc, hc0, hc1, hc2, hll, hsl⟩ := hc k hlt
      have hck0 := (hbel.cell (p := ⟨b, off + k * 3, none⟩) hb).trans hc0
      have hck1 := (hbel.cell (p := ⟨b, off + k * 3 + 1, none⟩) hb).trans hc1
      have hck2 := (hbel.cell (p := ⟨b, off + k * 3 + 2, none⟩) hb).trans hc2
      have hzl : (gx cs k).1.length = ll := hsl.1
      have hl2 := gx_le cs k (by omega)
      have hsl2 := hsl.below hbel (Nat.le_refl _)
      subst hzl
      go_wp2_with fail
      refine (toContext_calls la _ lc (gx cs k).2.1 (gx cs k).2.2 (gx cs k).1 _ (by omega) hsl2).mono ?_
      rintro e w1 ⟨nb, rfl, hlb, hblk, hb1⟩
      have hh1 := hh.below hb1
      obtain ⟨v0, hv0⟩ := hh1.all (k * 3) (by omega)
      obtain ⟨v1, hv1⟩ := hh1.all (k * 3 + 1) (by omega)
      obtain ⟨v2, hv2⟩ := hh1.all (k * 3 + 2) (by omega)
      have hf0 := hh1.fz (k * 3)
      have hf1 := hh1.fz (k * 3 + 1)
      have hf2 := hh1.fz (k * 3 + 2)
      have hbw := hbel.trans (hb1.mono hbel.size)
      have hN := hh.lt
      have HH := hide (hh.store hb1 hlt hlb hblk)
      unfold set3c at HH
      clear hh hh1 hb1 hblk hsl2 hsl hck0 hck1 hck2
      go_wp2
      go_roundw
      case rel => exact ⟨k + 1, by omega, by go_num, ((hbw.setCell (Nat.le_refl _) _).setCell (Nat.le_refl _) _).setCell (Nat.le_refl _) _, _, HH.out⟩
      case measure => simp [intOf]; omega
    · have hkn : k = n := by omega
      subst hkn
      go_wp2
      go_ret
      exact ⟨w.heap.size, rfl, hh.ox (Nat.le_refl _) hlen hm, hbel⟩

set_option maxRecDepth 100000 in
theorem eqContext_calls (a b : Option Addr) (n m ca cb : Nat) (p : Int) (h : Bool) (zs : List Int) (w : World) (hn : n ≤ maxLen) (hm : m ≤ maxLen) (hx : Sl w a n zs) (hy : Sl w b m zs) :
    Calls Try.prog 37 #[.agg #[.slice a n ca, .int .i64 p, .bool h], .agg #[.slice b m cb, .int .i64 p, .bool h]] w fun e w' => e = .returned (.bool true) ∧ Below w.heap.size w w' := by
  have M0 := ((Mm.start w).alloc3 (.slice a n ca) (.int .i64 p) (.bool h) 52).alloc3 (.slice b m cb) (.int .i64 p) (.bool h) 52
  try simp only [World.size_alloc] at M0
  have hb2 := M0.bel
  have h1 : (p != p) = false := by simp
  have h2 : (h != h) = false := by simp
  go_enter Try.func37, Try.ntmps37
  go_wp2_with fail
  refine (eqInts_calls a b n ca m cb zs zs _ hn hm (hx.below hb2 (Nat.le_refl _)) (hy.below hb2 (Nat.le_refl _))).mono ?_
  rintro e w1 ⟨rfl, hb⟩
  rw [decide_eq_true rfl]
  have M1 := M0.below hb
  have c1 := M1.cell 1 rfl
  have c2 := M1.cell 2 rfl
  have c4 := M1.cell 4 rfl
  have c5 := M1.cell 5 rfl
  have HB := hide M1.bel
  clear M0 M1 hb hb2
  go_wp2
  go_ret
  exact ⟨rfl, HB.out⟩

set_option maxRecDepth 100000 in
theorem eqContextS_calls (a b : Option Addr) (n ca cb : Nat) (cs : List (List Int × Int × Bool)) (w : World) (hn : n ≤ maxLen) (hx : Scx w a n cs) (hy : Scx w b n cs) :
    Calls Try.prog 25 #[.slice a n ca, .slice b n cb] w fun e w' => e = .returned (.bool true) ∧ Below w.heap.size w w' := by
  unfold maxLen at hn
  obtain ⟨hlen, hx⟩ := hx
  obtain ⟨_, hy⟩ := hy
  have hnn : ((n : Int) == (n : Int)) = true := by simp
  go_enter Try.func25, Try.ntmps25
  go_wp2
  go_loopw [5] (fun i wr => ∃ k : Nat, k ≤ n ∧ i = .int .i64 k ∧ Below w.heap.size w wr) (fun i _ => n - (intOf i).toNat)
  case atStart => exact ⟨0, Nat.zero_le _, rfl, Below.refl _ _⟩
  case round =>
    obtain ⟨k, hk, rfl, hbel⟩ := hrel
    by_cases hlt : k < n
    · obtain ⟨b1, o1, rfl, hb1, hc1⟩ := hx (by omega)
      obtain ⟨b2, o2, rfl, hb2, hc2⟩ := hy (by omega)
      obtain ⟨la, ll, lc, p0, p1, p2, pl, psl⟩ := hc1 k hlt
      obtain ⟨ma, ml, mc, q0, q1, q2, ql, qsl⟩ := hc2 k hlt
      have hp0 := (hbel.cell (p := ⟨b1, o1 + k * 3, none⟩) hb1).trans p0
      have hp1 := (hbel.cell (p := ⟨b1, o1 + k * 3 + 1, none⟩) hb1).trans p1
      have hp2 := (hbel.cell (p := ⟨b1, o1 + k * 3 + 2, none⟩) hb1).trans p2
      have hq0 := (hbel.cell (p := ⟨b2, o2 + k * 3, none⟩) hb2).trans q0
      have hq1 := (hbel.cell (p := ⟨b2, o2 + k * 3 + 1, none⟩) hb2).trans q1
      have hq2 := (hbel.cell (p := ⟨b2, o2 + k * 3 + 2, none⟩) hb2).trans q2
      have HP := hide (psl.below hbel (Nat.le_refl _))
      have HQ := hide (qsl.below hbel (Nat.le_refl _))
      clear p0 p1 p2 q0 q1 q2 psl qsl
      have i0 : (0 : Int) ≤ (k : Int) := by omega
      have i1 : (k : Int) < (n : Int) := by omega
      have k1 : b1 < wr.heap.size := by have := hbel.size; omega
      have k2 : b2 < wr.heap.size := by have := hbel.size; omega
      have HS0 : Hid (wr.drew.cell? ⟨b1, o1 + k * 3, none⟩ = some (.slice la ll lc) ∧ wr.drew.cell? ⟨b1, o1 + k * 3 + 1, none⟩ = some (.int .i64 (gx cs k).2.1) ∧ wr.drew.cell? ⟨b1, o1 + k * 3 + 2, none⟩ = some (.bool (gx cs k).2.2) ∧ wr.drew.cell? ⟨b2, o2 + k * 3, none⟩ = some (.slice ma ml mc) ∧ wr.drew.cell? ⟨b2, o2 + k * 3 + 1, none⟩ = some (.int .i64 (gx cs k).2.1) ∧ wr.drew.cell? ⟨b2, o2 + k * 3 + 2, none⟩ = some (.bool (gx cs k).2.2) ∧ Below wr.heap.size wr wr.drew) := ⟨hp0, hp1, hp2, hq0, hq1, hq2, (Below.refl _ _).drew⟩
      go_wp2_with fail
      clear hp0 hp1 hp2 hq0 hq1 hq2
      go_region_held2 (fun w' => w'.cell? ⟨b1, o1 + k * 3, none⟩ = some (.slice la ll lc) ∧ w'.cell? ⟨b1, o1 + k * 3 + 1, none⟩ = some (.int .i64 (gx cs k).2.1) ∧ w'.cell? ⟨b1, o1 + k * 3 + 2, none⟩ = some (.bool (gx cs k).2.2) ∧ w'.cell? ⟨b2, o2 + k * 3, none⟩ = some (.slice ma ml mc) ∧ w'.cell? ⟨b2, o2 + k * 3 + 1, none⟩ = some (.int .i64 (gx cs k).2.1) ∧ w'.cell? ⟨b2, o2 + k * 3 + 2, none⟩ = some (.bool (gx cs k).2.2) ∧ Below wr.heap.size wr w')
        (first | with_reducible exact HS0.out | with_reducible assumption)
        (first
          | (go_at_call 37; refine (eqContext_calls la ma ll ml lc mc (gx cs k).2.1 (gx cs k).2.2 (gx cs k).1 _ pl ql ?_ ?_).mono ?_; exact HP.out.below (q6_bel (by with_reducible assumption)) (Nat.le_refl _); exact HQ.out.below (q6_bel (by with_reducible assumption)) (Nat.le_refl _); rintro e v1 ⟨rfl, g1⟩; have hs1 := q6_below (W := wr) k1 k1 k1 k2 k2 k2 (by with_reducible assumption) g1; clear g1))
      have HE := hide (hbel.trans ((q6_bel hs1).mono hbel.size))
      clear hs1 HS0 HP HQ
      go_wp2
      go_roundw
      case rel => exact ⟨k + 1, by omega, by go_num, HE.out⟩
      case measure => simp [intOf]; omega
    · go_wp2
      go_ret
      exact ⟨rfl, hbel⟩

end Go.Proofs.Ytnlkigjgloeonaa
