import Derived.Test.YtnlkigjgloeonaaGreatCxP
import Derived.Test.YtnlkigjgloeonaaGreatBase
import Derived.Test.YtnlkigjgloeonaaGreatWtL
import Derived.Test.YtnlkigjgloeonaaGreatSysP
import Derived.Test.YtnlkigjgloeonaaGreatLnLT
import Derived.WalkKit
import Derived.ProofKit
import Derived.OpenShut
import Derived.ShutString
import Derived.ChangeOld
import Derived.Below
import Derived.WalkSpells
import Derived.Deep.QuietTactic
import Derived.BigQuiet
import Derived.Deep.RegionWith
import Derived.Deep.WholeRow
import Derived.Deep.DeepCutAuto
import Derived.Deep.RegionHeld2
import Derived.Deep.AppendLies
import Derived.Deep.RegionLaw
namespace Go.Proofs.YtnlkigjgloeonaaGreat
open Go.ChangeShapes Go.WideShapes Go.ChangeAt Go.RowKit

theorem q6_bel {W X : World} {A0 A1 A2 A3 A4 A5 : Addr} {v0 v1 v2 v3 v4 v5 : Value} (h : X.cell? A0 = some v0 ∧ X.cell? A1 = some v1 ∧ X.cell? A2 = some v2 ∧ X.cell? A3 = some v3 ∧ X.cell? A4 = some v4 ∧ X.cell? A5 = some v5 ∧ Below W.heap.size W X) : Below W.heap.size W X := h.2.2.2.2.2.2

theorem q6_below {W X Y : World} {A0 A1 A2 A3 A4 A5 : Addr} {v0 v1 v2 v3 v4 v5 : Value} (h0 : A0.block < W.heap.size) (h1 : A1.block < W.heap.size) (h2 : A2.block < W.heap.size) (h3 : A3.block < W.heap.size) (h4 : A4.block < W.heap.size) (h5 : A5.block < W.heap.size) (h : X.cell? A0 = some v0 ∧ X.cell? A1 = some v1 ∧ X.cell? A2 = some v2 ∧ X.cell? A3 = some v3 ∧ X.cell? A4 = some v4 ∧ X.cell? A5 = some v5 ∧ Below W.heap.size W X) (g : Below X.heap.size X Y) : Y.cell? A0 = some v0 ∧ Y.cell? A1 = some v1 ∧ Y.cell? A2 = some v2 ∧ Y.cell? A3 = some v3 ∧ Y.cell? A4 = some v4 ∧ Y.cell? A5 = some v5 ∧ Below W.heap.size W Y := by
  have hz := (h.2.2.2.2.2.2).size
  exact ⟨(g.cell (by omega)).trans h.1, (g.cell (by omega)).trans h.2.1, (g.cell (by omega)).trans h.2.2.1, (g.cell (by omega)).trans h.2.2.2.1, (g.cell (by omega)).trans h.2.2.2.2.1, (g.cell (by omega)).trans h.2.2.2.2.2.1, (h.2.2.2.2.2.2).trans (g.mono hz)⟩

theorem q6_alloc {W X : World} {A0 A1 A2 A3 A4 A5 : Addr} {v0 v1 v2 v3 v4 v5 : Value} (h0 : A0.block < W.heap.size) (h1 : A1.block < W.heap.size) (h2 : A2.block < W.heap.size) (h3 : A3.block < W.heap.size) (h4 : A4.block < W.heap.size) (h5 : A5.block < W.heap.size) (h : X.cell? A0 = some v0 ∧ X.cell? A1 = some v1 ∧ X.cell? A2 = some v2 ∧ X.cell? A3 = some v3 ∧ X.cell? A4 = some v4 ∧ X.cell? A5 = some v5 ∧ Below W.heap.size W X) (o : Obj) : (X.alloc o).cell? A0 = some v0 ∧ (X.alloc o).cell? A1 = some v1 ∧ (X.alloc o).cell? A2 = some v2 ∧ (X.alloc o).cell? A3 = some v3 ∧ (X.alloc o).cell? A4 = some v4 ∧ (X.alloc o).cell? A5 = some v5 ∧ Below W.heap.size W (X.alloc o) := q6_below h0 h1 h2 h3 h4 h5 h ((Below.refl _ _).alloc (Nat.le_refl _) o)

theorem q6_allocd {W X : World} {A0 A1 A2 A3 A4 A5 : Addr} {v0 v1 v2 v3 v4 v5 : Value} (h0 : A0.block < W.heap.size) (h1 : A1.block < W.heap.size) (h2 : A2.block < W.heap.size) (h3 : A3.block < W.heap.size) (h4 : A4.block < W.heap.size) (h5 : A5.block < W.heap.size) (h : X.drew.cell? A0 = some v0 ∧ X.drew.cell? A1 = some v1 ∧ X.drew.cell? A2 = some v2 ∧ X.drew.cell? A3 = some v3 ∧ X.drew.cell? A4 = some v4 ∧ X.drew.cell? A5 = some v5 ∧ Below W.heap.size W X.drew) (o : Obj) : (X.alloc o).drew.cell? A0 = some v0 ∧ (X.alloc o).drew.cell? A1 = some v1 ∧ (X.alloc o).drew.cell? A2 = some v2 ∧ (X.alloc o).drew.cell? A3 = some v3 ∧ (X.alloc o).drew.cell? A4 = some v4 ∧ (X.alloc o).drew.cell? A5 = some v5 ∧ Below W.heap.size W (X.alloc o).drew := q6_alloc h0 h1 h2 h3 h4 h5 h o

theorem q6_set {W X : World} {A0 A1 A2 A3 A4 A5 : Addr} {v0 v1 v2 v3 v4 v5 : Value} (h0 : A0.block < W.heap.size) (h1 : A1.block < W.heap.size) (h2 : A2.block < W.heap.size) (h3 : A3.block < W.heap.size) (h4 : A4.block < W.heap.size) (h5 : A5.block < W.heap.size) (h : X.cell? A0 = some v0 ∧ X.cell? A1 = some v1 ∧ X.cell? A2 = some v2 ∧ X.cell? A3 = some v3 ∧ X.cell? A4 = some v4 ∧ X.cell? A5 = some v5 ∧ Below W.heap.size W X) {p : Addr} (hp : W.heap.size ≤ p.block) (y : Value) : (X.setCell p y).cell? A0 = some v0 ∧ (X.setCell p y).cell? A1 = some v1 ∧ (X.setCell p y).cell? A2 = some v2 ∧ (X.setCell p y).cell? A3 = some v3 ∧ (X.setCell p y).cell? A4 = some v4 ∧ (X.setCell p y).cell? A5 = some v5 ∧ Below W.heap.size W (X.setCell p y) :=
  ⟨(World.cell?_setCell_other _ _ _ _ (fun e => by rw [e] at hp; omega)).trans h.1, (World.cell?_setCell_other _ _ _ _ (fun e => by rw [e] at hp; omega)).trans h.2.1, (World.cell?_setCell_other _ _ _ _ (fun e => by rw [e] at hp; omega)).trans h.2.2.1, (World.cell?_setCell_other _ _ _ _ (fun e => by rw [e] at hp; omega)).trans h.2.2.2.1, (World.cell?_setCell_other _ _ _ _ (fun e => by rw [e] at hp; omega)).trans h.2.2.2.2.1, (World.cell?_setCell_other _ _ _ _ (fun e => by rw [e] at hp; omega)).trans h.2.2.2.2.2.1, (h.2.2.2.2.2.2).setCell hp y⟩

set_option maxRecDepth 100000 in
theorem szContext_calls (a : Option Addr) (len cap : Nat) (p : Int) (h : Bool) (left : Int) (w : World) (h0 : 0 ≤ left) (h1 : left ≤ 1048576) (hl : len ≤ maxLen) :
    Calls Tryz.prog 61 #[.agg #[.slice a len cap, .int .i64 p, .bool h], .int .i64 left] w fun e w' => e = .returned (.int .i64 (szI len left)) ∧ Below w.heap.size w w' := by
  by_cases h : left - len < 0
  · go_enter Tryz.func61, Tryz.ntmps61
    go_wp2_with fail
    refine (sz_calls a len cap left _ h0 h1 hl).mono ?_
    rintro e w1 ⟨rfl, hb⟩
    rw [szI_neg h]
    go_wp2
    go_ret
    exact ⟨ret_int (szI_neg h).symm, ((Below.refl _ _).alloc (Nat.le_refl _) _).trans (hb.mono (by simp))⟩
  · have hp : 0 ≤ left - len := by omega
    go_enter Tryz.func61, Tryz.ntmps61
    go_wp2_with fail
    refine (sz_calls a len cap left _ h0 h1 hl).mono ?_
    rintro e w1 ⟨rfl, hb⟩
    rw [szI_pos hp]
    go_wp2
    go_ret
    exact ⟨ret_int (szI_pos hp).symm, ((Below.refl _ _).alloc (Nat.le_refl _) _).trans (hb.mono (by simp))⟩

set_option maxRecDepth 100000 in
theorem szContextS_calls (a : Option Addr) (n cap : Nat) (cs : List (List Int × Int × Bool)) (left : Int) (w : World) (h0 : 0 ≤ left) (h1 : left ≤ 1048576) (hl : n ≤ maxLen) (hs : Scx w a n cs) :
    Calls Tryz.prog 22 #[.slice a n cap, .int .i64 left] w fun e w' => e = .returned (.int .i64 (szI (n + lenX cs) left)) ∧ Below w.heap.size w w' := by
  unfold maxLen at hl
  obtain ⟨hlen, hs⟩ := hs
  by_cases h : left - n < 0
  · go_enter Tryz.func22, Tryz.ntmps22
    go_wp2
    go_ret
    exact ⟨ret_int (szI_neg (by omega)).symm, Below.refl _ _⟩
  · go_enter Tryz.func22, Tryz.ntmps22
    go_wp2
    go_loopw [5, 1] (fun i l wr => ∃ k : Nat, k ≤ n ∧ i = .int .i64 k ∧ l = .int .i64 (left - n - lenX (cs.take k)) ∧ 0 ≤ left - n - lenX (cs.take k) ∧ Below w.heap.size w wr) (fun i _ _ => n - (intOf i).toNat)
    case atStart => exact ⟨0, Nat.zero_le _, rfl, by simp [lenX], by simp [lenX]; omega, Below.refl _ _⟩
    case round =>
      obtain ⟨k, hk, rfl, rfl, hpos, hbel⟩ := hrel
      by_cases hlt : k < n
      · obtain ⟨b, off, rfl, hb, hc⟩ := hs (by omega)
        obtain ⟨la, ll, lc, hc0, hc1, hc2, hll, hsl⟩ := hc k hlt
        have hck0 := (hbel.cell (p := ⟨b, off + k * 3, none⟩) hb).trans hc0
        have hck1 := (hbel.cell (p := ⟨b, off + k * 3 + 1, none⟩) hb).trans hc1
        have hck2 := (hbel.cell (p := ⟨b, off + k * 3 + 2, none⟩) hb).trans hc2
        have hzl : (gx cs k).1.length = ll := hsl.1
        have hstep := lenX_take cs k (by omega)
        have htot := lenX_le cs (k + 1)
        have hb1 : left - n - lenX (cs.take k) ≤ 1048576 := by omega
        by_cases hneg : left - n - lenX (cs.take k) - ll < 0
        · have Hr := hide (szI_neg (len := n + lenX cs) (left := left) (by omega))
          clear hstep htot
          go_wp2_with fail
          refine (szContext_calls la ll lc (gx cs k).2.1 (gx cs k).2.2 _ _ hpos hb1 hll).mono ?_
          rintro e w1 ⟨rfl, g1⟩
          rw [szI_neg hneg]
          go_wp2
          go_ret
          exact ⟨ret_int Hr.out.symm, hbel.trans (g1.mono hbel.size)⟩
        · have hp2 : 0 ≤ left - n - lenX (cs.take k) - ll := by omega
          have Hr : Hid (left - n - lenX (cs.take k) - ll = left - n - lenX (cs.take (k + 1)) ∧ 0 ≤ left - n - lenX (cs.take (k + 1))) := ⟨by omega, by omega⟩
          clear hstep htot
          go_wp2_with fail
          refine (szContext_calls la ll lc (gx cs k).2.1 (gx cs k).2.2 _ _ hpos hb1 hll).mono ?_
          rintro e w1 ⟨rfl, g1⟩
          rw [szI_pos hp2]
          go_wp2
          go_roundw
          case rel => exact ⟨k + 1, by omega, by go_num, by rw [Hr.out.1], Hr.out.2, hbel.trans (g1.mono hbel.size)⟩
          case measure => simp [intOf]; omega
      · have hkn : k = n := by omega
        have ht : cs.take k = cs := by rw [hkn, ← hlen, List.take_length]
        have Hr : Hid (szI (n + lenX cs) left = left - n - lenX (cs.take k)) := by
          rw [ht] at hpos ⊢
          show szI _ _ = _
          rw [szI_pos (by omega)]; omega
        clear ht
        go_wp2
        go_ret
        exact ⟨ret_int Hr.out.symm, hbel⟩

theorem infoContext : (Tryz.prog.info? 132).map (fun i => (i.zero, i.size, i.bytes)) = some (some (.agg #[.slice none 0 0, .int .i64 0, .bool false]), 3, 40) := by kernel_rfl

set_option maxRecDepth 100000 in
theorem toContext_calls (a : Option Addr) (n cap : Nat) (p : Int) (h : Bool) (zs : List Int) (w : World) (hl : n ≤ 1048576) (hs : Sl w a n zs) :
    Calls Tryz.prog 79 #[.agg #[.slice a n cap, .int .i64 p, .bool h]] w fun e w' => ∃ b, e = .returned (.agg #[.slice (some ⟨b, 0, none⟩) n n, .int .i64 p, .bool h]) ∧ w.heap.size ≤ b ∧ Blk w' b zs ∧ Below w.heap.size w w' := by
  have M0 := (((Mm.start w).alloc3 (.slice a n cap) (.int .i64 p) (.bool h) 118).alloc3 (.slice none 0 0) (.int .i64 0) (.bool false) 132).alloc3 (.slice none 0 0) (.int .i64 0) (.bool false) 132
  try simp only [World.size_alloc] at M0
  have hb3 := M0.bel
  go_enter Tryz.func79, Tryz.ntmps79
  go_wp2_with fail
  refine (toInts_calls a n cap zs _ hl (hs.below hb3 (Nat.le_refl _))).mono ?_
  rintro e w1 ⟨b, rfl, hbN, hblk, hb⟩
  have M1 := M0.below hb
  have hz := hb.size
  simp only [World.size_alloc] at hbN hz
  have c0 := M1.cell 0 rfl
  have c1 := M1.cell 1 rfl
  have c2 := M1.cell 2 rfl
  have c3 := M1.cell 3 rfl
  have c4 := M1.cell 4 rfl
  have c5 := M1.cell 5 rfl
  have c6 := M1.cell 6 rfl
  have c7 := M1.cell 7 rfl
  have c8 := M1.cell 8 rfl
  have f0 := M1.fz 0 rfl
  have f1 := M1.fz 1 rfl
  have f2 := M1.fz 2 rfl
  have f3 := M1.fz 3 rfl
  have f4 := M1.fz 4 rfl
  have f5 := M1.fz 5 rfl
  have HB := hide M1.bel
  have HK := hide hblk
  clear M0 M1 hb hb3 hblk hs
  go_wp2
  refine bodyPost_ret (v := .agg #[.slice (some ⟨b, 0, none⟩) n n, .int .i64 p, .bool h]) (by simp [results, Tryz.results79, go_sem, c3, c4, c5]) rfl ⟨b, rfl, by omega, ?_, ?_⟩
  · exact (((((HK.out.setCell (by simp; omega) _).setCell (by simp; omega) _).setCell (by simp; omega) _).setCell (by simp; omega) _).setCell (by simp; omega) _).setCell (by simp; omega) _
  · exact (((((HB.out.setCell (by simp; omega) _).setCell (by simp; omega) _).setCell (by simp; omega) _).setCell (by simp) _).setCell (by simp) _).setCell (by simp) _

set_option maxRecDepth 100000 in
theorem toContextS_O (a : Option Addr) (n cap : Nat) (cs : List (List Int × Int × Bool)) (w : World) (hm : n + lenX cs ≤ 1048576) (hs : Scx w a n cs) :
    Calls Tryz.prog 31 #[.slice a n cap] w fun e w' => ∃ b, e = .returned (.slice (some ⟨b, 0, none⟩) n n) ∧ OX (InR w.heap.size w'.heap.size) (some ⟨b, 0, none⟩) n cs w' ∧ Below w.heap.size w w' := by
  obtain ⟨hlen, hs⟩ := hs
  obtain ⟨i0, hi, hz0, hz1, hz2⟩ := info_parts infoContext
  have hmk : ∀ u : World, (Instr.makeSlice 43 (.int .i64 (n : Int)) (.int .i64 (n : Int))).run Tryz.prog u =
      .ok (.slice (some ⟨u.heap.size, 0, none⟩) n n) (u.alloc (.cells (madeCells #[.slice none 0 0, .int .i64 0, .bool false] (n * 3)) 132)) := fun u => by
    have h := run_make (P := Tryz.prog) u 43 132 i0 (.agg #[.slice none 0 0, .int .i64 0, .bool false]) Tryz.underlying43 hi hz0 .i64 .i64 (n : Int) (n : Int) (by omega) (Int.le_refl _) (by rw [hz2]; omega) (by omega)
    simpa [hz1, Value.cells] using h
  go_enter Tryz.func31, Tryz.ntmps31
  go_wp2
  go_loopw [4] (fun i wr => ∃ k : Nat, k ≤ n ∧ i = .int .i64 k ∧ Below w.heap.size w wr ∧ ∃ lb, HalfX wr w.heap.size n k cs lb) (fun i _ => n - (intOf i).toNat)
  case atStart => exact ⟨0, Nat.zero_le _, rfl, (Below.refl _ _).alloc (Nat.le_refl _) _, fun _ => 0, HalfX.start _ _ _ _ _⟩
  case round =>
    obtain ⟨k, hk, rfl, hbel, lb, hh⟩ := hrel
    by_cases hlt : k < n
    · obtain ⟨b, off, rfl, hb, hc⟩ := hs (by omega)
      obtain ⟨la, ll, lc, hc0, hc1, hc2, hll, hsl⟩ := hc k hlt
      have hck0 := (hbel.cell (p := ⟨b, off + k * 3, none⟩) hb).trans hc0
      have hck1 := (hbel.cell (p := ⟨b, off + k * 3 + 1, none⟩) hb).trans hc1
      have hck2 := (hbel.cell (p := ⟨b, off + k * 3 + 2, none⟩) hb).trans hc2
      have hzl : (gx cs k).1.length = ll := hsl.1
      have hl2 := gx_le cs k (by omega)
      have hsl2 := hsl.below hbel (Nat.le_refl _)
      subst hzl
      go_wp2_with fail
      refine (toContext_calls la _ lc (gx cs k).2.1 (gx cs k).2.2 (gx cs k).1 _ (by omega) hsl2).mono ?_
      rintro e w1 ⟨nb, rfl, hlb, hblk, hb1⟩
      have hh1 := hh.below hb1
      obtain ⟨v0, hv0⟩ := hh1.all (k * 3) (by omega)
      obtain ⟨v1, hv1⟩ := hh1.all (k * 3 + 1) (by omega)
      obtain ⟨v2, hv2⟩ := hh1.all (k * 3 + 2) (by omega)
      have hf0 := hh1.fz (k * 3)
      have hf1 := hh1.fz (k * 3 + 1)
      have hf2 := hh1.fz (k * 3 + 2)
      have hbw := hbel.trans (hb1.mono hbel.size)
      have hN := hh.lt
      have HH := hide (hh.store hb1 hlt hlb hblk)
      unfold set3c at HH
      clear hh hh1 hb1 hblk hsl2 hsl hck0 hck1 hck2
      go_wp2
      go_roundw
      case rel => exact ⟨k + 1, by omega, by go_num, ((hbw.setCell (Nat.le_refl _) _).setCell (Nat.le_refl _) _).setCell (Nat.le_refl _) _, _, HH.out⟩
      case measure => simp [intOf]; omega
    · have hkn : k = n := by omega
      subst hkn
      go_wp2
      go_ret
      exact ⟨w.heap.size, rfl, hh.ox (Nat.le_refl _) hlen hm, hbel⟩

set_option maxRecDepth 100000 in
theorem eqContext_calls (a b : Option Addr) (n m ca cb : Nat) (p : Int) (h : Bool) (zs : List Int) (w : World) (hn : n ≤ maxLen) (hm : m ≤ maxLen) (hx : Sl w a n zs) (hy : Sl w b m zs) :
    Calls Tryz.prog 101 #[.agg #[.slice a n ca, .int .i64 p, .bool h], .agg #[.slice b m cb, .int .i64 p, .bool h]] w fun e w' => e = .returned (.bool true) ∧ Below w.heap.size w w' := by
  have M0 := ((Mm.start w).alloc3 (.slice a n ca) (.int .i64 p) (.bool h) 132).alloc3 (.slice b m cb) (.int .i64 p) (.bool h) 132
  try simp only [World.size_alloc] at M0
  have hb2 := M0.bel
  have h1 : (p != p) = false := by simp
  have h2 : (h != h) = false := by simp
  go_enter Tryz.func101, Tryz.ntmps101
  go_wp2_with fail
  refine (eqInts_calls a b n ca m cb zs zs _ hn hm (hx.below hb2 (Nat.le_refl _)) (hy.below hb2 (Nat.le_refl _))).mono ?_
  rintro e w1 ⟨rfl, hb⟩
  rw [decide_eq_true rfl]
  have M1 := M0.below hb
  have c1 := M1.cell 1 rfl
  have c2 := M1.cell 2 rfl
  have c4 := M1.cell 4 rfl
  have c5 := M1.cell 5 rfl
  have HB := hide M1.bel
  clear M0 M1 hb hb2
  go_wp2
  go_ret
  exact ⟨rfl, HB.out⟩

set_option maxRecDepth 100000 in
theorem eqContextS_calls (a b : Option Addr) (n ca cb : Nat) (cs : List (List Int × Int × Bool)) (w : World) (hn : n ≤ maxLen) (hx : Scx w a n cs) (hy : Scx w b n cs) :
    Calls Tryz.prog 41 #[.slice a n ca, .slice b n cb] w fun e w' => e = .returned (.bool true) ∧ Below w.heap.size w w' := by
  unfold maxLen at hn
  obtain ⟨hlen, hx⟩ := hx
  obtain ⟨_, hy⟩ := hy
  have hnn : ((n : Int) == (n : Int)) = true := by simp
  go_enter Tryz.func41, Tryz.ntmps41
  go_wp2
  go_loopw [5] (fun i wr => ∃ k : Nat, k ≤ n ∧ i = .int .i64 k ∧ Below w.heap.size w wr) (fun i _ => n - (intOf i).toNat)
  case atStart => exact ⟨0, Nat.zero_le _, rfl, Below.refl _ _⟩
  case round =>
    obtain ⟨k, hk, rfl, hbel⟩ := hrel
    by_cases hlt : k < n
    · obtain ⟨b1, o1, rfl, hb1, hc1⟩ := hx (by omega)
      obtain ⟨b2, o2, rfl, hb2, hc2⟩ := hy (by omega)
      obtain ⟨la, ll, lc, p0, p1, p2, pl, psl⟩ := hc1 k hlt
      obtain ⟨ma, ml, mc, q0, q1, q2, ql, qsl⟩ := hc2 k hlt
      have hp0 := (hbel.cell (p := ⟨b1, o1 + k * 3, none⟩) hb1).trans p0
      have hp1 := (hbel.cell (p := ⟨b1, o1 + k * 3 + 1, none⟩) hb1).trans p1
      have hp2 := (hbel.cell (p := ⟨b1, o1 + k * 3 + 2, none⟩) hb1).trans p2
      have hq0 := (hbel.cell (p := ⟨b2, o2 + k * 3, none⟩) hb2).trans q0
      have hq1 := (hbel.cell (p := ⟨b2, o2 + k * 3 + 1, none⟩) hb2).trans q1
      have hq2 := (hbel.cell (p := ⟨b2, o2 + k * 3 + 2, none⟩) hb2).trans q2
      have HP := hide (psl.below hbel (Nat.le_refl _))
      have HQ := hide (qsl.below hbel (Nat.le_refl _))
      clear p0 p1 p2 q0 q1 q2 psl qsl
      have i0 : (0 : Int) ≤ (k : Int) := by omega
      have i1 : (k : Int) < (n : Int) := by omega
      have k1 : b1 < wr.heap.size := by have := hbel.size; omega
      have k2 : b2 < wr.heap.size := by have := hbel.size; omega
      have HS0 : Hid (wr.drew.cell? ⟨b1, o1 + k * 3, none⟩ = some (.slice la ll lc) ∧ wr.drew.cell? ⟨b1, o1 + k * 3 + 1, none⟩ = some (.int .i64 (gx cs k).2.1) ∧ wr.drew.cell? ⟨b1, o1 + k * 3 + 2, none⟩ = some (.bool (gx cs k).2.2) ∧ wr.drew.cell? ⟨b2, o2 + k * 3, none⟩ = some (.slice ma ml mc) ∧ wr.drew.cell? ⟨b2, o2 + k * 3 + 1, none⟩ = some (.int .i64 (gx cs k).2.1) ∧ wr.drew.cell? ⟨b2, o2 + k * 3 + 2, none⟩ = some (.bool (gx cs k).2.2) ∧ Below wr.heap.size wr wr.drew) := ⟨hp0, hp1, hp2, hq0, hq1, hq2, (Below.refl _ _).drew⟩
      go_wp2_with fail
      clear hp0 hp1 hp2 hq0 hq1 hq2
      go_region_held2 (fun w' => w'.cell? ⟨b1, o1 + k * 3, none⟩ = some (.slice la ll lc) ∧ w'.cell? ⟨b1, o1 + k * 3 + 1, none⟩ = some (.int .i64 (gx cs k).2.1) ∧ w'.cell? ⟨b1, o1 + k * 3 + 2, none⟩ = some (.bool (gx cs k).2.2) ∧ w'.cell? ⟨b2, o2 + k * 3, none⟩ = some (.slice ma ml mc) ∧ w'.cell? ⟨b2, o2 + k * 3 + 1, none⟩ = some (.int .i64 (gx cs k).2.1) ∧ w'.cell? ⟨b2, o2 + k * 3 + 2, none⟩ = some (.bool (gx cs k).2.2) ∧ Below wr.heap.size wr w')
        (first | with_reducible exact HS0.out | with_reducible assumption)
        (first
          | (go_at_call 101; refine (eqContext_calls la ma ll ml lc mc (gx cs k).2.1 (gx cs k).2.2 (gx cs k).1 _ pl ql ?_ ?_).mono ?_; exact HP.out.below (q6_bel (by with_reducible assumption)) (Nat.le_refl _); exact HQ.out.below (q6_bel (by with_reducible assumption)) (Nat.le_refl _); rintro e v1 ⟨rfl, g1⟩; have hs1 := q6_below (W := wr) k1 k1 k1 k2 k2 k2 (by with_reducible assumption) g1; clear g1))
      have HE := hide (hbel.trans ((q6_bel hs1).mono hbel.size))
      clear hs1 HS0 HP HQ
      go_wp2
      go_roundw
      case rel => exact ⟨k + 1, by omega, by go_num, HE.out⟩
      case measure => simp [intOf]; omega
    · go_wp2
      go_ret
      exact ⟨rfl, hbel⟩

theorem infoGate : (Tryz.prog.info? 140).map (fun i => (i.zero, i.size, i.bytes)) = some (some (.agg #[.int .i64 0, .int .i64 0]), 2, 16) := by kernel_rfl

set_option maxRecDepth 100000 in
theorem szGateS_calls (a : Option Addr) (len cap : Nat) (left : Int) (w : World) (h0 : 0 ≤ left) (h1 : left ≤ 1048576) (hl : len ≤ maxLen) :
    Calls Tryz.prog 25 #[.slice a len cap, .int .i64 left] w fun e w' => e = .returned (.int .i64 (szI len left)) ∧ Below w.heap.size w w' := by
  unfold maxLen at hl
  by_cases h : left - len < 0
  · go_enter Tryz.func25, Tryz.ntmps25
    go_wp2
    go_ret
    exact ⟨ret_int (szI_neg h).symm, Below.refl _ _⟩
  · go_enter Tryz.func25, Tryz.ntmps25
    go_wp2
    go_ret
    exact ⟨ret_int (szI_pos h).symm, Below.refl _ _⟩

set_option maxRecDepth 100000 in
theorem toGate_calls (d t : Int) (w : World) :
    Calls Tryz.prog 81 #[.agg #[.int .i64 d, .int .i64 t]] w fun e w' => e = .returned (.agg #[.int .i64 d, .int .i64 t]) ∧ Below w.heap.size w w' := by
  have hb3 := fun o1 o2 o3 => (((Below.refl w.heap.size w).alloc (Nat.le_refl _) o1).alloc (by simp) o2).alloc (by simp; omega) o3
  have HB := hide hb3
  clear hb3
  go_enter Tryz.func81, Tryz.ntmps81
  go_wp2
  refine bodyPost_ret (v := .agg #[.int .i64 d, .int .i64 t]) (by simp [results, Tryz.results81, go_sem]) rfl ⟨rfl, ?_⟩
  first
    | exact HB.out _ _ _
    | exact ((((HB.out _ _ _).setCell (by simp; omega) _).setCell (by simp; omega) _).setCell (by simp) _).setCell (by simp) _

set_option maxRecDepth 100000 in
theorem toGateS_O (a : Option Addr) (n cap : Nat) (ls : List (Int × Int)) (w : World) (hm : n ≤ 1048576) (hs : Swd w a n ls) :
    Calls Tryz.prog 34 #[.slice a n cap] w fun e w' => ∃ b, e = .returned (.slice (some ⟨b, 0, none⟩) n n) ∧ OWd (InR w.heap.size w'.heap.size) (some ⟨b, 0, none⟩) n ls w' ∧ Below w.heap.size w w' := by
  obtain ⟨hlen, hs⟩ := hs
  obtain ⟨i0, hi, hz0, hz1, hz2⟩ := info_parts infoGate
  have hmk : ∀ u : World, (Instr.makeSlice 60 (.int .i64 (n : Int)) (.int .i64 (n : Int))).run Tryz.prog u =
      .ok (.slice (some ⟨u.heap.size, 0, none⟩) n n) (u.alloc (.cells (madeCells #[.int .i64 0, .int .i64 0] (n * 2)) 140)) := fun u => by
    have h := run_make (P := Tryz.prog) u 60 140 i0 (.agg #[.int .i64 0, .int .i64 0]) Tryz.underlying60 hi hz0 .i64 .i64 (n : Int) (n : Int) (by omega) (Int.le_refl _) (by rw [hz2]; omega) (by omega)
    simpa [hz1, Value.cells] using h
  go_enter Tryz.func34, Tryz.ntmps34
  go_wp2
  go_loopw [4] (fun i wr => ∃ k : Nat, k ≤ n ∧ i = .int .i64 k ∧ Below w.heap.size w wr ∧ Halfw wr w.heap.size n k ls) (fun i _ => n - (intOf i).toNat)
  case atStart => exact ⟨0, Nat.zero_le _, rfl, (Below.refl _ _).alloc (Nat.le_refl _) _, Halfw.start _ _ _ _⟩
  case round =>
    obtain ⟨k, hk, rfl, hbel, hh⟩ := hrel
    by_cases hlt : k < n
    · obtain ⟨b, off, rfl, hb, hc⟩ := hs (by omega)
      obtain ⟨hc0, hc1⟩ := cellsw hc hlt
      have hck0 := (hbel.cell (p := ⟨b, off + k * 2, none⟩) hb).trans hc0
      have hck1 := (hbel.cell (p := ⟨b, off + k * 2 + 1, none⟩) hb).trans hc1
      clear hc0 hc1 hc
      go_wp2_with fail
      refine (toGate_calls (gw ls k).1 (gw ls k).2 _).mono ?_
      rintro e w1 ⟨rfl, hb1⟩
      have hh1 := hh.below hb1
      obtain ⟨v0, hv0⟩ := hh1.2.2.1 (k * 2) (by omega)
      obtain ⟨v1, hv1⟩ := hh1.2.2.1 (k * 2 + 1) (by omega)
      have hf0 := hh1.2.2.2 (k * 2)
      have hf1 := hh1.2.2.2 (k * 2 + 1)
      have hbw := hbel.trans (hb1.mono hbel.size)
      have hN := hh.1
      have HH := hide (hh1.store hlt)
      unfold setw at HH
      clear hh hh1 hb1 hck0 hck1
      go_wp2
      go_roundw
      case rel => exact ⟨k + 1, by omega, by go_num, (hbw.setCell (Nat.le_refl _) _).setCell (Nat.le_refl _) _, HH.out⟩
      case measure => simp [intOf]; omega
    · have hkn : k = n := by omega
      subst hkn
      go_wp2
      go_ret
      exact ⟨w.heap.size, rfl, OWd.ofBlk (hh.done hlen) ⟨Nat.le_refl _, hh.1⟩ hlen hm, hbel⟩

set_option maxRecDepth 100000 in
theorem eqGate_calls (d t : Int) (w : World) :
    Calls Tryz.prog 103 #[.agg #[.int .i64 d, .int .i64 t], .agg #[.int .i64 d, .int .i64 t]] w fun e w' => e = .returned (.bool true) ∧ Below w.heap.size w w' := by
  have h1 : (d != d) = false := by simp
  have h2 : (t != t) = false := by simp
  go_enter Tryz.func103, Tryz.ntmps103
  go_wp2
  go_ret
  exact ⟨rfl, ((Below.refl _ _).alloc (Nat.le_refl _) _).alloc (by simp) _⟩

set_option maxRecDepth 100000 in
theorem eqGateS_calls (a b : Option Addr) (n ca cb : Nat) (ls : List (Int × Int)) (w : World) (hn : n ≤ maxLen) (hx : Swd w a n ls) (hy : Swd w b n ls) :
    Calls Tryz.prog 44 #[.slice a n ca, .slice b n cb] w fun e w' => e = .returned (.bool true) ∧ Below w.heap.size w w' := by
  unfold maxLen at hn
  obtain ⟨hlen, hx⟩ := hx
  obtain ⟨_, hy⟩ := hy
  have hnn : ((n : Int) == (n : Int)) = true := by simp
  go_enter Tryz.func44, Tryz.ntmps44
  go_wp2
  go_loopw [5] (fun i wr => ∃ k : Nat, k ≤ n ∧ i = .int .i64 k ∧ Below w.heap.size w wr) (fun i _ => n - (intOf i).toNat)
  case atStart => exact ⟨0, Nat.zero_le _, rfl, Below.refl _ _⟩
  case round =>
    obtain ⟨k, hk, rfl, hbel⟩ := hrel
    by_cases hlt : k < n
    · obtain ⟨b1, o1, rfl, hb1, hc1⟩ := hx (by omega)
      obtain ⟨b2, o2, rfl, hb2, hc2⟩ := hy (by omega)
      obtain ⟨p0, p1⟩ := cellsw hc1 hlt
      obtain ⟨r0, r1⟩ := cellsw hc2 hlt
      have hp0 := (hbel.cell (p := ⟨b1, o1 + k * 2, none⟩) hb1).trans p0
      have hp1 := (hbel.cell (p := ⟨b1, o1 + k * 2 + 1, none⟩) hb1).trans p1
      have hq0 := (hbel.cell (p := ⟨b2, o2 + k * 2, none⟩) hb2).trans r0
      have hq1 := (hbel.cell (p := ⟨b2, o2 + k * 2 + 1, none⟩) hb2).trans r1
      clear p0 p1 r0 r1 hc1 hc2
      have i0 : (0 : Int) ≤ (k : Int) := by omega
      have i1 : (k : Int) < (n : Int) := by omega
      have k1 : b1 < wr.heap.size := by have := hbel.size; omega
      have k2 : b2 < wr.heap.size := by have := hbel.size; omega
      have HS0 : Hid (wr.drew.cell? ⟨b1, o1 + k * 2, none⟩ = some (.int .i64 (gw ls k).1) ∧ wr.drew.cell? ⟨b1, o1 + k * 2 + 1, none⟩ = some (.int .i64 (gw ls k).2) ∧ wr.drew.cell? ⟨b2, o2 + k * 2, none⟩ = some (.int .i64 (gw ls k).1) ∧ wr.drew.cell? ⟨b2, o2 + k * 2 + 1, none⟩ = some (.int .i64 (gw ls k).2) ∧ Below wr.heap.size wr wr.drew) := ⟨hp0, hp1, hq0, hq1, (Below.refl _ _).drew⟩
      go_wp2_with fail
      clear hp0 hp1 hq0 hq1
      go_region_held2 (fun w' => w'.cell? ⟨b1, o1 + k * 2, none⟩ = some (.int .i64 (gw ls k).1) ∧ w'.cell? ⟨b1, o1 + k * 2 + 1, none⟩ = some (.int .i64 (gw ls k).2) ∧ w'.cell? ⟨b2, o2 + k * 2, none⟩ = some (.int .i64 (gw ls k).1) ∧ w'.cell? ⟨b2, o2 + k * 2 + 1, none⟩ = some (.int .i64 (gw ls k).2) ∧ Below wr.heap.size wr w')
        (first | with_reducible exact HS0.out | with_reducible assumption)
        (first
          | (go_at_call 103; refine (eqGate_calls (gw ls k).1 (gw ls k).2 _).mono ?_; rintro e v1 ⟨rfl, g1⟩; have hs1 := held4 (W := wr) k1 k1 k2 k2 (by with_reducible assumption) g1; clear g1))
      have HE := hide (hbel.trans (hs1.2.2.2.2.mono hbel.size))
      clear hs1 HS0
      go_wp2
      go_roundw
      case rel => exact ⟨k + 1, by omega, by go_num, HE.out⟩
      case measure => simp [intOf]; omega
    · go_wp2
      go_ret
      exact ⟨rfl, hbel⟩

set_option maxRecDepth 100000 in
set_option maxHeartbeats 2000000 in
theorem szSystem_calls (A : SA) (D : SD) (left : Int) (w : World) (h0 : 0 ≤ left) (h1 : left ≤ 1048576) (hr : RS w A D) :
    Calls Tryz.prog 5 #[.agg #[.slice A.a A.n A.c, .slice A.ta A.tn A.tc, .slice A.da A.dn A.dc, .slice A.wa A.wn A.wc, .slice A.xa A.xn A.xc, .int .i64 D.ac, .int .i64 D.cz, .slice A.la A.ln A.lc, .int .i64 D.dv, .slice A.oa A.on A.oc, .slice A.ga A.gn A.gc], .int .i64 left] w fun e w' => e = .returned (.int .i64 (szI (szY A D) left)) ∧ Below w.heap.size w w' := by
  have M0 := (Mm.start w).allocC [.slice A.a A.n A.c, .slice A.ta A.tn A.tc, .slice A.da A.dn A.dc, .slice A.wa A.wn A.wc, .slice A.xa A.xn A.xc, .int .i64 D.ac, .int .i64 D.cz, .slice A.la A.ln A.lc, .int .i64 D.dv, .slice A.oa A.on A.oc, .slice A.ga A.gn A.gc] 37
  go_enter Tryz.func5, Tryz.ntmps5
  go_wp2_with fail
  refine (szTables_calls A.a A.n A.c D.ss A.ta A.tn A.tc D.ts A.da A.dn A.dc D.ds left _ h0 h1 (hr.rt.below M0.bel (Nat.le_refl _))).mono ?_
  rintro e w1 ⟨rfl, g1⟩
  have M1 := M0.below g1
  clear g1 M0
  by_cases n0 : left - ((A.n + lenSum D.ss + A.tn + A.dn : Nat) : Int) < 0
  · rw [szI_neg n0]
    have HR := hide (szI_neg (len := szY A D) (left := left) (by unfold szY; omega))
    clear n0
    have HB := hide M1.bel
    clear M1
    go_wp2
    go_ret
    exact ⟨ret_int HR.out.symm, HB.out⟩
  rw [szI_pos (by omega)]
  obtain ⟨l1, hl1⟩ : ∃ x, x = left - ((A.n + lenSum D.ss + A.tn + A.dn : Nat) : Int) := ⟨_, rfl⟩
  rw [← hl1] at n0 ⊢
  have hd1 : ¬ (l1 < 0) := n0
  have Hl1 := hide hl1
  have hp1 : 0 ≤ l1 := by omega
  have hq1 : l1 ≤ 1048576 := by omega
  clear hl1 n0
  have q1_3 := (M1.get 0 rfl).cell 3 rfl
  go_wp2_with fail
  refine (szMemory_calls A.wa A.wn A.wc l1 _ hp1 hq1 hr.wm).mono ?_
  rintro e w2 ⟨rfl, g2⟩
  have M2 := M1.below g2
  clear g2 M1 q1_3
  by_cases n1 : l1 - (A.wn : Int) < 0
  · rw [szI_neg n1]
    have HR := hide (szI_neg (len := szY A D) (left := left) (by have := Hl1.out; unfold szY; omega))
    clear n1
    have HB := hide M2.bel
    clear M2
    go_wp2
    go_ret
    exact ⟨ret_int HR.out.symm, HB.out⟩
  rw [szI_pos (by omega)]
  obtain ⟨l2, hl2⟩ : ∃ x, x = l1 - (A.wn : Int) := ⟨_, rfl⟩
  rw [← hl2] at n1 ⊢
  have hd2 : ¬ (l2 < 0) := n1
  have Hl2 := hide hl2
  have hp2 : 0 ≤ l2 := by omega
  have hq2 : l2 ≤ 1048576 := by omega
  clear hl2 n1
  have q2_4 := (M2.get 0 rfl).cell 4 rfl
  go_wp2_with fail
  refine (szContextS_calls A.xa A.xn A.xc D.cs l2 _ hp2 hq2 hr.xm (hr.xs.below M2.bel (Nat.le_refl _))).mono ?_
  rintro e w3 ⟨rfl, g3⟩
  have M3 := M2.below g3
  clear g3 M2 q2_4
  by_cases n2 : l2 - ((A.xn + lenX D.cs : Nat) : Int) < 0
  · rw [szI_neg n2]
    have HR := hide (szI_neg (len := szY A D) (left := left) (by have := Hl1.out; have := Hl2.out; unfold szY; omega))
    clear n2
    have HB := hide M3.bel
    clear M3
    go_wp2
    go_ret
    exact ⟨ret_int HR.out.symm, HB.out⟩
  rw [szI_pos (by omega)]
  obtain ⟨l3, hl3⟩ : ∃ x, x = l2 - ((A.xn + lenX D.cs : Nat) : Int) := ⟨_, rfl⟩
  rw [← hl3] at n2 ⊢
  have hd3 : ¬ (l3 < 0) := n2
  have Hl3 := hide hl3
  have hp3 : 0 ≤ l3 := by omega
  have hq3 : l3 ≤ 1048576 := by omega
  clear hl3 n2
  have q3_6 := (M3.get 0 rfl).cell 6 rfl
  have q3_7 := (M3.get 0 rfl).cell 7 rfl
  go_wp2_with fail
  refine (szCache_calls D.cz A.la A.ln A.lc l3 _ hp3 hq3 hr.lm).mono ?_
  rintro e w4 ⟨rfl, g4⟩
  have M4 := M3.below g4
  clear g4 M3 q3_6 q3_7
  by_cases n3 : l3 - (A.ln : Int) < 0
  · rw [szI_neg n3]
    have HR := hide (szI_neg (len := szY A D) (left := left) (by have := Hl1.out; have := Hl2.out; have := Hl3.out; unfold szY; omega))
    clear n3
    have HB := hide M4.bel
    clear M4
    go_wp2
    go_ret
    exact ⟨ret_int HR.out.symm, HB.out⟩
  rw [szI_pos (by omega)]
  obtain ⟨l4, hl4⟩ : ∃ x, x = l3 - (A.ln : Int) := ⟨_, rfl⟩
  rw [← hl4] at n3 ⊢
  have hd4 : ¬ (l4 < 0) := n3
  have Hl4 := hide hl4
  have hp4 : 0 ≤ l4 := by omega
  have hq4 : l4 ≤ 1048576 := by omega
  clear hl4 n3
  have q4_9 := (M4.get 0 rfl).cell 9 rfl
  go_wp2_with fail
  refine (sz_calls A.oa A.on A.oc l4 _ hp4 hq4 hr.om).mono ?_
  rintro e w5 ⟨rfl, g5⟩
  have M5 := M4.below g5
  clear g5 M4 q4_9
  by_cases n4 : l4 - (A.on : Int) < 0
  · rw [szI_neg n4]
    have HR := hide (szI_neg (len := szY A D) (left := left) (by have := Hl1.out; have := Hl2.out; have := Hl3.out; have := Hl4.out; unfold szY; omega))
    clear n4
    have HB := hide M5.bel
    clear M5
    go_wp2
    go_ret
    exact ⟨ret_int HR.out.symm, HB.out⟩
  rw [szI_pos (by omega)]
  obtain ⟨l5, hl5⟩ : ∃ x, x = l4 - (A.on : Int) := ⟨_, rfl⟩
  rw [← hl5] at n4 ⊢
  have hd5 : ¬ (l5 < 0) := n4
  have Hl5 := hide hl5
  have hp5 : 0 ≤ l5 := by omega
  have hq5 : l5 ≤ 1048576 := by omega
  clear hl5 n4
  have q5_10 := (M5.get 0 rfl).cell 10 rfl
  go_wp2_with fail
  refine (szGateS_calls A.ga A.gn A.gc l5 _ hp5 hq5 hr.gm).mono ?_
  rintro e w6 ⟨rfl, g6⟩
  have M6 := M5.below g6
  clear g6 M5 q5_10
  by_cases n5 : l5 - (A.gn : Int) < 0
  · rw [szI_neg n5]
    have HR := hide (szI_neg (len := szY A D) (left := left) (by have := Hl1.out; have := Hl2.out; have := Hl3.out; have := Hl4.out; have := Hl5.out; unfold szY; omega))
    clear n5
    have HB := hide M6.bel
    clear M6
    go_wp2
    go_ret
    exact ⟨ret_int HR.out.symm, HB.out⟩
  rw [szI_pos (by omega)]
  obtain ⟨l6, hl6⟩ : ∃ x, x = l5 - (A.gn : Int) := ⟨_, rfl⟩
  rw [← hl6] at n5 ⊢
  have hd6 : ¬ (l6 < 0) := n5
  have Hl6 := hide hl6
  have hp6 : 0 ≤ l6 := by omega
  have hq6 : l6 ≤ 1048576 := by omega
  clear hl6 n5
  have HR : Hid (szI (szY A D) left = l6) := by show _ = _; have := Hl1.out; have := Hl2.out; have := Hl3.out; have := Hl4.out; have := Hl5.out; have := Hl6.out; rw [szI_pos (by unfold szY; omega)]; unfold szY; omega
  have HB := hide M6.bel
  clear M6
  go_wp2
  go_ret
  exact ⟨ret_int HR.out.symm, HB.out⟩
set_option maxRecDepth 100000 in
set_option maxHeartbeats 2000000 in
theorem toSystem_S (A : SA) (D : SD) (w : World) (hm : szY A D ≤ 1048576) (hr : RS w A D) :
    Calls Tryz.prog 8 #[.agg #[.slice A.a A.n A.c, .slice A.ta A.tn A.tc, .slice A.da A.dn A.dc, .slice A.wa A.wn A.wc, .slice A.xa A.xn A.xc, .int .i64 D.ac, .int .i64 D.cz, .slice A.la A.ln A.lc, .int .i64 D.dv, .slice A.oa A.on A.oc, .slice A.ga A.gn A.gc]] w fun e w' => ∃ B : SA, e = .returned (.agg #[.slice B.a B.n B.c, .slice B.ta B.tn B.tc, .slice B.da B.dn B.dc, .slice B.wa B.wn B.wc, .slice B.xa B.xn B.xc, .int .i64 D.ac, .int .i64 D.cz, .slice B.la B.ln B.lc, .int .i64 D.dv, .slice B.oa B.on B.oc, .slice B.ga B.gn B.gc]) ∧ OY (InR w.heap.size w'.heap.size) B D w' ∧ szY B D = szY A D ∧ Below w.heap.size w w' := by
  unfold szY at hm
  obtain ⟨k0, k1, k2, k3, k4, k5, k6, k7⟩ := hr.len
  have M0 := (((Mm.start w).allocC [.slice A.a A.n A.c, .slice A.ta A.tn A.tc, .slice A.da A.dn A.dc, .slice A.wa A.wn A.wc, .slice A.xa A.xn A.xc, .int .i64 D.ac, .int .i64 D.cz, .slice A.la A.ln A.lc, .int .i64 D.dv, .slice A.oa A.on A.oc, .slice A.ga A.gn A.gc] 37).allocC [.slice none 0 0, .slice none 0 0, .slice none 0 0, .slice none 0 0, .slice none 0 0, .int .i64 0, .int .i64 0, .slice none 0 0, .int .i64 0, .slice none 0 0, .slice none 0 0] 62).allocC [.slice none 0 0, .slice none 0 0, .slice none 0 0, .slice none 0 0, .slice none 0 0, .int .i64 0, .int .i64 0, .slice none 0 0, .int .i64 0, .slice none 0 0, .slice none 0 0] 62
  simp only [World.size_alloc] at M0
  go_enter Tryz.func8, Tryz.ntmps8
  go_wp2_with fail
  refine (toTables_O A.a A.n A.c D.ss A.ta A.tn A.tc D.ts A.da A.dn A.dc D.ds _ (by omega) (hr.rt.below M0.bel (Nat.le_refl _))).mono ?_
  rintro e w1 ⟨b0, b1, b2, rfl, o1, g1⟩
  have z1 := g1.size
  simp only [World.size_alloc] at z1 o1
  have N1 := (M0.below g1).fact OT.loc o1
  have u1_0 := (N1.get 1 rfl).cell 0 rfl
  have f1_0 := (N1.get 1 rfl).fz 0 (by simp)
  have u1_1 := (N1.get 1 rfl).cell 1 rfl
  have f1_1 := (N1.get 1 rfl).fz 1 (by simp)
  have u1_2 := (N1.get 1 rfl).cell 2 rfl
  have f1_2 := (N1.get 1 rfl).fz 2 (by simp)
  have P1_0 := N1.put 1 rfl 0 (by simp) (.slice (some ⟨b0, 0, none⟩) A.n A.n) (by omega) (by simp) (by simp <;> omega)
  have P1_1 := P1_0.put 1 rfl 1 (by simp) (.slice (some ⟨b1, 0, none⟩) A.tn A.tn) (by omega) (by simp) (by simp <;> omega)
  have P1_2 := P1_1.put 1 rfl 2 (by simp) (.slice (some ⟨b2, 0, none⟩) A.dn A.dn) (by omega) (by simp) (by simp <;> omega)
  have X1 := P1_2
  simp only [List.set] at X1
  clear P1_2 P1_1 P1_0 N1 M0 g1 o1
  have q1_3 := (X1.get 3 rfl).cell 3 rfl
  go_wp2_with fail
  refine (toMemory_O A.wa A.wn A.wc D.ws _ (by omega) (hr.ws.below X1.bel (Nat.le_refl _))).mono ?_
  rintro e w2 ⟨b3, rfl, o2, g2⟩
  have z2 := g2.size
  simp only [World.size_setCell] at z2 o2
  have N2 := (X1.below g2).fact OWd.loc o2
  have u2_3 := (N2.get 2 rfl).cell 3 rfl
  have f2_3 := (N2.get 2 rfl).fz 3 (by simp)
  have P2_3 := N2.put 2 rfl 3 (by simp) (.slice (some ⟨b3, 0, none⟩) A.wn A.wn) (by omega) (by simp) (by simp <;> omega)
  have X2 := P2_3
  simp only [List.set] at X2
  clear P2_3 N2 X1 g2 o2 q1_3
  have q2_4 := (X2.get 4 rfl).cell 4 rfl
  go_wp2_with fail
  refine (toContextS_O A.xa A.xn A.xc D.cs _ (by omega) (hr.xs.below X2.bel (Nat.le_refl _))).mono ?_
  rintro e w3 ⟨b4, rfl, o3, g3⟩
  have z3 := g3.size
  simp only [World.size_setCell] at z3 o3
  have N3 := (X2.below g3).fact OX.loc o3
  have u3_4 := (N3.get 3 rfl).cell 4 rfl
  have f3_4 := (N3.get 3 rfl).fz 4 (by simp)
  have P3_4 := N3.put 3 rfl 4 (by simp) (.slice (some ⟨b4, 0, none⟩) A.xn A.xn) (by omega) (by simp) (by simp <;> omega)
  have q5 := (N3.get 5 rfl).cell 5 rfl
  have u5 := (N3.get 3 rfl).cell 5 rfl
  have f5 := (N3.get 3 rfl).fz 5 (by simp)
  have P3_5 := P3_4.put 3 rfl 5 (by simp) (.int .i64 D.ac) (by omega) (by simp) (by simp <;> omega)
  have X3 := P3_5
  simp only [List.set] at X3
  clear P3_5 P3_4 N3 X2 g3 o3 q2_4
  have q3_6 := (X3.get 5 rfl).cell 6 rfl
  have q3_7 := (X3.get 5 rfl).cell 7 rfl
  go_wp2_with fail
  refine (toCache_O D.cz A.la A.ln A.lc D.ls _ (by omega) (hr.ls.below X3.bel (Nat.le_refl _))).mono ?_
  rintro e w4 ⟨b7, rfl, o4, g4⟩
  have z4 := g4.size
  simp only [World.size_setCell] at z4 o4
  have N4 := (X3.below g4).fact OL.loc o4
  have u4_6 := (N4.get 4 rfl).cell 6 rfl
  have f4_6 := (N4.get 4 rfl).fz 6 (by simp)
  have u4_7 := (N4.get 4 rfl).cell 7 rfl
  have f4_7 := (N4.get 4 rfl).fz 7 (by simp)
  have P4_6 := N4.put 4 rfl 6 (by simp) (.int .i64 D.cz) (by omega) (by simp) (by simp <;> omega)
  have P4_7 := P4_6.put 4 rfl 7 (by simp) (.slice (some ⟨b7, 0, none⟩) A.ln A.ln) (by omega) (by simp) (by simp <;> omega)
  have q8 := (N4.get 6 rfl).cell 8 rfl
  have u8 := (N4.get 4 rfl).cell 8 rfl
  have f8 := (N4.get 4 rfl).fz 8 (by simp)
  have P4_8 := P4_7.put 4 rfl 8 (by simp) (.int .i64 D.dv) (by omega) (by simp) (by simp <;> omega)
  have X4 := P4_8
  simp only [List.set] at X4
  clear P4_8 P4_7 P4_6 N4 X3 g4 o4 q3_6 q3_7
  have q4_9 := (X4.get 6 rfl).cell 9 rfl
  go_wp2_with fail
  refine (toInts_calls A.oa A.on A.oc D.os _ (by omega) (hr.os.below X4.bel (Nat.le_refl _))).mono ?_
  rintro e w5 ⟨b9, rfl, n9, blk9, g5⟩
  have z5 := g5.size
  simp only [World.size_setCell] at z5 n9
  have o5 : OS (InR (w4.heap.size) w5.heap.size) (some ⟨b9, 0, none⟩) A.on D.os w5 := OS.ofBlk (n := A.on) blk9 ⟨n9, blk9.1⟩ hr.os.1 (by omega)
  have N5 := (X4.below g5).fact OS.loc o5
  have u5_9 := (N5.get 5 rfl).cell 9 rfl
  have f5_9 := (N5.get 5 rfl).fz 9 (by simp)
  have P5_9 := N5.put 5 rfl 9 (by simp) (.slice (some ⟨b9, 0, none⟩) A.on A.on) (by omega) (by simp) (by simp <;> omega)
  have X5 := P5_9
  simp only [List.set] at X5
  clear P5_9 N5 X4 g5 o5 q4_9 blk9
  have q5_10 := (X5.get 7 rfl).cell 10 rfl
  go_wp2_with fail
  refine (toGateS_O A.ga A.gn A.gc D.gs _ (by omega) (hr.gs.below X5.bel (Nat.le_refl _))).mono ?_
  rintro e w6 ⟨b10, rfl, o6, g6⟩
  have z6 := g6.size
  simp only [World.size_setCell] at z6 o6
  have N6 := (X5.below g6).fact OWd.loc o6
  have u6_10 := (N6.get 6 rfl).cell 10 rfl
  have f6_10 := (N6.get 6 rfl).fz 10 (by simp)
  have P6_10 := N6.put 6 rfl 10 (by simp) (.slice (some ⟨b10, 0, none⟩) A.gn A.gn) (by omega) (by simp) (by simp <;> omega)
  have X6 := P6_10
  simp only [List.set] at X6
  clear P6_10 N6 X5 g6 o6 q5_10
  have x0 := (X6.get 6 rfl).cell 0 rfl
  have r0 := (X6.get 7 rfl).cell 0 rfl
  have s0 := (X6.get 7 rfl).fz 0 (by simp)
  have x1 := (X6.get 6 rfl).cell 1 rfl
  have r1 := (X6.get 7 rfl).cell 1 rfl
  have s1 := (X6.get 7 rfl).fz 1 (by simp)
  have x2 := (X6.get 6 rfl).cell 2 rfl
  have r2 := (X6.get 7 rfl).cell 2 rfl
  have s2 := (X6.get 7 rfl).fz 2 (by simp)
  have x3 := (X6.get 6 rfl).cell 3 rfl
  have r3 := (X6.get 7 rfl).cell 3 rfl
  have s3 := (X6.get 7 rfl).fz 3 (by simp)
  have x4 := (X6.get 6 rfl).cell 4 rfl
  have r4 := (X6.get 7 rfl).cell 4 rfl
  have s4 := (X6.get 7 rfl).fz 4 (by simp)
  have x5 := (X6.get 6 rfl).cell 5 rfl
  have r5 := (X6.get 7 rfl).cell 5 rfl
  have s5 := (X6.get 7 rfl).fz 5 (by simp)
  have x6 := (X6.get 6 rfl).cell 6 rfl
  have r6 := (X6.get 7 rfl).cell 6 rfl
  have s6 := (X6.get 7 rfl).fz 6 (by simp)
  have x7 := (X6.get 6 rfl).cell 7 rfl
  have r7 := (X6.get 7 rfl).cell 7 rfl
  have s7 := (X6.get 7 rfl).fz 7 (by simp)
  have x8 := (X6.get 6 rfl).cell 8 rfl
  have r8 := (X6.get 7 rfl).cell 8 rfl
  have s8 := (X6.get 7 rfl).fz 8 (by simp)
  have x9 := (X6.get 6 rfl).cell 9 rfl
  have r9 := (X6.get 7 rfl).cell 9 rfl
  have s9 := (X6.get 7 rfl).fz 9 (by simp)
  have x10 := (X6.get 6 rfl).cell 10 rfl
  have r10 := (X6.get 7 rfl).cell 10 rfl
  have s10 := (X6.get 7 rfl).fz 10 (by simp)
  have R_0 := X6.put 7 rfl 0 (by simp) (.slice (some ⟨b0, 0, none⟩) A.n A.n) (by omega) (by simp) (by simp <;> omega)
  have R_1 := R_0.put 7 rfl 1 (by simp) (.slice (some ⟨b1, 0, none⟩) A.tn A.tn) (by omega) (by simp) (by simp <;> omega)
  have R_2 := R_1.put 7 rfl 2 (by simp) (.slice (some ⟨b2, 0, none⟩) A.dn A.dn) (by omega) (by simp) (by simp <;> omega)
  have R_3 := R_2.put 7 rfl 3 (by simp) (.slice (some ⟨b3, 0, none⟩) A.wn A.wn) (by omega) (by simp) (by simp <;> omega)
  have R_4 := R_3.put 7 rfl 4 (by simp) (.slice (some ⟨b4, 0, none⟩) A.xn A.xn) (by omega) (by simp) (by simp <;> omega)
  have R_5 := R_4.put 7 rfl 5 (by simp) (.int .i64 D.ac) (by omega) (by simp) (by simp <;> omega)
  have R_6 := R_5.put 7 rfl 6 (by simp) (.int .i64 D.cz) (by omega) (by simp) (by simp <;> omega)
  have R_7 := R_6.put 7 rfl 7 (by simp) (.slice (some ⟨b7, 0, none⟩) A.ln A.ln) (by omega) (by simp) (by simp <;> omega)
  have R_8 := R_7.put 7 rfl 8 (by simp) (.int .i64 D.dv) (by omega) (by simp) (by simp <;> omega)
  have R_9 := R_8.put 7 rfl 9 (by simp) (.slice (some ⟨b9, 0, none⟩) A.on A.on) (by omega) (by simp) (by simp <;> omega)
  have R_10 := R_9.put 7 rfl 10 (by simp) (.slice (some ⟨b10, 0, none⟩) A.gn A.gn) (by omega) (by simp) (by simp <;> omega)
  have HR := hide R_10
  clear R_10 R_9 R_8 R_7 R_6 R_5 R_4 R_3 R_2 R_1 R_0 X6
  go_wp2
  have HM := HR.out
  simp only [List.set] at HM
  have y0 := (HM.get 7 rfl).cell 0 rfl
  have y1 := (HM.get 7 rfl).cell 1 rfl
  have y2 := (HM.get 7 rfl).cell 2 rfl
  have y3 := (HM.get 7 rfl).cell 3 rfl
  have y4 := (HM.get 7 rfl).cell 4 rfl
  have y5 := (HM.get 7 rfl).cell 5 rfl
  have y6 := (HM.get 7 rfl).cell 6 rfl
  have y7 := (HM.get 7 rfl).cell 7 rfl
  have y8 := (HM.get 7 rfl).cell 8 rfl
  have y9 := (HM.get 7 rfl).cell 9 rfl
  have y10 := (HM.get 7 rfl).cell 10 rfl
  refine bodyPost_ret (v := .agg #[.slice (some ⟨b0, 0, none⟩) A.n A.n, .slice (some ⟨b1, 0, none⟩) A.tn A.tn, .slice (some ⟨b2, 0, none⟩) A.dn A.dn, .slice (some ⟨b3, 0, none⟩) A.wn A.wn, .slice (some ⟨b4, 0, none⟩) A.xn A.xn, .int .i64 D.ac, .int .i64 D.cz, .slice (some ⟨b7, 0, none⟩) A.ln A.ln, .int .i64 D.dv, .slice (some ⟨b9, 0, none⟩) A.on A.on, .slice (some ⟨b10, 0, none⟩) A.gn A.gn]) (by simp [results, Tryz.results8, go_sem, y0, y1, y2, y3, y4, y5, y6, y7, y8, y9, y10]) rfl ⟨⟨some ⟨b0, 0, none⟩, A.n, A.n, some ⟨b1, 0, none⟩, A.tn, A.tn, some ⟨b2, 0, none⟩, A.dn, A.dn, some ⟨b3, 0, none⟩, A.wn, A.wn, some ⟨b4, 0, none⟩, A.xn, A.xn, some ⟨b7, 0, none⟩, A.ln, A.ln, some ⟨b9, 0, none⟩, A.on, A.on, some ⟨b10, 0, none⟩, A.gn, A.gn⟩, rfl, ?_, rfl, HM.bel⟩
  refine ⟨fun i => if i = 0 then InR (w.heap.size + 1 + 1 + 1) (w1.heap.size) else if i = 1 then InR (w1.heap.size) (w2.heap.size) else if i = 2 then InR (w2.heap.size) (w3.heap.size) else if i = 3 then InR (w3.heap.size) (w4.heap.size) else if i = 4 then InR (w4.heap.size) (w5.heap.size) else if i = 5 then InR (w5.heap.size) (w6.heap.size) else fun _ => False, fun i k hk => ?_, fun i j k hij h1 h2 => ?_, by unfold szY; dsimp only; omega, Nat.le_refl _, HM.get 5 rfl, HM.get 4 rfl, HM.get 3 rfl, HM.get 2 rfl, HM.get 1 rfl, HM.get 0 rfl⟩
  · simp only [World.size_setCell]
    dsimp only at hk
    (repeat (split at hk; (have e1 := hk.1; have e2 := hk.2; exact ⟨by omega, by omega⟩)))
    exact hk.elim
  · dsimp only at h1 h2
    (repeat (split at h1; (have e1 := h1.1; have e2 := h1.2; (repeat (split at h2; first | omega | (have e3 := h2.1; have e4 := h2.2; omega))); exact h2)))
    exact h1

theorem toSystem_O (A : SA) (D : SD) (w : World) (hm : szY A D ≤ 1048576) (hr : RS w A D) :
    Calls Tryz.prog 8 #[.agg #[.slice A.a A.n A.c, .slice A.ta A.tn A.tc, .slice A.da A.dn A.dc, .slice A.wa A.wn A.wc, .slice A.xa A.xn A.xc, .int .i64 D.ac, .int .i64 D.cz, .slice A.la A.ln A.lc, .int .i64 D.dv, .slice A.oa A.on A.oc, .slice A.ga A.gn A.gc]] w fun e w' => ∃ B : SA, e = .returned (.agg #[.slice B.a B.n B.c, .slice B.ta B.tn B.tc, .slice B.da B.dn B.dc, .slice B.wa B.wn B.wc, .slice B.xa B.xn B.xc, .int .i64 D.ac, .int .i64 D.cz, .slice B.la B.ln B.lc, .int .i64 D.dv, .slice B.oa B.on B.oc, .slice B.ga B.gn B.gc]) ∧ OY (InR w.heap.size w'.heap.size) B D w' ∧ Below w.heap.size w w' :=
  (toSystem_S A D w hm hr).mono (fun _ _ h => by obtain ⟨B, h1, h2, _, h4⟩ := h; exact ⟨B, h1, h2, h4⟩)

set_option maxRecDepth 100000 in
set_option maxHeartbeats 2000000 in
theorem eqSystem_O (S S' : Nat → Prop) (A B : SA) (D : SD) (w : World) (hx : OY S A D w) (hy : OY S' B D w) :
    Calls Tryz.prog 12 #[.agg #[.slice A.a A.n A.c, .slice A.ta A.tn A.tc, .slice A.da A.dn A.dc, .slice A.wa A.wn A.wc, .slice A.xa A.xn A.xc, .int .i64 D.ac, .int .i64 D.cz, .slice A.la A.ln A.lc, .int .i64 D.dv, .slice A.oa A.on A.oc, .slice A.ga A.gn A.gc], .agg #[.slice B.a B.n B.c, .slice B.ta B.tn B.tc, .slice B.da B.dn B.dc, .slice B.wa B.wn B.wc, .slice B.xa B.xn B.xc, .int .i64 D.ac, .int .i64 D.cz, .slice B.la B.ln B.lc, .int .i64 D.dv, .slice B.oa B.on B.oc, .slice B.ga B.gn B.gc]] w fun e w' => e = .returned (.bool true) ∧ Below w.heap.size w w' := by
  have r1 := hx.rs
  have r2 := hy.rs
  obtain ⟨⟨a, n, c, ta, tn, tc, da, dn, dc, wa, wn, wc, xa, xn, xc, la, ln, lc, oa, on, oc, ga, gn, gc⟩, eA⟩ : ∃ x, x = A := ⟨A, rfl⟩
  obtain ⟨⟨b, m, c2, tb, tm, tc2, db, dm, dc2, wb, wm, wc2, xb, xm, xc2, lb, lm, lc2, ob, om, oc2, gb, gm, gc2⟩, eB⟩ : ∃ x, x = B := ⟨B, rfl⟩
  subst eA eB
  have l1 := r1.len
  have l2 := r2.len
  dsimp only at l1 l2 r1 r2 ⊢
  obtain rfl : m = n := by omega
  obtain rfl : tm = tn := by omega
  obtain rfl : dm = dn := by omega
  obtain rfl : wm = wn := by omega
  obtain rfl : xm = xn := by omega
  obtain rfl : lm = ln := by omega
  obtain rfl : om = on := by omega
  obtain rfl : gm = gn := by omega
  clear l1 l2
  have e1 : (D.ac != D.ac) = false := by simp
  have e2 : (D.dv != D.dv) = false := by simp
  have M0 := ((Mm.start w).allocC [.slice a m c, .slice ta tm tc, .slice da dm dc, .slice wa wm wc, .slice xa xm xc, .int .i64 D.ac, .int .i64 D.cz, .slice la lm lc, .int .i64 D.dv, .slice oa om oc, .slice ga gm gc] 62).allocC [.slice b m c2, .slice tb tm tc2, .slice db dm dc2, .slice wb wm wc2, .slice xb xm xc2, .int .i64 D.ac, .int .i64 D.cz, .slice lb lm lc2, .int .i64 D.dv, .slice ob om oc2, .slice gb gm gc2] 62
  simp only [World.size_alloc] at M0
  obtain ⟨Q1, _, _, z1, _, o1⟩ := hx
  obtain ⟨Q2, _, _, z2, _, o2⟩ := hy
  go_enter Tryz.func12, Tryz.ntmps12
  go_wp2_with fail
  refine (eqTables_O _ _ a b m c c2 D.ss ta tb tm tc tc2 D.ts da db dm dc dc2 D.ds _ (OT.loc.below M0.bel o1.t) (OT.loc.below M0.bel o2.t)).mono ?_
  rintro e w1 ⟨rfl, g1⟩
  have M1 := M0.below g1
  clear g1 M0 
  have p1_3 := (M1.get 1 rfl).cell 3 rfl
  have q1_3 := (M1.get 0 rfl).cell 3 rfl
  go_wp2_with fail
  refine (eqMemory_calls wa wb wm wc wc2 D.ws _ r1.wm (r1.ws.below M1.bel (Nat.le_refl _)) (r2.ws.below M1.bel (Nat.le_refl _))).mono ?_
  rintro e w2 ⟨rfl, g2⟩
  have M2 := M1.below g2
  clear g2 M1 p1_3 q1_3
  have p2_4 := (M2.get 1 rfl).cell 4 rfl
  have q2_4 := (M2.get 0 rfl).cell 4 rfl
  go_wp2_with fail
  refine (eqContextS_calls xa xb xm xc xc2 D.cs _ r1.xm (r1.xs.below M2.bel (Nat.le_refl _)) (r2.xs.below M2.bel (Nat.le_refl _))).mono ?_
  rintro e w3 ⟨rfl, g3⟩
  have M3 := M2.below g3
  clear g3 M2 p2_4 q2_4
  have p3_6 := (M3.get 1 rfl).cell 6 rfl
  have q3_6 := (M3.get 0 rfl).cell 6 rfl
  have p3_7 := (M3.get 1 rfl).cell 7 rfl
  have q3_7 := (M3.get 0 rfl).cell 7 rfl
  have p3_5 := (M3.get 1 rfl).cell 5 rfl
  have q3_5 := (M3.get 0 rfl).cell 5 rfl
  go_wp2_with fail
  refine (eqCache_calls D.cz la lb lm lc lc2 D.ls _ r1.lm (r1.ls.below M3.bel (Nat.le_refl _)) (r2.ls.below M3.bel (Nat.le_refl _))).mono ?_
  rintro e w4 ⟨rfl, g4⟩
  have M4 := M3.below g4
  clear g4 M3 p3_6 q3_6 p3_7 q3_7 p3_5 q3_5
  have p4_9 := (M4.get 1 rfl).cell 9 rfl
  have q4_9 := (M4.get 0 rfl).cell 9 rfl
  have p4_8 := (M4.get 1 rfl).cell 8 rfl
  have q4_8 := (M4.get 0 rfl).cell 8 rfl
  go_wp2_with fail
  refine (eqInts_calls oa ob om oc om oc2 D.os D.os _ r1.om r1.om (r1.os.below M4.bel (Nat.le_refl _)) (r2.os.below M4.bel (Nat.le_refl _))).mono ?_
  rintro e w5 ⟨rfl, g5⟩
  rw [decide_eq_true rfl]
  have M5 := M4.below g5
  clear g5 M4 p4_9 q4_9 p4_8 q4_8
  have p5_10 := (M5.get 1 rfl).cell 10 rfl
  have q5_10 := (M5.get 0 rfl).cell 10 rfl
  go_wp2_with fail
  refine (eqGateS_calls ga gb gm gc gc2 D.gs _ r1.gm (r1.gs.below M5.bel (Nat.le_refl _)) (r2.gs.below M5.bel (Nat.le_refl _))).mono ?_
  rintro e w6 ⟨rfl, g6⟩
  have M6 := M5.below g6
  clear g6 M5 p5_10 q5_10
  have HB := hide M6.bel
  clear M6
  go_wp2
  go_ret
  exact ⟨rfl, HB.out⟩

end Go.Proofs.YtnlkigjgloeonaaGreat
