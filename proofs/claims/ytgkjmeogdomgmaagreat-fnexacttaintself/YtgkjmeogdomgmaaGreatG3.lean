import Derived.Test.YtgkjmeogdomgmaaGreatG2
import Derived.Test.YtgkjmeogdomgmaaGreatG1
import Derived.WalkKit
import Derived.ProofKit
import Derived.OpenShut
import Derived.ShutString
import Derived.ChangeOld
import Derived.Below
import Derived.WalkSpells
import Derived.Deep.QuietTactic
import Derived.BigQuiet
import Derived.Deep.RegionWith
import Derived.Deep.WholeRow
import Derived.Deep.DeepCutAuto
import Derived.Deep.RegionHeld2
import Derived.Deep.AppendLies
import Derived.Deep.RegionLaw
namespace Go.Proofs.YtgkjmeogdomgmaaGreat
open Go.ChangeShapes Go.WideShapes Go.ChangeAt Go.RowKit

set_option maxRecDepth 100000 in
theorem szSlot_calls (c : Int) (a : Option Addr) (len cap : Nat) (left : Int) (w : World) (h0 : 0 ≤ left) (h1 : left ≤ 1048576) (hl : len ≤ maxLen) :
    Calls Tryz.prog 131 #[.agg #[.int .i64 c, .slice a len cap], .int .i64 left] w fun e w' => e = .returned (.int .i64 (szI len left)) ∧ Below w.heap.size w w' := by
  by_cases h : left - len < 0
  · go_enter Tryz.func131, Tryz.ntmps131
    go_wp2_with fail
    refine (szLabel_calls a len cap left _ h0 h1 hl).mono ?_
    rintro e w1 ⟨rfl, hb⟩
    rw [szI_neg h]
    go_wp2
    go_ret
    exact ⟨ret_int (szI_neg h).symm, ((Below.refl _ _).alloc (Nat.le_refl _) _).trans (hb.mono (by simp))⟩
  · have hp : 0 ≤ left - len := by omega
    go_enter Tryz.func131, Tryz.ntmps131
    go_wp2_with fail
    refine (szLabel_calls a len cap left _ h0 h1 hl).mono ?_
    rintro e w1 ⟨rfl, hb⟩
    rw [szI_pos hp]
    go_wp2
    go_ret
    exact ⟨ret_int (szI_pos hp).symm, ((Below.refl _ _).alloc (Nat.le_refl _) _).trans (hb.mono (by simp))⟩

set_option maxRecDepth 100000 in
theorem szSlotS_calls (a : Option Addr) (n cap : Nat) (ss : List (Int × List Int)) (left : Int) (w : World) (h0 : 0 ≤ left) (h1 : left ≤ 1048576) (hl : n ≤ maxLen) (hs : Sls w a n ss) :
    Calls Tryz.prog 94 #[.slice a n cap, .int .i64 left] w fun e w' => e = .returned (.int .i64 (szI (n + lenSum ss) left)) ∧ Below w.heap.size w w' := by
  unfold maxLen at hl
  obtain ⟨hlen, hs⟩ := hs
  by_cases h : left - n < 0
  · go_enter Tryz.func94, Tryz.ntmps94
    go_wp2
    go_ret
    exact ⟨ret_int (szI_neg (by omega)).symm, Below.refl _ _⟩
  · go_enter Tryz.func94, Tryz.ntmps94
    go_wp2
    go_loopw [5, 1] (fun i l wr => ∃ k : Nat, k ≤ n ∧ i = .int .i64 k ∧ l = .int .i64 (left - n - lenSum (ss.take k)) ∧ 0 ≤ left - n - lenSum (ss.take k) ∧ Below w.heap.size w wr) (fun i _ _ => n - (intOf i).toNat)
    case atStart => exact ⟨0, Nat.zero_le _, rfl, by simp [lenSum], by simp [lenSum]; omega, Below.refl _ _⟩
    case round =>
      obtain ⟨k, hk, rfl, rfl, hpos, hbel⟩ := hrel
      by_cases hlt : k < n
      · obtain ⟨b, off, rfl, hb, hc⟩ := hs (by omega)
        obtain ⟨hc0, la, ll, lc, hc1, hll, hsl⟩ := hc k hlt
        have hck0 := (hbel.cell (p := ⟨b, off + k * 2, none⟩) hb).trans hc0
        have hck1 := (hbel.cell (p := ⟨b, off + k * 2 + 1, none⟩) hb).trans hc1
        have hzl : (gl ss k).length = ll := hsl.1
        have hstep := lenSum_take ss k (by omega)
        have htot := lenSum_le ss (k + 1)
        have hb1 : left - n - lenSum (ss.take k) ≤ 1048576 := by omega
        by_cases hneg : left - n - lenSum (ss.take k) - ll < 0
        · have Hr := hide (szI_neg (len := n + lenSum ss) (left := left) (by omega))
          clear hstep htot
          go_wp2_with fail
          refine (szSlot_calls (gc ss k) la ll lc _ _ hpos hb1 hll).mono ?_
          rintro e w1 ⟨rfl, g1⟩
          rw [szI_neg hneg]
          go_wp2
          go_ret
          exact ⟨ret_int Hr.out.symm, hbel.trans (g1.mono hbel.size)⟩
        · have hp2 : 0 ≤ left - n - lenSum (ss.take k) - ll := by omega
          have Hr : Hid (left - n - lenSum (ss.take k) - ll = left - n - lenSum (ss.take (k + 1)) ∧ 0 ≤ left - n - lenSum (ss.take (k + 1))) := ⟨by omega, by omega⟩
          clear hstep htot
          go_wp2_with fail
          refine (szSlot_calls (gc ss k) la ll lc _ _ hpos hb1 hll).mono ?_
          rintro e w1 ⟨rfl, g1⟩
          rw [szI_pos hp2]
          go_wp2
          go_roundw
          case rel => exact ⟨k + 1, by omega, by go_num, by rw [Hr.out.1], Hr.out.2, hbel.trans (g1.mono hbel.size)⟩
          case measure => simp [intOf]; omega
      · have hkn : k = n := by omega
        have ht : ss.take k = ss := by rw [hkn, ← hlen, List.take_length]
        have Hr : Hid (szI (n + lenSum ss) left = left - n - lenSum (ss.take k)) := by
          rw [ht] at hpos ⊢
          show szI _ _ = _
          rw [szI_pos (by omega)]; omega
        clear ht
        go_wp2
        go_ret
        exact ⟨ret_int Hr.out.symm, hbel⟩

set_option maxRecDepth 100000 in
theorem szRegistry_calls (a : Option Addr) (n cap : Nat) (ss : List (Int × List Int)) (left : Int) (w : World) (h0 : 0 ≤ left) (h1 : left ≤ 1048576) (hl : n ≤ maxLen) (hs : Sls w a n ss) :
    Calls Tryz.prog 44 #[.agg #[.slice a n cap], .int .i64 left] w fun e w' => e = .returned (.int .i64 (szI (n + lenSum ss) left)) ∧ Below w.heap.size w w' := by
  have hs1 := hs.below ((Below.refl w.heap.size w).alloc (Nat.le_refl _) (.cells #[.slice a n cap] 24)) (Nat.le_refl _)
  by_cases h : left - (n + lenSum ss : Nat) < 0
  · go_enter Tryz.func44, Tryz.ntmps44
    go_wp2_with fail
    refine (szSlotS_calls a n cap ss left _ h0 h1 hl hs1).mono ?_
    rintro e w1 ⟨rfl, hb⟩
    rw [szI_neg h]
    go_wp2
    go_ret
    exact ⟨ret_int (szI_neg h).symm, ((Below.refl _ _).alloc (Nat.le_refl _) _).trans (hb.mono (by simp))⟩
  · have hp : 0 ≤ left - (n + lenSum ss : Nat) := by omega
    go_enter Tryz.func44, Tryz.ntmps44
    go_wp2_with fail
    refine (szSlotS_calls a n cap ss left _ h0 h1 hl hs1).mono ?_
    rintro e w1 ⟨rfl, hb⟩
    rw [szI_pos hp]
    go_wp2
    go_ret
    exact ⟨ret_int (szI_pos hp).symm, ((Below.refl _ _).alloc (Nat.le_refl _) _).trans (hb.mono (by simp))⟩

theorem infoSlot : (Tryz.prog.info? 150).map (fun i => (i.zero, i.size, i.bytes)) = some (some (.agg #[.int .i64 0, .slice none 0 0]), 2, 32) := by kernel_rfl

set_option maxRecDepth 100000 in
theorem toSlot_calls (c : Int) (a : Option Addr) (len cap : Nat) (zs : List Int) (w : World) (hl : len ≤ 1048576) (hs : Sl w a len zs) :
    Calls Tryz.prog 140 #[.agg #[.int .i64 c, .slice a len cap]] w fun e w' => ∃ b, e = .returned (.agg #[.int .i64 c, .slice (some ⟨b, 0, none⟩) len len]) ∧ w.heap.size ≤ b ∧ Blk w' b zs ∧ Below w.heap.size w w' := by
  have hb3 := fun o1 o2 o3 => (((Below.refl w.heap.size w).alloc (Nat.le_refl _) o1).alloc (by simp) o2).alloc (by simp; omega) o3
  go_enter Tryz.func140, Tryz.ntmps140
  go_wp2_with fail
  refine (toLabel_calls a len cap zs _ hl (hs.below (hb3 _ _ _) (Nat.le_refl _))).mono ?_
  rintro e w1 ⟨b, rfl, hbN, hblk, hb⟩
  have hbw : Below w.heap.size w w1 := (hb3 _ _ _).trans (hb.mono (by simp; omega))
  simp only [World.size_alloc] at hbN
  have c10 : w1.cell? ⟨w.heap.size + 1, 0, none⟩ = some (.int .i64 0) := (hb.cell (p := ⟨w.heap.size + 1, 0, none⟩) (by simp)).trans (by go_simp)
  have c11 : w1.cell? ⟨w.heap.size + 1, 1, none⟩ = some (.slice none 0 0) := (hb.cell (p := ⟨w.heap.size + 1, 1, none⟩) (by simp)).trans (by go_simp)
  have f10 : w1.frozen? ⟨w.heap.size + 1, 0, none⟩ = false := (hb.frozen (p := ⟨w.heap.size + 1, 0, none⟩) (by simp)).trans (by go_simp)
  have f11 : w1.frozen? ⟨w.heap.size + 1, 1, none⟩ = false := (hb.frozen (p := ⟨w.heap.size + 1, 1, none⟩) (by simp)).trans (by go_simp)
  have c20 : w1.cell? ⟨w.heap.size + 1 + 1, 0, none⟩ = some (.int .i64 c) := (hb.cell (p := ⟨w.heap.size + 1 + 1, 0, none⟩) (by simp)).trans (by go_simp)
  have c21 : w1.cell? ⟨w.heap.size + 1 + 1, 1, none⟩ = some (.slice none 0 0) := (hb.cell (p := ⟨w.heap.size + 1 + 1, 1, none⟩) (by simp)).trans (by go_simp)
  have f21 : w1.frozen? ⟨w.heap.size + 1 + 1, 1, none⟩ = false := (hb.frozen (p := ⟨w.heap.size + 1 + 1, 1, none⟩) (by simp)).trans (by go_simp)
  clear hb hb3
  go_wp2
  refine bodyPost_ret (v := .agg #[.int .i64 c, .slice (some ⟨b, 0, none⟩) len len]) (by simp [results, Tryz.results140, go_sem, c10, c11]) rfl ⟨b, rfl, by omega, ?_, ?_⟩
  · exact ((hblk.setCell (by simp; omega) _).setCell (by simp; omega) _).setCell (by simp; omega) _
  · exact ((hbw.setCell (by simp; omega) _).setCell (by simp) _).setCell (by simp) _

/-- four cells of a world that later worlds keep: for a region's loads. -/
theorem held4 {W X Y : World} {A B C D : Addr} {a b c d : Value} (hA : A.block < W.heap.size) (hB : B.block < W.heap.size) (hC : C.block < W.heap.size) (hD : D.block < W.heap.size)
    (h : X.cell? A = some a ∧ X.cell? B = some b ∧ X.cell? C = some c ∧ X.cell? D = some d ∧ Below W.heap.size W X) (g : Below X.heap.size X Y) :
    Y.cell? A = some a ∧ Y.cell? B = some b ∧ Y.cell? C = some c ∧ Y.cell? D = some d ∧ Below W.heap.size W Y := by
  obtain ⟨h1, h2, h3, h4, hb⟩ := h
  have hz := hb.size
  exact ⟨(g.cell (by omega)).trans h1, (g.cell (by omega)).trans h2, (g.cell (by omega)).trans h3, (g.cell (by omega)).trans h4, hb.trans (g.mono hz)⟩

set_option maxRecDepth 100000 in
theorem eqSlot_calls (c : Int) (a b : Option Addr) (la ca lb cb : Nat) (zs : List Int) (w : World) (hla : la ≤ maxLen) (hlb : lb ≤ maxLen) (hx : Sl w a la zs) (hy : Sl w b lb zs) :
    Calls Tryz.prog 158 #[.agg #[.int .i64 c, .slice a la ca], .agg #[.int .i64 c, .slice b lb cb]] w fun e w' => e = .returned (.bool true) ∧ Below w.heap.size w w' := by
  have hn : (c != c) = false := by simp
  have HX := hide fun o1 o2 => hx.below (((Below.refl w.heap.size w).alloc (Nat.le_refl _) o1).alloc (by simp) o2) (Nat.le_refl _)
  have HY := hide fun o1 o2 => hy.below (((Below.refl w.heap.size w).alloc (Nat.le_refl _) o1).alloc (by simp) o2) (Nat.le_refl _)
  have HB := hide fun o1 o2 => ((Below.refl w.heap.size w).alloc (Nat.le_refl _) o1).alloc (by simp) o2
  go_enter Tryz.func158, Tryz.ntmps158
  go_wp2_with fail
  refine (eqLabel_calls a b la ca lb cb zs zs _ hla hlb (HX.out _ _) (HY.out _ _)).mono ?_
  rintro e w1 ⟨rfl, g1⟩
  rw [decide_eq_true rfl]
  go_wp2
  go_ret
  exact ⟨rfl, (HB.out _ _).trans (g1.mono (HB.out _ _).size)⟩

set_option maxRecDepth 100000 in
theorem eqSlotS_calls (a b : Option Addr) (n ca cb : Nat) (ss : List (Int × List Int)) (w : World) (hn : n ≤ maxLen) (hx : Sls w a n ss) (hy : Sls w b n ss) :
    Calls Tryz.prog 124 #[.slice a n ca, .slice b n cb] w fun e w' => e = .returned (.bool true) ∧ Below w.heap.size w w' := by
  unfold maxLen at hn
  obtain ⟨hlen, hx⟩ := hx
  obtain ⟨_, hy⟩ := hy
  have hnn : ((n : Int) == (n : Int)) = true := by simp
  go_enter Tryz.func124, Tryz.ntmps124
  go_wp2
  go_loopw [5] (fun i wr => ∃ k : Nat, k ≤ n ∧ i = .int .i64 k ∧ Below w.heap.size w wr) (fun i _ => n - (intOf i).toNat)
  case atStart => exact ⟨0, Nat.zero_le _, rfl, Below.refl _ _⟩
  case round =>
    obtain ⟨k, hk, rfl, hbel⟩ := hrel
    by_cases hlt : k < n
    · obtain ⟨b1, o1, rfl, hb1, hc1⟩ := hx (by omega)
      obtain ⟨b2, o2, rfl, hb2, hc2⟩ := hy (by omega)
      obtain ⟨p0, la, ll, lc, p1, pl, psl⟩ := hc1 k hlt
      obtain ⟨q0, ma, ml, mc, q1, ql, qsl⟩ := hc2 k hlt
      have hp0 := (hbel.cell (p := ⟨b1, o1 + k * 2, none⟩) hb1).trans p0
      have hp1 := (hbel.cell (p := ⟨b1, o1 + k * 2 + 1, none⟩) hb1).trans p1
      have hq0 := (hbel.cell (p := ⟨b2, o2 + k * 2, none⟩) hb2).trans q0
      have hq1 := (hbel.cell (p := ⟨b2, o2 + k * 2 + 1, none⟩) hb2).trans q1
      have HP := hide (psl.below hbel (Nat.le_refl _))
      have HQ := hide (qsl.below hbel (Nat.le_refl _))
      clear p0 p1 q0 q1 psl qsl
      have i0 : (0 : Int) ≤ (k : Int) := by omega
      have i1 : (k : Int) < (n : Int) := by omega
      have k1 : b1 < wr.heap.size := by have := hbel.size; omega
      have k2 : b2 < wr.heap.size := by have := hbel.size; omega
      have HS0 : Hid (wr.drew.cell? ⟨b1, o1 + k * 2, none⟩ = some (.int .i64 (gc ss k)) ∧ wr.drew.cell? ⟨b1, o1 + k * 2 + 1, none⟩ = some (.slice la ll lc) ∧ wr.drew.cell? ⟨b2, o2 + k * 2, none⟩ = some (.int .i64 (gc ss k)) ∧ wr.drew.cell? ⟨b2, o2 + k * 2 + 1, none⟩ = some (.slice ma ml mc) ∧ Below wr.heap.size wr wr.drew) := ⟨hp0, hp1, hq0, hq1, (Below.refl _ _).drew⟩
      go_wp2_with fail
      clear hp0 hp1 hq0 hq1
      go_region_held2 (fun w' => w'.cell? ⟨b1, o1 + k * 2, none⟩ = some (.int .i64 (gc ss k)) ∧ w'.cell? ⟨b1, o1 + k * 2 + 1, none⟩ = some (.slice la ll lc) ∧ w'.cell? ⟨b2, o2 + k * 2, none⟩ = some (.int .i64 (gc ss k)) ∧ w'.cell? ⟨b2, o2 + k * 2 + 1, none⟩ = some (.slice ma ml mc) ∧ Below wr.heap.size wr w')
        (first | with_reducible exact HS0.out | with_reducible assumption)
        (first
          | (go_at_call 158; refine (eqSlot_calls (gc ss k) la ma ll lc ml mc (gl ss k) _ pl ql ?_ ?_).mono ?_; exact HP.out.below (And.right (And.right (And.right (And.right (by with_reducible assumption))))) (Nat.le_refl _); exact HQ.out.below (And.right (And.right (And.right (And.right (by with_reducible assumption))))) (Nat.le_refl _); rintro e v1 ⟨rfl, g1⟩; have hs1 := held4 (W := wr) k1 k1 k2 k2 (by with_reducible assumption) g1; clear g1))
      have HE := hide (hbel.trans (hs1.2.2.2.2.mono hbel.size))
      clear hs1 HS0 HP HQ
      go_wp2
      go_roundw
      case rel => exact ⟨k + 1, by omega, by go_num, HE.out⟩
      case measure => simp [intOf]; omega
    · go_wp2
      go_ret
      exact ⟨rfl, hbel⟩

set_option maxRecDepth 100000 in
theorem eqRegistry_calls (a b : Option Addr) (n ca cb : Nat) (ss : List (Int × List Int)) (w : World) (hn : n ≤ maxLen) (hx : Sls w a n ss) (hy : Sls w b n ss) :
    Calls Tryz.prog 80 #[.agg #[.slice a n ca], .agg #[.slice b n cb]] w fun e w' => e = .returned (.bool true) ∧ Below w.heap.size w w' := by
  have hb2 := fun o1 o2 => ((Below.refl w.heap.size w).alloc (Nat.le_refl _) o1).alloc (by simp) o2
  go_enter Tryz.func80, Tryz.ntmps80
  go_wp2_with fail
  refine (eqSlotS_calls a b n ca cb ss _ hn (hx.below (hb2 _ _) (Nat.le_refl _)) (hy.below (hb2 _ _) (Nat.le_refl _))).mono ?_
  rintro e w1 ⟨rfl, hb⟩
  have hbw : Below w.heap.size w w1 := (hb2 _ _).trans (hb.mono (by simp; omega))
  clear hb hb2
  go_wp2
  go_ret
  exact ⟨rfl, hbw⟩

/-- marks k, k+1, .. -/
def marksFrom (k : Int) (n : Nat) : List Int := (List.range n).map (fun j : Nat => k + (j : Int))

theorem length_marksFrom (k : Int) (n : Nat) : (marksFrom k n).length = n := by simp [marksFrom]

theorem gt_marksFrom (k : Int) (n j : Nat) (h : j < n) : gt (marksFrom k n) j = k + j := by simp [marksFrom, gt, h]

/-- a row that is being marked: the first k hold marks, all n are there. -/
def MRow (w : World) (b n k : Nat) (m : Int) : Prop :=
  b < w.heap.size ∧ (∀ j, j < k → w.cell? ⟨b, j, none⟩ = some (.int .i64 (m + j))) ∧ (∀ j, j < n → ∃ v, w.cell? ⟨b, j, none⟩ = some v) ∧ ∀ j, w.frozen? ⟨b, j, none⟩ = false

theorem MRow.start {w : World} {b : Nat} {rs : List Int} {m : Int} (h : Blk w b rs) : MRow w b rs.length 0 m := ⟨h.1, fun j hj => by omega, fun j hj => ⟨_, h.2.1 j hj⟩, h.2.2⟩

theorem MRow.store {w : World} {b n k : Nat} {m : Int} (h : MRow w b n k m) (hk : k < n) : MRow (w.setCell ⟨b, k, none⟩ (.int .i64 (m + k))) b n (k + 1) m := by
  obtain ⟨h1, h2, h3, h4⟩ := h
  obtain ⟨v, hv⟩ := h3 k hk
  refine ⟨by simpa using h1, fun j hj => ?_, fun j hj => ?_, fun j => by simpa using h4 j⟩
  · by_cases e : j = k
    · subst e; exact World.cell?_setCell_same _ _ _ hv
    · rw [World.cell?_setCell_other _ _ _ _ (fun h => e (by injection h with _ h2; exact h2.symm))]; exact h2 j (by omega)
  · exact cell?_setCell_some (h3 j hj).choose_spec

theorem MRow.done {w : World} {b n : Nat} {m : Int} (h : MRow w b n n m) : Blk w b (marksFrom m n) :=
  ⟨h.1, fun j hj => by rw [length_marksFrom] at hj; rw [gt_marksFrom m n j hj]; exact h.2.1 j hj, h.2.2.2⟩

/-- the body of an owned slice of slots: block N, label i in block lb i. -/
structure ORb (S : Nat → Prop) (N n : Nat) (la : Nat → Option Addr) (lc lb : Nat → Nat) (fc : Nat → Int) (fl : Nat → List Int) (w : World) : Prop where
  hS : S N
  lt : N < w.heap.size
  fz : ∀ j, w.frozen? ⟨N, j, none⟩ = false
  c0 : ∀ i, i < n → w.cell? ⟨N, i * 2, none⟩ = some (.int .i64 (fc i))
  c1 : ∀ i, i < n → w.cell? ⟨N, i * 2 + 1, none⟩ = some (.slice (la i) (fl i).length (lc i))
  os : ∀ i, i < n → OS (fun k => k = lb i ∧ 0 < (fl i).length) (la i) (fl i).length (fl i) w
  lS : ∀ i, i < n → 0 < (fl i).length → S (lb i)
  ne : ∀ i, i < n → 0 < (fl i).length → lb i ≠ N
  ap : ∀ i j, i < n → j < n → i ≠ j → 0 < (fl i).length → 0 < (fl j).length → lb i ≠ lb j

theorem OR.body {S : Nat → Prop} {a : Option Addr} {n : Nat} {ss : List (Int × List Int)} {w : World} (h : OR S a n ss w) (hn : 0 < n) : ∃ N la lc lb, a = some ⟨N, 0, none⟩ ∧ ORb S N n la lc lb (gc ss) (gl ss) w := by
  obtain ⟨_, _, h3⟩ := h
  rcases h3 with h3 | ⟨N, la, lc, lb, e, hS, hN, hf, hc, hd⟩
  · omega
  · exact ⟨N, la, lc, lb, e, hS, hN, hf, fun i hi => (hc i hi).1, fun i hi => (hc i hi).2.1, fun i hi => (hc i hi).2.2.1, fun i hi h => ((hc i hi).2.2.2 h).1, fun i hi h => ((hc i hi).2.2.2 h).2, hd⟩

theorem ORb.or {S : Nat → Prop} {N n : Nat} {la : Nat → Option Addr} {lc lb : Nat → Nat} {ss : List (Int × List Int)} {w : World} (h : ORb S N n la lc lb (gc ss) (gl ss) w) (hn : ss.length = n) (hl : n + lenSum ss ≤ 1048576) : OR S (some ⟨N, 0, none⟩) n ss w :=
  ⟨hn, hl, .inr ⟨N, la, lc, lb, rfl, h.hS, h.lt, h.fz, fun i hi => ⟨h.c0 i hi, h.c1 i hi, h.os i hi, fun hl => ⟨h.lS i hi hl, h.ne i hi hl⟩⟩, h.ap⟩⟩

theorem ORb.congr {S : Nat → Prop} {N n : Nat} {la : Nat → Option Addr} {lc lb : Nat → Nat} {fc fc' : Nat → Int} {fl fl' : Nat → List Int} {w : World} (h : ORb S N n la lc lb fc fl w) (h1 : ∀ i, i < n → fc i = fc' i) (h2 : ∀ i, i < n → fl i = fl' i) : ORb S N n la lc lb fc' fl' w :=
  ⟨h.hS, h.lt, h.fz, fun i hi => h1 i hi ▸ h.c0 i hi, fun i hi => h2 i hi ▸ h.c1 i hi, fun i hi => h2 i hi ▸ h.os i hi, fun i hi hl => h.lS i hi (by rw [h2 i hi]; exact hl), fun i hi hl => h.ne i hi (by rw [h2 i hi]; exact hl), fun i j hi hj e a b => h.ap i j hi hj e (by rw [h2 i hi]; exact a) (by rw [h2 j hj]; exact b)⟩

theorem ORb.below {S : Nat → Prop} {N n : Nat} {la : Nat → Option Addr} {lc lb : Nat → Nat} {fc : Nat → Int} {fl : Nat → List Int} {w w' : World} (h : ORb S N n la lc lb fc fl w) (hb : Below w.heap.size w w') : ORb S N n la lc lb fc fl w' :=
  ⟨h.hS, by have := hb.size; have := h.lt; omega, fun j => (hb.frozen (p := ⟨N, j, none⟩) h.lt).trans (h.fz j), fun i hi => (hb.cell (p := ⟨N, i * 2, none⟩) h.lt).trans (h.c0 i hi), fun i hi => (hb.cell (p := ⟨N, i * 2 + 1, none⟩) h.lt).trans (h.c1 i hi), fun i hi => OS.loc.below hb (h.os i hi), h.lS, h.ne, h.ap⟩

def upd {α : Type} (f : Nat → α) (i : Nat) (x : α) (j : Nat) : α := if j = i then x else f j

theorem ORb.setCount {S : Nat → Prop} {N n : Nat} {la : Nat → Option Addr} {lc lb : Nat → Nat} {fc : Nat → Int} {fl : Nat → List Int} {w : World} (h : ORb S N n la lc lb fc fl w) {i : Nat} (hi : i < n) (c : Int) : ORb S N n la lc lb (upd fc i c) fl (w.setCell ⟨N, i * 2, none⟩ (.int .i64 c)) := by
  refine ⟨h.hS, by simpa using h.lt, fun j => by simpa using h.fz j, fun j hj => ?_, fun j hj => ?_, fun j hj => ?_, h.lS, h.ne, h.ap⟩
  · unfold upd
    by_cases e : j = i
    · subst e; rw [if_pos rfl]; exact World.cell?_setCell_same _ _ _ (h.c0 j hj)
    · rw [if_neg e, World.cell?_setCell_other _ _ _ _ (fun h => by injection h with _ h2; omega)]; exact h.c0 j hj
  · rw [World.cell?_setCell_other _ _ _ _ (fun h => by injection h with _ h2; omega)]; exact h.c1 j hj
  · refine OS.loc w _ (fun k hk _ => Below.heap_setCell _ _ _ _ (fun e => h.ne j hj hk.2 (hk.1.symm.trans e))) (h.os j hj)

theorem ORb.setLabel {S : Nat → Prop} {N n : Nat} {la : Nat → Option Addr} {lc lb : Nat → Nat} {fc : Nat → Int} {fl : Nat → List Int} {w w' : World} (h : ORb S N n la lc lb fc fl w) {i : Nat} (hi : i < n) {zs : List Int} (hz : zs.length = (fl i).length) (ho : OutS (fun k => k = lb i ∧ 0 < (fl i).length) w w') (hs : OS (fun k => k = lb i ∧ 0 < (fl i).length) (la i) (fl i).length zs w') : ORb S N n la lc lb fc (upd fl i zs) w' := by
  have eN := ho.block N h.lt (fun e => h.ne i hi e.2 e.1.symm)
  have hlen : ∀ j, (upd fl i zs j).length = (fl j).length := fun j => by
    unfold upd
    by_cases e : j = i
    · subst e; rw [if_pos rfl, hz]
    · rw [if_neg e]
  refine ⟨h.hS, by have := ho.size; have := h.lt; omega, fun j => (World.frozen?_of_block (a := ⟨N, j, none⟩) eN).trans (h.fz j), fun j hj => (World.cell?_of_block (a := ⟨N, j * 2, none⟩) eN).trans (h.c0 j hj), fun j hj => (World.cell?_of_block (a := ⟨N, j * 2 + 1, none⟩) eN).trans ?_, fun j hj => ?_, fun j hj hl => h.lS j hj (by rw [hlen] at hl; exact hl), fun j hj hl => h.ne j hj (by rw [hlen] at hl; exact hl), fun a b ha hb e la lb => h.ap a b ha hb e (by rw [hlen] at la; exact la) (by rw [hlen] at lb; exact lb)⟩
  · rw [hlen]; exact h.c1 j hj
  · rw [hlen]
    unfold upd
    by_cases e : j = i
    · subst e; rw [if_pos rfl]; exact hs
    · rw [if_neg e]; exact OS.loc.out ho (fun k hk e2 => h.ap j i hj hi e hk.2 e2.2 (hk.1.symm.trans e2.1)) (h.os j hj)

theorem lenSum_congr : ∀ (ss rr : List (Int × List Int)), ss.length = rr.length → (∀ j, j < ss.length → (gl ss j).length = (gl rr j).length) → lenSum ss = lenSum rr
  | [], [], _, _ => rfl
  | [], _ :: _, h, _ => by simp at h
  | _ :: _, [], h, _ => by simp at h
  | s :: r, t :: q, h, hl => by
    have h0 := hl 0 (by simp)
    have ih := lenSum_congr r q (by simpa using h) (fun j hj => by have := hl (j + 1) (by simpa using hj); simpa [gl] using this)
    simp [lenSum, gl] at h0 ⊢
    omega

/-- marks of the first k slots from m on, the others as they were. -/
def mkC (m : Int) (ss : List (Int × List Int)) (j : Nat) : Int := m + (j : Int) + (lenSum (ss.take j) : Int)

def mkL (m : Int) (ss : List (Int × List Int)) (j : Nat) : List Int := marksFrom (mkC m ss j + 1) (gl ss j).length

def mkS (m : Int) (ss : List (Int × List Int)) : List (Int × List Int) := (List.range ss.length).map (fun j => (mkC m ss j, mkL m ss j))

theorem length_mkS (m : Int) (ss : List (Int × List Int)) : (mkS m ss).length = ss.length := by simp [mkS]

theorem gc_mkS (m : Int) (ss : List (Int × List Int)) (j : Nat) (h : j < ss.length) : gc (mkS m ss) j = mkC m ss j := by simp [mkS, gc, h]

theorem gl_mkS (m : Int) (ss : List (Int × List Int)) (j : Nat) (h : j < ss.length) : gl (mkS m ss) j = mkL m ss j := by simp [mkS, gl, h]

theorem length_mkL (m : Int) (ss : List (Int × List Int)) (j : Nat) : (mkL m ss j).length = (gl ss j).length := length_marksFrom _ _

theorem lenSum_mkS (m : Int) (ss : List (Int × List Int)) : lenSum (mkS m ss) = lenSum ss :=
  lenSum_congr _ _ (length_mkS m ss) (fun j hj => by rw [length_mkS] at hj; rw [gl_mkS m ss j hj, length_mkL])

theorem mkC_succ (m : Int) (ss : List (Int × List Int)) (j : Nat) (h : j < ss.length) : mkC m ss (j + 1) = mkC m ss j + 1 + ((gl ss j).length : Int) := by
  unfold mkC
  rw [lenSum_take ss j h]
  omega

theorem mkC_le (m : Int) (ss : List (Int × List Int)) (j : Nat) : mkC m ss j ≤ m + (j : Int) + (lenSum ss : Int) := by
  unfold mkC
  have := lenSum_le ss j
  omega

theorem mkC_ge (m : Int) (ss : List (Int × List Int)) (j : Nat) : m ≤ mkC m ss j := by
  unfold mkC
  omega

theorem mkC_all (m : Int) (ss : List (Int × List Int)) : mkC m ss ss.length = m + (ss.length : Int) + (lenSum ss : Int) := by
  unfold mkC
  rw [List.take_length]

/-- a row of n slots under copy, labels in blocks of their own, no two in one. -/
structure HalfD (w : World) (N n k : Nat) (ss : List (Int × List Int)) (lb : Nat → Nat) : Prop where
  lt : N < w.heap.size
  c0 : ∀ j, j < k → w.cell? ⟨N, j * 2, none⟩ = some (.int .i64 (gc ss j))
  c1 : ∀ j, j < k → w.cell? ⟨N, j * 2 + 1, none⟩ = some (.slice (some ⟨lb j, 0, none⟩) (gl ss j).length (gl ss j).length)
  gt : ∀ j, j < k → N < lb j
  blk : ∀ j, j < k → Blk w (lb j) (gl ss j)
  ap : ∀ i j, i < k → j < k → i ≠ j → lb i ≠ lb j
  all : ∀ j, j < n * 2 → ∃ v, w.cell? ⟨N, j, none⟩ = some v
  fz : ∀ j, w.frozen? ⟨N, j, none⟩ = false

theorem HalfD.below {w w' : World} {N n k : Nat} {ss : List (Int × List Int)} {lb : Nat → Nat} (h : HalfD w N n k ss lb) (hb : Below w.heap.size w w') : HalfD w' N n k ss lb :=
  ⟨by have := hb.size; have := h.lt; omega, fun j hj => (hb.cell (p := ⟨N, j * 2, none⟩) h.lt).trans (h.c0 j hj), fun j hj => (hb.cell (p := ⟨N, j * 2 + 1, none⟩) h.lt).trans (h.c1 j hj), h.gt, fun j hj => (h.blk j hj).below hb, h.ap,
    fun j hj => by obtain ⟨v, hv⟩ := h.all j hj; exact ⟨v, (hb.cell (p := ⟨N, j, none⟩) h.lt).trans hv⟩, fun j => (hb.frozen (p := ⟨N, j, none⟩) h.lt).trans (h.fz j)⟩

theorem HalfD.store {w0 w : World} {N n k b : Nat} {ss : List (Int × List Int)} {lb : Nat → Nat} (h0 : HalfD w0 N n k ss lb) (hw : Below w0.heap.size w0 w) (hk : k < n) (hb : w0.heap.size ≤ b) (hB : Blk w b (gl ss k)) :
    HalfD ((w.setCell ⟨N, k * 2, none⟩ (.int .i64 (gc ss k))).setCell ⟨N, k * 2 + 1, none⟩ (.slice (some ⟨b, 0, none⟩) (gl ss k).length (gl ss k).length)) N n (k + 1) ss (fun j => if j = k then b else lb j) := by
  have h := h0.below hw
  have hNb : N < b := by have := h0.lt; omega
  obtain ⟨v0, hv0⟩ := h.all (k * 2) (by omega)
  obtain ⟨v1, hv1⟩ := h.all (k * 2 + 1) (by omega)
  have ne1 : ∀ i, i ≠ k * 2 → i ≠ k * 2 + 1 → ((w.setCell ⟨N, k * 2, none⟩ (.int .i64 (gc ss k))).setCell ⟨N, k * 2 + 1, none⟩ (.slice (some ⟨b, 0, none⟩) (gl ss k).length (gl ss k).length)).cell? ⟨N, i, none⟩ = w.cell? ⟨N, i, none⟩ := fun i a b => by
    rw [World.cell?_setCell_other _ _ _ _ (fun e => b (by injection e with _ e2; exact e2.symm)), World.cell?_setCell_other _ _ _ _ (fun e => a (by injection e with _ e2; exact e2.symm))]
  have c0 : ((w.setCell ⟨N, k * 2, none⟩ (.int .i64 (gc ss k))).setCell ⟨N, k * 2 + 1, none⟩ (.slice (some ⟨b, 0, none⟩) (gl ss k).length (gl ss k).length)).cell? ⟨N, k * 2, none⟩ = some (.int .i64 (gc ss k)) := by
    rw [World.cell?_setCell_other _ _ _ _ (fun e => by injection e with _ e2; omega)]
    exact World.cell?_setCell_same _ _ _ hv0
  have c1 : ((w.setCell ⟨N, k * 2, none⟩ (.int .i64 (gc ss k))).setCell ⟨N, k * 2 + 1, none⟩ (.slice (some ⟨b, 0, none⟩) (gl ss k).length (gl ss k).length)).cell? ⟨N, k * 2 + 1, none⟩ = some (.slice (some ⟨b, 0, none⟩) (gl ss k).length (gl ss k).length) :=
    World.cell?_setCell_same _ _ _ ((World.cell?_setCell_other _ _ _ _ (fun e => by injection e with _ e2; omega)).trans hv1)
  have hold : ∀ j, j < k → lb j < w0.heap.size := fun j hj => (h0.blk j hj).1
  refine ⟨by simpa [World.setCell] using h.lt, fun j hj => ?_, fun j hj => ?_, fun j hj => ?_, fun j hj => ?_, fun i j hi hj hij => ?_, fun j hj => cell?_setCell_some (cell?_setCell_some (h.all j hj).choose_spec).choose_spec, fun j => by simpa using h.fz j⟩
  · by_cases e : j = k
    · subst e; exact c0
    · exact (ne1 _ (by omega) (by omega)).trans (h.c0 j (by omega))
  · by_cases e : j = k
    · subst e; rw [if_pos rfl]; exact c1
    · rw [if_neg e]; exact (ne1 _ (by omega) (by omega)).trans (h.c1 j (by omega))
  · by_cases e : j = k
    · rw [if_pos e]; exact hNb
    · rw [if_neg e]; exact h.gt j (by omega)
  · by_cases e : j = k
    · subst e; rw [if_pos rfl]; exact (hB.setCell (by show N ≠ b; omega) _).setCell (by show N ≠ b; omega) _
    · rw [if_neg e]
      have := h.gt j (by omega)
      exact ((h.blk j (by omega)).setCell (by show N ≠ lb j; omega) _).setCell (by show N ≠ lb j; omega) _
  · by_cases e : i = k
    · rw [if_pos e, if_neg (by omega)]
      have := hold j (by omega)
      omega
    · rw [if_neg e]
      by_cases e2 : j = k
      · rw [if_pos e2]
        have := hold i (by omega)
        omega
      · rw [if_neg e2]
        exact h.ap i j (by omega) (by omega) hij

theorem HalfD.start (w : World) (n : Nat) (ss : List (Int × List Int)) (t : TypeId) (lb : Nat → Nat) : HalfD (w.alloc (.cells (madeCells #[.int .i64 0, .slice none 0 0] (n * 2)) t)) w.heap.size n 0 ss lb := by
  refine ⟨by simp, fun j hj => by omega, fun j hj => by omega, fun j hj => by omega, fun j hj => by omega, fun i j hi => by omega, fun j hj => ?_, fun j => by simp⟩
  have hs : j < (madeCells #[.int .i64 0, .slice none 0 0] (n * 2)).size := by rw [size_madeCells]; exact hj
  exact ⟨(madeCells #[.int .i64 0, .slice none 0 0] (n * 2))[j], by rw [World.cell?_alloc_new]; simp [hs]⟩

theorem HalfD.or {w : World} {N n B : Nat} {ss : List (Int × List Int)} {lb : Nat → Nat} (h : HalfD w N n n ss lb) (hB : B ≤ N) (hn : ss.length = n) (hm : n + lenSum ss ≤ 1048576) : OR (InR B w.heap.size) (some ⟨N, 0, none⟩) n ss w :=
  ⟨hn, hm, .inr ⟨N, fun j => some ⟨lb j, 0, none⟩, fun j => (gl ss j).length, lb, rfl, ⟨hB, h.lt⟩, h.lt, h.fz, fun i hi => ⟨h.c0 i hi, h.c1 i hi, ⟨rfl, by have := gl_le ss i (by omega); omega, by (by_cases e : (gl ss i).length = 0); exact .inl e; exact .inr ⟨lb i, rfl, ⟨rfl, by omega⟩, h.blk i hi⟩⟩, fun _ => ⟨⟨by have := h.gt i hi; omega, (h.blk i hi).1⟩, by have := h.gt i hi; omega⟩⟩, fun i j hi hj e _ _ => h.ap i j hi hj e⟩⟩

set_option maxRecDepth 100000 in
theorem toSlotS_O (a : Option Addr) (n cap : Nat) (ss : List (Int × List Int)) (w : World) (hm : n + lenSum ss ≤ 1048576) (hs : Sls w a n ss) :
    Calls Tryz.prog 109 #[.slice a n cap] w fun e w' => ∃ b, e = .returned (.slice (some ⟨b, 0, none⟩) n n) ∧ OR (InR w.heap.size w'.heap.size) (some ⟨b, 0, none⟩) n ss w' ∧ Below w.heap.size w w' := by
  obtain ⟨hlen, hs⟩ := hs
  obtain ⟨i0, hi, hz0, hz1, hz2⟩ := info_parts infoSlot
  have hmk : ∀ u : World, (Instr.makeSlice 39 (.int .i64 (n : Int)) (.int .i64 (n : Int))).run Tryz.prog u =
      .ok (.slice (some ⟨u.heap.size, 0, none⟩) n n) (u.alloc (.cells (madeCells #[.int .i64 0, .slice none 0 0] (n * 2)) 150)) := fun u => by
    have h := run_make (P := Tryz.prog) u 39 150 i0 (.agg #[.int .i64 0, .slice none 0 0]) Tryz.underlying39 hi hz0 .i64 .i64 (n : Int) (n : Int) (by omega) (Int.le_refl _) (by rw [hz2]; omega) (by omega)
    simpa [hz1, Value.cells] using h
  go_enter Tryz.func109, Tryz.ntmps109
  go_wp2
  go_loopw [4] (fun i wr => ∃ k : Nat, k ≤ n ∧ i = .int .i64 k ∧ Below w.heap.size w wr ∧ ∃ lb, HalfD wr w.heap.size n k ss lb) (fun i _ => n - (intOf i).toNat)
  case atStart => exact ⟨0, Nat.zero_le _, rfl, (Below.refl _ _).alloc (Nat.le_refl _) _, fun _ => 0, HalfD.start _ _ _ _ _⟩
  case round =>
    obtain ⟨k, hk, rfl, hbel, lb, hh⟩ := hrel
    by_cases hlt : k < n
    · obtain ⟨b, off, rfl, hb, hc⟩ := hs (by omega)
      obtain ⟨hc0, la, ll, lc, hc1, hll, hsl⟩ := hc k hlt
      have hck0 := (hbel.cell (p := ⟨b, off + k * 2, none⟩) hb).trans hc0
      have hck1 := (hbel.cell (p := ⟨b, off + k * 2 + 1, none⟩) hb).trans hc1
      have hzl : (gl ss k).length = ll := hsl.1
      have hl2 := gl_le ss k (by omega)
      have hsl2 := hsl.below hbel (Nat.le_refl _)
      subst hzl
      go_wp2_with fail
      refine (toSlot_calls (gc ss k) la _ lc (gl ss k) _ (by omega) hsl2).mono ?_
      rintro e w1 ⟨nb, rfl, hlb, hblk, hb1⟩
      have hh1 := hh.below hb1
      obtain ⟨v0, hv0⟩ := hh1.all (k * 2) (by omega)
      obtain ⟨v1, hv1⟩ := hh1.all (k * 2 + 1) (by omega)
      have hf0 := hh1.fz (k * 2)
      have hf1 := hh1.fz (k * 2 + 1)
      have hbw := hbel.trans (hb1.mono hbel.size)
      have hN := hh.lt
      have HH := hide (hh.store hb1 hlt hlb hblk)
      clear hh hh1 hb1 hblk hsl2 hsl hck0 hck1
      go_wp2
      go_roundw
      case rel => exact ⟨k + 1, by omega, by go_num, (hbw.setCell (Nat.le_refl _) _).setCell (Nat.le_refl _) _, _, HH.out⟩
      case measure => simp [intOf]; omega
    · have hkn : k = n := by omega
      subst hkn
      go_wp2
      go_ret
      exact ⟨w.heap.size, rfl, hh.or (Nat.le_refl _) hlen hm, hbel⟩

set_option maxRecDepth 100000 in
theorem toRegistry_O (a : Option Addr) (n cap : Nat) (ss : List (Int × List Int)) (w : World) (hm : n + lenSum ss ≤ 1048576) (hs : Sls w a n ss) :
    Calls Tryz.prog 65 #[.agg #[.slice a n cap]] w fun e w' => ∃ b, e = .returned (.agg #[.slice (some ⟨b, 0, none⟩) n n]) ∧ OR (InR w.heap.size w'.heap.size) (some ⟨b, 0, none⟩) n ss w' ∧ Below w.heap.size w w' := by
  have hb3 := fun o1 o2 o3 => (((Below.refl w.heap.size w).alloc (Nat.le_refl _) o1).alloc (by simp) o2).alloc (by simp; omega) o3
  go_enter Tryz.func65, Tryz.ntmps65
  go_wp2_with fail
  refine (toSlotS_O a n cap ss _ hm (hs.below (hb3 _ _ _) (Nat.le_refl _))).mono ?_
  rintro e w1 ⟨b, rfl, hh, hb⟩
  have hbw : Below w.heap.size w w1 := (hb3 _ _ _).trans (hb.mono (by simp; omega))
  simp only [World.size_alloc] at hh
  have c1 : w1.cell? ⟨w.heap.size + 1, 0, none⟩ = some (.slice none 0 0) := (hb.cell (p := ⟨w.heap.size + 1, 0, none⟩) (by simp)).trans (by go_simp)
  have f1 : w1.frozen? ⟨w.heap.size + 1, 0, none⟩ = false := (hb.frozen (p := ⟨w.heap.size + 1, 0, none⟩) (by simp)).trans (by go_simp)
  have c2 : w1.cell? ⟨w.heap.size + 1 + 1, 0, none⟩ = some (.slice none 0 0) := (hb.cell (p := ⟨w.heap.size + 1 + 1, 0, none⟩) (by simp)).trans (by go_simp)
  have f2 : w1.frozen? ⟨w.heap.size + 1 + 1, 0, none⟩ = false := (hb.frozen (p := ⟨w.heap.size + 1 + 1, 0, none⟩) (by simp)).trans (by go_simp)
  clear hb hb3
  go_wp2
  refine bodyPost_ret (v := .agg #[.slice (some ⟨b, 0, none⟩) n n]) (by simp [results, Tryz.results65, go_sem, c1]) rfl ⟨b, rfl, ?_, (hbw.setCell (by simp; omega) _).setCell (by simp) _⟩
  have hk : ∀ i v (u : World), w.heap.size + 1 ≤ i → i < w.heap.size + 1 + 1 + 1 → OR (InR (w.heap.size + 1 + 1 + 1) w1.heap.size) (some ⟨b, 0, none⟩) n ss u → OR (InR (w.heap.size + 1 + 1 + 1) w1.heap.size) (some ⟨b, 0, none⟩) n ss (u.setCell ⟨i, 0, none⟩ v) := fun i v u h1 h2 h =>
    OR.loc u _ (fun k hk _ => Below.heap_setCell _ _ _ _ (fun e => by have := hk.1; simp at e; omega)) h
  exact (hk _ _ _ (by omega) (by omega) (hk _ _ _ (by omega) (by omega) hh)).mono (fun k hk => ⟨by have := hk.1; omega, by simpa using hk.2⟩)

set_option maxRecDepth 100000 in
theorem markInt64S_O (S : Nat → Prop) (a : Option Addr) (n cap : Nat) (rs : List Int) (m : Int) (w : World) (hm0 : 0 ≤ m) (hm : m ≤ 4194304) (hs : OS S a n rs w) :
    Calls Tryz.prog 41 #[.slice a n cap, .int .i64 m] w fun e w' => e = .returned (.int .i64 (m + n)) ∧ OS S a n (marksFrom m n) w' ∧ OutS S w w' := by
  obtain ⟨hlen, hn, hs⟩ := hs
  rcases hs with rfl | ⟨b, rfl, hB, blk⟩
  · go_enter Tryz.func41, Tryz.ntmps41
    go_wp2
    go_loop [1, 5] (fun k i => k = .int .i64 m ∧ i = .int .i64 0) (fun _ _ => 0)
    case atStart => exact ⟨rfl, rfl⟩
    case round =>
      obtain ⟨rfl, rfl⟩ := hrel
      go_wp2
      go_ret
      exact ⟨ret_int (by simp), ⟨length_marksFrom _ _, by omega, (.inl rfl)⟩, OutS.refl _ _⟩
  · subst hlen
    go_enter Tryz.func41, Tryz.ntmps41
    go_wp2
    go_loopw [1, 5] (fun q i wr => ∃ k : Nat, k ≤ rs.length ∧ q = .int .i64 (m + k) ∧ i = .int .i64 k ∧ MRow wr b rs.length k m ∧ OutS S w wr) (fun _ i _ => rs.length - (intOf i).toNat)
    case atStart => exact ⟨0, Nat.zero_le _, by simp, rfl, MRow.start blk, OutS.refl _ _⟩
    case round =>
      obtain ⟨k, hk, rfl, rfl, hrow, hbut⟩ := hrel
      by_cases hlt : k < rs.length
      · obtain ⟨v, hv⟩ := hrow.2.2.1 k hlt
        have hfz := hrow.2.2.2 k
        go_wp2
        go_roundw
        case rel => exact ⟨k + 1, by omega, by go_num, by go_num, hrow.store hlt, hbut.setCell hB _⟩
        case measure => simp [intOf]; omega
      · have e : k = rs.length := by omega
        subst e
        go_wp2
        go_ret
        exact ⟨rfl, ⟨length_marksFrom _ _, hn, .inr ⟨b, rfl, hB, hrow.done⟩⟩, hbut⟩

set_option maxRecDepth 100000 in
theorem markSlotS_O (S : Nat → Prop) (a : Option Addr) (n cap : Nat) (ss : List (Int × List Int)) (m : Int) (w : World) (hm0 : 0 ≤ m) (hm : m ≤ 1048577) (hs : OR S a n ss w) :
    Calls Tryz.prog 127 #[.slice a n cap, .int .i64 m] w fun e w' => e = .returned (.int .i64 (m + n + lenSum ss)) ∧ OR S a n (mkS m ss) w' ∧ OutS S w w' := by
  have hlen := hs.1
  have hbd := hs.2.1
  by_cases hp : 0 < n
  · obtain ⟨N, la, lc, lb, rfl, hb⟩ := hs.body hp
    clear hs
    go_enter Tryz.func127, Tryz.ntmps127
    go_wp2
    go_loopw [1, 5] (fun q i wr => ∃ k : Nat, k ≤ n ∧ q = .int .i64 (mkC m ss k) ∧ i = .int .i64 k ∧ ORb S N n la lc lb (fun j => if j < k then mkC m ss j else gc ss j) (fun j => if j < k then mkL m ss j else gl ss j) wr ∧ OutS S w wr) (fun _ i _ => n - (intOf i).toNat)
    case atStart => exact ⟨0, Nat.zero_le _, by simp [mkC, lenSum], rfl, hb.congr (fun i _ => by simp) (fun i _ => by simp), OutS.refl _ _⟩
    case round =>
      obtain ⟨k, hk, rfl, rfl, hrow, hbut⟩ := hrel
      by_cases hlt : k < n
      · have kc := mkC_le m ss k
        have kg := mkC_ge m ss k
        have hS := hrow.hS
        have hv := hrow.c0 k hlt
        have hfz := hrow.fz (k * 2)
        have hr1 := hrow.setCount hlt (mkC m ss k)
        have hv1 := hr1.c1 k hlt
        have hos := hr1.os k hlt
        rw [if_neg (by omega)] at hv hv1 hos
        have HR := hide hr1
        have HO := hide (hbut.setCell (p := ⟨N, k * 2, none⟩) hS (.int .i64 (mkC m ss k)))
        have HOS := hide hos
        have Hst := hide (mkC_succ m ss k (by omega))
        clear hrow hr1 hbut hos
        go_wp2_with fail
        refine (markInt64S_O _ (la k) _ (lc k) (gl ss k) _ _ (by omega) (by omega) HOS.out).mono ?_
        rintro e w1 ⟨rfl, hs1, ho1⟩
        have HR2 := hide (HR.out.setLabel hlt (zs := marksFrom (mkC m ss k + 1) (gl ss k).length) (by simp [length_marksFrom]) (by simpa using ho1) (by simpa using hs1))
        have HO2 := hide (HO.out.trans (ho1.mono (fun j hj => hj.1 ▸ HR.out.lS k hlt (by simpa using hj.2))))
        clear hs1 ho1
        go_wp2
        go_roundw
        case rel =>
          refine ⟨k + 1, by omega, by rw [Hst.out], by go_num, HR2.out.congr (fun i hi => ?_) (fun i hi => ?_), HO2.out⟩
          · unfold upd
            by_cases e : i = k
            · subst e; simp
            · rw [if_neg e]
              dsimp only
              by_cases e2 : i < k
              · rw [if_pos e2, if_pos (by omega)]
              · rw [if_neg e2, if_neg (by omega)]
          · unfold upd
            by_cases e : i = k
            · subst e; simp [mkL]
            · rw [if_neg e]
              dsimp only
              by_cases e2 : i < k
              · rw [if_pos e2, if_pos (by omega)]
              · rw [if_neg e2, if_neg (by omega)]
        case measure => simp [intOf]; omega
      · have e : k = n := by omega
        subst e
        have HE : Hid (mkC m ss k = m + k + lenSum ss) := by show _ = _; rw [← hlen]; exact mkC_all m ss
        have HR := hide (ORb.or (ss := mkS m ss) (hrow.congr (fun i hi => by rw [if_pos hi, gc_mkS m ss i (by omega)]) (fun i hi => by rw [if_pos hi, gl_mkS m ss i (by omega)])) (by rw [length_mkS]; exact hlen) (by rw [lenSum_mkS]; exact hbd))
        have HO := hide hbut
        clear hrow hbut
        go_wp2
        go_ret
        exact ⟨ret_int HE.out, HR.out, HO.out⟩
  · have h0 : n = 0 := by omega
    subst h0
    obtain rfl : ss = [] := List.eq_nil_of_length_eq_zero hlen
    go_enter Tryz.func127, Tryz.ntmps127
    go_wp2
    go_loop [1, 5] (fun k i => k = .int .i64 m ∧ i = .int .i64 0) (fun _ _ => 0)
    case atStart => exact ⟨rfl, rfl⟩
    case round =>
      obtain ⟨rfl, rfl⟩ := hrel
      go_wp2
      go_ret
      exact ⟨ret_int (by simp [lenSum]), ⟨rfl, by simp [mkS, lenSum], .inl rfl⟩, OutS.refl _ _⟩

set_option maxRecDepth 100000 in
theorem markRegistry_O (S : Nat → Prop) (a : Option Addr) (n cap : Nat) (ss : List (Int × List Int)) (m : Int) (w : World) (hm0 : 0 ≤ m) (hm : m ≤ 1048577) (hs : OR S a n ss w) :
    Calls Tryz.prog 85 #[.agg #[.slice a n cap], .int .i64 m] w fun e w' => e = .returned (.int .i64 (m + n + lenSum ss)) ∧ OR S a n (mkS m ss) w' ∧ OutS S w w' := by
  go_enter Tryz.func85, Tryz.ntmps85
  go_wp2_with fail
  refine (markSlotS_O S a n cap ss m _ hm0 hm (OR.loc.below ((Below.refl _ _).alloc (Nat.le_refl _) _) hs)).mono ?_
  rintro e w1 ⟨rfl, h1, h2⟩
  go_wp2
  go_ret
  exact ⟨rfl, h1, (OutS.of_below ((Below.refl _ _).alloc (Nat.le_refl _) _)).trans h2⟩

end Go.Proofs.YtgkjmeogdomgmaaGreat
