import Derived.Test.YtgkjmeogdomgmaaGreatG4
import Derived.Test.YtgkjmeogdomgmaaGreatG5
import Derived.Test.YtgkjmeogdomgmaaGreatG2
import Derived.WalkKit
import Derived.ProofKit
import Derived.OpenShut
import Derived.ShutString
import Derived.ChangeOld
import Derived.Below
import Derived.WalkSpells
import Derived.Deep.QuietTactic
import Derived.BigQuiet
import Derived.Deep.RegionWith
import Derived.Deep.WholeRow
import Derived.Deep.DeepCutAuto
import Derived.Deep.RegionHeld2
import Derived.Deep.AppendLies
import Derived.Deep.RegionLaw
namespace Go.Proofs.YtgkjmeogdomgmaaGreat
open Go.ChangeShapes Go.WideShapes Go.ChangeAt Go.RowKit

def atC (ss : List (Int × List Int)) (p : Int) : Int := if p < 0 ∨ (ss.length : Int) ≤ p then 3 else if gc ss p.toNat = 0 then 4 else 0

def atL (ss : List (Int × List Int)) (p : Int) : List Int := if atC ss p = 0 then gl ss p.toNat else []

theorem atC_range {ss : List (Int × List Int)} {p : Int} (h : p < 0 ∨ (ss.length : Int) ≤ p) : atC ss p = 3 := if_pos h

theorem atC_in {ss : List (Int × List Int)} {j : Nat} (h : j < ss.length) : atC ss (j : Int) = if gc ss j = 0 then 4 else 0 := by
  unfold atC
  rw [if_neg (by omega)]
  rfl

theorem atL_no {ss : List (Int × List Int)} {p : Int} (h : atC ss p ≠ 0) : atL ss p = [] := if_neg h

theorem atL_yes {ss : List (Int × List Int)} {j : Nat} (h : atC ss (j : Int) = 0) : atL ss (j : Int) = gl ss j := if_pos h

theorem Bk.keep {w w' : World} {P M n : Nat} {sz : Int} {D : DataW Unit} (h : Bk w P M sz n D) {r : Nat} (hg : w.grownBy w' (some r)) (h1 : P ≠ r) (h2 : M ≠ r) : Bk w' P M sz n D := by
  have e := hg.block P h.lt (fun e => h1 (by injection e))
  exact ⟨by have := hg.size; have := h.lt; omega, (World.cell?_of_block (a := ⟨P, 0, none⟩) e).trans h.c0, (World.cell?_of_block (a := ⟨P, 1, none⟩) e).trans h.c1, fun j => (World.frozen?_of_block (a := ⟨P, j, none⟩) e).trans (h.f j), h.own.kept hg (fun e => h2 (by injection e))⟩

theorem bel_grown {B r : Nat} {a w w' : World} (h : Below B a w) (hg : w.grownBy w' (some r)) (hr : B ≤ r) (hB : B ≤ w.heap.size) : Below B a w' := h.trans ⟨hg.os, hg.tape, hg.output, hg.size, fun k hk => hg.block k (by omega) (fun e => by injection e; omega)⟩

theorem bel_grown0 {B : Nat} {a w w' : World} (h : Below B a w) (hg : w.grownBy w' none) (hB : B ≤ w.heap.size) : Below B a w' := h.trans ⟨hg.os, hg.tape, hg.output, hg.size, fun k hk => hg.block k (by omega) (fun e => by cases e)⟩

set_option maxRecDepth 100000 in
theorem markAt_calls (P M n : Nat) (p : Int) (ss : List (Int × List Int)) (D : DataW Unit) (w : World) (hb : Bk w P M (ss.length : Int) n D) (good : Good ss) (rep : Rep ss D) :
    Calls Tryz.prog 187 #[.pointer (some ⟨P, 0, none⟩), .int .i64 p] w fun e w' => e = .returned (.tuple #[.agg (ints4 (atL ss p)), .int .i64 (atC ss p)]) ∧ Below w.heap.size w w' := by
  have c0 := hb.c0
  have c1 := hb.c1
  have hlt := hb.lt
  have few := good.few
  by_cases hr : p < 0 ∨ (ss.length : Int) ≤ p
  · have HC := hide (atC_range hr)
    have HL := hide (atL_no (ss := ss) (p := p) (by rw [HC.out]; decide))
    by_cases h0 : p < 0
    · go_enter Tryz.func187, Tryz.ntmps187
      go_wp2
      refine bodyPost_ret (v := .tuple #[.agg #[.int .i64 0, .int .i64 0, .int .i64 0, .int .i64 0], .int .i64 3]) (by simp [results, Tryz.results187, go_sem]) rfl ⟨by rw [HC.out, HL.out]; rfl, ?_⟩
      exact (Below.refl _ _).alloc (Nat.le_refl _) _
    · have h1 : (ss.length : Int) ≤ p := by omega
      go_enter Tryz.func187, Tryz.ntmps187
      go_wp2
      refine bodyPost_ret (v := .tuple #[.agg #[.int .i64 0, .int .i64 0, .int .i64 0, .int .i64 0], .int .i64 3]) (by simp [results, Tryz.results187, go_sem]) rfl ⟨by rw [HC.out, HL.out]; rfl, ?_⟩
      exact (Below.refl _ _).alloc (Nat.le_refl _) _
  · obtain ⟨q, rfl⟩ : ∃ q : Nat, p = (q : Int) := ⟨p.toNat, by omega⟩
    have hq : q < ss.length := by omega
    have hn0 : ¬ ((q : Int) < 0) := by omega
    have hn1 : ¬ ((ss.length : Int) ≤ (q : Int)) := by omega
    have own := hb.own
    clear hr
    go_enter Tryz.func187, Tryz.ntmps187
    go_wp2_with (first
      | (at_range; refine wpList_range_own _ rfl _ 172 rfl 239 247 lawK Tryz.underlying172 _ M n _ rfl (own.alloc _) ?_; intro w0 hrg0 hg0 hs0)
      | go_in)
    try go_frame
    have hz0 : (w.alloc (.cells #[.int .i64 0, .int .i64 0, .int .i64 0, .int .i64 0] 239)).heap.size = w.heap.size + 1 := by simp
    rw [hz0] at hrg0 hs0
    try rw [hz0]
    have b0 : Below w.heap.size w w0 := bel_grown0 ((Below.refl _ _).alloc (Nat.le_refl _) _) hg0 (by simp)
    have e0 := hg0.block w.heap.size (by simp) (by simp)
    have z4 : ∀ i v, (w.alloc (.cells #[.int .i64 0, .int .i64 0, .int .i64 0, .int .i64 0] 239)).cell? ⟨w.heap.size, i, none⟩ = some v → w0.cell? ⟨w.heap.size, i, none⟩ = some v := fun i v h => (World.cell?_of_block (a := ⟨w.heap.size, i, none⟩) e0).trans h
    have zf : ∀ i, w0.frozen? ⟨w.heap.size, i, none⟩ = false := fun i => (World.frozen?_of_block (a := ⟨w.heap.size, i, none⟩) e0).trans (by go_simp)
    have y0 := z4 0 (.int .i64 0) (by go_simp)
    have y1 := z4 1 (.int .i64 0) (by go_simp)
    have y2 := z4 2 (.int .i64 0) (by go_simp)
    have y3 := z4 3 (.int .i64 0) (by go_simp)
    have HB0 := hide b0
    have HR0 := hide (RngB.start rep hrg0)
    have HZF := hide zf
    have HZ : Hid (w0.heap.size = w.heap.size + 1 + 1) := hs0
    clear hrg0 hg0 hs0 hz0 z4 zf e0 b0
    go_loopw [24] (fun _ wr => ∃ (L : Nat → Bool) (cnt : Nat), RngB wr M (w.heap.size + 1) n ss D L cnt ∧ (∀ j, j < ss.length → 0 < gc ss j → L j = false → j ≠ q) ∧ Below w.heap.size w wr ∧ w.heap.size + 1 < wr.heap.size ∧
        (wr.cell? ⟨w.heap.size, 0, none⟩ = some (.int .i64 0) ∧ wr.cell? ⟨w.heap.size, 1, none⟩ = some (.int .i64 0) ∧ wr.cell? ⟨w.heap.size, 2, none⟩ = some (.int .i64 0) ∧ wr.cell? ⟨w.heap.size, 3, none⟩ = some (.int .i64 0)) ∧ ∀ i, wr.frozen? ⟨w.heap.size, i, none⟩ = false)
      (fun _ wr => wr.rangeLeft M (w.heap.size + 1))
    case atStart => exact ⟨_, _, HR0.out, fun j _ _ h => (by cases h), HB0.out, by have := HZ.out; omega, ⟨y0, y1, y2, y3⟩, HZF.out⟩
    case round =>
      clear y0 y1 y2 y3
      obtain ⟨L, cnt, hrg, hno, hbel, hsz, ⟨y0, y1, y2, y3⟩, hfz⟩ := hrel
      have f0 := hfz 0
      have f1 := hfz 1
      have f2 := hfz 2
      have f3 := hfz 3
      have HNO := hide hno
      clear hno
      go_wp2_with (first
        | (at_next; refine next_book _ rfl _ rfl M (w.heap.size + 1) n good rep rfl hrg ?_ ?_)
        | go_in)
      · intro hc0 hl0
        have HC : Hid (atC ss (q : Int) = 4) := by
          show atC ss (q : Int) = 4
          rw [atC_in hq]
          by_cases h0 : gc ss q = 0
          · rw [if_pos h0]
          · exact absurd rfl (HNO.out q hq (by have := good.low q hq; omega) (hl0 q hq (by have := good.low q hq; omega)))
        have HL := hide (atL_no (ss := ss) (p := (q : Int)) (by rw [HC.out]; decide))
        have HE := hide hbel
        clear hl0 hbel
        go_wp2
        refine bodyPost_ret (v := .tuple #[.agg #[.int .i64 0, .int .i64 0, .int .i64 0, .int .i64 0], .int .i64 4]) (by simp [results, Tryz.results187, go_sem, y0, y1, y2, y3]) rfl ⟨by rw [HC.out, HL.out]; rfl, ?_⟩
        exact (((HE.out.setCell (Nat.le_refl _) _).setCell (Nat.le_refl _) _).setCell (Nat.le_refl _) _).setCell (Nat.le_refl _) _
      · intro j hj hp hLj w1 cnt1 hrg1 hlt1 hg1 hs1 hen
        have hr1 : M ≠ w.heap.size + 1 := hrg.ne.symm
        have e1 := hg1.block w.heap.size (by omega) (by simp)
        have v0 := (World.cell?_of_block (a := ⟨w.heap.size, 0, none⟩) e1).trans y0
        have v1 := (World.cell?_of_block (a := ⟨w.heap.size, 1, none⟩) e1).trans y1
        have v2 := (World.cell?_of_block (a := ⟨w.heap.size, 2, none⟩) e1).trans y2
        have v3 := (World.cell?_of_block (a := ⟨w.heap.size, 3, none⟩) e1).trans y3
        have g0 := (World.frozen?_of_block (a := ⟨w.heap.size, 0, none⟩) e1).trans f0
        have g1 := (World.frozen?_of_block (a := ⟨w.heap.size, 1, none⟩) e1).trans f1
        have g2 := (World.frozen?_of_block (a := ⟨w.heap.size, 2, none⟩) e1).trans f2
        have g3 := (World.frozen?_of_block (a := ⟨w.heap.size, 3, none⟩) e1).trans f3
        have HG : Hid (∀ i, w1.frozen? ⟨w.heap.size, i, none⟩ = false) := fun i => (World.frozen?_of_block (a := ⟨w.heap.size, i, none⟩) e1).trans (hfz i)
        have HB1 := hide (bel_grown hbel hg1 (by omega) hbel.size)
        have HR1 := hide hrg1
        have hz1 : w.heap.size + 1 < w1.heap.size := by omega
        have HLT := hide hlt1
        have HRG := hide hrg
        clear hrg1 hg1 hfz y0 y1 y2 y3 f0 f1 f2 f3 hbel hlt1 hrg
        by_cases he : j = q
        · subst he
          have ej : ((j : Int) == (j : Int)) = true := by simp
          have HC : Hid (atC ss (j : Int) = 0) := by show atC ss (j : Int) = 0; rw [atC_in hq, if_neg (by omega)]
          have HL := hide (atL_yes HC.out)
          have HX := hide ((HB1.out.alloc HB1.out.size (.cells #[.int .i64 (gt (gl ss j) 0), .int .i64 (gt (gl ss j) 1), .int .i64 (gt (gl ss j) 2), .int .i64 (gt (gl ss j) 3)] 239)).alloc (by have := HB1.out.size; simp; omega) (.cells #[.int .i64 (j : Int), .int .i64 (gc ss j)] 247))
          have al : Below w1.heap.size w1 ((w1.alloc (.cells #[.int .i64 (gt (gl ss j) 0), .int .i64 (gt (gl ss j) 1), .int .i64 (gt (gl ss j) 2), .int .i64 (gt (gl ss j) 3)] 239)).alloc (.cells #[.int .i64 (j : Int), .int .i64 (gc ss j)] 247)) := ((Below.refl _ _).alloc (Nat.le_refl _) _).alloc (by simp) _
          have r0 := (al.cell (p := ⟨w.heap.size, 0, none⟩) (by show w.heap.size < _; omega)).trans v0
          have r1 := (al.cell (p := ⟨w.heap.size, 1, none⟩) (by show w.heap.size < _; omega)).trans v1
          have r2 := (al.cell (p := ⟨w.heap.size, 2, none⟩) (by show w.heap.size < _; omega)).trans v2
          have r3 := (al.cell (p := ⟨w.heap.size, 3, none⟩) (by show w.heap.size < _; omega)).trans v3
          have q0 := (al.frozen (p := ⟨w.heap.size, 0, none⟩) (by show w.heap.size < _; omega)).trans g0
          have q1 := (al.frozen (p := ⟨w.heap.size, 1, none⟩) (by show w.heap.size < _; omega)).trans g1
          have q2 := (al.frozen (p := ⟨w.heap.size, 2, none⟩) (by show w.heap.size < _; omega)).trans g2
          have q3 := (al.frozen (p := ⟨w.heap.size, 3, none⟩) (by show w.heap.size < _; omega)).trans g3
          clear v0 v1 v2 v3 g0 g1 g2 g3 al
          go_wp2
          refine bodyPost_ret (v := .tuple #[.agg #[.int .i64 (gt (gl ss j) 0), .int .i64 (gt (gl ss j) 1), .int .i64 (gt (gl ss j) 2), .int .i64 (gt (gl ss j) 3)], .int .i64 0]) (by simp [results, Tryz.results187, go_sem, r0, r1, r2, r3]) rfl ⟨by rw [HC.out, HL.out]; rfl, ?_⟩
          exact (((HX.out.setCell (Nat.le_refl _) _).setCell (Nat.le_refl _) _).setCell (Nat.le_refl _) _).setCell (Nat.le_refl _) _
        · have ej : ((j : Int) == (q : Int)) = false := by simp; omega
          go_wp2
          go_roundw
          case rel =>
            have al : Below w1.heap.size w1 ((w1.alloc (.cells #[.int .i64 (gt (gl ss j) 0), .int .i64 (gt (gl ss j) 1), .int .i64 (gt (gl ss j) 2), .int .i64 (gt (gl ss j) 3)] 239)).alloc (.cells #[.int .i64 (j : Int), .int .i64 (gc ss j)] 247)) := ((Below.refl _ _).alloc (Nat.le_refl _) _).alloc (by simp) _
            refine ⟨_, cnt1, HR1.out.below al, fun i hi hpi hLi => ?_, HB1.out.trans (al.mono HB1.out.size), by have := al.size; omega, ⟨(al.cell (p := ⟨w.heap.size, 0, none⟩) (by show w.heap.size < _; omega)).trans v0, (al.cell (p := ⟨w.heap.size, 1, none⟩) (by show w.heap.size < _; omega)).trans v1, (al.cell (p := ⟨w.heap.size, 2, none⟩) (by show w.heap.size < _; omega)).trans v2, (al.cell (p := ⟨w.heap.size, 3, none⟩) (by show w.heap.size < _; omega)).trans v3⟩, fun i => (al.frozen (p := ⟨w.heap.size, i, none⟩) (by show w.heap.size < _; omega)).trans (HG.out i)⟩
            by_cases e : i = j
            · omega
            · exact HNO.out i hi hpi (by simpa [e] using hLi)
          case measure =>
            have al : Below w1.heap.size w1 ((w1.alloc (.cells #[.int .i64 (gt (gl ss j) 0), .int .i64 (gt (gl ss j) 1), .int .i64 (gt (gl ss j) 2), .int .i64 (gt (gl ss j) 3)] 239)).alloc (.cells #[.int .i64 (j : Int), .int .i64 (gc ss j)] 247)) := ((Below.refl _ _).alloc (Nat.le_refl _) _).alloc (by simp) _
            rw [(HR1.out.below al).left_eq, HRG.out.left_eq]
            exact HLT.out

set_option maxRecDepth 100000 in
theorem labelAt_calls (P M n : Nat) (p : Int) (ss : List (Int × List Int)) (D : DataW Unit) (w : World) (hb : Bk w P M (ss.length : Int) n D) (good : Good ss) (rep : Rep ss D) :
    Calls Tryz.prog 171 #[.pointer (some ⟨P, 0, none⟩), .int .i64 p] w fun e w' => ∃ ra rn rc, e = .returned (.agg #[.int .i64 (atC ss p), .slice ra rn rc]) ∧ OS (InR w.heap.size w'.heap.size) ra rn (atL ss p) w' ∧ Below w.heap.size w w' := by
  have M0 := (Mm.start w).alloc2 (.int .i64 0) (.slice none 0 0) 188
  have hb0 := hb.below ((Below.refl w.heap.size w).alloc (Nat.le_refl _) (.cells #[.int .i64 0, .slice none 0 0] 188))
  by_cases hc : atC ss p = 0
  · have ec : (atC ss p != 0) = false := by simp [hc]
    have hl4 : (atL ss p).length = 4 := by
      unfold atL
      rw [if_pos hc]
      unfold atC at hc
      split at hc
      · cases hc
      · split at hc
        · cases hc
        · rename_i h1 h2
          exact fault_len (good.right _ (by omega) (by have := good.low p.toNat (by omega); omega))
    go_enter Tryz.func171, Tryz.ntmps171
    go_wp2_with fail
    refine (markAt_calls P M n p ss D _ hb0 good rep).mono ?_
    rintro e w1 ⟨rfl, g1⟩
    have M1 := (M0.below g1).alloc4 (.int .i64 (gt (atL ss p) 0)) (.int .i64 (gt (atL ss p) 1)) (.int .i64 (gt (atL ss p) 2)) (.int .i64 (gt (atL ss p) 3)) 239
    have HM1 := hide M1
    clear g1 M0 hb0 M1
    unfold ints4
    go_wp2_with fail
    refine (labelOf_calls _ _ _ _ _).mono ?_
    rintro e w2 ⟨b, rfl, hbN, blk, g2⟩
    have M2 := HM1.out.below g2
    have c0 := M2.cell 4 rfl
    have c1 := M2.cell 5 rfl
    have f0 := M2.fz 4 rfl
    have f1 := M2.fz 5 rfl
    have hlt := M2.lt 4 rfl
    have hW := HM1.out.lt 4 rfl
    have HB := hide M2.bel
    have HK := hide blk
    rw [← list4 hl4] at blk
    have HK := hide blk
    clear M2 g2 blk
    go_wp2
    refine bodyPost_ret (v := .agg #[.int .i64 0, .slice (some ⟨b, 0, none⟩) 4 4]) (by simp [results, Tryz.results171, go_sem, c0, c1]) rfl ⟨_, 4, 4, by rw [hc], OS.ofBlk ((HK.out.setCell (by show w.heap.size ≠ b; omega) _).setCell (by show w.heap.size ≠ b; omega) _) ⟨by omega, by have := HK.out.1; simpa using this⟩ hl4 (by omega), (HB.out.setCell (Nat.le_refl _) _).setCell (Nat.le_refl _) _⟩
  · have ec : (atC ss p != 0) = true := by simp [hc]
    have HL := hide (atL_no hc)
    go_enter Tryz.func171, Tryz.ntmps171
    go_wp2_with fail
    refine (markAt_calls P M n p ss D _ hb0 good rep).mono ?_
    rintro e w1 ⟨rfl, g1⟩
    have M1 := (M0.below g1).alloc4 (.int .i64 (gt (atL ss p) 0)) (.int .i64 (gt (atL ss p) 1)) (.int .i64 (gt (atL ss p) 2)) (.int .i64 (gt (atL ss p) 3)) 239
    have c0 := M1.cell 4 rfl
    have c1 := M1.cell 5 rfl
    have f0 := M1.fz 4 rfl
    have f1 := M1.fz 5 rfl
    have HB := hide M1.bel
    clear g1 M0 hb0 M1
    unfold ints4
    go_wp2
    refine bodyPost_ret (v := .agg #[.int .i64 (atC ss p), .slice none 0 0]) (by simp [results, Tryz.results171, go_sem, c0, c1]) rfl ⟨_, 0, 0, rfl, ⟨by rw [HL.out]; rfl, by omega, .inl rfl⟩, (HB.out.setCell (Nat.le_refl _) _).setCell (Nat.le_refl _) _⟩

set_option maxRecDepth 100000 in
theorem hasLevel_calls (a : Option Addr) (len cap : Nat) (zs : List Int) (x : Int) (w : World) (hl : len ≤ maxLen) (hs : Sl w a len zs) :
    Calls Tryz.prog 186 #[.agg #[.slice a len cap], .int .i64 x] w fun e w' => e = .returned (.bool (has zs x)) ∧ Below w.heap.size w w' := by
  unfold maxLen at hl
  obtain ⟨hlen, hs⟩ := hs
  go_enter Tryz.func186, Tryz.ntmps186
  go_wp2
  go_loop [10] (fun i => ∃ k : Nat, k ≤ len ∧ i = .int .i64 k ∧ ∀ j, j < k → gt zs j ≠ x) (fun i => len - (intOf i).toNat)
  case atStart => exact ⟨0, Nat.zero_le _, rfl, fun j hj => by omega⟩
  case round =>
    obtain ⟨k, hk, rfl, hall⟩ := hrel
    have Hall : Hid (∀ j, j < k → gt zs j ≠ x) := hall
    clear hall
    by_cases hlt : k < len
    · obtain ⟨b, off, rfl, hb, hc⟩ := hs (by omega)
      have hck := hc k hlt
      by_cases he : gt zs k = x
      · have hq : (gt zs k == x) = true := by simp [he]
        have He := hide he
        clear he
        go_wp2
        go_ret
        exact ⟨ret_bool (has_yes (k := k) (by omega) He.out).symm, (Below.refl _ _).alloc (Nat.le_refl _) _⟩
      · have hq : (gt zs k == x) = false := by simp [he]
        have He := hide he
        clear he
        go_wp2
        go_round
        case rel => exact ⟨k + 1, by omega, by go_num, fun j hj => by (by_cases e : j = k); (subst e; exact He.out); exact Hall.out j (by omega)⟩
        case measure => simp [intOf]; omega
    · go_wp2
      go_ret
      exact ⟨ret_bool (has_no (fun j hj => Hall.out j (by omega))).symm, (Below.refl _ _).alloc (Nat.le_refl _) _⟩

def thingB (zs : List Int) : Bool := (fault zs == 0) && !has zs 0 && !has zs 5

set_option maxRecDepth 100000 in
theorem isThing_calls (a : Option Addr) (len cap : Nat) (zs : List Int) (w : World) (hl : len ≤ maxLen) (hs : Sl w a len zs) :
    Calls Tryz.prog 175 #[.agg #[.slice a len cap]] w fun e w' => e = .returned (.bool (thingB zs)) ∧ Below w.heap.size w w' := by
  have M0 := (Mem.start w).alloc1 (.slice a len cap) 112
  have hb0 := M0.bel
  unfold thingB
  cases hf : (fault zs == 0) with
  | true =>
    go_enter Tryz.func175, Tryz.ntmps175
    go_wp2_with fail
    refine (implLabelFault_calls a len cap zs _ hl (hs.below hb0 (Nat.le_refl _))).mono ?_
    rintro e w1 ⟨rfl, hb⟩
    have M1 := M0.below hb
    have c1 := M1.cell 0 rfl
    clear hb M0 hb0
    go_wp2_with fail
    refine (hasLevel_calls a len cap zs 0 _ hl (hs.below M1.bel (Nat.le_refl _))).mono ?_
    rintro e w2 ⟨rfl, hb2⟩
    have M2 := M1.below hb2
    have c2 := M2.cell 0 rfl
    clear hb2 M1 c1
    cases h0 : has zs 0 with
    | true =>
      go_wp2
      go_ret
      exact ⟨ret_bool (by rw [h0]; rfl), M2.bel⟩
    | false =>
      go_wp2_with fail
      refine (hasLevel_calls a len cap zs 5 _ hl (hs.below M2.bel (Nat.le_refl _))).mono ?_
      rintro e w3 ⟨rfl, hb3⟩
      have M3 := M2.below hb3
      go_wp2
      go_ret
      exact ⟨ret_bool (by rw [h0]; simp), M3.bel⟩
  | false =>
    go_enter Tryz.func175, Tryz.ntmps175
    go_wp2_with fail
    refine (implLabelFault_calls a len cap zs _ hl (hs.below hb0 (Nat.le_refl _))).mono ?_
    rintro e w1 ⟨rfl, hb⟩
    have M1 := M0.below hb
    go_wp2
    go_ret
    exact ⟨rfl, M1.bel⟩

def thing0 (zs : List Int) : Bool := !has zs 0 && !has zs 5

theorem thing0_no {zs : List Int} {k : Nat} (hk : k < zs.length) (h : gt zs k = 0 ∨ gt zs k = 5) : thing0 zs = false := by
  unfold thing0
  rcases h with h | h
  · rw [has_yes hk h]; rfl
  · rw [has_yes hk h]; simp

theorem thing0_yes {zs : List Int} (h : ∀ j, j < zs.length → gt zs j ≠ 0 ∧ gt zs j ≠ 5) : thing0 zs = true := by
  unfold thing0
  rw [has_no (fun j hj => (h j hj).1), has_no (fun j hj => (h j hj).2)]; rfl

def okS (ss : List (Int × List Int)) (s : Int) : Bool := decide (atC ss s = 0)

def allS (ss : List (Int × List Int)) (l : List Int) : Bool := l.all (okS ss)

def labs (ss : List (Int × List Int)) (l : List Int) : List (List Int) := l.map (atL ss)

def thingsB (ls : List (List Int)) : Bool := ls.all thingB

def lowB (zs : List Int) : Bool := !has zs 5

def lowsB (ls : List (List Int)) : Bool := ls.all lowB

/-- how often a slot is meant. -/
def cnt (l : List Int) (i : Nat) : Int := ((l.filter (fun s => s == (i : Int))).length : Int)

def cntB (ss : List (Int × List Int)) (ts ds : List Int) : Bool := (List.range ss.length).all (fun i => decide (gc ss i = cnt ts i + cnt ds i))

def ledF (ss : List (Int × List Int)) (ts ds : List Int) : Int :=
  if (allS ss ts && allS ss ds) = true then (if (thingsB (labs ss ts) && lowsB (labs ss ds)) = true then (if cntB ss ts ds = true then 0 else 8) else 1) else 4

def manyB (ts ds : List Int) : Bool := decide (6 < ts.length) || decide (4 < ds.length)

def tabF (ss : List (Int × List Int)) (ts ds : List Int) : Int := if faultR ss = 0 then (if manyB ts ds = true then 2 else ledF ss ts ds) else faultR ss

/-- a slice of labels that reads as ls. -/
def Lbs (w : World) (a : Option Addr) (n : Nat) (ls : List (List Int)) : Prop :=
  ls.length = n ∧ (0 < n → ∃ b off, a = some ⟨b, off, none⟩ ∧ b < w.heap.size ∧ ∀ i, i < n → ∃ la ll lc, w.cell? ⟨b, off + i, none⟩ = some (.slice la ll lc) ∧ ll ≤ maxLen ∧ Sl w la ll (ls.getD i []))

theorem Lbs.below {w w' : World} {a : Option Addr} {n : Nat} {ls : List (List Int)} (h : Lbs w a n ls) {B : Nat} (hb : Below B w w') (hB : w.heap.size ≤ B) : Lbs w' a n ls := by
  obtain ⟨h1, h2⟩ := h
  refine ⟨h1, fun hp => ?_⟩
  obtain ⟨b, off, h3, h4, h5⟩ := h2 hp
  refine ⟨b, off, h3, by have := hb.size; omega, fun i hi => ?_⟩
  obtain ⟨la, ll, lc, h6, h7, h8⟩ := h5 i hi
  exact ⟨la, ll, lc, (hb.cell (p := ⟨b, off + i, none⟩) (by show b < B; omega)).trans h6, h7, h8.below hb hB⟩

theorem all_pre {α : Type} {f : α → Bool} {l : List α} {d : α} (h : ∀ j, j < l.length → f (l.getD j d) = true) : l.all f = true := by
  rw [List.all_eq_true]
  intro x hx
  obtain ⟨j, hj, rfl⟩ := List.getElem_of_mem hx
  have := h j hj
  simpa [hj] using this

theorem all_hit {α : Type} {f : α → Bool} {l : List α} {d : α} {j : Nat} (hj : j < l.length) (h : f (l.getD j d) = false) : l.all f = false := by
  rw [List.all_eq_false]
  exact ⟨l[j], List.getElem_mem hj, by simpa [hj] using h⟩

theorem all_get {α : Type} {f : α → Bool} {l : List α} {d : α} (h : l.all f = true) {j : Nat} (hj : j < l.length) : f (l.getD j d) = true := by
  have := List.all_eq_true.1 h l[j] (List.getElem_mem hj)
  simpa [hj] using this

theorem getD_labs (ss : List (Int × List Int)) (l : List Int) (j : Nat) (h : j < l.length) : (labs ss l).getD j [] = atL ss (gt l j) := by simp [labs, gt, h]

theorem atL_len {ss : List (Int × List Int)} (good : Good ss) (p : Int) : (atL ss p).length ≤ 4 := by
  unfold atL
  split
  · rename_i hc
    unfold atC at hc
    split at hc
    · cases hc
    · split at hc
      · cases hc
      · rename_i h1 h2
        exact Nat.le_of_eq (fault_len (good.right _ (by omega) (by have := good.low p.toNat (by omega); omega)))
  · simp

end Go.Proofs.YtgkjmeogdomgmaaGreat
