import Derived.Test.YtnlkigjgloeonaaGreatRep
import Derived.Test.YtnlkigjgloeonaaGreatLevels
import Derived.WalkKit
import Derived.ProofKit
import Derived.OpenShut
import Derived.ShutString
import Derived.ChangeOld
import Derived.Below
import Derived.WalkSpells
import Derived.Deep.QuietTactic
import Derived.BigQuiet
import Derived.Deep.RegionWith
import Derived.Deep.WholeRow
import Derived.Deep.DeepCutAuto
import Derived.Deep.RegionHeld2
import Derived.Deep.AppendLies
import Derived.Deep.RegionLaw
namespace Go.Proofs.YtnlkigjgloeonaaGreat
open Go.ChangeShapes Go.WideShapes Go.ChangeAt Go.RowKit

def atC (ss : List (Int × List Int)) (p : Int) : Int := if p < 0 ∨ (ss.length : Int) ≤ p then 3 else if gc ss p.toNat = 0 then 4 else 0

def atL (ss : List (Int × List Int)) (p : Int) : List Int := if atC ss p = 0 then gl ss p.toNat else []

theorem atC_range {ss : List (Int × List Int)} {p : Int} (h : p < 0 ∨ (ss.length : Int) ≤ p) : atC ss p = 3 := if_pos h

theorem atC_in {ss : List (Int × List Int)} {j : Nat} (h : j < ss.length) : atC ss (j : Int) = if gc ss j = 0 then 4 else 0 := by
  unfold atC
  rw [if_neg (by omega)]
  rfl

theorem atL_no {ss : List (Int × List Int)} {p : Int} (h : atC ss p ≠ 0) : atL ss p = [] := if_neg h

theorem atL_yes {ss : List (Int × List Int)} {j : Nat} (h : atC ss (j : Int) = 0) : atL ss (j : Int) = gl ss j := if_pos h

theorem Bk.keep {w w' : World} {P M n : Nat} {sz : Int} {D : DataW Unit} (h : Bk w P M sz n D) {r : Nat} (hg : w.grownBy w' (some r)) (h1 : P ≠ r) (h2 : M ≠ r) : Bk w' P M sz n D := by
  have e := hg.block P h.lt (fun e => h1 (by injection e))
  exact ⟨by have := hg.size; have := h.lt; omega, (World.cell?_of_block (a := ⟨P, 0, none⟩) e).trans h.c0, (World.cell?_of_block (a := ⟨P, 1, none⟩) e).trans h.c1, fun j => (World.frozen?_of_block (a := ⟨P, j, none⟩) e).trans (h.f j), h.own.kept hg (fun e => h2 (by injection e))⟩

theorem bel_grown {B r : Nat} {a w w' : World} (h : Below B a w) (hg : w.grownBy w' (some r)) (hr : B ≤ r) (hB : B ≤ w.heap.size) : Below B a w' := h.trans ⟨hg.os, hg.tape, hg.output, hg.size, fun k hk => hg.block k (by omega) (fun e => by injection e; omega)⟩

theorem bel_grown0 {B : Nat} {a w w' : World} (h : Below B a w) (hg : w.grownBy w' none) (hB : B ≤ w.heap.size) : Below B a w' := h.trans ⟨hg.os, hg.tape, hg.output, hg.size, fun k hk => hg.block k (by omega) (fun e => by cases e)⟩

theorem setZ4 (w : World) (t : TypeId) (x0 x1 x2 x3 y0 y1 y2 y3 : Value) :
    ((((w.alloc (.cells #[x0, x1, x2, x3] t)).setCell ⟨w.heap.size, 0, none⟩ y0).setCell ⟨w.heap.size, 1, none⟩ y1).setCell ⟨w.heap.size, 2, none⟩ y2).setCell ⟨w.heap.size, 3, none⟩ y3 = w.alloc (.cells #[y0, y1, y2, y3] t) := by
  go_simp

set_option maxRecDepth 100000 in
theorem markAt_calls (P M n : Nat) (p : Int) (ss : List (Int × List Int)) (D : DataW Unit) (w : World) (hb : Bk w P M (ss.length : Int) n D) (good : Good ss) (rep : Rep ss D) :
    Calls Tryz.prog 154 #[.pointer (some ⟨P, 0, none⟩), .int .i64 p] w fun e w' => e = .returned (.tuple #[.agg (ints4 (atL ss p)), .int .i64 (atC ss p)]) ∧ Below w.heap.size w w' := by
  have c0 := hb.c0
  have c1 := hb.c1
  have hlt := hb.lt
  have few := good.few
  by_cases hr : p < 0 ∨ (ss.length : Int) ≤ p
  · have HC := hide (atC_range hr)
    have HL := hide (atL_no (ss := ss) (p := p) (by rw [HC.out]; decide))
    by_cases h0 : p < 0
    · go_enter Tryz.func154, Tryz.ntmps154
      go_wp2
      refine bodyPost_ret (v := .tuple #[.agg #[.int .i64 0, .int .i64 0, .int .i64 0, .int .i64 0], .int .i64 3]) (by simp [results, Tryz.results154, go_sem]) rfl ⟨by rw [HC.out, HL.out]; rfl, ?_⟩
      exact (Below.refl _ _).alloc (Nat.le_refl _) _
    · have h1 : (ss.length : Int) ≤ p := by omega
      go_enter Tryz.func154, Tryz.ntmps154
      go_wp2
      refine bodyPost_ret (v := .tuple #[.agg #[.int .i64 0, .int .i64 0, .int .i64 0, .int .i64 0], .int .i64 3]) (by simp [results, Tryz.results154, go_sem]) rfl ⟨by rw [HC.out, HL.out]; rfl, ?_⟩
      exact (Below.refl _ _).alloc (Nat.le_refl _) _
  · obtain ⟨q, rfl⟩ : ∃ q : Nat, p = (q : Int) := ⟨p.toNat, by omega⟩
    have hq : q < ss.length := by omega
    have hn0 : ¬ ((q : Int) < 0) := by omega
    have hn1 : ¬ ((ss.length : Int) ≤ (q : Int)) := by omega
    have own := hb.own
    clear hr
    go_enter Tryz.func154, Tryz.ntmps154
    go_wp2_with (first
      | (at_range; refine wpList_range_own _ rfl _ 150 rfl 232 241 lawK Tryz.underlying150 _ M n _ rfl (own.alloc _) ?_; intro w0 hrg0 hg0 hs0)
      | go_in)
    try go_frame
    have hz0 : (w.alloc (.cells #[.int .i64 0, .int .i64 0, .int .i64 0, .int .i64 0] 232)).heap.size = w.heap.size + 1 := by simp
    rw [hz0] at hrg0 hs0
    try rw [hz0]
    have b0 : Below w.heap.size w w0 := bel_grown0 ((Below.refl _ _).alloc (Nat.le_refl _) _) hg0 (by simp)
    have e0 := hg0.block w.heap.size (by simp) (by simp)
    have z4 : ∀ i v, (w.alloc (.cells #[.int .i64 0, .int .i64 0, .int .i64 0, .int .i64 0] 232)).cell? ⟨w.heap.size, i, none⟩ = some v → w0.cell? ⟨w.heap.size, i, none⟩ = some v := fun i v h => (World.cell?_of_block (a := ⟨w.heap.size, i, none⟩) e0).trans h
    have zf : ∀ i, w0.frozen? ⟨w.heap.size, i, none⟩ = false := fun i => (World.frozen?_of_block (a := ⟨w.heap.size, i, none⟩) e0).trans (by go_simp)
    have y0 := z4 0 (.int .i64 0) (by go_simp)
    have y1 := z4 1 (.int .i64 0) (by go_simp)
    have y2 := z4 2 (.int .i64 0) (by go_simp)
    have y3 := z4 3 (.int .i64 0) (by go_simp)
    have HB0 := hide b0
    have HR0 := hide (RngB.start rep hrg0)
    have HZF := hide zf
    have HZ : Hid (w0.heap.size = w.heap.size + 1 + 1) := hs0
    clear hrg0 hg0 hs0 hz0 z4 zf e0 b0
    go_loopw [24] (fun _ wr => ∃ (L : Nat → Bool) (cnt : Nat), RngB wr M (w.heap.size + 1) n ss D L cnt ∧ (∀ j, j < ss.length → 0 < gc ss j → L j = false → j ≠ q) ∧ Below w.heap.size w wr ∧ w.heap.size + 1 < wr.heap.size ∧
        (wr.cell? ⟨w.heap.size, 0, none⟩ = some (.int .i64 0) ∧ wr.cell? ⟨w.heap.size, 1, none⟩ = some (.int .i64 0) ∧ wr.cell? ⟨w.heap.size, 2, none⟩ = some (.int .i64 0) ∧ wr.cell? ⟨w.heap.size, 3, none⟩ = some (.int .i64 0)) ∧ ∀ i, wr.frozen? ⟨w.heap.size, i, none⟩ = false)
      (fun _ wr => wr.rangeLeft M (w.heap.size + 1))
    case atStart => exact ⟨_, _, HR0.out, fun j _ _ h => (by cases h), HB0.out, by have := HZ.out; omega, ⟨y0, y1, y2, y3⟩, HZF.out⟩
    case round =>
      clear y0 y1 y2 y3
      obtain ⟨L, cnt, hrg, hno, hbel, hsz, ⟨y0, y1, y2, y3⟩, hfz⟩ := hrel
      have f0 := hfz 0
      have f1 := hfz 1
      have f2 := hfz 2
      have f3 := hfz 3
      have HNO := hide hno
      clear hno
      go_wp2_with (first
        | (at_next; refine next_book _ rfl _ rfl M (w.heap.size + 1) n good rep rfl hrg ?_ ?_)
        | go_in)
      · intro hc0 hl0
        have HC : Hid (atC ss (q : Int) = 4) := by
          show atC ss (q : Int) = 4
          rw [atC_in hq]
          by_cases h0 : gc ss q = 0
          · rw [if_pos h0]
          · exact absurd rfl (HNO.out q hq (by have := good.low q hq; omega) (hl0 q hq (by have := good.low q hq; omega)))
        have HL := hide (atL_no (ss := ss) (p := (q : Int)) (by rw [HC.out]; decide))
        have HE := hide hbel
        clear hl0 hbel
        go_wp2
        refine bodyPost_ret (v := .tuple #[.agg #[.int .i64 0, .int .i64 0, .int .i64 0, .int .i64 0], .int .i64 4]) (by simp [results, Tryz.results154, go_sem, y0, y1, y2, y3]) rfl ⟨by rw [HC.out, HL.out]; rfl, ?_⟩
        exact (((HE.out.setCell (Nat.le_refl _) _).setCell (Nat.le_refl _) _).setCell (Nat.le_refl _) _).setCell (Nat.le_refl _) _
      · intro j hj hp hLj w1 cnt1 hrg1 hlt1 hg1 hs1 hen
        have hr1 : M ≠ w.heap.size + 1 := hrg.ne.symm
        have e1 := hg1.block w.heap.size (by omega) (by simp)
        have v0 := (World.cell?_of_block (a := ⟨w.heap.size, 0, none⟩) e1).trans y0
        have v1 := (World.cell?_of_block (a := ⟨w.heap.size, 1, none⟩) e1).trans y1
        have v2 := (World.cell?_of_block (a := ⟨w.heap.size, 2, none⟩) e1).trans y2
        have v3 := (World.cell?_of_block (a := ⟨w.heap.size, 3, none⟩) e1).trans y3
        have g0 := (World.frozen?_of_block (a := ⟨w.heap.size, 0, none⟩) e1).trans f0
        have g1 := (World.frozen?_of_block (a := ⟨w.heap.size, 1, none⟩) e1).trans f1
        have g2 := (World.frozen?_of_block (a := ⟨w.heap.size, 2, none⟩) e1).trans f2
        have g3 := (World.frozen?_of_block (a := ⟨w.heap.size, 3, none⟩) e1).trans f3
        have HG : Hid (∀ i, w1.frozen? ⟨w.heap.size, i, none⟩ = false) := fun i => (World.frozen?_of_block (a := ⟨w.heap.size, i, none⟩) e1).trans (hfz i)
        have HB1 := hide (bel_grown hbel hg1 (by omega) hbel.size)
        have HR1 := hide hrg1
        have hz1 : w.heap.size + 1 < w1.heap.size := by omega
        have HLT := hide hlt1
        have HRG := hide hrg
        clear hrg1 hg1 hfz y0 y1 y2 y3 f0 f1 f2 f3 hbel hlt1 hrg
        by_cases he : j = q
        · subst he
          have ej : ((j : Int) == (j : Int)) = true := by simp
          have HC : Hid (atC ss (j : Int) = 0) := by show atC ss (j : Int) = 0; rw [atC_in hq, if_neg (by omega)]
          have HL := hide (atL_yes HC.out)
          have HX := hide ((HB1.out.alloc HB1.out.size (.cells #[.int .i64 (gt (gl ss j) 0), .int .i64 (gt (gl ss j) 1), .int .i64 (gt (gl ss j) 2), .int .i64 (gt (gl ss j) 3)] 232)).alloc (by have := HB1.out.size; simp; omega) (.cells #[.int .i64 (j : Int), .int .i64 (gc ss j)] 241))
          have al : Below w1.heap.size w1 ((w1.alloc (.cells #[.int .i64 (gt (gl ss j) 0), .int .i64 (gt (gl ss j) 1), .int .i64 (gt (gl ss j) 2), .int .i64 (gt (gl ss j) 3)] 232)).alloc (.cells #[.int .i64 (j : Int), .int .i64 (gc ss j)] 241)) := ((Below.refl _ _).alloc (Nat.le_refl _) _).alloc (by simp) _
          have r0 := (al.cell (p := ⟨w.heap.size, 0, none⟩) (by show w.heap.size < _; omega)).trans v0
          have r1 := (al.cell (p := ⟨w.heap.size, 1, none⟩) (by show w.heap.size < _; omega)).trans v1
          have r2 := (al.cell (p := ⟨w.heap.size, 2, none⟩) (by show w.heap.size < _; omega)).trans v2
          have r3 := (al.cell (p := ⟨w.heap.size, 3, none⟩) (by show w.heap.size < _; omega)).trans v3
          have q0 := (al.frozen (p := ⟨w.heap.size, 0, none⟩) (by show w.heap.size < _; omega)).trans g0
          have q1 := (al.frozen (p := ⟨w.heap.size, 1, none⟩) (by show w.heap.size < _; omega)).trans g1
          have q2 := (al.frozen (p := ⟨w.heap.size, 2, none⟩) (by show w.heap.size < _; omega)).trans g2
          have q3 := (al.frozen (p := ⟨w.heap.size, 3, none⟩) (by show w.heap.size < _; omega)).trans g3
          clear v0 v1 v2 v3 g0 g1 g2 g3 al
          go_wp2
          refine bodyPost_ret (v := .tuple #[.agg #[.int .i64 (gt (gl ss j) 0), .int .i64 (gt (gl ss j) 1), .int .i64 (gt (gl ss j) 2), .int .i64 (gt (gl ss j) 3)], .int .i64 0]) (by simp [results, Tryz.results154, go_sem, r0, r1, r2, r3]) rfl ⟨by rw [HC.out, HL.out]; rfl, ?_⟩
          exact (((HX.out.setCell (Nat.le_refl _) _).setCell (Nat.le_refl _) _).setCell (Nat.le_refl _) _).setCell (Nat.le_refl _) _
        · have ej : ((j : Int) == (q : Int)) = false := by simp; omega
          go_wp2
          go_roundw
          case rel =>
            have al : Below w1.heap.size w1 ((w1.alloc (.cells #[.int .i64 (gt (gl ss j) 0), .int .i64 (gt (gl ss j) 1), .int .i64 (gt (gl ss j) 2), .int .i64 (gt (gl ss j) 3)] 232)).alloc (.cells #[.int .i64 (j : Int), .int .i64 (gc ss j)] 241)) := ((Below.refl _ _).alloc (Nat.le_refl _) _).alloc (by simp) _
            refine ⟨_, cnt1, HR1.out.below al, fun i hi hpi hLi => ?_, HB1.out.trans (al.mono HB1.out.size), by have := al.size; omega, ⟨(al.cell (p := ⟨w.heap.size, 0, none⟩) (by show w.heap.size < _; omega)).trans v0, (al.cell (p := ⟨w.heap.size, 1, none⟩) (by show w.heap.size < _; omega)).trans v1, (al.cell (p := ⟨w.heap.size, 2, none⟩) (by show w.heap.size < _; omega)).trans v2, (al.cell (p := ⟨w.heap.size, 3, none⟩) (by show w.heap.size < _; omega)).trans v3⟩, fun i => (al.frozen (p := ⟨w.heap.size, i, none⟩) (by show w.heap.size < _; omega)).trans (HG.out i)⟩
            by_cases e : i = j
            · omega
            · exact HNO.out i hi hpi (by simpa [e] using hLi)
          case measure =>
            have al : Below w1.heap.size w1 ((w1.alloc (.cells #[.int .i64 (gt (gl ss j) 0), .int .i64 (gt (gl ss j) 1), .int .i64 (gt (gl ss j) 2), .int .i64 (gt (gl ss j) 3)] 232)).alloc (.cells #[.int .i64 (j : Int), .int .i64 (gc ss j)] 241)) := ((Below.refl _ _).alloc (Nat.le_refl _) _).alloc (by simp) _
            rw [(HR1.out.below al).left_eq, HRG.out.left_eq]
            exact HLT.out

end Go.Proofs.YtnlkigjgloeonaaGreat
