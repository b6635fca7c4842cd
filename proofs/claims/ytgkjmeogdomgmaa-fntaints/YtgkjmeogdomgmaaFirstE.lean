import Derived.Test.YtgkjmeogdomgmaaBookReg2
import Derived.WalkKit
import Derived.ProofKit
import Derived.OpenShut
import Derived.ShutString
import Derived.ChangeOld
import Derived.Below
import Derived.WalkSpells
import Derived.Deep.QuietTactic
import Derived.BigQuiet
import Derived.Deep.RegionWith
import Derived.Deep.WholeRow
import Derived.Deep.DeepCutAuto
import Derived.Deep.RegionHeld2
import Derived.Deep.AppendLies
import Derived.Deep.RegionLaw
namespace Go.Proofs.Ytgkjmeogdomgmaa
open Go.ChangeShapes Go.WideShapes Go.ChangeAt Go.RowKit

/-- the first empty slot, or the number of slots. -/
def fe (ss : List (Int × List Int)) : Nat := ss.findIdx (fun s => s.1 == 0)

theorem fe_eq {ss : List (Int × List Int)} {k : Nat} (hk : k < ss.length) (h0 : gc ss k = 0) (hl : ∀ j, j < k → gc ss j ≠ 0) : fe ss = k := by
  unfold fe
  rw [List.findIdx_eq hk]
  refine ⟨by simpa [gc, hk] using h0, fun j hj => ?_⟩
  have := hl j hj
  have hj' : j < ss.length := by omega
  simpa [gc, hj'] using this

theorem fe_all {ss : List (Int × List Int)} (hl : ∀ j, j < ss.length → gc ss j ≠ 0) : fe ss = ss.length := by
  unfold fe
  rw [List.findIdx_eq_length]
  intro x hx
  obtain ⟨j, hj, rfl⟩ := List.mem_iff_getElem.1 hx
  have := hl j hj
  simpa [gc, hj] using this

/-- ten cells that tell which slots are full. -/
def Full (wr : World) (B : Nat) (V : Nat → Bool) : Prop := B < wr.heap.size ∧ (∀ i, i < 10 → wr.cell? ⟨B, i, none⟩ = some (.bool (V i))) ∧ ∀ i, wr.frozen? ⟨B, i, none⟩ = false

theorem Full.block {w w' : World} {B : Nat} {V : Nat → Bool} (h : Full w B V) (e : w'.heap[B]? = w.heap[B]?) (hs : w.heap.size ≤ w'.heap.size) : Full w' B V :=
  ⟨by have := h.1; omega, fun i hi => (World.cell?_of_block (a := ⟨B, i, none⟩) e).trans (h.2.1 i hi), fun i => (World.frozen?_of_block (a := ⟨B, i, none⟩) e).trans (h.2.2 i)⟩

theorem Full.below {w w' : World} {B : Nat} {V : Nat → Bool} (h : Full w B V) (hb : Below w.heap.size w w') : Full w' B V := h.block (hb.block B h.1) hb.size

theorem Full.set {w : World} {B j : Nat} {V : Nat → Bool} (h : Full w B V) (hj : j < 10) : Full (w.setCell ⟨B, j, none⟩ (.bool true)) B (fun i => if i = j then true else V i) := by
  refine ⟨by simpa using h.1, fun i hi => ?_, fun i => by simpa using h.2.2 i⟩
  by_cases e : i = j
  · subst e; simp only [if_true]; exact World.cell?_setCell_same _ _ _ (h.2.1 i hi)
  · simp only [if_neg e]; rw [World.cell?_setCell_other _ _ _ _ (fun h => by injection h with _ h2; omega)]; exact h.2.1 i hi

theorem Full.congr {w : World} {B : Nat} {V V' : Nat → Bool} (h : Full w B V) (e : ∀ i, i < 10 → V i = V' i) : Full w B V' := ⟨h.1, fun i hi => by rw [← e i hi]; exact h.2.1 i hi, h.2.2⟩

theorem Full.start (w : World) (t : TypeId) : Full (w.alloc (.cells #[.bool false, .bool false, .bool false, .bool false, .bool false, .bool false, .bool false, .bool false, .bool false, .bool false] t)) w.heap.size (fun _ => false) := by
  refine ⟨by simp, fun i hi => ?_, fun i => by simp⟩
  rw [World.cell?_alloc_new]
  obtain rfl | rfl | rfl | rfl | rfl | rfl | rfl | rfl | rfl | rfl : i = 0 ∨ i = 1 ∨ i = 2 ∨ i = 3 ∨ i = 4 ∨ i = 5 ∨ i = 6 ∨ i = 7 ∨ i = 8 ∨ i = 9 := by omega
  all_goals rfl

theorem setC1_grown (w : World) (N i : Nat) (y : Value) : w.grownBy (w.setCell ⟨N, i, none⟩ y) (some N) :=
  ⟨rfl, rfl, rfl, by simp, fun k _ hn => Below.heap_setCell _ _ _ _ (fun e => hn (by rw [e]))⟩

set_option maxRecDepth 100000 in
set_option maxHeartbeats 2000000 in
theorem firstEmpty_calls (P M n : Nat) (ss : List (Int × List Int)) (D : DataW Unit) (w : World) (hb : Bk w P M (ss.length : Int) n D) (good : Good ss) (rep : Rep ss D) :
    Calls Try.prog 109 #[.pointer (some ⟨P, 0, none⟩)] w fun e w' => e = .returned (.int .i64 (fe ss)) ∧ Below w.heap.size w w' := by
  have few := good.few
  have hP := hb.lt
  have c0 := hb.c0
  have c1 := hb.c1
  have own0 := hb.own.alloc (.cells #[.bool false, .bool false, .bool false, .bool false, .bool false, .bool false, .bool false, .bool false, .bool false, .bool false] 165)
  have hF0 := Full.start w 165
  have bel0 := (Below.refl w.heap.size w).alloc (Nat.le_refl _) (.cells #[.bool false, .bool false, .bool false, .bool false, .bool false, .bool false, .bool false, .bool false, .bool false, .bool false] 165)
  have HF0 := hide hF0
  have HB0 := hide bel0
  clear hF0 bel0
  go_enter Try.func109, Try.ntmps109
  go_wp2_with (first
    | (at_range; refine wpList_range_own _ rfl _ 76 rfl 127 154 lawK Try.underlying76 _ M n _ rfl own0 ?_; intro w0 hrg0 hg0 hs0)
    | go_in)
  try go_frame
  have hz : (w.alloc (.cells #[.bool false, .bool false, .bool false, .bool false, .bool false, .bool false, .bool false, .bool false, .bool false, .bool false] 165)).heap.size = w.heap.size + 1 := by simp
  rw [hz] at hrg0 hs0
  try rw [hz]
  have gb0 : Below (w.alloc (.cells #[.bool false, .bool false, .bool false, .bool false, .bool false, .bool false, .bool false, .bool false, .bool false, .bool false] 165)).heap.size (w.alloc (.cells #[.bool false, .bool false, .bool false, .bool false, .bool false, .bool false, .bool false, .bool false, .bool false, .bool false] 165)) w0 := ⟨hg0.os, hg0.tape, hg0.output, hg0.size, fun k hk => hg0.block k hk (by simp)⟩
  have HF1 := hide (HF0.out.below gb0)
  have HB1 := hide (HB0.out.trans (gb0.mono HB0.out.size))
  have HG1 := hide (RngB.start rep hrg0)
  have HZ : Hid (w0.heap.size = w.heap.size + 1 + 1) := hs0
  clear hrg0 hg0 hs0 hz gb0 HF0 HB0 own0
  go_loopw [12] (fun _ wr => ∃ (L : Nat → Bool) (cn : Nat), RngB wr M (w.heap.size + 1) n ss D L cn ∧ Full wr w.heap.size (fun i => decide (i < ss.length ∧ 0 < gc ss i) && !L i) ∧ Below w.heap.size w wr ∧ w.heap.size + 1 < wr.heap.size) (fun _ wr => wr.rangeLeft M (w.heap.size + 1))
  case atStart => exact ⟨_, _, HG1.out, HF1.out.congr (fun i _ => by simp), HB1.out, by have := HZ.out; omega⟩
  case round =>
    obtain ⟨L, cn, hrg, hF, hbel, hsz⟩ := hrel
    clear HG1 HF1 HB1
    go_wp2_with (first
      | (at_next; refine next_book _ rfl _ rfl M (w.heap.size + 1) n good rep rfl hrg ?_ ?_)
      | go_in)
    · intro hc0 hl0
      have hF2 := hF.congr (V' := fun i => decide (i < ss.length ∧ 0 < gc ss i)) (fun i hi => by (by_cases h : i < ss.length ∧ 0 < gc ss i); (rw [hl0 i h.1 h.2]; simp); simp [h])
      have k0 := (hbel.cell (p := ⟨P, 0, none⟩) hP).trans c0
      have HE := hide hbel
      clear hl0 hbel hF hrg hc0
      go_wp2
      go_loop [23] (fun i => ∃ k : Nat, k ≤ ss.length ∧ i = .int .i64 k ∧ ∀ j, j < k → gc ss j ≠ 0) (fun i => ss.length - (intOf i).toNat)
      case atStart => exact ⟨0, Nat.zero_le _, rfl, fun j hj => by omega⟩
      case round =>
        obtain ⟨k, hk, rfl, hno⟩ := hrel
        have HN := hide hno
        clear hno
        by_cases hlt : k < ss.length
        · have hck : wr.cell? ⟨w.heap.size, k, none⟩ = some (.bool (decide (k < ss.length ∧ 0 < gc ss k))) := hF2.2.1 k (by omega)
          have i1 : (k : Int) < (ss.length : Int) := by omega
          have i2 : (k : Int) < 10 := by omega
          by_cases h0 : gc ss k = 0
          · have ed : decide (k < ss.length ∧ 0 < gc ss k) = false := by simp [h0]
            rw [ed] at hck
            have HR := hide (fe_eq hlt h0 HN.out)
            go_wp2
            go_ret
            exact ⟨by rw [HR.out]; rfl, HE.out⟩
          · have ed : decide (k < ss.length ∧ 0 < gc ss k) = true := by have := good.low k hlt; simp; omega
            rw [ed] at hck
            go_wp2
            go_round
            case rel => exact ⟨k + 1, by omega, by go_num, fun j hj => by (by_cases e : j = k); (rw [e]; exact h0); exact HN.out j (by omega)⟩
            case measure => simp [intOf]; omega
        · have e : k = ss.length := by omega
          subst e
          have HR := hide (fe_all HN.out)
          go_wp2
          go_ret
          exact ⟨by rw [HR.out]; rfl, HE.out⟩
    · intro j hj hp hLj w1 cnt1 hrg1 hlt1 hg1 hs1 hen
      have e1 := hg1.block w.heap.size (by omega) (fun e => by injection e; omega)
      have hF1 := hF.block e1 hg1.size
      obtain ⟨vv, hck⟩ : ∃ v, w1.cell? ⟨w.heap.size, j, none⟩ = some (.bool v) := ⟨_, hF1.2.1 j (by omega)⟩
      have hfz := hF1.2.2 j
      have HB2 := hide (bel_grown hbel hg1 (by omega) hbel.size)
      have HF2 := hide hF1
      have HR1 := hide hrg1
      have HLT := hide hlt1
      have HRG := hide hrg
      have i1 : (j : Int) < 10 := by omega
      have hz1 : w.heap.size + 1 < w1.heap.size := by omega
      have hnA : w1.heap.size ≠ w.heap.size := by omega
      have al0 : Below w1.heap.size w1 (w1.alloc (.cells #[.int .i64 (j : Int), .int .i64 (gc ss j)] 154)) := (Below.refl _ _).alloc (Nat.le_refl _) _
      have ck2 := (al0.cell (p := ⟨w.heap.size, j, none⟩) (by show w.heap.size < _; omega)).trans hck
      have fz2 := (al0.frozen (p := ⟨w.heap.size, j, none⟩) (by show w.heap.size < _; omega)).trans hfz
      have ij : (0 : Int) ≤ (j : Int) := by omega
      clear hrg hrg1 hlt1 hg1 hF hF1 hbel e1 hs1 al0
      go_wp2
      go_roundw
      case rel =>
        have al : Below w1.heap.size w1 (w1.alloc (.cells #[.int .i64 (j : Int), .int .i64 (gc ss j)] 154)) := (Below.refl _ _).alloc (Nat.le_refl _) _
        have r2 := HR1.out.below al
        refine ⟨_, cnt1, r2.kept (row := some w.heap.size) (setC1_grown _ w.heap.size j (.bool true)) (fun e => by injection e with e; exact map_ne_cells HR1.out.owns hck e) (by simp), ((HF2.out.below al).set (by omega)).congr (fun i hi => ?_), (HB2.out.trans (al.mono HB2.out.size)).setCell (Nat.le_refl _) _, by simp; omega⟩
        by_cases e : i = j
        · subst e; simp [hp, hj]
        · have e2 : (i == j) = false := by simpa using e
          simp only [if_neg e]
          simp [e2]
      case measure =>
        have al : Below w1.heap.size w1 (w1.alloc (.cells #[.int .i64 (j : Int), .int .i64 (gc ss j)] 154)) := (Below.refl _ _).alloc (Nat.le_refl _) _
        rw [((HR1.out.below al).kept (row := some w.heap.size) (setC1_grown _ w.heap.size j (.bool true)) (fun e => by injection e with e; exact map_ne_cells HR1.out.owns hck e) (by simp)).left_eq, HRG.out.left_eq]
        exact HLT.out

end Go.Proofs.Ytgkjmeogdomgmaa
