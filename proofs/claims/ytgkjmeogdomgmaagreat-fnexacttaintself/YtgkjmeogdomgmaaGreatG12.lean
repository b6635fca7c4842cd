import Derived.Test.YtgkjmeogdomgmaaGreatG3
import Derived.WalkKit
import Derived.ProofKit
import Derived.OpenShut
import Derived.ShutString
import Derived.ChangeOld
import Derived.Below
import Derived.WalkSpells
import Derived.Deep.QuietTactic
import Derived.BigQuiet
import Derived.Deep.RegionWith
import Derived.Deep.WholeRow
import Derived.Deep.DeepCutAuto
import Derived.Deep.RegionHeld2
import Derived.Deep.AppendLies
import Derived.Deep.RegionLaw
namespace Go.Proofs.YtgkjmeogdomgmaaGreat
open Go.ChangeShapes Go.WideShapes Go.ChangeAt Go.RowKit

/-- the numbers of lines (domain, tag, perm), one behind the other. -/
def fl3 : List (Int × Int × Int) → List Int
  | [] => []
  | l :: r => l.1 :: l.2.1 :: l.2.2 :: fl3 r

def g3 (ls : List (Int × Int × Int)) (i : Nat) : Int × Int × Int := ls.getD i (0, 0, 0)

theorem length_fl3 : ∀ ls : List (Int × Int × Int), (fl3 ls).length = ls.length * 3
  | [] => rfl
  | l :: r => by simp only [fl3, List.length_cons, length_fl3 r]; omega

theorem gt_fl3 : ∀ (ls : List (Int × Int × Int)) (i : Nat), gt (fl3 ls) (i * 3) = (g3 ls i).1 ∧ gt (fl3 ls) (i * 3 + 1) = (g3 ls i).2.1 ∧ gt (fl3 ls) (i * 3 + 2) = (g3 ls i).2.2
  | [], i => by simp [fl3, gt, g3]
  | l :: r, 0 => by simp [fl3, gt, g3]
  | l :: r, i + 1 => by
    have h := gt_fl3 r i
    have e0 : (i + 1) * 3 = i * 3 + 1 + 1 + 1 := by omega
    rw [e0]
    simpa [fl3, gt, g3] using h

theorem fl3_append : ∀ xs ys : List (Int × Int × Int), fl3 (xs ++ ys) = fl3 xs ++ fl3 ys
  | [], _ => rfl
  | l :: r, ys => by simp [fl3, fl3_append r ys]

theorem fl3_take : ∀ (ls : List (Int × Int × Int)) (k : Nat), (fl3 ls).take (k * 3) = fl3 (ls.take k)
  | [], k => by simp [fl3]
  | l :: r, 0 => by simp [fl3]
  | l :: r, k + 1 => by
    have e0 : (k + 1) * 3 = k * 3 + 1 + 1 + 1 := by omega
    rw [e0]
    simp [fl3, fl3_take r k]

theorem g3_take (ls : List (Int × Int × Int)) {k i : Nat} (h : i < k) : g3 (ls.take k) i = g3 ls i := by
  simp [g3, List.getD, h]

/-- a slice of lines (three cells each) that reads as ls. -/
def Sln (w : World) (a : Option Addr) (n : Nat) (ls : List (Int × Int × Int)) : Prop :=
  ls.length = n ∧ (0 < n → ∃ b off, a = some ⟨b, off, none⟩ ∧ b < w.heap.size ∧ ∀ i, i < n * 3 → w.cell? ⟨b, off + i, none⟩ = some (.int .i64 (gt (fl3 ls) i)))

theorem Sln.below {w w' : World} {a : Option Addr} {n : Nat} {ls : List (Int × Int × Int)} (h : Sln w a n ls) {B : Nat} (hb : Below B w w') (hB : w.heap.size ≤ B) : Sln w' a n ls := by
  obtain ⟨h1, h2⟩ := h
  refine ⟨h1, fun hp => ?_⟩
  obtain ⟨b, off, h3, h4, h5⟩ := h2 hp
  exact ⟨b, off, h3, by have := hb.size; omega, fun i hi => (hb.cell (p := ⟨b, off + i, none⟩) (by show b < B; omega)).trans (h5 i hi)⟩

/-- the three cells of line k. -/
theorem cells3 {w : World} {b off n k : Nat} {ls : List (Int × Int × Int)} (h : ∀ i, i < n * 3 → w.cell? ⟨b, off + i, none⟩ = some (.int .i64 (gt (fl3 ls) i))) (hk : k < n) :
    w.cell? ⟨b, off + k * 3, none⟩ = some (.int .i64 (g3 ls k).1) ∧ w.cell? ⟨b, off + k * 3 + 1, none⟩ = some (.int .i64 (g3 ls k).2.1) ∧ w.cell? ⟨b, off + k * 3 + 2, none⟩ = some (.int .i64 (g3 ls k).2.2) := by
  obtain ⟨e0, e1, e2⟩ := gt_fl3 ls k
  rw [← e0, ← e1, ← e2]
  exact ⟨h _ (by omega), h (k * 3 + 1) (by omega), h (k * 3 + 2) (by omega)⟩

theorem Sln.take {w : World} {a : Option Addr} {n k : Nat} {ls : List (Int × Int × Int)} (h : Sln w a n ls) (hk : k ≤ n) : Sln w a k (ls.take k) := by
  obtain ⟨h1, h2⟩ := h
  refine ⟨by simp; omega, fun hp => ?_⟩
  obtain ⟨b, off, h3, h4, h5⟩ := h2 (by omega)
  refine ⟨b, off, h3, h4, fun i hi => ?_⟩
  rw [h5 i (by omega), ← fl3_take]
  simp [gt, hi]

/-- an owned slice of lines: nil, or at the head of a block of S. -/
def OL (S : Nat → Prop) (a : Option Addr) (n : Nat) (ls : List (Int × Int × Int)) (w : World) : Prop :=
  ls.length = n ∧ n ≤ 1048576 ∧ ((n = 0) ∨ ∃ b, a = some ⟨b, 0, none⟩ ∧ S b ∧ Blk w b (fl3 ls))

theorem OL.loc {S : Nat → Prop} {a : Option Addr} {n : Nat} {ls : List (Int × Int × Int)} : Loc S (OL S a n ls) := fun w w' hk h => by
  obtain ⟨h1, h2, h3⟩ := h
  refine ⟨h1, h2, ?_⟩
  rcases h3 with h3 | ⟨b, e, hb, h3⟩
  · exact .inl h3
  · exact .inr ⟨b, e, hb, Blk.loc hb w w' hk h3⟩

theorem OL.sln {S : Nat → Prop} {a : Option Addr} {n : Nat} {ls : List (Int × Int × Int)} {w : World} (h : OL S a n ls w) : Sln w a n ls := by
  obtain ⟨h1, _, h2⟩ := h
  refine ⟨h1, fun hp => ?_⟩
  rcases h2 with h2 | ⟨b, rfl, _, hb⟩
  · omega
  · exact ⟨b, 0, rfl, hb.1, fun i hi => by rw [Nat.zero_add]; exact hb.2.1 i (by rw [length_fl3]; omega)⟩

theorem OL.mono {S S' : Nat → Prop} {a : Option Addr} {n : Nat} {ls : List (Int × Int × Int)} {w : World} (h : OL S a n ls w) (hs : ∀ k, S k → S' k) : OL S' a n ls w := by
  obtain ⟨h1, h0, h2⟩ := h
  refine ⟨h1, h0, ?_⟩
  rcases h2 with h2 | ⟨b, e, h3, h4⟩
  · exact .inl h2
  · exact .inr ⟨b, e, hs b h3, h4⟩

theorem OL.nil (S : Nat → Prop) (a : Option Addr) (w : World) : OL S a 0 [] w := ⟨rfl, by omega, .inl rfl⟩

theorem OL.ofBlk {S : Nat → Prop} {b n : Nat} {ls : List (Int × Int × Int)} {w : World} (h : Blk w b (fl3 ls)) (hb : S b) (hn : ls.length = n) (hl : n ≤ 1048576) : OL S (some ⟨b, 0, none⟩) n ls w := ⟨hn, hl, .inr ⟨b, rfl, hb, h⟩⟩

/-- a row of lines under copy: the first k lines of block N hold ls; all cells are there; none is frozen. -/
def Half3 (w : World) (N n k : Nat) (ls : List (Int × Int × Int)) : Prop :=
  N < w.heap.size ∧ (∀ j, j < k * 3 → w.cell? ⟨N, j, none⟩ = some (.int .i64 (gt (fl3 ls) j))) ∧ (∀ j, j < n * 3 → ∃ v, w.cell? ⟨N, j, none⟩ = some v) ∧ ∀ j, w.frozen? ⟨N, j, none⟩ = false

theorem Half3.below {w w' : World} {N n k : Nat} {ls : List (Int × Int × Int)} (h : Half3 w N n k ls) (hb : Below w.heap.size w w') : Half3 w' N n k ls :=
  ⟨by have := hb.size; have := h.1; omega, fun j hj => (hb.cell (p := ⟨N, j, none⟩) h.1).trans (h.2.1 j hj), fun j hj => by obtain ⟨v, hv⟩ := h.2.2.1 j hj; exact ⟨v, (hb.cell (p := ⟨N, j, none⟩) h.1).trans hv⟩, fun j => (hb.frozen (p := ⟨N, j, none⟩) h.1).trans (h.2.2.2 j)⟩

/-- three stores, one behind the other. -/
def set3 (w : World) (N o : Nat) (x : Int × Int × Int) : World := ((w.setCell ⟨N, o, none⟩ (.int .i64 x.1)).setCell ⟨N, o + 1, none⟩ (.int .i64 x.2.1)).setCell ⟨N, o + 2, none⟩ (.int .i64 x.2.2)

theorem set3_other (w : World) (N o : Nat) (x : Int × Int × Int) (j : Nat) (h : j < o ∨ o + 2 < j) : (set3 w N o x).cell? ⟨N, j, none⟩ = w.cell? ⟨N, j, none⟩ := by
  unfold set3
  rw [World.cell?_setCell_other _ _ _ _ (fun e => by injection e with _ e2; omega), World.cell?_setCell_other _ _ _ _ (fun e => by injection e with _ e2; omega), World.cell?_setCell_other _ _ _ _ (fun e => by injection e with _ e2; omega)]

theorem set3_at (w : World) (N o : Nat) (x : Int × Int × Int) (h0 : ∃ v, w.cell? ⟨N, o, none⟩ = some v) (h1 : ∃ v, w.cell? ⟨N, o + 1, none⟩ = some v) (h2 : ∃ v, w.cell? ⟨N, o + 2, none⟩ = some v) :
    (set3 w N o x).cell? ⟨N, o, none⟩ = some (.int .i64 x.1) ∧ (set3 w N o x).cell? ⟨N, o + 1, none⟩ = some (.int .i64 x.2.1) ∧ (set3 w N o x).cell? ⟨N, o + 2, none⟩ = some (.int .i64 x.2.2) := by
  obtain ⟨v0, h0⟩ := h0
  obtain ⟨v1, h1⟩ := h1
  obtain ⟨v2, h2⟩ := h2
  unfold set3
  refine ⟨?_, ?_, ?_⟩
  · rw [World.cell?_setCell_other _ _ _ _ (fun e => by injection e with _ e2; omega), World.cell?_setCell_other _ _ _ _ (fun e => by injection e with _ e2; omega)]
    exact World.cell?_setCell_same _ _ _ h0
  · rw [World.cell?_setCell_other _ _ _ _ (fun e => by injection e with _ e2; omega)]
    exact World.cell?_setCell_same _ _ _ ((World.cell?_setCell_other _ _ _ _ (fun e => by injection e with _ e2; omega)).trans h1)
  · exact World.cell?_setCell_same _ _ _ ((World.cell?_setCell_other _ _ _ _ (fun e => by injection e with _ e2; omega)).trans ((World.cell?_setCell_other _ _ _ _ (fun e => by injection e with _ e2; omega)).trans h2))

theorem set3_some (w : World) (N o : Nat) (x : Int × Int × Int) (j : Nat) (h : ∃ v, w.cell? ⟨N, j, none⟩ = some v) : ∃ v, (set3 w N o x).cell? ⟨N, j, none⟩ = some v := by
  obtain ⟨v, hv⟩ := h
  exact cell?_setCell_some (cell?_setCell_some (cell?_setCell_some hv).choose_spec).choose_spec

theorem Half3.store {w : World} {N n k : Nat} {ls : List (Int × Int × Int)} (h : Half3 w N n k ls) (hk : k < n) : Half3 (set3 w N (k * 3) (g3 ls k)) N n (k + 1) ls := by
  obtain ⟨h1, h2, h3, h4⟩ := h
  obtain ⟨a0, a1, a2⟩ := set3_at w N (k * 3) (g3 ls k) (h3 _ (by omega)) (h3 _ (by omega)) (h3 _ (by omega))
  obtain ⟨e0, e1, e2⟩ := gt_fl3 ls k
  refine ⟨by simpa [set3] using h1, fun j hj => ?_, fun j hj => set3_some _ _ _ _ _ (h3 j hj), fun j => by simpa [set3] using h4 j⟩
  by_cases e : j < k * 3
  · rw [set3_other _ _ _ _ _ (.inl e)]; exact h2 j e
  · rcases (show j = k * 3 ∨ j = k * 3 + 1 ∨ j = k * 3 + 2 by omega) with rfl | rfl | rfl
    · rw [a0, e0]
    · rw [a1, e1]
    · rw [a2, e2]

theorem Half3.start (w : World) (n : Nat) (ls : List (Int × Int × Int)) (t : TypeId) : Half3 (w.alloc (.cells (madeCells #[.int .i64 0, .int .i64 0, .int .i64 0] (n * 3)) t)) w.heap.size n 0 ls := by
  refine ⟨by simp, fun j hj => by omega, fun j hj => ?_, fun j => by simp⟩
  have hs : j < (madeCells #[.int .i64 0, .int .i64 0, .int .i64 0] (n * 3)).size := by rw [size_madeCells]; exact hj
  exact ⟨(madeCells #[.int .i64 0, .int .i64 0, .int .i64 0] (n * 3))[j], by rw [World.cell?_alloc_new]; simp [hs]⟩

theorem Half3.done {w : World} {N n : Nat} {ls : List (Int × Int × Int)} (h : Half3 w N n n ls) (hn : ls.length = n) : Blk w N (fl3 ls) :=
  ⟨h.1, fun j hj => h.2.1 j (by rw [length_fl3] at hj; omega), h.2.2.2⟩

/-- marks of lines. -/
def mk3 (m : Int) (n : Nat) : List (Int × Int × Int) := (List.range n).map (fun j : Nat => (m + 3 * (j : Int), m + 3 * (j : Int) + 1, m + 3 * (j : Int) + 2))

theorem length_mk3 (m : Int) (n : Nat) : (mk3 m n).length = n := by simp [mk3]

theorem g3_mk3 (m : Int) (n j : Nat) (h : j < n) : g3 (mk3 m n) j = (m + 3 * (j : Int), m + 3 * (j : Int) + 1, m + 3 * (j : Int) + 2) := by simp [mk3, g3, h]

theorem gt_marks3 (m : Int) (n j : Nat) (h : j < n * 3) : gt (fl3 (mk3 m n)) j = m + j := by
  obtain ⟨e0, e1, e2⟩ := gt_fl3 (mk3 m n) (j / 3)
  rw [g3_mk3 m n (j / 3) (by omega)] at e0 e1 e2
  rcases (show j = j / 3 * 3 ∨ j = j / 3 * 3 + 1 ∨ j = j / 3 * 3 + 2 by omega) with e | e | e
  · rw [← e] at e0; rw [e0]; simp only; omega
  · rw [← e] at e1; rw [e1]; simp only; omega
  · rw [← e] at e2; rw [e2]; simp only; omega

theorem MRow.done3 {w : World} {b n : Nat} {m : Int} (h : MRow w b (n * 3) (n * 3) m) : Blk w b (fl3 (mk3 m n)) :=
  ⟨h.1, fun j hj => by rw [length_fl3, length_mk3] at hj; rw [gt_marks3 m n j hj]; exact h.2.1 j hj, h.2.2.2⟩

theorem infoLine : (Tryz.prog.info? 160).map (fun i => (i.zero, i.size, i.bytes)) = some (some (.agg #[.int .i64 0, .int .i64 0, .int .i64 0]), 3, 24) := by kernel_rfl

set_option maxRecDepth 100000 in
theorem szLineS_calls (a : Option Addr) (len cap : Nat) (left : Int) (w : World) (h0 : 0 ≤ left) (h1 : left ≤ 1048576) (hl : len ≤ maxLen) :
    Calls Tryz.prog 47 #[.slice a len cap, .int .i64 left] w fun e w' => e = .returned (.int .i64 (szI len left)) ∧ Below w.heap.size w w' := by
  unfold maxLen at hl
  by_cases h : left - len < 0
  · go_enter Tryz.func47, Tryz.ntmps47
    go_wp2
    go_ret
    exact ⟨ret_int (szI_neg h).symm, Below.refl _ _⟩
  · go_enter Tryz.func47, Tryz.ntmps47
    go_wp2
    go_ret
    exact ⟨ret_int (szI_pos h).symm, Below.refl _ _⟩

set_option maxRecDepth 100000 in
theorem szCache_calls (s : Int) (a : Option Addr) (len cap : Nat) (left : Int) (w : World) (h0 : 0 ≤ left) (h1 : left ≤ 1048576) (hl : len ≤ maxLen) :
    Calls Tryz.prog 16 #[.agg #[.int .i64 s, .slice a len cap], .int .i64 left] w fun e w' => e = .returned (.int .i64 (szI len left)) ∧ Below w.heap.size w w' := by
  by_cases h : left - len < 0
  · go_enter Tryz.func16, Tryz.ntmps16
    go_wp2_with fail
    refine (szLineS_calls a len cap left _ h0 h1 hl).mono ?_
    rintro e w1 ⟨rfl, hb⟩
    rw [szI_neg h]
    go_wp2
    go_ret
    exact ⟨ret_int (szI_neg h).symm, ((Below.refl _ _).alloc (Nat.le_refl _) _).trans (hb.mono (by simp))⟩
  · have hp : 0 ≤ left - len := by omega
    go_enter Tryz.func16, Tryz.ntmps16
    go_wp2_with fail
    refine (szLineS_calls a len cap left _ h0 h1 hl).mono ?_
    rintro e w1 ⟨rfl, hb⟩
    rw [szI_pos hp]
    go_wp2
    go_ret
    exact ⟨ret_int (szI_pos hp).symm, ((Below.refl _ _).alloc (Nat.le_refl _) _).trans (hb.mono (by simp))⟩

set_option maxRecDepth 100000 in
theorem toLine_calls (d t p : Int) (w : World) :
    Calls Tryz.prog 111 #[.agg #[.int .i64 d, .int .i64 t, .int .i64 p]] w fun e w' => e = .returned (.agg #[.int .i64 d, .int .i64 t, .int .i64 p]) ∧ Below w.heap.size w w' := by
  have hb3 := fun o1 o2 o3 => (((Below.refl w.heap.size w).alloc (Nat.le_refl _) o1).alloc (by simp) o2).alloc (by simp; omega) o3
  have HB := hide hb3
  clear hb3
  go_enter Tryz.func111, Tryz.ntmps111
  go_wp2
  refine bodyPost_ret (v := .agg #[.int .i64 d, .int .i64 t, .int .i64 p]) (by simp [results, Tryz.results111, go_sem]) rfl ⟨rfl, ?_⟩
  first
    | exact HB.out _ _ _
    | exact ((((((HB.out _ _ _).setCell (by simp; omega) _).setCell (by simp; omega) _).setCell (by simp; omega) _).setCell (by simp) _).setCell (by simp) _).setCell (by simp) _

set_option maxRecDepth 100000 in
theorem toLineS_O (a : Option Addr) (n cap : Nat) (ls : List (Int × Int × Int)) (w : World) (hm : n ≤ 1048576) (hs : Sln w a n ls) :
    Calls Tryz.prog 68 #[.slice a n cap] w fun e w' => ∃ b, e = .returned (.slice (some ⟨b, 0, none⟩) n n) ∧ OL (InR w.heap.size w'.heap.size) (some ⟨b, 0, none⟩) n ls w' ∧ Below w.heap.size w w' := by
  obtain ⟨hlen, hs⟩ := hs
  obtain ⟨i0, hi, hz0, hz1, hz2⟩ := info_parts infoLine
  have hmk : ∀ u : World, (Instr.makeSlice 48 (.int .i64 (n : Int)) (.int .i64 (n : Int))).run Tryz.prog u =
      .ok (.slice (some ⟨u.heap.size, 0, none⟩) n n) (u.alloc (.cells (madeCells #[.int .i64 0, .int .i64 0, .int .i64 0] (n * 3)) 160)) := fun u => by
    have h := run_make (P := Tryz.prog) u 48 160 i0 (.agg #[.int .i64 0, .int .i64 0, .int .i64 0]) Tryz.underlying48 hi hz0 .i64 .i64 (n : Int) (n : Int) (by omega) (Int.le_refl _) (by rw [hz2]; omega) (by omega)
    simpa [hz1, Value.cells] using h
  go_enter Tryz.func68, Tryz.ntmps68
  go_wp2
  go_loopw [4] (fun i wr => ∃ k : Nat, k ≤ n ∧ i = .int .i64 k ∧ Below w.heap.size w wr ∧ Half3 wr w.heap.size n k ls) (fun i _ => n - (intOf i).toNat)
  case atStart => exact ⟨0, Nat.zero_le _, rfl, (Below.refl _ _).alloc (Nat.le_refl _) _, Half3.start _ _ _ _⟩
  case round =>
    obtain ⟨k, hk, rfl, hbel, hh⟩ := hrel
    by_cases hlt : k < n
    · obtain ⟨b, off, rfl, hb, hc⟩ := hs (by omega)
      obtain ⟨hc0, hc1, hc2⟩ := cells3 hc hlt
      have hck0 := (hbel.cell (p := ⟨b, off + k * 3, none⟩) hb).trans hc0
      have hck1 := (hbel.cell (p := ⟨b, off + k * 3 + 1, none⟩) hb).trans hc1
      have hck2 := (hbel.cell (p := ⟨b, off + k * 3 + 2, none⟩) hb).trans hc2
      clear hc0 hc1 hc2 hc
      go_wp2_with fail
      refine (toLine_calls (g3 ls k).1 (g3 ls k).2.1 (g3 ls k).2.2 _).mono ?_
      rintro e w1 ⟨rfl, hb1⟩
      have hh1 := hh.below hb1
      obtain ⟨v0, hv0⟩ := hh1.2.2.1 (k * 3) (by omega)
      obtain ⟨v1, hv1⟩ := hh1.2.2.1 (k * 3 + 1) (by omega)
      obtain ⟨v2, hv2⟩ := hh1.2.2.1 (k * 3 + 2) (by omega)
      have hf0 := hh1.2.2.2 (k * 3)
      have hf1 := hh1.2.2.2 (k * 3 + 1)
      have hf2 := hh1.2.2.2 (k * 3 + 2)
      have hbw := hbel.trans (hb1.mono hbel.size)
      have hN := hh.1
      have HH := hide (hh1.store hlt)
      unfold set3 at HH
      clear hh hh1 hb1 hck0 hck1 hck2
      go_wp2
      go_roundw
      case rel => exact ⟨k + 1, by omega, by go_num, ((hbw.setCell (Nat.le_refl _) _).setCell (Nat.le_refl _) _).setCell (Nat.le_refl _) _, HH.out⟩
      case measure => simp [intOf]; omega
    · have hkn : k = n := by omega
      subst hkn
      go_wp2
      go_ret
      exact ⟨w.heap.size, rfl, OL.ofBlk (hh.done hlen) ⟨Nat.le_refl _, hh.1⟩ hlen hm, hbel⟩

set_option maxRecDepth 100000 in
theorem toCache_O (s : Int) (a : Option Addr) (n cap : Nat) (ls : List (Int × Int × Int)) (w : World) (hm : n ≤ 1048576) (hs : Sln w a n ls) :
    Calls Tryz.prog 26 #[.agg #[.int .i64 s, .slice a n cap]] w fun e w' => ∃ b, e = .returned (.agg #[.int .i64 s, .slice (some ⟨b, 0, none⟩) n n]) ∧ OL (InR w.heap.size w'.heap.size) (some ⟨b, 0, none⟩) n ls w' ∧ Below w.heap.size w w' := by
  have hb3 := fun o1 o2 o3 => (((Below.refl w.heap.size w).alloc (Nat.le_refl _) o1).alloc (by simp) o2).alloc (by simp; omega) o3
  go_enter Tryz.func26, Tryz.ntmps26
  go_wp2_with fail
  refine (toLineS_O a n cap ls _ hm (hs.below (hb3 _ _ _) (Nat.le_refl _))).mono ?_
  rintro e w1 ⟨b, rfl, hh, hb⟩
  have hbw : Below w.heap.size w w1 := (hb3 _ _ _).trans (hb.mono (by simp; omega))
  simp only [World.size_alloc] at hh
  have c10 : w1.cell? ⟨w.heap.size + 1, 0, none⟩ = some (.int .i64 0) := (hb.cell (p := ⟨w.heap.size + 1, 0, none⟩) (by simp)).trans (by go_simp)
  have c11 : w1.cell? ⟨w.heap.size + 1, 1, none⟩ = some (.slice none 0 0) := (hb.cell (p := ⟨w.heap.size + 1, 1, none⟩) (by simp)).trans (by go_simp)
  have f10 : w1.frozen? ⟨w.heap.size + 1, 0, none⟩ = false := (hb.frozen (p := ⟨w.heap.size + 1, 0, none⟩) (by simp)).trans (by go_simp)
  have f11 : w1.frozen? ⟨w.heap.size + 1, 1, none⟩ = false := (hb.frozen (p := ⟨w.heap.size + 1, 1, none⟩) (by simp)).trans (by go_simp)
  have c20 : w1.cell? ⟨w.heap.size + 1 + 1, 0, none⟩ = some (.int .i64 s) := (hb.cell (p := ⟨w.heap.size + 1 + 1, 0, none⟩) (by simp)).trans (by go_simp)
  have c21 : w1.cell? ⟨w.heap.size + 1 + 1, 1, none⟩ = some (.slice none 0 0) := (hb.cell (p := ⟨w.heap.size + 1 + 1, 1, none⟩) (by simp)).trans (by go_simp)
  have f21 : w1.frozen? ⟨w.heap.size + 1 + 1, 1, none⟩ = false := (hb.frozen (p := ⟨w.heap.size + 1 + 1, 1, none⟩) (by simp)).trans (by go_simp)
  clear hb hb3
  go_wp2
  refine bodyPost_ret (v := .agg #[.int .i64 s, .slice (some ⟨b, 0, none⟩) n n]) (by simp [results, Tryz.results26, go_sem, c10, c11]) rfl ⟨b, rfl, ?_, ((hbw.setCell (by simp; omega) _).setCell (by simp) _).setCell (by simp) _⟩
  have hk : ∀ i o v (u : World), w.heap.size + 1 ≤ i → i < w.heap.size + 1 + 1 + 1 → OL (InR (w.heap.size + 1 + 1 + 1) w1.heap.size) (some ⟨b, 0, none⟩) n ls u → OL (InR (w.heap.size + 1 + 1 + 1) w1.heap.size) (some ⟨b, 0, none⟩) n ls (u.setCell ⟨i, o, none⟩ v) := fun i o v u h1 h2 h =>
    OL.loc u _ (fun k hk _ => Below.heap_setCell _ _ _ _ (fun e => by have := hk.1; simp at e; omega)) h
  exact (hk _ _ _ _ (by omega) (by omega) (hk _ _ _ _ (by omega) (by omega) (hk _ _ _ _ (by omega) (by omega) hh))).mono (fun k hk => ⟨by have := hk.1; omega, by simpa using hk.2⟩)

set_option maxRecDepth 100000 in
theorem eqLine_calls (d t p : Int) (w : World) :
    Calls Tryz.prog 126 #[.agg #[.int .i64 d, .int .i64 t, .int .i64 p], .agg #[.int .i64 d, .int .i64 t, .int .i64 p]] w fun e w' => e = .returned (.bool true) ∧ Below w.heap.size w w' := by
  have h1 : (d != d) = false := by simp
  have h2 : (t != t) = false := by simp
  have h3 : (p != p) = false := by simp
  go_enter Tryz.func126, Tryz.ntmps126
  go_wp2
  go_ret
  exact ⟨rfl, ((Below.refl _ _).alloc (Nat.le_refl _) _).alloc (by simp) _⟩

/-- six cells of a world that later worlds keep: for a region's loads. -/
theorem held6 {W X Y : World} {A B C D E F : Addr} {a b c d e f : Value} (hA : A.block < W.heap.size) (hB : B.block < W.heap.size) (hC : C.block < W.heap.size) (hD : D.block < W.heap.size) (hE : E.block < W.heap.size) (hF : F.block < W.heap.size)
    (h : X.cell? A = some a ∧ X.cell? B = some b ∧ X.cell? C = some c ∧ X.cell? D = some d ∧ X.cell? E = some e ∧ X.cell? F = some f ∧ Below W.heap.size W X) (g : Below X.heap.size X Y) :
    Y.cell? A = some a ∧ Y.cell? B = some b ∧ Y.cell? C = some c ∧ Y.cell? D = some d ∧ Y.cell? E = some e ∧ Y.cell? F = some f ∧ Below W.heap.size W Y := by
  obtain ⟨h1, h2, h3, h4, h5, h6, hb⟩ := h
  have hz := hb.size
  exact ⟨(g.cell (by omega)).trans h1, (g.cell (by omega)).trans h2, (g.cell (by omega)).trans h3, (g.cell (by omega)).trans h4, (g.cell (by omega)).trans h5, (g.cell (by omega)).trans h6, hb.trans (g.mono hz)⟩

set_option maxRecDepth 100000 in
theorem eqLineS_calls (a b : Option Addr) (n ca cb : Nat) (ls : List (Int × Int × Int)) (w : World) (hn : n ≤ maxLen) (hx : Sln w a n ls) (hy : Sln w b n ls) :
    Calls Tryz.prog 83 #[.slice a n ca, .slice b n cb] w fun e w' => e = .returned (.bool true) ∧ Below w.heap.size w w' := by
  unfold maxLen at hn
  obtain ⟨hlen, hx⟩ := hx
  obtain ⟨_, hy⟩ := hy
  have hnn : ((n : Int) == (n : Int)) = true := by simp
  go_enter Tryz.func83, Tryz.ntmps83
  go_wp2
  go_loopw [5] (fun i wr => ∃ k : Nat, k ≤ n ∧ i = .int .i64 k ∧ Below w.heap.size w wr) (fun i _ => n - (intOf i).toNat)
  case atStart => exact ⟨0, Nat.zero_le _, rfl, Below.refl _ _⟩
  case round =>
    obtain ⟨k, hk, rfl, hbel⟩ := hrel
    by_cases hlt : k < n
    · obtain ⟨b1, o1, rfl, hb1, hc1⟩ := hx (by omega)
      obtain ⟨b2, o2, rfl, hb2, hc2⟩ := hy (by omega)
      obtain ⟨p0, p1, p2⟩ := cells3 hc1 hlt
      obtain ⟨r0, r1, r2⟩ := cells3 hc2 hlt
      have hp0 := (hbel.cell (p := ⟨b1, o1 + k * 3, none⟩) hb1).trans p0
      have hp1 := (hbel.cell (p := ⟨b1, o1 + k * 3 + 1, none⟩) hb1).trans p1
      have hp2 := (hbel.cell (p := ⟨b1, o1 + k * 3 + 2, none⟩) hb1).trans p2
      have hq0 := (hbel.cell (p := ⟨b2, o2 + k * 3, none⟩) hb2).trans r0
      have hq1 := (hbel.cell (p := ⟨b2, o2 + k * 3 + 1, none⟩) hb2).trans r1
      have hq2 := (hbel.cell (p := ⟨b2, o2 + k * 3 + 2, none⟩) hb2).trans r2
      clear p0 p1 p2 r0 r1 r2 hc1 hc2
      have i0 : (0 : Int) ≤ (k : Int) := by omega
      have i1 : (k : Int) < (n : Int) := by omega
      have k1 : b1 < wr.heap.size := by have := hbel.size; omega
      have k2 : b2 < wr.heap.size := by have := hbel.size; omega
      have HS0 : Hid (wr.drew.cell? ⟨b1, o1 + k * 3, none⟩ = some (.int .i64 (g3 ls k).1) ∧ wr.drew.cell? ⟨b1, o1 + k * 3 + 1, none⟩ = some (.int .i64 (g3 ls k).2.1) ∧ wr.drew.cell? ⟨b1, o1 + k * 3 + 2, none⟩ = some (.int .i64 (g3 ls k).2.2) ∧ wr.drew.cell? ⟨b2, o2 + k * 3, none⟩ = some (.int .i64 (g3 ls k).1) ∧ wr.drew.cell? ⟨b2, o2 + k * 3 + 1, none⟩ = some (.int .i64 (g3 ls k).2.1) ∧ wr.drew.cell? ⟨b2, o2 + k * 3 + 2, none⟩ = some (.int .i64 (g3 ls k).2.2) ∧ Below wr.heap.size wr wr.drew) := ⟨hp0, hp1, hp2, hq0, hq1, hq2, (Below.refl _ _).drew⟩
      go_wp2_with fail
      clear hp0 hp1 hp2 hq0 hq1 hq2
      go_region_held2 (fun w' => w'.cell? ⟨b1, o1 + k * 3, none⟩ = some (.int .i64 (g3 ls k).1) ∧ w'.cell? ⟨b1, o1 + k * 3 + 1, none⟩ = some (.int .i64 (g3 ls k).2.1) ∧ w'.cell? ⟨b1, o1 + k * 3 + 2, none⟩ = some (.int .i64 (g3 ls k).2.2) ∧ w'.cell? ⟨b2, o2 + k * 3, none⟩ = some (.int .i64 (g3 ls k).1) ∧ w'.cell? ⟨b2, o2 + k * 3 + 1, none⟩ = some (.int .i64 (g3 ls k).2.1) ∧ w'.cell? ⟨b2, o2 + k * 3 + 2, none⟩ = some (.int .i64 (g3 ls k).2.2) ∧ Below wr.heap.size wr w')
        (first | with_reducible exact HS0.out | with_reducible assumption)
        (first
          | (go_at_call 126; refine (eqLine_calls (g3 ls k).1 (g3 ls k).2.1 (g3 ls k).2.2 _).mono ?_; rintro e v1 ⟨rfl, g1⟩; have hs1 := held6 (W := wr) k1 k1 k1 k2 k2 k2 (by with_reducible assumption) g1; clear g1))
      have HE := hide (hbel.trans (hs1.2.2.2.2.2.2.mono hbel.size))
      clear hs1 HS0
      go_wp2
      go_roundw
      case rel => exact ⟨k + 1, by omega, by go_num, HE.out⟩
      case measure => simp [intOf]; omega
    · go_wp2
      go_ret
      exact ⟨rfl, hbel⟩

set_option maxRecDepth 100000 in
theorem eqCache_calls (s : Int) (a b : Option Addr) (n ca cb : Nat) (ls : List (Int × Int × Int)) (w : World) (hn : n ≤ maxLen) (hx : Sln w a n ls) (hy : Sln w b n ls) :
    Calls Tryz.prog 34 #[.agg #[.int .i64 s, .slice a n ca], .agg #[.int .i64 s, .slice b n cb]] w fun e w' => e = .returned (.bool true) ∧ Below w.heap.size w w' := by
  have h1 : (s != s) = false := by simp
  have hb2 := fun o1 o2 => ((Below.refl w.heap.size w).alloc (Nat.le_refl _) o1).alloc (by simp) o2
  go_enter Tryz.func34, Tryz.ntmps34
  go_wp2_with fail
  refine (eqLineS_calls a b n ca cb ls _ hn (hx.below (hb2 _ _) (Nat.le_refl _)) (hy.below (hb2 _ _) (Nat.le_refl _))).mono ?_
  rintro e w1 ⟨rfl, hb⟩
  have hbw : Below w.heap.size w w1 := (hb2 _ _).trans (hb.mono (by simp; omega))
  clear hb hb2
  go_wp2
  go_ret
  exact ⟨rfl, hbw⟩

def okL (x : Int × Int × Int) : Bool := decide (0 ≤ x.1) && decide (x.1 ≤ 3) && (decide (0 ≤ x.2.1) && decide (x.2.1 ≤ 6)) && (decide (0 ≤ x.2.2) && decide (x.2.2 ≤ 7))

def hitL (d t : Int) (x : Int × Int × Int) : Bool := decide (x.1 = d) && decide (x.2.1 = t)

/-- the place of the first line of d and t; -1: none. -/
def atK (ls : List (Int × Int × Int)) (d t : Int) : Int :=
  match (List.range ls.length).find? (fun i => hitL d t (g3 ls i)) with
  | some i => (i : Int)
  | none => -1

theorem findL {p : Nat → Bool} {n k : Nat} (hk : k < n) (hno : ∀ j, j < k → p j = false) (hp : p k = true) : (List.range n).find? p = some k := by
  rw [List.find?_range_eq_some]
  exact ⟨hp, by simpa using hk, fun j hj => by simp [hno j hj]⟩

theorem findN {p : Nat → Bool} {n : Nat} (hno : ∀ j, j < n → p j = false) : (List.range n).find? p = none := by
  rw [List.find?_eq_none]
  intro j hj
  simp [hno j (List.mem_range.1 hj)]

theorem atK_hit {ls : List (Int × Int × Int)} {d t : Int} {k : Nat} (hk : k < ls.length) (hno : ∀ j, j < k → hitL d t (g3 ls j) = false) (hp : hitL d t (g3 ls k) = true) : atK ls d t = (k : Int) := by
  unfold atK
  rw [findL hk hno hp]

theorem atK_none {ls : List (Int × Int × Int)} {d t : Int} (hno : ∀ j, j < ls.length → hitL d t (g3 ls j) = false) : atK ls d t = -1 := by
  unfold atK
  rw [findN hno]

/-- the first k lines are not of d and t, or one of them is. -/
theorem hit_or (ls : List (Int × Int × Int)) (d t : Int) : ∀ k : Nat, (∀ j, j < k → hitL d t (g3 ls j) = false) ∨ ∃ i, i < k ∧ (∀ j, j < i → hitL d t (g3 ls j) = false) ∧ hitL d t (g3 ls i) = true
  | 0 => .inl (fun j hj => by omega)
  | k + 1 => by
    rcases hit_or ls d t k with h | ⟨i, h1, h2, h3⟩
    · by_cases e : hitL d t (g3 ls k) = true
      · exact .inr ⟨k, by omega, h, e⟩
      · refine .inl (fun j hj => ?_)
        by_cases e2 : j = k
        · subst e2; simpa using e
        · exact h j (by omega)
    · exact .inr ⟨i, by omega, h2, h3⟩

theorem hitL_self (x : Int × Int × Int) : hitL x.1 x.2.1 x = true := by simp [hitL]

/-- ahead of line k none is of its domain and tag, just where it is the first of them. -/
theorem atK_take {ls : List (Int × Int × Int)} {k : Nat} (hk : k < ls.length) : (atK (ls.take k) (g3 ls k).1 (g3 ls k).2.1 < 0) ↔ atK ls (g3 ls k).1 (g3 ls k).2.1 = (k : Int) := by
  rcases hit_or ls (g3 ls k).1 (g3 ls k).2.1 k with h | ⟨i, h1, h2, h3⟩
  · have e1 : atK (ls.take k) (g3 ls k).1 (g3 ls k).2.1 = -1 := atK_none (fun j hj => by rw [List.length_take] at hj; rw [g3_take ls (by omega)]; exact h j (by omega))
    have e2 : atK ls (g3 ls k).1 (g3 ls k).2.1 = (k : Int) := atK_hit hk h (hitL_self _)
    rw [e1, e2]; omega
  · have e1 : atK (ls.take k) (g3 ls k).1 (g3 ls k).2.1 = (i : Int) := atK_hit (by rw [List.length_take]; omega) (fun j hj => by rw [g3_take ls (by omega)]; exact h2 j hj) (by rw [g3_take ls h1]; exact h3)
    have e2 : atK ls (g3 ls k).1 (g3 ls k).2.1 = (i : Int) := atK_hit (by omega) h2 h3
    rw [e1, e2]; omega

/-- what is wrong with line i. -/
def lineF (ls : List (Int × Int × Int)) (i : Nat) : Int :=
  if okL (g3 ls i) = false then 3 else if atK ls (g3 ls i).1 (g3 ls i).2.1 = (i : Int) then 0 else 8

theorem lineF_range {ls : List (Int × Int × Int)} {i : Nat} (h : okL (g3 ls i) = false) : lineF ls i = 3 := if_pos h

theorem lineF_state {ls : List (Int × Int × Int)} {i : Nat} (h : okL (g3 ls i) = true) (h2 : atK ls (g3 ls i).1 (g3 ls i).2.1 ≠ (i : Int)) : lineF ls i = 8 := by
  unfold lineF
  rw [if_neg (by rw [h]; simp), if_neg h2]

theorem lineF_ok {ls : List (Int × Int × Int)} {i : Nat} (h : okL (g3 ls i) = true) (h2 : atK ls (g3 ls i).1 (g3 ls i).2.1 = (i : Int)) : lineF ls i = 0 := by
  unfold lineF
  rw [if_neg (by rw [h]; simp), if_pos h2]

def faultC (s : Int) (ls : List (Int × Int × Int)) : Int :=
  if (decide (0 ≤ s) && decide (s ≤ 6)) = false then 3
  else if s < (ls.length : Int) then 2
  else match (List.range ls.length).find? (fun i => !(lineF ls i == 0)) with
    | some i => lineF ls i
    | none => 0

theorem faultC_size {s : Int} {ls : List (Int × Int × Int)} (h : (decide (0 ≤ s) && decide (s ≤ 6)) = false) : faultC s ls = 3 := if_pos h

theorem faultC_many {s : Int} {ls : List (Int × Int × Int)} (h : (decide (0 ≤ s) && decide (s ≤ 6)) = true) (h2 : s < (ls.length : Int)) : faultC s ls = 2 := by
  unfold faultC
  rw [if_neg (by rw [h]; simp), if_pos h2]

theorem faultC_hit {s : Int} {ls : List (Int × Int × Int)} {k : Nat} (h : (decide (0 ≤ s) && decide (s ≤ 6)) = true) (h2 : ¬ s < (ls.length : Int)) (hk : k < ls.length) (hno : ∀ j, j < k → lineF ls j = 0) (hp : lineF ls k ≠ 0) : faultC s ls = lineF ls k := by
  unfold faultC
  rw [if_neg (by rw [h]; simp), if_neg h2, findL hk (fun j hj => by simp [hno j hj]) (by simpa using hp)]

theorem faultC_ok {s : Int} {ls : List (Int × Int × Int)} (h : (decide (0 ≤ s) && decide (s ≤ 6)) = true) (h2 : ¬ s < (ls.length : Int)) (hno : ∀ j, j < ls.length → lineF ls j = 0) : faultC s ls = 0 := by
  unfold faultC
  rw [if_neg (by rw [h]; simp), if_neg h2, findN (fun j hj => by simp [hno j hj])]

theorem faultC_inv {s : Int} {ls : List (Int × Int × Int)} (h : faultC s ls = 0) : 0 ≤ s ∧ s ≤ 6 ∧ (ls.length : Int) ≤ s ∧ ∀ j, j < ls.length → okL (g3 ls j) = true ∧ atK ls (g3 ls j).1 (g3 ls j).2.1 = (j : Int) := by
  by_cases h1 : (decide (0 ≤ s) && decide (s ≤ 6)) = true
  · by_cases h2 : s < (ls.length : Int)
    · rw [faultC_many h1 h2] at h; omega
    · have hb : 0 ≤ s ∧ s ≤ 6 := by simpa using h1
      refine ⟨hb.1, hb.2, by omega, ?_⟩
      have hall : ∀ j, j < ls.length → lineF ls j = 0 := by
        unfold faultC at h
        rw [if_neg (by rw [h1]; simp), if_neg h2] at h
        intro j hj
        cases hf : (List.range ls.length).find? (fun i => !(lineF ls i == 0)) with
        | none =>
          rw [List.find?_eq_none] at hf
          have := hf j (List.mem_range.2 hj)
          simpa using this
        | some i =>
          rw [hf] at h
          have := List.find?_some hf
          simp at this
          exact absurd h this
      intro j hj
      have h3 := hall j hj
      unfold lineF at h3
      by_cases e1 : okL (g3 ls j) = false
      · rw [if_pos e1] at h3; omega
      · rw [if_neg e1] at h3
        by_cases e2 : atK ls (g3 ls j).1 (g3 ls j).2.1 = (j : Int)
        · exact ⟨by simpa using e1, e2⟩
        · rw [if_neg e2] at h3; omega
  · rw [faultC_size (by simpa using h1)] at h; omega

/-- the code of what is wrong up to line k is that of all. -/
theorem faultC_at {s : Int} {ls : List (Int × Int × Int)} {k : Nat} {c : Int} (h : (decide (0 ≤ s) && decide (s ≤ 6)) = true) (h2 : ¬ s < (ls.length : Int)) (hk : k < ls.length) (hno : ∀ j, j < k → lineF ls j = 0) (hc : lineF ls k = c) (h0 : c ≠ 0) : faultC s ls = c := by
  rw [faultC_hit h h2 hk hno (by rw [hc]; exact h0), hc]

set_option maxRecDepth 100000 in
theorem l4Line_calls (b o : Nat) (d t p : Int) (w : World) (c0 : w.cell? ⟨b, o, none⟩ = some (.int .i64 d)) (c1 : w.cell? ⟨b, o + 1, none⟩ = some (.int .i64 t)) (c2 : w.cell? ⟨b, o + 2, none⟩ = some (.int .i64 p)) :
    Calls Tryz.prog 101 #[.pointer (some ⟨b, o, none⟩)] w fun e w' => e = .returned (.bool (okL (d, t, p))) ∧ Below w.heap.size w w' := by
  have hb : b < w.heap.size := World.block_lt_of_cell? _ _ c0
  by_cases h1 : (decide (0 ≤ d) && decide (d ≤ 3)) = true
  · by_cases h2 : (decide (0 ≤ t) && decide (t ≤ 6)) = true
    · have HR : Hid (okL (d, t, p) = (decide (0 ≤ p) && decide (p ≤ 7))) := by show okL _ = _; simp [okL, h1, h2]
      go_enter Tryz.func101, Tryz.ntmps101
      go_wp2_with fail
      refine (in_calls d 0 3 _).mono ?_
      rintro e w1 ⟨rfl, g1⟩
      rw [h1]
      have c1' := (g1.cell (p := ⟨b, o + 1, none⟩) hb).trans c1
      have c2' := (g1.cell (p := ⟨b, o + 2, none⟩) hb).trans c2
      clear c0 c1 c2
      go_wp2_with fail
      refine (in_calls t 0 6 _).mono ?_
      rintro e w2 ⟨rfl, g2⟩
      rw [h2]
      have g3 := g1.trans (g2.mono g1.size)
      have c2'' := (g2.cell (p := ⟨b, o + 2, none⟩) (by have := g1.size; show b < _; omega)).trans c2'
      clear c1' c2' g1 g2
      go_wp2_with fail
      refine (in_calls p 0 7 _).mono ?_
      rintro e w3 ⟨rfl, g4⟩
      have HB := hide (g3.trans (g4.mono g3.size))
      clear g3 g4
      rw [← HR.out]
      go_wp2
      go_ret
      exact ⟨rfl, HB.out⟩
    · have h2' : (decide (0 ≤ t) && decide (t ≤ 6)) = false := by simpa using h2
      have HR : Hid (okL (d, t, p) = false) := by show okL _ = _; unfold okL; simp only; rw [h2']; simp
      clear h2
      go_enter Tryz.func101, Tryz.ntmps101
      go_wp2_with fail
      refine (in_calls d 0 3 _).mono ?_
      rintro e w1 ⟨rfl, g1⟩
      rw [h1]
      have c1' := (g1.cell (p := ⟨b, o + 1, none⟩) hb).trans c1
      clear c0 c1 c2
      go_wp2_with fail
      refine (in_calls t 0 6 _).mono ?_
      rintro e w2 ⟨rfl, g2⟩
      rw [h2']
      have HB := hide (g1.trans (g2.mono g1.size))
      clear c1' g1 g2
      go_wp2
      go_ret
      exact ⟨ret_bool HR.out.symm, HB.out⟩
  · have h1' : (decide (0 ≤ d) && decide (d ≤ 3)) = false := by simpa using h1
    have HR : Hid (okL (d, t, p) = false) := by show okL _ = _; unfold okL; simp only; rw [h1']; simp
    clear h1
    go_enter Tryz.func101, Tryz.ntmps101
    go_wp2_with fail
    refine (in_calls d 0 3 _).mono ?_
    rintro e w1 ⟨rfl, g1⟩
    rw [h1']
    have HB := hide g1
    clear c0 c1 c2 g1
    go_wp2
    go_ret
    exact ⟨ret_bool HR.out.symm, HB.out⟩

/-- three cells of a world that later worlds keep: for a region's loads. -/
theorem held3 {W X Y : World} {A B C : Addr} {a b c : Value} (hA : A.block < W.heap.size) (hB : B.block < W.heap.size) (hC : C.block < W.heap.size)
    (h : X.cell? A = some a ∧ X.cell? B = some b ∧ X.cell? C = some c ∧ Below W.heap.size W X) (g : Below X.heap.size X Y) :
    Y.cell? A = some a ∧ Y.cell? B = some b ∧ Y.cell? C = some c ∧ Below W.heap.size W Y := by
  obtain ⟨h1, h2, h3, hb⟩ := h
  have hz := hb.size
  exact ⟨(g.cell (by omega)).trans h1, (g.cell (by omega)).trans h2, (g.cell (by omega)).trans h3, hb.trans (g.mono hz)⟩

set_option maxRecDepth 100000 in
theorem isInBounds_calls (d t p : Int) (w : World) :
    Calls Tryz.prog 114 #[.agg #[.int .i64 d, .int .i64 t, .int .i64 p]] w fun e w' => e = .returned (.bool (okL (d, t, p))) ∧ Below w.heap.size w w' := by
  have HB := hide fun o => (Below.refl w.heap.size w).alloc (Nat.le_refl _) o
  by_cases h1 : 0 ≤ d
  · by_cases h2 : d < 4
    · by_cases h3 : 0 ≤ t
      · by_cases h4 : t ≤ 6
        · by_cases h5 : 0 ≤ p
          · by_cases h6 : p ≤ 7
            all_goals
              go_enter Tryz.func114, Tryz.ntmps114
              go_wp2
              go_ret
              exact ⟨ret_bool (by simp [okL]; omega), HB.out _⟩
          · go_enter Tryz.func114, Tryz.ntmps114
            go_wp2
            go_ret
            exact ⟨ret_bool (by simp [okL]; omega), HB.out _⟩
        · go_enter Tryz.func114, Tryz.ntmps114
          go_wp2
          go_ret
          exact ⟨ret_bool (by simp [okL]; omega), HB.out _⟩
      · go_enter Tryz.func114, Tryz.ntmps114
        go_wp2
        go_ret
        exact ⟨ret_bool (by simp [okL]; omega), HB.out _⟩
    · go_enter Tryz.func114, Tryz.ntmps114
      go_wp2
      go_ret
      exact ⟨ret_bool (by simp [okL]; omega), HB.out _⟩
  · go_enter Tryz.func114, Tryz.ntmps114
    go_wp2
    go_ret
    exact ⟨ret_bool (by simp [okL]; omega), HB.out _⟩

set_option maxRecDepth 100000 in
theorem withoutPerm_calls (d t p : Int) (w : World) :
    Calls Tryz.prog 116 #[.agg #[.int .i64 d, .int .i64 t, .int .i64 p]] w fun e w' => e = .returned (.agg #[.int .i64 d, .int .i64 t, .int .i64 0]) ∧ Below w.heap.size w w' := by
  have HB := hide fun o1 o2 => ((Below.refl w.heap.size w).alloc (Nat.le_refl _) o1).alloc (by simp) o2
  go_enter Tryz.func116, Tryz.ntmps116
  go_wp2
  refine bodyPost_ret (v := .agg #[.int .i64 d, .int .i64 t, .int .i64 0]) (by simp [results, Tryz.results116, go_sem]) rfl ⟨rfl, ?_⟩
  first
    | exact HB.out _ _
    | exact ((((HB.out _ _).setCell (by simp) _).setCell (by simp) _).setCell (by simp) _).setCell (by simp) _

set_option maxRecDepth 100000 in
theorem placeOf_calls (a : Option Addr) (n c : Nat) (ls : List (Int × Int × Int)) (d t : Int) (w : World) (hn : n ≤ maxLen) (hs : Sln w a n ls) :
    Calls Tryz.prog 115 #[.slice a n c, .agg #[.int .i64 d, .int .i64 t, .int .i64 0]] w fun e w' => e = .returned (.int .i64 (atK ls d t)) ∧ Below w.heap.size w w' := by
  unfold maxLen at hn
  obtain ⟨hlen, hs⟩ := hs
  have M0 := (Mm.start w).alloc3 (.int .i64 d) (.int .i64 t) (.int .i64 0) 160
  go_enter Tryz.func115, Tryz.ntmps115
  go_wp2
  go_loopw [9] (fun i wr => ∃ k : Nat, k ≤ n ∧ i = .int .i64 k ∧ Mm w wr [(w.heap.size, 0, .int .i64 d), (w.heap.size, 1, .int .i64 t), (w.heap.size, 2, .int .i64 0)] [] ∧ ∀ j, j < k → hitL d t (g3 ls j) = false) (fun i _ => n - (intOf i).toNat)
  case atStart => exact ⟨0, Nat.zero_le _, rfl, M0, fun j hj => by omega⟩
  case round =>
    clear M0
    obtain ⟨k, hk, rfl, M, hno⟩ := hrel
    by_cases hlt : k < n
    · obtain ⟨b, off, rfl, hb, hc⟩ := hs (by omega)
      obtain ⟨r0, r1, r2⟩ := cells3 hc hlt
      have p0 := (M.bel.cell (p := ⟨b, off + k * 3, none⟩) hb).trans r0
      have p1 := (M.bel.cell (p := ⟨b, off + k * 3 + 1, none⟩) hb).trans r1
      have p2 := (M.bel.cell (p := ⟨b, off + k * 3 + 2, none⟩) hb).trans r2
      clear hc r0 r1 r2
      obtain ⟨X, hX⟩ : ∃ X, X = wr.alloc (.cells #[.int .i64 (g3 ls k).1, .int .i64 (g3 ls k).2.1, .int .i64 (g3 ls k).2.2] 160) := ⟨_, rfl⟩
      have M1 := M.alloc3 (.int .i64 (g3 ls k).1) (.int .i64 (g3 ls k).2.1) (.int .i64 (g3 ls k).2.2) 160
      rw [← hX] at M1
      have q0 := M.cell 0 rfl
      have q1 := M.cell 1 rfl
      have q2 := M.cell 2 rfl
      have k1 : wr.heap.size < X.heap.size := M1.lt 0 rfl
      have k2 : w.heap.size < X.heap.size := M1.lt 3 rfl
      have i0 : (0 : Int) ≤ (k : Int) := by omega
      have i1 : (k : Int) < (n : Int) := by omega
      have HS0 : Hid (X.drew.cell? ⟨wr.heap.size, 0, none⟩ = some (.int .i64 (g3 ls k).1) ∧ X.drew.cell? ⟨wr.heap.size, 1, none⟩ = some (.int .i64 (g3 ls k).2.1) ∧ X.drew.cell? ⟨wr.heap.size, 2, none⟩ = some (.int .i64 (g3 ls k).2.2) ∧ X.drew.cell? ⟨w.heap.size, 0, none⟩ = some (.int .i64 d) ∧ X.drew.cell? ⟨w.heap.size, 1, none⟩ = some (.int .i64 t) ∧ X.drew.cell? ⟨w.heap.size, 2, none⟩ = some (.int .i64 0) ∧ Below X.heap.size X X.drew) := ⟨M1.cell 0 rfl, M1.cell 1 rfl, M1.cell 2 rfl, M1.cell 3 rfl, M1.cell 4 rfl, M1.cell 5 rfl, (Below.refl _ _).drew⟩
      have HM := hide ((M1.sub (cs' := [(w.heap.size, 0, .int .i64 d), (w.heap.size, 1, .int .i64 t), (w.heap.size, 2, .int .i64 0)]) (fun _ h => List.mem_cons_of_mem _ (List.mem_cons_of_mem _ (List.mem_cons_of_mem _ h))) (fun _ h => h)))
      have HX := hide hX
      clear M M1 hX
      by_cases h1 : (g3 ls k).1 = d
      · have e1 := eq_true h1
        by_cases h2 : (g3 ls k).2.1 = t
        · have e2 := eq_true h2
          have HR := hide (atK_hit (by omega) hno (show hitL d t (g3 ls k) = true by simp [hitL, h1, h2]))
          clear h1 h2
          go_wp2_with fail
          rw [← HX.out]
          clear p0 p1 p2 q0 q1 q2
          go_region_held2 (fun w' => w'.cell? ⟨wr.heap.size, 0, none⟩ = some (.int .i64 (g3 ls k).1) ∧ w'.cell? ⟨wr.heap.size, 1, none⟩ = some (.int .i64 (g3 ls k).2.1) ∧ w'.cell? ⟨wr.heap.size, 2, none⟩ = some (.int .i64 (g3 ls k).2.2) ∧ w'.cell? ⟨w.heap.size, 0, none⟩ = some (.int .i64 d) ∧ w'.cell? ⟨w.heap.size, 1, none⟩ = some (.int .i64 t) ∧ w'.cell? ⟨w.heap.size, 2, none⟩ = some (.int .i64 0) ∧ Below X.heap.size X w')
            (first | with_reducible exact HS0.out | with_reducible assumption)
            (first
              | (go_at_call 116; refine (withoutPerm_calls (g3 ls k).1 (g3 ls k).2.1 (g3 ls k).2.2 _).mono ?_; rintro e v1 ⟨rfl, ga⟩; have hs1 := held6 (W := X) k1 k1 k1 k2 k2 k2 (by with_reducible assumption) ga; clear ga))
          have HE := hide (HM.out.below hs1.2.2.2.2.2.2).bel
          clear hs1 HS0
          go_wp2
          go_ret
          exact ⟨ret_int HR.out.symm, HE.out⟩
        · have HN : Hid (∀ j, j < k + 1 → hitL d t (g3 ls j) = false) := fun j hj => by
            by_cases e : j = k
            · subst e; simp [hitL, h2]
            · exact hno j (by omega)
          clear h1
          go_wp2_with fail
          rw [← HX.out]
          clear p0 p1 p2 q0 q1 q2
          go_region_held2 (fun w' => w'.cell? ⟨wr.heap.size, 0, none⟩ = some (.int .i64 (g3 ls k).1) ∧ w'.cell? ⟨wr.heap.size, 1, none⟩ = some (.int .i64 (g3 ls k).2.1) ∧ w'.cell? ⟨wr.heap.size, 2, none⟩ = some (.int .i64 (g3 ls k).2.2) ∧ w'.cell? ⟨w.heap.size, 0, none⟩ = some (.int .i64 d) ∧ w'.cell? ⟨w.heap.size, 1, none⟩ = some (.int .i64 t) ∧ w'.cell? ⟨w.heap.size, 2, none⟩ = some (.int .i64 0) ∧ Below X.heap.size X w')
            (first | with_reducible exact HS0.out | with_reducible assumption)
            (first
              | (go_at_call 116; refine (withoutPerm_calls (g3 ls k).1 (g3 ls k).2.1 (g3 ls k).2.2 _).mono ?_; rintro e v1 ⟨rfl, ga⟩; have hs1 := held6 (W := X) k1 k1 k1 k2 k2 k2 (by with_reducible assumption) ga; clear ga))
          have HE := hide (HM.out.below hs1.2.2.2.2.2.2)
          clear hs1 HS0
          go_wp2
          go_roundw
          case rel => exact ⟨k + 1, by omega, by go_num, HE.out, HN.out⟩
          case measure => simp [intOf]; omega
      · have HN : Hid (∀ j, j < k + 1 → hitL d t (g3 ls j) = false) := fun j hj => by
          by_cases e : j = k
          · subst e; simp [hitL, h1]
          · exact hno j (by omega)
        go_wp2_with fail
        rw [← HX.out]
        clear p0 p1 p2 q0 q1 q2
        go_region_held2 (fun w' => w'.cell? ⟨wr.heap.size, 0, none⟩ = some (.int .i64 (g3 ls k).1) ∧ w'.cell? ⟨wr.heap.size, 1, none⟩ = some (.int .i64 (g3 ls k).2.1) ∧ w'.cell? ⟨wr.heap.size, 2, none⟩ = some (.int .i64 (g3 ls k).2.2) ∧ w'.cell? ⟨w.heap.size, 0, none⟩ = some (.int .i64 d) ∧ w'.cell? ⟨w.heap.size, 1, none⟩ = some (.int .i64 t) ∧ w'.cell? ⟨w.heap.size, 2, none⟩ = some (.int .i64 0) ∧ Below X.heap.size X w')
          (first | with_reducible exact HS0.out | with_reducible assumption)
          (first
            | (go_at_call 116; refine (withoutPerm_calls (g3 ls k).1 (g3 ls k).2.1 (g3 ls k).2.2 _).mono ?_; rintro e v1 ⟨rfl, ga⟩; have hs1 := held6 (W := X) k1 k1 k1 k2 k2 k2 (by with_reducible assumption) ga; clear ga))
        have HE := hide (HM.out.below hs1.2.2.2.2.2.2)
        clear hs1 HS0
        go_wp2
        go_roundw
        case rel => exact ⟨k + 1, by omega, by go_num, HE.out, HN.out⟩
        case measure => simp [intOf]; omega
    · have HR := hide (atK_none (ls := ls) (fun j hj => hno j (by omega)))
      have HM := hide M.bel
      clear M
      go_wp2
      go_ret
      exact ⟨ret_int HR.out.symm, HM.out⟩

set_option maxRecDepth 100000 in
set_option maxHeartbeats 1000000 in
theorem implCacheFault_calls (s : Int) (a : Option Addr) (n c : Nat) (ls : List (Int × Int × Int)) (w : World) (hn : n ≤ maxLen) (hnc : n ≤ c) (hs : Sln w a n ls) :
    Calls Tryz.prog 74 #[.agg #[.int .i64 s, .slice a n c]] w fun e w' => e = .returned (.int .i64 (faultC s ls)) ∧ Below w.heap.size w w' := by
  unfold maxLen at hn
  have hlen := hs.1
  have M0 := (Mm.start w).alloc2 (.int .i64 s) (.slice a n c) 50
  have HB0 := hide M0.bel
  by_cases h1 : 0 ≤ s
  rotate_left
  · have HR := hide (faultC_size (s := s) (ls := ls) (by simp; omega))
    clear M0
    go_enter Tryz.func74, Tryz.ntmps74
    go_wp2
    go_ret
    exact ⟨ret_int HR.out.symm, HB0.out⟩
  by_cases h2 : s ≤ 6
  rotate_left
  · have HR := hide (faultC_size (s := s) (ls := ls) (by simp; omega))
    have h2' : 6 < s := by omega
    clear M0
    go_enter Tryz.func74, Tryz.ntmps74
    go_wp2
    go_ret
    exact ⟨ret_int HR.out.symm, HB0.out⟩
  have h12 : (decide (0 ≤ s) && decide (s ≤ 6)) = true := by simp [h1, h2]
  have HH1 := hide h12
  clear h12
  by_cases h3 : s < (n : Int)
  · have HR := hide (faultC_many (ls := ls) HH1.out (by omega))
    clear M0
    go_enter Tryz.func74, Tryz.ntmps74
    go_wp2
    go_ret
    exact ⟨ret_int HR.out.symm, HB0.out⟩
  go_enter Tryz.func74, Tryz.ntmps74
  go_wp2
  go_loopw [22] (fun i wr => ∃ k : Nat, k ≤ n ∧ i = .int .i64 k ∧ Mm w wr [(w.heap.size, 0, .int .i64 s), (w.heap.size, 1, .slice a n c)] [] ∧ ∀ j, j < k → lineF ls j = 0) (fun i _ => n - (intOf i).toNat)
  case atStart => exact ⟨0, Nat.zero_le _, rfl, M0, fun j hj => by omega⟩
  case round =>
    clear M0 HB0
    obtain ⟨k, hk, rfl, M, hno⟩ := hrel
    by_cases hlt : k < n
    · have HSR := hide (hs.below M.bel (Nat.le_refl _))
      obtain ⟨_, hs'⟩ := hs
      obtain ⟨b, off, rfl, hb, hc⟩ := hs' (by omega)
      obtain ⟨r0, r1, r2⟩ := cells3 hc hlt
      have p0 := (M.bel.cell (p := ⟨b, off + k * 3, none⟩) hb).trans r0
      have p1 := (M.bel.cell (p := ⟨b, off + k * 3 + 1, none⟩) hb).trans r1
      have p2 := (M.bel.cell (p := ⟨b, off + k * 3 + 2, none⟩) hb).trans r2
      clear hc r0 r1 r2
      have M1 := M.alloc3 (.int .i64 (g3 ls k).1) (.int .i64 (g3 ls k).2.1) (.int .i64 (g3 ls k).2.2) 160
      have HS1 := hide (HSR.out.below ((Below.refl wr.heap.size wr).alloc (Nat.le_refl _) (.cells #[.int .i64 (g3 ls k).1, .int .i64 (g3 ls k).2.1, .int .i64 (g3 ls k).2.2] 160)) (Nat.le_refl _))
      clear M
      cases hok : okL (g3 ls k) with
      | false =>
        have HR := hide (faultC_at (c := 3) HH1.out (by omega) (by omega) hno (lineF_range hok) (by omega))
        go_wp2_with fail
        refine (isInBounds_calls (g3 ls k).1 (g3 ls k).2.1 (g3 ls k).2.2 _).mono ?_
        rintro e w2 ⟨rfl, g2⟩
        have hok' : okL ((g3 ls k).1, (g3 ls k).2.1, (g3 ls k).2.2) = false := hok
        rw [hok']
        have HB := hide (M1.below g2).bel
        clear g2 hok hok' p0 p1 p2 M1
        go_wp2
        go_ret
        exact ⟨ret_int HR.out.symm, HB.out⟩
      | true =>
        go_wp2_with fail
        refine (isInBounds_calls (g3 ls k).1 (g3 ls k).2.1 (g3 ls k).2.2 _).mono ?_
        rintro e w2 ⟨rfl, g2⟩
        have hok' : okL ((g3 ls k).1, (g3 ls k).2.1, (g3 ls k).2.2) = true := hok
        rw [hok']
        have M2 := M1.below g2
        have HS2 := hide ((HS1.out.below g2 (Nat.le_refl _)).take (Nat.le_of_lt hlt))
        have k1 : wr.heap.size < w2.heap.size := M2.lt 0 rfl
        have k2 : w.heap.size < w2.heap.size := M2.lt 3 rfl
        have q1 := M2.cell 4 rfl
        have HOK := hide hok
        have i0 : (0 : Int) ≤ (k : Int) := by omega
        have i1 : (k : Int) ≤ (c : Int) := by omega
        have i2 : k ≤ c := by omega
        have HS0 : Hid (w2.drew.cell? ⟨wr.heap.size, 0, none⟩ = some (.int .i64 (g3 ls k).1) ∧ w2.drew.cell? ⟨wr.heap.size, 1, none⟩ = some (.int .i64 (g3 ls k).2.1) ∧ w2.drew.cell? ⟨wr.heap.size, 2, none⟩ = some (.int .i64 (g3 ls k).2.2) ∧ w2.drew.cell? ⟨w.heap.size, 1, none⟩ = some (.slice (some ⟨b, off, none⟩) n c) ∧ Below w2.heap.size w2 w2.drew) := ⟨M2.cell 0 rfl, M2.cell 1 rfl, M2.cell 2 rfl, M2.cell 4 rfl, (Below.refl _ _).drew⟩
        have HM := hide ((M2.sub (cs' := [(w.heap.size, 0, .int .i64 s), (w.heap.size, 1, .slice (some ⟨b, off, none⟩) n c)]) (fun _ h => List.mem_cons_of_mem _ (List.mem_cons_of_mem _ (List.mem_cons_of_mem _ h))) (fun _ h => h)))
        by_cases hat : atK (ls.take k) (g3 ls k).1 (g3 ls k).2.1 < 0
        · have hge : ¬ (0 ≤ atK (ls.take k) (g3 ls k).1 (g3 ls k).2.1) := by omega
          have HN : Hid (∀ j, j < k + 1 → lineF ls j = 0) := fun j hj => by
            by_cases e : j = k
            · subst e; exact lineF_ok HOK.out ((atK_take (by omega)).1 hat)
            · exact hno j (by omega)
          clear hat g2 hok hok' p0 p1 p2 hno M1 M2
          go_wp2_with fail
          clear q1
          go_region_held2 (fun w' => w'.cell? ⟨wr.heap.size, 0, none⟩ = some (.int .i64 (g3 ls k).1) ∧ w'.cell? ⟨wr.heap.size, 1, none⟩ = some (.int .i64 (g3 ls k).2.1) ∧ w'.cell? ⟨wr.heap.size, 2, none⟩ = some (.int .i64 (g3 ls k).2.2) ∧ w'.cell? ⟨w.heap.size, 1, none⟩ = some (.slice (some ⟨b, off, none⟩) n c) ∧ Below w2.heap.size w2 w')
              (first | with_reducible exact HS0.out | with_reducible assumption)
              (first
                | (go_at_call 116; refine (withoutPerm_calls (g3 ls k).1 (g3 ls k).2.1 (g3 ls k).2.2 _).mono ?_; rintro e v1 ⟨rfl, ga⟩; have hs1 := held4 (W := w2) k1 k1 k1 k2 (by with_reducible assumption) ga; clear ga)
                | (go_at_call 115; refine (placeOf_calls _ k c (ls.take k) _ _ _ (by unfold maxLen; omega) ?_).mono ?_; exact HS2.out.below (And.right (And.right (And.right (And.right (by with_reducible assumption))))) (Nat.le_refl _); rintro e v2 ⟨rfl, gb⟩; have hs2 := held4 (W := w2) k1 k1 k1 k2 (by with_reducible assumption) gb; clear gb))
          have HE := hide (HM.out.below hs2.2.2.2.2)
          clear hs1 hs2 HS0
          go_wp2
          go_roundw
          case rel => exact ⟨k + 1, by omega, by go_num, HE.out, HN.out⟩
          case measure => simp [intOf]; omega
        · have hge : 0 ≤ atK (ls.take k) (g3 ls k).1 (g3 ls k).2.1 := by omega
          have HR := hide (faultC_at (c := 8) HH1.out (by omega) (by omega) hno (lineF_state HOK.out (fun e => hat ((atK_take (by omega)).2 e))) (by omega))
          clear hat g2 hok hok' p0 p1 p2 hno M1 M2
          go_wp2_with fail
          clear q1
          go_region_held2 (fun w' => w'.cell? ⟨wr.heap.size, 0, none⟩ = some (.int .i64 (g3 ls k).1) ∧ w'.cell? ⟨wr.heap.size, 1, none⟩ = some (.int .i64 (g3 ls k).2.1) ∧ w'.cell? ⟨wr.heap.size, 2, none⟩ = some (.int .i64 (g3 ls k).2.2) ∧ w'.cell? ⟨w.heap.size, 1, none⟩ = some (.slice (some ⟨b, off, none⟩) n c) ∧ Below w2.heap.size w2 w')
              (first | with_reducible exact HS0.out | with_reducible assumption)
              (first
                | (go_at_call 116; refine (withoutPerm_calls (g3 ls k).1 (g3 ls k).2.1 (g3 ls k).2.2 _).mono ?_; rintro e v1 ⟨rfl, ga⟩; have hs1 := held4 (W := w2) k1 k1 k1 k2 (by with_reducible assumption) ga; clear ga)
                | (go_at_call 115; refine (placeOf_calls _ k c (ls.take k) _ _ _ (by unfold maxLen; omega) ?_).mono ?_; exact HS2.out.below (And.right (And.right (And.right (And.right (by with_reducible assumption))))) (Nat.le_refl _); rintro e v2 ⟨rfl, gb⟩; have hs2 := held4 (W := w2) k1 k1 k1 k2 (by with_reducible assumption) gb; clear gb))
          have HE := hide (HM.out.below hs2.2.2.2.2).bel
          clear hs1 hs2 HS0
          go_wp2
          go_ret
          exact ⟨ret_int HR.out.symm, HE.out⟩
    · have HR := hide (faultC_ok HH1.out (by omega) (fun j hj => hno j (by omega)))
      have HM := hide M.bel
      clear M
      go_wp2
      go_ret
      exact ⟨ret_int HR.out.symm, HM.out⟩

end Go.Proofs.YtgkjmeogdomgmaaGreat
