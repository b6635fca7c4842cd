import Derived.Test.YtnlkigjgloeonaaGreatToReg
import Derived.Test.YtnlkigjgloeonaaGreatEqReg
import Derived.Test.YtnlkigjgloeonaaGreatRegO
import Derived.WalkKit
import Derived.ProofKit
import Derived.OpenShut
import Derived.ShutString
import Derived.ChangeOld
import Derived.Below
import Derived.WalkSpells
import Derived.Deep.QuietTactic
import Derived.BigQuiet
import Derived.Deep.RegionWith
import Derived.Deep.WholeRow
import Derived.Deep.DeepCutAuto
import Derived.Deep.RegionHeld2
import Derived.Deep.AppendLies
import Derived.Deep.RegionLaw
namespace Go.Proofs.YtnlkigjgloeonaaGreat
open Go.ChangeShapes Go.WideShapes Go.ChangeAt Go.RowKit

/-- a row of n slots under copy, labels in blocks of their own, no two in one. -/
structure HalfD (w : World) (N n k : Nat) (ss : List (Int × List Int)) (lb : Nat → Nat) : Prop where
  lt : N < w.heap.size
  c0 : ∀ j, j < k → w.cell? ⟨N, j * 2, none⟩ = some (.int .i64 (gc ss j))
  c1 : ∀ j, j < k → w.cell? ⟨N, j * 2 + 1, none⟩ = some (.slice (some ⟨lb j, 0, none⟩) (gl ss j).length (gl ss j).length)
  gt : ∀ j, j < k → N < lb j
  blk : ∀ j, j < k → Blk w (lb j) (gl ss j)
  ap : ∀ i j, i < k → j < k → i ≠ j → lb i ≠ lb j
  all : ∀ j, j < n * 2 → ∃ v, w.cell? ⟨N, j, none⟩ = some v
  fz : ∀ j, w.frozen? ⟨N, j, none⟩ = false

theorem HalfD.below {w w' : World} {N n k : Nat} {ss : List (Int × List Int)} {lb : Nat → Nat} (h : HalfD w N n k ss lb) (hb : Below w.heap.size w w') : HalfD w' N n k ss lb :=
  ⟨by have := hb.size; have := h.lt; omega, fun j hj => (hb.cell (p := ⟨N, j * 2, none⟩) h.lt).trans (h.c0 j hj), fun j hj => (hb.cell (p := ⟨N, j * 2 + 1, none⟩) h.lt).trans (h.c1 j hj), h.gt, fun j hj => (h.blk j hj).below hb, h.ap,
    fun j hj => by obtain ⟨v, hv⟩ := h.all j hj; exact ⟨v, (hb.cell (p := ⟨N, j, none⟩) h.lt).trans hv⟩, fun j => (hb.frozen (p := ⟨N, j, none⟩) h.lt).trans (h.fz j)⟩

theorem HalfD.store {w0 w : World} {N n k b : Nat} {ss : List (Int × List Int)} {lb : Nat → Nat} (h0 : HalfD w0 N n k ss lb) (hw : Below w0.heap.size w0 w) (hk : k < n) (hb : w0.heap.size ≤ b) (hB : Blk w b (gl ss k)) :
    HalfD ((w.setCell ⟨N, k * 2, none⟩ (.int .i64 (gc ss k))).setCell ⟨N, k * 2 + 1, none⟩ (.slice (some ⟨b, 0, none⟩) (gl ss k).length (gl ss k).length)) N n (k + 1) ss (fun j => if j = k then b else lb j) := by
  have h := h0.below hw
  have hNb : N < b := by have := h0.lt; omega
  obtain ⟨v0, hv0⟩ := h.all (k * 2) (by omega)
  obtain ⟨v1, hv1⟩ := h.all (k * 2 + 1) (by omega)
  have ne1 : ∀ i, i ≠ k * 2 → i ≠ k * 2 + 1 → ((w.setCell ⟨N, k * 2, none⟩ (.int .i64 (gc ss k))).setCell ⟨N, k * 2 + 1, none⟩ (.slice (some ⟨b, 0, none⟩) (gl ss k).length (gl ss k).length)).cell? ⟨N, i, none⟩ = w.cell? ⟨N, i, none⟩ := fun i a b => by
    rw [World.cell?_setCell_other _ _ _ _ (fun e => b (by injection e with _ e2; exact e2.symm)), World.cell?_setCell_other _ _ _ _ (fun e => a (by injection e with _ e2; exact e2.symm))]
  have c0 : ((w.setCell ⟨N, k * 2, none⟩ (.int .i64 (gc ss k))).setCell ⟨N, k * 2 + 1, none⟩ (.slice (some ⟨b, 0, none⟩) (gl ss k).length (gl ss k).length)).cell? ⟨N, k * 2, none⟩ = some (.int .i64 (gc ss k)) := by
    rw [World.cell?_setCell_other _ _ _ _ (fun e => by injection e with _ e2; omega)]
    exact World.cell?_setCell_same _ _ _ hv0
  have c1 : ((w.setCell ⟨N, k * 2, none⟩ (.int .i64 (gc ss k))).setCell ⟨N, k * 2 + 1, none⟩ (.slice (some ⟨b, 0, none⟩) (gl ss k).length (gl ss k).length)).cell? ⟨N, k * 2 + 1, none⟩ = some (.slice (some ⟨b, 0, none⟩) (gl ss k).length (gl ss k).length) :=
    World.cell?_setCell_same _ _ _ ((World.cell?_setCell_other _ _ _ _ (fun e => by injection e with _ e2; omega)).trans hv1)
  have hold : ∀ j, j < k → lb j < w0.heap.size := fun j hj => (h0.blk j hj).1
  refine ⟨by simpa [World.setCell] using h.lt, fun j hj => ?_, fun j hj => ?_, fun j hj => ?_, fun j hj => ?_, fun i j hi hj hij => ?_, fun j hj => cell?_setCell_some (cell?_setCell_some (h.all j hj).choose_spec).choose_spec, fun j => by simpa using h.fz j⟩
  · by_cases e : j = k
    · subst e; exact c0
    · exact (ne1 _ (by omega) (by omega)).trans (h.c0 j (by omega))
  · by_cases e : j = k
    · subst e; rw [if_pos rfl]; exact c1
    · rw [if_neg e]; exact (ne1 _ (by omega) (by omega)).trans (h.c1 j (by omega))
  · by_cases e : j = k
    · rw [if_pos e]; exact hNb
    · rw [if_neg e]; exact h.gt j (by omega)
  · by_cases e : j = k
    · subst e; rw [if_pos rfl]; exact (hB.setCell (by show N ≠ b; omega) _).setCell (by show N ≠ b; omega) _
    · rw [if_neg e]
      have := h.gt j (by omega)
      exact ((h.blk j (by omega)).setCell (by show N ≠ lb j; omega) _).setCell (by show N ≠ lb j; omega) _
  · by_cases e : i = k
    · rw [if_pos e, if_neg (by omega)]
      have := hold j (by omega)
      omega
    · rw [if_neg e]
      by_cases e2 : j = k
      · rw [if_pos e2]
        have := hold i (by omega)
        omega
      · rw [if_neg e2]
        exact h.ap i j (by omega) (by omega) hij

theorem HalfD.start (w : World) (n : Nat) (ss : List (Int × List Int)) (t : TypeId) (lb : Nat → Nat) : HalfD (w.alloc (.cells (madeCells #[.int .i64 0, .slice none 0 0] (n * 2)) t)) w.heap.size n 0 ss lb := by
  refine ⟨by simp, fun j hj => by omega, fun j hj => by omega, fun j hj => by omega, fun j hj => by omega, fun i j hi => by omega, fun j hj => ?_, fun j => by simp⟩
  have hs : j < (madeCells #[.int .i64 0, .slice none 0 0] (n * 2)).size := by rw [size_madeCells]; exact hj
  exact ⟨(madeCells #[.int .i64 0, .slice none 0 0] (n * 2))[j], by rw [World.cell?_alloc_new]; simp [hs]⟩

theorem HalfD.or {w : World} {N n B : Nat} {ss : List (Int × List Int)} {lb : Nat → Nat} (h : HalfD w N n n ss lb) (hB : B ≤ N) (hn : ss.length = n) (hm : n + lenSum ss ≤ 1048576) : OR (InR B w.heap.size) (some ⟨N, 0, none⟩) n ss w :=
  ⟨hn, hm, .inr ⟨N, fun j => some ⟨lb j, 0, none⟩, fun j => (gl ss j).length, lb, rfl, ⟨hB, h.lt⟩, h.lt, h.fz, fun i hi => ⟨h.c0 i hi, h.c1 i hi, ⟨rfl, by have := gl_le ss i (by omega); omega, by (by_cases e : (gl ss i).length = 0); exact .inl e; exact .inr ⟨lb i, rfl, ⟨rfl, by omega⟩, h.blk i hi⟩⟩, fun _ => ⟨⟨by have := h.gt i hi; omega, (h.blk i hi).1⟩, by have := h.gt i hi; omega⟩⟩, fun i j hi hj e _ _ => h.ap i j hi hj e⟩⟩

set_option maxRecDepth 100000 in
theorem toSlotS_O (a : Option Addr) (n cap : Nat) (ss : List (Int × List Int)) (w : World) (hm : n + lenSum ss ≤ 1048576) (hs : Sls w a n ss) :
    Calls Tryz.prog 123 #[.slice a n cap] w fun e w' => ∃ b, e = .returned (.slice (some ⟨b, 0, none⟩) n n) ∧ OR (InR w.heap.size w'.heap.size) (some ⟨b, 0, none⟩) n ss w' ∧ Below w.heap.size w w' := by
  obtain ⟨hlen, hs⟩ := hs
  obtain ⟨i0, hi, hz0, hz1, hz2⟩ := info_parts infoSlot
  have hmk : ∀ u : World, (Instr.makeSlice 50 (.int .i64 (n : Int)) (.int .i64 (n : Int))).run Tryz.prog u =
      .ok (.slice (some ⟨u.heap.size, 0, none⟩) n n) (u.alloc (.cells (madeCells #[.int .i64 0, .slice none 0 0] (n * 2)) 180)) := fun u => by
    have h := run_make (P := Tryz.prog) u 50 180 i0 (.agg #[.int .i64 0, .slice none 0 0]) Tryz.underlying50 hi hz0 .i64 .i64 (n : Int) (n : Int) (by omega) (Int.le_refl _) (by rw [hz2]; omega) (by omega)
    simpa [hz1, Value.cells] using h
  go_enter Tryz.func123, Tryz.ntmps123
  go_wp2
  go_loopw [4] (fun i wr => ∃ k : Nat, k ≤ n ∧ i = .int .i64 k ∧ Below w.heap.size w wr ∧ ∃ lb, HalfD wr w.heap.size n k ss lb) (fun i _ => n - (intOf i).toNat)
  case atStart => exact ⟨0, Nat.zero_le _, rfl, (Below.refl _ _).alloc (Nat.le_refl _) _, fun _ => 0, HalfD.start _ _ _ _ _⟩
  case round =>
    obtain ⟨k, hk, rfl, hbel, lb, hh⟩ := hrel
    by_cases hlt : k < n
    · obtain ⟨b, off, rfl, hb, hc⟩ := hs (by omega)
      obtain ⟨hc0, la, ll, lc, hc1, hll, hsl⟩ := hc k hlt
      have hck0 := (hbel.cell (p := ⟨b, off + k * 2, none⟩) hb).trans hc0
      have hck1 := (hbel.cell (p := ⟨b, off + k * 2 + 1, none⟩) hb).trans hc1
      have hzl : (gl ss k).length = ll := hsl.1
      have hl2 := gl_le ss k (by omega)
      have hsl2 := hsl.below hbel (Nat.le_refl _)
      subst hzl
      go_wp2_with fail
      refine (toSlot_calls (gc ss k) la _ lc (gl ss k) _ (by omega) hsl2).mono ?_
      rintro e w1 ⟨nb, rfl, hlb, hblk, hb1⟩
      have hh1 := hh.below hb1
      obtain ⟨v0, hv0⟩ := hh1.all (k * 2) (by omega)
      obtain ⟨v1, hv1⟩ := hh1.all (k * 2 + 1) (by omega)
      have hf0 := hh1.fz (k * 2)
      have hf1 := hh1.fz (k * 2 + 1)
      have hbw := hbel.trans (hb1.mono hbel.size)
      have hN := hh.lt
      have HH := hide (hh.store hb1 hlt hlb hblk)
      clear hh hh1 hb1 hblk hsl2 hsl hck0 hck1
      go_wp2
      go_roundw
      case rel => exact ⟨k + 1, by omega, by go_num, (hbw.setCell (Nat.le_refl _) _).setCell (Nat.le_refl _) _, _, HH.out⟩
      case measure => simp [intOf]; omega
    · have hkn : k = n := by omega
      subst hkn
      go_wp2
      go_ret
      exact ⟨w.heap.size, rfl, hh.or (Nat.le_refl _) hlen hm, hbel⟩

set_option maxRecDepth 100000 in
theorem toRegistry_O (a : Option Addr) (n cap : Nat) (ss : List (Int × List Int)) (w : World) (hm : n + lenSum ss ≤ 1048576) (hs : Sls w a n ss) :
    Calls Tryz.prog 77 #[.agg #[.slice a n cap]] w fun e w' => ∃ b, e = .returned (.agg #[.slice (some ⟨b, 0, none⟩) n n]) ∧ OR (InR w.heap.size w'.heap.size) (some ⟨b, 0, none⟩) n ss w' ∧ Below w.heap.size w w' := by
  have hb3 := fun o1 o2 o3 => (((Below.refl w.heap.size w).alloc (Nat.le_refl _) o1).alloc (by simp) o2).alloc (by simp; omega) o3
  go_enter Tryz.func77, Tryz.ntmps77
  go_wp2_with fail
  refine (toSlotS_O a n cap ss _ hm (hs.below (hb3 _ _ _) (Nat.le_refl _))).mono ?_
  rintro e w1 ⟨b, rfl, hh, hb⟩
  have hbw : Below w.heap.size w w1 := (hb3 _ _ _).trans (hb.mono (by simp; omega))
  simp only [World.size_alloc] at hh
  have c1 : w1.cell? ⟨w.heap.size + 1, 0, none⟩ = some (.slice none 0 0) := (hb.cell (p := ⟨w.heap.size + 1, 0, none⟩) (by simp)).trans (by go_simp)
  have f1 : w1.frozen? ⟨w.heap.size + 1, 0, none⟩ = false := (hb.frozen (p := ⟨w.heap.size + 1, 0, none⟩) (by simp)).trans (by go_simp)
  have c2 : w1.cell? ⟨w.heap.size + 1 + 1, 0, none⟩ = some (.slice none 0 0) := (hb.cell (p := ⟨w.heap.size + 1 + 1, 0, none⟩) (by simp)).trans (by go_simp)
  have f2 : w1.frozen? ⟨w.heap.size + 1 + 1, 0, none⟩ = false := (hb.frozen (p := ⟨w.heap.size + 1 + 1, 0, none⟩) (by simp)).trans (by go_simp)
  clear hb hb3
  go_wp2
  refine bodyPost_ret (v := .agg #[.slice (some ⟨b, 0, none⟩) n n]) (by simp [results, Tryz.results77, go_sem, c1]) rfl ⟨b, rfl, ?_, (hbw.setCell (by simp; omega) _).setCell (by simp) _⟩
  have hk : ∀ i v (u : World), w.heap.size + 1 ≤ i → i < w.heap.size + 1 + 1 + 1 → OR (InR (w.heap.size + 1 + 1 + 1) w1.heap.size) (some ⟨b, 0, none⟩) n ss u → OR (InR (w.heap.size + 1 + 1 + 1) w1.heap.size) (some ⟨b, 0, none⟩) n ss (u.setCell ⟨i, 0, none⟩ v) := fun i v u h1 h2 h =>
    OR.loc u _ (fun k hk _ => Below.heap_setCell _ _ _ _ (fun e => by have := hk.1; simp at e; omega)) h
  exact (hk _ _ _ (by omega) (by omega) (hk _ _ _ (by omega) (by omega) hh)).mono (fun k hk => ⟨by have := hk.1; omega, by simpa using hk.2⟩)

theorem eqRegistry_O (S S' : Nat → Prop) (a b : Option Addr) (n ca cb : Nat) (ss : List (Int × List Int)) (w : World) (hx : OR S a n ss w) (hy : OR S' b n ss w) :
    Calls Tryz.prog 100 #[.agg #[.slice a n ca], .agg #[.slice b n cb]] w fun e w' => e = .returned (.bool true) ∧ Below w.heap.size w w' :=
  eqRegistry_calls a b n ca cb ss w (by have := hx.2.1; unfold maxLen; omega) hx.sls hy.sls

end Go.Proofs.YtnlkigjgloeonaaGreat
