import Derived.Test.YtpgpoeljbppggaaDoorAsL
import Derived.WalkKit
import Derived.ProofKit
import Derived.OpenShut
import Derived.ShutString
import Derived.ChangeOld
import Derived.Below
import Derived.WalkSpells
import Derived.Deep.QuietTactic
import Derived.BigQuiet
import Derived.Deep.RegionWith
import Derived.Deep.WholeRow
import Derived.Deep.DeepCutAuto
import Derived.Deep.RegionHeld2
import Derived.Deep.AppendLies
import Derived.Deep.RegionLaw
namespace Go.Proofs.YtpgpoeljbppggaaDoor
open Go.ChangeShapes Go.WideShapes Go.ChangeAt Go.RowKit

/-- a row of texts under copy, in block N: the first k hold ps; all n are there; none is frozen. -/
def HalfS (w : World) (N n k : Nat) (ps : List ByteArray) : Prop :=
  N < w.heap.size ∧ (∀ j, j < k → w.cell? ⟨N, j, none⟩ = some (.string (ps.getD j ⟨#[]⟩))) ∧ (∀ j, j < n → ∃ v, w.cell? ⟨N, j, none⟩ = some v) ∧ ∀ j, w.frozen? ⟨N, j, none⟩ = false

theorem HalfS.below {w w' : World} {N n k : Nat} {ps : List ByteArray} (h : HalfS w N n k ps) (hb : Below w.heap.size w w') : HalfS w' N n k ps :=
  ⟨by have := hb.size; have := h.1; omega, fun j hj => (hb.cell (p := ⟨N, j, none⟩) h.1).trans (h.2.1 j hj), fun j hj => by obtain ⟨v, hv⟩ := h.2.2.1 j hj; exact ⟨v, (hb.cell (p := ⟨N, j, none⟩) h.1).trans hv⟩, fun j => (hb.frozen (p := ⟨N, j, none⟩) h.1).trans (h.2.2.2 j)⟩

theorem HalfS.store {w : World} {N n k : Nat} {ps : List ByteArray} (h : HalfS w N n k ps) (hk : k < n) : HalfS (w.setCell ⟨N, k, none⟩ (.string (ps.getD k ⟨#[]⟩))) N n (k + 1) ps := by
  obtain ⟨h1, h2, h3, h4⟩ := h
  obtain ⟨v, hv⟩ := h3 k hk
  refine ⟨by simpa [World.setCell] using h1, fun j hj => ?_, fun j hj => ?_, fun j => by simpa using h4 j⟩
  · by_cases e : j = k
    · subst e; exact World.cell?_setCell_same _ _ _ hv
    · rw [World.cell?_setCell_other _ _ _ _ (fun h => e (by injection h with _ h2; exact h2.symm))]; exact h2 j (by omega)
  · exact cell?_setCell_some (h3 j hj).choose_spec

theorem HalfS.start (w : World) (n : Nat) (ps : List ByteArray) (t : TypeId) : HalfS (w.alloc (.cells (madeCells #[.string ⟨#[]⟩] n) t)) w.heap.size n 0 ps := by
  refine ⟨by simp, fun j hj => by omega, fun j hj => ?_, fun j => by simp⟩
  refine ⟨.string ⟨#[]⟩, ?_⟩
  rw [World.cell?_alloc_new, ← Array.getElem?_toList, toList_madeCells_one, List.getElem?_replicate, if_pos hj]

theorem HalfS.sts {w : World} {N n : Nat} {ps : List ByteArray} (h : HalfS w N n n ps) (hl : ps.length = n) : Sts w (some ⟨N, 0, none⟩) n ps := ⟨hl, fun _ => ⟨N, rfl, h.1, h.2.1⟩⟩

theorem HalfS.stx {w : World} {N n : Nat} {ps : List ByteArray} (h : HalfS w N n n ps) (hl : ps.length = n) : Stx w (some ⟨N, 0, none⟩) n ps := ⟨hl, fun _ => ⟨N, 0, rfl, h.1, fun i hi => by rw [Nat.zero_add]; exact h.2.1 i hi⟩⟩

theorem Stx.below {w w' : World} {a : Option Addr} {n : Nat} {ps : List ByteArray} (h : Stx w a n ps) {B : Nat} (hb : Below B w w') (hB : w.heap.size ≤ B) : Stx w' a n ps := by
  obtain ⟨h1, h2⟩ := h
  refine ⟨h1, fun hn => ?_⟩
  obtain ⟨b, off, ea, hb1, hc⟩ := h2 hn
  exact ⟨b, off, ea, by have := hb.size; omega, fun i hi => (hb.cell (p := ⟨b, off + i, none⟩) (by show b < B; omega)).trans (hc i hi)⟩

set_option maxRecDepth 100000 in
theorem toStringS_calls (a : Option Addr) (n cap : Nat) (ps : List ByteArray) (w : World) (hm : n ≤ 1048576) (hs : Stx w a n ps) :
    Calls Tryd.prog 23 #[.slice a n cap] w fun e w' => ∃ b, e = .returned (.slice (some ⟨b, 0, none⟩) n n) ∧ HalfS w' b n n ps ∧ w.heap.size ≤ b ∧ Below w.heap.size w w' := by
  obtain ⟨hlen, hs⟩ := hs
  obtain ⟨i0, hi, hz0, hz1, hz2⟩ := info_parts infoS
  have hmk : ∀ u : World, (Instr.makeSlice 38 (.int .i64 (n : Int)) (.int .i64 (n : Int))).run Tryd.prog u =
      .ok (.slice (some ⟨u.heap.size, 0, none⟩) n n) (u.alloc (.cells (madeCells #[.string ⟨#[]⟩] n) 9)) := fun u => by
    have h := run_make (P := Tryd.prog) u 38 9 i0 (.string ⟨#[]⟩) Tryd.underlying38 hi hz0 .i64 .i64 (n : Int) (n : Int) (by omega) (Int.le_refl _) (by rw [hz2]; omega) (by omega)
    simpa [hz1, Value.cells] using h
  go_enter Tryd.func23, Tryd.ntmps23
  go_wp2
  go_loopw [4] (fun i wr => ∃ k : Nat, k ≤ n ∧ i = .int .i64 k ∧ Below w.heap.size w wr ∧ HalfS wr w.heap.size n k ps) (fun i _ => n - (intOf i).toNat)
  case atStart => exact ⟨0, Nat.zero_le _, rfl, (Below.refl _ _).alloc (Nat.le_refl _) _, HalfS.start _ _ _ _⟩
  case round =>
    obtain ⟨k, hk, rfl, hbel, hh⟩ := hrel
    by_cases hlt : k < n
    · obtain ⟨b, off, rfl, hb, hc⟩ := hs (by omega)
      have cl := (hbel.cell (p := ⟨b, off + k, none⟩) hb).trans (hc k hlt)
      have HH := hide (hh.store hlt)
      obtain ⟨v0, hv0⟩ := hh.2.2.1 k hlt
      have hf0 := hh.2.2.2 k
      obtain ⟨L, hL⟩ : ∃ L, L = ps.getD k ⟨#[]⟩ := ⟨_, rfl⟩
      rw [← hL] at cl HH
      have HB := hide hbel
      have hsz := hh.1
      clear hc hh hL hbel
      go_wp2
      go_roundw
      case rel => exact ⟨k + 1, by omega, by go_num, HB.out.setCell (Nat.le_refl _) _, HH.out⟩
      case measure => simp [intOf]; omega
    · obtain rfl : k = n := by omega
      have HB := hide hbel
      have HH := hide hh
      clear hbel hh
      go_wp2
      go_ret
      exact ⟨w.heap.size, rfl, HH.out, Nat.le_refl _, HB.out⟩

set_option maxRecDepth 100000 in
theorem eqStringS_calls (a b : Option Addr) (n ca cb : Nat) (ps : List ByteArray) (w : World) (hn : n ≤ maxLen) (hx : Stx w a n ps) (hy : Stx w b n ps) :
    Calls Tryd.prog 25 #[.slice a n ca, .slice b n cb] w fun e w' => e = .returned (.bool true) ∧ Below w.heap.size w w' := by
  unfold maxLen at hn
  obtain ⟨hlen, hx⟩ := hx
  obtain ⟨_, hy⟩ := hy
  go_enter Tryd.func25, Tryd.ntmps25
  go_wp2
  go_loopw [5] (fun i wr => ∃ k : Nat, k ≤ n ∧ i = .int .i64 k ∧ Below w.heap.size w wr) (fun i _ => n - (intOf i).toNat)
  case atStart => exact ⟨0, Nat.zero_le _, rfl, Below.refl _ _⟩
  case round =>
    obtain ⟨k, hk, rfl, hbel⟩ := hrel
    by_cases hlt : k < n
    · obtain ⟨b1, o1, rfl, hb1, hc1⟩ := hx (by omega)
      obtain ⟨b2, o2, rfl, hb2, hc2⟩ := hy (by omega)
      have cl1 := (hbel.cell (p := ⟨b1, o1 + k, none⟩) hb1).trans (hc1 k hlt)
      have cl2 := (hbel.cell (p := ⟨b2, o2 + k, none⟩) hb2).trans (hc2 k hlt)
      obtain ⟨L, hL⟩ : ∃ L, L = ps.getD k ⟨#[]⟩ := ⟨_, rfl⟩
      rw [← hL] at cl1 cl2
      have HB := hide hbel
      have k0 : (0 : Int) ≤ (k : Int) := by omega
      have k1 : (k : Int) < (n : Int) := by omega
      clear hc1 hc2 hL hbel
      go_wp2
      go_region
      all_goals (
        go_wp2
        go_roundw
        case rel => exact ⟨k + 1, by omega, by go_num, HB.out.drew⟩
        case measure => simp [intOf]; omega)
    · obtain rfl : k = n := by omega
      have HB := hide hbel
      clear hbel
      go_wp2
      go_ret
      exact ⟨rfl, HB.out⟩

end Go.Proofs.YtpgpoeljbppggaaDoor
