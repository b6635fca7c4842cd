import Derived.Test.YtgkjmeogdomgmaaBookReg
import Derived.Test.YtgkjmeogdomgmaaToReg
import Derived.WalkKit
import Derived.ProofKit
import Derived.OpenShut
import Derived.ShutString
import Derived.ChangeOld
import Derived.Below
import Derived.WalkSpells
import Derived.Deep.QuietTactic
import Derived.BigQuiet
import Derived.Deep.RegionWith
import Derived.Deep.WholeRow
import Derived.Deep.DeepCutAuto
import Derived.Deep.RegionHeld2
import Derived.Deep.AppendLies
import Derived.Deep.RegionLaw
namespace Go.Proofs.Ytgkjmeogdomgmaa
open Go.ChangeShapes Go.WideShapes Go.ChangeAt Go.RowKit

theorem keep6 {X : World} {a b N i1 i2 : Nat} {u0 u1 v0 v1 v2 v3 y1 y2 : Value} (ha : a ≠ N) (hb : b ≠ N) (h : X.cell? ⟨a, 0, none⟩ = some u0 ∧ X.cell? ⟨a, 1, none⟩ = some u1 ∧ X.cell? ⟨b, 0, none⟩ = some v0 ∧ X.cell? ⟨b, 1, none⟩ = some v1 ∧ X.cell? ⟨b, 2, none⟩ = some v2 ∧ X.cell? ⟨b, 3, none⟩ = some v3) : ((X.setCell ⟨N, i1, none⟩ y1).setCell ⟨N, i2, none⟩ y2).cell? ⟨a, 0, none⟩ = some u0 ∧ ((X.setCell ⟨N, i1, none⟩ y1).setCell ⟨N, i2, none⟩ y2).cell? ⟨a, 1, none⟩ = some u1 ∧ ((X.setCell ⟨N, i1, none⟩ y1).setCell ⟨N, i2, none⟩ y2).cell? ⟨b, 0, none⟩ = some v0 ∧ ((X.setCell ⟨N, i1, none⟩ y1).setCell ⟨N, i2, none⟩ y2).cell? ⟨b, 1, none⟩ = some v1 ∧ ((X.setCell ⟨N, i1, none⟩ y1).setCell ⟨N, i2, none⟩ y2).cell? ⟨b, 2, none⟩ = some v2 ∧ ((X.setCell ⟨N, i1, none⟩ y1).setCell ⟨N, i2, none⟩ y2).cell? ⟨b, 3, none⟩ = some v3 := by
  have k : ∀ c o, c ≠ N → ((X.setCell ⟨N, i1, none⟩ y1).setCell ⟨N, i2, none⟩ y2).cell? ⟨c, o, none⟩ = X.cell? ⟨c, o, none⟩ := fun c o hc => by
    rw [World.cell?_setCell_other _ _ _ _ (fun e => by injection e with e1 _; exact hc e1.symm), World.cell?_setCell_other _ _ _ _ (fun e => by injection e with e1 _; exact hc e1.symm)]
  exact ⟨(k _ _ ha).trans h.1, (k _ _ ha).trans h.2.1, (k _ _ hb).trans h.2.2.1, (k _ _ hb).trans h.2.2.2.1, (k _ _ hb).trans h.2.2.2.2.1, (k _ _ hb).trans h.2.2.2.2.2⟩

theorem setC2_grown (w : World) (N : Nat) (v : Nat × Value) (u : Nat × Value) : w.grownBy ((w.setCell ⟨N, v.1, none⟩ v.2).setCell ⟨N, u.1, none⟩ u.2) (some N) :=
  ⟨rfl, rfl, rfl, by simp, fun k _ hn => by
    have h : N ≠ k := fun e => hn (by rw [e])
    rw [Below.heap_setCell _ _ _ _ (fun e => h e.symm), Below.heap_setCell _ _ _ _ (fun e => h e.symm)]⟩

theorem map_ne_cells {w : World} {M n N o : Nat} {D : DataW Unit} {v : Value} (h : w.ownsMap Try.prog 127 Rst M n D) (hc : w.cell? ⟨N, o, none⟩ = some v) (e : M = N) : False := by
  obtain ⟨es, clock, hb, _⟩ := h
  rw [e] at hb
  simp [World.cell?, hb] at hc

theorem HalfU.congr {w : World} {N n : Nat} {ss : List (Int × List Int)} {V V' : Nat → Bool} {lb : Nat → Nat} (h : HalfU w N n ss V lb) (e : ∀ j, j < n → V j = V' j) : HalfU w N n ss V' lb :=
  ⟨h.lt, h.fz, fun j hj => by rw [← e j hj]; exact h.c0 j hj, fun j hj => by rw [← e j hj]; exact h.c1 j hj, fun j hj hv => h.gt j hj (by rw [e j hj]; exact hv), fun j hj hv => h.blk j hj (by rw [e j hj]; exact hv), fun i j hi hj a b => h.ap i j hi hj (by rw [e i hi]; exact a) (by rw [e j hj]; exact b)⟩

set_option maxRecDepth 100000 in
set_option maxHeartbeats 2000000 in
theorem registry_calls (P M n : Nat) (ss : List (Int × List Int)) (D : DataW Unit) (w : World) (hb : Bk w P M (ss.length : Int) n D) (good : Good ss) (rep : Rep ss D) :
    Calls Try.prog 86 #[.pointer (some ⟨P, 0, none⟩)] w fun e w' => ∃ b, e = .returned (.agg #[.slice (some ⟨b, 0, none⟩) ss.length ss.length]) ∧ OR (InR w.heap.size w'.heap.size) (some ⟨b, 0, none⟩) ss.length ss w' ∧ Below w.heap.size w w' := by
  have few := good.few
  have hP := hb.lt
  have c0 := hb.c0
  have c1 := hb.c1
  obtain ⟨i0, hi, hz0, hz1, hz2⟩ := info_parts infoSlot
  have hmk : ∀ u : World, (Instr.makeSlice 32 (.int .i64 (ss.length : Int)) (.int .i64 (ss.length : Int))).run Try.prog u =
      .ok (.slice (some ⟨u.heap.size, 0, none⟩) ss.length ss.length) (u.alloc (.cells (madeCells #[.int .i64 0, .slice none 0 0] (ss.length * 2)) 111)) := fun u => by
    have h := run_make (P := Try.prog) u 32 111 i0 (.agg #[.int .i64 0, .slice none 0 0]) Try.underlying32 hi hz0 .i64 .i64 (ss.length : Int) (ss.length : Int) (by omega) (Int.le_refl _) (by rw [hz2]; omega) (by omega)
    simpa [hz1, Value.cells] using h
  have own0 := (hb.own.alloc (.cells #[.slice none 0 0] 34)).alloc (.cells (madeCells #[.int .i64 0, .slice none 0 0] (ss.length * 2)) 111)
  have hU0 := HalfU.start (w.alloc (.cells #[.slice none 0 0] 34)) ss.length ss 111 (fun _ => 0)
  have bel0 := ((Below.refl w.heap.size w).alloc (Nat.le_refl _) (.cells #[.slice none 0 0] 34)).alloc (by simp) (.cells (madeCells #[.int .i64 0, .slice none 0 0] (ss.length * 2)) 111)
  have c1a : ((w.alloc (.cells #[.slice none 0 0] 34)).alloc (.cells (madeCells #[.int .i64 0, .slice none 0 0] (ss.length * 2)) 111)).cell? ⟨P, 1, none⟩ = some (.map (some M)) := (bel0.cell (p := ⟨P, 1, none⟩) hP).trans c1
  simp only [World.size_alloc] at hU0
  have HU0 := hide hU0
  have HB0 := hide bel0
  clear hU0 bel0
  go_enter Try.func86, Try.ntmps86
  go_wp2_with (first
    | (at_range; refine wpList_range_own _ rfl _ 76 rfl 127 154 lawK Try.underlying76 _ M n _ rfl own0 ?_; intro w0 hrg0 hg0 hs0)
    | go_in)
  try go_frame
  have hz : ((w.alloc (.cells #[.slice none 0 0] 34)).alloc (.cells (madeCells #[.int .i64 0, .slice none 0 0] (ss.length * 2)) 111)).heap.size = w.heap.size + 1 + 1 := by simp
  rw [hz] at hrg0 hs0
  try rw [hz]
  have gb0 : Below ((w.alloc (.cells #[.slice none 0 0] 34)).alloc (.cells (madeCells #[.int .i64 0, .slice none 0 0] (ss.length * 2)) 111)).heap.size ((w.alloc (.cells #[.slice none 0 0] 34)).alloc (.cells (madeCells #[.int .i64 0, .slice none 0 0] (ss.length * 2)) 111)) w0 := ⟨hg0.os, hg0.tape, hg0.output, hg0.size, fun k hk => hg0.block k hk (by simp)⟩
  have r0 : w0.cell? ⟨w.heap.size, 0, none⟩ = some (.slice none 0 0) := (gb0.cell (p := ⟨w.heap.size, 0, none⟩) (by simp; omega)).trans (by rw [World.cell?_alloc_past _ _ _ (by simp)]; go_simp)
  have f0 : w0.frozen? ⟨w.heap.size, 0, none⟩ = false := (gb0.frozen (p := ⟨w.heap.size, 0, none⟩) (by simp; omega)).trans (by rw [World.frozen?_alloc_old _ _ _ (by simp)]; go_simp)
  have HU1 := hide (HU0.out.below gb0)
  have HB1 := hide (HB0.out.trans (gb0.mono HB0.out.size))
  have HG1 := hide (RngB.start rep hrg0)
  have HZ : Hid (w0.heap.size = w.heap.size + 1 + 1 + 1) := hs0
  clear hrg0 hg0 hs0 hz gb0 HU0 HB0 own0 c1a
  go_loopw [16] (fun _ wr => ∃ (L : Nat → Bool) (cn : Nat) (lb : Nat → Nat), RngB wr M (w.heap.size + 1 + 1) n ss D L cn ∧ HalfU wr (w.heap.size + 1) ss.length ss (fun j => decide (0 < gc ss j) && !L j) lb ∧ (∀ j, j < ss.length → (decide (0 < gc ss j) && !L j) = true → w.heap.size + 1 + 1 < lb j) ∧ Below w.heap.size w wr ∧ w.heap.size + 1 + 1 < wr.heap.size ∧
      wr.cell? ⟨w.heap.size, 0, none⟩ = some (.slice none 0 0) ∧ wr.frozen? ⟨w.heap.size, 0, none⟩ = false) (fun _ wr => wr.rangeLeft M (w.heap.size + 1 + 1))
  case atStart => exact ⟨_, _, _, HG1.out, HU1.out.congr (fun j _ => by simp), fun j _ h => (by simp at h), HB1.out, by have := HZ.out; omega, r0, f0⟩
  case round =>
    clear r0 f0 HU1 HB1 HG1
    obtain ⟨L, cn, lb, hrg, hU, hlb, hbel, hsz, r0, f0⟩ := hrel
    go_wp2_with (first
      | (at_next; refine next_book _ rfl _ rfl M (w.heap.size + 1 + 1) n good rep rfl hrg ?_ ?_)
      | go_in)
    · intro hc0 hl0
      have HO := hide (HalfU.or (B := w.heap.size + 1) (hU.congr (V' := fun j => decide (0 < gc ss j)) (fun j hj => by (by_cases h : 0 < gc ss j); (rw [hl0 j hj h]; simp); simp [h])) good (fun _ _ => rfl) (Nat.le_refl _))
      have HE := hide hbel
      clear hl0 hbel hU hlb hrg
      go_wp2
      refine bodyPost_ret (v := .agg #[.slice (some ⟨w.heap.size + 1, 0, none⟩) ss.length ss.length]) (by simp [results, Try.results86, go_sem, r0]) rfl ⟨_, rfl, ?_, HE.out.setCell (Nat.le_refl _) _⟩
      exact (OR.loc.setC HO.out (fun e => by have := e.1; simp at this; omega) _).mono (fun k hk => ⟨by have := hk.1; omega, by simpa using hk.2⟩)
    · intro j hj hp hLj w1 cnt1 hrg1 hlt1 hg1 hs1 hen
      have hM : M ≠ w.heap.size + 1 + 1 := hrg.ne.symm
      have hU1 := hU.keep hg1 (by omega) (fun i hi hv => by have := hlb i hi hv; omega)
      have e1 := hg1.block w.heap.size (by omega) (fun e => by injection e; omega)
      have r1 := (World.cell?_of_block (a := ⟨w.heap.size, 0, none⟩) e1).trans r0
      have g1 := (World.frozen?_of_block (a := ⟨w.heap.size, 0, none⟩) e1).trans f0
      have hbel1 := bel_grown hbel hg1 (by omega) hbel.size
      have al : Below w1.heap.size w1 ((w1.alloc (.cells #[.int .i64 (gt (gl ss j) 0), .int .i64 (gt (gl ss j) 1), .int .i64 (gt (gl ss j) 2), .int .i64 (gt (gl ss j) 3)] 127)).alloc (.cells #[.int .i64 (j : Int), .int .i64 (gc ss j)] 154)) := ((Below.refl _ _).alloc (Nat.le_refl _) _).alloc (by simp) _
      have HU2 := hide hU1
      have HRG := hide hrg
      have HRG1 := hide hrg1
      have HLT := hide hlt1
      have HB1 := hide hbel1
      have HR1 : Hid (w1.cell? ⟨w.heap.size, 0, none⟩ = some (.slice none 0 0) ∧ w1.frozen? ⟨w.heap.size, 0, none⟩ = false) := ⟨r1, g1⟩
      have HLB := hide hlb
      have HAL := hide al
      have hlen4 := fault_len (good.right j hj hp)
      have i0' : (0 : Int) ≤ (j : Int) := by omega
      have i1' : (j : Int) < (ss.length : Int) := by omega
      have hs1' : w.heap.size + 1 + 1 < w1.heap.size := by omega
      have hnA : w1.heap.size + 1 ≠ w.heap.size + 1 := by omega
      have hnB : w1.heap.size ≠ w.heap.size + 1 := by omega
      clear hrg hrg1 hlt1 hg1 hU hU1 hbel hbel1 hlb al r0 f0 r1 g1 e1 hs1
      go_wp2_with fail
      have HSX : Hid (((w1.alloc (.cells #[.int .i64 (gt (gl ss j) 0), .int .i64 (gt (gl ss j) 1), .int .i64 (gt (gl ss j) 2), .int .i64 (gt (gl ss j) 3)] 127)).alloc (.cells #[.int .i64 (j : Int), .int .i64 (gc ss j)] 154)).drew.cell? ⟨w1.heap.size + 1, 0, none⟩ = some (.int .i64 (j : Int)) ∧ ((w1.alloc (.cells #[.int .i64 (gt (gl ss j) 0), .int .i64 (gt (gl ss j) 1), .int .i64 (gt (gl ss j) 2), .int .i64 (gt (gl ss j) 3)] 127)).alloc (.cells #[.int .i64 (j : Int), .int .i64 (gc ss j)] 154)).drew.cell? ⟨w1.heap.size + 1, 1, none⟩ = some (.int .i64 (gc ss j)) ∧ ((w1.alloc (.cells #[.int .i64 (gt (gl ss j) 0), .int .i64 (gt (gl ss j) 1), .int .i64 (gt (gl ss j) 2), .int .i64 (gt (gl ss j) 3)] 127)).alloc (.cells #[.int .i64 (j : Int), .int .i64 (gc ss j)] 154)).drew.cell? ⟨w1.heap.size, 0, none⟩ = some (.int .i64 (gt (gl ss j) 0)) ∧ ((w1.alloc (.cells #[.int .i64 (gt (gl ss j) 0), .int .i64 (gt (gl ss j) 1), .int .i64 (gt (gl ss j) 2), .int .i64 (gt (gl ss j) 3)] 127)).alloc (.cells #[.int .i64 (j : Int), .int .i64 (gc ss j)] 154)).drew.cell? ⟨w1.heap.size, 1, none⟩ = some (.int .i64 (gt (gl ss j) 1)) ∧ ((w1.alloc (.cells #[.int .i64 (gt (gl ss j) 0), .int .i64 (gt (gl ss j) 1), .int .i64 (gt (gl ss j) 2), .int .i64 (gt (gl ss j) 3)] 127)).alloc (.cells #[.int .i64 (j : Int), .int .i64 (gc ss j)] 154)).drew.cell? ⟨w1.heap.size, 2, none⟩ = some (.int .i64 (gt (gl ss j) 2)) ∧ ((w1.alloc (.cells #[.int .i64 (gt (gl ss j) 0), .int .i64 (gt (gl ss j) 1), .int .i64 (gt (gl ss j) 2), .int .i64 (gt (gl ss j) 3)] 127)).alloc (.cells #[.int .i64 (j : Int), .int .i64 (gc ss j)] 154)).drew.cell? ⟨w1.heap.size, 3, none⟩ = some (.int .i64 (gt (gl ss j) 3))) := ⟨by go_simp, by go_simp, by go_simp, by go_simp, by go_simp, by go_simp⟩
      go_region_held2 (fun w' => w'.cell? ⟨w1.heap.size + 1, 0, none⟩ = some (.int .i64 (j : Int)) ∧ w'.cell? ⟨w1.heap.size + 1, 1, none⟩ = some (.int .i64 (gc ss j)) ∧ w'.cell? ⟨w1.heap.size, 0, none⟩ = some (.int .i64 (gt (gl ss j) 0)) ∧ w'.cell? ⟨w1.heap.size, 1, none⟩ = some (.int .i64 (gt (gl ss j) 1)) ∧ w'.cell? ⟨w1.heap.size, 2, none⟩ = some (.int .i64 (gt (gl ss j) 2)) ∧ w'.cell? ⟨w1.heap.size, 3, none⟩ = some (.int .i64 (gt (gl ss j) 3)))
        (first | with_reducible exact HSX.out | with_reducible assumption | (with_reducible refine keep6 hnA hnB ?_; with_reducible assumption))
        (first
        | (go_at_call 83; refine (labelOf_calls _ _ _ _ _).mono ?_; rintro e w2 ⟨b, rfl, hbN, blk, g2⟩; rw [← list4 hlen4] at blk; have h12 : Below w1.heap.size w1 w2 := (HAL.out.drew).trans (g2.mono (HAL.out.drew).size); have hU3 := HU2.out.below h12; obtain ⟨y0, s0⟩ : ∃ v, w2.cell? ⟨w.heap.size + 1, j * 2, none⟩ = some v := ⟨_, hU3.c0 j hj⟩; obtain ⟨y1, s1⟩ : ∃ v, w2.cell? ⟨w.heap.size + 1, j * 2 + 1, none⟩ = some v := ⟨_, hU3.c1 j hj⟩; have t0 := hU3.fz (j * 2); have t1 := hU3.fz (j * 2 + 1); have hs2 : w2.cell? ⟨w1.heap.size + 1, 0, none⟩ = some (.int .i64 (j : Int)) ∧ w2.cell? ⟨w1.heap.size + 1, 1, none⟩ = some (.int .i64 (gc ss j)) ∧ w2.cell? ⟨w1.heap.size, 0, none⟩ = some (.int .i64 (gt (gl ss j) 0)) ∧ w2.cell? ⟨w1.heap.size, 1, none⟩ = some (.int .i64 (gt (gl ss j) 1)) ∧ w2.cell? ⟨w1.heap.size, 2, none⟩ = some (.int .i64 (gt (gl ss j) 2)) ∧ w2.cell? ⟨w1.heap.size, 3, none⟩ = some (.int .i64 (gt (gl ss j) 3)) := ⟨(g2.cell (p := ⟨w1.heap.size + 1, 0, none⟩) (by simp)).trans HSX.out.1, (g2.cell (p := ⟨w1.heap.size + 1, 1, none⟩) (by simp)).trans HSX.out.2.1, (g2.cell (p := ⟨w1.heap.size, 0, none⟩) (by simp; omega)).trans HSX.out.2.2.1, (g2.cell (p := ⟨w1.heap.size, 1, none⟩) (by simp; omega)).trans HSX.out.2.2.2.1, (g2.cell (p := ⟨w1.heap.size, 2, none⟩) (by simp; omega)).trans HSX.out.2.2.2.2.1, (g2.cell (p := ⟨w1.heap.size, 3, none⟩) (by simp; omega)).trans HSX.out.2.2.2.2.2⟩; have HST := hide (HU2.out.store h12 hj (by simp at hbN; omega) blk); have HRG2 := hide (HRG1.out.below h12); have HB2 := hide (HB1.out.trans (h12.mono HB1.out.size)); have HR2 : Hid (w2.cell? ⟨w.heap.size, 0, none⟩ = some (.slice none 0 0) ∧ w2.frozen? ⟨w.heap.size, 0, none⟩ = false) := ⟨(h12.cell (p := ⟨w.heap.size, 0, none⟩) (by show w.heap.size < _; omega)).trans HR1.out.1, (h12.frozen (p := ⟨w.heap.size, 0, none⟩) (by show w.heap.size < _; omega)).trans HR1.out.2⟩; have hsz2 : w.heap.size + 1 + 1 < w2.heap.size := (by have := h12.size; omega); have hbb : w.heap.size + 1 + 1 < b := (by simp at hbN; omega); clear g2 blk h12 hU3))
      all_goals (
        go_wp2
        go_roundw
        case rel =>
          refine ⟨_, cnt1, _, (HRG2.out.kept (row := some (w.heap.size + 1)) (setC2_grown w2 (w.heap.size + 1) (j * 2, .int .i64 (gc ss j)) (j * 2 + 1, .slice (some ⟨b, 0, none⟩) 4 4)) (by have := HRG2.out.owns; intro e; injection e with e; exact map_ne_cells HRG2.out.owns s0 e) (by simp)), HST.out.congr (fun i hi => ?_), fun i hi hv => ?_, (HB2.out.setCell (by simp) _).setCell (by simp) _, by simpa using hsz2, ?_, by simpa using HR2.out.2⟩
          · by_cases e : i = j
            · subst e; simp [hp]
            · have e2 : (i == j) = false := by simpa using e
              rw [if_neg e, e2]; simp
          · by_cases e : i = j
            · rw [if_pos e]; exact hbb
            · rw [if_neg e]; exact HLB.out i hi (by have e2 : (i == j) = false := (by simpa using e); rw [e2] at hv; simpa using hv)
          · rw [World.cell?_setCell_other _ _ _ _ (fun e => by injection e with e1 _; omega), World.cell?_setCell_other _ _ _ _ (fun e => by injection e with e1 _; omega)]
            exact HR2.out.1
        case measure =>
          rw [(HRG2.out.kept (row := some (w.heap.size + 1)) (setC2_grown w2 (w.heap.size + 1) (j * 2, .int .i64 (gc ss j)) (j * 2 + 1, .slice (some ⟨b, 0, none⟩) 4 4)) (by intro e; injection e with e; exact map_ne_cells HRG2.out.owns s0 e) (by simp)).left_eq, HRG.out.left_eq]
          exact HLT.out)

end Go.Proofs.Ytgkjmeogdomgmaa
