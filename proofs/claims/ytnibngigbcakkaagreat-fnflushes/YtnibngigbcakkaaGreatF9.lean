import Derived.Test.YtnibngigbcakkaaGreatF1
import Derived.WalkKit
import Derived.ProofKit
import Derived.OpenShut
import Derived.ShutString
import Derived.ChangeOld
import Derived.Below
import Derived.WalkSpells
import Derived.Deep.QuietTactic
import Derived.BigQuiet
import Derived.Deep.RegionWith
import Derived.Deep.WholeRow
import Derived.Deep.DeepCutAuto
import Derived.Deep.RegionHeld2
import Derived.Deep.AppendLies
import Derived.Deep.RegionLaw
namespace Go.Proofs.YtnibngigbcakkaaGreat
open Go.ChangeShapes Go.WideShapes Go.ChangeAt Go.RowKit

theorem setRow_new (w : World) (c c' : Array Value) (t : TypeId) : (w.alloc (.cells c t)).setRow w.heap.size c' = w.alloc (.cells c' t) := by
  exact World.setRow_alloc_new w c c' t

theorem copy4 {P : Program} (U : World) (dT sT ty elem t : TypeId) (b off ca : Nat) (zs : List Int) (y0 y1 y2 y3 : Value) (hu : P.underlying dT = some (.slice elem)) (hs : (P.info? elem).map (·.size) = some 1)
    (hb : b < U.heap.size) (hc : ∀ j, j < 4 → U.cell? ⟨b, off + j, none⟩ = some (.int .i64 (gt zs j))) :
    Sem.run P (Builtin.copy_ #[dT, sT] ty #[.slice (some ⟨U.heap.size, 0, none⟩) 4 4, .slice (some ⟨b, off, none⟩) 4 ca]) (U.alloc (.cells #[y0, y1, y2, y3] t)) = .ok (.int .i64 4) (U.alloc (.cells (ints4 zs) t)) := by
  have h := run_copy_row (P := P) (U.alloc (.cells #[y0, y1, y2, y3] t)) dT sT ty elem U.heap.size 0 4 4 ⟨b, off, none⟩ 4 ca #[y0, y1, y2, y3] t (ints4 zs).toList hu hs (heap_alloc_new U _) (by simp [ints4]) ?_ (by simp [ints4]) (by intro v hv; simp [ints4] at hv; rcases hv with rfl | rfl | rfl | rfl <;> rfl)
  · rw [h]
    have e : (#[y0, y1, y2, y3].toList.take 0 ++ (ints4 zs).toList ++ #[y0, y1, y2, y3].toList.drop (0 + (ints4 zs).toList.length)).toArray = ints4 zs := by simp [ints4]
    rw [e, setRow_new]
    rfl
  · intro j v hj
    have hj4 : j < 4 := by
      have := (List.getElem?_eq_some_iff.1 hj).1
      simpa [ints4] using this
    have hadd : (Addr.mk b off none).add j = ⟨b, off + j, none⟩ := by cases j <;> simp [Addr.add]
    rw [hadd, World.cell?_alloc_past _ _ _ hb, hc j hj4, ← hj]
    rcases (by omega : j = 0 ∨ j = 1 ∨ j = 2 ∨ j = 3) with rfl | rfl | rfl | rfl <;> rfl

theorem infoSize : (Tryz.prog.info? 2).map (·.size) = some 1 := by kernel_rfl

set_option maxRecDepth 100000 in
theorem levelsOf_calls (a : Option Addr) (ca : Nat) (zs : List Int) (w : World) (hs : Sl w a 4 zs) :
    Calls Tryz.prog 112 #[.agg #[.slice a 4 ca]] w fun e w' => e = .returned (.agg (ints4 zs)) ∧ Below w.heap.size w w' := by
  obtain ⟨hl, hs⟩ := hs
  obtain ⟨b, off, rfl, hb, hc⟩ := hs (by omega)
  have hcp : Sem.run Tryz.prog (Builtin.copy_ #[38, 38] 3 #[.slice (some ⟨w.heap.size + 1 + 1, 0, none⟩) 4 4, .slice (some ⟨b, off, none⟩) 4 ca])
      (((w.alloc (.cells #[.slice (some ⟨b, off, none⟩) 4 ca] 84)).alloc (.cells #[.int .i64 0, .int .i64 0, .int .i64 0, .int .i64 0] 147)).alloc (.cells #[.int .i64 0, .int .i64 0, .int .i64 0, .int .i64 0] 147)).drew =
      .ok (.int .i64 4) (((w.alloc (.cells #[.slice (some ⟨b, off, none⟩) 4 ca] 84)).alloc (.cells #[.int .i64 0, .int .i64 0, .int .i64 0, .int .i64 0] 147)).alloc (.cells #[.int .i64 (gt zs 0), .int .i64 (gt zs 1), .int .i64 (gt zs 2), .int .i64 (gt zs 3)] 147)).drew := by
    have h := copy4 (P := Tryz.prog) ((w.alloc (.cells #[.slice (some ⟨b, off, none⟩) 4 ca] 84)).alloc (.cells #[.int .i64 0, .int .i64 0, .int .i64 0, .int .i64 0] 147)).drew 38 38 3 2 147 b off ca zs (.int .i64 0) (.int .i64 0) (.int .i64 0) (.int .i64 0) Tryz.underlying38 infoSize (by simp; omega) (fun j hj => by rw [World.cell?_drew, World.cell?_alloc_past _ _ _ (by simp; omega), World.cell?_alloc_past _ _ _ hb]; exact hc j hj)
    rw [show ((w.alloc (.cells #[.slice (some ⟨b, off, none⟩) 4 ca] 84)).alloc (.cells #[.int .i64 0, .int .i64 0, .int .i64 0, .int .i64 0] 147)).drew.heap.size = w.heap.size + 1 + 1 from by simp] at h
    exact h
  go_enter Tryz.func112, Tryz.ntmps112
  go_wp2
  go_region
  clear hcp
  go_wp2
  refine bodyPost_ret (v := .agg (ints4 zs)) (by simp [results, Tryz.results112, go_sem, ints4]) rfl ⟨rfl, ?_⟩
  exact ((((Below.refl _ _).alloc (Nat.le_refl _) _).alloc (by simp) _).alloc (by simp; omega) _).drew

theorem idx0 (x0 x1 x2 x3 : Value) (w : World) : (Instr.index 147 (.agg #[x0, x1, x2, x3]) (.int .i64 0)).run Tryz.prog w = .ok x0 w := by kernel_rfl

theorem idx1 (x0 x1 x2 x3 : Value) (w : World) : (Instr.index 147 (.agg #[x0, x1, x2, x3]) (.int .i64 1)).run Tryz.prog w = .ok x1 w := by kernel_rfl

theorem idx2 (x0 x1 x2 x3 : Value) (w : World) : (Instr.index 147 (.agg #[x0, x1, x2, x3]) (.int .i64 2)).run Tryz.prog w = .ok x2 w := by kernel_rfl

theorem idx3 (x0 x1 x2 x3 : Value) (w : World) : (Instr.index 147 (.agg #[x0, x1, x2, x3]) (.int .i64 3)).run Tryz.prog w = .ok x3 w := by kernel_rfl

theorem make4 (u : World) : (Instr.makeSlice 38 (.int .i64 4) (.int .i64 4)).run Tryz.prog u = .ok (.slice (some ⟨u.heap.size, 0, none⟩) 4 4) (u.alloc (.cells #[.int .i64 0, .int .i64 0, .int .i64 0, .int .i64 0] 2)) := by kernel_rfl

set_option maxRecDepth 100000 in
theorem labelOf_calls (x0 x1 x2 x3 : Int) (w : World) :
    Calls Tryz.prog 103 #[.agg #[.int .i64 x0, .int .i64 x1, .int .i64 x2, .int .i64 x3]] w fun e w' => ∃ b, e = .returned (.agg #[.slice (some ⟨b, 0, none⟩) 4 4]) ∧ w.heap.size ≤ b ∧ Blk w' b [x0, x1, x2, x3] ∧ Below w.heap.size w w' := by
  have hmk := make4
  have hcp : Sem.run Tryz.prog (Builtin.copy_ #[38, 38] 3 #[.slice (some ⟨w.heap.size + 1 + 1, 0, none⟩) 4 4, .slice (some ⟨w.heap.size, 0, none⟩) 4 4])
      (((w.alloc (.cells #[.int .i64 x0, .int .i64 x1, .int .i64 x2, .int .i64 x3] 147)).alloc (.cells #[.slice none 0 0] 84)).alloc (.cells #[.int .i64 0, .int .i64 0, .int .i64 0, .int .i64 0] 2)) =
      .ok (.int .i64 4) (((w.alloc (.cells #[.int .i64 x0, .int .i64 x1, .int .i64 x2, .int .i64 x3] 147)).alloc (.cells #[.slice none 0 0] 84)).alloc (.cells #[.int .i64 x0, .int .i64 x1, .int .i64 x2, .int .i64 x3] 2)) := by
    have h := copy4 (P := Tryz.prog) ((w.alloc (.cells #[.int .i64 x0, .int .i64 x1, .int .i64 x2, .int .i64 x3] 147)).alloc (.cells #[.slice none 0 0] 84)) 38 38 3 2 2 w.heap.size 0 4 [x0, x1, x2, x3] (.int .i64 0) (.int .i64 0) (.int .i64 0) (.int .i64 0) Tryz.underlying38 infoSize (by simp; omega) (fun j hj => by
      rw [World.cell?_alloc_past _ _ _ (by simp), World.cell?_alloc_at _ _ _ _ rfl]
      rcases (by omega : j = 0 ∨ j = 1 ∨ j = 2 ∨ j = 3) with rfl | rfl | rfl | rfl <;> rfl)
    rw [show ((w.alloc (.cells #[.int .i64 x0, .int .i64 x1, .int .i64 x2, .int .i64 x3] 147)).alloc (.cells #[.slice none 0 0] 84)).heap.size = w.heap.size + 1 + 1 from by simp] at h
    exact h
  go_enter Tryz.func103, Tryz.ntmps103
  go_wp2
  refine bodyPost_ret (v := .agg #[.slice (some ⟨w.heap.size + 1 + 1, 0, none⟩) 4 4]) (by simp [results, Tryz.results103, go_sem]) rfl ⟨_, rfl, by omega, ?_, (((Below.refl _ _).alloc (Nat.le_refl _) _).alloc (by simp) _).alloc (by simp; omega) _⟩
  refine ⟨by simp, fun i hi => ?_, fun i => by go_simp⟩
  rw [World.cell?_alloc_at _ _ _ _ (by simp)]
  simp at hi
  rcases (by omega : i = 0 ∨ i = 1 ∨ i = 2 ∨ i = 3) with rfl | rfl | rfl | rfl <;> rfl

set_option maxRecDepth 100000 in
theorem implHighLabel_calls (a : Option Addr) (len cap : Nat) (zs : List Int) (w : World) (hl : len ≤ maxLen) (hs : Sl w a len zs) :
    Calls Tryz.prog 106 #[.agg #[.slice a len cap]] w fun e w' => ∃ ra rn rc, e = .returned (.agg #[.int .i64 (fault zs), .slice ra rn rc]) ∧ OSl w' w.heap.size w'.heap.size ra rn (resOf (fault zs) (highL zs)) ∧ Below w.heap.size w w' := by
  have hb0 := fun o1 o2 => ((Below.refl w.heap.size w).alloc (Nat.le_refl _) o1).alloc (by simp) o2
  by_cases hf : fault zs = 0
  · have hq : (fault zs == 0) = true := by simp [hf]
    have h4 : len = 4 := by rw [← hs.1]; exact fault_len hf
    subst h4
    rw [resOf_ok hf, highL4 hs.1]
    have Hf := hide hf
    clear hf
    have i0 := idx0
    have i1 := idx1
    have i2 := idx2
    have i3 := idx3
    go_enter Tryz.func106, Tryz.ntmps106
    go_wp2_with fail
    refine (implLabelFault_calls a 4 cap zs _ hl (hs.below (hb0 _ _) (Nat.le_refl _))).mono ?_
    rintro e w1 ⟨rfl, hb⟩
    have h1 : Below w.heap.size w w1 := (hb0 _ _).trans (hb.mono (by simp; omega))
    have c1 : w1.cell? ⟨w.heap.size, 0, none⟩ = some (.slice a 4 cap) := (hb.cell (p := ⟨w.heap.size, 0, none⟩) (by simp; omega)).trans (by go_simp)
    have r0 : w1.cell? ⟨w.heap.size + 1, 0, none⟩ = some (.int .i64 0) := (hb.cell (p := ⟨w.heap.size + 1, 0, none⟩) (by simp)).trans (by go_simp)
    have r1 : w1.cell? ⟨w.heap.size + 1, 1, none⟩ = some (.slice none 0 0) := (hb.cell (p := ⟨w.heap.size + 1, 1, none⟩) (by simp)).trans (by go_simp)
    have f0 : w1.frozen? ⟨w.heap.size + 1, 0, none⟩ = false := (hb.frozen (p := ⟨w.heap.size + 1, 0, none⟩) (by simp)).trans (by go_simp)
    have f1 : w1.frozen? ⟨w.heap.size + 1, 1, none⟩ = false := (hb.frozen (p := ⟨w.heap.size + 1, 1, none⟩) (by simp)).trans (by go_simp)
    have hN : w.heap.size + 1 < w1.heap.size := by have := hb.size; simp at this; omega
    clear hb hb0
    go_wp2_with fail
    refine (levelsOf_calls a cap zs _ (hs.below h1 (Nat.le_refl _))).mono ?_
    rintro e w2 ⟨rfl, hb2⟩
    have c2 := (hb2.cell (p := ⟨w.heap.size, 0, none⟩) (by show w.heap.size < _; omega)).trans c1
    have h12 := hb2
    have h2 : Below w.heap.size w w2 := h1.trans (hb2.mono h1.size)
    have hN2 : w.heap.size < w2.heap.size := by have := hb2.size; omega
    clear hb2 c1
    unfold ints4
    go_wp2_with fail
    refine (levelsOf_calls a cap zs _ (hs.below (h2.alloc h2.size _) (Nat.le_refl _))).mono ?_
    rintro e w3 ⟨rfl, hb3⟩
    have u0 : w3.cell? ⟨w2.heap.size, 0, none⟩ = some (.int .i64 (gt zs 0)) := (hb3.cell (p := ⟨w2.heap.size, 0, none⟩) (by simp)).trans (by go_simp)
    have u1 : w3.cell? ⟨w2.heap.size, 1, none⟩ = some (.int .i64 (gt zs 1)) := (hb3.cell (p := ⟨w2.heap.size, 1, none⟩) (by simp)).trans (by go_simp)
    have u2 : w3.cell? ⟨w2.heap.size, 2, none⟩ = some (.int .i64 (gt zs 2)) := (hb3.cell (p := ⟨w2.heap.size, 2, none⟩) (by simp)).trans (by go_simp)
    have u3 : w3.cell? ⟨w2.heap.size, 3, none⟩ = some (.int .i64 (gt zs 3)) := (hb3.cell (p := ⟨w2.heap.size, 3, none⟩) (by simp)).trans (by go_simp)
    have uf : ∀ j, w3.frozen? ⟨w2.heap.size, j, none⟩ = false := fun j => (hb3.frozen (p := ⟨w2.heap.size, j, none⟩) (by simp)).trans (by go_simp)
    have h13 : Below w1.heap.size w1 w3 := (h12.alloc h12.size _).trans (hb3.mono (by have := h12.size; simp; omega))
    have h3 : Below w.heap.size w w3 := h1.trans (h13.mono h1.size)
    have hN3 : w2.heap.size < w3.heap.size := by have := hb3.size; simp at this; omega
    have hu : w1.heap.size ≤ w2.heap.size := h12.size
    clear hb3 h12 h2 c2
    unfold ints4
    go_wp2
    go_loopw [17] (fun i wr => ∃ k : Nat, k ≤ 4 ∧ i = .int .i64 k ∧ Below w1.heap.size w1 wr ∧ wr.heap.size = w3.heap.size ∧ ARow wr w2.heap.size (upTo (hg zs) (gt zs) k)) (fun i _ => 4 - (intOf i).toNat)
    case atStart =>
      refine ⟨0, Nat.zero_le _, rfl, h13, rfl, fun j hj => ?_, uf⟩
      rcases (by omega : j = 0 ∨ j = 1 ∨ j = 2 ∨ j = 3) with rfl | rfl | rfl | rfl <;> assumption
    case round =>
      obtain ⟨k, hk4, rfl, hbel, hsz, hrow⟩ := hrel
      rcases (by omega : k = 0 ∨ k = 1 ∨ k = 2 ∨ k = 3 ∨ k = 4) with rfl | rfl | rfl | rfl | rfl
      · have hv := hrow.1 0 (by omega)
        have hfk := hrow.2 0
        by_cases he : gt zs 0 = 0
        · have hz : (gt zs 0 == 0) = true := by simp [he]
          have He := hide he
          clear he
          go_wp2
          go_roundw
          case rel => exact ⟨1, by omega, by go_num, hbel.setCell hu _, by simpa using hsz, hrow.set (by omega) (upTo_set (if_pos He.out))⟩
          case measure => simp [intOf]
        · have hz : (gt zs 0 == 0) = false := by simp [he]
          have He := hide he
          clear he
          go_wp2
          go_roundw
          case rel => exact ⟨1, by omega, by go_num, hbel, hsz, hrow.keep (upTo_keep (if_neg He.out))⟩
          case measure => simp [intOf]
      · have hv := hrow.1 1 (by omega)
        have hfk := hrow.2 1
        by_cases he : gt zs 1 = 0
        · have hz : (gt zs 1 == 0) = true := by simp [he]
          have He := hide he
          clear he
          go_wp2
          go_roundw
          case rel => exact ⟨2, by omega, by go_num, hbel.setCell hu _, by simpa using hsz, hrow.set (by omega) (upTo_set (if_pos He.out))⟩
          case measure => simp [intOf]
        · have hz : (gt zs 1 == 0) = false := by simp [he]
          have He := hide he
          clear he
          go_wp2
          go_roundw
          case rel => exact ⟨2, by omega, by go_num, hbel, hsz, hrow.keep (upTo_keep (if_neg He.out))⟩
          case measure => simp [intOf]
      · have hv := hrow.1 2 (by omega)
        have hfk := hrow.2 2
        by_cases he : gt zs 2 = 0
        · have hz : (gt zs 2 == 0) = true := by simp [he]
          have He := hide he
          clear he
          go_wp2
          go_roundw
          case rel => exact ⟨3, by omega, by go_num, hbel.setCell hu _, by simpa using hsz, hrow.set (by omega) (upTo_set (if_pos He.out))⟩
          case measure => simp [intOf]
        · have hz : (gt zs 2 == 0) = false := by simp [he]
          have He := hide he
          clear he
          go_wp2
          go_roundw
          case rel => exact ⟨3, by omega, by go_num, hbel, hsz, hrow.keep (upTo_keep (if_neg He.out))⟩
          case measure => simp [intOf]
      · have hv := hrow.1 3 (by omega)
        have hfk := hrow.2 3
        by_cases he : gt zs 3 = 0
        · have hz : (gt zs 3 == 0) = true := by simp [he]
          have He := hide he
          clear he
          go_wp2
          go_roundw
          case rel => exact ⟨4, by omega, by go_num, hbel.setCell hu _, by simpa using hsz, hrow.set (by omega) (upTo_set (if_pos He.out))⟩
          case measure => simp [intOf]
        · have hz : (gt zs 3 == 0) = false := by simp [he]
          have He := hide he
          clear he
          go_wp2
          go_roundw
          case rel => exact ⟨4, by omega, by go_num, hbel, hsz, hrow.keep (upTo_keep (if_neg He.out))⟩
          case measure => simp [intOf]
      · have v0 : wr.cell? ⟨w2.heap.size, 0, none⟩ = some (.int .i64 (hg zs 0)) := hrow.1 0 (by omega)
        have v1 : wr.cell? ⟨w2.heap.size, 1, none⟩ = some (.int .i64 (hg zs 1)) := hrow.1 1 (by omega)
        have v2 : wr.cell? ⟨w2.heap.size, 2, none⟩ = some (.int .i64 (hg zs 2)) := hrow.1 2 (by omega)
        have v3 : wr.cell? ⟨w2.heap.size, 3, none⟩ = some (.int .i64 (hg zs 3)) := hrow.1 3 (by omega)
        have r0r := (hbel.cell (p := ⟨w.heap.size + 1, 0, none⟩) hN).trans r0
        have r1r := (hbel.cell (p := ⟨w.heap.size + 1, 1, none⟩) hN).trans r1
        have f0r := (hbel.frozen (p := ⟨w.heap.size + 1, 0, none⟩) hN).trans f0
        have f1r := (hbel.frozen (p := ⟨w.heap.size + 1, 1, none⟩) hN).trans f1
        have hr : Below w.heap.size w wr := h1.trans (hbel.mono h1.size)
        have hNr : w.heap.size + 1 < wr.heap.size := by have := hbel.size; omega
        clear r0 r1 f0 f1 h1 hbel hrow h13 h3 u0 u1 u2 u3 uf
        go_wp2_with fail
        refine (labelOf_calls _ _ _ _ _).mono ?_
        rintro e w4 ⟨b, rfl, hbN, blk, hb4⟩
        have r04 := (hb4.cell (p := ⟨w.heap.size + 1, 0, none⟩) hNr).trans r0r
        have r14 := (hb4.cell (p := ⟨w.heap.size + 1, 1, none⟩) hNr).trans r1r
        have f04 := (hb4.frozen (p := ⟨w.heap.size + 1, 0, none⟩) hNr).trans f0r
        have f14 := (hb4.frozen (p := ⟨w.heap.size + 1, 1, none⟩) hNr).trans f1r
        have h4 : Below w.heap.size w w4 := hr.trans (hb4.mono hr.size)
        clear hb4 r0r r1r f0r f1r
        go_wp2
        refine bodyPost_ret (v := .agg #[.int .i64 0, .slice (some ⟨b, 0, none⟩) 4 4]) (by simp [results, Tryz.results106, go_sem, r04, r14]) rfl ⟨_, 4, 4, by rw [Hf.out], OSl.ofBlk (n := 4) ((blk.setCell (by simp; omega) _).setCell (by simp; omega) _) (by omega) rfl (by omega), (h4.setCell (by simp) _).setCell (by simp) _⟩
  · have hq : (fault zs == 0) = false := by simp [hf]
    rw [resOf_no hf]
    go_enter Tryz.func106, Tryz.ntmps106
    go_wp2_with fail
    refine (implLabelFault_calls a len cap zs _ hl (hs.below (hb0 _ _) (Nat.le_refl _))).mono ?_
    rintro e w1 ⟨rfl, hb⟩
    have h1 : Below w.heap.size w w1 := (hb0 _ _).trans (hb.mono (by simp; omega))
    have r0 : w1.cell? ⟨w.heap.size + 1, 0, none⟩ = some (.int .i64 0) := (hb.cell (p := ⟨w.heap.size + 1, 0, none⟩) (by simp)).trans (by go_simp)
    have r1 : w1.cell? ⟨w.heap.size + 1, 1, none⟩ = some (.slice none 0 0) := (hb.cell (p := ⟨w.heap.size + 1, 1, none⟩) (by simp)).trans (by go_simp)
    have f0 : w1.frozen? ⟨w.heap.size + 1, 0, none⟩ = false := (hb.frozen (p := ⟨w.heap.size + 1, 0, none⟩) (by simp)).trans (by go_simp)
    have f1 : w1.frozen? ⟨w.heap.size + 1, 1, none⟩ = false := (hb.frozen (p := ⟨w.heap.size + 1, 1, none⟩) (by simp)).trans (by go_simp)
    clear hb hb0
    go_wp2
    refine bodyPost_ret (v := .agg #[.int .i64 (fault zs), .slice none 0 0]) (by simp [results, Tryz.results106, go_sem, r0, r1]) rfl ⟨_, _, _, rfl, OSl.nil _ _ _, (h1.setCell (by simp) _).setCell (by simp) _⟩

set_option maxRecDepth 100000 in
theorem faultOfBoth_calls (a b : Option Addr) (la ca lb cb : Nat) (xs ys : List Int) (w : World) (hla : la ≤ maxLen) (hlb : lb ≤ maxLen) (hx : Sl w a la xs) (hy : Sl w b lb ys) :
    Calls Tryz.prog 111 #[.agg #[.slice a la ca], .agg #[.slice b lb cb]] w fun e w' => e = .returned (.int .i64 (both xs ys)) ∧ Below w.heap.size w w' := by
  have hb0 := fun o1 o2 => ((Below.refl w.heap.size w).alloc (Nat.le_refl _) o1).alloc (by simp) o2
  by_cases hf : fault xs = 0
  · have hq : (fault xs == 0) = true := by simp [hf]
    have e := both_eq (ys := ys) hf
    rw [e]
    clear e hf
    go_enter Tryz.func111, Tryz.ntmps111
    go_wp2_with fail
    refine (implLabelFault_calls a la ca xs _ hla (hx.below (hb0 _ _) (Nat.le_refl _))).mono ?_
    rintro e w1 ⟨rfl, hb⟩
    have h1 : Below w.heap.size w w1 := (hb0 _ _).trans (hb.mono (by simp; omega))
    have c2 : w1.cell? ⟨w.heap.size + 1, 0, none⟩ = some (.slice b lb cb) := (hb.cell (p := ⟨w.heap.size + 1, 0, none⟩) (by simp)).trans (by go_simp)
    clear hb hb0
    go_wp2_with fail
    refine (implLabelFault_calls b lb cb ys _ hlb (hy.below h1 (Nat.le_refl _))).mono ?_
    rintro e w2 ⟨rfl, hb⟩
    go_wp2
    go_ret
    exact ⟨rfl, h1.trans (hb.mono h1.size)⟩
  · have hq : (fault xs == 0) = false := by simp [hf]
    have e := both_ne (ys := ys) hf
    rw [e]
    clear e hf
    go_enter Tryz.func111, Tryz.ntmps111
    go_wp2_with fail
    refine (implLabelFault_calls a la ca xs _ hla (hx.below (hb0 _ _) (Nat.le_refl _))).mono ?_
    rintro e w1 ⟨rfl, hb⟩
    go_wp2
    go_ret
    exact ⟨rfl, (hb0 _ _).trans (hb.mono (by simp; omega))⟩

theorem both_zero {xs ys : List Int} (h : (both xs ys == 0) = true) : fault xs = 0 ∧ fault ys = 0 := by
  simp only [beq_iff_eq] at h
  unfold both at h
  split at h
  · exact ⟨by assumption, h⟩
  · contradiction

theorem isBelowB_of {xs ys : List Int} (h : fault xs = 0 ∧ fault ys = 0) : isBelowB xs ys = belowB xs ys := by
  unfold isBelowB; rw [h.1, h.2]; rfl

theorem isBelowB_not {xs ys : List Int} (h : (both xs ys == 0) = false) : isBelowB xs ys = false := by
  simp only [beq_eq_false_iff_ne] at h
  unfold both at h
  unfold isBelowB
  split at h
  · rename_i e; rw [e]; simp [h]
  · rename_i e; simp [e]

set_option maxRecDepth 100000 in
theorem implIsBelow_calls (a b : Option Addr) (la ca lb cb : Nat) (xs ys : List Int) (w : World) (hla : la ≤ maxLen) (hlb : lb ≤ maxLen) (hx : Sl w a la xs) (hy : Sl w b lb ys) :
    Calls Tryz.prog 104 #[.agg #[.slice a la ca], .agg #[.slice b lb cb]] w fun e w' => e = .returned (.bool (isBelowB xs ys)) ∧ Below w.heap.size w w' := by
  have hb0 := fun o1 o2 => ((Below.refl w.heap.size w).alloc (Nat.le_refl _) o1).alloc (by simp) o2
  cases hf : (both xs ys == 0) with
  | true =>
    obtain ⟨fx, fy⟩ := both_zero hf
    have e1 : la = 4 := by rw [← hx.1]; exact fault_len fx
    have e2 : lb = 4 := by rw [← hy.1]; exact fault_len fy
    rw [isBelowB_of ⟨fx, fy⟩]
    subst e1 e2
    clear fx fy
    have i0 := idx0
    have i1 := idx1
    have i2 := idx2
    have i3 := idx3
    go_enter Tryz.func104, Tryz.ntmps104
    go_wp2_with fail
    refine (faultOfBoth_calls a b 4 ca 4 cb xs ys _ hla hlb (hx.below (hb0 _ _) (Nat.le_refl _)) (hy.below (hb0 _ _) (Nat.le_refl _))).mono ?_
    rintro e w1 ⟨rfl, hb⟩
    have h1 : Below w.heap.size w w1 := (hb0 _ _).trans (hb.mono (by simp; omega))
    have c1 : w1.cell? ⟨w.heap.size, 0, none⟩ = some (.slice a 4 ca) := (hb.cell (p := ⟨w.heap.size, 0, none⟩) (by simp; omega)).trans (by go_simp)
    have c2 : w1.cell? ⟨w.heap.size + 1, 0, none⟩ = some (.slice b 4 cb) := (hb.cell (p := ⟨w.heap.size + 1, 0, none⟩) (by simp)).trans (by go_simp)
    have hN : w.heap.size + 1 < w1.heap.size := by have := hb.size; simp at this; omega
    clear hb hb0
    go_wp2_with fail
    refine (levelsOf_calls b cb ys _ (hy.below h1 (Nat.le_refl _))).mono ?_
    rintro e w2 ⟨rfl, hb2⟩
    have c12 := (hb2.cell (p := ⟨w.heap.size, 0, none⟩) (by show w.heap.size < _; omega)).trans c1
    have h2 : Below w.heap.size w w2 := h1.trans (hb2.mono h1.size)
    have hN2 : w.heap.size < w2.heap.size := by have := hb2.size; omega
    clear hb2 c1 c2
    unfold ints4
    go_wp2_with fail
    refine (levelsOf_calls a ca xs _ (hx.below (h2.alloc h2.size _) (Nat.le_refl _))).mono ?_
    rintro e w3 ⟨rfl, hb3⟩
    have u0 : w3.cell? ⟨w2.heap.size, 0, none⟩ = some (.int .i64 (gt ys 0)) := (hb3.cell (p := ⟨w2.heap.size, 0, none⟩) (by simp)).trans (by go_simp)
    have u1 : w3.cell? ⟨w2.heap.size, 1, none⟩ = some (.int .i64 (gt ys 1)) := (hb3.cell (p := ⟨w2.heap.size, 1, none⟩) (by simp)).trans (by go_simp)
    have u2 : w3.cell? ⟨w2.heap.size, 2, none⟩ = some (.int .i64 (gt ys 2)) := (hb3.cell (p := ⟨w2.heap.size, 2, none⟩) (by simp)).trans (by go_simp)
    have u3 : w3.cell? ⟨w2.heap.size, 3, none⟩ = some (.int .i64 (gt ys 3)) := (hb3.cell (p := ⟨w2.heap.size, 3, none⟩) (by simp)).trans (by go_simp)
    have h3 : Below w.heap.size w w3 := (h2.alloc h2.size _).trans (hb3.mono (by simp; omega))
    clear hb3
    unfold ints4
    go_wp2
    go_loop [16] (fun i => ∃ k : Nat, k ≤ 4 ∧ i = .int .i64 k ∧ ∀ j, j < k → gt xs j ≤ gt ys j) (fun i => 4 - (intOf i).toNat)
    case atStart => exact ⟨0, Nat.zero_le _, rfl, fun j hj => by omega⟩
    case round =>
      obtain ⟨k, hk, rfl, hall⟩ := hrel
      have Hall : Hid (∀ j, j < k → gt xs j ≤ gt ys j) := hall
      clear hall
      rcases (by omega : k = 0 ∨ k = 1 ∨ k = 2 ∨ k = 3 ∨ k = 4) with rfl | rfl | rfl | rfl | rfl
      · by_cases he : gt ys 0 < gt xs 0
        · go_wp2
          go_ret
          exact ⟨ret_bool (belowB_no (by omega) he).symm, h3⟩
        · go_wp2
          go_round
          case rel => exact ⟨1, by omega, by go_num, fun j hj => by (by_cases e : j = 0); (subst e; omega); exact Hall.out j (by omega)⟩
          case measure => simp [intOf]
      · by_cases he : gt ys 1 < gt xs 1
        · go_wp2
          go_ret
          exact ⟨ret_bool (belowB_no (by omega) he).symm, h3⟩
        · go_wp2
          go_round
          case rel => exact ⟨2, by omega, by go_num, fun j hj => by (by_cases e : j = 1); (subst e; omega); exact Hall.out j (by omega)⟩
          case measure => simp [intOf]
      · by_cases he : gt ys 2 < gt xs 2
        · go_wp2
          go_ret
          exact ⟨ret_bool (belowB_no (by omega) he).symm, h3⟩
        · go_wp2
          go_round
          case rel => exact ⟨3, by omega, by go_num, fun j hj => by (by_cases e : j = 2); (subst e; omega); exact Hall.out j (by omega)⟩
          case measure => simp [intOf]
      · by_cases he : gt ys 3 < gt xs 3
        · go_wp2
          go_ret
          exact ⟨ret_bool (belowB_no (by omega) he).symm, h3⟩
        · go_wp2
          go_round
          case rel => exact ⟨4, by omega, by go_num, fun j hj => by (by_cases e : j = 3); (subst e; omega); exact Hall.out j (by omega)⟩
          case measure => simp [intOf]
      · go_wp2
        go_ret
        exact ⟨ret_bool (belowB_yes (fun j hj => Hall.out j (by omega))).symm, h3⟩
  | false =>
    rw [isBelowB_not hf]
    go_enter Tryz.func104, Tryz.ntmps104
    go_wp2_with fail
    refine (faultOfBoth_calls a b la ca lb cb xs ys _ hla hlb (hx.below (hb0 _ _) (Nat.le_refl _)) (hy.below (hb0 _ _) (Nat.le_refl _))).mono ?_
    rintro e w1 ⟨rfl, hb⟩
    go_wp2
    go_ret
    exact ⟨rfl, (hb0 _ _).trans (hb.mono (by simp; omega))⟩

set_option maxRecDepth 100000 in
theorem hasLevel_calls (a : Option Addr) (len cap : Nat) (zs : List Int) (x : Int) (w : World) (hl : len ≤ maxLen) (hs : Sl w a len zs) :
    Calls Tryz.prog 110 #[.agg #[.slice a len cap], .int .i64 x] w fun e w' => e = .returned (.bool (has zs x)) ∧ Below w.heap.size w w' := by
  unfold maxLen at hl
  obtain ⟨hlen, hs⟩ := hs
  go_enter Tryz.func110, Tryz.ntmps110
  go_wp2
  go_loop [10] (fun i => ∃ k : Nat, k ≤ len ∧ i = .int .i64 k ∧ ∀ j, j < k → gt zs j ≠ x) (fun i => len - (intOf i).toNat)
  case atStart => exact ⟨0, Nat.zero_le _, rfl, fun j hj => by omega⟩
  case round =>
    obtain ⟨k, hk, rfl, hall⟩ := hrel
    have Hall : Hid (∀ j, j < k → gt zs j ≠ x) := hall
    clear hall
    by_cases hlt : k < len
    · obtain ⟨b, off, rfl, hb, hc⟩ := hs (by omega)
      have hck := hc k hlt
      by_cases he : gt zs k = x
      · have hq : (gt zs k == x) = true := by simp [he]
        have He := hide he
        clear he
        go_wp2
        go_ret
        exact ⟨ret_bool (has_yes (k := k) (by omega) He.out).symm, (Below.refl _ _).alloc (Nat.le_refl _) _⟩
      · have hq : (gt zs k == x) = false := by simp [he]
        have He := hide he
        clear he
        go_wp2
        go_round
        case rel => exact ⟨k + 1, by omega, by go_num, fun j hj => by (by_cases e : j = k); (subst e; exact He.out); exact Hall.out j (by omega)⟩
        case measure => simp [intOf]; omega
    · go_wp2
      go_ret
      exact ⟨ret_bool (has_no (fun j hj => Hall.out j (by omega))).symm, (Below.refl _ _).alloc (Nat.le_refl _) _⟩

def thingB (zs : List Int) : Bool := (fault zs == 0) && !has zs 0 && !has zs 5

set_option maxRecDepth 100000 in
theorem isThing_calls (a : Option Addr) (len cap : Nat) (zs : List Int) (w : World) (hl : len ≤ maxLen) (hs : Sl w a len zs) :
    Calls Tryz.prog 105 #[.agg #[.slice a len cap]] w fun e w' => e = .returned (.bool (thingB zs)) ∧ Below w.heap.size w w' := by
  have M0 := (Mem.start w).alloc1 (.slice a len cap) 84
  have hb0 := M0.bel
  unfold thingB
  cases hf : (fault zs == 0) with
  | true =>
    go_enter Tryz.func105, Tryz.ntmps105
    go_wp2_with fail
    refine (implLabelFault_calls a len cap zs _ hl (hs.below hb0 (Nat.le_refl _))).mono ?_
    rintro e w1 ⟨rfl, hb⟩
    have M1 := M0.below hb
    have c1 := M1.cell 0 rfl
    clear hb M0 hb0
    go_wp2_with fail
    refine (hasLevel_calls a len cap zs 0 _ hl (hs.below M1.bel (Nat.le_refl _))).mono ?_
    rintro e w2 ⟨rfl, hb2⟩
    have M2 := M1.below hb2
    have c2 := M2.cell 0 rfl
    clear hb2 M1 c1
    cases h0 : has zs 0 with
    | true =>
      go_wp2
      go_ret
      exact ⟨ret_bool (by rw [h0]; rfl), M2.bel⟩
    | false =>
      go_wp2_with fail
      refine (hasLevel_calls a len cap zs 5 _ hl (hs.below M2.bel (Nat.le_refl _))).mono ?_
      rintro e w3 ⟨rfl, hb3⟩
      have M3 := M2.below hb3
      go_wp2
      go_ret
      exact ⟨ret_bool (by rw [h0]; simp), M3.bel⟩
  | false =>
    go_enter Tryz.func105, Tryz.ntmps105
    go_wp2_with fail
    refine (implLabelFault_calls a len cap zs _ hl (hs.below hb0 (Nat.le_refl _))).mono ?_
    rintro e w1 ⟨rfl, hb⟩
    have M1 := M0.below hb
    go_wp2
    go_ret
    exact ⟨rfl, M1.bel⟩

def thing0 (zs : List Int) : Bool := !has zs 0 && !has zs 5

theorem thing0_no {zs : List Int} {k : Nat} (hk : k < zs.length) (h : gt zs k = 0 ∨ gt zs k = 5) : thing0 zs = false := by
  unfold thing0
  rcases h with h | h
  · rw [has_yes hk h]; rfl
  · rw [has_yes hk h]; simp

theorem thing0_yes {zs : List Int} (h : ∀ j, j < zs.length → gt zs j ≠ 0 ∧ gt zs j ≠ 5) : thing0 zs = true := by
  unfold thing0
  rw [has_no (fun j hj => (h j hj).1), has_no (fun j hj => (h j hj).2)]; rfl

end Go.Proofs.YtnibngigbcakkaaGreat
