import Derived.Test.YtnlkigjgloeonaaGreatBase
import Derived.WalkKit
import Derived.ProofKit
import Derived.OpenShut
import Derived.ShutString
import Derived.ChangeOld
import Derived.Below
import Derived.WalkSpells
import Derived.Deep.QuietTactic
import Derived.BigQuiet
import Derived.Deep.RegionWith
import Derived.Deep.WholeRow
import Derived.Deep.DeepCutAuto
import Derived.Deep.RegionHeld2
import Derived.Deep.AppendLies
import Derived.Deep.RegionLaw
namespace Go.Proofs.YtnlkigjgloeonaaGreat
open Go.ChangeShapes Go.WideShapes Go.ChangeAt Go.RowKit

theorem setRow_new (w : World) (c c' : Array Value) (t : TypeId) : (w.alloc (.cells c t)).setRow w.heap.size c' = w.alloc (.cells c' t) := by
  exact World.setRow_alloc_new w c c' t

theorem copy4 {P : Program} (U : World) (dT sT ty elem t : TypeId) (b off ca : Nat) (zs : List Int) (y0 y1 y2 y3 : Value) (hu : P.underlying dT = some (.slice elem)) (hs : (P.info? elem).map (·.size) = some 1)
    (hb : b < U.heap.size) (hc : ∀ j, j < 4 → U.cell? ⟨b, off + j, none⟩ = some (.int .i64 (gt zs j))) :
    Sem.run P (Builtin.copy_ #[dT, sT] ty #[.slice (some ⟨U.heap.size, 0, none⟩) 4 4, .slice (some ⟨b, off, none⟩) 4 ca]) (U.alloc (.cells #[y0, y1, y2, y3] t)) = .ok (.int .i64 4) (U.alloc (.cells (ints4 zs) t)) := by
  have h := run_copy_row (P := P) (U.alloc (.cells #[y0, y1, y2, y3] t)) dT sT ty elem U.heap.size 0 4 4 ⟨b, off, none⟩ 4 ca #[y0, y1, y2, y3] t (ints4 zs).toList hu hs (heap_alloc_new U _) (by simp [ints4]) ?_ (by simp [ints4]) (by intro v hv; simp [ints4] at hv; rcases hv with rfl | rfl | rfl | rfl <;> rfl)
  · rw [h]
    have e : (#[y0, y1, y2, y3].toList.take 0 ++ (ints4 zs).toList ++ #[y0, y1, y2, y3].toList.drop (0 + (ints4 zs).toList.length)).toArray = ints4 zs := by simp [ints4]
    rw [e, setRow_new]
    rfl
  · intro j v hj
    have hj4 : j < 4 := by
      have := (List.getElem?_eq_some_iff.1 hj).1
      simpa [ints4] using this
    have hadd : (Addr.mk b off none).add j = ⟨b, off + j, none⟩ := by cases j <;> simp [Addr.add]
    rw [hadd, World.cell?_alloc_past _ _ _ hb, hc j hj4, ← hj]
    rcases (by omega : j = 0 ∨ j = 1 ∨ j = 2 ∨ j = 3) with rfl | rfl | rfl | rfl <;> rfl

theorem infoSize : (Tryz.prog.info? 2).map (·.size) = some 1 := by kernel_rfl

set_option maxRecDepth 100000 in
theorem levelsOf_calls (a : Option Addr) (ca : Nat) (zs : List Int) (w : World) (hs : Sl w a 4 zs) :
    Calls Tryz.prog 157 #[.agg #[.slice a 4 ca]] w fun e w' => e = .returned (.agg (ints4 zs)) ∧ Below w.heap.size w w' := by
  obtain ⟨hl, hs⟩ := hs
  obtain ⟨b, off, rfl, hb, hc⟩ := hs (by omega)
  have hcp : Sem.run Tryz.prog (Builtin.copy_ #[25, 25] 3 #[.slice (some ⟨w.heap.size + 1 + 1, 0, none⟩) 4 4, .slice (some ⟨b, off, none⟩) 4 ca])
      (((w.alloc (.cells #[.slice (some ⟨b, off, none⟩) 4 ca] 64)).alloc (.cells #[.int .i64 0, .int .i64 0, .int .i64 0, .int .i64 0] 230)).alloc (.cells #[.int .i64 0, .int .i64 0, .int .i64 0, .int .i64 0] 230)).drew =
      .ok (.int .i64 4) (((w.alloc (.cells #[.slice (some ⟨b, off, none⟩) 4 ca] 64)).alloc (.cells #[.int .i64 0, .int .i64 0, .int .i64 0, .int .i64 0] 230)).alloc (.cells #[.int .i64 (gt zs 0), .int .i64 (gt zs 1), .int .i64 (gt zs 2), .int .i64 (gt zs 3)] 230)).drew := by
    have h := copy4 (P := Tryz.prog) ((w.alloc (.cells #[.slice (some ⟨b, off, none⟩) 4 ca] 64)).alloc (.cells #[.int .i64 0, .int .i64 0, .int .i64 0, .int .i64 0] 230)).drew 25 25 3 2 230 b off ca zs (.int .i64 0) (.int .i64 0) (.int .i64 0) (.int .i64 0) Tryz.underlying25 infoSize (by simp; omega) (fun j hj => by rw [World.cell?_drew, World.cell?_alloc_past _ _ _ (by simp; omega), World.cell?_alloc_past _ _ _ hb]; exact hc j hj)
    rw [show ((w.alloc (.cells #[.slice (some ⟨b, off, none⟩) 4 ca] 64)).alloc (.cells #[.int .i64 0, .int .i64 0, .int .i64 0, .int .i64 0] 230)).drew.heap.size = w.heap.size + 1 + 1 from by simp] at h
    exact h
  go_enter Tryz.func157, Tryz.ntmps157
  go_wp2
  go_region
  clear hcp
  go_wp2
  refine bodyPost_ret (v := .agg (ints4 zs)) (by simp [results, Tryz.results157, go_sem, ints4]) rfl ⟨rfl, ?_⟩
  exact ((((Below.refl _ _).alloc (Nat.le_refl _) _).alloc (by simp) _).alloc (by simp; omega) _).drew

theorem idx0 (x0 x1 x2 x3 : Value) (w : World) : (Instr.index 230 (.agg #[x0, x1, x2, x3]) (.int .i64 0)).run Tryz.prog w = .ok x0 w := by kernel_rfl

theorem idx1 (x0 x1 x2 x3 : Value) (w : World) : (Instr.index 230 (.agg #[x0, x1, x2, x3]) (.int .i64 1)).run Tryz.prog w = .ok x1 w := by kernel_rfl

theorem idx2 (x0 x1 x2 x3 : Value) (w : World) : (Instr.index 230 (.agg #[x0, x1, x2, x3]) (.int .i64 2)).run Tryz.prog w = .ok x2 w := by kernel_rfl

theorem idx3 (x0 x1 x2 x3 : Value) (w : World) : (Instr.index 230 (.agg #[x0, x1, x2, x3]) (.int .i64 3)).run Tryz.prog w = .ok x3 w := by kernel_rfl

theorem make4 (u : World) : (Instr.makeSlice 25 (.int .i64 4) (.int .i64 4)).run Tryz.prog u = .ok (.slice (some ⟨u.heap.size, 0, none⟩) 4 4) (u.alloc (.cells #[.int .i64 0, .int .i64 0, .int .i64 0, .int .i64 0] 2)) := by kernel_rfl

set_option maxRecDepth 100000 in
theorem labelOf_calls (x0 x1 x2 x3 : Int) (w : World) :
    Calls Tryz.prog 155 #[.agg #[.int .i64 x0, .int .i64 x1, .int .i64 x2, .int .i64 x3]] w fun e w' => ∃ b, e = .returned (.agg #[.slice (some ⟨b, 0, none⟩) 4 4]) ∧ w.heap.size ≤ b ∧ Blk w' b [x0, x1, x2, x3] ∧ Below w.heap.size w w' := by
  have hmk := make4
  have hcp : Sem.run Tryz.prog (Builtin.copy_ #[25, 25] 3 #[.slice (some ⟨w.heap.size + 1 + 1, 0, none⟩) 4 4, .slice (some ⟨w.heap.size, 0, none⟩) 4 4])
      (((w.alloc (.cells #[.int .i64 x0, .int .i64 x1, .int .i64 x2, .int .i64 x3] 230)).alloc (.cells #[.slice none 0 0] 64)).alloc (.cells #[.int .i64 0, .int .i64 0, .int .i64 0, .int .i64 0] 2)) =
      .ok (.int .i64 4) (((w.alloc (.cells #[.int .i64 x0, .int .i64 x1, .int .i64 x2, .int .i64 x3] 230)).alloc (.cells #[.slice none 0 0] 64)).alloc (.cells #[.int .i64 x0, .int .i64 x1, .int .i64 x2, .int .i64 x3] 2)) := by
    have h := copy4 (P := Tryz.prog) ((w.alloc (.cells #[.int .i64 x0, .int .i64 x1, .int .i64 x2, .int .i64 x3] 230)).alloc (.cells #[.slice none 0 0] 64)) 25 25 3 2 2 w.heap.size 0 4 [x0, x1, x2, x3] (.int .i64 0) (.int .i64 0) (.int .i64 0) (.int .i64 0) Tryz.underlying25 infoSize (by simp; omega) (fun j hj => by
      rw [World.cell?_alloc_past _ _ _ (by simp), World.cell?_alloc_at _ _ _ _ rfl]
      rcases (by omega : j = 0 ∨ j = 1 ∨ j = 2 ∨ j = 3) with rfl | rfl | rfl | rfl <;> rfl)
    rw [show ((w.alloc (.cells #[.int .i64 x0, .int .i64 x1, .int .i64 x2, .int .i64 x3] 230)).alloc (.cells #[.slice none 0 0] 64)).heap.size = w.heap.size + 1 + 1 from by simp] at h
    exact h
  go_enter Tryz.func155, Tryz.ntmps155
  go_wp2
  refine bodyPost_ret (v := .agg #[.slice (some ⟨w.heap.size + 1 + 1, 0, none⟩) 4 4]) (by simp [results, Tryz.results155, go_sem]) rfl ⟨_, rfl, by omega, ?_, (((Below.refl _ _).alloc (Nat.le_refl _) _).alloc (by simp) _).alloc (by simp; omega) _⟩
  refine ⟨by simp, fun i hi => ?_, fun i => by go_simp⟩
  rw [World.cell?_alloc_at _ _ _ _ (by simp)]
  simp at hi
  rcases (by omega : i = 0 ∨ i = 1 ∨ i = 2 ∨ i = 3) with rfl | rfl | rfl | rfl <;> rfl

end Go.Proofs.YtnlkigjgloeonaaGreat
