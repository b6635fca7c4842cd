import Derived.Test.YtpcdfeccmiiglaaNkS
import Derived.WalkKit
import Derived.ProofKit
import Derived.OpenShut
import Derived.ShutString
import Derived.ChangeOld
import Derived.Below
import Derived.WalkSpells
import Derived.Deep.QuietTactic
import Derived.BigQuiet
import Derived.Deep.RegionWith
import Derived.Deep.WholeRow
import Derived.Deep.DeepCutAuto
import Derived.Deep.RegionHeld2
import Derived.Deep.AppendLies
import Derived.Deep.RegionLaw
namespace Go.Proofs.Ytpcdfeccmiiglaa
open Go.ChangeShapes Go.WideShapes Go.ChangeAt Go.RowKit

theorem nk_block {R : Nat} {w2 : World} {q : Int} {la : Option Addr} {lc : Nat} : (nkW w2 la lc q R).heap[w2.heap.size + 1]? = some (.cells #[.int .i64 (-1), .int .i64 0, .int .i64 1, .slice la 4 lc, .int .i64 q, .int .i64 1, .slice none 0 0] 71) := by
  unfold nkW
  exact alloc_last (by simp)

theorem nk_own {B R : Nat} {w2 : World} {q : Int} {la : Option Addr} {lc : Nat} (hB : B ≤ w2.heap.size) (_hR : R < w2.heap.size) : (nkW w2 la lc q R).ownsRow B 71 7 (.slice (some ⟨w2.heap.size + 1, 0, none⟩) 1 1) 1 [.int .i64 (-1), .int .i64 0, .int .i64 1, .slice la 4 lc, .int .i64 q, .int .i64 1, .slice none 0 0] :=
  ⟨rfl, .inr ⟨w2.heap.size + 1, 1, #[.int .i64 (-1), .int .i64 0, .int .i64 1, .slice la 4 lc, .int .i64 q, .int .i64 1, .slice none 0 0], rfl, by omega, nk_block, Nat.le_refl _, by unfold maxLen; omega, rfl, rfl⟩⟩

theorem nk_lab {B R : Nat} {w2 : World} {zs : List Int} {q : Int} {la : Option Addr} {lc : Nat} (ho : OS (fun k => B ≤ k ∧ k < w2.heap.size ∧ k ≠ R) la 4 zs w2) (_hR : R < w2.heap.size) : OS (fun k => B ≤ k ∧ k < (nkW w2 la lc q R).heap.size ∧ k ≠ w2.heap.size + 1) la 4 zs (nkW w2 la lc q R) := by
  have hsz : (nkW w2 la lc q R).heap.size = w2.heap.size + 2 := by simp [nkW]
  refine OS.mono (OS.loc w2 _ (fun k hk hlt => ?_) ho) (fun k hk => ⟨hk.1, by rw [hsz]; omega, by omega⟩)
  unfold nkW
  rw [Below.heap_alloc _ _ _ (by simp; omega), Below.heap_alloc _ _ _ (by simp; omega), Below.heap_setCell _ _ _ _ (by simpa using hk.2.2), Below.heap_setCell _ _ _ _ (by simpa using hk.2.2), Below.heap_setCell _ _ _ _ (by simpa using hk.2.2)]

set_option maxRecDepth 100000 in
set_option maxHeartbeats 2000000 in
theorem specNewKernelD_calls (a : Option Addr) (n cap : Nat) (zs : List Int) (w : World) (hm : n ≤ maxLen) (hs : Sl w a n zs) (h1 : fault zs = 0) (h2 : thing0 zs = true) : Calls Try.prog 90 #[.agg #[.slice a n cap], .int .i64 100] w fun e w' => ∃ N la lc, e = .returned (.agg #[.int .i64 0, .int .i64 0, .slice (some ⟨N, 0, none⟩) 1 1]) ∧ w'.ownsRow w.heap.size 71 7 (.slice (some ⟨N, 0, none⟩) 1 1) 1 [.int .i64 (-1), .int .i64 0, .int .i64 1, .slice la 4 lc, .int .i64 100, .int .i64 1, .slice none 0 0] ∧ OS (fun k => w.heap.size ≤ k ∧ k < w'.heap.size ∧ k ≠ N) la 4 zs w' ∧ Below w.heap.size w w' := by
  have hlen := hs.1
  have M0 := ((Mm.start w).allocC [.slice a n cap] 47).allocC [.int .i64 0, .int .i64 0, .slice none 0 0] 138
  simp only [World.size_alloc] at M0
  have p0 := (M0.get 1 rfl).cell 0 rfl
  have zm := hm
  have HF := hide (l1FaultO_calls w.heap.size 0 a n cap zs _ zm (by simp; omega) p0 (hs.below M0.bel (Nat.le_refl _)))
  have HS := hide hs
  clear hs p0
  go_enter Try.func90, Try.ntmps90
  go_wp2_with fail
  refine HF.out.mono ?_
  rintro e w1 ⟨rfl, g1⟩
  have z1 : w.heap.size + 2 ≤ w1.heap.size := by have := g1.size; simpa using this
  have HM := hide (M0.below g1)
  clear M0 g1 HF
  have e1 : (fault zs != 0) = false := by simp [h1]
  have hl4 := fault_four h1
  have p1 := (HM.out.get 1 rfl).cell 0 rfl
  have HT : Hid (∀ b, thing0 zs = b → Calls Try.prog 80 #[.pointer (some ⟨w.heap.size, 0, none⟩)] w1 fun e w' => e = .returned (.bool b) ∧ w' = w1) := fun b hb => hb ▸ l1ThingO_calls w.heap.size 0 a n cap zs w1 zm p1 (HS.out.below HM.out.bel (Nat.le_refl _))
  have h3 : inB 100 0 200 = true := rfl
  clear h1
  go_wp2_with fail
  refine (HT.out _ h2).mono ?_
  rintro e w' ⟨rfl, hw'⟩
  rw [hw']
  clear hw' w'
  go_wp2_with (go_at_call 72; with_reducible refine (inB_is _ _ _ _ _ h3).mono ?_; rintro e w' ⟨rfl, hw'⟩; rw [hw']; clear hw' w')
  refine (l1Copy_O a n cap zs w1 (by omega) (HS.out.below HM.out.bel (Nat.le_refl _))).mono ?_
  rintro e w2 ⟨ra, rc, rfl, own, g2⟩
  obtain rfl : n = 4 := by omega
  have z2 := g2.size
  have M2 := HM.out.below g2
  have r0 := (M2.get 0 rfl).cell 0 rfl
  have r1 := (M2.get 0 rfl).cell 1 rfl
  have r2 := (M2.get 0 rfl).cell 2 rfl
  have f0 := (M2.get 0 rfl).fz 0 (by simp)
  have f1 := (M2.get 0 rfl).fz 1 (by simp)
  have f2 := (M2.get 0 rfl).fz 2 (by simp)
  have HB := hide M2.bel
  have HO : Hid (OS (fun k => w.heap.size ≤ k ∧ k < w2.heap.size ∧ k ≠ w.heap.size + 1) ra 4 zs w2) := own.mono (fun k hk => ⟨by have := hk.1; omega, hk.2, by have := hk.1; omega⟩)
  have lR : w.heap.size + 1 < w2.heap.size := by omega
  have lS : w.heap.size < w2.heap.size := by omega
  clear M2 g2 HM
  obtain ⟨n0, n1, n2⟩ := nk_cells (la := ra) (lc := rc) (q := 100) lR r0 r1 r2
  unfold nkW at n0 n1 n2
  go_wp2
  refine bodyPost_ret (v := .agg #[.int .i64 0, .int .i64 0, .slice (some ⟨w2.heap.size + 1, 0, none⟩) 1 1]) (by simp [results, Try.results90, go_sem, n0, n1, n2]) rfl ⟨w2.heap.size + 1, ra, rc, rfl, ?_, ?_, ?_⟩
  · exact nk_own (la := ra) (lc := rc) (q := 100) (by omega) (by omega)
  · exact nk_lab (lc := rc) (q := 100) HO.out (by omega)
  · exact ((((HB.out.setCell (by simp) _).setCell (by simp) _).setCell (by simp) _).alloc (by simp; omega) _).alloc (by simp; omega) _

end Go.Proofs.Ytpcdfeccmiiglaa
