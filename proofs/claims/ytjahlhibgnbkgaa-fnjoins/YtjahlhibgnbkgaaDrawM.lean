import Derived.Test.YtjahlhibgnbkgaaDrawC
import Derived.WalkKit
import Derived.ProofKit
import Derived.OpenShut
import Derived.ShutString
import Derived.ChangeOld
import Derived.Below
import Derived.WalkSpells
import Derived.Deep.QuietTactic
import Derived.BigQuiet
import Derived.Deep.RegionWith
import Derived.Deep.WholeRow
import Derived.Deep.DeepCutAuto
import Derived.Deep.RegionHeld2
import Derived.Deep.AppendLies
import Derived.Deep.RegionLaw
namespace Go.Proofs.Ytjahlhibgnbkgaa
open Go.ChangeShapes Go.WideShapes Go.ChangeAt Go.RowKit

set_option maxRecDepth 100000 in
set_option maxHeartbeats 1000000 in
theorem drawCanModify_calls (a : Option Addr) (len cap : Nat) (w : World) (hc : Cd w a len) :
    Calls Try.prog 9 #[.slice a len cap] w fun e w' => ∃ ra n rc xs rb m rd ys, e = .returned (.tuple #[.agg #[.slice ra n rc], .agg #[.slice rb m rd]]) ∧ Fr w' w.heap.size ra n xs ∧ Fr w' w.heap.size rb m ys ∧ Below w.heap.size w w' := by
  have hb0 := fun o1 o2 => ((Below.refl w.heap.size w).alloc (Nat.le_refl _) o1).alloc (by simp) o2
  go_enter Try.func9, Try.ntmps9
  go_wp2_with fail
  refine (l1Two_calls a len cap _ (hc.below (hb0 _ _))).mono ?_
  rintro e w1 ⟨ra, n, rc, xs, rb, m, rd, ys, rfl, sa, sb, hb⟩
  simp only [World.size_alloc] at sa sb
  have z1 : w.heap.size + 2 ≤ w1.heap.size := by have := hb.size; simp at this; omega
  have r0 : w1.cell? ⟨w.heap.size, 0, none⟩ = some (.slice none 0 0) := (hb.cell (p := ⟨w.heap.size, 0, none⟩) (by simp; omega)).trans (by go_simp)
  have r1 : w1.cell? ⟨w.heap.size + 1, 0, none⟩ = some (.slice none 0 0) := (hb.cell (p := ⟨w.heap.size + 1, 0, none⟩) (by simp)).trans (by go_simp)
  have f0 : w1.frozen? ⟨w.heap.size, 0, none⟩ = false := (hb.frozen (p := ⟨w.heap.size, 0, none⟩) (by simp; omega)).trans (by go_simp)
  have f1 : w1.frozen? ⟨w.heap.size + 1, 0, none⟩ = false := (hb.frozen (p := ⟨w.heap.size + 1, 0, none⟩) (by simp)).trans (by go_simp)
  have hbw : Below w.heap.size w w1 := (hb0 _ _).trans (hb.mono (by simp; omega))
  have ha := ((Below.refl w1.heap.size w1).alloc (Nat.le_refl _) (.cells #[.slice ra n rc] 26)).alloc (by simp) (.cells #[.slice rb m rd] 26)
  go_wp2_with fail
  refine (l1Later_calls a len cap _).mono ?_
  rintro e w2 ⟨rfl, rfl⟩
  have S0 := ((hc.below hbw).below ha).src26 (cap := cap) 105
  simp only [World.size_alloc] at S0 ⊢
  go_wp2_with fail
  refine (l1Chance_calls (w1.heap.size + 1 + 1) a len cap 26 3 _ (by omega) (by omega) (by omega) S0).mono ?_
  rintro e w3 ⟨q, rfl, s3, o3⟩
  have hap := ha.trans (((Below.refl _ _).alloc (Nat.le_refl _) (.cells #[.slice a len cap, .int .i64 26] 105)).mono ha.size)
  have h13 : Below w1.heap.size w1 w3 := hap.trans (o3.below (by omega) (by simp; omega))
  have xA : w3.cell? ⟨w1.heap.size, 0, none⟩ = some (.slice ra n rc) := o3.cellB (q := ⟨w1.heap.size, 0, none⟩) (by simp; omega) (by show w1.heap.size < _; omega) (by go_simp)
  have xB : w3.cell? ⟨w1.heap.size + 1, 0, none⟩ = some (.slice rb m rd) := o3.cellB (q := ⟨w1.heap.size + 1, 0, none⟩) (by simp) (by show w1.heap.size + 1 < _; omega) (by go_simp)
  have xBf : w3.frozen? ⟨w1.heap.size + 1, 0, none⟩ = false := o3.frozenB (q := ⟨w1.heap.size + 1, 0, none⟩) (by simp) (by show w1.heap.size + 1 < _; omega) (by go_simp)
  have z3 : w1.heap.size + 3 ≤ w3.heap.size := by have := o3.size; simp at this; omega
  have r03 := (h13.cell (p := ⟨w.heap.size, 0, none⟩) (by show w.heap.size < _; omega)).trans r0
  have r13 := (h13.cell (p := ⟨w.heap.size + 1, 0, none⟩) (by show w.heap.size + 1 < _; omega)).trans r1
  have f03 := (h13.frozen (p := ⟨w.heap.size, 0, none⟩) (by show w.heap.size < _; omega)).trans f0
  have f13 := (h13.frozen (p := ⟨w.heap.size + 1, 0, none⟩) (by show w.heap.size + 1 < _; omega)).trans f1
  have HSA := hide (sa.below h13)
  have HSB := hide (sb.below h13)
  have HBW := hide (hbw.trans (h13.mono hbw.size))
  have hAb : 0 < n → ∃ b off, ra = some ⟨b, off, none⟩ ∧ b ≠ w1.heap.size + 1 := fun h => by obtain ⟨b, off, e, _, h2, _⟩ := sa.2.2 h; exact ⟨b, off, e, by omega⟩
  have hn4 : n ≤ 4 := sa.2.1
  have hAr : w1.heap.size ≠ w.heap.size := by omega
  have hAr1 : w1.heap.size ≠ w.heap.size + 1 := by omega
  have hBr : w1.heap.size + 1 ≠ w.heap.size := by omega
  have hBr1 : w1.heap.size + 1 ≠ w.heap.size + 1 := by omega
  clear sa sb hb hbw hb0 ha S0 s3 o3 hap h13 r0 r1 f0 f1 hc
  cases q with
  | false =>
    go_wp2
    go_region
    all_goals go_wp2
    all_goals refine bodyPost_ret (v := .tuple #[.agg #[.slice ra n rc], .agg #[.slice rb m rd]]) (by simp [results, Try.results9, go_sem, r03, r13]) rfl ⟨ra, n, rc, xs, rb, m, rd, ys, rfl, ?_, ?_, ?_⟩
    all_goals first | exact (((HSA.out.setCell (by show w.heap.size < _; omega) _).setCell (by show w.heap.size + 1 < _; omega) _).below (Below.refl _ _).drew).lo (by omega) | exact (((HSB.out.setCell (by show w.heap.size < _; omega) _).setCell (by show w.heap.size + 1 < _; omega) _).below (Below.refl _ _).drew).lo (by omega) | exact ((HBW.out.setCell (Nat.le_refl _) _).setCell (by show w.heap.size ≤ w.heap.size + 1; omega) _).drew
  | true =>
    go_wp2_with fail
    refine (l1Copy_calls ra n rc xs _ hn4 HSA.out.sl).mono ?_
    rintro e w4 ⟨rj, rjc, rfl, oj, hb4⟩
    have hA3 : w1.heap.size < w3.heap.size := by omega
    have hB3 : w1.heap.size + 1 < w3.heap.size := by omega
    have r04 := (hb4.cell (p := ⟨w.heap.size, 0, none⟩) (by show w.heap.size < _; omega)).trans r03
    have r14 := (hb4.cell (p := ⟨w.heap.size + 1, 0, none⟩) (by show w.heap.size + 1 < _; omega)).trans r13
    have f04 := (hb4.frozen (p := ⟨w.heap.size, 0, none⟩) (by show w.heap.size < _; omega)).trans f03
    have f14 := (hb4.frozen (p := ⟨w.heap.size + 1, 0, none⟩) (by show w.heap.size + 1 < _; omega)).trans f13
    have xA4 := (hb4.cell (p := ⟨w1.heap.size, 0, none⟩) hA3).trans xA
    have xB4 := (hb4.cell (p := ⟨w1.heap.size + 1, 0, none⟩) hB3).trans xB
    have xBf4 := (hb4.frozen (p := ⟨w1.heap.size + 1, 0, none⟩) hB3).trans xBf
    have HFA4 := hide (HSA.out.below hb4)
    have HOJ := hide oj
    have HB4 := hide (HBW.out.trans (hb4.mono HBW.out.size))
    have hBA : w1.heap.size + 1 ≠ w1.heap.size := by omega
    have r0U : (w4.setCell ⟨w1.heap.size + 1, 0, none⟩ (.slice rj n rjc)).cell? ⟨w.heap.size, 0, none⟩ = some (.slice none 0 0) := (World.cell?_setCell_other _ _ _ _ (fun e => hBr (by injection e with e1))).trans r04
    have r1U : (w4.setCell ⟨w1.heap.size + 1, 0, none⟩ (.slice rj n rjc)).cell? ⟨w.heap.size + 1, 0, none⟩ = some (.slice none 0 0) := (World.cell?_setCell_other _ _ _ _ (fun e => hBr1 (by injection e with e1))).trans r14
    have f0U : (w4.setCell ⟨w1.heap.size + 1, 0, none⟩ (.slice rj n rjc)).frozen? ⟨w.heap.size, 0, none⟩ = false := by rw [World.frozen?_setCell]; exact f04
    have f1U : (w4.setCell ⟨w1.heap.size + 1, 0, none⟩ (.slice rj n rjc)).frozen? ⟨w.heap.size + 1, 0, none⟩ = false := by rw [World.frozen?_setCell]; exact f14
    have xAU : (w4.setCell ⟨w1.heap.size + 1, 0, none⟩ (.slice rj n rjc)).cell? ⟨w1.heap.size, 0, none⟩ = some (.slice ra n rc) := (World.cell?_setCell_other _ _ _ _ (fun e => hBA (by injection e with e1))).trans xA4
    have xBU : (w4.setCell ⟨w1.heap.size + 1, 0, none⟩ (.slice rj n rjc)).cell? ⟨w1.heap.size + 1, 0, none⟩ = some (.slice rj n rjc) := World.cell?_setCell_same _ _ _ xB4
    clear r04 r14 f04 f14 xA4 r03 r13 f03 f13 xA xB xBf oj hb4
    go_wp2
    go_region
    all_goals go_wp2
    all_goals refine bodyPost_ret (v := .tuple #[.agg #[.slice ra n rc], .agg #[.slice rj n rjc]]) (by simp [results, Try.results9, go_sem, r0U, r1U]) rfl ⟨ra, n, rc, xs, rj, n, rjc, xs, rfl, ?_, ?_, ?_⟩
    all_goals first | exact ((((HFA4.out.setAt hAb _).setCell (by show w.heap.size < _; omega) _).setCell (by show w.heap.size + 1 < _; omega) _).below (Below.refl _ _).drew).lo (by omega) | exact ((((HOJ.out.setCell (by show w1.heap.size + 1 < _; omega) _).setCell (by show w.heap.size < _; omega) _).setCell (by show w.heap.size + 1 < _; omega) _).below (Below.refl _ _).drew).lo (by omega) | exact (((HB4.out.setCell (by show w.heap.size ≤ w1.heap.size + 1; omega) _).setCell (Nat.le_refl _) _).setCell (by show w.heap.size ≤ w.heap.size + 1; omega) _).drew

end Go.Proofs.Ytjahlhibgnbkgaa
