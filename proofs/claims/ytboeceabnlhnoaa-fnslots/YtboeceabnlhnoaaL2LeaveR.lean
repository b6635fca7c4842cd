import Derived.Test.YtboeceabnlhnoaaL2Leave
import Derived.Laws.OwnMore
import Derived.WalkKit
import Derived.ProofKit
import Derived.OpenShut
import Derived.ShutString
import Derived.ChangeOld
import Derived.Below
import Derived.WalkSpells
import Derived.Deep.QuietTactic
import Derived.BigQuiet
import Derived.Deep.RegionWith
import Derived.Deep.WholeRow
import Derived.Deep.DeepCutAuto
import Derived.Deep.RegionHeld2
import Derived.Deep.AppendLies
import Derived.Deep.RegionLaw
namespace Go.Proofs.Ytboeceabnlhnoaa
open Go.ChangeShapes Go.WideShapes Go.ChangeAt Go.RowKit

set_option maxRecDepth 100000 in
theorem l2Leave_R (q B : Nat) (S : Nat → Prop) (a : Option Addr) (n ca : Nat) (ss : List (Int × List Int)) (p : Nat) (w : World) (hqc : w.cell? ⟨q, 0, none⟩ = some (.slice a n ca)) (ho : OR S a n ss w) (hrow : ∃ xs, w.ownsRow B 72 2 (.slice a n ca) n xs) (hS : ¬ S q) (hp : p < n) (h1 : 1 ≤ gc ss p) (h9 : gc ss p ≤ 99) (hm : n + lenSum (leaveS ss p) ≤ 1048576) :
    Calls Try.prog 31 #[.pointer (some ⟨q, 0, none⟩), .int .i64 p] w fun e w' => e = .returned (.tuple #[]) ∧ OR S a n (leaveS ss p) w' ∧ (∃ xs, w'.ownsRow B 72 2 (.slice a n ca) n xs) ∧ OutS S w w' := by
  have hlen := ho.1
  obtain ⟨N, la, lc, lb, rfl, hb⟩ := ho.body (by omega)
  have hN := hb.hS
  obtain ⟨xs, hxs⟩ := hrow
  have k0 := hb.c0 p hp
  have k1 := hb.c1 p hp
  have f0 := hb.fz (p * 2)
  have f1 := hb.fz (p * 2 + 1)
  have hqN : q ≠ N := fun e => hS (e ▸ hN)
  have hbd := ho.2.1
  have hps : p < ss.length := by omega
  have HO := hide ((OutS.refl S w).setCell (p := ⟨N, p * 2, none⟩) hN (.int .i64 (gc ss p - 1)))
  by_cases hg : gc ss p = 1
  · have e0 : (gc ss p - 1 == 0) = true := by simp [hg]
    have HR := hide (((hb.setCount hp 0).drop hp).congr (fc' := gc (leaveS ss p)) (fl' := gl (leaveS ss p)) (fun i hi => by rw [gc_leave hps, hg]; rfl) (fun i hi => by rw [gl_leave hps, if_pos hg]; rfl)).or
    have HO2 := hide (((OutS.refl S w).setCell (p := ⟨N, p * 2, none⟩) hN (.int .i64 0)).setCell (p := ⟨N, p * 2 + 1, none⟩) hN (.slice none 0 0))
    have HW := hide (((hxs.stored (p * 2) (.int .i64 0)).1).stored (p * 2 + 1) (.slice none 0 0)).1
    clear hb ho HO hxs
    go_enter Try.func31, Try.ntmps31
    go_wp2
    refine bodyPost_end (v := .tuple #[]) (by simp [results, Try.results31, go_sem]) rfl ⟨rfl, HR.out (by rw [length_leaveS]; exact hlen) hm, ⟨_, HW.out⟩, HO2.out⟩
  · have e0 : (gc ss p - 1 == 0) = false := by simp; omega
    have HR := hide ((hb.setCount hp (gc ss p - 1)).congr (fc' := gc (leaveS ss p)) (fl' := gl (leaveS ss p)) (fun i hi => by rw [gc_leave hps]; rfl) (fun i hi => by rw [gl_leave hps, if_neg hg]; split <;> simp_all)).or
    have HW := hide (hxs.stored (p * 2) (.int .i64 (gc ss p - 1))).1
    clear hb ho hxs
    go_enter Try.func31, Try.ntmps31
    go_wp2
    refine bodyPost_end (v := .tuple #[]) (by simp [results, Try.results31, go_sem]) rfl ⟨rfl, HR.out (by rw [length_leaveS]; exact hlen) hm, ⟨_, HW.out⟩, HO.out⟩

end Go.Proofs.Ytboeceabnlhnoaa
