import Derived.Test.YtgkjmeogdomgmaaGreatG8
import Derived.Test.YtgkjmeogdomgmaaGreatG60
import Derived.Laws.OwnMore
import Derived.WalkKit
import Derived.ProofKit
import Derived.OpenShut
import Derived.ShutString
import Derived.ChangeOld
import Derived.Below
import Derived.WalkSpells
import Derived.Deep.QuietTactic
import Derived.BigQuiet
import Derived.Deep.RegionWith
import Derived.Deep.WholeRow
import Derived.Deep.DeepCutAuto
import Derived.Deep.RegionHeld2
import Derived.Deep.AppendLies
import Derived.Deep.RegionLaw
namespace Go.Proofs.YtgkjmeogdomgmaaGreat
open Go.ChangeShapes Go.WideShapes Go.ChangeAt Go.RowKit
theorem ORb.drop {S : Nat → Prop} {N n : Nat} {la : Nat → Option Addr} {lc lb : Nat → Nat} {fc : Nat → Int} {fl : Nat → List Int} {w : World} (h : ORb S N n la lc lb fc fl w) {i : Nat} (hi : i < n) : ORb S N n (upd la i none) (upd lc i 0) lb fc (upd fl i []) (w.setCell ⟨N, i * 2 + 1, none⟩ (.slice none 0 0)) := by
  have hl : ∀ j, 0 < (upd fl i [] j).length → j ≠ i ∧ 0 < (fl j).length := fun j hj => by
    unfold upd at hj
    by_cases e : j = i
    · rw [if_pos e] at hj; simp at hj
    · rw [if_neg e] at hj; exact ⟨e, hj⟩
  refine ⟨h.hS, by simpa using h.lt, fun j => by simpa using h.fz j, fun j hj => ?_, fun j hj => ?_, fun j hj => ?_, fun j hj l => h.lS j hj (hl j l).2, fun j hj l => h.ne j hj (hl j l).2, fun a b ha hb e x y => h.ap a b ha hb e (hl a x).2 (hl b y).2⟩
  · rw [World.cell?_setCell_other _ _ _ _ (fun h => by injection h with _ h2; omega)]; exact h.c0 j hj
  · unfold upd
    by_cases e : j = i
    · subst e; rw [if_pos rfl, if_pos rfl, if_pos rfl]; exact World.cell?_setCell_same _ _ _ (h.c1 j hj)
    · rw [if_neg e, if_neg e, if_neg e, World.cell?_setCell_other _ _ _ _ (fun h => by injection h with _ h2; omega)]; exact h.c1 j hj
  · unfold upd
    by_cases e : j = i
    · subst e; simp only [if_true]; exact ⟨rfl, by simp, .inl rfl⟩
    · simp only [if_neg e]
      exact OS.loc w _ (fun k hk _ => Below.heap_setCell _ _ _ _ (fun e => h.ne j hj hk.2 (hk.1.symm.trans e))) (h.os j hj)

theorem OR.nil (S : Nat → Prop) (a : Option Addr) (w : World) : OR S a 0 [] w := ⟨rfl, by simp [lenSum], .inl rfl⟩

theorem OR.set3 {S : Nat → Prop} {a : Option Addr} {n : Nat} {ss : List (Int × List Int)} {w : World} (h : OR S a n ss w) {P : Nat} (hP : ¬ S P) (x y z : Value) : OR S a n ss (((w.setCell ⟨P, 0, none⟩ x).setCell ⟨P, 1, none⟩ y).setCell ⟨P, 2, none⟩ z) :=
  OR.loc.setC (OR.loc.setC (OR.loc.setC h hP x) hP y) hP z

set_option maxRecDepth 100000 in
theorem l2Leave_R (q B : Nat) (S : Nat → Prop) (a : Option Addr) (n ca : Nat) (ss : List (Int × List Int)) (p : Nat) (w : World) (hqc : w.cell? ⟨q, 0, none⟩ = some (.slice a n ca)) (ho : OR S a n ss w) (hrow : ∃ xs, w.ownsRow B 150 2 (.slice a n ca) n xs) (hS : ¬ S q) (hp : p < n) (h1 : 1 ≤ gc ss p) (h9 : gc ss p ≤ 99) (hm : n + lenSum (leaveS ss p) ≤ 1048576) :
    Calls Tryz.prog 107 #[.pointer (some ⟨q, 0, none⟩), .int .i64 p] w fun e w' => e = .returned (.tuple #[]) ∧ OR S a n (leaveS ss p) w' ∧ (∃ xs, w'.ownsRow B 150 2 (.slice a n ca) n xs) ∧ OutS S w w' := by
  have hlen := ho.1
  obtain ⟨N, la, lc, lb, rfl, hb⟩ := ho.body (by omega)
  have hN := hb.hS
  obtain ⟨xs, hxs⟩ := hrow
  have k0 := hb.c0 p hp
  have k1 := hb.c1 p hp
  have f0 := hb.fz (p * 2)
  have f1 := hb.fz (p * 2 + 1)
  have hqN : q ≠ N := fun e => hS (e ▸ hN)
  have hbd := ho.2.1
  have hps : p < ss.length := by omega
  have HO := hide ((OutS.refl S w).setCell (p := ⟨N, p * 2, none⟩) hN (.int .i64 (gc ss p - 1)))
  by_cases hg : gc ss p = 1
  · have e0 : (gc ss p - 1 == 0) = true := by simp [hg]
    have HR := hide (((hb.setCount hp 0).drop hp).congr (fc' := gc (leaveS ss p)) (fl' := gl (leaveS ss p)) (fun i hi => by rw [gc_leave hps, hg]; rfl) (fun i hi => by rw [gl_leave hps, if_pos hg]; rfl)).or
    have HO2 := hide (((OutS.refl S w).setCell (p := ⟨N, p * 2, none⟩) hN (.int .i64 0)).setCell (p := ⟨N, p * 2 + 1, none⟩) hN (.slice none 0 0))
    have HW := hide (((hxs.stored (p * 2) (.int .i64 0)).1).stored (p * 2 + 1) (.slice none 0 0)).1
    clear hb ho HO hxs
    go_enter Tryz.func107, Tryz.ntmps107
    go_wp2
    refine bodyPost_end (v := .tuple #[]) (by simp [results, Tryz.results107, go_sem]) rfl ⟨rfl, HR.out (by rw [length_leaveS]; exact hlen) hm, ⟨_, HW.out⟩, HO2.out⟩
  · have e0 : (gc ss p - 1 == 0) = false := by simp; omega
    have HR := hide ((hb.setCount hp (gc ss p - 1)).congr (fc' := gc (leaveS ss p)) (fl' := gl (leaveS ss p)) (fun i hi => by rw [gc_leave hps]; rfl) (fun i hi => by rw [gl_leave hps, if_neg hg]; split <;> simp_all)).or
    have HW := hide (hxs.stored (p * 2) (.int .i64 (gc ss p - 1))).1
    clear hb ho hxs
    go_enter Tryz.func107, Tryz.ntmps107
    go_wp2
    refine bodyPost_end (v := .tuple #[]) (by simp [results, Tryz.results107, go_sem]) rfl ⟨rfl, HR.out (by rw [length_leaveS]; exact hlen) hm, ⟨_, HW.out⟩, HO.out⟩

end Go.Proofs.YtgkjmeogdomgmaaGreat
