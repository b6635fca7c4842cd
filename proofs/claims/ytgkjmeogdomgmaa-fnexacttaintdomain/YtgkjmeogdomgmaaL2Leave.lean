import Derived.Test.YtgkjmeogdomgmaaSpecReg
import Derived.Test.YtgkjmeogdomgmaaBookReg
import Derived.WalkKit
import Derived.ProofKit
import Derived.OpenShut
import Derived.ShutString
import Derived.ChangeOld
import Derived.Below
import Derived.WalkSpells
import Derived.Deep.QuietTactic
import Derived.BigQuiet
import Derived.Deep.RegionWith
import Derived.Deep.WholeRow
import Derived.Deep.DeepCutAuto
import Derived.Deep.RegionHeld2
import Derived.Deep.AppendLies
import Derived.Deep.RegionLaw
namespace Go.Proofs.Ytgkjmeogdomgmaa
open Go.ChangeShapes Go.WideShapes Go.ChangeAt Go.RowKit

def laC (ss : List (Int × List Int)) (p : Int) : Int := if faultR ss = 0 then atC ss p else faultR ss

def laL (ss : List (Int × List Int)) (p : Int) : List Int := if laC ss p = 0 then gl ss p.toNat else []

theorem laC_ok {ss : List (Int × List Int)} {p : Int} (h : faultR ss = 0) : laC ss p = atC ss p := if_pos h

theorem laC_bad {ss : List (Int × List Int)} {p : Int} (h : faultR ss ≠ 0) : laC ss p = faultR ss := if_neg h

theorem laL_no {ss : List (Int × List Int)} {p : Int} (h : laC ss p ≠ 0) : laL ss p = [] := if_neg h

theorem laL_at {ss : List (Int × List Int)} {p : Int} (h : faultR ss = 0) : laL ss p = atL ss p := by
  unfold laL atL
  rw [laC_ok h]

theorem laC_zero {ss : List (Int × List Int)} {p : Int} (h : laC ss p = 0) : faultR ss = 0 ∧ ∃ q : Nat, p = (q : Int) ∧ q < ss.length ∧ 0 < gc ss q ∧ laL ss p = gl ss q ∧ fault (gl ss q) = 0 := by
  have hr : faultR ss = 0 := by
    by_cases hr : faultR ss = 0
    · exact hr
    · rw [laC_bad hr] at h
      exact absurd h hr
  refine ⟨hr, p.toNat, ?_⟩
  have g := good_of hr
  have h2 := h
  rw [laC_ok hr] at h2
  unfold atC at h2
  split at h2
  · cases h2
  · split at h2
    · cases h2
    · rename_i h3 h4
      have hp : 0 < gc ss p.toNat := by have := g.low p.toNat (by omega); omega
      exact ⟨by omega, by omega, hp, if_pos h, g.right _ (by omega) hp⟩

theorem ORb.drop {S : Nat → Prop} {N n : Nat} {la : Nat → Option Addr} {lc lb : Nat → Nat} {fc : Nat → Int} {fl : Nat → List Int} {w : World} (h : ORb S N n la lc lb fc fl w) {i : Nat} (hi : i < n) : ORb S N n (upd la i none) (upd lc i 0) lb fc (upd fl i []) (w.setCell ⟨N, i * 2 + 1, none⟩ (.slice none 0 0)) := by
  have hl : ∀ j, 0 < (upd fl i [] j).length → j ≠ i ∧ 0 < (fl j).length := fun j hj => by
    unfold upd at hj
    by_cases e : j = i
    · rw [if_pos e] at hj; simp at hj
    · rw [if_neg e] at hj; exact ⟨e, hj⟩
  refine ⟨h.hS, by simpa using h.lt, fun j => by simpa using h.fz j, fun j hj => ?_, fun j hj => ?_, fun j hj => ?_, fun j hj l => h.lS j hj (hl j l).2, fun j hj l => h.ne j hj (hl j l).2, fun a b ha hb e x y => h.ap a b ha hb e (hl a x).2 (hl b y).2⟩
  · rw [World.cell?_setCell_other _ _ _ _ (fun h => by injection h with _ h2; omega)]; exact h.c0 j hj
  · unfold upd
    by_cases e : j = i
    · subst e; rw [if_pos rfl, if_pos rfl, if_pos rfl]; exact World.cell?_setCell_same _ _ _ (h.c1 j hj)
    · rw [if_neg e, if_neg e, if_neg e, World.cell?_setCell_other _ _ _ _ (fun h => by injection h with _ h2; omega)]; exact h.c1 j hj
  · unfold upd
    by_cases e : j = i
    · subst e; simp only [if_true]; exact ⟨rfl, by simp, .inl rfl⟩
    · simp only [if_neg e]
      exact OS.loc w _ (fun k hk _ => Below.heap_setCell _ _ _ _ (fun e => h.ne j hj hk.2 (hk.1.symm.trans e))) (h.os j hj)

set_option maxRecDepth 100000 in
theorem l2Leave_O (q : Nat) (S : Nat → Prop) (a : Option Addr) (n ca : Nat) (ss : List (Int × List Int)) (p : Nat) (w : World) (hqc : w.cell? ⟨q, 0, none⟩ = some (.slice a n ca)) (ho : OR S a n ss w) (hS : ¬ S q) (hp : p < n) (h1 : 1 ≤ gc ss p) (h9 : gc ss p ≤ 99) (hm : n + lenSum (leaveS ss p) ≤ 1048576) :
    Calls Try.prog 72 #[.pointer (some ⟨q, 0, none⟩), .int .i64 p] w fun e w' => e = .returned (.tuple #[]) ∧ OR S a n (leaveS ss p) w' ∧ OutS S w w' := by
  have hlen := ho.1
  obtain ⟨N, la, lc, lb, rfl, hb⟩ := ho.body (by omega)
  have hN := hb.hS
  have k0 := hb.c0 p hp
  have k1 := hb.c1 p hp
  have f0 := hb.fz (p * 2)
  have f1 := hb.fz (p * 2 + 1)
  have hqN : q ≠ N := fun e => hS (e ▸ hN)
  have hbd := ho.2.1
  have hps : p < ss.length := by omega
  have HO := hide ((OutS.refl S w).setCell (p := ⟨N, p * 2, none⟩) hN (.int .i64 (gc ss p - 1)))
  by_cases hg : gc ss p = 1
  · have e0 : (gc ss p - 1 == 0) = true := by simp [hg]
    have HR := hide (((hb.setCount hp 0).drop hp).congr (fc' := gc (leaveS ss p)) (fl' := gl (leaveS ss p)) (fun i hi => by rw [gc_leave hps, hg]; rfl) (fun i hi => by rw [gl_leave hps, if_pos hg]; rfl)).or
    have HO2 := hide (((OutS.refl S w).setCell (p := ⟨N, p * 2, none⟩) hN (.int .i64 0)).setCell (p := ⟨N, p * 2 + 1, none⟩) hN (.slice none 0 0))
    clear hb ho HO
    go_enter Try.func72, Try.ntmps72
    go_wp2
    refine bodyPost_end (v := .tuple #[]) (by simp [results, Try.results72, go_sem]) rfl ⟨rfl, HR.out (by rw [length_leaveS]; exact hlen) hm, HO2.out⟩
  · have e0 : (gc ss p - 1 == 0) = false := by simp; omega
    have HR := hide ((hb.setCount hp (gc ss p - 1)).congr (fc' := gc (leaveS ss p)) (fl' := gl (leaveS ss p)) (fun i hi => by rw [gc_leave hps]; rfl) (fun i hi => by rw [gl_leave hps, if_neg hg]; split <;> simp_all)).or
    clear hb ho
    go_enter Try.func72, Try.ntmps72
    go_wp2
    refine bodyPost_end (v := .tuple #[]) (by simp [results, Try.results72, go_sem]) rfl ⟨rfl, HR.out (by rw [length_leaveS]; exact hlen) hm, HO.out⟩

def lvR (ss : List (Int × List Int)) (p : Int) : Int := if laC ss p = 0 then gc ss p.toNat - 1 else 0

def lvL (ss : List (Int × List Int)) (p : Int) : List (Int × List Int) := if laC ss p = 0 then leaveS ss p.toNat else []

set_option maxRecDepth 100000 in
theorem l2Bad_calls (c : Int) (w : World) :
    Calls Try.prog 124 #[.int .i64 c] w fun e w' => e = .returned (.agg #[.int .i64 c, .int .i64 0, .slice none 0 0]) ∧ Below w.heap.size w w' := by
  have M0 := (Mm.start w).alloc3 (.int .i64 0) (.int .i64 0) (.slice none 0 0) 160
  go_enter Try.func124, Try.ntmps124
  go_wp2
  refine bodyPost_ret (v := .agg #[.int .i64 c, .int .i64 0, .slice none 0 0]) (by simp [results, Try.results124, go_sem]) rfl ⟨rfl, ?_⟩
  exact (Below.refl _ _).alloc (Nat.le_refl _) _

theorem OR.nil (S : Nat → Prop) (a : Option Addr) (w : World) : OR S a 0 [] w := ⟨rfl, by simp [lenSum], .inl rfl⟩

theorem OR.set3 {S : Nat → Prop} {a : Option Addr} {n : Nat} {ss : List (Int × List Int)} {w : World} (h : OR S a n ss w) {P : Nat} (hP : ¬ S P) (x y z : Value) : OR S a n ss (((w.setCell ⟨P, 0, none⟩ x).setCell ⟨P, 1, none⟩ y).setCell ⟨P, 2, none⟩ z) :=
  OR.loc.setC (OR.loc.setC (OR.loc.setC h hP x) hP y) hP z

end Go.Proofs.Ytgkjmeogdomgmaa
