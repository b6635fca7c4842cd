import Derived.Test.YtgkjmeogdomgmaaTabK
import Derived.Test.YtgkjmeogdomgmaaLeaveP
import Derived.Test.YtgkjmeogdomgmaaBookReg
import Derived.WalkKit
import Derived.ProofKit
import Derived.OpenShut
import Derived.ShutString
import Derived.ChangeOld
import Derived.Below
import Derived.WalkSpells
import Derived.Deep.QuietTactic
import Derived.BigQuiet
import Derived.Deep.RegionWith
import Derived.Deep.WholeRow
import Derived.Deep.DeepCutAuto
import Derived.Deep.RegionHeld2
import Derived.Deep.AppendLies
import Derived.Deep.RegionLaw
namespace Go.Proofs.Ytgkjmeogdomgmaa
open Go.ChangeShapes Go.WideShapes Go.ChangeAt Go.RowKit

/-- what DropTag answers. -/
def dtC (ss : List (Int × List Int)) (ts ds : List Int) : Int := if tabF ss ts ds = 0 then (if ts.length = 0 then 4 else 0) else tabF ss ts ds

def dtV (ss : List (Int × List Int)) (ts ds : List Int) : Int := if dtC ss ts ds = 0 then (ts.length : Int) else 0

def dtS (ss : List (Int × List Int)) (ts ds : List Int) : List (Int × List Int) := if dtC ss ts ds = 0 then leaveS ss (gt ts (ts.length - 1)).toNat else []

def dtT (ss : List (Int × List Int)) (ts ds : List Int) : List Int := if dtC ss ts ds = 0 then ts.take (ts.length - 1) else []

def dtD (ss : List (Int × List Int)) (ts ds : List Int) : List Int := if dtC ss ts ds = 0 then ds else []

theorem dt_bad {ss : List (Int × List Int)} {ts ds : List Int} (h : tabF ss ts ds ≠ 0) : dtC ss ts ds = tabF ss ts ds := if_neg h

theorem dt_none {ss : List (Int × List Int)} {ts ds : List Int} (h : tabF ss ts ds = 0) (h0 : ts.length = 0) : dtC ss ts ds = 4 := by
  unfold dtC
  rw [if_pos h, if_pos h0]

theorem dt_ok {ss : List (Int × List Int)} {ts ds : List Int} (h : tabF ss ts ds = 0) (h0 : 0 < ts.length) : dtC ss ts ds = 0 := by
  unfold dtC
  rw [if_pos h, if_neg (by omega)]

theorem OS.take {S : Nat → Prop} {a : Option Addr} {n k : Nat} {rs : List Int} {w : World} (h : OS S a n rs w) (hk : k ≤ n) : OS S a k (rs.take k) w := by
  obtain ⟨h1, h2, h3⟩ := h
  refine ⟨by simp; omega, by omega, ?_⟩
  rcases h3 with h3 | ⟨b, e, hb, blk⟩
  · exact .inl (by omega)
  · refine .inr ⟨b, e, hb, blk.1, fun i hi => ?_, blk.2.2⟩
    rw [List.length_take] at hi
    rw [blk.2.1 i (by omega)]
    simp [gt, show i < k by omega]

theorem Mm.alloc5 {w u : World} {cs : List (Nat × Nat × Value)} {fs : List (Nat × Nat × (World → Prop))} (h : Mm w u cs fs) (v0 v1 v2 v3 v4 : Value) (t : TypeId) : Mm w (u.alloc (.cells #[v0, v1, v2, v3, v4] t)) ((u.heap.size, 0, v0) :: (u.heap.size, 1, v1) :: (u.heap.size, 2, v2) :: (u.heap.size, 3, v3) :: (u.heap.size, 4, v4) :: cs) fs :=
  (((((h.below ((Below.refl _ _).alloc (Nat.le_refl _) (.cells #[v0, v1, v2, v3, v4] t))).cons (by simp) (by simp)).cons (by simp) (by simp)).cons (by simp) (by simp)).cons (by simp) (by simp)).cons (by simp) (by simp)

theorem below_set5 {B : Nat} {w u : World} (h : Below B w u) {P : Nat} (hP : B ≤ P) (v0 v1 v2 v3 v4 : Value) :
    Below B w (((((u.setCell ⟨P, 0, none⟩ v0).setCell ⟨P, 1, none⟩ v1).setCell ⟨P, 2, none⟩ v2).setCell ⟨P, 3, none⟩ v3).setCell ⟨P, 4, none⟩ v4) :=
  ((((h.setCell (by exact hP) v0).setCell (by exact hP) v1).setCell (by exact hP) v2).setCell (by exact hP) v3).setCell (by exact hP) v4

theorem loc_set5 {S : Nat → Prop} {Q : World → Prop} (hl : Loc S Q) {w : World} (h : Q w) {P : Nat} (hP : ¬ S P) (v0 v1 v2 v3 v4 : Value) :
    Q (((((w.setCell ⟨P, 0, none⟩ v0).setCell ⟨P, 1, none⟩ v1).setCell ⟨P, 2, none⟩ v2).setCell ⟨P, 3, none⟩ v3).setCell ⟨P, 4, none⟩ v4) :=
  hl.setC (hl.setC (hl.setC (hl.setC (hl.setC h (by exact hP) v0) (by exact hP) v1) (by exact hP) v2) (by exact hP) v3) (by exact hP) v4

theorem OT.nil (S : Nat → Prop) (w : World) (a b c : Option Addr) : OT S a 0 [] b 0 [] c 0 [] w :=
  ⟨fun _ => False, fun _ => False, fun _ => False, fun _ h => h.elim, fun _ h => h.elim, fun _ h => h.elim, fun _ h => h.elim, fun _ h => h.elim, fun _ h => h.elim, ⟨rfl, by simp [lenSum], .inl rfl⟩, ⟨rfl, by omega, .inl rfl⟩, ⟨rfl, by omega, .inl rfl⟩⟩

theorem OT.of3 {B1 T1 B2 T2 B3 T3 B T : Nat} {a : Option Addr} {n : Nat} {ss : List (Int × List Int)} {ta : Option Addr} {tn : Nat} {ts : List Int} {da : Option Addr} {dn : Nat} {ds : List Int} {w : World} (o1 : OR (InR B1 T1) a n ss w) (o2 : OS (InR B2 T2) ta tn ts w) (o3 : OS (InR B3 T3) da dn ds w)
    (b1 : B ≤ B1) (b2 : B ≤ B2) (b3 : B ≤ B3) (t1 : T1 ≤ T) (t2 : T2 ≤ T) (t3 : T3 ≤ T) (d12 : T1 ≤ B2 ∨ T2 ≤ B1) (d13 : T1 ≤ B3 ∨ T3 ≤ B1) (d23 : T2 ≤ B3 ∨ T3 ≤ B2) : OT (InR B T) a n ss ta tn ts da dn ds w :=
  ⟨InR B1 T1, InR B2 T2, InR B3 T3, fun k hk => ⟨by have := hk.1; omega, by have := hk.2; omega⟩, fun k hk => ⟨by have := hk.1; omega, by have := hk.2; omega⟩, fun k hk => ⟨by have := hk.1; omega, by have := hk.2; omega⟩,
    fun k h h' => by have := h.1; have := h.2; have := h'.1; have := h'.2; omega, fun k h h' => by have := h.1; have := h.2; have := h'.1; have := h'.2; omega, fun k h h' => by have := h.1; have := h.2; have := h'.1; have := h'.2; omega, o1, o2, o3⟩

end Go.Proofs.Ytgkjmeogdomgmaa
