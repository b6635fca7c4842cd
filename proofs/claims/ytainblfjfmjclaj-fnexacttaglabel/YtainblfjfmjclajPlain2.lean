import Derived.Test.YtainblfjfmjclajPlain
import Derived.WalkKit
import Derived.ProofKit
import Derived.OpenShut
import Derived.ShutString
import Derived.ChangeOld
import Derived.Below
import Derived.WalkSpells
import Derived.Deep.QuietTactic
import Derived.BigQuiet
import Derived.Deep.RegionWith
import Derived.Deep.WholeRow
import Derived.Deep.DeepCutAuto
import Derived.Deep.RegionHeld2
import Derived.Deep.AppendLies
import Derived.Deep.RegionLaw
namespace Go.Proofs.Ytainblfjfmjclaj
open Go.ChangeShapes Go.WideShapes Go.ChangeAt Go.RowKit

def mix (f : Int → Int → Int) (xs ys : List Int) : List Int := (List.range xs.length).map (fun j => f (gt xs j) (gt ys j))

theorem length_mix (f : Int → Int → Int) (xs ys : List Int) : (mix f xs ys).length = xs.length := by simp [mix]

theorem gt_mix (f : Int → Int → Int) (xs ys : List Int) (j : Nat) (h : j < xs.length) : gt (mix f xs ys) j = f (gt xs j) (gt ys j) := by simp [mix, gt, h]

def highI (z _y : Int) : Int := if z = 0 then 5 else z

def highL (zs : List Int) : List Int := mix highI zs zs

theorem length_highL (zs : List Int) : (highL zs).length = zs.length := length_mix _ _ _

theorem gt_highL (zs : List Int) (j : Nat) (h : j < zs.length) : gt (highL zs) j = if gt zs j = 0 then 5 else gt zs j := gt_mix _ _ _ j h

theorem owns_blk {w : World} {base : Nat} {e : TypeId} {v : Value} {n : Nat} {zs : List Int} (hn : 0 < n) (h : w.ownsRow base e 1 v n (zs.map (Value.int .i64))) :
    ∃ g cap, v = .slice (some ⟨g, 0, none⟩) n cap ∧ base ≤ g ∧ n ≤ cap ∧ zs.length = n ∧ Blk w g zs := by
  have hlen : zs.length = n := by simpa using h.1
  rcases h.2 with ⟨_, h0⟩ | ⟨g, cap, cur, rfl, hb, hg, hc, _, hs, ht⟩
  · omega
  · refine ⟨g, cap, rfl, hb, hc, hlen, ?_, fun i hi => ?_, fun i => by simp [World.frozen?, hg]⟩
    · exact (Array.getElem?_eq_some_iff.1 hg).1
    · have hcell := h.cells (g := g) rfl i (.int .i64 (gt zs i)) (by simp [gt, hi])
      have hadd : (Addr.mk g 0 none).add i = ⟨g, i, none⟩ := by cases i <;> simp [Addr.add]
      rwa [hadd] at hcell

theorem ints_one {zs : List Int} : ∀ u ∈ zs.map (Value.int .i64), u.oneCell' = true := by
  intro u hu; simp at hu; obtain ⟨z, _, rfl⟩ := hu; rfl

theorem ints_at_sl {w : World} {b off : Nat} {zs : List Int} (hc : ∀ i, i < zs.length → w.cell? ⟨b, off + i, none⟩ = some (.int .i64 (gt zs i))) :
    ∀ j u, (zs.map (Value.int .i64))[j]? = some u → w.cell? ((Addr.mk b off none).add j) = some u := by
  intro j u hj
  have hadd : (Addr.mk b off none).add j = ⟨b, off + j, none⟩ := by cases j <;> simp [Addr.add]
  rw [hadd]
  simp at hj
  obtain ⟨z, hz, rfl⟩ := hj
  have hl : j < zs.length := (List.getElem?_eq_some_iff.1 hz).1
  rw [hc j hl]
  simp [gt, hz]

def HRow (w : World) (g k : Nat) (zs : List Int) : Prop :=
  g < w.heap.size ∧ (∀ j, j < 4 → w.cell? ⟨g, j, none⟩ = some (.int .i64 (if j < k then (if gt zs j = 0 then 5 else gt zs j) else gt zs j))) ∧ ∀ j, w.frozen? ⟨g, j, none⟩ = false

theorem HRow.start {w : World} {g : Nat} {zs : List Int} (h : Blk w g zs) (h4 : zs.length = 4) : HRow w g 0 zs :=
  ⟨h.1, fun j hj => by rw [if_neg (by omega)]; exact h.2.1 j (by omega), h.2.2⟩

theorem HRow.keep {w : World} {g k : Nat} {zs : List Int} (h : HRow w g k zs) (hk : gt zs k ≠ 0) : HRow w g (k + 1) zs := by
  refine ⟨h.1, fun j hj => ?_, h.2.2⟩
  rw [h.2.1 j hj]
  by_cases e : j = k
  · subst e; simp [hk]
  · by_cases e2 : j < k
    · rw [if_pos e2, if_pos (by omega : j < k + 1)]
    · rw [if_neg e2, if_neg (by omega : ¬ j < k + 1)]

theorem HRow.set {w : World} {g k : Nat} {zs : List Int} (h : HRow w g k zs) (h4 : k < 4) (hk : gt zs k = 0) : HRow (w.setCell ⟨g, k, none⟩ (.int .i64 5)) g (k + 1) zs := by
  refine ⟨by simpa using h.1, fun j hj => ?_, fun j => by simpa using h.2.2 j⟩
  by_cases e : j = k
  · subst e; rw [World.cell?_setCell_same _ _ _ (h.2.1 j hj)]; simp [hk]
  · rw [World.cell?_setCell_other _ _ _ _ (fun h => e (by injection h with _ h2; exact h2.symm)), h.2.1 j hj]
    by_cases e2 : j < k
    · rw [if_pos e2, if_pos (by omega : j < k + 1)]
    · rw [if_neg e2, if_neg (by omega : ¬ j < k + 1)]

theorem HRow.done {w : World} {g : Nat} {zs : List Int} (h : HRow w g 4 zs) (h4 : zs.length = 4) : Blk w g (highL zs) := by
  refine ⟨h.1, fun j hj => ?_, h.2.2⟩
  rw [length_highL] at hj
  rw [h.2.1 j (by omega), if_pos (by omega), gt_highL zs j hj]

end Go.Proofs.Ytainblfjfmjclaj
