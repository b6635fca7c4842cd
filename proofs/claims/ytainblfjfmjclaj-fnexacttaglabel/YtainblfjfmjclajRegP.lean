import Derived.Test.YtainblfjfmjclajPlain3
import Derived.WalkKit
import Derived.ProofKit
import Derived.OpenShut
import Derived.ShutString
import Derived.ChangeOld
import Derived.Below
import Derived.WalkSpells
import Derived.Deep.QuietTactic
import Derived.BigQuiet
import Derived.Deep.RegionWith
import Derived.Deep.WholeRow
import Derived.Deep.DeepCutAuto
import Derived.Deep.RegionHeld2
import Derived.Deep.AppendLies
import Derived.Deep.RegionLaw
namespace Go.Proofs.Ytainblfjfmjclaj
open Go.ChangeShapes Go.WideShapes Go.ChangeAt Go.RowKit

/-- a slot: how often it is meant, and its label's levels. -/
def gc (ss : List (Int × List Int)) (i : Nat) : Int := (ss.getD i (0, [])).1

def gl (ss : List (Int × List Int)) (i : Nat) : List Int := (ss.getD i (0, [])).2

/-- a slice of slots (two cells each) that reads as ss. -/
def Sls (w : World) (a : Option Addr) (n : Nat) (ss : List (Int × List Int)) : Prop :=
  ss.length = n ∧ (0 < n → ∃ b off, a = some ⟨b, off, none⟩ ∧ b < w.heap.size ∧ ∀ i, i < n → w.cell? ⟨b, off + i * 2, none⟩ = some (.int .i64 (gc ss i)) ∧
    ∃ la ll lc, w.cell? ⟨b, off + i * 2 + 1, none⟩ = some (.slice la ll lc) ∧ ll ≤ maxLen ∧ Sl w la ll (gl ss i))

theorem Sls.below {w w' : World} {a : Option Addr} {n : Nat} {ss : List (Int × List Int)} (h : Sls w a n ss) {B : Nat} (hb : Below B w w') (hB : w.heap.size ≤ B) : Sls w' a n ss := by
  obtain ⟨h1, h2⟩ := h
  refine ⟨h1, fun hp => ?_⟩
  obtain ⟨b, off, h3, h4, h5⟩ := h2 hp
  refine ⟨b, off, h3, by have := hb.size; omega, fun i hi => ?_⟩
  obtain ⟨h6, la, ll, lc, h7, h8, h9⟩ := h5 i hi
  exact ⟨(hb.cell (p := ⟨b, off + i * 2, none⟩) (by show b < B; omega)).trans h6, la, ll, lc, (hb.cell (p := ⟨b, off + i * 2 + 1, none⟩) (by show b < B; omega)).trans h7, h8, h9.below hb hB⟩

def lenSum : List (Int × List Int) → Nat
  | [] => 0
  | s :: r => s.2.length + lenSum r

theorem lenSum_take (ss : List (Int × List Int)) (k : Nat) (h : k < ss.length) : lenSum (ss.take (k + 1)) = lenSum (ss.take k) + (gl ss k).length := by
  induction ss generalizing k with
  | nil => simp at h
  | cons s r ih =>
    cases k with
    | zero => simp [lenSum, gl]
    | succ k =>
      have := ih k (by simpa using h)
      simp only [List.take_succ_cons, lenSum] at this ⊢
      rw [this]
      simp [gl]
      omega

theorem lenSum_le (ss : List (Int × List Int)) (k : Nat) : lenSum (ss.take k) ≤ lenSum ss := by
  induction ss generalizing k with
  | nil => simp
  | cons s r ih =>
    cases k with
    | zero => simp [lenSum]
    | succ k => simp only [List.take_succ_cons, lenSum]; have := ih k; omega

theorem gl_le (ss : List (Int × List Int)) (k : Nat) (h : k < ss.length) : (gl ss k).length ≤ lenSum ss := by
  have h1 := lenSum_take ss k h
  have h2 := lenSum_le ss (k + 1)
  omega

end Go.Proofs.Ytainblfjfmjclaj
