import Derived.Test.YtnlkigjgloeonaaGreatLabelAt
import Derived.Test.YtnlkigjgloeonaaGreatThing
import Derived.WalkKit
import Derived.ProofKit
import Derived.OpenShut
import Derived.ShutString
import Derived.ChangeOld
import Derived.Below
import Derived.WalkSpells
import Derived.Deep.QuietTactic
import Derived.BigQuiet
import Derived.Deep.RegionWith
import Derived.Deep.WholeRow
import Derived.Deep.DeepCutAuto
import Derived.Deep.RegionHeld2
import Derived.Deep.AppendLies
import Derived.Deep.RegionLaw
namespace Go.Proofs.YtnlkigjgloeonaaGreat
open Go.ChangeShapes Go.WideShapes Go.ChangeAt Go.RowKit

def okS (ss : List (Int × List Int)) (s : Int) : Bool := decide (atC ss s = 0)

def allS (ss : List (Int × List Int)) (l : List Int) : Bool := l.all (okS ss)

def labs (ss : List (Int × List Int)) (l : List Int) : List (List Int) := l.map (atL ss)

def thingsB (ls : List (List Int)) : Bool := ls.all thingB

def lowB (zs : List Int) : Bool := !has zs 5

def lowsB (ls : List (List Int)) : Bool := ls.all lowB

/-- how often a slot is meant. -/
def cnt (l : List Int) (i : Nat) : Int := ((l.filter (fun s => s == (i : Int))).length : Int)

def cntB (ss : List (Int × List Int)) (ts ds : List Int) : Bool := (List.range ss.length).all (fun i => decide (gc ss i = cnt ts i + cnt ds i))

def ledF (ss : List (Int × List Int)) (ts ds : List Int) : Int :=
  if (allS ss ts && allS ss ds) = true then (if (thingsB (labs ss ts) && lowsB (labs ss ds)) = true then (if cntB ss ts ds = true then 0 else 8) else 1) else 4

def manyB (ts ds : List Int) : Bool := decide (6 < ts.length) || decide (4 < ds.length)

def tabF (ss : List (Int × List Int)) (ts ds : List Int) : Int := if faultR ss = 0 then (if manyB ts ds = true then 2 else ledF ss ts ds) else faultR ss

/-- a slice of labels that reads as ls. -/
def Lbs (w : World) (a : Option Addr) (n : Nat) (ls : List (List Int)) : Prop :=
  ls.length = n ∧ (0 < n → ∃ b off, a = some ⟨b, off, none⟩ ∧ b < w.heap.size ∧ ∀ i, i < n → ∃ la ll lc, w.cell? ⟨b, off + i, none⟩ = some (.slice la ll lc) ∧ ll ≤ maxLen ∧ Sl w la ll (ls.getD i []))

theorem Lbs.below {w w' : World} {a : Option Addr} {n : Nat} {ls : List (List Int)} (h : Lbs w a n ls) {B : Nat} (hb : Below B w w') (hB : w.heap.size ≤ B) : Lbs w' a n ls := by
  obtain ⟨h1, h2⟩ := h
  refine ⟨h1, fun hp => ?_⟩
  obtain ⟨b, off, h3, h4, h5⟩ := h2 hp
  refine ⟨b, off, h3, by have := hb.size; omega, fun i hi => ?_⟩
  obtain ⟨la, ll, lc, h6, h7, h8⟩ := h5 i hi
  exact ⟨la, ll, lc, (hb.cell (p := ⟨b, off + i, none⟩) (by show b < B; omega)).trans h6, h7, h8.below hb hB⟩

theorem all_pre {α : Type} {f : α → Bool} {l : List α} {d : α} (h : ∀ j, j < l.length → f (l.getD j d) = true) : l.all f = true := by
  rw [List.all_eq_true]
  intro x hx
  obtain ⟨j, hj, rfl⟩ := List.getElem_of_mem hx
  have := h j hj
  simpa [hj] using this

theorem all_hit {α : Type} {f : α → Bool} {l : List α} {d : α} {j : Nat} (hj : j < l.length) (h : f (l.getD j d) = false) : l.all f = false := by
  rw [List.all_eq_false]
  exact ⟨l[j], List.getElem_mem hj, by simpa [hj] using h⟩

theorem all_get {α : Type} {f : α → Bool} {l : List α} {d : α} (h : l.all f = true) {j : Nat} (hj : j < l.length) : f (l.getD j d) = true := by
  have := List.all_eq_true.1 h l[j] (List.getElem_mem hj)
  simpa [hj] using this

theorem getD_labs (ss : List (Int × List Int)) (l : List Int) (j : Nat) (h : j < l.length) : (labs ss l).getD j [] = atL ss (gt l j) := by simp [labs, gt, h]

theorem atL_len {ss : List (Int × List Int)} (good : Good ss) (p : Int) : (atL ss p).length ≤ 4 := by
  unfold atL
  split
  · rename_i hc
    unfold atC at hc
    split at hc
    · cases hc
    · split at hc
      · cases hc
      · rename_i h1 h2
        exact Nat.le_of_eq (fault_len (good.right _ (by omega) (by have := good.low p.toNat (by omega); omega)))
  · simp

end Go.Proofs.YtnlkigjgloeonaaGreat
