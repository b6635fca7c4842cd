import Derived.Test.YtlilbbkidaahlaaL4Copy
import Derived.WalkKit
import Derived.ProofKit
import Derived.OpenShut
import Derived.ShutString
import Derived.ChangeOld
import Derived.Below
import Derived.WalkSpells
import Derived.Deep.QuietTactic
import Derived.BigQuiet
import Derived.Deep.RegionWith
import Derived.Deep.WholeRow
import Derived.Deep.DeepCutAuto
import Derived.Deep.RegionHeld2
import Derived.Deep.AppendLies
import Derived.Deep.RegionLaw
namespace Go.Proofs.Ytlilbbkidaahlaa
open Go.ChangeShapes Go.WideShapes Go.ChangeAt Go.RowKit

/-- a variable of a cache at block P: its size, and a row of its own from B on. -/
structure CV (w : World) (B P : Nat) (s : Int) (v : Value) (n : Nat) (ls : List (Int × Int × Int)) : Prop where
  hB : B ≤ P
  lt : P < w.heap.size
  c0 : w.cell? ⟨P, 0, none⟩ = some (.int .i64 s)
  c1 : w.cell? ⟨P, 1, none⟩ = some v
  f0 : w.frozen? ⟨P, 0, none⟩ = false
  f1 : w.frozen? ⟨P, 1, none⟩ = false
  own : w.ownsRow B 28 3 v n (vs3 ls)
  len : ls.length = n
  ne : v.ownBlock ≠ some P

theorem own_sln {w : World} {B n : Nat} {e : TypeId} {a : Option Addr} {c : Nat} {ls : List (Int × Int × Int)} (h : w.ownsRow B e 3 (.slice a n c) n (vs3 ls)) (hl : ls.length = n) : Sln w a n ls := by
  refine ⟨hl, fun hp => ?_⟩
  obtain ⟨g, cap, hv, _, hlt⟩ := h.form hp
  simp only [Value.slice.injEq] at hv
  obtain ⟨rfl, _, rfl⟩ := hv
  exact ⟨g, 0, rfl, hlt, fun i hi => by rw [Nat.zero_add]; exact own_cell h hi⟩

theorem CV.below {w w' : World} {B P : Nat} {s : Int} {v : Value} {n : Nat} {ls : List (Int × Int × Int)} (h : CV w B P s v n ls) (hb : Below w.heap.size w w') : CV w' B P s v n ls :=
  ⟨h.hB, by have := hb.size; have := h.lt; omega, (hb.cell (p := ⟨P, 0, none⟩) h.lt).trans h.c0, (hb.cell (p := ⟨P, 1, none⟩) h.lt).trans h.c1, (hb.frozen (p := ⟨P, 0, none⟩) h.lt).trans h.f0, (hb.frozen (p := ⟨P, 1, none⟩) h.lt).trans h.f1, own_below h.own hb, h.len, h.ne⟩

/-- the field of lines is stored anew. -/
theorem CV.put {w u : World} {B P : Nat} {s : Int} {v v' : Value} {n m : Nat} {ls rs : List (Int × Int × Int)} (h : CV w B P s v n ls) (c0 : u.cell? ⟨P, 0, none⟩ = some (.int .i64 s)) (c1 : ∃ x, u.cell? ⟨P, 1, none⟩ = some x) (f0 : u.frozen? ⟨P, 0, none⟩ = false) (f1 : u.frozen? ⟨P, 1, none⟩ = false)
    (ho : u.ownsRow B 28 3 v' m (vs3 rs)) (hl : rs.length = m) (hne : v'.ownBlock ≠ some P) : CV (u.setCell ⟨P, 1, none⟩ v') B P s v' m rs := by
  obtain ⟨x, c1⟩ := c1
  refine ⟨h.hB, by simpa using World.block_lt_of_cell? _ _ c1, ?_, World.cell?_setCell_same _ _ _ c1, by simpa using f0, by simpa using f1, ownsRow_setCell_other ho (by exact hne) _, hl, hne⟩
  rw [World.cell?_setCell_other _ _ _ _ (fun e => by injection e with _ e2; omega)]
  exact c0

theorem three_new {W : World} {N : Nat} {x : Int × Int × Int} (h0 : W.cell? ⟨N, 0, none⟩ = some (.int .i64 x.1)) (h1 : W.cell? ⟨N, 1, none⟩ = some (.int .i64 x.2.1)) (h2 : W.cell? ⟨N, 2, none⟩ = some (.int .i64 x.2.2)) : ∀ j u, (vs3 [x])[j]? = some u → W.cell? ((Addr.mk N 0 none).add j) = some u := by
  intro j u hj
  match j, hj with
  | 0, hj => simp [fl3] at hj; subst hj; simpa [Addr.add] using h0
  | 1, hj => simp [fl3] at hj; subst hj; simpa [Addr.add] using h1
  | 2, hj => simp [fl3] at hj; subst hj; simpa [Addr.add] using h2
  | j + 3, hj => simp [fl3] at hj

theorem vs3_append (xs ys : List (Int × Int × Int)) : vs3 (xs ++ ys) = vs3 xs ++ vs3 ys := by rw [vs3, fl3_append, List.map_append]

end Go.Proofs.Ytlilbbkidaahlaa
