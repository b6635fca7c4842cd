import Derived.Test.YtainblfjfmjclajPlain2
import Derived.WalkKit
import Derived.ProofKit
import Derived.OpenShut
import Derived.ShutString
import Derived.ChangeOld
import Derived.Below
import Derived.WalkSpells
import Derived.Deep.QuietTactic
import Derived.BigQuiet
import Derived.Deep.RegionWith
import Derived.Deep.WholeRow
import Derived.Deep.DeepCutAuto
import Derived.Deep.RegionHeld2
import Derived.Deep.AppendLies
import Derived.Deep.RegionLaw
namespace Go.Proofs.Ytainblfjfmjclaj
open Go.ChangeShapes Go.WideShapes Go.ChangeAt Go.RowKit

/-- an owned slice of n numbers: nil, or at the head of a block from B on, below T. -/
def OSl (w : World) (B T : Nat) (a : Option Addr) (n : Nat) (rs : List Int) : Prop :=
  rs.length = n ∧ n ≤ 1048576 ∧ ((a = none ∧ n = 0) ∨ ∃ b, a = some ⟨b, 0, none⟩ ∧ B ≤ b ∧ b < T ∧ Blk w b rs)

theorem OSl.sl {w : World} {B T : Nat} {a : Option Addr} {n : Nat} {rs : List Int} (h : OSl w B T a n rs) : Sl w a n rs := by
  obtain ⟨h1, _, h2⟩ := h
  refine ⟨h1, fun hp => ?_⟩
  rcases h2 with h2 | ⟨b, rfl, _, _, hb⟩
  · omega
  · obtain ⟨b1, o1, e, h3, h4⟩ := hb.sl.2 (by omega)
    exact ⟨b1, o1, e, h3, fun i hi => h4 i (by omega)⟩

theorem OSl.map {w w' : World} {B T : Nat} {a : Option Addr} {n : Nat} {rs : List Int} (h : OSl w B T a n rs) (f : ∀ b, B ≤ b → b < T → Blk w b rs → Blk w' b rs) : OSl w' B T a n rs := by
  obtain ⟨h1, h0, h2⟩ := h
  refine ⟨h1, h0, ?_⟩
  rcases h2 with h2 | ⟨b, rfl, h3, h5, h4⟩
  · exact .inl h2
  · exact .inr ⟨b, rfl, h3, h5, f b h3 h5 h4⟩

theorem OSl.below {w w' : World} {B T : Nat} {a : Option Addr} {n : Nat} {rs : List Int} (h : OSl w B T a n rs) (hb : Below w.heap.size w w') : OSl w' B T a n rs := h.map fun _ _ _ k => k.below hb

theorem OSl.mono {w : World} {B T B' T' : Nat} {a : Option Addr} {n : Nat} {rs : List Int} (h : OSl w B T a n rs) (hB : B' ≤ B) (hT : T ≤ T') : OSl w B' T' a n rs := by
  obtain ⟨h1, h0, h2⟩ := h
  refine ⟨h1, h0, ?_⟩
  rcases h2 with h2 | ⟨b, rfl, h3, h5, h4⟩
  · exact .inl h2
  · exact .inr ⟨b, rfl, by omega, by omega, h4⟩

theorem OSl.nil (w : World) (B T : Nat) : OSl w B T none 0 [] := ⟨rfl, by omega, .inl ⟨rfl, rfl⟩⟩

theorem OSl.ofBlk {w : World} {B b : Nat} {rs : List Int} {n : Nat} (h : Blk w b rs) (hB : B ≤ b) (hn : rs.length = n) (hl : n ≤ 1048576) : OSl w B w.heap.size (some ⟨b, 0, none⟩) n rs := ⟨hn, hl, .inr ⟨b, rfl, hB, h.1, h⟩⟩

/-- blocks outside B .. T-1 are as they were. -/
structure Outside (B T : Nat) (w w' : World) : Prop where
  os : w'.os = w.os
  tape : w'.tape = w.tape
  output : w'.output = w.output
  size : w.heap.size ≤ w'.heap.size
  block : ∀ k, k < w.heap.size → (k < B ∨ T ≤ k) → w'.heap[k]? = w.heap[k]?

theorem Outside.below {B T : Nat} {w w' : World} (h : Outside B T w w') {B0 : Nat} (h0 : B0 ≤ B) (hs : B0 ≤ w.heap.size) : Below B0 w w' :=
  ⟨h.os, h.tape, h.output, h.size, fun k hk => h.block k (by omega) (.inl (by omega))⟩

theorem Outside.blk {B T : Nat} {w w' : World} (h : Outside B T w w') {b : Nat} {rs : List Int} (hb : Blk w b rs) (hne : b < B ∨ T ≤ b) : Blk w' b rs := by
  have e := h.block b hb.1 hne
  exact ⟨by have := h.size; have := hb.1; omega, fun i hi => (World.cell?_of_block (a := ⟨b, i, none⟩) e).trans (hb.2.1 i hi), fun i => (World.frozen?_of_block (a := ⟨b, i, none⟩) e).trans (hb.2.2 i)⟩

theorem Outside.refl (B T : Nat) (w : World) : Outside B T w w := ⟨rfl, rfl, rfl, Nat.le_refl _, fun _ _ _ => rfl⟩

theorem Outside.trans {B T : Nat} {u v w : World} (h : Outside B T u v) (k : Outside B T v w) : Outside B T u w :=
  ⟨k.os.trans h.os, k.tape.trans h.tape, k.output.trans h.output, Nat.le_trans h.size k.size, fun i hi hn => (k.block i (Nat.lt_of_lt_of_le hi h.size) hn).trans (h.block i hi hn)⟩

theorem Outside.alloc (B T : Nat) (w : World) (o : Obj) : Outside B T w (w.alloc o) := ⟨rfl, rfl, rfl, by simp, fun _ hk _ => Below.heap_alloc _ _ _ hk⟩

theorem Outside.setCell {B T b i : Nat} {w u : World} (h : Outside B T w u) (h1 : B ≤ b) (h2 : b < T) (v : Value) : Outside B T w (u.setCell ⟨b, i, none⟩ v) :=
  h.trans ⟨rfl, rfl, rfl, by simp, fun _ _ hn => Below.heap_setCell _ _ _ _ (by simp; omega)⟩

/-- what is kept of a world: below w's size all is as in w; cells; owned slices. -/
structure Mem (w u : World) (cs : List (Nat × Nat × Value)) (ss : List (Nat × Nat × Option Addr × Nat × List Int)) : Prop where
  bel : Below w.heap.size w u
  cells : ∀ c ∈ cs, c.1 < u.heap.size ∧ u.cell? ⟨c.1, c.2.1, none⟩ = some c.2.2
  slices : ∀ s ∈ ss, OSl u s.1 s.2.1 s.2.2.1 s.2.2.2.1 s.2.2.2.2

theorem Mem.start (w : World) : Mem w w [] [] := ⟨Below.refl _ _, fun c hc => (by cases hc), fun s hs => (by cases hs)⟩

theorem Mem.below {w u u' : World} {cs : List (Nat × Nat × Value)} {ss : List (Nat × Nat × Option Addr × Nat × List Int)} (h : Mem w u cs ss) (hb : Below u.heap.size u u') : Mem w u' cs ss :=
  ⟨h.bel.trans (hb.mono h.bel.size), fun c hc => ⟨by have := (h.cells c hc).1; have := hb.size; omega, (hb.cell (p := ⟨c.1, c.2.1, none⟩) (h.cells c hc).1).trans (h.cells c hc).2⟩, fun s hs => (h.slices s hs).below hb⟩

theorem Mem.outside {w u u' : World} {cs : List (Nat × Nat × Value)} {ss : List (Nat × Nat × Option Addr × Nat × List Int)} (h : Mem w u cs ss) {B T : Nat} (ho : Outside B T u u') (hB : w.heap.size ≤ B)
    (hc : ∀ c ∈ cs, c.1 < B ∨ T ≤ c.1) (hs : ∀ s ∈ ss, s.2.1 ≤ B ∨ T ≤ s.1) : Mem w u' cs ss :=
  ⟨h.bel.trans (ho.below hB h.bel.size), fun c k => ⟨by have := (h.cells c k).1; have := ho.size; omega, (World.cell?_of_block (a := ⟨c.1, c.2.1, none⟩) (ho.block c.1 (h.cells c k).1 (hc c k))).trans (h.cells c k).2⟩,
    fun s k => (h.slices s k).map fun b h1 h2 hb => ho.blk hb (by have := hs s k; omega)⟩

theorem Mem.alloc1 {w u : World} {cs : List (Nat × Nat × Value)} {ss : List (Nat × Nat × Option Addr × Nat × List Int)} (h : Mem w u cs ss) (v : Value) (t : TypeId) : Mem w (u.alloc (.cells #[v] t)) ((u.heap.size, 0, v) :: cs) ss := by
  have k := h.below ((Below.refl _ _).alloc (Nat.le_refl _) (.cells #[v] t))
  refine ⟨k.bel, fun c hc => ?_, k.slices⟩
  rcases List.mem_cons.1 hc with rfl | hc
  · exact ⟨by simp, by simp⟩
  · exact k.cells c hc

theorem Mem.alloc2 {w u : World} {cs : List (Nat × Nat × Value)} {ss : List (Nat × Nat × Option Addr × Nat × List Int)} (h : Mem w u cs ss) (v v' : Value) (t : TypeId) : Mem w (u.alloc (.cells #[v, v'] t)) ((u.heap.size, 0, v) :: (u.heap.size, 1, v') :: cs) ss := by
  have k := h.below ((Below.refl _ _).alloc (Nat.le_refl _) (.cells #[v, v'] t))
  refine ⟨k.bel, fun c hc => ?_, k.slices⟩
  rcases List.mem_cons.1 hc with rfl | hc
  · exact ⟨by simp, by simp⟩
  · rcases List.mem_cons.1 hc with rfl | hc
    · exact ⟨by simp, by simp⟩
    · exact k.cells c hc

theorem Mem.slice {w u : World} {cs : List (Nat × Nat × Value)} {ss : List (Nat × Nat × Option Addr × Nat × List Int)} (h : Mem w u cs ss) {B T : Nat} {a : Option Addr} {n : Nat} {rs : List Int} (k : OSl u B T a n rs) : Mem w u cs ((B, T, a, n, rs) :: ss) :=
  ⟨h.bel, h.cells, fun s hs => by rcases List.mem_cons.1 hs with rfl | hs; exact k; exact h.slices s hs⟩

theorem Mem.sub {w u : World} {cs cs' : List (Nat × Nat × Value)} {ss ss' : List (Nat × Nat × Option Addr × Nat × List Int)} (h : Mem w u cs ss) (hc : ∀ c ∈ cs', c ∈ cs) (hs : ∀ s ∈ ss', s ∈ ss) : Mem w u cs' ss' :=
  ⟨h.bel, fun c k => h.cells c (hc c k), fun s k => h.slices s (hs s k)⟩

theorem Mem.cell {w u : World} {cs : List (Nat × Nat × Value)} {ss : List (Nat × Nat × Option Addr × Nat × List Int)} (h : Mem w u cs ss) (i : Nat) {b o : Nat} {v : Value} (hc : cs[i]? = some (b, o, v)) : u.cell? ⟨b, o, none⟩ = some v := (h.cells _ (List.mem_of_getElem? hc)).2

theorem Mem.lt {w u : World} {cs : List (Nat × Nat × Value)} {ss : List (Nat × Nat × Option Addr × Nat × List Int)} (h : Mem w u cs ss) (i : Nat) {b o : Nat} {v : Value} (hc : cs[i]? = some (b, o, v)) : b < u.heap.size := (h.cells _ (List.mem_of_getElem? hc)).1

theorem Mem.osl {w u : World} {cs : List (Nat × Nat × Value)} {ss : List (Nat × Nat × Option Addr × Nat × List Int)} (h : Mem w u cs ss) (i : Nat) {B T : Nat} {a : Option Addr} {n : Nat} {rs : List Int} (hs : ss[i]? = some (B, T, a, n, rs)) : OSl u B T a n rs := h.slices _ (List.mem_of_getElem? hs)

theorem Mem.drew {w u : World} {cs : List (Nat × Nat × Value)} {ss : List (Nat × Nat × Option Addr × Nat × List Int)} (h : Mem w u cs ss) : Mem w u.drew cs ss := h.below (Below.refl _ _).drew

def resOf (c : Int) (l : List Int) : List Int := if c = 0 then l else []

theorem resOf_ok {c : Int} {l : List Int} (h : c = 0) : resOf c l = l := if_pos h

theorem resOf_no {c : Int} {l : List Int} (h : c ≠ 0) : resOf c l = [] := if_neg h

theorem gt_ints (x0 x1 x2 x3 : Int) : gt [x0, x1, x2, x3] 0 = x0 ∧ gt [x0, x1, x2, x3] 1 = x1 ∧ gt [x0, x1, x2, x3] 2 = x2 ∧ gt [x0, x1, x2, x3] 3 = x3 := ⟨rfl, rfl, rfl, rfl⟩

theorem list4 {zs : List Int} (h : zs.length = 4) : zs = [gt zs 0, gt zs 1, gt zs 2, gt zs 3] := by
  match zs, h with
  | [a, b, c, d], _ => rfl

/-- four cells of a block that hold numbers. -/
def ARow (w : World) (g : Nat) (f : Nat → Int) : Prop :=
  (∀ j, j < 4 → w.cell? ⟨g, j, none⟩ = some (.int .i64 (f j))) ∧ ∀ j, w.frozen? ⟨g, j, none⟩ = false

theorem ARow.set {w : World} {g k : Nat} {f f' : Nat → Int} {x : Int} (h : ARow w g f) (hk : k < 4) (e : ∀ j, j < 4 → (if j = k then x else f j) = f' j) : ARow (w.setCell ⟨g, k, none⟩ (.int .i64 x)) g f' := by
  refine ⟨fun j hj => ?_, fun j => by simpa using h.2 j⟩
  rw [← e j hj]
  by_cases hjk : j = k
  · subst hjk; rw [if_pos rfl, World.cell?_setCell_same _ _ _ (h.1 j hj)]
  · rw [if_neg hjk, World.cell?_setCell_other _ _ _ _ (fun h => hjk (by injection h with _ h2; exact h2.symm))]; exact h.1 j hj

theorem ARow.keep {w : World} {g : Nat} {f f' : Nat → Int} (h : ARow w g f) (e : ∀ j, j < 4 → f j = f' j) : ARow w g f' := ⟨fun j hj => by rw [← e j hj]; exact h.1 j hj, h.2⟩

/-- the first k of F, the others of f. -/
def upTo (F f : Nat → Int) (k j : Nat) : Int := if j < k then F j else f j

theorem upTo_set {F f : Nat → Int} {k : Nat} {x : Int} (hx : F k = x) : ∀ j, j < 4 → (if j = k then x else upTo F f k j) = upTo F f (k + 1) j := by
  intro j _
  unfold upTo
  by_cases e : j = k
  · subst e; rw [if_pos rfl, if_pos (by omega : j < j + 1)]; exact hx.symm
  · rw [if_neg e]
    by_cases e2 : j < k
    · rw [if_pos e2, if_pos (by omega : j < k + 1)]
    · rw [if_neg e2, if_neg (by omega : ¬ j < k + 1)]

theorem upTo_keep {F f : Nat → Int} {k : Nat} (hx : F k = f k) : ∀ j, j < 4 → upTo F f k j = upTo F f (k + 1) j := by
  intro j hj
  rw [← upTo_set (F := F) (f := f) (k := k) rfl j hj]
  by_cases e : j = k
  · subst e; rw [if_pos rfl]; unfold upTo; rw [if_neg (by omega : ¬ j < j), hx]
  · rw [if_neg e]

def hg (zs : List Int) (j : Nat) : Int := if gt zs j = 0 then 5 else gt zs j

theorem highL4 {zs : List Int} (h : zs.length = 4) : highL zs = [hg zs 0, hg zs 1, hg zs 2, hg zs 3] := by
  rw [list4 (zs := highL zs) (by rw [length_highL]; exact h), gt_highL zs 0 (by omega), gt_highL zs 1 (by omega), gt_highL zs 2 (by omega), gt_highL zs 3 (by omega)]
  rfl

end Go.Proofs.Ytainblfjfmjclaj
