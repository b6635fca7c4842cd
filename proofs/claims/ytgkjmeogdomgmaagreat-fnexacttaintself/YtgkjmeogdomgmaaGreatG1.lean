import Derived.WalkKit
import Derived.ProofKit
import Derived.OpenShut
import Derived.ShutString
import Derived.ChangeOld
import Derived.Below
import Derived.WalkSpells
import Derived.Deep.QuietTactic
import Derived.BigQuiet
import Derived.Deep.RegionWith
import Derived.Deep.WholeRow
import Derived.Deep.DeepCutAuto
import Derived.Deep.RegionHeld2
import Derived.Deep.AppendLies
import Derived.Deep.RegionLaw
namespace Go.Proofs.YtgkjmeogdomgmaaGreat
open Go.ChangeShapes Go.WideShapes Go.ChangeAt Go.RowKit

def gt (zs : List Int) (i : Nat) : Int := zs.getD i 0

def Sl (w : World) (a : Option Addr) (len : Nat) (zs : List Int) : Prop :=
  zs.length = len ∧ (0 < len → ∃ b off, a = some ⟨b, off, none⟩ ∧ b < w.heap.size ∧ ∀ i, i < len → w.cell? ⟨b, off + i, none⟩ = some (.int .i64 (gt zs i)))

theorem Sl.below {w w' : World} {a : Option Addr} {len : Nat} {zs : List Int} (h : Sl w a len zs) {B : Nat} (hb : Below B w w') (hB : w.heap.size ≤ B) : Sl w' a len zs := by
  obtain ⟨h1, h2⟩ := h
  refine ⟨h1, fun hp => ?_⟩
  obtain ⟨b, off, h3, h4, h5⟩ := h2 hp
  exact ⟨b, off, h3, by have := hb.size; omega, fun i hi => (hb.cell (p := ⟨b, off + i, none⟩) (by show b < B; omega)).trans (h5 i hi)⟩

def okI (v : Int) : Bool := decide (0 ≤ v) && decide (v ≤ 5)

def fault (zs : List Int) : Int := if zs.length = 4 then (if zs.all okI then 0 else 3) else 2

theorem all_take_succ (zs : List Int) (k : Nat) (h : k < zs.length) : (zs.take (k + 1)).all okI = ((zs.take k).all okI && okI (gt zs k)) := by
  rw [List.take_succ_eq_append_getElem h, List.all_append]; simp [h, gt]

theorem fault_bad (zs : List Int) (k : Nat) (h : k < zs.length) (h4 : zs.length = 4) (hb : okI (gt zs k) = false) : fault zs = 3 := by
  have : zs.all okI = false := by
    rw [List.all_eq_false]; exact ⟨zs[k], List.getElem_mem h, by simpa [h, gt] using hb⟩
  simp [fault, h4, this]

theorem fault_ok (zs : List Int) (h4 : zs.length = 4) (hb : zs.all okI = true) : fault zs = 0 := by simp [fault, h4, hb]

theorem bdrewN {B : Nat} {a w : World} (h : Below B a w) (n : Nat) : Below B a (w.drewN n) := h.trans ⟨rfl, rfl, rfl, Nat.le_refl _, fun _ _ => rfl⟩

theorem hide {p : Prop} (h : p) : Hid p := h

theorem ret_int {a b : Int} (h : a = b) : Ending.returned (.int .i64 a) = .returned (.int .i64 b) := by rw [h]

theorem ret_bool {a b : Bool} (h : a = b) : Ending.returned (.bool a) = .returned (.bool b) := by rw [h]

def szI (len : Nat) (left : Int) : Int := if left - len < 0 then -1 else left - len

theorem szI_neg {len : Nat} {left : Int} (h : left - len < 0) : szI len left = -1 := if_pos h

theorem szI_pos {len : Nat} {left : Int} (h : 0 ≤ left - len) : szI len left = left - len := if_neg (by omega)

def Blk (w : World) (b : Nat) (zs : List Int) : Prop :=
  b < w.heap.size ∧ (∀ i, i < zs.length → w.cell? ⟨b, i, none⟩ = some (.int .i64 (gt zs i))) ∧ ∀ i, w.frozen? ⟨b, i, none⟩ = false

theorem Blk.sl {w : World} {b : Nat} {zs : List Int} (h : Blk w b zs) : Sl w (some ⟨b, 0, none⟩) zs.length zs :=
  ⟨rfl, fun _ => ⟨b, 0, rfl, h.1, fun i hi => by simpa using h.2.1 i hi⟩⟩

theorem Blk.below {w w' : World} {b : Nat} {zs : List Int} (h : Blk w b zs) (hb : Below w.heap.size w w') : Blk w' b zs :=
  ⟨by have := hb.size; have := h.1; omega, fun i hi => (hb.cell (p := ⟨b, i, none⟩) h.1).trans (h.2.1 i hi), fun i => (hb.frozen (p := ⟨b, i, none⟩) h.1).trans (h.2.2 i)⟩

/-- a row under copy: the first k cells of block N hold zs; all n cells are there; none is frozen. -/
def Half (w : World) (N n k : Nat) (zs : List Int) : Prop :=
  w.heap.size = N + 1 ∧ (∀ j, j < k → w.cell? ⟨N, j, none⟩ = some (.int .i64 (gt zs j))) ∧ (∀ j, j < n → ∃ v, w.cell? ⟨N, j, none⟩ = some v) ∧ ∀ j, w.frozen? ⟨N, j, none⟩ = false

theorem Half.store {w : World} {N n k : Nat} {zs : List Int} (h : Half w N n k zs) (hk : k < n) : Half (w.setCell ⟨N, k, none⟩ (.int .i64 (gt zs k))) N n (k + 1) zs := by
  obtain ⟨h1, h2, h3, h4⟩ := h
  obtain ⟨v, hv⟩ := h3 k hk
  refine ⟨by simpa [World.setCell] using h1, fun j hj => ?_, fun j hj => ?_, fun j => by simpa using h4 j⟩
  · by_cases e : j = k
    · subst e; exact World.cell?_setCell_same _ _ _ hv
    · rw [World.cell?_setCell_other _ _ _ _ (fun h => e (by injection h with _ h2; exact h2.symm))]; exact h2 j (by omega)
  · exact cell?_setCell_some (h3 j hj).choose_spec

theorem Half.start (w : World) (n : Nat) (zs : List Int) (t : TypeId) : Half (w.alloc (.cells (madeCells #[.int .i64 0] n) t)) w.heap.size n 0 zs := by
  refine ⟨by simp, fun j hj => by omega, fun j hj => ?_, fun j => by simp⟩
  refine ⟨.int .i64 0, ?_⟩
  rw [World.cell?_alloc_new, ← Array.getElem?_toList, toList_madeCells_one, List.getElem?_replicate, if_pos hj]

theorem getD_ext {xs ys : List Int} (h : xs.length = ys.length) (h2 : ∀ i, i < xs.length → gt xs i = gt ys i) : xs = ys := by
  apply List.ext_getElem h
  intro i h3 h4
  have := h2 i h3
  simpa [gt, h3, h4] using this

theorem Blk.setCell {w : World} {b : Nat} {zs : List Int} (h : Blk w b zs) {p : Addr} (hp : p.block ≠ b) (v : Value) : Blk (w.setCell p v) b zs :=
  ⟨by simpa [World.setCell] using h.1, fun i hi => by rw [World.cell?_setCell_other _ _ _ _ (fun e => hp (by rw [e]))]; exact h.2.1 i hi, fun i => by simpa using h.2.2 i⟩

def has (zs : List Int) (x : Int) : Bool := zs.any (fun z => z == x)

theorem has_yes {zs : List Int} {x : Int} {k : Nat} (hk : k < zs.length) (h : gt zs k = x) : has zs x = true := by
  unfold has; rw [List.any_eq_true]; exact ⟨zs[k], List.getElem_mem hk, by simpa [gt, hk] using h⟩

theorem has_no {zs : List Int} {x : Int} (h : ∀ j, j < zs.length → gt zs j ≠ x) : has zs x = false := by
  unfold has; rw [List.any_eq_false]; intro z hz
  obtain ⟨j, hj, rfl⟩ := List.getElem_of_mem hz
  have := h j hj
  simpa [gt, hj] using this

theorem fault_len {zs : List Int} (h : fault zs = 0) : zs.length = 4 := by
  unfold fault at h; split at h
  · assumption
  · omega

theorem fault_all {zs : List Int} (h : fault zs = 0) : ∀ j, j < zs.length → 0 ≤ gt zs j ∧ gt zs j ≤ 5 := by
  unfold fault at h; split at h
  · split at h
    · rename_i _ ha
      intro j hj
      have := List.all_eq_true.1 ha zs[j] (List.getElem_mem hj)
      simp [okI] at this
      simpa [gt, hj] using this
    · omega
  · omega

def belowB (xs ys : List Int) : Bool := (List.range 4).all (fun j => decide (gt xs j ≤ gt ys j))

theorem belowB_no {xs ys : List Int} {k : Nat} (hk : k < 4) (h : gt ys k < gt xs k) : belowB xs ys = false := by
  unfold belowB; rw [List.all_eq_false]; exact ⟨k, List.mem_range.2 hk, by simp; omega⟩

theorem belowB_yes {xs ys : List Int} (h : ∀ j, j < 4 → gt xs j ≤ gt ys j) : belowB xs ys = true := by
  unfold belowB; rw [List.all_eq_true]; intro j hj; simp; exact h j (List.mem_range.1 hj)

def isBelowB (xs ys : List Int) : Bool := (fault xs == 0) && (fault ys == 0) && belowB xs ys

def both (xs ys : List Int) : Int := if fault xs = 0 then fault ys else fault xs

theorem both_ne {xs ys : List Int} (h : fault xs ≠ 0) : both xs ys = fault xs := if_neg h

theorem both_eq {xs ys : List Int} (h : fault xs = 0) : both xs ys = fault ys := if_pos h

def ints4 (zs : List Int) : Array Value := #[.int .i64 (gt zs 0), .int .i64 (gt zs 1), .int .i64 (gt zs 2), .int .i64 (gt zs 3)]

def mix (f : Int → Int → Int) (xs ys : List Int) : List Int := (List.range xs.length).map (fun j => f (gt xs j) (gt ys j))

theorem length_mix (f : Int → Int → Int) (xs ys : List Int) : (mix f xs ys).length = xs.length := by simp [mix]

theorem gt_mix (f : Int → Int → Int) (xs ys : List Int) (j : Nat) (h : j < xs.length) : gt (mix f xs ys) j = f (gt xs j) (gt ys j) := by simp [mix, gt, h]

def highI (z _y : Int) : Int := if z = 0 then 5 else z

def highL (zs : List Int) : List Int := mix highI zs zs

theorem length_highL (zs : List Int) : (highL zs).length = zs.length := length_mix _ _ _

theorem gt_highL (zs : List Int) (j : Nat) (h : j < zs.length) : gt (highL zs) j = if gt zs j = 0 then 5 else gt zs j := gt_mix _ _ _ j h

theorem owns_blk {w : World} {base : Nat} {e : TypeId} {v : Value} {n : Nat} {zs : List Int} (hn : 0 < n) (h : w.ownsRow base e 1 v n (zs.map (Value.int .i64))) :
    ∃ g cap, v = .slice (some ⟨g, 0, none⟩) n cap ∧ base ≤ g ∧ n ≤ cap ∧ zs.length = n ∧ Blk w g zs := by
  have hlen : zs.length = n := by simpa using h.1
  rcases h.2 with ⟨_, h0⟩ | ⟨g, cap, cur, rfl, hb, hg, hc, _, hs, ht⟩
  · omega
  · refine ⟨g, cap, rfl, hb, hc, hlen, ?_, fun i hi => ?_, fun i => by simp [World.frozen?, hg]⟩
    · exact (Array.getElem?_eq_some_iff.1 hg).1
    · have hcell := h.cells (g := g) rfl i (.int .i64 (gt zs i)) (by simp [gt, hi])
      have hadd : (Addr.mk g 0 none).add i = ⟨g, i, none⟩ := by cases i <;> simp [Addr.add]
      rwa [hadd] at hcell

theorem ints_one {zs : List Int} : ∀ u ∈ zs.map (Value.int .i64), u.oneCell' = true := by
  intro u hu; simp at hu; obtain ⟨z, _, rfl⟩ := hu; rfl

theorem ints_at_sl {w : World} {b off : Nat} {zs : List Int} (hc : ∀ i, i < zs.length → w.cell? ⟨b, off + i, none⟩ = some (.int .i64 (gt zs i))) :
    ∀ j u, (zs.map (Value.int .i64))[j]? = some u → w.cell? ((Addr.mk b off none).add j) = some u := by
  intro j u hj
  have hadd : (Addr.mk b off none).add j = ⟨b, off + j, none⟩ := by cases j <;> simp [Addr.add]
  rw [hadd]
  simp at hj
  obtain ⟨z, hz, rfl⟩ := hj
  have hl : j < zs.length := (List.getElem?_eq_some_iff.1 hz).1
  rw [hc j hl]
  simp [gt, hz]

def HRow (w : World) (g k : Nat) (zs : List Int) : Prop :=
  g < w.heap.size ∧ (∀ j, j < 4 → w.cell? ⟨g, j, none⟩ = some (.int .i64 (if j < k then (if gt zs j = 0 then 5 else gt zs j) else gt zs j))) ∧ ∀ j, w.frozen? ⟨g, j, none⟩ = false

theorem HRow.start {w : World} {g : Nat} {zs : List Int} (h : Blk w g zs) (h4 : zs.length = 4) : HRow w g 0 zs :=
  ⟨h.1, fun j hj => by rw [if_neg (by omega)]; exact h.2.1 j (by omega), h.2.2⟩

theorem HRow.keep {w : World} {g k : Nat} {zs : List Int} (h : HRow w g k zs) (hk : gt zs k ≠ 0) : HRow w g (k + 1) zs := by
  refine ⟨h.1, fun j hj => ?_, h.2.2⟩
  rw [h.2.1 j hj]
  by_cases e : j = k
  · subst e; simp [hk]
  · by_cases e2 : j < k
    · rw [if_pos e2, if_pos (by omega : j < k + 1)]
    · rw [if_neg e2, if_neg (by omega : ¬ j < k + 1)]

theorem HRow.set {w : World} {g k : Nat} {zs : List Int} (h : HRow w g k zs) (h4 : k < 4) (hk : gt zs k = 0) : HRow (w.setCell ⟨g, k, none⟩ (.int .i64 5)) g (k + 1) zs := by
  refine ⟨by simpa using h.1, fun j hj => ?_, fun j => by simpa using h.2.2 j⟩
  by_cases e : j = k
  · subst e; rw [World.cell?_setCell_same _ _ _ (h.2.1 j hj)]; simp [hk]
  · rw [World.cell?_setCell_other _ _ _ _ (fun h => e (by injection h with _ h2; exact h2.symm)), h.2.1 j hj]
    by_cases e2 : j < k
    · rw [if_pos e2, if_pos (by omega : j < k + 1)]
    · rw [if_neg e2, if_neg (by omega : ¬ j < k + 1)]

theorem HRow.done {w : World} {g : Nat} {zs : List Int} (h : HRow w g 4 zs) (h4 : zs.length = 4) : Blk w g (highL zs) := by
  refine ⟨h.1, fun j hj => ?_, h.2.2⟩
  rw [length_highL] at hj
  rw [h.2.1 j (by omega), if_pos (by omega), gt_highL zs j hj]

/-- an owned slice of n numbers: nil, or at the head of a block from B on, below T. -/
def OSl (w : World) (B T : Nat) (a : Option Addr) (n : Nat) (rs : List Int) : Prop :=
  rs.length = n ∧ n ≤ 1048576 ∧ ((a = none ∧ n = 0) ∨ ∃ b, a = some ⟨b, 0, none⟩ ∧ B ≤ b ∧ b < T ∧ Blk w b rs)

theorem OSl.sl {w : World} {B T : Nat} {a : Option Addr} {n : Nat} {rs : List Int} (h : OSl w B T a n rs) : Sl w a n rs := by
  obtain ⟨h1, _, h2⟩ := h
  refine ⟨h1, fun hp => ?_⟩
  rcases h2 with h2 | ⟨b, rfl, _, _, hb⟩
  · omega
  · obtain ⟨b1, o1, e, h3, h4⟩ := hb.sl.2 (by omega)
    exact ⟨b1, o1, e, h3, fun i hi => h4 i (by omega)⟩

theorem OSl.map {w w' : World} {B T : Nat} {a : Option Addr} {n : Nat} {rs : List Int} (h : OSl w B T a n rs) (f : ∀ b, B ≤ b → b < T → Blk w b rs → Blk w' b rs) : OSl w' B T a n rs := by
  obtain ⟨h1, h0, h2⟩ := h
  refine ⟨h1, h0, ?_⟩
  rcases h2 with h2 | ⟨b, rfl, h3, h5, h4⟩
  · exact .inl h2
  · exact .inr ⟨b, rfl, h3, h5, f b h3 h5 h4⟩

theorem OSl.below {w w' : World} {B T : Nat} {a : Option Addr} {n : Nat} {rs : List Int} (h : OSl w B T a n rs) (hb : Below w.heap.size w w') : OSl w' B T a n rs := h.map fun _ _ _ k => k.below hb

theorem OSl.mono {w : World} {B T B' T' : Nat} {a : Option Addr} {n : Nat} {rs : List Int} (h : OSl w B T a n rs) (hB : B' ≤ B) (hT : T ≤ T') : OSl w B' T' a n rs := by
  obtain ⟨h1, h0, h2⟩ := h
  refine ⟨h1, h0, ?_⟩
  rcases h2 with h2 | ⟨b, rfl, h3, h5, h4⟩
  · exact .inl h2
  · exact .inr ⟨b, rfl, by omega, by omega, h4⟩

theorem OSl.nil (w : World) (B T : Nat) : OSl w B T none 0 [] := ⟨rfl, by omega, .inl ⟨rfl, rfl⟩⟩

theorem OSl.ofBlk {w : World} {B b : Nat} {rs : List Int} {n : Nat} (h : Blk w b rs) (hB : B ≤ b) (hn : rs.length = n) (hl : n ≤ 1048576) : OSl w B w.heap.size (some ⟨b, 0, none⟩) n rs := ⟨hn, hl, .inr ⟨b, rfl, hB, h.1, h⟩⟩

/-- blocks outside B .. T-1 are as they were. -/
structure Outside (B T : Nat) (w w' : World) : Prop where
  os : w'.os = w.os
  tape : w'.tape = w.tape
  output : w'.output = w.output
  size : w.heap.size ≤ w'.heap.size
  block : ∀ k, k < w.heap.size → (k < B ∨ T ≤ k) → w'.heap[k]? = w.heap[k]?

theorem Outside.below {B T : Nat} {w w' : World} (h : Outside B T w w') {B0 : Nat} (h0 : B0 ≤ B) (hs : B0 ≤ w.heap.size) : Below B0 w w' :=
  ⟨h.os, h.tape, h.output, h.size, fun k hk => h.block k (by omega) (.inl (by omega))⟩

theorem Outside.blk {B T : Nat} {w w' : World} (h : Outside B T w w') {b : Nat} {rs : List Int} (hb : Blk w b rs) (hne : b < B ∨ T ≤ b) : Blk w' b rs := by
  have e := h.block b hb.1 hne
  exact ⟨by have := h.size; have := hb.1; omega, fun i hi => (World.cell?_of_block (a := ⟨b, i, none⟩) e).trans (hb.2.1 i hi), fun i => (World.frozen?_of_block (a := ⟨b, i, none⟩) e).trans (hb.2.2 i)⟩

theorem Outside.refl (B T : Nat) (w : World) : Outside B T w w := ⟨rfl, rfl, rfl, Nat.le_refl _, fun _ _ _ => rfl⟩

theorem Outside.trans {B T : Nat} {u v w : World} (h : Outside B T u v) (k : Outside B T v w) : Outside B T u w :=
  ⟨k.os.trans h.os, k.tape.trans h.tape, k.output.trans h.output, Nat.le_trans h.size k.size, fun i hi hn => (k.block i (Nat.lt_of_lt_of_le hi h.size) hn).trans (h.block i hi hn)⟩

theorem Outside.alloc (B T : Nat) (w : World) (o : Obj) : Outside B T w (w.alloc o) := ⟨rfl, rfl, rfl, by simp, fun _ hk _ => Below.heap_alloc _ _ _ hk⟩

theorem Outside.setCell {B T b i : Nat} {w u : World} (h : Outside B T w u) (h1 : B ≤ b) (h2 : b < T) (v : Value) : Outside B T w (u.setCell ⟨b, i, none⟩ v) :=
  h.trans ⟨rfl, rfl, rfl, by simp, fun _ _ hn => Below.heap_setCell _ _ _ _ (by simp; omega)⟩

/-- what is kept of a world: below w's size all is as in w; cells; owned slices. -/
structure Mem (w u : World) (cs : List (Nat × Nat × Value)) (ss : List (Nat × Nat × Option Addr × Nat × List Int)) : Prop where
  bel : Below w.heap.size w u
  cells : ∀ c ∈ cs, c.1 < u.heap.size ∧ u.cell? ⟨c.1, c.2.1, none⟩ = some c.2.2
  slices : ∀ s ∈ ss, OSl u s.1 s.2.1 s.2.2.1 s.2.2.2.1 s.2.2.2.2

theorem Mem.start (w : World) : Mem w w [] [] := ⟨Below.refl _ _, fun c hc => (by cases hc), fun s hs => (by cases hs)⟩

theorem Mem.below {w u u' : World} {cs : List (Nat × Nat × Value)} {ss : List (Nat × Nat × Option Addr × Nat × List Int)} (h : Mem w u cs ss) (hb : Below u.heap.size u u') : Mem w u' cs ss :=
  ⟨h.bel.trans (hb.mono h.bel.size), fun c hc => ⟨by have := (h.cells c hc).1; have := hb.size; omega, (hb.cell (p := ⟨c.1, c.2.1, none⟩) (h.cells c hc).1).trans (h.cells c hc).2⟩, fun s hs => (h.slices s hs).below hb⟩

theorem Mem.alloc1 {w u : World} {cs : List (Nat × Nat × Value)} {ss : List (Nat × Nat × Option Addr × Nat × List Int)} (h : Mem w u cs ss) (v : Value) (t : TypeId) : Mem w (u.alloc (.cells #[v] t)) ((u.heap.size, 0, v) :: cs) ss := by
  have k := h.below ((Below.refl _ _).alloc (Nat.le_refl _) (.cells #[v] t))
  refine ⟨k.bel, fun c hc => ?_, k.slices⟩
  rcases List.mem_cons.1 hc with rfl | hc
  · exact ⟨by simp, by simp⟩
  · exact k.cells c hc

theorem Mem.alloc2 {w u : World} {cs : List (Nat × Nat × Value)} {ss : List (Nat × Nat × Option Addr × Nat × List Int)} (h : Mem w u cs ss) (v v' : Value) (t : TypeId) : Mem w (u.alloc (.cells #[v, v'] t)) ((u.heap.size, 0, v) :: (u.heap.size, 1, v') :: cs) ss := by
  have k := h.below ((Below.refl _ _).alloc (Nat.le_refl _) (.cells #[v, v'] t))
  refine ⟨k.bel, fun c hc => ?_, k.slices⟩
  rcases List.mem_cons.1 hc with rfl | hc
  · exact ⟨by simp, by simp⟩
  · rcases List.mem_cons.1 hc with rfl | hc
    · exact ⟨by simp, by simp⟩
    · exact k.cells c hc

theorem Mem.slice {w u : World} {cs : List (Nat × Nat × Value)} {ss : List (Nat × Nat × Option Addr × Nat × List Int)} (h : Mem w u cs ss) {B T : Nat} {a : Option Addr} {n : Nat} {rs : List Int} (k : OSl u B T a n rs) : Mem w u cs ((B, T, a, n, rs) :: ss) :=
  ⟨h.bel, h.cells, fun s hs => by rcases List.mem_cons.1 hs with rfl | hs; exact k; exact h.slices s hs⟩

theorem Mem.sub {w u : World} {cs cs' : List (Nat × Nat × Value)} {ss ss' : List (Nat × Nat × Option Addr × Nat × List Int)} (h : Mem w u cs ss) (hc : ∀ c ∈ cs', c ∈ cs) (hs : ∀ s ∈ ss', s ∈ ss) : Mem w u cs' ss' :=
  ⟨h.bel, fun c k => h.cells c (hc c k), fun s k => h.slices s (hs s k)⟩

theorem Mem.cell {w u : World} {cs : List (Nat × Nat × Value)} {ss : List (Nat × Nat × Option Addr × Nat × List Int)} (h : Mem w u cs ss) (i : Nat) {b o : Nat} {v : Value} (hc : cs[i]? = some (b, o, v)) : u.cell? ⟨b, o, none⟩ = some v := (h.cells _ (List.mem_of_getElem? hc)).2

theorem Mem.lt {w u : World} {cs : List (Nat × Nat × Value)} {ss : List (Nat × Nat × Option Addr × Nat × List Int)} (h : Mem w u cs ss) (i : Nat) {b o : Nat} {v : Value} (hc : cs[i]? = some (b, o, v)) : b < u.heap.size := (h.cells _ (List.mem_of_getElem? hc)).1

theorem Mem.drew {w u : World} {cs : List (Nat × Nat × Value)} {ss : List (Nat × Nat × Option Addr × Nat × List Int)} (h : Mem w u cs ss) : Mem w u.drew cs ss := h.below (Below.refl _ _).drew

def resOf (c : Int) (l : List Int) : List Int := if c = 0 then l else []

theorem resOf_ok {c : Int} {l : List Int} (h : c = 0) : resOf c l = l := if_pos h

theorem resOf_no {c : Int} {l : List Int} (h : c ≠ 0) : resOf c l = [] := if_neg h

theorem list4 {zs : List Int} (h : zs.length = 4) : zs = [gt zs 0, gt zs 1, gt zs 2, gt zs 3] := by
  match zs, h with
  | [a, b, c, d], _ => rfl

/-- four cells of a block that hold numbers. -/
def ARow (w : World) (g : Nat) (f : Nat → Int) : Prop :=
  (∀ j, j < 4 → w.cell? ⟨g, j, none⟩ = some (.int .i64 (f j))) ∧ ∀ j, w.frozen? ⟨g, j, none⟩ = false

theorem ARow.set {w : World} {g k : Nat} {f f' : Nat → Int} {x : Int} (h : ARow w g f) (hk : k < 4) (e : ∀ j, j < 4 → (if j = k then x else f j) = f' j) : ARow (w.setCell ⟨g, k, none⟩ (.int .i64 x)) g f' := by
  refine ⟨fun j hj => ?_, fun j => by simpa using h.2 j⟩
  rw [← e j hj]
  by_cases hjk : j = k
  · subst hjk; rw [if_pos rfl, World.cell?_setCell_same _ _ _ (h.1 j hj)]
  · rw [if_neg hjk, World.cell?_setCell_other _ _ _ _ (fun h => hjk (by injection h with _ h2; exact h2.symm))]; exact h.1 j hj

theorem ARow.keep {w : World} {g : Nat} {f f' : Nat → Int} (h : ARow w g f) (e : ∀ j, j < 4 → f j = f' j) : ARow w g f' := ⟨fun j hj => by rw [← e j hj]; exact h.1 j hj, h.2⟩

/-- the first k of F, the others of f. -/
def upTo (F f : Nat → Int) (k j : Nat) : Int := if j < k then F j else f j

theorem upTo_set {F f : Nat → Int} {k : Nat} {x : Int} (hx : F k = x) : ∀ j, j < 4 → (if j = k then x else upTo F f k j) = upTo F f (k + 1) j := by
  intro j _
  unfold upTo
  by_cases e : j = k
  · subst e; rw [if_pos rfl, if_pos (by omega : j < j + 1)]; exact hx.symm
  · rw [if_neg e]
    by_cases e2 : j < k
    · rw [if_pos e2, if_pos (by omega : j < k + 1)]
    · rw [if_neg e2, if_neg (by omega : ¬ j < k + 1)]

theorem upTo_keep {F f : Nat → Int} {k : Nat} (hx : F k = f k) : ∀ j, j < 4 → upTo F f k j = upTo F f (k + 1) j := by
  intro j hj
  rw [← upTo_set (F := F) (f := f) (k := k) rfl j hj]
  by_cases e : j = k
  · subst e; rw [if_pos rfl]; unfold upTo; rw [if_neg (by omega : ¬ j < j), hx]
  · rw [if_neg e]

def hg (zs : List Int) (j : Nat) : Int := if gt zs j = 0 then 5 else gt zs j

theorem highL4 {zs : List Int} (h : zs.length = 4) : highL zs = [hg zs 0, hg zs 1, hg zs 2, hg zs 3] := by
  rw [list4 (zs := highL zs) (by rw [length_highL]; exact h), gt_highL zs 0 (by omega), gt_highL zs 1 (by omega), gt_highL zs 2 (by omega), gt_highL zs 3 (by omega)]
  rfl

/-- a slot: how often it is meant, and its label's levels. -/
def gc (ss : List (Int × List Int)) (i : Nat) : Int := (ss.getD i (0, [])).1

def gl (ss : List (Int × List Int)) (i : Nat) : List Int := (ss.getD i (0, [])).2

/-- a slice of slots (two cells each) that reads as ss. -/
def Sls (w : World) (a : Option Addr) (n : Nat) (ss : List (Int × List Int)) : Prop :=
  ss.length = n ∧ (0 < n → ∃ b off, a = some ⟨b, off, none⟩ ∧ b < w.heap.size ∧ ∀ i, i < n → w.cell? ⟨b, off + i * 2, none⟩ = some (.int .i64 (gc ss i)) ∧
    ∃ la ll lc, w.cell? ⟨b, off + i * 2 + 1, none⟩ = some (.slice la ll lc) ∧ ll ≤ maxLen ∧ Sl w la ll (gl ss i))

theorem Sls.below {w w' : World} {a : Option Addr} {n : Nat} {ss : List (Int × List Int)} (h : Sls w a n ss) {B : Nat} (hb : Below B w w') (hB : w.heap.size ≤ B) : Sls w' a n ss := by
  obtain ⟨h1, h2⟩ := h
  refine ⟨h1, fun hp => ?_⟩
  obtain ⟨b, off, h3, h4, h5⟩ := h2 hp
  refine ⟨b, off, h3, by have := hb.size; omega, fun i hi => ?_⟩
  obtain ⟨h6, la, ll, lc, h7, h8, h9⟩ := h5 i hi
  exact ⟨(hb.cell (p := ⟨b, off + i * 2, none⟩) (by show b < B; omega)).trans h6, la, ll, lc, (hb.cell (p := ⟨b, off + i * 2 + 1, none⟩) (by show b < B; omega)).trans h7, h8, h9.below hb hB⟩

def lenSum : List (Int × List Int) → Nat
  | [] => 0
  | s :: r => s.2.length + lenSum r

theorem lenSum_take (ss : List (Int × List Int)) (k : Nat) (h : k < ss.length) : lenSum (ss.take (k + 1)) = lenSum (ss.take k) + (gl ss k).length := by
  induction ss generalizing k with
  | nil => simp at h
  | cons s r ih =>
    cases k with
    | zero => simp [lenSum, gl]
    | succ k =>
      have := ih k (by simpa using h)
      simp only [List.take_succ_cons, lenSum] at this ⊢
      rw [this]
      simp [gl]
      omega

theorem lenSum_le (ss : List (Int × List Int)) (k : Nat) : lenSum (ss.take k) ≤ lenSum ss := by
  induction ss generalizing k with
  | nil => simp
  | cons s r ih =>
    cases k with
    | zero => simp [lenSum]
    | succ k => simp only [List.take_succ_cons, lenSum]; have := ih k; omega

theorem gl_le (ss : List (Int × List Int)) (k : Nat) (h : k < ss.length) : (gl ss k).length ≤ lenSum ss := by
  have h1 := lenSum_take ss k h
  have h2 := lenSum_le ss (k + 1)
  omega

/-- a row of n slots under copy: the first k hold ss, their labels in blocks of their own behind N. -/
def HalfS (w : World) (N n k : Nat) (ss : List (Int × List Int)) : Prop :=
  N < w.heap.size ∧ (∀ j, j < k → w.cell? ⟨N, j * 2, none⟩ = some (.int .i64 (gc ss j)) ∧ ∃ lb, w.cell? ⟨N, j * 2 + 1, none⟩ = some (.slice (some ⟨lb, 0, none⟩) (gl ss j).length (gl ss j).length) ∧ N < lb ∧ Blk w lb (gl ss j)) ∧
    (∀ j, j < n * 2 → ∃ v, w.cell? ⟨N, j, none⟩ = some v) ∧ ∀ j, w.frozen? ⟨N, j, none⟩ = false

theorem HalfS.below {w w' : World} {N n k : Nat} {ss : List (Int × List Int)} (h : HalfS w N n k ss) (hb : Below w.heap.size w w') : HalfS w' N n k ss := by
  obtain ⟨h1, h2, h3, h4⟩ := h
  refine ⟨by have := hb.size; omega, fun j hj => ?_, fun j hj => ?_, fun j => (hb.frozen (p := ⟨N, j, none⟩) h1).trans (h4 j)⟩
  · obtain ⟨a, lb, b, c, d⟩ := h2 j hj
    exact ⟨(hb.cell (p := ⟨N, j * 2, none⟩) h1).trans a, lb, (hb.cell (p := ⟨N, j * 2 + 1, none⟩) h1).trans b, c, d.below hb⟩
  · obtain ⟨v, hv⟩ := h3 j hj
    exact ⟨v, (hb.cell (p := ⟨N, j, none⟩) h1).trans hv⟩

theorem HalfS.store {w : World} {N n k lb : Nat} {ss : List (Int × List Int)} (h : HalfS w N n k ss) (hk : k < n) (hlb : N < lb) (hB : Blk w lb (gl ss k)) :
    HalfS ((w.setCell ⟨N, k * 2, none⟩ (.int .i64 (gc ss k))).setCell ⟨N, k * 2 + 1, none⟩ (.slice (some ⟨lb, 0, none⟩) (gl ss k).length (gl ss k).length)) N n (k + 1) ss := by
  obtain ⟨h1, h2, h3, h4⟩ := h
  obtain ⟨v0, hv0⟩ := h3 (k * 2) (by omega)
  obtain ⟨v1, hv1⟩ := h3 (k * 2 + 1) (by omega)
  have ne1 : ∀ i, i ≠ k * 2 → i ≠ k * 2 + 1 → ((w.setCell ⟨N, k * 2, none⟩ (.int .i64 (gc ss k))).setCell ⟨N, k * 2 + 1, none⟩ (.slice (some ⟨lb, 0, none⟩) (gl ss k).length (gl ss k).length)).cell? ⟨N, i, none⟩ = w.cell? ⟨N, i, none⟩ := fun i a b => by
    rw [World.cell?_setCell_other _ _ _ _ (fun e => b (by injection e with _ e2; exact e2.symm)), World.cell?_setCell_other _ _ _ _ (fun e => a (by injection e with _ e2; exact e2.symm))]
  have c0 : ((w.setCell ⟨N, k * 2, none⟩ (.int .i64 (gc ss k))).setCell ⟨N, k * 2 + 1, none⟩ (.slice (some ⟨lb, 0, none⟩) (gl ss k).length (gl ss k).length)).cell? ⟨N, k * 2, none⟩ = some (.int .i64 (gc ss k)) := by
    rw [World.cell?_setCell_other _ _ _ _ (fun e => by injection e with _ e2; omega)]
    exact World.cell?_setCell_same _ _ _ hv0
  have c1 : ((w.setCell ⟨N, k * 2, none⟩ (.int .i64 (gc ss k))).setCell ⟨N, k * 2 + 1, none⟩ (.slice (some ⟨lb, 0, none⟩) (gl ss k).length (gl ss k).length)).cell? ⟨N, k * 2 + 1, none⟩ = some (.slice (some ⟨lb, 0, none⟩) (gl ss k).length (gl ss k).length) :=
    World.cell?_setCell_same _ _ _ ((World.cell?_setCell_other _ _ _ _ (fun e => by injection e with _ e2; omega)).trans hv1)
  refine ⟨by simpa [World.setCell] using h1, fun j hj => ?_, fun j hj => cell?_setCell_some (cell?_setCell_some (h3 j hj).choose_spec).choose_spec, fun j => by simpa using h4 j⟩
  by_cases e : j = k
  · subst e
    exact ⟨c0, lb, c1, hlb, (hB.setCell (by show N ≠ lb; omega) _).setCell (by show N ≠ lb; omega) _⟩
  · obtain ⟨a, lb', b, c, d⟩ := h2 j (by omega)
    exact ⟨(ne1 _ (by omega) (by omega)).trans a, lb', (ne1 _ (by omega) (by omega)).trans b, c, (d.setCell (by show N ≠ lb'; omega) _).setCell (by show N ≠ lb'; omega) _⟩

theorem HalfS.start (w : World) (n : Nat) (ss : List (Int × List Int)) (t : TypeId) : HalfS (w.alloc (.cells (madeCells #[.int .i64 0, .slice none 0 0] (n * 2)) t)) w.heap.size n 0 ss := by
  refine ⟨by simp, fun j hj => by omega, fun j hj => ?_, fun j => by simp⟩
  have hs : j < (madeCells #[.int .i64 0, .slice none 0 0] (n * 2)).size := by rw [size_madeCells]; exact hj
  exact ⟨(madeCells #[.int .i64 0, .slice none 0 0] (n * 2))[j], by rw [World.cell?_alloc_new]; simp [hs]⟩

theorem HalfS.done {w : World} {N n : Nat} {ss : List (Int × List Int)} (h : HalfS w N n n ss) (hn : ss.length = n) (hm : lenSum ss ≤ 1048576) : Sls w (some ⟨N, 0, none⟩) n ss := by
  refine ⟨hn, fun _ => ⟨N, 0, rfl, h.1, fun i hi => ?_⟩⟩
  obtain ⟨a, lb, b, _, d⟩ := h.2.1 i hi
  have hl := gl_le ss i (by omega)
  exact ⟨by simpa using a, some ⟨lb, 0, none⟩, _, _, by simpa using b, by unfold maxLen; omega, d.sl⟩

theorem HalfS.setCell {w : World} {N n k : Nat} {ss : List (Int × List Int)} (h : HalfS w N n k ss) {p : Addr} (hp : p.block < N) (v : Value) : HalfS (w.setCell p v) N n k ss := by
  obtain ⟨h1, h2, h3, h4⟩ := h
  have ne : ∀ i, (w.setCell p v).cell? ⟨N, i, none⟩ = w.cell? ⟨N, i, none⟩ := fun i => World.cell?_setCell_other _ _ _ _ (fun e => by rw [e] at hp; exact Nat.lt_irrefl _ hp)
  refine ⟨by simpa [World.setCell] using h1, fun j hj => ?_, fun j hj => by rw [ne]; exact h3 j hj, fun j => by simpa using h4 j⟩
  obtain ⟨a, lb, b, c, d⟩ := h2 j hj
  exact ⟨(ne _).trans a, lb, (ne _).trans b, c, d.setCell (by omega) _⟩

/-- the first slot that is meant and has the label; -1: none. -/
def hit (ss : List (Int × List Int)) (zs : List Int) (i : Nat) : Bool := decide (0 < gc ss i) && decide (gl ss i = zs)

def at2 (ss : List (Int × List Int)) (zs : List Int) : Int :=
  match (List.range ss.length).find? (hit ss zs) with
  | some i => (i : Int)
  | none => -1

theorem find_first {p : Nat → Bool} {n k : Nat} (hk : k < n) (hno : ∀ j, j < k → p j = false) (hp : p k = true) : (List.range n).find? p = some k := by
  rw [List.find?_range_eq_some]
  exact ⟨hp, by simpa using hk, fun j hj => by simp [hno j hj]⟩

theorem at2_hit {ss : List (Int × List Int)} {zs : List Int} {k : Nat} (hk : k < ss.length) (hno : ∀ j, j < k → hit ss zs j = false) (hp : hit ss zs k = true) : at2 ss zs = (k : Int) := by
  unfold at2
  rw [find_first hk hno hp]

theorem at2_none {ss : List (Int × List Int)} {zs : List Int} (hno : ∀ j, j < ss.length → hit ss zs j = false) : at2 ss zs = -1 := by
  unfold at2
  have : (List.range ss.length).find? (hit ss zs) = none := by
    rw [List.find?_eq_none]
    intro j hj
    simp [hno j (List.mem_range.1 hj)]
  rw [this]

/-- what is wrong with slot i. -/
def slotF (ss : List (Int × List Int)) (i : Nat) : Int :=
  if (decide (0 ≤ gc ss i) && decide (gc ss i ≤ 99)) = false then 3
  else if gc ss i = 0 then (if 0 < (gl ss i).length then 1 else 0)
  else if fault (gl ss i) = 0 then (if at2 ss (gl ss i) = (i : Int) then 0 else 8)
  else fault (gl ss i)

def faultR (ss : List (Int × List Int)) : Int :=
  if 10 < ss.length then 2
  else match (List.range ss.length).find? (fun i => !(slotF ss i == 0)) with
    | some i => slotF ss i
    | none => 0

theorem faultR_many {ss : List (Int × List Int)} (h : 10 < ss.length) : faultR ss = 2 := if_pos h

theorem faultR_hit {ss : List (Int × List Int)} {k : Nat} (h : ss.length ≤ 10) (hk : k < ss.length) (hno : ∀ j, j < k → slotF ss j = 0) (hp : slotF ss k ≠ 0) : faultR ss = slotF ss k := by
  unfold faultR
  rw [if_neg (by omega), find_first hk (fun j hj => by simp [hno j hj]) (by simpa using hp)]

theorem faultR_ok {ss : List (Int × List Int)} (h : ss.length ≤ 10) (hno : ∀ j, j < ss.length → slotF ss j = 0) : faultR ss = 0 := by
  unfold faultR
  rw [if_neg (by omega)]
  have : (List.range ss.length).find? (fun i => !(slotF ss i == 0)) = none := by
    rw [List.find?_eq_none]
    intro j hj
    simp [hno j (List.mem_range.1 hj)]
  rw [this]

theorem slotF_range {ss : List (Int × List Int)} {i : Nat} (h : (decide (0 ≤ gc ss i) && decide (gc ss i ≤ 99)) = false) : slotF ss i = 3 := if_pos h

theorem slotF_form {ss : List (Int × List Int)} {i : Nat} (h0 : gc ss i = 0) (h : 0 < (gl ss i).length) : slotF ss i = 1 := by
  unfold slotF
  rw [if_neg (by rw [h0]; simp), if_pos h0, if_pos h]

theorem slotF_empty {ss : List (Int × List Int)} {i : Nat} (h0 : gc ss i = 0) (h : (gl ss i).length = 0) : slotF ss i = 0 := by
  unfold slotF
  rw [if_neg (by rw [h0]; simp), if_pos h0, if_neg (by omega)]

theorem slotF_label {ss : List (Int × List Int)} {i : Nat} (h : (decide (0 ≤ gc ss i) && decide (gc ss i ≤ 99)) = true) (h0 : gc ss i ≠ 0) (hf : fault (gl ss i) ≠ 0) : slotF ss i = fault (gl ss i) := by
  unfold slotF
  rw [if_neg (by rw [h]; simp), if_neg h0, if_neg hf]

theorem slotF_state {ss : List (Int × List Int)} {i : Nat} (h : (decide (0 ≤ gc ss i) && decide (gc ss i ≤ 99)) = true) (h0 : gc ss i ≠ 0) (hf : fault (gl ss i) = 0) (ha : at2 ss (gl ss i) ≠ (i : Int)) : slotF ss i = 8 := by
  unfold slotF
  rw [if_neg (by rw [h]; simp), if_neg h0, if_pos hf, if_neg ha]

theorem slotF_ok {ss : List (Int × List Int)} {i : Nat} (h : (decide (0 ≤ gc ss i) && decide (gc ss i ≤ 99)) = true) (h0 : gc ss i ≠ 0) (hf : fault (gl ss i) = 0) (ha : at2 ss (gl ss i) = (i : Int)) : slotF ss i = 0 := by
  unfold slotF
  rw [if_neg (by rw [h]; simp), if_neg h0, if_pos hf, if_pos ha]

/-- a property that hangs on the blocks of S alone. -/
def Loc (S : Nat → Prop) (P : World → Prop) : Prop := ∀ w w' : World, (∀ k, S k → k < w.heap.size → w'.heap[k]? = w.heap[k]?) → P w → P w'

def InR (B T k : Nat) : Prop := B ≤ k ∧ k < T

/-- blocks that are not of S are as they were. -/
structure OutS (S : Nat → Prop) (w w' : World) : Prop where
  os : w'.os = w.os
  tape : w'.tape = w.tape
  output : w'.output = w.output
  size : w.heap.size ≤ w'.heap.size
  block : ∀ k, k < w.heap.size → ¬ S k → w'.heap[k]? = w.heap[k]?

theorem OutS.refl (S : Nat → Prop) (w : World) : OutS S w w := ⟨rfl, rfl, rfl, Nat.le_refl _, fun _ _ _ => rfl⟩

theorem OutS.trans {S : Nat → Prop} {u v w : World} (h : OutS S u v) (k : OutS S v w) : OutS S u w :=
  ⟨k.os.trans h.os, k.tape.trans h.tape, k.output.trans h.output, Nat.le_trans h.size k.size, fun i hi hn => (k.block i (Nat.lt_of_lt_of_le hi h.size) hn).trans (h.block i hi hn)⟩

theorem OutS.mono {S S' : Nat → Prop} {w w' : World} (h : OutS S w w') (hs : ∀ k, S k → S' k) : OutS S' w w' := ⟨h.os, h.tape, h.output, h.size, fun k hk hn => h.block k hk (fun e => hn (hs k e))⟩

theorem OutS.of_below {S : Nat → Prop} {w w' : World} (h : Below w.heap.size w w') : OutS S w w' := ⟨h.os, h.tape, h.output, h.size, fun k hk _ => h.block k hk⟩

theorem OutS.setCell {S : Nat → Prop} {w u : World} (h : OutS S w u) {p : Addr} (hp : S p.block) (v : Value) : OutS S w (u.setCell p v) :=
  h.trans ⟨rfl, rfl, rfl, by simp, fun k _ hn => Below.heap_setCell _ _ _ _ (fun e => hn (e ▸ hp))⟩

theorem OutS.below {S : Nat → Prop} {w w' : World} (h : OutS S w w') {B : Nat} (hs : ∀ k, S k → B ≤ k) (hB : B ≤ w.heap.size) : Below B w w' :=
  ⟨h.os, h.tape, h.output, h.size, fun k hk => h.block k (by omega) (fun e => by have := hs k e; omega)⟩

theorem Loc.below {S : Nat → Prop} {P : World → Prop} (h : Loc S P) {w w' : World} (hb : Below w.heap.size w w') (p : P w) : P w' := h w w' (fun k _ hk => hb.block k hk) p

theorem Loc.out {S S' : Nat → Prop} {P : World → Prop} (h : Loc S P) {w w' : World} (hb : OutS S' w w') (hd : ∀ k, S k → ¬ S' k) (p : P w) : P w' := h w w' (fun k hk hl => hb.block k hl (hd k hk)) p

theorem Loc.mono {S S' : Nat → Prop} {P : World → Prop} (h : Loc S P) (hs : ∀ k, S k → S' k) : Loc S' P := fun w w' hk p => h w w' (fun k hS hl => hk k (hs k hS) hl) p

theorem Blk.loc {S : Nat → Prop} {b : Nat} {zs : List Int} (hb : S b) : Loc S (fun w => Blk w b zs) := fun w w' hk h => by
  have e := hk b hb h.1
  refine ⟨?_, fun i hi => (World.cell?_of_block (a := ⟨b, i, none⟩) e).trans (h.2.1 i hi), fun i => (World.frozen?_of_block (a := ⟨b, i, none⟩) e).trans (h.2.2 i)⟩
  obtain ⟨h1, _⟩ := h
  have : ∃ o, w.heap[b]? = some o := ⟨w.heap[b], Array.getElem?_eq_getElem h1⟩
  obtain ⟨o, ho⟩ := this
  rw [ho] at e
  exact (Array.getElem?_eq_some_iff.1 e).1

/-- an owned slice of numbers: nil, or a whole block of S. -/
def OS (S : Nat → Prop) (a : Option Addr) (n : Nat) (rs : List Int) (w : World) : Prop :=
  rs.length = n ∧ n ≤ 1048576 ∧ ((n = 0) ∨ ∃ b, a = some ⟨b, 0, none⟩ ∧ S b ∧ Blk w b rs)

theorem OS.loc {S : Nat → Prop} {a : Option Addr} {n : Nat} {rs : List Int} : Loc S (OS S a n rs) := fun w w' hk h => by
  obtain ⟨h1, h2, h3⟩ := h
  refine ⟨h1, h2, ?_⟩
  rcases h3 with h3 | ⟨b, e, hb, h3⟩
  · exact .inl h3
  · exact .inr ⟨b, e, hb, Blk.loc hb w w' hk h3⟩

theorem OS.sl {S : Nat → Prop} {a : Option Addr} {n : Nat} {rs : List Int} {w : World} (h : OS S a n rs w) : Sl w a n rs := by
  obtain ⟨h1, _, h2⟩ := h
  refine ⟨h1, fun hp => ?_⟩
  rcases h2 with h2 | ⟨b, rfl, _, hb⟩
  · omega
  · obtain ⟨b1, o1, e, h3, h4⟩ := hb.sl.2 (by omega)
    exact ⟨b1, o1, e, h3, fun i hi => h4 i (by omega)⟩

theorem OS.mono {S S' : Nat → Prop} {a : Option Addr} {n : Nat} {rs : List Int} {w : World} (h : OS S a n rs w) (hs : ∀ k, S k → S' k) : OS S' a n rs w := by
  obtain ⟨h1, h0, h2⟩ := h
  refine ⟨h1, h0, ?_⟩
  rcases h2 with h2 | ⟨b, e, h3, h4⟩
  · exact .inl h2
  · exact .inr ⟨b, e, hs b h3, h4⟩

theorem OS.ofBlk {S : Nat → Prop} {b : Nat} {rs : List Int} {n : Nat} {w : World} (h : Blk w b rs) (hb : S b) (hn : rs.length = n) (hl : n ≤ 1048576) : OS S (some ⟨b, 0, none⟩) n rs w := ⟨hn, hl, .inr ⟨b, rfl, hb, h⟩⟩

theorem OS.ofOSl {B T : Nat} {a : Option Addr} {n : Nat} {rs : List Int} {w : World} (h : OSl w B T a n rs) : OS (InR B T) a n rs w := by
  obtain ⟨h1, h0, h2⟩ := h
  refine ⟨h1, h0, ?_⟩
  rcases h2 with h2 | ⟨b, e, h3, h4, h5⟩
  · exact .inl h2.2
  · exact .inr ⟨b, e, ⟨h3, h4⟩, h5⟩

/-- an owned slice of slots: nil, or a whole block N of S, each label in a block of S of its own. -/
def OR (S : Nat → Prop) (a : Option Addr) (n : Nat) (ss : List (Int × List Int)) (w : World) : Prop :=
  ss.length = n ∧ n + lenSum ss ≤ 1048576 ∧ ((n = 0) ∨ ∃ (N : Nat) (la : Nat → Option Addr) (lc : Nat → Nat) (lb : Nat → Nat), a = some ⟨N, 0, none⟩ ∧ S N ∧ N < w.heap.size ∧ (∀ j, w.frozen? ⟨N, j, none⟩ = false) ∧
    (∀ i, i < n → w.cell? ⟨N, i * 2, none⟩ = some (.int .i64 (gc ss i)) ∧ w.cell? ⟨N, i * 2 + 1, none⟩ = some (.slice (la i) (gl ss i).length (lc i)) ∧ OS (fun k => k = lb i ∧ 0 < (gl ss i).length) (la i) (gl ss i).length (gl ss i) w ∧ (0 < (gl ss i).length → S (lb i) ∧ lb i ≠ N)) ∧
    ∀ i j, i < n → j < n → i ≠ j → 0 < (gl ss i).length → 0 < (gl ss j).length → lb i ≠ lb j)

theorem OR.loc {S : Nat → Prop} {a : Option Addr} {n : Nat} {ss : List (Int × List Int)} : Loc S (OR S a n ss) := fun w w' hk h => by
  obtain ⟨h1, h2, h3⟩ := h
  refine ⟨h1, h2, ?_⟩
  rcases h3 with h3 | ⟨N, la, lc, lb, e, hS, hN, hf, hc, hd⟩
  · exact .inl h3
  · have eN := hk N hS hN
    have hN' : N < w'.heap.size := by
      rw [Array.getElem?_eq_getElem hN] at eN
      exact (Array.getElem?_eq_some_iff.1 eN).1
    refine .inr ⟨N, la, lc, lb, e, hS, hN', fun j => (World.frozen?_of_block (a := ⟨N, j, none⟩) eN).trans (hf j), fun i hi => ?_, hd⟩
    obtain ⟨c0, c1, c2, c3⟩ := hc i hi
    exact ⟨(World.cell?_of_block (a := ⟨N, i * 2, none⟩) eN).trans c0, (World.cell?_of_block (a := ⟨N, i * 2 + 1, none⟩) eN).trans c1, OS.loc w w' (fun k e hl => hk k (e.1 ▸ (c3 e.2).1) hl) c2, c3⟩

theorem OR.sls {S : Nat → Prop} {a : Option Addr} {n : Nat} {ss : List (Int × List Int)} {w : World} (h : OR S a n ss w) : Sls w a n ss := by
  obtain ⟨h1, h2, h3⟩ := h
  refine ⟨h1, fun hp => ?_⟩
  rcases h3 with h3 | ⟨N, la, lc, lb, rfl, hS, hN, hf, hc, hd⟩
  · omega
  · refine ⟨N, 0, rfl, hN, fun i hi => ?_⟩
    obtain ⟨c0, c1, c2, _⟩ := hc i hi
    have hl := gl_le ss i (by omega)
    exact ⟨by simpa using c0, la i, _, _, by simpa using c1, by unfold maxLen; omega, c2.sl⟩

theorem OR.mono {S S' : Nat → Prop} {a : Option Addr} {n : Nat} {ss : List (Int × List Int)} {w : World} (h : OR S a n ss w) (hs : ∀ k, S k → S' k) : OR S' a n ss w := by
  obtain ⟨h1, h2, h3⟩ := h
  refine ⟨h1, h2, ?_⟩
  rcases h3 with h3 | ⟨N, la, lc, lb, e, hS, hN, hf, hc, hd⟩
  · exact .inl h3
  · exact .inr ⟨N, la, lc, lb, e, hs N hS, hN, hf, fun i hi => ⟨(hc i hi).1, (hc i hi).2.1, (hc i hi).2.2.1, fun h => ⟨hs _ ((hc i hi).2.2.2 h).1, ((hc i hi).2.2.2 h).2⟩⟩, hd⟩

/-- what is kept of a world: below w's size all is as in w; cells; facts, each over its blocks. -/
structure Mm (w u : World) (cs : List (Nat × Nat × Value)) (fs : List (Nat × Nat × (World → Prop))) : Prop where
  bel : Below w.heap.size w u
  cells : ∀ c ∈ cs, c.1 < u.heap.size ∧ u.cell? ⟨c.1, c.2.1, none⟩ = some c.2.2 ∧ u.frozen? ⟨c.1, c.2.1, none⟩ = false
  facts : ∀ f ∈ fs, Loc (InR f.1 f.2.1) f.2.2 ∧ f.2.2 u

theorem Mm.start (w : World) : Mm w w [] [] := ⟨Below.refl _ _, fun c hc => (by cases hc), fun s hs => (by cases hs)⟩

theorem Mm.below {w u u' : World} {cs : List (Nat × Nat × Value)} {fs : List (Nat × Nat × (World → Prop))} (h : Mm w u cs fs) (hb : Below u.heap.size u u') : Mm w u' cs fs :=
  ⟨h.bel.trans (hb.mono h.bel.size), fun c hc => ⟨by have := (h.cells c hc).1; have := hb.size; omega, (hb.cell (p := ⟨c.1, c.2.1, none⟩) (h.cells c hc).1).trans (h.cells c hc).2.1, (hb.frozen (p := ⟨c.1, c.2.1, none⟩) (h.cells c hc).1).trans (h.cells c hc).2.2⟩, fun f hf => ⟨(h.facts f hf).1, (h.facts f hf).1.below hb (h.facts f hf).2⟩⟩

theorem Mm.out {w u u' : World} {cs : List (Nat × Nat × Value)} {fs : List (Nat × Nat × (World → Prop))} (h : Mm w u cs fs) {B T : Nat} (ho : OutS (InR B T) u u') (hB : w.heap.size ≤ B)
    (hc : ∀ c ∈ cs, c.1 < B ∨ T ≤ c.1) (hs : ∀ s ∈ fs, s.2.1 ≤ B ∨ T ≤ s.1) : Mm w u' cs fs :=
  ⟨h.bel.trans (ho.below (fun k hk => by have := hk.1; omega) h.bel.size), fun c k => ⟨by have := (h.cells c k).1; have := ho.size; omega, (World.cell?_of_block (a := ⟨c.1, c.2.1, none⟩) (ho.block c.1 (h.cells c k).1 (fun e => by have := hc c k; have := e.1; have := e.2; omega))).trans (h.cells c k).2.1, (World.frozen?_of_block (a := ⟨c.1, c.2.1, none⟩) (ho.block c.1 (h.cells c k).1 (fun e => by have := hc c k; have := e.1; have := e.2; omega))).trans (h.cells c k).2.2⟩,
    fun s k => ⟨(h.facts s k).1, (h.facts s k).1.out ho (fun j hj e => by have := hs s k; have := hj.1; have := hj.2; have := e.1; have := e.2; omega) (h.facts s k).2⟩⟩

theorem Mm.cons {w u : World} {cs : List (Nat × Nat × Value)} {fs : List (Nat × Nat × (World → Prop))} (h : Mm w u cs fs) {b o : Nat} {v : Value} (hc : u.cell? ⟨b, o, none⟩ = some v) (hf : u.frozen? ⟨b, o, none⟩ = false) : Mm w u ((b, o, v) :: cs) fs :=
  ⟨h.bel, fun c k => by rcases List.mem_cons.1 k with rfl | k; exact ⟨World.block_lt_of_cell? _ _ hc, hc, hf⟩; exact h.cells c k, h.facts⟩

theorem Mm.fact {w u : World} {cs : List (Nat × Nat × Value)} {fs : List (Nat × Nat × (World → Prop))} (h : Mm w u cs fs) {B T : Nat} {P : World → Prop} (hl : Loc (InR B T) P) (hp : P u) : Mm w u cs ((B, T, P) :: fs) :=
  ⟨h.bel, h.cells, fun f k => by rcases List.mem_cons.1 k with rfl | k; exact ⟨hl, hp⟩; exact h.facts f k⟩

theorem Mm.sub {w u : World} {cs cs' : List (Nat × Nat × Value)} {fs fs' : List (Nat × Nat × (World → Prop))} (h : Mm w u cs fs) (hc : ∀ c ∈ cs', c ∈ cs) (hs : ∀ s ∈ fs', s ∈ fs) : Mm w u cs' fs' := ⟨h.bel, fun c k => h.cells c (hc c k), fun s k => h.facts s (hs s k)⟩

theorem Mm.cell {w u : World} {cs : List (Nat × Nat × Value)} {fs : List (Nat × Nat × (World → Prop))} (h : Mm w u cs fs) (i : Nat) {b o : Nat} {v : Value} (hc : cs[i]? = some (b, o, v)) : u.cell? ⟨b, o, none⟩ = some v := (h.cells _ (List.mem_of_getElem? hc)).2.1

theorem Mm.fz {w u : World} {cs : List (Nat × Nat × Value)} {fs : List (Nat × Nat × (World → Prop))} (h : Mm w u cs fs) (i : Nat) {b o : Nat} {v : Value} (hc : cs[i]? = some (b, o, v)) : u.frozen? ⟨b, o, none⟩ = false := (h.cells _ (List.mem_of_getElem? hc)).2.2

theorem Mm.lt {w u : World} {cs : List (Nat × Nat × Value)} {fs : List (Nat × Nat × (World → Prop))} (h : Mm w u cs fs) (i : Nat) {b o : Nat} {v : Value} (hc : cs[i]? = some (b, o, v)) : b < u.heap.size := (h.cells _ (List.mem_of_getElem? hc)).1

theorem Mm.get {w u : World} {cs : List (Nat × Nat × Value)} {fs : List (Nat × Nat × (World → Prop))} (h : Mm w u cs fs) (i : Nat) {B T : Nat} {P : World → Prop} (hs : fs[i]? = some (B, T, P)) : P u := (h.facts _ (List.mem_of_getElem? hs)).2

theorem Mm.drew {w u : World} {cs : List (Nat × Nat × Value)} {fs : List (Nat × Nat × (World → Prop))} (h : Mm w u cs fs) : Mm w u.drew cs fs := h.below (Below.refl _ _).drew

theorem Mm.alloc1 {w u : World} {cs : List (Nat × Nat × Value)} {fs : List (Nat × Nat × (World → Prop))} (h : Mm w u cs fs) (v : Value) (t : TypeId) : Mm w (u.alloc (.cells #[v] t)) ((u.heap.size, 0, v) :: cs) fs :=
  (h.below ((Below.refl _ _).alloc (Nat.le_refl _) (.cells #[v] t))).cons (by simp) (by simp)

theorem Mm.alloc2 {w u : World} {cs : List (Nat × Nat × Value)} {fs : List (Nat × Nat × (World → Prop))} (h : Mm w u cs fs) (v v' : Value) (t : TypeId) : Mm w (u.alloc (.cells #[v, v'] t)) ((u.heap.size, 0, v) :: (u.heap.size, 1, v') :: cs) fs :=
  ((h.below ((Below.refl _ _).alloc (Nat.le_refl _) (.cells #[v, v'] t))).cons (by simp) (by simp)).cons (by simp) (by simp)

theorem Mm.alloc3 {w u : World} {cs : List (Nat × Nat × Value)} {fs : List (Nat × Nat × (World → Prop))} (h : Mm w u cs fs) (v v' v'' : Value) (t : TypeId) : Mm w (u.alloc (.cells #[v, v', v''] t)) ((u.heap.size, 0, v) :: (u.heap.size, 1, v') :: (u.heap.size, 2, v'') :: cs) fs :=
  (((h.below ((Below.refl _ _).alloc (Nat.le_refl _) (.cells #[v, v', v''] t))).cons (by simp) (by simp)).cons (by simp) (by simp)).cons (by simp) (by simp)

theorem Mm.alloc4 {w u : World} {cs : List (Nat × Nat × Value)} {fs : List (Nat × Nat × (World → Prop))} (h : Mm w u cs fs) (v0 v1 v2 v3 : Value) (t : TypeId) : Mm w (u.alloc (.cells #[v0, v1, v2, v3] t)) ((u.heap.size, 0, v0) :: (u.heap.size, 1, v1) :: (u.heap.size, 2, v2) :: (u.heap.size, 3, v3) :: cs) fs :=
  ((((h.below ((Below.refl _ _).alloc (Nat.le_refl _) (.cells #[v0, v1, v2, v3] t))).cons (by simp) (by simp)).cons (by simp) (by simp)).cons (by simp) (by simp)).cons (by simp) (by simp)

theorem Loc.alloc {S : Nat → Prop} {P : World → Prop} (h : Loc S P) {w : World} (p : P w) (o : Obj) : P (w.alloc o) := h.below ((Below.refl _ _).alloc (Nat.le_refl _) o) p

theorem Loc.setC {S : Nat → Prop} {P : World → Prop} (h : Loc S P) {w : World} (p : P w) {q : Addr} (hq : ¬ S q.block) (v : Value) : P (w.setCell q v) := h w _ (fun _ hk _ => Below.heap_setCell _ _ _ _ (fun e => hq (e ▸ hk))) p

theorem Loc.belowA {S : Nat → Prop} {P : World → Prop} (h : Loc S P) {wa X wb : World} (p : P wa) (hb : Below X.heap.size X wb) (ha : Below wa.heap.size wa X) : P wb := h.below hb (h.below ha p)

theorem Loc.belowB {S : Nat → Prop} {P : World → Prop} (h : Loc S P) {wa X : World} (p : P wa) (ha : Below wa.heap.size wa X) : P X := h.below ha p

theorem bcellQ {X Y : World} (hb : Below X.heap.size X Y) : (∀ b o, b < X.heap.size → Y.cell? ⟨b, o, none⟩ = X.cell? ⟨b, o, none⟩) ∧ (∀ b o, b < X.heap.size → Y.frozen? ⟨b, o, none⟩ = X.frozen? ⟨b, o, none⟩) :=
  ⟨fun b o h => hb.cell (p := ⟨b, o, none⟩) h, fun b o h => hb.frozen (p := ⟨b, o, none⟩) h⟩

theorem mem_set_erase {α : Type} : ∀ (l : List α) (i : Nat) (x c : α), c ∈ l.set i x → c = x ∨ c ∈ l.eraseIdx i
  | [], _, _, _, h => by simp at h
  | y :: r, 0, x, c, h => by
    simp at h ⊢
    exact h
  | y :: r, i + 1, x, c, h => by
    simp only [List.set_cons_succ, List.mem_cons] at h
    simp only [List.eraseIdx_cons_succ, List.mem_cons]
    rcases h with h | h
    · exact .inr (.inl h)
    · rcases mem_set_erase r i x c h with h | h
      · exact .inl h
      · exact .inr (.inr h)

/-- a cell of the bundle is written. -/
theorem Mm.set {w u : World} {cs : List (Nat × Nat × Value)} {fs : List (Nat × Nat × (World → Prop))} (h : Mm w u cs fs) (i : Nat) {b o : Nat} {old : Value} (hc : cs[i]? = some (b, o, old)) (v : Value) (hb : w.heap.size ≤ b)
    (hd : ∀ c ∈ cs.eraseIdx i, c.1 ≠ b ∨ c.2.1 ≠ o) (hf : ∀ f ∈ fs, b < f.1 ∨ f.2.1 ≤ b) : Mm w (u.setCell ⟨b, o, none⟩ v) (cs.set i (b, o, v)) fs := by
  have h0 := h.cells _ (List.mem_of_getElem? hc)
  refine ⟨h.bel.setCell hb v, fun c k => ?_, fun f k => ⟨(h.facts f k).1, (h.facts f k).1.setC (h.facts f k).2 (fun e => by have := hf f k; have h1 := e.1; have h2 := e.2; simp only at h1 h2; omega) v⟩⟩
  rcases mem_set_erase cs i _ c k with rfl | k
  · exact ⟨by simpa using h0.1, World.cell?_setCell_same _ _ _ h0.2.1, by simpa using h0.2.2⟩
  · have h1 := h.cells c (List.mem_of_mem_eraseIdx k)
    refine ⟨by simpa using h1.1, ?_, by simpa using h1.2.2⟩
    rw [World.cell?_setCell_other _ _ _ _ (fun e => by injection e with e1 e2; rcases hd c k with h | h; exact h e1.symm; exact h e2.symm)]
    exact h1.2.1

theorem q3_bel {W X : World} {A0 A1 A2 : Addr} {v0 v1 v2 : Value} (h : X.cell? A0 = some v0 ∧ X.cell? A1 = some v1 ∧ X.cell? A2 = some v2 ∧ Below W.heap.size W X) : Below W.heap.size W X := h.2.2.2

theorem q4_bel {W X : World} {A0 A1 A2 A3 : Addr} {v0 v1 v2 v3 : Value} (h : X.cell? A0 = some v0 ∧ X.cell? A1 = some v1 ∧ X.cell? A2 = some v2 ∧ X.cell? A3 = some v3 ∧ Below W.heap.size W X) : Below W.heap.size W X := h.2.2.2.2

theorem q4_below {W X Y : World} {A0 A1 A2 A3 : Addr} {v0 v1 v2 v3 : Value} (h0 : A0.block < W.heap.size) (h1 : A1.block < W.heap.size) (h2 : A2.block < W.heap.size) (h3 : A3.block < W.heap.size) (h : X.cell? A0 = some v0 ∧ X.cell? A1 = some v1 ∧ X.cell? A2 = some v2 ∧ X.cell? A3 = some v3 ∧ Below W.heap.size W X) (g : Below X.heap.size X Y) : Y.cell? A0 = some v0 ∧ Y.cell? A1 = some v1 ∧ Y.cell? A2 = some v2 ∧ Y.cell? A3 = some v3 ∧ Below W.heap.size W Y := by
  have hz := (h.2.2.2.2).size
  exact ⟨(g.cell (by omega)).trans h.1, (g.cell (by omega)).trans h.2.1, (g.cell (by omega)).trans h.2.2.1, (g.cell (by omega)).trans h.2.2.2.1, (h.2.2.2.2).trans (g.mono hz)⟩

theorem q4_alloc {W X : World} {A0 A1 A2 A3 : Addr} {v0 v1 v2 v3 : Value} (h0 : A0.block < W.heap.size) (h1 : A1.block < W.heap.size) (h2 : A2.block < W.heap.size) (h3 : A3.block < W.heap.size) (h : X.cell? A0 = some v0 ∧ X.cell? A1 = some v1 ∧ X.cell? A2 = some v2 ∧ X.cell? A3 = some v3 ∧ Below W.heap.size W X) (o : Obj) : (X.alloc o).cell? A0 = some v0 ∧ (X.alloc o).cell? A1 = some v1 ∧ (X.alloc o).cell? A2 = some v2 ∧ (X.alloc o).cell? A3 = some v3 ∧ Below W.heap.size W (X.alloc o) := q4_below h0 h1 h2 h3 h ((Below.refl _ _).alloc (Nat.le_refl _) o)

theorem q4_allocd {W X : World} {A0 A1 A2 A3 : Addr} {v0 v1 v2 v3 : Value} (h0 : A0.block < W.heap.size) (h1 : A1.block < W.heap.size) (h2 : A2.block < W.heap.size) (h3 : A3.block < W.heap.size) (h : X.drew.cell? A0 = some v0 ∧ X.drew.cell? A1 = some v1 ∧ X.drew.cell? A2 = some v2 ∧ X.drew.cell? A3 = some v3 ∧ Below W.heap.size W X.drew) (o : Obj) : (X.alloc o).drew.cell? A0 = some v0 ∧ (X.alloc o).drew.cell? A1 = some v1 ∧ (X.alloc o).drew.cell? A2 = some v2 ∧ (X.alloc o).drew.cell? A3 = some v3 ∧ Below W.heap.size W (X.alloc o).drew := q4_alloc h0 h1 h2 h3 h o

theorem q4_set {W X : World} {A0 A1 A2 A3 : Addr} {v0 v1 v2 v3 : Value} (h0 : A0.block < W.heap.size) (h1 : A1.block < W.heap.size) (h2 : A2.block < W.heap.size) (h3 : A3.block < W.heap.size) (h : X.cell? A0 = some v0 ∧ X.cell? A1 = some v1 ∧ X.cell? A2 = some v2 ∧ X.cell? A3 = some v3 ∧ Below W.heap.size W X) {p : Addr} (hp : W.heap.size ≤ p.block) (y : Value) : (X.setCell p y).cell? A0 = some v0 ∧ (X.setCell p y).cell? A1 = some v1 ∧ (X.setCell p y).cell? A2 = some v2 ∧ (X.setCell p y).cell? A3 = some v3 ∧ Below W.heap.size W (X.setCell p y) :=
  ⟨(World.cell?_setCell_other _ _ _ _ (fun e => by rw [e] at hp; omega)).trans h.1, (World.cell?_setCell_other _ _ _ _ (fun e => by rw [e] at hp; omega)).trans h.2.1, (World.cell?_setCell_other _ _ _ _ (fun e => by rw [e] at hp; omega)).trans h.2.2.1, (World.cell?_setCell_other _ _ _ _ (fun e => by rw [e] at hp; omega)).trans h.2.2.2.1, (h.2.2.2.2).setCell hp y⟩

theorem set4_at0 (X : World) (P : Nat) (v0 v1 v2 v3 : Value) (h : ∃ u, X.cell? ⟨P, 0, none⟩ = some u) : ((((X.setCell ⟨P, 0, none⟩ v0).setCell ⟨P, 1, none⟩ v1).setCell ⟨P, 2, none⟩ v2).setCell ⟨P, 3, none⟩ v3).cell? ⟨P, 0, none⟩ = some v0 := by
  obtain ⟨u, h⟩ := h
  rw [World.cell?_setCell_other _ _ _ _ (fun e => by injection e with _ e2; omega)]
  rw [World.cell?_setCell_other _ _ _ _ (fun e => by injection e with _ e2; omega)]
  rw [World.cell?_setCell_other _ _ _ _ (fun e => by injection e with _ e2; omega)]
  exact World.cell?_setCell_same _ _ _ h

theorem set4_at1 (X : World) (P : Nat) (v0 v1 v2 v3 : Value) (h : ∃ u, X.cell? ⟨P, 1, none⟩ = some u) : ((((X.setCell ⟨P, 0, none⟩ v0).setCell ⟨P, 1, none⟩ v1).setCell ⟨P, 2, none⟩ v2).setCell ⟨P, 3, none⟩ v3).cell? ⟨P, 1, none⟩ = some v1 := by
  obtain ⟨u, h⟩ := h
  rw [World.cell?_setCell_other _ _ _ _ (fun e => by injection e with _ e2; omega)]
  rw [World.cell?_setCell_other _ _ _ _ (fun e => by injection e with _ e2; omega)]
  exact World.cell?_setCell_same _ _ _ ((World.cell?_setCell_other _ _ _ _ (fun e => by injection e with _ e2; omega)).trans h)

theorem set4_at2 (X : World) (P : Nat) (v0 v1 v2 v3 : Value) (h : ∃ u, X.cell? ⟨P, 2, none⟩ = some u) : ((((X.setCell ⟨P, 0, none⟩ v0).setCell ⟨P, 1, none⟩ v1).setCell ⟨P, 2, none⟩ v2).setCell ⟨P, 3, none⟩ v3).cell? ⟨P, 2, none⟩ = some v2 := by
  obtain ⟨u, h⟩ := h
  rw [World.cell?_setCell_other _ _ _ _ (fun e => by injection e with _ e2; omega)]
  exact World.cell?_setCell_same _ _ _ ((World.cell?_setCell_other _ _ _ _ (fun e => by injection e with _ e2; omega)).trans ((World.cell?_setCell_other _ _ _ _ (fun e => by injection e with _ e2; omega)).trans h))

theorem set4_at3 (X : World) (P : Nat) (v0 v1 v2 v3 : Value) (h : ∃ u, X.cell? ⟨P, 3, none⟩ = some u) : ((((X.setCell ⟨P, 0, none⟩ v0).setCell ⟨P, 1, none⟩ v1).setCell ⟨P, 2, none⟩ v2).setCell ⟨P, 3, none⟩ v3).cell? ⟨P, 3, none⟩ = some v3 := by
  obtain ⟨u, h⟩ := h
  exact World.cell?_setCell_same _ _ _ ((World.cell?_setCell_other _ _ _ _ (fun e => by injection e with _ e2; omega)).trans ((World.cell?_setCell_other _ _ _ _ (fun e => by injection e with _ e2; omega)).trans ((World.cell?_setCell_other _ _ _ _ (fun e => by injection e with _ e2; omega)).trans h)))

end Go.Proofs.YtgkjmeogdomgmaaGreat
