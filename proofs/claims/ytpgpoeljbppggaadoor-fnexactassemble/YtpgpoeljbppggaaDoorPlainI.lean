import Derived.WalkKit
import Derived.ProofKit
import Derived.OpenShut
import Derived.ShutString
import Derived.ChangeOld
import Derived.Below
import Derived.WalkSpells
import Derived.Deep.QuietTactic
import Derived.BigQuiet
import Derived.Deep.RegionWith
import Derived.Deep.WholeRow
import Derived.Deep.DeepCutAuto
import Derived.Deep.RegionHeld2
import Derived.Deep.AppendLies
import Derived.Deep.RegionLaw
namespace Go.Proofs.YtpgpoeljbppggaaDoor
open Go.ChangeShapes Go.WideShapes Go.ChangeAt Go.RowKit

def gt (zs : List Int) (i : Nat) : Int := zs.getD i 0

def Sl (w : World) (a : Option Addr) (len : Nat) (zs : List Int) : Prop :=
  zs.length = len ∧ (0 < len → ∃ b off, a = some ⟨b, off, none⟩ ∧ b < w.heap.size ∧ ∀ i, i < len → w.cell? ⟨b, off + i, none⟩ = some (.int .i64 (gt zs i)))

theorem Sl.below {w w' : World} {a : Option Addr} {len : Nat} {zs : List Int} (h : Sl w a len zs) {B : Nat} (hb : Below B w w') (hB : w.heap.size ≤ B) : Sl w' a len zs := by
  obtain ⟨h1, h2⟩ := h
  refine ⟨h1, fun hp => ?_⟩
  obtain ⟨b, off, h3, h4, h5⟩ := h2 hp
  exact ⟨b, off, h3, by have := hb.size; omega, fun i hi => (hb.cell (p := ⟨b, off + i, none⟩) (by show b < B; omega)).trans (h5 i hi)⟩

def okI (v : Int) : Bool := decide (0 ≤ v) && decide (v ≤ 5)

def fault (zs : List Int) : Int := if zs.length = 4 then (if zs.all okI then 0 else 3) else 2

theorem all_take_succ (zs : List Int) (k : Nat) (h : k < zs.length) : (zs.take (k + 1)).all okI = ((zs.take k).all okI && okI (gt zs k)) := by
  rw [List.take_succ_eq_append_getElem h, List.all_append]; simp [h, gt]

theorem fault_bad (zs : List Int) (k : Nat) (h : k < zs.length) (h4 : zs.length = 4) (hb : okI (gt zs k) = false) : fault zs = 3 := by
  have : zs.all okI = false := by
    rw [List.all_eq_false]; exact ⟨zs[k], List.getElem_mem h, by simpa [h, gt] using hb⟩
  simp [fault, h4, this]

theorem fault_ok (zs : List Int) (h4 : zs.length = 4) (hb : zs.all okI = true) : fault zs = 0 := by simp [fault, h4, hb]

theorem bdrewN {B : Nat} {a w : World} (h : Below B a w) (n : Nat) : Below B a (w.drewN n) := h.trans ⟨rfl, rfl, rfl, Nat.le_refl _, fun _ _ => rfl⟩

theorem hide {p : Prop} (h : p) : Hid p := h

theorem ret_int {a b : Int} (h : a = b) : Ending.returned (.int .i64 a) = .returned (.int .i64 b) := by rw [h]

theorem ret_bool {a b : Bool} (h : a = b) : Ending.returned (.bool a) = .returned (.bool b) := by rw [h]

def szI (len : Nat) (left : Int) : Int := if left - len < 0 then -1 else left - len

theorem szI_neg {len : Nat} {left : Int} (h : left - len < 0) : szI len left = -1 := if_pos h

theorem szI_pos {len : Nat} {left : Int} (h : 0 ≤ left - len) : szI len left = left - len := if_neg (by omega)

def Blk (w : World) (b : Nat) (zs : List Int) : Prop :=
  b < w.heap.size ∧ (∀ i, i < zs.length → w.cell? ⟨b, i, none⟩ = some (.int .i64 (gt zs i))) ∧ ∀ i, w.frozen? ⟨b, i, none⟩ = false

theorem Blk.sl {w : World} {b : Nat} {zs : List Int} (h : Blk w b zs) : Sl w (some ⟨b, 0, none⟩) zs.length zs :=
  ⟨rfl, fun _ => ⟨b, 0, rfl, h.1, fun i hi => by simpa using h.2.1 i hi⟩⟩

theorem Blk.below {w w' : World} {b : Nat} {zs : List Int} (h : Blk w b zs) (hb : Below w.heap.size w w') : Blk w' b zs :=
  ⟨by have := hb.size; have := h.1; omega, fun i hi => (hb.cell (p := ⟨b, i, none⟩) h.1).trans (h.2.1 i hi), fun i => (hb.frozen (p := ⟨b, i, none⟩) h.1).trans (h.2.2 i)⟩

/-- a row under copy: the first k cells of block N hold zs; all n cells are there; none is frozen. -/
def Half (w : World) (N n k : Nat) (zs : List Int) : Prop :=
  w.heap.size = N + 1 ∧ (∀ j, j < k → w.cell? ⟨N, j, none⟩ = some (.int .i64 (gt zs j))) ∧ (∀ j, j < n → ∃ v, w.cell? ⟨N, j, none⟩ = some v) ∧ ∀ j, w.frozen? ⟨N, j, none⟩ = false

theorem Half.store {w : World} {N n k : Nat} {zs : List Int} (h : Half w N n k zs) (hk : k < n) : Half (w.setCell ⟨N, k, none⟩ (.int .i64 (gt zs k))) N n (k + 1) zs := by
  obtain ⟨h1, h2, h3, h4⟩ := h
  obtain ⟨v, hv⟩ := h3 k hk
  refine ⟨by simpa [World.setCell] using h1, fun j hj => ?_, fun j hj => ?_, fun j => by simpa using h4 j⟩
  · by_cases e : j = k
    · subst e; exact World.cell?_setCell_same _ _ _ hv
    · rw [World.cell?_setCell_other _ _ _ _ (fun h => e (by injection h with _ h2; exact h2.symm))]; exact h2 j (by omega)
  · exact cell?_setCell_some (h3 j hj).choose_spec

theorem Half.start (w : World) (n : Nat) (zs : List Int) (t : TypeId) : Half (w.alloc (.cells (madeCells #[.int .i64 0] n) t)) w.heap.size n 0 zs := by
  refine ⟨by simp, fun j hj => by omega, fun j hj => ?_, fun j => by simp⟩
  refine ⟨.int .i64 0, ?_⟩
  rw [World.cell?_alloc_new, ← Array.getElem?_toList, toList_madeCells_one, List.getElem?_replicate, if_pos hj]

theorem getD_ext {xs ys : List Int} (h : xs.length = ys.length) (h2 : ∀ i, i < xs.length → gt xs i = gt ys i) : xs = ys := by
  apply List.ext_getElem h
  intro i h3 h4
  have := h2 i h3
  simpa [gt, h3, h4] using this

theorem Blk.setCell {w : World} {b : Nat} {zs : List Int} (h : Blk w b zs) {p : Addr} (hp : p.block ≠ b) (v : Value) : Blk (w.setCell p v) b zs :=
  ⟨by simpa [World.setCell] using h.1, fun i hi => by rw [World.cell?_setCell_other _ _ _ _ (fun e => hp (by rw [e]))]; exact h.2.1 i hi, fun i => by simpa using h.2.2 i⟩

theorem open_lab {H : Type} {enc : TypeId × Value → H} {P : Program} {w : World} {t e : TypeId} {f0 : Field} {v : Value} {d : DataW H} {p : List MemPlace} {r : Reach} {b0 : Nat}
    (hs : P.underlying t = some (.struct #[f0])) (h0 : f0.offset = 0) (h1 : P.cellsOf f0.type = 1) (hC : P.cellsOf t = 1) (hsl : P.underlying f0.type = some (.slice e)) (he : P.underlying e = some (.int .i64)) (hce : P.cellsOf e = 1)
    (hv : Value.okWide P w r b0 t v) (h : DataW.Trod enc P w 0 (fun _ => true) true t v d p) :
    ∃ a len cap zs, v = .agg #[.slice a len cap] ∧ len ≤ maxLen ∧ Sl w a len zs := by
  obtain ⟨cs, rfl, hsz⟩ := okWide_struct hs hv
  obtain ⟨fuel, hf⟩ := h
  obtain ⟨y0, n, _, _, hy⟩ := trod_struct1 hs hf
  obtain ⟨c, rfl⟩ : ∃ c, cs = #[c] := by
    have : cs.size = 1 := hsz.trans hC
    exact Array.size_eq_one_iff.1 this
  rw [h0, h1] at hy
  rcases open_ints hsl he hce hy with ⟨hcs, _⟩ | ⟨x, l, c', zs, hcs, _, hl, hm, hz, _, hcell, _⟩
  · simp [Value.cells] at hcs
    subst hcs
    exact ⟨none, 0, 0, [], rfl, Nat.zero_le _, rfl, fun h => by omega⟩
  · simp [Value.cells] at hcs
    subst hcs
    simp at hz
    refine ⟨some x, l, c', zs.take l, rfl, by omega, by simp; omega, fun hp => ?_⟩
    obtain ⟨b, off, spot⟩ := x
    have hc0 := hcell 0 (by omega)
    have hspot : spot = none := by simpa [Addr.add] using World.cell?_spot hc0
    subst hspot
    refine ⟨b, off, rfl, World.block_lt_of_cell? _ _ hc0, fun i hi => ?_⟩
    have hadd : (Addr.mk b off none).add i = ⟨b, off + i, none⟩ := by cases i <;> simp [Addr.add]
    have := hcell i (by omega)
    rw [hadd] at this
    rw [this]
    simp [gt, List.getD, hi]

def has (zs : List Int) (x : Int) : Bool := zs.any (fun z => z == x)

theorem has_yes {zs : List Int} {x : Int} {k : Nat} (hk : k < zs.length) (h : gt zs k = x) : has zs x = true := by
  unfold has; rw [List.any_eq_true]; exact ⟨zs[k], List.getElem_mem hk, by simpa [gt, hk] using h⟩

theorem has_no {zs : List Int} {x : Int} (h : ∀ j, j < zs.length → gt zs j ≠ x) : has zs x = false := by
  unfold has; rw [List.any_eq_false]; intro z hz
  obtain ⟨j, hj, rfl⟩ := List.getElem_of_mem hz
  have := h j hj
  simpa [gt, hj] using this

theorem fault_len {zs : List Int} (h : fault zs = 0) : zs.length = 4 := by
  unfold fault at h; split at h
  · assumption
  · omega

theorem fault_all {zs : List Int} (h : fault zs = 0) : ∀ j, j < zs.length → 0 ≤ gt zs j ∧ gt zs j ≤ 5 := by
  unfold fault at h; split at h
  · split at h
    · rename_i _ ha
      intro j hj
      have := List.all_eq_true.1 ha zs[j] (List.getElem_mem hj)
      simp [okI] at this
      simpa [gt, hj] using this
    · omega
  · omega

def ownsB (zs : List Int) : Bool := (fault zs == 0) && has zs 0

def belowB (xs ys : List Int) : Bool := (List.range 4).all (fun j => decide (gt xs j ≤ gt ys j))

theorem belowB_no {xs ys : List Int} {k : Nat} (hk : k < 4) (h : gt ys k < gt xs k) : belowB xs ys = false := by
  unfold belowB; rw [List.all_eq_false]; exact ⟨k, List.mem_range.2 hk, by simp; omega⟩

theorem belowB_yes {xs ys : List Int} (h : ∀ j, j < 4 → gt xs j ≤ gt ys j) : belowB xs ys = true := by
  unfold belowB; rw [List.all_eq_true]; intro j hj; simp; exact h j (List.mem_range.1 hj)

def isBelowB (xs ys : List Int) : Bool := (fault xs == 0) && (fault ys == 0) && belowB xs ys

def both (xs ys : List Int) : Int := if fault xs = 0 then fault ys else fault xs

theorem both_ne {xs ys : List Int} (h : fault xs ≠ 0) : both xs ys = fault xs := if_neg h

theorem both_eq {xs ys : List Int} (h : fault xs = 0) : both xs ys = fault ys := if_pos h

def ints4 (zs : List Int) : Array Value := #[.int .i64 (gt zs 0), .int .i64 (gt zs 1), .int .i64 (gt zs 2), .int .i64 (gt zs 3)]

def mix (f : Int → Int → Int) (xs ys : List Int) : List Int := (List.range xs.length).map (fun j => f (gt xs j) (gt ys j))

theorem length_mix (f : Int → Int → Int) (xs ys : List Int) : (mix f xs ys).length = xs.length := by simp [mix]

theorem gt_mix (f : Int → Int → Int) (xs ys : List Int) (j : Nat) (h : j < xs.length) : gt (mix f xs ys) j = f (gt xs j) (gt ys j) := by simp [mix, gt, h]

def highI (z _y : Int) : Int := if z = 0 then 5 else z

def highL (zs : List Int) : List Int := mix highI zs zs

theorem length_highL (zs : List Int) : (highL zs).length = zs.length := length_mix _ _ _

theorem gt_highL (zs : List Int) (j : Nat) (h : j < zs.length) : gt (highL zs) j = if gt zs j = 0 then 5 else gt zs j := gt_mix _ _ _ j h

theorem owns_blk {w : World} {base : Nat} {e : TypeId} {v : Value} {n : Nat} {zs : List Int} (hn : 0 < n) (h : w.ownsRow base e 1 v n (zs.map (Value.int .i64))) :
    ∃ g cap, v = .slice (some ⟨g, 0, none⟩) n cap ∧ base ≤ g ∧ n ≤ cap ∧ zs.length = n ∧ Blk w g zs := by
  have hlen : zs.length = n := by simpa using h.1
  rcases h.2 with ⟨_, h0⟩ | ⟨g, cap, cur, rfl, hb, hg, hc, _, hs, ht⟩
  · omega
  · refine ⟨g, cap, rfl, hb, hc, hlen, ?_, fun i hi => ?_, fun i => by simp [World.frozen?, hg]⟩
    · exact (Array.getElem?_eq_some_iff.1 hg).1
    · have hcell := h.cells (g := g) rfl i (.int .i64 (gt zs i)) (by simp [gt, hi])
      have hadd : (Addr.mk g 0 none).add i = ⟨g, i, none⟩ := by cases i <;> simp [Addr.add]
      rwa [hadd] at hcell

theorem ints_one {zs : List Int} : ∀ u ∈ zs.map (Value.int .i64), u.oneCell' = true := by
  intro u hu; simp at hu; obtain ⟨z, _, rfl⟩ := hu; rfl

theorem ints_at_sl {w : World} {b off : Nat} {zs : List Int} (hc : ∀ i, i < zs.length → w.cell? ⟨b, off + i, none⟩ = some (.int .i64 (gt zs i))) :
    ∀ j u, (zs.map (Value.int .i64))[j]? = some u → w.cell? ((Addr.mk b off none).add j) = some u := by
  intro j u hj
  have hadd : (Addr.mk b off none).add j = ⟨b, off + j, none⟩ := by cases j <;> simp [Addr.add]
  rw [hadd]
  simp at hj
  obtain ⟨z, hz, rfl⟩ := hj
  have hl : j < zs.length := (List.getElem?_eq_some_iff.1 hz).1
  rw [hc j hl]
  simp [gt, hz]

def HRow (w : World) (g k : Nat) (zs : List Int) : Prop :=
  g < w.heap.size ∧ (∀ j, j < 4 → w.cell? ⟨g, j, none⟩ = some (.int .i64 (if j < k then (if gt zs j = 0 then 5 else gt zs j) else gt zs j))) ∧ ∀ j, w.frozen? ⟨g, j, none⟩ = false

theorem HRow.start {w : World} {g : Nat} {zs : List Int} (h : Blk w g zs) (h4 : zs.length = 4) : HRow w g 0 zs :=
  ⟨h.1, fun j hj => by rw [if_neg (by omega)]; exact h.2.1 j (by omega), h.2.2⟩

theorem HRow.keep {w : World} {g k : Nat} {zs : List Int} (h : HRow w g k zs) (hk : gt zs k ≠ 0) : HRow w g (k + 1) zs := by
  refine ⟨h.1, fun j hj => ?_, h.2.2⟩
  rw [h.2.1 j hj]
  by_cases e : j = k
  · subst e; simp [hk]
  · by_cases e2 : j < k
    · rw [if_pos e2, if_pos (by omega : j < k + 1)]
    · rw [if_neg e2, if_neg (by omega : ¬ j < k + 1)]

theorem HRow.set {w : World} {g k : Nat} {zs : List Int} (h : HRow w g k zs) (h4 : k < 4) (hk : gt zs k = 0) : HRow (w.setCell ⟨g, k, none⟩ (.int .i64 5)) g (k + 1) zs := by
  refine ⟨by simpa using h.1, fun j hj => ?_, fun j => by simpa using h.2.2 j⟩
  by_cases e : j = k
  · subst e; rw [World.cell?_setCell_same _ _ _ (h.2.1 j hj)]; simp [hk]
  · rw [World.cell?_setCell_other _ _ _ _ (fun h => e (by injection h with _ h2; exact h2.symm)), h.2.1 j hj]
    by_cases e2 : j < k
    · rw [if_pos e2, if_pos (by omega : j < k + 1)]
    · rw [if_neg e2, if_neg (by omega : ¬ j < k + 1)]

theorem HRow.done {w : World} {g : Nat} {zs : List Int} (h : HRow w g 4 zs) (h4 : zs.length = 4) : Blk w g (highL zs) := by
  refine ⟨h.1, fun j hj => ?_, h.2.2⟩
  rw [length_highL] at hj
  rw [h.2.1 j (by omega), if_pos (by omega), gt_highL zs j hj]

/-- an owned slice of n numbers: nil, or at the head of a block from B on, below T. -/
def OSl (w : World) (B T : Nat) (a : Option Addr) (n : Nat) (rs : List Int) : Prop :=
  rs.length = n ∧ n ≤ 1048576 ∧ ((a = none ∧ n = 0) ∨ ∃ b, a = some ⟨b, 0, none⟩ ∧ B ≤ b ∧ b < T ∧ Blk w b rs)

theorem OSl.sl {w : World} {B T : Nat} {a : Option Addr} {n : Nat} {rs : List Int} (h : OSl w B T a n rs) : Sl w a n rs := by
  obtain ⟨h1, _, h2⟩ := h
  refine ⟨h1, fun hp => ?_⟩
  rcases h2 with h2 | ⟨b, rfl, _, _, hb⟩
  · omega
  · obtain ⟨b1, o1, e, h3, h4⟩ := hb.sl.2 (by omega)
    exact ⟨b1, o1, e, h3, fun i hi => h4 i (by omega)⟩

theorem OSl.map {w w' : World} {B T : Nat} {a : Option Addr} {n : Nat} {rs : List Int} (h : OSl w B T a n rs) (f : ∀ b, B ≤ b → b < T → Blk w b rs → Blk w' b rs) : OSl w' B T a n rs := by
  obtain ⟨h1, h0, h2⟩ := h
  refine ⟨h1, h0, ?_⟩
  rcases h2 with h2 | ⟨b, rfl, h3, h5, h4⟩
  · exact .inl h2
  · exact .inr ⟨b, rfl, h3, h5, f b h3 h5 h4⟩

theorem OSl.below {w w' : World} {B T : Nat} {a : Option Addr} {n : Nat} {rs : List Int} (h : OSl w B T a n rs) (hb : Below w.heap.size w w') : OSl w' B T a n rs := h.map fun _ _ _ k => k.below hb

theorem OSl.mono {w : World} {B T B' T' : Nat} {a : Option Addr} {n : Nat} {rs : List Int} (h : OSl w B T a n rs) (hB : B' ≤ B) (hT : T ≤ T') : OSl w B' T' a n rs := by
  obtain ⟨h1, h0, h2⟩ := h
  refine ⟨h1, h0, ?_⟩
  rcases h2 with h2 | ⟨b, rfl, h3, h5, h4⟩
  · exact .inl h2
  · exact .inr ⟨b, rfl, by omega, by omega, h4⟩

theorem OSl.nil (w : World) (B T : Nat) : OSl w B T none 0 [] := ⟨rfl, by omega, .inl ⟨rfl, rfl⟩⟩

theorem OSl.ofBlk {w : World} {B b : Nat} {rs : List Int} {n : Nat} (h : Blk w b rs) (hB : B ≤ b) (hn : rs.length = n) (hl : n ≤ 1048576) : OSl w B w.heap.size (some ⟨b, 0, none⟩) n rs := ⟨hn, hl, .inr ⟨b, rfl, hB, h.1, h⟩⟩

/-- blocks outside B .. T-1 are as they were. -/
structure Outside (B T : Nat) (w w' : World) : Prop where
  os : w'.os = w.os
  tape : w'.tape = w.tape
  output : w'.output = w.output
  size : w.heap.size ≤ w'.heap.size
  block : ∀ k, k < w.heap.size → (k < B ∨ T ≤ k) → w'.heap[k]? = w.heap[k]?

theorem Outside.below {B T : Nat} {w w' : World} (h : Outside B T w w') {B0 : Nat} (h0 : B0 ≤ B) (hs : B0 ≤ w.heap.size) : Below B0 w w' :=
  ⟨h.os, h.tape, h.output, h.size, fun k hk => h.block k (by omega) (.inl (by omega))⟩

theorem Outside.blk {B T : Nat} {w w' : World} (h : Outside B T w w') {b : Nat} {rs : List Int} (hb : Blk w b rs) (hne : b < B ∨ T ≤ b) : Blk w' b rs := by
  have e := h.block b hb.1 hne
  exact ⟨by have := h.size; have := hb.1; omega, fun i hi => (World.cell?_of_block (a := ⟨b, i, none⟩) e).trans (hb.2.1 i hi), fun i => (World.frozen?_of_block (a := ⟨b, i, none⟩) e).trans (hb.2.2 i)⟩

theorem Outside.refl (B T : Nat) (w : World) : Outside B T w w := ⟨rfl, rfl, rfl, Nat.le_refl _, fun _ _ _ => rfl⟩

theorem Outside.trans {B T : Nat} {u v w : World} (h : Outside B T u v) (k : Outside B T v w) : Outside B T u w :=
  ⟨k.os.trans h.os, k.tape.trans h.tape, k.output.trans h.output, Nat.le_trans h.size k.size, fun i hi hn => (k.block i (Nat.lt_of_lt_of_le hi h.size) hn).trans (h.block i hi hn)⟩

theorem Outside.alloc (B T : Nat) (w : World) (o : Obj) : Outside B T w (w.alloc o) := ⟨rfl, rfl, rfl, by simp, fun _ hk _ => Below.heap_alloc _ _ _ hk⟩

theorem Outside.setCell {B T b i : Nat} {w u : World} (h : Outside B T w u) (h1 : B ≤ b) (h2 : b < T) (v : Value) : Outside B T w (u.setCell ⟨b, i, none⟩ v) :=
  h.trans ⟨rfl, rfl, rfl, by simp, fun _ _ hn => Below.heap_setCell _ _ _ _ (by simp; omega)⟩

/-- what is kept of a world: below w's size all is as in w; cells; owned slices. -/
structure Mem (w u : World) (cs : List (Nat × Nat × Value)) (ss : List (Nat × Nat × Option Addr × Nat × List Int)) : Prop where
  bel : Below w.heap.size w u
  cells : ∀ c ∈ cs, c.1 < u.heap.size ∧ u.cell? ⟨c.1, c.2.1, none⟩ = some c.2.2
  slices : ∀ s ∈ ss, OSl u s.1 s.2.1 s.2.2.1 s.2.2.2.1 s.2.2.2.2

theorem Mem.start (w : World) : Mem w w [] [] := ⟨Below.refl _ _, fun c hc => (by cases hc), fun s hs => (by cases hs)⟩

theorem Mem.below {w u u' : World} {cs : List (Nat × Nat × Value)} {ss : List (Nat × Nat × Option Addr × Nat × List Int)} (h : Mem w u cs ss) (hb : Below u.heap.size u u') : Mem w u' cs ss :=
  ⟨h.bel.trans (hb.mono h.bel.size), fun c hc => ⟨by have := (h.cells c hc).1; have := hb.size; omega, (hb.cell (p := ⟨c.1, c.2.1, none⟩) (h.cells c hc).1).trans (h.cells c hc).2⟩, fun s hs => (h.slices s hs).below hb⟩

theorem Mem.outside {w u u' : World} {cs : List (Nat × Nat × Value)} {ss : List (Nat × Nat × Option Addr × Nat × List Int)} (h : Mem w u cs ss) {B T : Nat} (ho : Outside B T u u') (hB : w.heap.size ≤ B)
    (hc : ∀ c ∈ cs, c.1 < B ∨ T ≤ c.1) (hs : ∀ s ∈ ss, s.2.1 ≤ B ∨ T ≤ s.1) : Mem w u' cs ss :=
  ⟨h.bel.trans (ho.below hB h.bel.size), fun c k => ⟨by have := (h.cells c k).1; have := ho.size; omega, (World.cell?_of_block (a := ⟨c.1, c.2.1, none⟩) (ho.block c.1 (h.cells c k).1 (hc c k))).trans (h.cells c k).2⟩,
    fun s k => (h.slices s k).map fun b h1 h2 hb => ho.blk hb (by have := hs s k; omega)⟩

theorem Mem.alloc1 {w u : World} {cs : List (Nat × Nat × Value)} {ss : List (Nat × Nat × Option Addr × Nat × List Int)} (h : Mem w u cs ss) (v : Value) (t : TypeId) : Mem w (u.alloc (.cells #[v] t)) ((u.heap.size, 0, v) :: cs) ss := by
  have k := h.below ((Below.refl _ _).alloc (Nat.le_refl _) (.cells #[v] t))
  refine ⟨k.bel, fun c hc => ?_, k.slices⟩
  rcases List.mem_cons.1 hc with rfl | hc
  · exact ⟨by simp, by simp⟩
  · exact k.cells c hc

theorem Mem.alloc2 {w u : World} {cs : List (Nat × Nat × Value)} {ss : List (Nat × Nat × Option Addr × Nat × List Int)} (h : Mem w u cs ss) (v v' : Value) (t : TypeId) : Mem w (u.alloc (.cells #[v, v'] t)) ((u.heap.size, 0, v) :: (u.heap.size, 1, v') :: cs) ss := by
  have k := h.below ((Below.refl _ _).alloc (Nat.le_refl _) (.cells #[v, v'] t))
  refine ⟨k.bel, fun c hc => ?_, k.slices⟩
  rcases List.mem_cons.1 hc with rfl | hc
  · exact ⟨by simp, by simp⟩
  · rcases List.mem_cons.1 hc with rfl | hc
    · exact ⟨by simp, by simp⟩
    · exact k.cells c hc

theorem Mem.slice {w u : World} {cs : List (Nat × Nat × Value)} {ss : List (Nat × Nat × Option Addr × Nat × List Int)} (h : Mem w u cs ss) {B T : Nat} {a : Option Addr} {n : Nat} {rs : List Int} (k : OSl u B T a n rs) : Mem w u cs ((B, T, a, n, rs) :: ss) :=
  ⟨h.bel, h.cells, fun s hs => by rcases List.mem_cons.1 hs with rfl | hs; exact k; exact h.slices s hs⟩

theorem Mem.sub {w u : World} {cs cs' : List (Nat × Nat × Value)} {ss ss' : List (Nat × Nat × Option Addr × Nat × List Int)} (h : Mem w u cs ss) (hc : ∀ c ∈ cs', c ∈ cs) (hs : ∀ s ∈ ss', s ∈ ss) : Mem w u cs' ss' :=
  ⟨h.bel, fun c k => h.cells c (hc c k), fun s k => h.slices s (hs s k)⟩

theorem Mem.cell {w u : World} {cs : List (Nat × Nat × Value)} {ss : List (Nat × Nat × Option Addr × Nat × List Int)} (h : Mem w u cs ss) (i : Nat) {b o : Nat} {v : Value} (hc : cs[i]? = some (b, o, v)) : u.cell? ⟨b, o, none⟩ = some v := (h.cells _ (List.mem_of_getElem? hc)).2

theorem Mem.lt {w u : World} {cs : List (Nat × Nat × Value)} {ss : List (Nat × Nat × Option Addr × Nat × List Int)} (h : Mem w u cs ss) (i : Nat) {b o : Nat} {v : Value} (hc : cs[i]? = some (b, o, v)) : b < u.heap.size := (h.cells _ (List.mem_of_getElem? hc)).1

theorem Mem.osl {w u : World} {cs : List (Nat × Nat × Value)} {ss : List (Nat × Nat × Option Addr × Nat × List Int)} (h : Mem w u cs ss) (i : Nat) {B T : Nat} {a : Option Addr} {n : Nat} {rs : List Int} (hs : ss[i]? = some (B, T, a, n, rs)) : OSl u B T a n rs := h.slices _ (List.mem_of_getElem? hs)

theorem Mem.drew {w u : World} {cs : List (Nat × Nat × Value)} {ss : List (Nat × Nat × Option Addr × Nat × List Int)} (h : Mem w u cs ss) : Mem w u.drew cs ss := h.below (Below.refl _ _).drew

def resOf (c : Int) (l : List Int) : List Int := if c = 0 then l else []

theorem resOf_ok {c : Int} {l : List Int} (h : c = 0) : resOf c l = l := if_pos h

theorem resOf_no {c : Int} {l : List Int} (h : c ≠ 0) : resOf c l = [] := if_neg h

theorem gt_ints (x0 x1 x2 x3 : Int) : gt [x0, x1, x2, x3] 0 = x0 ∧ gt [x0, x1, x2, x3] 1 = x1 ∧ gt [x0, x1, x2, x3] 2 = x2 ∧ gt [x0, x1, x2, x3] 3 = x3 := ⟨rfl, rfl, rfl, rfl⟩

theorem list4 {zs : List Int} (h : zs.length = 4) : zs = [gt zs 0, gt zs 1, gt zs 2, gt zs 3] := by
  match zs, h with
  | [a, b, c, d], _ => rfl

/-- four cells of a block that hold numbers. -/
def ARow (w : World) (g : Nat) (f : Nat → Int) : Prop :=
  (∀ j, j < 4 → w.cell? ⟨g, j, none⟩ = some (.int .i64 (f j))) ∧ ∀ j, w.frozen? ⟨g, j, none⟩ = false

theorem ARow.set {w : World} {g k : Nat} {f f' : Nat → Int} {x : Int} (h : ARow w g f) (hk : k < 4) (e : ∀ j, j < 4 → (if j = k then x else f j) = f' j) : ARow (w.setCell ⟨g, k, none⟩ (.int .i64 x)) g f' := by
  refine ⟨fun j hj => ?_, fun j => by simpa using h.2 j⟩
  rw [← e j hj]
  by_cases hjk : j = k
  · subst hjk; rw [if_pos rfl, World.cell?_setCell_same _ _ _ (h.1 j hj)]
  · rw [if_neg hjk, World.cell?_setCell_other _ _ _ _ (fun h => hjk (by injection h with _ h2; exact h2.symm))]; exact h.1 j hj

theorem ARow.keep {w : World} {g : Nat} {f f' : Nat → Int} (h : ARow w g f) (e : ∀ j, j < 4 → f j = f' j) : ARow w g f' := ⟨fun j hj => by rw [← e j hj]; exact h.1 j hj, h.2⟩

/-- the first k of F, the others of f. -/
def upTo (F f : Nat → Int) (k j : Nat) : Int := if j < k then F j else f j

theorem upTo_set {F f : Nat → Int} {k : Nat} {x : Int} (hx : F k = x) : ∀ j, j < 4 → (if j = k then x else upTo F f k j) = upTo F f (k + 1) j := by
  intro j _
  unfold upTo
  by_cases e : j = k
  · subst e; rw [if_pos rfl, if_pos (by omega : j < j + 1)]; exact hx.symm
  · rw [if_neg e]
    by_cases e2 : j < k
    · rw [if_pos e2, if_pos (by omega : j < k + 1)]
    · rw [if_neg e2, if_neg (by omega : ¬ j < k + 1)]

theorem upTo_keep {F f : Nat → Int} {k : Nat} (hx : F k = f k) : ∀ j, j < 4 → upTo F f k j = upTo F f (k + 1) j := by
  intro j hj
  rw [← upTo_set (F := F) (f := f) (k := k) rfl j hj]
  by_cases e : j = k
  · subst e; rw [if_pos rfl]; unfold upTo; rw [if_neg (by omega : ¬ j < j), hx]
  · rw [if_neg e]

def hg (zs : List Int) (j : Nat) : Int := if gt zs j = 0 then 5 else gt zs j

theorem highL4 {zs : List Int} (h : zs.length = 4) : highL zs = [hg zs 0, hg zs 1, hg zs 2, hg zs 3] := by
  rw [list4 (zs := highL zs) (by rw [length_highL]; exact h), gt_highL zs 0 (by omega), gt_highL zs 1 (by omega), gt_highL zs 2 (by omega), gt_highL zs 3 (by omega)]
  rfl

/-- a slot: how often it is meant, and its label's levels. -/
def gc (ss : List (Int × List Int)) (i : Nat) : Int := (ss.getD i (0, [])).1

def gl (ss : List (Int × List Int)) (i : Nat) : List Int := (ss.getD i (0, [])).2

/-- a slice of slots (two cells each) that reads as ss. -/
def Sls (w : World) (a : Option Addr) (n : Nat) (ss : List (Int × List Int)) : Prop :=
  ss.length = n ∧ (0 < n → ∃ b off, a = some ⟨b, off, none⟩ ∧ b < w.heap.size ∧ ∀ i, i < n → w.cell? ⟨b, off + i * 2, none⟩ = some (.int .i64 (gc ss i)) ∧
    ∃ la ll lc, w.cell? ⟨b, off + i * 2 + 1, none⟩ = some (.slice la ll lc) ∧ ll ≤ maxLen ∧ Sl w la ll (gl ss i))

theorem Sls.below {w w' : World} {a : Option Addr} {n : Nat} {ss : List (Int × List Int)} (h : Sls w a n ss) {B : Nat} (hb : Below B w w') (hB : w.heap.size ≤ B) : Sls w' a n ss := by
  obtain ⟨h1, h2⟩ := h
  refine ⟨h1, fun hp => ?_⟩
  obtain ⟨b, off, h3, h4, h5⟩ := h2 hp
  refine ⟨b, off, h3, by have := hb.size; omega, fun i hi => ?_⟩
  obtain ⟨h6, la, ll, lc, h7, h8, h9⟩ := h5 i hi
  exact ⟨(hb.cell (p := ⟨b, off + i * 2, none⟩) (by show b < B; omega)).trans h6, la, ll, lc, (hb.cell (p := ⟨b, off + i * 2 + 1, none⟩) (by show b < B; omega)).trans h7, h8, h9.below hb hB⟩

def lenSum : List (Int × List Int) → Nat
  | [] => 0
  | s :: r => s.2.length + lenSum r

theorem lenSum_take (ss : List (Int × List Int)) (k : Nat) (h : k < ss.length) : lenSum (ss.take (k + 1)) = lenSum (ss.take k) + (gl ss k).length := by
  induction ss generalizing k with
  | nil => simp at h
  | cons s r ih =>
    cases k with
    | zero => simp [lenSum, gl]
    | succ k =>
      have := ih k (by simpa using h)
      simp only [List.take_succ_cons, lenSum] at this ⊢
      rw [this]
      simp [gl]
      omega

theorem lenSum_le (ss : List (Int × List Int)) (k : Nat) : lenSum (ss.take k) ≤ lenSum ss := by
  induction ss generalizing k with
  | nil => simp
  | cons s r ih =>
    cases k with
    | zero => simp [lenSum]
    | succ k => simp only [List.take_succ_cons, lenSum]; have := ih k; omega

theorem gl_le (ss : List (Int × List Int)) (k : Nat) (h : k < ss.length) : (gl ss k).length ≤ lenSum ss := by
  have h1 := lenSum_take ss k h
  have h2 := lenSum_le ss (k + 1)
  omega

end Go.Proofs.YtpgpoeljbppggaaDoor
