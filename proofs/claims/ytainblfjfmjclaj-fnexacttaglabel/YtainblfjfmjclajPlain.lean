import Derived.WalkKit
import Derived.ProofKit
import Derived.OpenShut
import Derived.ShutString
import Derived.ChangeOld
import Derived.Below
import Derived.WalkSpells
import Derived.Deep.QuietTactic
import Derived.BigQuiet
import Derived.Deep.RegionWith
import Derived.Deep.WholeRow
import Derived.Deep.DeepCutAuto
import Derived.Deep.RegionHeld2
import Derived.Deep.AppendLies
import Derived.Deep.RegionLaw
namespace Go.Proofs.Ytainblfjfmjclaj
open Go.ChangeShapes Go.WideShapes Go.ChangeAt Go.RowKit

def gt (zs : List Int) (i : Nat) : Int := zs.getD i 0

def Sl (w : World) (a : Option Addr) (len : Nat) (zs : List Int) : Prop :=
  zs.length = len ∧ (0 < len → ∃ b off, a = some ⟨b, off, none⟩ ∧ b < w.heap.size ∧ ∀ i, i < len → w.cell? ⟨b, off + i, none⟩ = some (.int .i64 (gt zs i)))

theorem Sl.below {w w' : World} {a : Option Addr} {len : Nat} {zs : List Int} (h : Sl w a len zs) {B : Nat} (hb : Below B w w') (hB : w.heap.size ≤ B) : Sl w' a len zs := by
  obtain ⟨h1, h2⟩ := h
  refine ⟨h1, fun hp => ?_⟩
  obtain ⟨b, off, h3, h4, h5⟩ := h2 hp
  exact ⟨b, off, h3, by have := hb.size; omega, fun i hi => (hb.cell (p := ⟨b, off + i, none⟩) (by show b < B; omega)).trans (h5 i hi)⟩

def okI (v : Int) : Bool := decide (0 ≤ v) && decide (v ≤ 5)

def fault (zs : List Int) : Int := if zs.length = 4 then (if zs.all okI then 0 else 3) else 2

theorem all_take_succ (zs : List Int) (k : Nat) (h : k < zs.length) : (zs.take (k + 1)).all okI = ((zs.take k).all okI && okI (gt zs k)) := by
  rw [List.take_succ_eq_append_getElem h, List.all_append]; simp [h, gt]

theorem fault_bad (zs : List Int) (k : Nat) (h : k < zs.length) (h4 : zs.length = 4) (hb : okI (gt zs k) = false) : fault zs = 3 := by
  have : zs.all okI = false := by
    rw [List.all_eq_false]; exact ⟨zs[k], List.getElem_mem h, by simpa [h, gt] using hb⟩
  simp [fault, h4, this]

theorem fault_ok (zs : List Int) (h4 : zs.length = 4) (hb : zs.all okI = true) : fault zs = 0 := by simp [fault, h4, hb]

theorem bdrewN {B : Nat} {a w : World} (h : Below B a w) (n : Nat) : Below B a (w.drewN n) := h.trans ⟨rfl, rfl, rfl, Nat.le_refl _, fun _ _ => rfl⟩

theorem hide {p : Prop} (h : p) : Hid p := h

theorem ret_int {a b : Int} (h : a = b) : Ending.returned (.int .i64 a) = .returned (.int .i64 b) := by rw [h]

theorem ret_bool {a b : Bool} (h : a = b) : Ending.returned (.bool a) = .returned (.bool b) := by rw [h]

def szI (len : Nat) (left : Int) : Int := if left - len < 0 then -1 else left - len

theorem szI_neg {len : Nat} {left : Int} (h : left - len < 0) : szI len left = -1 := if_pos h

theorem szI_pos {len : Nat} {left : Int} (h : 0 ≤ left - len) : szI len left = left - len := if_neg (by omega)

def Blk (w : World) (b : Nat) (zs : List Int) : Prop :=
  b < w.heap.size ∧ (∀ i, i < zs.length → w.cell? ⟨b, i, none⟩ = some (.int .i64 (gt zs i))) ∧ ∀ i, w.frozen? ⟨b, i, none⟩ = false

theorem Blk.sl {w : World} {b : Nat} {zs : List Int} (h : Blk w b zs) : Sl w (some ⟨b, 0, none⟩) zs.length zs :=
  ⟨rfl, fun _ => ⟨b, 0, rfl, h.1, fun i hi => by simpa using h.2.1 i hi⟩⟩

theorem Blk.below {w w' : World} {b : Nat} {zs : List Int} (h : Blk w b zs) (hb : Below w.heap.size w w') : Blk w' b zs :=
  ⟨by have := hb.size; have := h.1; omega, fun i hi => (hb.cell (p := ⟨b, i, none⟩) h.1).trans (h.2.1 i hi), fun i => (hb.frozen (p := ⟨b, i, none⟩) h.1).trans (h.2.2 i)⟩

/-- a row under copy: the first k cells of block N hold zs; all n cells are there; none is frozen. -/
def Half (w : World) (N n k : Nat) (zs : List Int) : Prop :=
  w.heap.size = N + 1 ∧ (∀ j, j < k → w.cell? ⟨N, j, none⟩ = some (.int .i64 (gt zs j))) ∧ (∀ j, j < n → ∃ v, w.cell? ⟨N, j, none⟩ = some v) ∧ ∀ j, w.frozen? ⟨N, j, none⟩ = false

theorem Half.store {w : World} {N n k : Nat} {zs : List Int} (h : Half w N n k zs) (hk : k < n) : Half (w.setCell ⟨N, k, none⟩ (.int .i64 (gt zs k))) N n (k + 1) zs := by
  obtain ⟨h1, h2, h3, h4⟩ := h
  obtain ⟨v, hv⟩ := h3 k hk
  refine ⟨by simpa [World.setCell] using h1, fun j hj => ?_, fun j hj => ?_, fun j => by simpa using h4 j⟩
  · by_cases e : j = k
    · subst e; exact World.cell?_setCell_same _ _ _ hv
    · rw [World.cell?_setCell_other _ _ _ _ (fun h => e (by injection h with _ h2; exact h2.symm))]; exact h2 j (by omega)
  · exact cell?_setCell_some (h3 j hj).choose_spec

theorem Half.start (w : World) (n : Nat) (zs : List Int) (t : TypeId) : Half (w.alloc (.cells (madeCells #[.int .i64 0] n) t)) w.heap.size n 0 zs := by
  refine ⟨by simp, fun j hj => by omega, fun j hj => ?_, fun j => by simp⟩
  refine ⟨.int .i64 0, ?_⟩
  rw [World.cell?_alloc_new, ← Array.getElem?_toList, toList_madeCells_one, List.getElem?_replicate, if_pos hj]

theorem getD_ext {xs ys : List Int} (h : xs.length = ys.length) (h2 : ∀ i, i < xs.length → gt xs i = gt ys i) : xs = ys := by
  apply List.ext_getElem h
  intro i h3 h4
  have := h2 i h3
  simpa [gt, h3, h4] using this

theorem Blk.setCell {w : World} {b : Nat} {zs : List Int} (h : Blk w b zs) {p : Addr} (hp : p.block ≠ b) (v : Value) : Blk (w.setCell p v) b zs :=
  ⟨by simpa [World.setCell] using h.1, fun i hi => by rw [World.cell?_setCell_other _ _ _ _ (fun e => hp (by rw [e]))]; exact h.2.1 i hi, fun i => by simpa using h.2.2 i⟩

theorem open_lab {H : Type} {enc : TypeId × Value → H} {P : Program} {w : World} {t e : TypeId} {f0 : Field} {v : Value} {d : DataW H} {p : List MemPlace} {r : Reach} {b0 : Nat}
    (hs : P.underlying t = some (.struct #[f0])) (h0 : f0.offset = 0) (h1 : P.cellsOf f0.type = 1) (hC : P.cellsOf t = 1) (hsl : P.underlying f0.type = some (.slice e)) (he : P.underlying e = some (.int .i64)) (hce : P.cellsOf e = 1)
    (hv : Value.okWide P w r b0 t v) (h : DataW.Trod enc P w 0 (fun _ => true) true t v d p) :
    ∃ a len cap zs, v = .agg #[.slice a len cap] ∧ len ≤ maxLen ∧ Sl w a len zs := by
  obtain ⟨cs, rfl, hsz⟩ := okWide_struct hs hv
  obtain ⟨fuel, hf⟩ := h
  obtain ⟨y0, n, _, _, hy⟩ := trod_struct1 hs hf
  obtain ⟨c, rfl⟩ : ∃ c, cs = #[c] := by
    have : cs.size = 1 := hsz.trans hC
    exact Array.size_eq_one_iff.1 this
  rw [h0, h1] at hy
  rcases open_ints hsl he hce hy with ⟨hcs, _⟩ | ⟨x, l, c', zs, hcs, _, hl, hm, hz, _, hcell, _⟩
  · simp [Value.cells] at hcs
    subst hcs
    exact ⟨none, 0, 0, [], rfl, Nat.zero_le _, rfl, fun h => by omega⟩
  · simp [Value.cells] at hcs
    subst hcs
    simp at hz
    refine ⟨some x, l, c', zs.take l, rfl, by omega, by simp; omega, fun hp => ?_⟩
    obtain ⟨b, off, spot⟩ := x
    have hc0 := hcell 0 (by omega)
    have hspot : spot = none := by simpa [Addr.add] using World.cell?_spot hc0
    subst hspot
    refine ⟨b, off, rfl, World.block_lt_of_cell? _ _ hc0, fun i hi => ?_⟩
    have hadd : (Addr.mk b off none).add i = ⟨b, off + i, none⟩ := by cases i <;> simp [Addr.add]
    have := hcell i (by omega)
    rw [hadd] at this
    rw [this]
    simp [gt, List.getD, hi]

def has (zs : List Int) (x : Int) : Bool := zs.any (fun z => z == x)

theorem has_yes {zs : List Int} {x : Int} {k : Nat} (hk : k < zs.length) (h : gt zs k = x) : has zs x = true := by
  unfold has; rw [List.any_eq_true]; exact ⟨zs[k], List.getElem_mem hk, by simpa [gt, hk] using h⟩

theorem has_no {zs : List Int} {x : Int} (h : ∀ j, j < zs.length → gt zs j ≠ x) : has zs x = false := by
  unfold has; rw [List.any_eq_false]; intro z hz
  obtain ⟨j, hj, rfl⟩ := List.getElem_of_mem hz
  have := h j hj
  simpa [gt, hj] using this

theorem fault_len {zs : List Int} (h : fault zs = 0) : zs.length = 4 := by
  unfold fault at h; split at h
  · assumption
  · omega

theorem fault_all {zs : List Int} (h : fault zs = 0) : ∀ j, j < zs.length → 0 ≤ gt zs j ∧ gt zs j ≤ 5 := by
  unfold fault at h; split at h
  · split at h
    · rename_i _ ha
      intro j hj
      have := List.all_eq_true.1 ha zs[j] (List.getElem_mem hj)
      simp [okI] at this
      simpa [gt, hj] using this
    · omega
  · omega

def ownsB (zs : List Int) : Bool := (fault zs == 0) && has zs 0

def belowB (xs ys : List Int) : Bool := (List.range 4).all (fun j => decide (gt xs j ≤ gt ys j))

theorem belowB_no {xs ys : List Int} {k : Nat} (hk : k < 4) (h : gt ys k < gt xs k) : belowB xs ys = false := by
  unfold belowB; rw [List.all_eq_false]; exact ⟨k, List.mem_range.2 hk, by simp; omega⟩

theorem belowB_yes {xs ys : List Int} (h : ∀ j, j < 4 → gt xs j ≤ gt ys j) : belowB xs ys = true := by
  unfold belowB; rw [List.all_eq_true]; intro j hj; simp; exact h j (List.mem_range.1 hj)

def isBelowB (xs ys : List Int) : Bool := (fault xs == 0) && (fault ys == 0) && belowB xs ys

def both (xs ys : List Int) : Int := if fault xs = 0 then fault ys else fault xs

theorem both_ne {xs ys : List Int} (h : fault xs ≠ 0) : both xs ys = fault xs := if_neg h

theorem both_eq {xs ys : List Int} (h : fault xs = 0) : both xs ys = fault ys := if_pos h

def ints4 (zs : List Int) : Array Value := #[.int .i64 (gt zs 0), .int .i64 (gt zs 1), .int .i64 (gt zs 2), .int .i64 (gt zs 3)]

end Go.Proofs.Ytainblfjfmjclaj
