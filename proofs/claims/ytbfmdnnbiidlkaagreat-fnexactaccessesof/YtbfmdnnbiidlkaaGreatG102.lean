import Derived.Test.YtbfmdnnbiidlkaaGreatG17
import Derived.Test.YtbfmdnnbiidlkaaGreatG3
import Derived.Test.YtbfmdnnbiidlkaaGreatG2
import Derived.WalkKit
import Derived.ProofKit
import Derived.OpenShut
import Derived.ShutString
import Derived.ChangeOld
import Derived.Below
import Derived.WalkSpells
import Derived.Deep.QuietTactic
import Derived.BigQuiet
import Derived.Deep.RegionWith
import Derived.Deep.WholeRow
import Derived.Deep.DeepCutAuto
import Derived.Deep.RegionHeld2
import Derived.Deep.AppendLies
import Derived.Deep.RegionLaw
namespace Go.Proofs.YtbfmdnnbiidlkaaGreat
open Go.ChangeShapes Go.WideShapes Go.ChangeAt Go.RowKit
/-- a number modulo 65536. -/
def wrp (v : Int) : Int := v % 65536

set_option maxRecDepth 100000 in
theorem l7Wrap_calls (v : Int) (w : World) (h1 : -65536 ≤ v) (h2 : v ≤ 1048576) :
    Calls Tryz.prog 177 #[.int .i64 v] w fun e w' => e = .returned (.int .i64 (wrp v)) ∧ w' = w := by
  by_cases h0 : 0 ≤ v
  · have HE : Hid ((v % 65536 + 65536) % 65536 = wrp v) := by show _ = _; unfold wrp; omega
    go_enter Tryz.func177, Tryz.ntmps177
    go_wp2
    go_ret
    exact ⟨ret_int (by first | exact HE.out | (have := HE.out; omega)), rfl⟩
  · have ht : v.tmod 65536 = -((-v) % 65536) := by
      have h : v = -(-v) := by omega
      rw [h, Int.neg_tmod, Int.tmod_eq_emod_of_nonneg (by omega)]
      simp
    have HE : Hid ((-((-v) % 65536) + 65536) % 65536 = wrp v) := by show _ = _; unfold wrp; omega
    have b1 : 0 ≤ -((-v) % 65536) + 65536 := by omega
    go_enter Tryz.func177, Tryz.ntmps177
    go_wp2
    go_ret
    exact ⟨ret_int (by first | exact HE.out | (simp only [ht]; exact HE.out) | (have := HE.out; omega)), rfl⟩

/-- the cells of a block from o on. -/
def CsO (P o : Nat) (vs : List Value) (w : World) : Prop := ∀ i, i < vs.length → w.cell? ⟨P, o + i, none⟩ = some (vs.getD i undef)

theorem CsO.cell {P o : Nat} {vs : List Value} {w : World} (h : CsO P o vs w) (i : Nat) {v : Value} (hv : vs[i]? = some v) : w.cell? ⟨P, o + i, none⟩ = some v := by
  obtain ⟨hi, e⟩ := List.getElem?_eq_some_iff.1 hv
  rw [h i hi]
  simp [hi, e]

set_option maxRecDepth 100000 in
theorem l6Has_is (P o : Nat) (a : Option Addr) (n c : Nat) (p : Int) (b : Bool) (w : World) (hn : n ≤ maxLen) (hc : w.cell? ⟨P, o, none⟩ = some (.slice a n c)) (hb : up p ((n : Int) - 1) = b) :
    Calls Tryz.prog 129 #[.pointer (some ⟨P, o, none⟩), .int .i64 p] w fun e w' => e = .returned (.bool b) ∧ w' = w := by
  unfold maxLen at hn
  subst hb
  go_enter Tryz.func129, Tryz.ntmps129
  go_wp2_with fail
  refine (inUp_calls _ _ _).mono ?_
  rintro e w' ⟨rfl, rfl⟩
  go_wp2
  go_ret
  exact ⟨rfl, rfl⟩

/-- the rows of a cache that a step goes on with: few, each one within its bounds. -/
def LB (ls : List (Int × Int × Int)) : Prop := ls.length ≤ 8 ∧ ∀ j, j < ls.length → okL (g3 ls j) = true

theorem LB.of {s : Int} {ls : List (Int × Int × Int)} (h : faultC s ls = 0) : LB ls := by
  obtain ⟨h1, h2, h3, h4⟩ := faultC_inv h
  exact ⟨by omega, fun j hj => (h4 j hj).1⟩

/-- an access: who, which bit, where, of which tag, whether it is done. -/
abbrev AC := Int × Int × Int × Int × Bool

def gA (xs : List AC) (i : Nat) : AC := xs.getD i (0, 0, 0, 0, false)

/-- the values of accesses, one behind the other. -/
def vsA : List AC → List Value
  | [] => []
  | x :: r => .int .i64 x.1 :: .int .i64 x.2.1 :: .int .i64 x.2.2.1 :: .int .i64 x.2.2.2.1 :: .bool x.2.2.2.2 :: vsA r

theorem length_vsA : ∀ xs : List AC, (vsA xs).length = xs.length * 5
  | [] => rfl
  | x :: r => by simp only [vsA, List.length_cons, length_vsA r]; omega

theorem vsA_append : ∀ xs ys : List AC, vsA (xs ++ ys) = vsA xs ++ vsA ys
  | [], _ => rfl
  | x :: r, ys => by simp [vsA, vsA_append r ys]

theorem vsA_at : ∀ (xs : List AC) (k : Nat), k < xs.length → (vsA xs)[k * 5]? = some (.int .i64 (gA xs k).1) ∧ (vsA xs)[k * 5 + 1]? = some (.int .i64 (gA xs k).2.1) ∧ (vsA xs)[k * 5 + 2]? = some (.int .i64 (gA xs k).2.2.1) ∧ (vsA xs)[k * 5 + 3]? = some (.int .i64 (gA xs k).2.2.2.1) ∧ (vsA xs)[k * 5 + 4]? = some (.bool (gA xs k).2.2.2.2)
  | [], k, h => by simp at h
  | x :: r, 0, _ => by simp [vsA, gA]
  | x :: r, k + 1, h => by
    have h' := vsA_at r k (by simpa using h)
    have e0 : (k + 1) * 5 = k * 5 + 1 + 1 + 1 + 1 + 1 := by omega
    rw [e0]
    simpa [vsA, gA] using h'

theorem vsA_one {xs : List AC} : ∀ v ∈ vsA xs, v.oneCell' = true := by
  induction xs with
  | nil => intro v hv; simp [vsA] at hv
  | cons x r ih =>
    intro v hv
    simp only [vsA, List.mem_cons] at hv
    rcases hv with rfl | rfl | rfl | rfl | rfl | hv
    · rfl
    · rfl
    · rfl
    · rfl
    · rfl
    · exact ih v hv

/-- the five cells of an access, from o on. -/
def A5 (w : World) (b o : Nat) (x : AC) : Prop :=
  w.cell? ⟨b, o, none⟩ = some (.int .i64 x.1) ∧ w.cell? ⟨b, o + 1, none⟩ = some (.int .i64 x.2.1) ∧ w.cell? ⟨b, o + 2, none⟩ = some (.int .i64 x.2.2.1) ∧ w.cell? ⟨b, o + 3, none⟩ = some (.int .i64 x.2.2.2.1) ∧ w.cell? ⟨b, o + 4, none⟩ = some (.bool x.2.2.2.2)

/-- a block of accesses. -/
def BA (w : World) (b n : Nat) (xs : List AC) : Prop := b < w.heap.size ∧ (∀ k, k < n → A5 w b (k * 5) (gA xs k)) ∧ ∀ i, w.frozen? ⟨b, i, none⟩ = false

theorem BA.of_block {w w' : World} {b n : Nat} {xs : List AC} (h : BA w b n xs) (e : w'.heap[b]? = w.heap[b]?) : BA w' b n xs := by
  have hN' : b < w'.heap.size := by
    have h1 := h.1
    rw [Array.getElem?_eq_getElem h1] at e
    exact (Array.getElem?_eq_some_iff.1 e).1
  refine ⟨hN', fun k hk => ?_, fun i => (World.frozen?_of_block (a := ⟨b, i, none⟩) e).trans (h.2.2 i)⟩
  obtain ⟨h0, h1, h2, h3, h4⟩ := h.2.1 k hk
  exact ⟨(World.cell?_of_block (a := ⟨b, k * 5, none⟩) e).trans h0, (World.cell?_of_block (a := ⟨b, k * 5 + 1, none⟩) e).trans h1, (World.cell?_of_block (a := ⟨b, k * 5 + 2, none⟩) e).trans h2, (World.cell?_of_block (a := ⟨b, k * 5 + 3, none⟩) e).trans h3, (World.cell?_of_block (a := ⟨b, k * 5 + 4, none⟩) e).trans h4⟩

/-- an owned slice of accesses: nil, or at the head of a block of S. -/
def OA (S : Nat → Prop) (a : Option Addr) (n : Nat) (xs : List AC) (w : World) : Prop :=
  xs.length = n ∧ n ≤ 1048576 ∧ ((n = 0) ∨ ∃ b, a = some ⟨b, 0, none⟩ ∧ S b ∧ BA w b n xs)

theorem OA.loc {S : Nat → Prop} {a : Option Addr} {n : Nat} {xs : List AC} : Loc S (OA S a n xs) := fun w w' hk h => by
  obtain ⟨h1, h2, h3⟩ := h
  refine ⟨h1, h2, ?_⟩
  rcases h3 with h3 | ⟨b, e, hb, h3⟩
  · exact .inl h3
  · exact .inr ⟨b, e, hb, h3.of_block (hk b hb h3.1)⟩

theorem OA.mono {S S' : Nat → Prop} {a : Option Addr} {n : Nat} {xs : List AC} {w : World} (h : OA S a n xs w) (hs : ∀ k, S k → S' k) : OA S' a n xs w := by
  obtain ⟨h1, h0, h2⟩ := h
  refine ⟨h1, h0, ?_⟩
  rcases h2 with h2 | ⟨b, e, h3, h4⟩
  · exact .inl h2
  · exact .inr ⟨b, e, hs b h3, h4⟩

theorem OA.nil (S : Nat → Prop) (a : Option Addr) (w : World) : OA S a 0 [] w := ⟨rfl, by omega, .inl rfl⟩

theorem own_oa {w : World} {B0 : Nat} {e : TypeId} {v : Value} {n : Nat} {xs : List AC} (hn : n ≤ 1048576) (hl : xs.length = n) (h : w.ownsRow B0 e 5 v n (vsA xs)) : ∃ a c, v = .slice a n c ∧ OA (InR B0 w.heap.size) a n xs w := by
  rcases h.2 with ⟨rfl, h0⟩ | ⟨g, cap, cur, rfl, hb, hg, hc, _, hs, ht⟩
  · exact ⟨none, 0, by rw [h0], hl, hn, .inl h0⟩
  · have hlt : g < w.heap.size := (Array.getElem?_eq_some_iff.1 hg).1
    have hadd : ∀ i, (Addr.mk g 0 none).add i = ⟨g, i, none⟩ := fun i => by cases i <;> simp [Addr.add]
    have cell : ∀ i v, (vsA xs)[i]? = some v → w.cell? ⟨g, i, none⟩ = some v := fun i v hv => by
      have hcell := h.cells (g := g) rfl i v hv
      rwa [hadd] at hcell
    refine ⟨_, cap, rfl, hl, hn, .inr ⟨g, rfl, ⟨hb, hlt⟩, hlt, fun k hk => ?_, fun i => by simp [World.frozen?, hg]⟩⟩
    obtain ⟨h0, h1, h2, h3, h4⟩ := vsA_at xs k (by omega)
    exact ⟨cell _ _ h0, cell _ _ h1, cell _ _ h2, cell _ _ h3, cell _ _ h4⟩

/-- what is read from a row is what an append takes. -/
theorem OA.news {S : Nat → Prop} {g n : Nat} {xs : List AC} {w : World} (h : OA S (some ⟨g, 0, none⟩) n xs w) (hp : 0 < n) : ∀ j u, (vsA xs)[j]? = some u → w.cell? ((Addr.mk g 0 none).add j) = some u := by
  intro j u hj
  obtain ⟨hl, _, h⟩ := h
  rcases h with h | ⟨b, e, _, h⟩
  · omega
  obtain rfl : g = b := by simpa using e
  have hadd : (Addr.mk g 0 none).add j = ⟨g, j, none⟩ := by cases j <;> simp [Addr.add]
  rw [hadd]
  have hjl : j < (vsA xs).length := (List.getElem?_eq_some_iff.1 hj).1
  rw [length_vsA] at hjl
  obtain ⟨h0, h1, h2, h3, h4⟩ := vsA_at xs (j / 5) (by omega)
  obtain ⟨g0, g1, g2, g3, g4⟩ := h.2.1 (j / 5) (by omega)
  rcases (show j = j / 5 * 5 ∨ j = j / 5 * 5 + 1 ∨ j = j / 5 * 5 + 2 ∨ j = j / 5 * 5 + 3 ∨ j = j / 5 * 5 + 4 by omega) with e | e | e | e | e
  · rw [← e] at h0 g0; rw [g0]; exact h0.symm.trans hj
  · rw [← e] at h1 g1; rw [g1]; exact h1.symm.trans hj
  · rw [← e] at h2 g2; rw [g2]; exact h2.symm.trans hj
  · rw [← e] at h3 g3; rw [g3]; exact h3.symm.trans hj
  · rw [← e] at h4 g4; rw [g4]; exact h4.symm.trans hj

/-- the j-th mark: a bool in every fifth cell. -/
def mvA (m : Int) (j : Nat) : Value := if j % 5 = 4 then .bool ((m + (j : Int)) % 3 == 0) else .int .i64 (m + (j : Int))

def mkA (m : Int) (n : Nat) : List AC := (List.range n).map (fun k : Nat => (m + 5 * (k : Int), m + 5 * (k : Int) + 1, m + 5 * (k : Int) + 1 + 1, m + 5 * (k : Int) + 1 + 1 + 1, (m + 5 * (k : Int) + 1 + 1 + 1 + 1) % 3 == 0))

theorem length_mkA (m : Int) (n : Nat) : (mkA m n).length = n := by simp [mkA]

theorem gA_mkA (m : Int) (n k : Nat) (h : k < n) : gA (mkA m n) k = (m + 5 * (k : Int), m + 5 * (k : Int) + 1, m + 5 * (k : Int) + 1 + 1, m + 5 * (k : Int) + 1 + 1 + 1, (m + 5 * (k : Int) + 1 + 1 + 1 + 1) % 3 == 0) := by simp [mkA, gA, h]

/-- a row under marks: the first j cells of block b are marked; all n cells are there; none is frozen. -/
def RA (w : World) (b n j : Nat) (m : Int) : Prop := b < w.heap.size ∧ (∀ i, i < j → w.cell? ⟨b, i, none⟩ = some (mvA m i)) ∧ (∀ i, i < n → ∃ v, w.cell? ⟨b, i, none⟩ = some v) ∧ ∀ i, w.frozen? ⟨b, i, none⟩ = false

theorem RA.start {w : World} {b n : Nat} {xs : List AC} (m : Int) (h : BA w b n xs) : RA w b (n * 5) 0 m := by
  refine ⟨h.1, fun i hi => by omega, fun i hi => ?_, h.2.2⟩
  obtain ⟨h0, h1, h2, h3, h4⟩ := h.2.1 (i / 5) (by omega)
  rcases (show i = i / 5 * 5 ∨ i = i / 5 * 5 + 1 ∨ i = i / 5 * 5 + 2 ∨ i = i / 5 * 5 + 3 ∨ i = i / 5 * 5 + 4 by omega) with e | e | e | e | e
  · rw [← e] at h0; exact ⟨_, h0⟩
  · rw [← e] at h1; exact ⟨_, h1⟩
  · rw [← e] at h2; exact ⟨_, h2⟩
  · rw [← e] at h3; exact ⟨_, h3⟩
  · rw [← e] at h4; exact ⟨_, h4⟩

theorem RA.store {w : World} {b n j : Nat} {m : Int} (h : RA w b n j m) (hj : j < n) {v : Value} (hv : v = mvA m j) : RA (w.setCell ⟨b, j, none⟩ v) b n (j + 1) m := by
  subst hv
  refine ⟨by simpa using h.1, fun i hi => ?_, fun i hi => ?_, fun i => by simpa using h.2.2.2 i⟩
  · by_cases e : i = j
    · subst e
      obtain ⟨u, hu⟩ := h.2.2.1 i hj
      exact World.cell?_setCell_same _ _ _ hu
    · rw [World.cell?_setCell_other _ _ _ _ (fun x => by injection x with _ x2; exact e x2.symm)]
      exact h.2.1 i (by omega)
  · obtain ⟨u, hu⟩ := h.2.2.1 i hi
    exact cell?_setCell_some hu

theorem mvA_int {m : Int} {k r : Nat} (hr : r < 4) : mvA m (k * 5 + r) = .int .i64 (m + ((k * 5 + r : Nat) : Int)) := if_neg (by omega)
theorem mvA_bool {m : Int} {k : Nat} : mvA m (k * 5 + 4) = .bool ((m + ((k * 5 + 4 : Nat) : Int)) % 3 == 0) := if_pos (by omega)

theorem RA.done {w : World} {b n : Nat} {m : Int} (h : RA w b (n * 5) (n * 5) m) : BA w b n (mkA m n) := by
  refine ⟨h.1, fun k hk => ?_, h.2.2.2⟩
  rw [gA_mkA m n k hk]
  have e0 : m + ((k * 5 + 0 : Nat) : Int) = m + 5 * (k : Int) := by omega
  have e1 : m + ((k * 5 + 1 : Nat) : Int) = m + 5 * (k : Int) + 1 := by omega
  have e2 : m + ((k * 5 + 2 : Nat) : Int) = m + 5 * (k : Int) + 1 + 1 := by omega
  have e3 : m + ((k * 5 + 3 : Nat) : Int) = m + 5 * (k : Int) + 1 + 1 + 1 := by omega
  have e4 : m + ((k * 5 + 4 : Nat) : Int) = m + 5 * (k : Int) + 1 + 1 + 1 + 1 := by omega
  refine ⟨?_, ?_, ?_, ?_, ?_⟩
  · rw [show k * 5 = k * 5 + 0 from rfl, h.2.1 _ (by omega), mvA_int (by omega), e0]
  · rw [h.2.1 _ (by omega), mvA_int (by omega), e1]
  · rw [h.2.1 _ (by omega), mvA_int (by omega), e2]
  · rw [h.2.1 _ (by omega), mvA_int (by omega), e3]
  · rw [h.2.1 _ (by omega), mvA_bool, e4]

theorem OA.lit (u : World) (x : AC) (t : TypeId) {B T : Nat} (hB : B ≤ u.heap.size) (hT : u.heap.size < T) : OA (InR B T) (some ⟨u.heap.size, 0, none⟩) 1 [x] (u.alloc (.cells #[.int .i64 x.1, .int .i64 x.2.1, .int .i64 x.2.2.1, .int .i64 x.2.2.2.1, .bool x.2.2.2.2] t)) := by
  refine ⟨rfl, by omega, .inr ⟨_, rfl, ⟨hB, hT⟩, by simp, fun k hk => ?_, fun i => by simp⟩⟩
  obtain rfl : k = 0 := by omega
  unfold A5 gA
  simp [World.cell?_alloc_new]

theorem q10_bel {W X : World} {A0 A1 A2 A3 A4 A5 A6 A7 A8 A9 : Addr} {v0 v1 v2 v3 v4 v5 v6 v7 v8 v9 : Value} (h : X.cell? A0 = some v0 ∧ X.cell? A1 = some v1 ∧ X.cell? A2 = some v2 ∧ X.cell? A3 = some v3 ∧ X.cell? A4 = some v4 ∧ X.cell? A5 = some v5 ∧ X.cell? A6 = some v6 ∧ X.cell? A7 = some v7 ∧ X.cell? A8 = some v8 ∧ X.cell? A9 = some v9 ∧ Below W.heap.size W X) : Below W.heap.size W X := h.2.2.2.2.2.2.2.2.2.2

theorem q10_below {W X Y : World} {A0 A1 A2 A3 A4 A5 A6 A7 A8 A9 : Addr} {v0 v1 v2 v3 v4 v5 v6 v7 v8 v9 : Value} (h0 : A0.block < W.heap.size) (h1 : A1.block < W.heap.size) (h2 : A2.block < W.heap.size) (h3 : A3.block < W.heap.size) (h4 : A4.block < W.heap.size) (h5 : A5.block < W.heap.size) (h6 : A6.block < W.heap.size) (h7 : A7.block < W.heap.size) (h8 : A8.block < W.heap.size) (h9 : A9.block < W.heap.size) (h : X.cell? A0 = some v0 ∧ X.cell? A1 = some v1 ∧ X.cell? A2 = some v2 ∧ X.cell? A3 = some v3 ∧ X.cell? A4 = some v4 ∧ X.cell? A5 = some v5 ∧ X.cell? A6 = some v6 ∧ X.cell? A7 = some v7 ∧ X.cell? A8 = some v8 ∧ X.cell? A9 = some v9 ∧ Below W.heap.size W X) (g : Below X.heap.size X Y) : Y.cell? A0 = some v0 ∧ Y.cell? A1 = some v1 ∧ Y.cell? A2 = some v2 ∧ Y.cell? A3 = some v3 ∧ Y.cell? A4 = some v4 ∧ Y.cell? A5 = some v5 ∧ Y.cell? A6 = some v6 ∧ Y.cell? A7 = some v7 ∧ Y.cell? A8 = some v8 ∧ Y.cell? A9 = some v9 ∧ Below W.heap.size W Y := by
  have hz := (h.2.2.2.2.2.2.2.2.2.2).size
  exact ⟨(g.cell (by omega)).trans h.1, (g.cell (by omega)).trans h.2.1, (g.cell (by omega)).trans h.2.2.1, (g.cell (by omega)).trans h.2.2.2.1, (g.cell (by omega)).trans h.2.2.2.2.1, (g.cell (by omega)).trans h.2.2.2.2.2.1, (g.cell (by omega)).trans h.2.2.2.2.2.2.1, (g.cell (by omega)).trans h.2.2.2.2.2.2.2.1, (g.cell (by omega)).trans h.2.2.2.2.2.2.2.2.1, (g.cell (by omega)).trans h.2.2.2.2.2.2.2.2.2.1, (h.2.2.2.2.2.2.2.2.2.2).trans (g.mono hz)⟩

set_option maxRecDepth 100000 in
theorem eqAccess_calls (x : AC) (w : World) :
    Calls Tryz.prog 140 #[.agg #[.int .i64 x.1, .int .i64 x.2.1, .int .i64 x.2.2.1, .int .i64 x.2.2.2.1, .bool x.2.2.2.2], .agg #[.int .i64 x.1, .int .i64 x.2.1, .int .i64 x.2.2.1, .int .i64 x.2.2.2.1, .bool x.2.2.2.2]] w fun e w' => e = .returned (.bool true) ∧ Below w.heap.size w w' := by
  obtain ⟨a, b, c, d, q⟩ := x
  have h1 : (a != a) = false := by simp
  have h2 : (b != b) = false := by simp
  have h3 : (c != c) = false := by simp
  have h4 : (d != d) = false := by simp
  have h5 : (q != q) = false := by simp
  have HB := hide fun o1 o2 => ((Below.refl w.heap.size w).alloc (Nat.le_refl _) o1).alloc (by simp) o2
  go_enter Tryz.func140, Tryz.ntmps140
  go_wp2
  go_ret
  exact ⟨rfl, HB.out _ _⟩

set_option maxRecDepth 100000 in
set_option maxHeartbeats 1000000 in
theorem eqAccessS_O (S S' : Nat → Prop) (a b : Option Addr) (n m ca cb : Nat) (xs : List AC) (w : World) (hx : OA S a n xs w) (hy : OA S' b m xs w) :
    Calls Tryz.prog 71 #[.slice a n ca, .slice b m cb] w fun e w' => e = .returned (.bool true) ∧ Below w.heap.size w w' := by
  obtain rfl : m = n := by have := hx.1; have := hy.1; omega
  obtain ⟨hlen, hn, hx⟩ := hx
  obtain ⟨_, _, hy⟩ := hy
  have hne : ((m : Int) != (m : Int)) = false := by simp
  go_enter Tryz.func71, Tryz.ntmps71
  go_wp2
  clear hne
  go_loopw [5] (fun i wr => ∃ k : Nat, k ≤ m ∧ i = .int .i64 k ∧ Below w.heap.size w wr) (fun i _ => m - (intOf i).toNat)
  case atStart => exact ⟨0, Nat.zero_le _, rfl, Below.refl _ _⟩
  case round =>
    obtain ⟨k, hk, rfl, hbel⟩ := hrel
    by_cases hlt : k < m
    · obtain ⟨b1, rfl, _, h1⟩ := hx.resolve_left (by omega)
      obtain ⟨b2, rfl, _, h2⟩ := hy.resolve_left (by omega)
      obtain ⟨x0, x1, x2, x3, x4⟩ := h1.2.1 k hlt
      obtain ⟨y0, y1, y2, y3, y4⟩ := h2.2.1 k hlt
      have l1 := h1.1
      have l2 := h2.1
      have p0 := (hbel.cell (p := ⟨b1, k * 5, none⟩) l1).trans x0
      have p1 := (hbel.cell (p := ⟨b1, k * 5 + 1, none⟩) l1).trans x1
      have p2 := (hbel.cell (p := ⟨b1, k * 5 + 2, none⟩) l1).trans x2
      have p3 := (hbel.cell (p := ⟨b1, k * 5 + 3, none⟩) l1).trans x3
      have p4 := (hbel.cell (p := ⟨b1, k * 5 + 4, none⟩) l1).trans x4
      have r0 := (hbel.cell (p := ⟨b2, k * 5, none⟩) l2).trans y0
      have r1 := (hbel.cell (p := ⟨b2, k * 5 + 1, none⟩) l2).trans y1
      have r2 := (hbel.cell (p := ⟨b2, k * 5 + 2, none⟩) l2).trans y2
      have r3 := (hbel.cell (p := ⟨b2, k * 5 + 3, none⟩) l2).trans y3
      have r4 := (hbel.cell (p := ⟨b2, k * 5 + 4, none⟩) l2).trans y4
      clear x0 x1 x2 x3 x4 y0 y1 y2 y3 y4 h1 h2 hx hy
      have l1 : b1 < wr.heap.size := by have := hbel.size; omega
      have l2 : b2 < wr.heap.size := by have := hbel.size; omega
      have HS0 : Hid (wr.drew.cell? ⟨b1, k * 5, none⟩ = some (.int .i64 (gA xs k).1) ∧ wr.drew.cell? ⟨b1, k * 5 + 1, none⟩ = some (.int .i64 (gA xs k).2.1) ∧ wr.drew.cell? ⟨b1, k * 5 + 2, none⟩ = some (.int .i64 (gA xs k).2.2.1) ∧ wr.drew.cell? ⟨b1, k * 5 + 3, none⟩ = some (.int .i64 (gA xs k).2.2.2.1) ∧ wr.drew.cell? ⟨b1, k * 5 + 4, none⟩ = some (.bool (gA xs k).2.2.2.2) ∧ wr.drew.cell? ⟨b2, k * 5, none⟩ = some (.int .i64 (gA xs k).1) ∧ wr.drew.cell? ⟨b2, k * 5 + 1, none⟩ = some (.int .i64 (gA xs k).2.1) ∧ wr.drew.cell? ⟨b2, k * 5 + 2, none⟩ = some (.int .i64 (gA xs k).2.2.1) ∧ wr.drew.cell? ⟨b2, k * 5 + 3, none⟩ = some (.int .i64 (gA xs k).2.2.2.1) ∧ wr.drew.cell? ⟨b2, k * 5 + 4, none⟩ = some (.bool (gA xs k).2.2.2.2) ∧ Below wr.heap.size wr wr.drew) := ⟨p0, p1, p2, p3, p4, r0, r1, r2, r3, r4, (Below.refl _ _).drew⟩
      go_wp2_with fail
      go_region_held2 (fun X => X.cell? ⟨b1, k * 5, none⟩ = some (.int .i64 (gA xs k).1) ∧ X.cell? ⟨b1, k * 5 + 1, none⟩ = some (.int .i64 (gA xs k).2.1) ∧ X.cell? ⟨b1, k * 5 + 2, none⟩ = some (.int .i64 (gA xs k).2.2.1) ∧ X.cell? ⟨b1, k * 5 + 3, none⟩ = some (.int .i64 (gA xs k).2.2.2.1) ∧ X.cell? ⟨b1, k * 5 + 4, none⟩ = some (.bool (gA xs k).2.2.2.2) ∧ X.cell? ⟨b2, k * 5, none⟩ = some (.int .i64 (gA xs k).1) ∧ X.cell? ⟨b2, k * 5 + 1, none⟩ = some (.int .i64 (gA xs k).2.1) ∧ X.cell? ⟨b2, k * 5 + 2, none⟩ = some (.int .i64 (gA xs k).2.2.1) ∧ X.cell? ⟨b2, k * 5 + 3, none⟩ = some (.int .i64 (gA xs k).2.2.2.1) ∧ X.cell? ⟨b2, k * 5 + 4, none⟩ = some (.bool (gA xs k).2.2.2.2) ∧ Below wr.heap.size wr X)
        (first | with_reducible exact HS0.out | with_reducible assumption)
        (first | (go_at_call 140; refine (eqAccess_calls (gA xs k) _).mono ?_; rintro e v1 ⟨rfl, g1⟩; have hs1 := q10_below l1 l1 l1 l1 l1 l2 l2 l2 l2 l2 (by with_reducible assumption) g1; clear g1))
      have HB := hide (hbel.trans ((q10_bel hs1).mono hbel.size))
      clear hs1 HS0 p0 p1 p2 p3 p4 r0 r1 r2 r3 r4
      go_wp2
      go_roundw
      case rel => exact ⟨k + 1, by omega, by go_num, HB.out⟩
      case measure => simp [intOf]; omega
    · clear hx hy
      go_wp2
      go_ret
      exact ⟨rfl, hbel⟩

set_option maxRecDepth 100000 in
theorem eqAR_O (c : Int) (S S' : Nat → Prop) (a b : Option Addr) (n m ca cb : Nat) (xs : List AC) (w : World) (hx : OA S a n xs w) (hy : OA S' b m xs w) :
    Calls Tryz.prog 28 #[.agg #[.int .i64 c, .slice a n ca], .agg #[.int .i64 c, .slice b m cb]] w fun e w' => e = .returned (.bool true) ∧ Below w.heap.size w w' := by
  have h1 : (c != c) = false := by simp
  have HB := hide fun o1 o2 => ((Below.refl w.heap.size w).alloc (Nat.le_refl _) o1).alloc (by simp) o2
  have HX := hide fun o1 o2 => OA.loc.alloc (OA.loc.alloc hx o1) o2
  have HY := hide fun o1 o2 => OA.loc.alloc (OA.loc.alloc hy o1) o2
  go_enter Tryz.func28, Tryz.ntmps28
  go_wp2_with fail
  refine (eqAccessS_O _ _ a b n m ca cb xs _ (HX.out _ _) (HY.out _ _)).mono ?_
  rintro e w1 ⟨rfl, hb⟩
  have HE := hide ((HB.out _ _).trans (hb.mono (HB.out _ _).size))
  clear hb
  go_wp2
  go_ret
  exact ⟨rfl, HE.out⟩

set_option maxRecDepth 100000 in
set_option maxHeartbeats 1000000 in
theorem markAccessS_O (S : Nat → Prop) (a : Option Addr) (n cap : Nat) (xs : List AC) (m : Int) (w : World) (hm0 : 0 ≤ m) (hm : m ≤ 4194304) (hs : OA S a n xs w) :
    Calls Tryz.prog 78 #[.slice a n cap, .int .i64 m] w fun e w' => e = .returned (.int .i64 (m + 5 * n)) ∧ OA S a n (mkA m n) w' ∧ OutS S w w' := by
  obtain ⟨hlen, hn, hs⟩ := hs
  rcases hs with rfl | ⟨b, rfl, hB, blk⟩
  · go_enter Tryz.func78, Tryz.ntmps78
    go_wp2
    go_loop [1, 5] (fun k i => k = .int .i64 m ∧ i = .int .i64 0) (fun _ _ => 0)
    case atStart => exact ⟨rfl, rfl⟩
    case round =>
      obtain ⟨rfl, rfl⟩ := hrel
      go_wp2
      go_ret
      exact ⟨ret_int (by simp), ⟨length_mkA _ _, by omega, (.inl rfl)⟩, OutS.refl _ _⟩
  · have hr0 := RA.start m blk
    clear blk
    go_enter Tryz.func78, Tryz.ntmps78
    go_wp2
    go_loopw [1, 5] (fun q i wr => ∃ k : Nat, k ≤ n ∧ q = .int .i64 (m + 5 * k) ∧ i = .int .i64 k ∧ RA wr b (n * 5) (k * 5) m ∧ OutS S w wr) (fun _ i _ => n - (intOf i).toNat)
    case atStart => exact ⟨0, Nat.zero_le _, by simp, rfl, hr0, OutS.refl _ _⟩
    case round =>
      clear hr0
      obtain ⟨k, hk, rfl, rfl, hrow, hbut⟩ := hrel
      by_cases hlt : k < n
      · obtain ⟨v0, hv0⟩ := hrow.2.2.1 (k * 5) (by omega)
        obtain ⟨v1, hv1⟩ := hrow.2.2.1 (k * 5 + 1) (by omega)
        obtain ⟨v2, hv2⟩ := hrow.2.2.1 (k * 5 + 2) (by omega)
        obtain ⟨v3, hv3⟩ := hrow.2.2.1 (k * 5 + 3) (by omega)
        obtain ⟨v4, hv4⟩ := hrow.2.2.1 (k * 5 + 4) (by omega)
        have hf0 := hrow.2.2.2 (k * 5)
        have hf1 := hrow.2.2.2 (k * 5 + 1)
        have hf2 := hrow.2.2.2 (k * 5 + 2)
        have hf3 := hrow.2.2.2 (k * 5 + 3)
        have hf4 := hrow.2.2.2 (k * 5 + 4)
        have s0 : Value.int .i64 (m + 5 * (k : Int)) = mvA m (k * 5) := by rw [show k * 5 = k * 5 + 0 from rfl, mvA_int (by omega)]; congr 1; omega
        have s1 : Value.int .i64 (m + 5 * (k : Int) + 1) = mvA m (k * 5 + 1) := by rw [mvA_int (by omega)]; congr 1; omega
        have s2 : Value.int .i64 (m + 5 * (k : Int) + 1 + 1) = mvA m (k * 5 + 1 + 1) := by rw [show k * 5 + 1 + 1 = k * 5 + 2 from rfl, mvA_int (by omega)]; congr 1; omega
        have s3 : Value.int .i64 (m + 5 * (k : Int) + 1 + 1 + 1) = mvA m (k * 5 + 1 + 1 + 1) := by rw [show k * 5 + 1 + 1 + 1 = k * 5 + 3 from rfl, mvA_int (by omega)]; congr 1; omega
        have s4 : Value.bool ((m + 5 * (k : Int) + 1 + 1 + 1 + 1) % 3 == 0) = mvA m (k * 5 + 1 + 1 + 1 + 1) := by rw [show k * 5 + 1 + 1 + 1 + 1 = k * 5 + 4 from rfl, mvA_bool, show m + ((k * 5 + 4 : Nat) : Int) = m + 5 * (k : Int) + 1 + 1 + 1 + 1 by omega]
        have HR := hide (((((hrow.store (by omega) s0).store (by omega) s1).store (by omega) s2).store (by omega) s3).store (by omega) s4)
        have HO := hide (fun x0 x1 x2 x3 x4 => ((((hbut.setCell (p := ⟨b, k * 5, none⟩) hB x0).setCell (p := ⟨b, k * 5 + 1, none⟩) hB x1).setCell (p := ⟨b, k * 5 + 2, none⟩) hB x2).setCell (p := ⟨b, k * 5 + 3, none⟩) hB x3).setCell (p := ⟨b, k * 5 + 4, none⟩) hB x4)
        clear hrow hbut s0 s1 s2 s3 s4
        go_wp2
        go_roundw
        case rel =>
          refine ⟨k + 1, by omega, by go_num, by go_num, ?_, HO.out _ _ _ _ _⟩
          have e3 : (k + 1) * 5 = k * 5 + 1 + 1 + 1 + 1 + 1 := by omega
          rw [e3]
          exact HR.out
        case measure => simp [intOf]; omega
      · have e : k = n := by omega
        subst e
        go_wp2
        go_ret
        exact ⟨rfl, ⟨length_mkA _ _, hn, .inr ⟨b, rfl, hB, hrow.done⟩⟩, hbut⟩

set_option maxRecDepth 100000 in
theorem markAR_O (S : Nat → Prop) (c : Int) (a : Option Addr) (n cap : Nat) (xs : List AC) (m : Int) (w : World) (hm0 : 0 ≤ m) (hm : m ≤ 4194304) (hs : OA S a n xs w) :
    Calls Tryz.prog 31 #[.agg #[.int .i64 c, .slice a n cap], .int .i64 m] w fun e w' => e = .returned (.int .i64 (m + 5 * n)) ∧ OA S a n (mkA m n) w' ∧ OutS S w w' := by
  go_enter Tryz.func31, Tryz.ntmps31
  go_wp2_with fail
  refine (markAccessS_O S a n cap xs m _ hm0 hm (OA.loc.below ((Below.refl _ _).alloc (Nat.le_refl _) _) hs)).mono ?_
  rintro e w1 ⟨rfl, h1, h2⟩
  go_wp2
  go_ret
  exact ⟨rfl, h1, (OutS.of_below ((Below.refl _ _).alloc (Nat.le_refl _) _)).trans h2⟩

set_option maxRecDepth 100000 in
set_option maxHeartbeats 1000000 in
theorem heldAccessS_O (S : Nat → Prop) (a : Option Addr) (n cap : Nat) (m : Int) (w : World) (hm0 : 0 ≤ m) (hm : m ≤ 4194304) (hs : OA S a n (mkA m n) w) :
    Calls Tryz.prog 79 #[.slice a n cap, .int .i64 m] w fun e w' => e = .returned (.int .i64 (m + 5 * n)) ∧ Below w.heap.size w w' := by
  obtain ⟨_, hn, hs⟩ := hs
  go_enter Tryz.func79, Tryz.ntmps79
  go_wp2
  go_loop [1, 5] (fun q i => ∃ k : Nat, k ≤ n ∧ q = .int .i64 (m + 5 * k) ∧ i = .int .i64 k) (fun _ i => n - (intOf i).toNat)
  case atStart => exact ⟨0, Nat.zero_le _, by simp, rfl⟩
  case round =>
    obtain ⟨k, hk, rfl, rfl⟩ := hrel
    by_cases hlt : k < n
    · obtain ⟨b, rfl, _, h1⟩ := hs.resolve_left (by omega)
      obtain ⟨r0, r1, r2, r3, r4⟩ := h1.2.1 k hlt
      rw [gA_mkA m n k hlt] at r0 r1 r2 r3 r4
      simp only at r0 r1 r2 r3 r4
      have n0 : ((m + 5 * (k : Int)) != (m + 5 * (k : Int))) = false := by simp
      have n1 : ((m + 5 * (k : Int) + 1) != (m + 5 * (k : Int) + 1)) = false := by simp
      have n2 : ((m + 5 * (k : Int) + 1 + 1) != (m + 5 * (k : Int) + 1 + 1)) = false := by simp
      have n3 : ((m + 5 * (k : Int) + 1 + 1 + 1) != (m + 5 * (k : Int) + 1 + 1 + 1)) = false := by simp
      have n4 : (((m + 5 * (k : Int) + 1 + 1 + 1 + 1) % 3 == 0) != ((m + 5 * (k : Int) + 1 + 1 + 1 + 1) % 3 == 0)) = false := by simp
      clear h1 hs
      go_wp2
      go_round
      case rel => exact ⟨k + 1, by omega, by go_num, by go_num⟩
      case measure => simp [intOf]; omega
    · have e : k = n := by omega
      subst e
      clear hs
      go_wp2
      go_ret
      exact ⟨rfl, Below.refl _ _⟩

set_option maxRecDepth 100000 in
theorem heldAR_O (c : Int) (S : Nat → Prop) (a : Option Addr) (n cap : Nat) (w : World) (hs : OA S a n (mkA 1 n) w) :
    Calls Tryz.prog 32 #[.agg #[.int .i64 c, .slice a n cap], .int .i64 1] w fun e w' => e = .returned (.int .i64 (1 + 5 * n)) ∧ Below w.heap.size w w' := by
  have hn := hs.2.1
  have hp : ¬ ((1 : Int) + 5 * n < 0) := by omega
  go_enter Tryz.func32, Tryz.ntmps32
  go_wp2_with fail
  refine (heldAccessS_O S a n cap 1 _ (by omega) (by omega) (OA.loc.below ((Below.refl _ _).alloc (Nat.le_refl _) _) hs)).mono ?_
  rintro e w1 ⟨rfl, hb⟩
  go_wp2
  go_ret
  exact ⟨rfl, ((Below.refl _ _).alloc (Nat.le_refl _) _).trans (hb.mono (by simp))⟩

end Go.Proofs.YtbfmdnnbiidlkaaGreat
