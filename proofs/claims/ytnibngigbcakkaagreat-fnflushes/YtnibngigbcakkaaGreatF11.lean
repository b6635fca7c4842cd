import Derived.Test.YtnibngigbcakkaaGreatRows
import Derived.Test.YtnibngigbcakkaaGreatF1
import Derived.Test.YtnibngigbcakkaaGreatF9
import Derived.Maps.RangeWalk
import Derived.Maps.Ext
import Derived.Maps.OwnOps
import Derived.DeepKeys4
import Derived.WalkKit
import Derived.ProofKit
import Derived.OpenShut
import Derived.ShutString
import Derived.ChangeOld
import Derived.Below
import Derived.WalkSpells
import Derived.Deep.QuietTactic
import Derived.BigQuiet
import Derived.Deep.RegionWith
import Derived.Deep.WholeRow
import Derived.Deep.DeepCutAuto
import Derived.Deep.RegionHeld2
import Derived.Deep.AppendLies
import Derived.Deep.RegionLaw
namespace Go.Proofs.YtnibngigbcakkaaGreat
open Go.ChangeShapes Go.WideShapes Go.ChangeAt Go.RowKit

/-- what a label reads as, as a map's key. -/
def kl (zs : List Int) : Lit := .string (keyBytes [.int .i64 (gt zs 0), .int .i64 (gt zs 1), .int .i64 (gt zs 2), .int .i64 (gt zs 3)])

set_option maxRecDepth 100000 in
theorem typesSize : ∃ m, Tryz.prog.types.size = m + 3 := ⟨Tryz.prog.types.size - 3, by kernel_rfl⟩
set_option maxRecDepth 100000 in
theorem laidOutK : laidOutB Tryz.prog = true := by kernel_rfl
set_option maxRecDepth 100000 in
theorem rowK : (149 : TypeId) < Tryz.prog.types.size := of_decide_eq_true (by kernel_rfl)
set_option maxRecDepth 100000 in
theorem wideK : (match Tryz.prog.underlying 149 with | some (.array _ _) | some (.struct _) => true | _ => false) = true := by rw [Tryz.underlying149]
set_option maxRecDepth 100000 in
theorem lawK : Go.Maps.Keyed Tryz.prog 149 := Go.Maps.Keyed.of_law (deep_law_laid laidOutK (m := 3) (by omega) rowK (by kernel_rfl) wideK)
set_option maxRecDepth 100000 in
theorem keyTypeK : Tryz.prog.keyType 149 = true := by kernel_rfl
set_option maxRecDepth 100000 in
theorem cellsK : Tryz.prog.cellsOf 149 = 4 := by kernel_rfl
set_option maxRecDepth 100000 in
theorem cellsL : Tryz.prog.cellsOf 147 = 4 := by kernel_rfl
set_option maxRecDepth 100000 in
theorem cellsI : Tryz.prog.cellsOf 2 = 1 := by kernel_rfl

theorem wf5 {x : Int} (h : 0 ≤ x ∧ x ≤ 5) : (Lit.int .i64 x).wf = true := by
  simp [Lit.wf, IntKind.min, IntKind.max, IntKind.signed, IntKind.bits]
  omega

set_option maxRecDepth 100000 in
theorem key_mk {zs : List Int} (h : fault zs = 0) : keyOf Tryz.prog 149 (.agg (ints4 zs)) = some (kl zs) := by
  have h4 := fault_len h
  have w0 := wf5 (fault_all h 0 (by omega))
  have w1 := wf5 (fault_all h 1 (by omega))
  have w2 := wf5 (fault_all h 2 (by omega))
  have w3 := wf5 (fault_all h 3 (by omega))
  obtain ⟨m, hm⟩ := typesSize
  have hf : (Value.agg (ints4 zs)).formed Tryz.prog 149 = true := by simp [Value.formed, Tryz.underlying149, cellsK, ints4]
  unfold keyOf
  rw [Tryz.underlying149]
  simp only [keyTypeK, hf, Bool.and_self, if_true, hm]
  simp [Program.keyLits, Tryz.underlying149, Tryz.underlying147, Tryz.underlying2, cellsK, cellsL, cellsI, ints4, Value.cells, w0, w1, w2, w3, List.range_succ, kl]

/-- blocks other than P and M are as they were. -/
structure But (P M : Nat) (w w' : World) : Prop where
  os : w'.os = w.os
  tape : w'.tape = w.tape
  output : w'.output = w.output
  size : w.heap.size ≤ w'.heap.size
  block : ∀ k, k < w.heap.size → k ≠ P → k ≠ M → w'.heap[k]? = w.heap[k]?

theorem But.of_below {P M : Nat} {w w' : World} (h : Below w.heap.size w w') : But P M w w' := ⟨h.os, h.tape, h.output, h.size, fun k hk _ _ => h.block k hk⟩

theorem But.below {P M B : Nat} {w w' : World} (h : But P M w w') (hP : B ≤ P) (hM : B ≤ M) (hB : B ≤ w.heap.size) : Below B w w' := ⟨h.os, h.tape, h.output, h.size, fun k hk => h.block k (by omega) (by omega) (by omega)⟩

theorem But.trans {P M : Nat} {u v w : World} (h : But P M u v) (k : But P M v w) : But P M u w :=
  ⟨k.os.trans h.os, k.tape.trans h.tape, k.output.trans h.output, Nat.le_trans h.size k.size, fun i hi a b => (k.block i (Nat.lt_of_lt_of_le hi h.size) a b).trans (h.block i hi a b)⟩

theorem But.setCell {P M i : Nat} {w u : World} (h : But P M w u) (v : Value) : But P M w (u.setCell ⟨P, i, none⟩ v) :=
  h.trans ⟨rfl, rfl, rfl, by simp, fun _ _ a _ => Below.heap_setCell _ _ _ _ (by simpa using a)⟩

theorem But.grown {P M : Nat} {w u u' : World} (h : But P M w u) (g : u.grownBy u' (some M)) : But P M w u' :=
  h.trans ⟨g.os, g.tape, g.output, g.size, fun k hk _ b => g.block k hk (fun e => b (by injection e))⟩

/-- how a standing reads: its place and its count. -/
def st (p c : Int) : DataW Unit := .agg [.lit (.int .i64 p), .lit (.int .i64 c)]

def Rst (v : Value) : Option (DataW Unit × List MemPlace) :=
  match v with
  | .agg cs => match cs.toList with
    | [.int .i64 p, .int .i64 c] => some (st p c, [])
    | _ => none
  | _ => none

theorem Rst_mk (p c : Int) : Rst (.agg #[.int .i64 p, .int .i64 c]) = some (st p c, []) := rfl

theorem Rst_inv {v : Value} {y : DataW Unit × List MemPlace} (h : Rst v = some y) : ∃ p c, v = .agg #[.int .i64 p, .int .i64 c] ∧ y = (st p c, []) := by
  unfold Rst at h
  split at h
  · rename_i cs
    split at h
    · rename_i p c he
      injection h with h
      refine ⟨p, c, ?_, h.symm⟩
      rw [show cs = #[Value.int .i64 p, Value.int .i64 c] from Array.ext' he]
    · cases h
  · cases h

theorem st_inj {p c p' c' : Int} (h : st p c = st p' c') : p = p' ∧ c = c' := by
  unfold st at h
  simp at h
  exact h

/-- a book: block P holds its size and its map, which is block M. -/
structure Bk (w : World) (P M : Nat) (sz : Int) (n : Nat) (D : DataW Unit) : Prop where
  lt : P < w.heap.size
  c0 : w.cell? ⟨P, 0, none⟩ = some (.int .i64 sz)
  c1 : w.cell? ⟨P, 1, none⟩ = some (.map (some M))
  f : ∀ j, w.frozen? ⟨P, j, none⟩ = false
  own : w.ownsMap Tryz.prog 149 Rst M n D

theorem ownsMap_below {w w' : World} {M n : Nat} {D : DataW Unit} (h : w.ownsMap Tryz.prog 149 Rst M n D) {B : Nat} (hb : Below B w w') (hB : w.heap.size ≤ B) : w'.ownsMap Tryz.prog 149 Rst M n D := by
  have hlt := h.lt
  exact h.kept (row := none) ⟨hb.os, hb.tape, hb.output, hb.size, fun k hk _ => hb.block k (by omega)⟩ (by simp)

theorem Bk.below {w w' : World} {P M n : Nat} {sz : Int} {D : DataW Unit} (h : Bk w P M sz n D) (hb : Below w.heap.size w w') : Bk w' P M sz n D :=
  ⟨by have := hb.size; have := h.lt; omega, (hb.cell (p := ⟨P, 0, none⟩) h.lt).trans h.c0, (hb.cell (p := ⟨P, 1, none⟩) h.lt).trans h.c1, fun j => (hb.frozen (p := ⟨P, j, none⟩) h.lt).trans (h.f j), ownsMap_below h.own hb (Nat.le_refl _)⟩

theorem Bk.ne {w : World} {P M n : Nat} {sz : Int} {D : DataW Unit} (h : Bk w P M sz n D) : M ≠ P := by
  intro e
  obtain ⟨es, clock, hb, _⟩ := h.own
  have hc := h.c0
  rw [e] at hb
  simp [World.cell?, hb] at hc

/-- the book of the first k slots. -/
def bk (ss : List (Int × List Int)) : Nat → DataW Unit
  | 0 => .map []
  | k + 1 => if 0 < gc ss k then (bk ss k).put (kl (gl ss k)) (st (k : Int) (gc ss k)) else bk ss k

theorem bk_isMap (ss : List (Int × List Int)) (k : Nat) : Go.Maps.IsMap (bk ss k) := by
  induction k with
  | zero => exact Go.Maps.isMap_empty
  | succ k ih =>
    unfold bk
    split
    · exact ih.put _ _
    · exact ih

theorem kl_key (zs : List Int) : WideAt.IsKeyLit (kl zs) := trivial

theorem kl_inj {xs ys : List Int} (hx : fault xs = 0) (hy : fault ys = 0) (h : kl xs = kl ys) : xs = ys := by
  have h1 := key_mk hx
  rw [h] at h1
  have h2 := lawK.inj h1 (key_mk hy)
  have l1 := fault_len hx
  have l2 := fault_len hy
  unfold ints4 at h2
  simp at h2
  apply getD_ext (by omega)
  intro i hi
  rcases (by omega : i = 0 ∨ i = 1 ∨ i = 2 ∨ i = 3) with rfl | rfl | rfl | rfl
  · exact h2.1
  · exact h2.2.1
  · exact h2.2.2.1
  · exact h2.2.2.2

theorem slotF_good {ss : List (Int × List Int)} {j : Nat} (h : slotF ss j = 0) (hp : 0 < gc ss j) : fault (gl ss j) = 0 ∧ at2 ss (gl ss j) = (j : Int) ∧ gc ss j ≤ 99 := by
  unfold slotF at h
  split at h
  · cases h
  · rename_i h1
    rw [if_neg (by omega)] at h
    have h99 : gc ss j ≤ 99 := by
      simp at h1
      exact h1.2
    split at h
    · rename_i hf
      split at h
      · rename_i ha
        exact ⟨hf, ha, h99⟩
      · cases h
    · rename_i hf
      exact absurd h hf

theorem bk_has {ss : List (Int × List Int)} {zs : List Int} (hz : fault zs = 0) : ∀ k, (∀ j, j < k → slotF ss j = 0) → (Go.Maps.has (bk ss k) (kl zs) = true ↔ ∃ j, j < k ∧ hit ss zs j = true)
  | 0, _ => ⟨fun h => absurd h (by simp [bk, Go.Maps.has]), fun h => by obtain ⟨j, hj, _⟩ := h; omega⟩
  | k + 1, hall => by
    have ih := bk_has hz k (fun j hj => hall j (by omega))
    unfold bk
    split
    · rename_i hp
      have hg := slotF_good (hall k (by omega)) hp
      by_cases e : gl ss k = zs
      · rw [e, Go.Maps.has_put_same (bk_isMap ss k) (kl_key zs)]
        exact ⟨fun _ => ⟨k, by omega, by simp [hit, hp, e]⟩, fun _ => rfl⟩
      · rw [Go.Maps.has_put_other (fun e1 => e (kl_inj hg.1 hz e1.symm)), ih]
        constructor
        · rintro ⟨j, hj, h⟩
          exact ⟨j, by omega, h⟩
        · rintro ⟨j, hj, h⟩
          refine ⟨j, ?_, h⟩
          by_cases e2 : j = k
          · subst e2
            simp [hit, e] at h
          · omega
    · rename_i hp
      rw [ih]
      constructor
      · rintro ⟨j, hj, h⟩
        exact ⟨j, by omega, h⟩
      · rintro ⟨j, hj, h⟩
        refine ⟨j, ?_, h⟩
        by_cases e2 : j = k
        · subst e2
          simp [hit, hp] at h
        · omega

/-- what a look-up finds. -/
theorem bk_at {ss : List (Int × List Int)} {zs : List Int} (hz : fault zs = 0) (z : DataW Unit) : ∀ k j, (∀ j, j < k → slotF ss j = 0) → j < k → hit ss zs j = true → (∀ i, i < k → hit ss zs i = true → i = j) → (bk ss k).atKey (kl zs) z = st (j : Int) (gc ss j)
  | 0, _, _, hj, _, _ => by omega
  | k + 1, j, hall, hj, hh, hu => by
    unfold bk
    split
    · rename_i hp
      have hg := slotF_good (hall k (by omega)) hp
      by_cases e : gl ss k = zs
      · have : k = j := hu k (by omega) (by simp [hit, hp, e])
        subst this
        rw [e, Go.Maps.atKey_put_same (bk_isMap ss k) (kl_key zs)]
      · rw [Go.Maps.atKey_put_other (fun e1 => e (kl_inj hg.1 hz e1.symm))]
        have hjk : j ≠ k := fun e2 => by subst e2; simp [hit, e] at hh
        exact bk_at hz z k j (fun i hi => hall i (by omega)) (by omega) hh (fun i hi h => hu i (by omega) h)
    · rename_i hp
      have hjk : j ≠ k := fun e2 => by subst e2; simp [hit, hp] at hh
      exact bk_at hz z k j (fun i hi => hall i (by omega)) (by omega) hh (fun i hi h => hu i (by omega) h)

/-- what is wrong with a slot whatever the others are. -/
def slot1 (c : Int) (zs : List Int) : Int :=
  if (decide (0 ≤ c) && decide (c ≤ 99)) = false then 3 else if 0 < c then fault zs else if 0 < zs.length then 1 else 0

def takeC (D : DataW Unit) (c : Int) (zs : List Int) : Int :=
  if slot1 c zs ≠ 0 then slot1 c zs else if 0 < c ∧ Go.Maps.has D (kl zs) = true then 8 else 0

theorem takeC_eq {ss : List (Int × List Int)} {k : Nat} (hk : k < ss.length) (hall : ∀ j, j < k → slotF ss j = 0) : takeC (bk ss k) (gc ss k) (gl ss k) = slotF ss k := by
  cases h1 : (decide (0 ≤ gc ss k) && decide (gc ss k ≤ 99)) with
  | false =>
    have s1 : slot1 (gc ss k) (gl ss k) = 3 := if_pos h1
    rw [slotF_range h1]
    unfold takeC
    rw [s1]
    rfl
  | true =>
    have hr : 0 ≤ gc ss k ∧ gc ss k ≤ 99 := by simpa using h1
    by_cases h0 : gc ss k = 0
    · have hnp : ¬ (0 < gc ss k) := by omega
      by_cases hl : 0 < (gl ss k).length
      · have s1 : slot1 (gc ss k) (gl ss k) = 1 := by unfold slot1; rw [h1]; simp [hnp, hl]
        rw [slotF_form h0 hl]
        unfold takeC
        rw [s1]
        rfl
      · have s1 : slot1 (gc ss k) (gl ss k) = 0 := by unfold slot1; rw [h1]; simp [hnp, hl]
        rw [slotF_empty h0 (by omega)]
        unfold takeC
        rw [s1, if_neg (by simp), if_neg (fun h => hnp h.1)]
    · have hp : 0 < gc ss k := by omega
      have s1 : slot1 (gc ss k) (gl ss k) = fault (gl ss k) := by unfold slot1; rw [h1]; simp [hp]
      by_cases hf : fault (gl ss k) = 0
      · have hb := bk_has hf k hall
        by_cases ha : at2 ss (gl ss k) = (k : Int)
        · rw [slotF_ok h1 h0 hf ha]
          unfold takeC
          rw [s1, hf, if_neg (by simp), if_neg]
          rintro ⟨_, hh⟩
          obtain ⟨j, hj, hjh⟩ := hb.1 hh
          have hfirst : ∃ i, i ≤ j ∧ hit ss (gl ss k) i = true ∧ ∀ i', i' < i → hit ss (gl ss k) i' = false := by
            induction j using Nat.strongRecOn with
            | _ j ih =>
              by_cases hex : ∃ i, i < j ∧ hit ss (gl ss k) i = true
              · obtain ⟨i, hij, hi⟩ := hex
                obtain ⟨i0, h1, h2, h3⟩ := ih i hij (by omega) hi
                exact ⟨i0, by omega, h2, h3⟩
              · exact ⟨j, Nat.le_refl _, hjh, fun i' hi' => by
                  cases hx : hit ss (gl ss k) i'
                  · rfl
                  · exact absurd ⟨i', hi', hx⟩ hex⟩
          obtain ⟨i, hij, hih, hino⟩ := hfirst
          have := at2_hit (by omega) hino hih
          omega
        · rw [slotF_state h1 h0 hf ha]
          unfold takeC
          rw [s1, hf, if_neg (by simp), if_pos]
          refine ⟨hp, hb.2 ?_⟩
          cases hex : (List.range k).any (fun j => hit ss (gl ss k) j) with
          | true =>
            obtain ⟨j, hj, hjh⟩ := List.any_eq_true.1 hex
            exact ⟨j, List.mem_range.1 hj, hjh⟩
          | false =>
            exfalso
            apply ha
            refine at2_hit hk (fun j hj => ?_) (by simp [hit, hp])
            have := List.any_eq_false.1 hex j (List.mem_range.2 hj)
            simpa using this
      · rw [slotF_label h1 h0 hf]
        unfold takeC
        rw [s1, if_pos hf]

theorem zeroSt (w : World) : (zeroValue 157).run Tryz.prog w = .ok (.agg #[.int .i64 0, .int .i64 0]) w := by kernel_rfl

/-- a look-up finds the same in every world in which the block is that map. -/
theorem look_run {w : World} {M n : Nat} {D : DataW Unit} {zs : List Int} (h : w.ownsMap Tryz.prog 149 Rst M n D) (hf : fault zs = 0) :
    ∃ p c, D.atKey (kl zs) (st 0 0) = st p c ∧ ∀ w' : World, w'.ownsMap Tryz.prog 149 Rst M n D →
      (Instr.lookup 98 (.map (some M)) (.agg (ints4 zs)) true).run Tryz.prog w' = .ok (.tuple #[.agg #[.int .i64 p, .int .i64 c], .bool (Go.Maps.has D (kl zs))]) w' := by
  obtain ⟨v, ps, _, hv⟩ := h.look_ok lawK Tryz.underlying98 (zeroSt w) (Rst_mk 0 0) (key_mk hf)
  obtain ⟨p, c, rfl, hy⟩ := Rst_inv hv
  have hat : D.atKey (kl zs) (st 0 0) = st p c := by injection hy
  refine ⟨p, c, hat, fun w' h' => ?_⟩
  obtain ⟨v', ps', hrun, hv'⟩ := h'.look_ok lawK Tryz.underlying98 (zeroSt w') (Rst_mk 0 0) (key_mk hf)
  obtain ⟨p', c', rfl, hy'⟩ := Rst_inv hv'
  have hat' : D.atKey (kl zs) (st 0 0) = st p' c' := by injection hy'
  obtain ⟨rfl, rfl⟩ := st_inj (hat.symm.trans hat')
  exact hrun

theorem faultR_zero {ss : List (Int × List Int)} (h : faultR ss = 0) : ss.length ≤ 10 ∧ ∀ j, j < ss.length → slotF ss j = 0 := by
  unfold faultR at h
  split at h
  · cases h
  · rename_i h10
    refine ⟨by omega, fun j hj => ?_⟩
    split at h
    · rename_i i hi
      have := List.find?_some hi
      simp [h] at this
    · rename_i hi
      have := List.find?_eq_none.1 hi j (List.mem_range.2 hj)
      simpa using this

theorem at2_cases (ss : List (Int × List Int)) (zs : List Int) : at2 ss zs = -1 ∧ (∀ j, j < ss.length → hit ss zs j = false) ∨ ∃ j, j < ss.length ∧ at2 ss zs = (j : Int) ∧ hit ss zs j = true := by
  unfold at2
  split
  · rename_i i hi
    exact .inr ⟨i, List.mem_range.1 (List.mem_of_find?_eq_some hi), rfl, List.find?_some hi⟩
  · rename_i hi
    refine .inl ⟨rfl, fun j hj => ?_⟩
    have := List.find?_eq_none.1 hi j (List.mem_range.2 hj)
    simpa using this

def codeFor (ss : List (Int × List Int)) (zs : List Int) : Int := if faultR ss = 0 then fault zs else faultR ss

/-- a registry without a fault. -/
structure Good (ss : List (Int × List Int)) : Prop where
  few : ss.length ≤ 10
  low : ∀ j, j < ss.length → 0 ≤ gc ss j
  top : ∀ j, j < ss.length → gc ss j ≤ 99
  empty : ∀ j, j < ss.length → gc ss j = 0 → gl ss j = []
  right : ∀ j, j < ss.length → 0 < gc ss j → fault (gl ss j) = 0
  uniq : ∀ i j, i < ss.length → j < ss.length → 0 < gc ss i → 0 < gc ss j → gl ss i = gl ss j → i = j

theorem slotF_low {ss : List (Int × List Int)} {j : Nat} (h : slotF ss j = 0) : 0 ≤ gc ss j ∧ gc ss j ≤ 99 ∧ (gc ss j = 0 → gl ss j = []) := by
  unfold slotF at h
  split at h
  · cases h
  · rename_i h1
    have h99 : 0 ≤ gc ss j ∧ gc ss j ≤ 99 := by simpa using h1
    refine ⟨h99.1, h99.2, fun h0 => ?_⟩
    rw [if_pos h0] at h
    split at h
    · cases h
    · rename_i h2
      exact List.eq_nil_of_length_eq_zero (by omega)

theorem good_of {ss : List (Int × List Int)} (hr : faultR ss = 0) : Good ss := by
  obtain ⟨h10, hall⟩ := faultR_zero hr
  refine ⟨h10, fun j hj => (slotF_low (hall j hj)).1, fun j hj => (slotF_low (hall j hj)).2.1, fun j hj => (slotF_low (hall j hj)).2.2, fun j hj hp => (slotF_good (hall j hj) hp).1, fun i j hi hj pi pj e => ?_⟩
  have h1 := (slotF_good (hall i hi) pi).2.1
  have h2 := (slotF_good (hall j hj) pj).2.1
  rw [e] at h1
  omega

theorem fault_of_good {ss : List (Int × List Int)} (g : Good ss) : faultR ss = 0 := by
  refine faultR_ok g.few (fun j hj => ?_)
  have hr : (decide (0 ≤ gc ss j) && decide (gc ss j ≤ 99)) = true := by simp [g.low j hj, g.top j hj]
  by_cases h0 : gc ss j = 0
  · exact slotF_empty h0 (by rw [g.empty j hj h0]; rfl)
  · have hp : 0 < gc ss j := by have := g.low j hj; omega
    refine slotF_ok hr h0 (g.right j hj hp) (at2_hit hj (fun i hi => ?_) (by simp [hit, hp]))
    cases hx : hit ss (gl ss j) i
    · rfl
    · simp [hit] at hx
      have := g.uniq i j (by omega) hj hx.1 hp hx.2
      omega

/-- the book D holds just the slots of ss that are meant. -/
structure Rep (ss : List (Int × List Int)) (D : DataW Unit) : Prop where
  keys : ∀ k, Go.Maps.has D k = true ↔ ∃ j, j < ss.length ∧ 0 < gc ss j ∧ k = kl (gl ss j)
  vals : ∀ j, j < ss.length → 0 < gc ss j → ∀ z, D.atKey (kl (gl ss j)) z = st (j : Int) (gc ss j)

theorem bk_keys (ss : List (Int × List Int)) (k : Lit) : ∀ n, Go.Maps.has (bk ss n) k = true ↔ ∃ j, j < n ∧ 0 < gc ss j ∧ k = kl (gl ss j)
  | 0 => ⟨fun h => absurd h (by simp [bk, Go.Maps.has]), fun h => by obtain ⟨j, hj, _⟩ := h; omega⟩
  | n + 1 => by
    have ih := bk_keys ss k n
    unfold bk
    split
    · rename_i hp
      by_cases e : k = kl (gl ss n)
      · rw [e, Go.Maps.has_put_same (bk_isMap ss n) (kl_key _)]
        exact ⟨fun _ => ⟨n, by omega, hp, rfl⟩, fun _ => rfl⟩
      · rw [Go.Maps.has_put_other e, ih]
        constructor
        · rintro ⟨j, hj, h⟩
          exact ⟨j, by omega, h⟩
        · rintro ⟨j, hj, h⟩
          refine ⟨j, ?_, h⟩
          by_cases e2 : j = n
          · exact absurd (e2 ▸ h.2) e
          · omega
    · rename_i hp
      rw [ih]
      constructor
      · rintro ⟨j, hj, h⟩
        exact ⟨j, by omega, h⟩
      · rintro ⟨j, hj, h⟩
        refine ⟨j, ?_, h⟩
        by_cases e2 : j = n
        · exact absurd (e2 ▸ h.1) hp
        · omega

theorem rep_bk {ss : List (Int × List Int)} (hr : faultR ss = 0) : Rep ss (bk ss ss.length) := by
  obtain ⟨_, hall⟩ := faultR_zero hr
  have g := good_of hr
  refine ⟨fun k => bk_keys ss k ss.length, fun j hj hp z => bk_at (g.right j hj hp) z ss.length j hall hj (by simp [hit, hp]) (fun i hi hih => ?_)⟩
  have hg : 0 < gc ss i ∧ gl ss i = gl ss j := by simpa [hit] using hih
  exact g.uniq i j hi hj hg.1 hp hg.2

/-- a loop over the book under way: slot j is still to come where L j. -/
def RngB (w : World) (M r n : Nat) (ss : List (Int × List Int)) (D : DataW Unit) (L : Nat → Bool) (cnt : Nat) : Prop :=
  ∃ left, w.ranges Tryz.prog 149 Rst M r n D left cnt ∧ (∀ j, j < ss.length → 0 < gc ss j → left (kl (gl ss j)) = L j) ∧ ∀ k, left k = true → Go.Maps.has D k = true

theorem RngB.start {w : World} {M r n : Nat} {ss : List (Int × List Int)} {D : DataW Unit} {cnt : Nat} (rep : Rep ss D) (h : w.ranges Tryz.prog 149 Rst M r n D (Go.Maps.has D) cnt) : RngB w M r n ss D (fun _ => true) cnt :=
  ⟨_, h, fun j hj hp => (rep.keys _).2 ⟨j, hj, hp, rfl⟩, fun _ hk => hk⟩

theorem RngB.left_eq {w : World} {M r n : Nat} {ss : List (Int × List Int)} {D : DataW Unit} {L : Nat → Bool} {cnt : Nat} (h : RngB w M r n ss D L cnt) : w.rangeLeft M r = cnt := by
  obtain ⟨_, h, _⟩ := h
  exact h.left_eq

theorem RngB.ne {w : World} {M r n : Nat} {ss : List (Int × List Int)} {D : DataW Unit} {L : Nat → Bool} {cnt : Nat} (h : RngB w M r n ss D L cnt) : r ≠ M := by
  obtain ⟨_, h, _⟩ := h
  exact h.ne

theorem RngB.lt {w : World} {M r n : Nat} {ss : List (Int × List Int)} {D : DataW Unit} {L : Nat → Bool} {cnt : Nat} (h : RngB w M r n ss D L cnt) : r < w.heap.size := by
  obtain ⟨_, h, _⟩ := h
  exact h.lt

theorem RngB.kept {w w' : World} {M r n : Nat} {ss : List (Int × List Int)} {D : DataW Unit} {L : Nat → Bool} {cnt : Nat} (h : RngB w M r n ss D L cnt) {row : Option Nat} (hg : w.grownBy w' row) (h1 : some M ≠ row) (h2 : some r ≠ row) : RngB w' M r n ss D L cnt := by
  obtain ⟨left, h, a, b⟩ := h
  exact ⟨left, h.kept hg h1 h2, a, b⟩

theorem Below.grownAll {w w' : World} (hb : Below w.heap.size w w') : w.grownBy w' none := ⟨hb.os, hb.tape, hb.output, hb.size, fun k hk _ => hb.block k hk⟩

theorem RngB.below {w w' : World} {M r n : Nat} {ss : List (Int × List Int)} {D : DataW Unit} {L : Nat → Bool} {cnt : Nat} (h : RngB w M r n ss D L cnt) (hb : Below w.heap.size w w') : RngB w' M r n ss D L cnt := h.kept (Below.grownAll hb) (by simp) (by simp)

theorem next_book {ops : Array Oper} {rest : List Oper} {o : Oper} {a : Act} {Q : Exit → Act → World → Prop} (w : World) (hg : o.guard = none) (it : Operand) (hop : o.op = Op.next it false) (M r n : Nat) {ss : List (Int × List Int)} {D : DataW Unit} {L : Nat → Bool} {cnt : Nat}
    (good : Good ss) (rep : Rep ss D) (hit : a.eval it = .pointer (some ⟨r, 0, none⟩)) (h : RngB w M r n ss D L cnt)
    (hDone : cnt = 0 → (∀ j, j < ss.length → 0 < gc ss j → L j = false) → wpList Tryz.prog ops Q rest (a.put o.dst (.tuple #[.bool false])) w)
    (hMore : ∀ j, j < ss.length → 0 < gc ss j → L j = true → ∀ w' cnt', RngB w' M r n ss D (fun i => L i && !(i == j)) cnt' → cnt' < cnt → w.grownBy w' (some r) → w'.heap.size = w.heap.size →
      (Instr.entry (.pointer (some ⟨r, 0, none⟩))).run Tryz.prog w' = .ok (.tuple #[.agg #[.int .i64 (gt (gl ss j) 0), .int .i64 (gt (gl ss j) 1), .int .i64 (gt (gl ss j) 2), .int .i64 (gt (gl ss j) 3)], .agg #[.int .i64 (j : Int), .int .i64 (gc ss j)]]) w' →
      wpList Tryz.prog ops Q rest (a.put o.dst (.tuple #[.bool true, .agg #[.int .i64 (gt (gl ss j) 0), .int .i64 (gt (gl ss j) 1), .int .i64 (gt (gl ss j) 2), .int .i64 (gt (gl ss j) 3)], .agg #[.int .i64 (j : Int), .int .i64 (gc ss j)]])) w') :
    wpList Tryz.prog ops Q (o :: rest) a w := by
  obtain ⟨left, hr, hL, hsub⟩ := h
  refine wpList_next_ranges w hg it hop 149 lawK Rst (fun x : Value => x) (fun x : Value => x) (fun key _ _ => ⟨key, rfl⟩) (fun v _ _ => ⟨v, rfl⟩) M r n D left cnt hit hr (fun h0 hl => hDone h0 (fun j hj hp => by rw [← hL j hj hp]; exact hl _)) ?_
  intro x c k y w' cnt' hkey hlk hv hat hr' hlt hgr hsz hen
  obtain ⟨j, hj, hp, rfl⟩ := (rep.keys k).1 (hsub k hlk)
  have hx : x = .agg (ints4 (gl ss j)) := lawK.inj hkey (key_mk (good.right j hj hp))
  obtain ⟨p, q, hc, hy⟩ := Rst_inv hv
  have e1 : st p q = st (j : Int) (gc ss j) := by
    have := (hat (st 0 0)).symm.trans (rep.vals j hj hp (st 0 0))
    rw [hy] at this
    exact this
  obtain ⟨rfl, rfl⟩ := st_inj e1
  subst hx hc
  unfold ints4 at hen
  refine hMore j hj hp (by rw [← hL j hj hp]; exact hlk) w' cnt' ⟨_, hr', fun i hi hpi => ?_, fun k hk => hsub k (by simp at hk; exact hk.1)⟩ hlt hgr hsz hen
  show (left (kl (gl ss i)) && !(kl (gl ss i)).sameKey (kl (gl ss j))) = _
  rw [hL i hi hpi]
  by_cases e : i = j
  · subst e
    rw [WideAt.sameKey_self (kl_key _)]
    simp
  · rw [Go.Maps.sameKey_ne (fun e1 => e (good.uniq i j hi hj hpi hp (kl_inj (good.right i hi hpi) (good.right j hj hp) e1)))]
    simp [e]

def atC (ss : List (Int × List Int)) (p : Int) : Int := if p < 0 ∨ (ss.length : Int) ≤ p then 3 else if gc ss p.toNat = 0 then 4 else 0

def atL (ss : List (Int × List Int)) (p : Int) : List Int := if atC ss p = 0 then gl ss p.toNat else []

theorem atC_range {ss : List (Int × List Int)} {p : Int} (h : p < 0 ∨ (ss.length : Int) ≤ p) : atC ss p = 3 := if_pos h

theorem atC_in {ss : List (Int × List Int)} {j : Nat} (h : j < ss.length) : atC ss (j : Int) = if gc ss j = 0 then 4 else 0 := by
  unfold atC
  rw [if_neg (by omega)]
  rfl

theorem atL_no {ss : List (Int × List Int)} {p : Int} (h : atC ss p ≠ 0) : atL ss p = [] := if_neg h

theorem atL_yes {ss : List (Int × List Int)} {j : Nat} (h : atC ss (j : Int) = 0) : atL ss (j : Int) = gl ss j := if_pos h

theorem Bk.keep {w w' : World} {P M n : Nat} {sz : Int} {D : DataW Unit} (h : Bk w P M sz n D) {r : Nat} (hg : w.grownBy w' (some r)) (h1 : P ≠ r) (h2 : M ≠ r) : Bk w' P M sz n D := by
  have e := hg.block P h.lt (fun e => h1 (by injection e))
  exact ⟨by have := hg.size; have := h.lt; omega, (World.cell?_of_block (a := ⟨P, 0, none⟩) e).trans h.c0, (World.cell?_of_block (a := ⟨P, 1, none⟩) e).trans h.c1, fun j => (World.frozen?_of_block (a := ⟨P, j, none⟩) e).trans (h.f j), h.own.kept hg (fun e => h2 (by injection e))⟩

theorem bel_grown {B r : Nat} {a w w' : World} (h : Below B a w) (hg : w.grownBy w' (some r)) (hr : B ≤ r) (hB : B ≤ w.heap.size) : Below B a w' := h.trans ⟨hg.os, hg.tape, hg.output, hg.size, fun k hk => hg.block k (by omega) (fun e => by injection e; omega)⟩

theorem bel_grown0 {B : Nat} {a w w' : World} (h : Below B a w) (hg : w.grownBy w' none) (hB : B ≤ w.heap.size) : Below B a w' := h.trans ⟨hg.os, hg.tape, hg.output, hg.size, fun k hk => hg.block k (by omega) (fun e => by cases e)⟩

set_option maxRecDepth 100000 in
theorem markAt_calls (P M n : Nat) (p : Int) (ss : List (Int × List Int)) (D : DataW Unit) (w : World) (hb : Bk w P M (ss.length : Int) n D) (good : Good ss) (rep : Rep ss D) :
    Calls Tryz.prog 102 #[.pointer (some ⟨P, 0, none⟩), .int .i64 p] w fun e w' => e = .returned (.tuple #[.agg (ints4 (atL ss p)), .int .i64 (atC ss p)]) ∧ Below w.heap.size w w' := by
  have c0 := hb.c0
  have c1 := hb.c1
  have hlt := hb.lt
  have few := good.few
  by_cases hr : p < 0 ∨ (ss.length : Int) ≤ p
  · have HC := hide (atC_range hr)
    have HL := hide (atL_no (ss := ss) (p := p) (by rw [HC.out]; decide))
    by_cases h0 : p < 0
    · go_enter Tryz.func102, Tryz.ntmps102
      go_wp2
      refine bodyPost_ret (v := .tuple #[.agg #[.int .i64 0, .int .i64 0, .int .i64 0, .int .i64 0], .int .i64 3]) (by simp [results, Tryz.results102, go_sem]) rfl ⟨by rw [HC.out, HL.out]; rfl, ?_⟩
      exact (Below.refl _ _).alloc (Nat.le_refl _) _
    · have h1 : (ss.length : Int) ≤ p := by omega
      go_enter Tryz.func102, Tryz.ntmps102
      go_wp2
      refine bodyPost_ret (v := .tuple #[.agg #[.int .i64 0, .int .i64 0, .int .i64 0, .int .i64 0], .int .i64 3]) (by simp [results, Tryz.results102, go_sem]) rfl ⟨by rw [HC.out, HL.out]; rfl, ?_⟩
      exact (Below.refl _ _).alloc (Nat.le_refl _) _
  · obtain ⟨q, rfl⟩ : ∃ q : Nat, p = (q : Int) := ⟨p.toNat, by omega⟩
    have hq : q < ss.length := by omega
    have hn0 : ¬ ((q : Int) < 0) := by omega
    have hn1 : ¬ ((ss.length : Int) ≤ (q : Int)) := by omega
    have own := hb.own
    clear hr
    go_enter Tryz.func102, Tryz.ntmps102
    go_wp2_with (first
      | (at_range; refine wpList_range_own _ rfl _ 98 rfl 149 157 lawK Tryz.underlying98 _ M n _ rfl (own.alloc _) ?_; intro w0 hrg0 hg0 hs0)
      | go_in)
    try go_frame
    have hz0 : (w.alloc (.cells #[.int .i64 0, .int .i64 0, .int .i64 0, .int .i64 0] 149)).heap.size = w.heap.size + 1 := by simp
    rw [hz0] at hrg0 hs0
    try rw [hz0]
    have b0 : Below w.heap.size w w0 := bel_grown0 ((Below.refl _ _).alloc (Nat.le_refl _) _) hg0 (by simp)
    have e0 := hg0.block w.heap.size (by simp) (by simp)
    have z4 : ∀ i v, (w.alloc (.cells #[.int .i64 0, .int .i64 0, .int .i64 0, .int .i64 0] 149)).cell? ⟨w.heap.size, i, none⟩ = some v → w0.cell? ⟨w.heap.size, i, none⟩ = some v := fun i v h => (World.cell?_of_block (a := ⟨w.heap.size, i, none⟩) e0).trans h
    have zf : ∀ i, w0.frozen? ⟨w.heap.size, i, none⟩ = false := fun i => (World.frozen?_of_block (a := ⟨w.heap.size, i, none⟩) e0).trans (by go_simp)
    have y0 := z4 0 (.int .i64 0) (by go_simp)
    have y1 := z4 1 (.int .i64 0) (by go_simp)
    have y2 := z4 2 (.int .i64 0) (by go_simp)
    have y3 := z4 3 (.int .i64 0) (by go_simp)
    have HB0 := hide b0
    have HR0 := hide (RngB.start rep hrg0)
    have HZF := hide zf
    have HZ : Hid (w0.heap.size = w.heap.size + 1 + 1) := hs0
    clear hrg0 hg0 hs0 hz0 z4 zf e0 b0
    go_loopw [24] (fun _ wr => ∃ (L : Nat → Bool) (cnt : Nat), RngB wr M (w.heap.size + 1) n ss D L cnt ∧ (∀ j, j < ss.length → 0 < gc ss j → L j = false → j ≠ q) ∧ Below w.heap.size w wr ∧ w.heap.size + 1 < wr.heap.size ∧
        (wr.cell? ⟨w.heap.size, 0, none⟩ = some (.int .i64 0) ∧ wr.cell? ⟨w.heap.size, 1, none⟩ = some (.int .i64 0) ∧ wr.cell? ⟨w.heap.size, 2, none⟩ = some (.int .i64 0) ∧ wr.cell? ⟨w.heap.size, 3, none⟩ = some (.int .i64 0)) ∧ ∀ i, wr.frozen? ⟨w.heap.size, i, none⟩ = false)
      (fun _ wr => wr.rangeLeft M (w.heap.size + 1))
    case atStart => exact ⟨_, _, HR0.out, fun j _ _ h => (by cases h), HB0.out, by have := HZ.out; omega, ⟨y0, y1, y2, y3⟩, HZF.out⟩
    case round =>
      clear y0 y1 y2 y3
      obtain ⟨L, cnt, hrg, hno, hbel, hsz, ⟨y0, y1, y2, y3⟩, hfz⟩ := hrel
      have f0 := hfz 0
      have f1 := hfz 1
      have f2 := hfz 2
      have f3 := hfz 3
      have HNO := hide hno
      clear hno
      go_wp2_with (first
        | (at_next; refine next_book _ rfl _ rfl M (w.heap.size + 1) n good rep rfl hrg ?_ ?_)
        | go_in)
      · intro hc0 hl0
        have HC : Hid (atC ss (q : Int) = 4) := by
          show atC ss (q : Int) = 4
          rw [atC_in hq]
          by_cases h0 : gc ss q = 0
          · rw [if_pos h0]
          · exact absurd rfl (HNO.out q hq (by have := good.low q hq; omega) (hl0 q hq (by have := good.low q hq; omega)))
        have HL := hide (atL_no (ss := ss) (p := (q : Int)) (by rw [HC.out]; decide))
        have HE := hide hbel
        clear hl0 hbel
        go_wp2
        refine bodyPost_ret (v := .tuple #[.agg #[.int .i64 0, .int .i64 0, .int .i64 0, .int .i64 0], .int .i64 4]) (by simp [results, Tryz.results102, go_sem, y0, y1, y2, y3]) rfl ⟨by rw [HC.out, HL.out]; rfl, ?_⟩
        exact (((HE.out.setCell (Nat.le_refl _) _).setCell (Nat.le_refl _) _).setCell (Nat.le_refl _) _).setCell (Nat.le_refl _) _
      · intro j hj hp hLj w1 cnt1 hrg1 hlt1 hg1 hs1 hen
        have hr1 : M ≠ w.heap.size + 1 := hrg.ne.symm
        have e1 := hg1.block w.heap.size (by omega) (by simp)
        have v0 := (World.cell?_of_block (a := ⟨w.heap.size, 0, none⟩) e1).trans y0
        have v1 := (World.cell?_of_block (a := ⟨w.heap.size, 1, none⟩) e1).trans y1
        have v2 := (World.cell?_of_block (a := ⟨w.heap.size, 2, none⟩) e1).trans y2
        have v3 := (World.cell?_of_block (a := ⟨w.heap.size, 3, none⟩) e1).trans y3
        have g0 := (World.frozen?_of_block (a := ⟨w.heap.size, 0, none⟩) e1).trans f0
        have g1 := (World.frozen?_of_block (a := ⟨w.heap.size, 1, none⟩) e1).trans f1
        have g2 := (World.frozen?_of_block (a := ⟨w.heap.size, 2, none⟩) e1).trans f2
        have g3 := (World.frozen?_of_block (a := ⟨w.heap.size, 3, none⟩) e1).trans f3
        have HG : Hid (∀ i, w1.frozen? ⟨w.heap.size, i, none⟩ = false) := fun i => (World.frozen?_of_block (a := ⟨w.heap.size, i, none⟩) e1).trans (hfz i)
        have HB1 := hide (bel_grown hbel hg1 (by omega) hbel.size)
        have HR1 := hide hrg1
        have hz1 : w.heap.size + 1 < w1.heap.size := by omega
        have HLT := hide hlt1
        have HRG := hide hrg
        clear hrg1 hg1 hfz y0 y1 y2 y3 f0 f1 f2 f3 hbel hlt1 hrg
        by_cases he : j = q
        · subst he
          have ej : ((j : Int) == (j : Int)) = true := by simp
          have HC : Hid (atC ss (j : Int) = 0) := by show atC ss (j : Int) = 0; rw [atC_in hq, if_neg (by omega)]
          have HL := hide (atL_yes HC.out)
          have HX := hide ((HB1.out.alloc HB1.out.size (.cells #[.int .i64 (gt (gl ss j) 0), .int .i64 (gt (gl ss j) 1), .int .i64 (gt (gl ss j) 2), .int .i64 (gt (gl ss j) 3)] 149)).alloc (by have := HB1.out.size; simp; omega) (.cells #[.int .i64 (j : Int), .int .i64 (gc ss j)] 157))
          have al : Below w1.heap.size w1 ((w1.alloc (.cells #[.int .i64 (gt (gl ss j) 0), .int .i64 (gt (gl ss j) 1), .int .i64 (gt (gl ss j) 2), .int .i64 (gt (gl ss j) 3)] 149)).alloc (.cells #[.int .i64 (j : Int), .int .i64 (gc ss j)] 157)) := ((Below.refl _ _).alloc (Nat.le_refl _) _).alloc (by simp) _
          have r0 := (al.cell (p := ⟨w.heap.size, 0, none⟩) (by show w.heap.size < _; omega)).trans v0
          have r1 := (al.cell (p := ⟨w.heap.size, 1, none⟩) (by show w.heap.size < _; omega)).trans v1
          have r2 := (al.cell (p := ⟨w.heap.size, 2, none⟩) (by show w.heap.size < _; omega)).trans v2
          have r3 := (al.cell (p := ⟨w.heap.size, 3, none⟩) (by show w.heap.size < _; omega)).trans v3
          have q0 := (al.frozen (p := ⟨w.heap.size, 0, none⟩) (by show w.heap.size < _; omega)).trans g0
          have q1 := (al.frozen (p := ⟨w.heap.size, 1, none⟩) (by show w.heap.size < _; omega)).trans g1
          have q2 := (al.frozen (p := ⟨w.heap.size, 2, none⟩) (by show w.heap.size < _; omega)).trans g2
          have q3 := (al.frozen (p := ⟨w.heap.size, 3, none⟩) (by show w.heap.size < _; omega)).trans g3
          clear v0 v1 v2 v3 g0 g1 g2 g3 al
          go_wp2
          refine bodyPost_ret (v := .tuple #[.agg #[.int .i64 (gt (gl ss j) 0), .int .i64 (gt (gl ss j) 1), .int .i64 (gt (gl ss j) 2), .int .i64 (gt (gl ss j) 3)], .int .i64 0]) (by simp [results, Tryz.results102, go_sem, r0, r1, r2, r3]) rfl ⟨by rw [HC.out, HL.out]; rfl, ?_⟩
          exact (((HX.out.setCell (Nat.le_refl _) _).setCell (Nat.le_refl _) _).setCell (Nat.le_refl _) _).setCell (Nat.le_refl _) _
        · have ej : ((j : Int) == (q : Int)) = false := by simp; omega
          go_wp2
          go_roundw
          case rel =>
            have al : Below w1.heap.size w1 ((w1.alloc (.cells #[.int .i64 (gt (gl ss j) 0), .int .i64 (gt (gl ss j) 1), .int .i64 (gt (gl ss j) 2), .int .i64 (gt (gl ss j) 3)] 149)).alloc (.cells #[.int .i64 (j : Int), .int .i64 (gc ss j)] 157)) := ((Below.refl _ _).alloc (Nat.le_refl _) _).alloc (by simp) _
            refine ⟨_, cnt1, HR1.out.below al, fun i hi hpi hLi => ?_, HB1.out.trans (al.mono HB1.out.size), by have := al.size; omega, ⟨(al.cell (p := ⟨w.heap.size, 0, none⟩) (by show w.heap.size < _; omega)).trans v0, (al.cell (p := ⟨w.heap.size, 1, none⟩) (by show w.heap.size < _; omega)).trans v1, (al.cell (p := ⟨w.heap.size, 2, none⟩) (by show w.heap.size < _; omega)).trans v2, (al.cell (p := ⟨w.heap.size, 3, none⟩) (by show w.heap.size < _; omega)).trans v3⟩, fun i => (al.frozen (p := ⟨w.heap.size, i, none⟩) (by show w.heap.size < _; omega)).trans (HG.out i)⟩
            by_cases e : i = j
            · omega
            · exact HNO.out i hi hpi (by simpa [e] using hLi)
          case measure =>
            have al : Below w1.heap.size w1 ((w1.alloc (.cells #[.int .i64 (gt (gl ss j) 0), .int .i64 (gt (gl ss j) 1), .int .i64 (gt (gl ss j) 2), .int .i64 (gt (gl ss j) 3)] 149)).alloc (.cells #[.int .i64 (j : Int), .int .i64 (gc ss j)] 157)) := ((Below.refl _ _).alloc (Nat.le_refl _) _).alloc (by simp) _
            rw [(HR1.out.below al).left_eq, HRG.out.left_eq]
            exact HLT.out

set_option maxRecDepth 100000 in
theorem labelAt_calls (P M n : Nat) (p : Int) (ss : List (Int × List Int)) (D : DataW Unit) (w : World) (hb : Bk w P M (ss.length : Int) n D) (good : Good ss) (rep : Rep ss D) :
    Calls Tryz.prog 85 #[.pointer (some ⟨P, 0, none⟩), .int .i64 p] w fun e w' => ∃ ra rn rc, e = .returned (.agg #[.int .i64 (atC ss p), .slice ra rn rc]) ∧ OS (InR w.heap.size w'.heap.size) ra rn (atL ss p) w' ∧ Below w.heap.size w w' := by
  have M0 := (Mm.start w).alloc2 (.int .i64 0) (.slice none 0 0) 106
  have hb0 := hb.below ((Below.refl w.heap.size w).alloc (Nat.le_refl _) (.cells #[.int .i64 0, .slice none 0 0] 106))
  by_cases hc : atC ss p = 0
  · have ec : (atC ss p != 0) = false := by simp [hc]
    have hl4 : (atL ss p).length = 4 := by
      unfold atL
      rw [if_pos hc]
      unfold atC at hc
      split at hc
      · cases hc
      · split at hc
        · cases hc
        · rename_i h1 h2
          exact fault_len (good.right _ (by omega) (by have := good.low p.toNat (by omega); omega))
    go_enter Tryz.func85, Tryz.ntmps85
    go_wp2_with fail
    refine (markAt_calls P M n p ss D _ hb0 good rep).mono ?_
    rintro e w1 ⟨rfl, g1⟩
    have M1 := (M0.below g1).alloc4 (.int .i64 (gt (atL ss p) 0)) (.int .i64 (gt (atL ss p) 1)) (.int .i64 (gt (atL ss p) 2)) (.int .i64 (gt (atL ss p) 3)) 149
    have HM1 := hide M1
    clear g1 M0 hb0 M1
    unfold ints4
    go_wp2_with fail
    refine (labelOf_calls _ _ _ _ _).mono ?_
    rintro e w2 ⟨b, rfl, hbN, blk, g2⟩
    have M2 := HM1.out.below g2
    have c0 := M2.cell 4 rfl
    have c1 := M2.cell 5 rfl
    have f0 := M2.fz 4 rfl
    have f1 := M2.fz 5 rfl
    have hlt := M2.lt 4 rfl
    have hW := HM1.out.lt 4 rfl
    have HB := hide M2.bel
    have HK := hide blk
    rw [← list4 hl4] at blk
    have HK := hide blk
    clear M2 g2 blk
    go_wp2
    refine bodyPost_ret (v := .agg #[.int .i64 0, .slice (some ⟨b, 0, none⟩) 4 4]) (by simp [results, Tryz.results85, go_sem, c0, c1]) rfl ⟨_, 4, 4, by rw [hc], OS.ofBlk ((HK.out.setCell (by show w.heap.size ≠ b; omega) _).setCell (by show w.heap.size ≠ b; omega) _) ⟨by omega, by have := HK.out.1; simpa using this⟩ hl4 (by omega), (HB.out.setCell (Nat.le_refl _) _).setCell (Nat.le_refl _) _⟩
  · have ec : (atC ss p != 0) = true := by simp [hc]
    have HL := hide (atL_no hc)
    go_enter Tryz.func85, Tryz.ntmps85
    go_wp2_with fail
    refine (markAt_calls P M n p ss D _ hb0 good rep).mono ?_
    rintro e w1 ⟨rfl, g1⟩
    have M1 := (M0.below g1).alloc4 (.int .i64 (gt (atL ss p) 0)) (.int .i64 (gt (atL ss p) 1)) (.int .i64 (gt (atL ss p) 2)) (.int .i64 (gt (atL ss p) 3)) 149
    have c0 := M1.cell 4 rfl
    have c1 := M1.cell 5 rfl
    have f0 := M1.fz 4 rfl
    have f1 := M1.fz 5 rfl
    have HB := hide M1.bel
    clear g1 M0 hb0 M1
    unfold ints4
    go_wp2
    refine bodyPost_ret (v := .agg #[.int .i64 (atC ss p), .slice none 0 0]) (by simp [results, Tryz.results85, go_sem, c0, c1]) rfl ⟨_, 0, 0, rfl, ⟨by rw [HL.out]; rfl, by omega, .inl rfl⟩, (HB.out.setCell (Nat.le_refl _) _).setCell (Nat.le_refl _) _⟩

end Go.Proofs.YtnibngigbcakkaaGreat
