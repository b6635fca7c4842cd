import Derived.Test.YtnlkigjgloeonaaGreatRows
import Derived.Test.YtnlkigjgloeonaaGreatReg
import Derived.Maps.RangeWalk
import Derived.Maps.Ext
import Derived.Maps.OwnOps
import Derived.DeepKeys4
import Derived.WalkKit
import Derived.ProofKit
import Derived.OpenShut
import Derived.ShutString
import Derived.ChangeOld
import Derived.Below
import Derived.WalkSpells
import Derived.Deep.QuietTactic
import Derived.BigQuiet
import Derived.Deep.RegionWith
import Derived.Deep.WholeRow
import Derived.Deep.DeepCutAuto
import Derived.Deep.RegionHeld2
import Derived.Deep.AppendLies
import Derived.Deep.RegionLaw
namespace Go.Proofs.YtnlkigjgloeonaaGreat
open Go.ChangeShapes Go.WideShapes Go.ChangeAt Go.RowKit

/-- what a label reads as, as a map's key. -/
def kl (zs : List Int) : Lit := .string (keyBytes [.int .i64 (gt zs 0), .int .i64 (gt zs 1), .int .i64 (gt zs 2), .int .i64 (gt zs 3)])

set_option maxRecDepth 100000 in
theorem typesSize : ∃ m, Tryz.prog.types.size = m + 3 := ⟨Tryz.prog.types.size - 3, by kernel_rfl⟩
set_option maxRecDepth 100000 in
theorem laidOutK : laidOutB Tryz.prog = true := by kernel_rfl
set_option maxRecDepth 100000 in
theorem rowK : (232 : TypeId) < Tryz.prog.types.size := of_decide_eq_true (by kernel_rfl)
set_option maxRecDepth 100000 in
theorem wideK : (match Tryz.prog.underlying 232 with | some (.array _ _) | some (.struct _) => true | _ => false) = true := by rw [Tryz.underlying232]
set_option maxRecDepth 100000 in
theorem lawK : Go.Maps.Keyed Tryz.prog 232 := Go.Maps.Keyed.of_law (deep_law_laid laidOutK (m := 3) (by omega) rowK (by kernel_rfl) wideK)
set_option maxRecDepth 100000 in
theorem keyTypeK : Tryz.prog.keyType 232 = true := by kernel_rfl
set_option maxRecDepth 100000 in
theorem cellsK : Tryz.prog.cellsOf 232 = 4 := by kernel_rfl
set_option maxRecDepth 100000 in
theorem cellsL : Tryz.prog.cellsOf 230 = 4 := by kernel_rfl
set_option maxRecDepth 100000 in
theorem cellsI : Tryz.prog.cellsOf 2 = 1 := by kernel_rfl

theorem wf5 {x : Int} (h : 0 ≤ x ∧ x ≤ 5) : (Lit.int .i64 x).wf = true := by
  simp [Lit.wf, IntKind.min, IntKind.max, IntKind.signed, IntKind.bits]
  omega

set_option maxRecDepth 100000 in
theorem key_mk {zs : List Int} (h : fault zs = 0) : keyOf Tryz.prog 232 (.agg (ints4 zs)) = some (kl zs) := by
  have h4 := fault_len h
  have w0 := wf5 (fault_all h 0 (by omega))
  have w1 := wf5 (fault_all h 1 (by omega))
  have w2 := wf5 (fault_all h 2 (by omega))
  have w3 := wf5 (fault_all h 3 (by omega))
  obtain ⟨m, hm⟩ := typesSize
  have hf : (Value.agg (ints4 zs)).formed Tryz.prog 232 = true := by simp [Value.formed, Tryz.underlying232, cellsK, ints4]
  unfold keyOf
  rw [Tryz.underlying232]
  simp only [keyTypeK, hf, Bool.and_self, if_true, hm]
  simp [Program.keyLits, Tryz.underlying232, Tryz.underlying230, Tryz.underlying2, cellsK, cellsL, cellsI, ints4, Value.cells, w0, w1, w2, w3, List.range_succ, kl]

/-- blocks other than P and M are as they were. -/
structure But (P M : Nat) (w w' : World) : Prop where
  os : w'.os = w.os
  tape : w'.tape = w.tape
  output : w'.output = w.output
  size : w.heap.size ≤ w'.heap.size
  block : ∀ k, k < w.heap.size → k ≠ P → k ≠ M → w'.heap[k]? = w.heap[k]?

theorem But.of_below {P M : Nat} {w w' : World} (h : Below w.heap.size w w') : But P M w w' := ⟨h.os, h.tape, h.output, h.size, fun k hk _ _ => h.block k hk⟩

theorem But.below {P M B : Nat} {w w' : World} (h : But P M w w') (hP : B ≤ P) (hM : B ≤ M) (hB : B ≤ w.heap.size) : Below B w w' := ⟨h.os, h.tape, h.output, h.size, fun k hk => h.block k (by omega) (by omega) (by omega)⟩

theorem But.trans {P M : Nat} {u v w : World} (h : But P M u v) (k : But P M v w) : But P M u w :=
  ⟨k.os.trans h.os, k.tape.trans h.tape, k.output.trans h.output, Nat.le_trans h.size k.size, fun i hi a b => (k.block i (Nat.lt_of_lt_of_le hi h.size) a b).trans (h.block i hi a b)⟩

theorem But.setCell {P M i : Nat} {w u : World} (h : But P M w u) (v : Value) : But P M w (u.setCell ⟨P, i, none⟩ v) :=
  h.trans ⟨rfl, rfl, rfl, by simp, fun _ _ a _ => Below.heap_setCell _ _ _ _ (by simpa using a)⟩

theorem But.grown {P M : Nat} {w u u' : World} (h : But P M w u) (g : u.grownBy u' (some M)) : But P M w u' :=
  h.trans ⟨g.os, g.tape, g.output, g.size, fun k hk _ b => g.block k hk (fun e => b (by injection e))⟩

/-- how a standing reads: its place and its count. -/
def st (p c : Int) : DataW Unit := .agg [.lit (.int .i64 p), .lit (.int .i64 c)]

def Rst (v : Value) : Option (DataW Unit × List MemPlace) :=
  match v with
  | .agg cs => match cs.toList with
    | [.int .i64 p, .int .i64 c] => some (st p c, [])
    | _ => none
  | _ => none

theorem Rst_mk (p c : Int) : Rst (.agg #[.int .i64 p, .int .i64 c]) = some (st p c, []) := rfl

theorem Rst_inv {v : Value} {y : DataW Unit × List MemPlace} (h : Rst v = some y) : ∃ p c, v = .agg #[.int .i64 p, .int .i64 c] ∧ y = (st p c, []) := by
  unfold Rst at h
  split at h
  · rename_i cs
    split at h
    · rename_i p c he
      injection h with h
      refine ⟨p, c, ?_, h.symm⟩
      rw [show cs = #[Value.int .i64 p, Value.int .i64 c] from Array.ext' he]
    · cases h
  · cases h

theorem st_inj {p c p' c' : Int} (h : st p c = st p' c') : p = p' ∧ c = c' := by
  unfold st at h
  simp at h
  exact h

/-- a book: block P holds its size and its map, which is block M. -/
structure Bk (w : World) (P M : Nat) (sz : Int) (n : Nat) (D : DataW Unit) : Prop where
  lt : P < w.heap.size
  c0 : w.cell? ⟨P, 0, none⟩ = some (.int .i64 sz)
  c1 : w.cell? ⟨P, 1, none⟩ = some (.map (some M))
  f : ∀ j, w.frozen? ⟨P, j, none⟩ = false
  own : w.ownsMap Tryz.prog 232 Rst M n D

theorem ownsMap_below {w w' : World} {M n : Nat} {D : DataW Unit} (h : w.ownsMap Tryz.prog 232 Rst M n D) {B : Nat} (hb : Below B w w') (hB : w.heap.size ≤ B) : w'.ownsMap Tryz.prog 232 Rst M n D := by
  have hlt := h.lt
  exact h.kept (row := none) ⟨hb.os, hb.tape, hb.output, hb.size, fun k hk _ => hb.block k (by omega)⟩ (by simp)

theorem Bk.below {w w' : World} {P M n : Nat} {sz : Int} {D : DataW Unit} (h : Bk w P M sz n D) (hb : Below w.heap.size w w') : Bk w' P M sz n D :=
  ⟨by have := hb.size; have := h.lt; omega, (hb.cell (p := ⟨P, 0, none⟩) h.lt).trans h.c0, (hb.cell (p := ⟨P, 1, none⟩) h.lt).trans h.c1, fun j => (hb.frozen (p := ⟨P, j, none⟩) h.lt).trans (h.f j), ownsMap_below h.own hb (Nat.le_refl _)⟩

theorem Bk.ne {w : World} {P M n : Nat} {sz : Int} {D : DataW Unit} (h : Bk w P M sz n D) : M ≠ P := by
  intro e
  obtain ⟨es, clock, hb, _⟩ := h.own
  have hc := h.c0
  rw [e] at hb
  simp [World.cell?, hb] at hc

/-- the book of the first k slots. -/
def bk (ss : List (Int × List Int)) : Nat → DataW Unit
  | 0 => .map []
  | k + 1 => if 0 < gc ss k then (bk ss k).put (kl (gl ss k)) (st (k : Int) (gc ss k)) else bk ss k

theorem bk_isMap (ss : List (Int × List Int)) (k : Nat) : Go.Maps.IsMap (bk ss k) := by
  induction k with
  | zero => exact Go.Maps.isMap_empty
  | succ k ih =>
    unfold bk
    split
    · exact ih.put _ _
    · exact ih

theorem kl_key (zs : List Int) : WideAt.IsKeyLit (kl zs) := trivial

theorem kl_inj {xs ys : List Int} (hx : fault xs = 0) (hy : fault ys = 0) (h : kl xs = kl ys) : xs = ys := by
  have h1 := key_mk hx
  rw [h] at h1
  have h2 := lawK.inj h1 (key_mk hy)
  have l1 := fault_len hx
  have l2 := fault_len hy
  unfold ints4 at h2
  simp at h2
  apply getD_ext (by omega)
  intro i hi
  rcases (by omega : i = 0 ∨ i = 1 ∨ i = 2 ∨ i = 3) with rfl | rfl | rfl | rfl
  · exact h2.1
  · exact h2.2.1
  · exact h2.2.2.1
  · exact h2.2.2.2

theorem slotF_good {ss : List (Int × List Int)} {j : Nat} (h : slotF ss j = 0) (hp : 0 < gc ss j) : fault (gl ss j) = 0 ∧ at2 ss (gl ss j) = (j : Int) ∧ gc ss j ≤ 99 := by
  unfold slotF at h
  split at h
  · cases h
  · rename_i h1
    rw [if_neg (by omega)] at h
    have h99 : gc ss j ≤ 99 := by
      simp at h1
      exact h1.2
    split at h
    · rename_i hf
      split at h
      · rename_i ha
        exact ⟨hf, ha, h99⟩
      · cases h
    · rename_i hf
      exact absurd h hf

theorem bk_has {ss : List (Int × List Int)} {zs : List Int} (hz : fault zs = 0) : ∀ k, (∀ j, j < k → slotF ss j = 0) → (Go.Maps.has (bk ss k) (kl zs) = true ↔ ∃ j, j < k ∧ hit ss zs j = true)
  | 0, _ => ⟨fun h => absurd h (by simp [bk, Go.Maps.has]), fun h => by obtain ⟨j, hj, _⟩ := h; omega⟩
  | k + 1, hall => by
    have ih := bk_has hz k (fun j hj => hall j (by omega))
    unfold bk
    split
    · rename_i hp
      have hg := slotF_good (hall k (by omega)) hp
      by_cases e : gl ss k = zs
      · rw [e, Go.Maps.has_put_same (bk_isMap ss k) (kl_key zs)]
        exact ⟨fun _ => ⟨k, by omega, by simp [hit, hp, e]⟩, fun _ => rfl⟩
      · rw [Go.Maps.has_put_other (fun e1 => e (kl_inj hg.1 hz e1.symm)), ih]
        constructor
        · rintro ⟨j, hj, h⟩
          exact ⟨j, by omega, h⟩
        · rintro ⟨j, hj, h⟩
          refine ⟨j, ?_, h⟩
          by_cases e2 : j = k
          · subst e2
            simp [hit, e] at h
          · omega
    · rename_i hp
      rw [ih]
      constructor
      · rintro ⟨j, hj, h⟩
        exact ⟨j, by omega, h⟩
      · rintro ⟨j, hj, h⟩
        refine ⟨j, ?_, h⟩
        by_cases e2 : j = k
        · subst e2
          simp [hit, hp] at h
        · omega

/-- what a look-up finds. -/
theorem bk_at {ss : List (Int × List Int)} {zs : List Int} (hz : fault zs = 0) (z : DataW Unit) : ∀ k j, (∀ j, j < k → slotF ss j = 0) → j < k → hit ss zs j = true → (∀ i, i < k → hit ss zs i = true → i = j) → (bk ss k).atKey (kl zs) z = st (j : Int) (gc ss j)
  | 0, _, _, hj, _, _ => by omega
  | k + 1, j, hall, hj, hh, hu => by
    unfold bk
    split
    · rename_i hp
      have hg := slotF_good (hall k (by omega)) hp
      by_cases e : gl ss k = zs
      · have : k = j := hu k (by omega) (by simp [hit, hp, e])
        subst this
        rw [e, Go.Maps.atKey_put_same (bk_isMap ss k) (kl_key zs)]
      · rw [Go.Maps.atKey_put_other (fun e1 => e (kl_inj hg.1 hz e1.symm))]
        have hjk : j ≠ k := fun e2 => by subst e2; simp [hit, e] at hh
        exact bk_at hz z k j (fun i hi => hall i (by omega)) (by omega) hh (fun i hi h => hu i (by omega) h)
    · rename_i hp
      have hjk : j ≠ k := fun e2 => by subst e2; simp [hit, hp] at hh
      exact bk_at hz z k j (fun i hi => hall i (by omega)) (by omega) hh (fun i hi h => hu i (by omega) h)

/-- what is wrong with a slot whatever the others are. -/
def slot1 (c : Int) (zs : List Int) : Int :=
  if (decide (0 ≤ c) && decide (c ≤ 99)) = false then 3 else if 0 < c then fault zs else if 0 < zs.length then 1 else 0

def takeC (D : DataW Unit) (c : Int) (zs : List Int) : Int :=
  if slot1 c zs ≠ 0 then slot1 c zs else if 0 < c ∧ Go.Maps.has D (kl zs) = true then 8 else 0

theorem takeC_eq {ss : List (Int × List Int)} {k : Nat} (hk : k < ss.length) (hall : ∀ j, j < k → slotF ss j = 0) : takeC (bk ss k) (gc ss k) (gl ss k) = slotF ss k := by
  cases h1 : (decide (0 ≤ gc ss k) && decide (gc ss k ≤ 99)) with
  | false =>
    have s1 : slot1 (gc ss k) (gl ss k) = 3 := if_pos h1
    rw [slotF_range h1]
    unfold takeC
    rw [s1]
    rfl
  | true =>
    have hr : 0 ≤ gc ss k ∧ gc ss k ≤ 99 := by simpa using h1
    by_cases h0 : gc ss k = 0
    · have hnp : ¬ (0 < gc ss k) := by omega
      by_cases hl : 0 < (gl ss k).length
      · have s1 : slot1 (gc ss k) (gl ss k) = 1 := by unfold slot1; rw [h1]; simp [hnp, hl]
        rw [slotF_form h0 hl]
        unfold takeC
        rw [s1]
        rfl
      · have s1 : slot1 (gc ss k) (gl ss k) = 0 := by unfold slot1; rw [h1]; simp [hnp, hl]
        rw [slotF_empty h0 (by omega)]
        unfold takeC
        rw [s1, if_neg (by simp), if_neg (fun h => hnp h.1)]
    · have hp : 0 < gc ss k := by omega
      have s1 : slot1 (gc ss k) (gl ss k) = fault (gl ss k) := by unfold slot1; rw [h1]; simp [hp]
      by_cases hf : fault (gl ss k) = 0
      · have hb := bk_has hf k hall
        by_cases ha : at2 ss (gl ss k) = (k : Int)
        · rw [slotF_ok h1 h0 hf ha]
          unfold takeC
          rw [s1, hf, if_neg (by simp), if_neg]
          rintro ⟨_, hh⟩
          obtain ⟨j, hj, hjh⟩ := hb.1 hh
          have hfirst : ∃ i, i ≤ j ∧ hit ss (gl ss k) i = true ∧ ∀ i', i' < i → hit ss (gl ss k) i' = false := by
            induction j using Nat.strongRecOn with
            | _ j ih =>
              by_cases hex : ∃ i, i < j ∧ hit ss (gl ss k) i = true
              · obtain ⟨i, hij, hi⟩ := hex
                obtain ⟨i0, h1, h2, h3⟩ := ih i hij (by omega) hi
                exact ⟨i0, by omega, h2, h3⟩
              · exact ⟨j, Nat.le_refl _, hjh, fun i' hi' => by
                  cases hx : hit ss (gl ss k) i'
                  · rfl
                  · exact absurd ⟨i', hi', hx⟩ hex⟩
          obtain ⟨i, hij, hih, hino⟩ := hfirst
          have := at2_hit (by omega) hino hih
          omega
        · rw [slotF_state h1 h0 hf ha]
          unfold takeC
          rw [s1, hf, if_neg (by simp), if_pos]
          refine ⟨hp, hb.2 ?_⟩
          cases hex : (List.range k).any (fun j => hit ss (gl ss k) j) with
          | true =>
            obtain ⟨j, hj, hjh⟩ := List.any_eq_true.1 hex
            exact ⟨j, List.mem_range.1 hj, hjh⟩
          | false =>
            exfalso
            apply ha
            refine at2_hit hk (fun j hj => ?_) (by simp [hit, hp])
            have := List.any_eq_false.1 hex j (List.mem_range.2 hj)
            simpa using this
      · rw [slotF_label h1 h0 hf]
        unfold takeC
        rw [s1, if_pos hf]

theorem zeroSt (w : World) : (zeroValue 241).run Tryz.prog w = .ok (.agg #[.int .i64 0, .int .i64 0]) w := by kernel_rfl

/-- a look-up finds the same in every world in which the block is that map. -/
theorem look_run {w : World} {M n : Nat} {D : DataW Unit} {zs : List Int} (h : w.ownsMap Tryz.prog 232 Rst M n D) (hf : fault zs = 0) :
    ∃ p c, D.atKey (kl zs) (st 0 0) = st p c ∧ ∀ w' : World, w'.ownsMap Tryz.prog 232 Rst M n D →
      (Instr.lookup 150 (.map (some M)) (.agg (ints4 zs)) true).run Tryz.prog w' = .ok (.tuple #[.agg #[.int .i64 p, .int .i64 c], .bool (Go.Maps.has D (kl zs))]) w' := by
  obtain ⟨v, ps, _, hv⟩ := h.look_ok lawK Tryz.underlying150 (zeroSt w) (Rst_mk 0 0) (key_mk hf)
  obtain ⟨p, c, rfl, hy⟩ := Rst_inv hv
  have hat : D.atKey (kl zs) (st 0 0) = st p c := by injection hy
  refine ⟨p, c, hat, fun w' h' => ?_⟩
  obtain ⟨v', ps', hrun, hv'⟩ := h'.look_ok lawK Tryz.underlying150 (zeroSt w') (Rst_mk 0 0) (key_mk hf)
  obtain ⟨p', c', rfl, hy'⟩ := Rst_inv hv'
  have hat' : D.atKey (kl zs) (st 0 0) = st p' c' := by injection hy'
  obtain ⟨rfl, rfl⟩ := st_inj (hat.symm.trans hat')
  exact hrun

theorem faultR_zero {ss : List (Int × List Int)} (h : faultR ss = 0) : ss.length ≤ 10 ∧ ∀ j, j < ss.length → slotF ss j = 0 := by
  unfold faultR at h
  split at h
  · cases h
  · rename_i h10
    refine ⟨by omega, fun j hj => ?_⟩
    split at h
    · rename_i i hi
      have := List.find?_some hi
      simp [h] at this
    · rename_i hi
      have := List.find?_eq_none.1 hi j (List.mem_range.2 hj)
      simpa using this

theorem at2_cases (ss : List (Int × List Int)) (zs : List Int) : at2 ss zs = -1 ∧ (∀ j, j < ss.length → hit ss zs j = false) ∨ ∃ j, j < ss.length ∧ at2 ss zs = (j : Int) ∧ hit ss zs j = true := by
  unfold at2
  split
  · rename_i i hi
    exact .inr ⟨i, List.mem_range.1 (List.mem_of_find?_eq_some hi), rfl, List.find?_some hi⟩
  · rename_i hi
    refine .inl ⟨rfl, fun j hj => ?_⟩
    have := List.find?_eq_none.1 hi j (List.mem_range.2 hj)
    simpa using this

/-- what a right label's look-up in the book of all slots finds. -/
theorem bk_found {ss : List (Int × List Int)} {zs : List Int} (hr : faultR ss = 0) (hz : fault zs = 0) :
    (at2 ss zs = -1 ∧ Go.Maps.has (bk ss ss.length) (kl zs) = false) ∨ ∃ j, j < ss.length ∧ at2 ss zs = (j : Int) ∧ Go.Maps.has (bk ss ss.length) (kl zs) = true ∧ ∀ z, (bk ss ss.length).atKey (kl zs) z = st (j : Int) (gc ss j) := by
  obtain ⟨_, hall⟩ := faultR_zero hr
  have hh := bk_has hz ss.length hall
  rcases at2_cases ss zs with ⟨h1, h2⟩ | ⟨j, hj, h1, h2⟩
  · refine .inl ⟨h1, ?_⟩
    cases hx : Go.Maps.has (bk ss ss.length) (kl zs)
    · rfl
    · obtain ⟨j, hj, hjh⟩ := hh.1 hx
      rw [h2 j hj] at hjh
      cases hjh
  · refine .inr ⟨j, hj, h1, hh.2 ⟨j, hj, h2⟩, fun z => bk_at hz z ss.length j hall hj h2 (fun i hi hih => ?_)⟩
    have hg : 0 < gc ss i ∧ gl ss i = zs := by simpa [hit] using hih
    have := (slotF_good (hall i hi) hg.1).2.1
    rw [hg.2, h1] at this
    omega

def codeFor (ss : List (Int × List Int)) (zs : List Int) : Int := if faultR ss = 0 then fault zs else faultR ss

def soC (ss : List (Int × List Int)) (zs : List Int) : Int := if codeFor ss zs = 0 then (if at2 ss zs < 0 then 4 else 0) else codeFor ss zs

def soV (ss : List (Int × List Int)) (zs : List Int) : Int := if codeFor ss zs = 0 then (if at2 ss zs < 0 then 0 else at2 ss zs) else 0

theorem codeFor_zero {ss : List (Int × List Int)} {zs : List Int} (h : codeFor ss zs = 0) : faultR ss = 0 ∧ fault zs = 0 := by
  unfold codeFor at h
  split at h
  · rename_i h1
    exact ⟨h1, h⟩
  · rename_i h1
    exact absurd h h1

end Go.Proofs.YtnlkigjgloeonaaGreat
