import Derived.Test.YtnlkigjgloeonaaGreatMap
import Derived.Test.YtnlkigjgloeonaaGreatSep
import Derived.WalkKit
import Derived.ProofKit
import Derived.OpenShut
import Derived.ShutString
import Derived.ChangeOld
import Derived.Below
import Derived.WalkSpells
import Derived.Deep.QuietTactic
import Derived.BigQuiet
import Derived.Deep.RegionWith
import Derived.Deep.WholeRow
import Derived.Deep.DeepCutAuto
import Derived.Deep.RegionHeld2
import Derived.Deep.AppendLies
import Derived.Deep.RegionLaw
namespace Go.Proofs.YtnlkigjgloeonaaGreat
open Go.ChangeShapes Go.WideShapes Go.ChangeAt Go.RowKit

/-- a registry without a fault. -/
structure Good (ss : List (Int × List Int)) : Prop where
  few : ss.length ≤ 10
  low : ∀ j, j < ss.length → 0 ≤ gc ss j
  top : ∀ j, j < ss.length → gc ss j ≤ 99
  empty : ∀ j, j < ss.length → gc ss j = 0 → gl ss j = []
  right : ∀ j, j < ss.length → 0 < gc ss j → fault (gl ss j) = 0
  uniq : ∀ i j, i < ss.length → j < ss.length → 0 < gc ss i → 0 < gc ss j → gl ss i = gl ss j → i = j

theorem slotF_low {ss : List (Int × List Int)} {j : Nat} (h : slotF ss j = 0) : 0 ≤ gc ss j ∧ gc ss j ≤ 99 ∧ (gc ss j = 0 → gl ss j = []) := by
  unfold slotF at h
  split at h
  · cases h
  · rename_i h1
    have h99 : 0 ≤ gc ss j ∧ gc ss j ≤ 99 := by simpa using h1
    refine ⟨h99.1, h99.2, fun h0 => ?_⟩
    rw [if_pos h0] at h
    split at h
    · cases h
    · rename_i h2
      exact List.eq_nil_of_length_eq_zero (by omega)

theorem good_of {ss : List (Int × List Int)} (hr : faultR ss = 0) : Good ss := by
  obtain ⟨h10, hall⟩ := faultR_zero hr
  refine ⟨h10, fun j hj => (slotF_low (hall j hj)).1, fun j hj => (slotF_low (hall j hj)).2.1, fun j hj => (slotF_low (hall j hj)).2.2, fun j hj hp => (slotF_good (hall j hj) hp).1, fun i j hi hj pi pj e => ?_⟩
  have h1 := (slotF_good (hall i hi) pi).2.1
  have h2 := (slotF_good (hall j hj) pj).2.1
  rw [e] at h1
  omega

theorem fault_of_good {ss : List (Int × List Int)} (g : Good ss) : faultR ss = 0 := by
  refine faultR_ok g.few (fun j hj => ?_)
  have hr : (decide (0 ≤ gc ss j) && decide (gc ss j ≤ 99)) = true := by simp [g.low j hj, g.top j hj]
  by_cases h0 : gc ss j = 0
  · exact slotF_empty h0 (by rw [g.empty j hj h0]; rfl)
  · have hp : 0 < gc ss j := by have := g.low j hj; omega
    refine slotF_ok hr h0 (g.right j hj hp) (at2_hit hj (fun i hi => ?_) (by simp [hit, hp]))
    cases hx : hit ss (gl ss j) i
    · rfl
    · simp [hit] at hx
      have := g.uniq i j (by omega) hj hx.1 hp hx.2
      omega

/-- the book D holds just the slots of ss that are meant. -/
structure Rep (ss : List (Int × List Int)) (D : DataW Unit) : Prop where
  keys : ∀ k, Go.Maps.has D k = true ↔ ∃ j, j < ss.length ∧ 0 < gc ss j ∧ k = kl (gl ss j)
  vals : ∀ j, j < ss.length → 0 < gc ss j → ∀ z, D.atKey (kl (gl ss j)) z = st (j : Int) (gc ss j)

theorem bk_keys (ss : List (Int × List Int)) (k : Lit) : ∀ n, Go.Maps.has (bk ss n) k = true ↔ ∃ j, j < n ∧ 0 < gc ss j ∧ k = kl (gl ss j)
  | 0 => ⟨fun h => absurd h (by simp [bk, Go.Maps.has]), fun h => by obtain ⟨j, hj, _⟩ := h; omega⟩
  | n + 1 => by
    have ih := bk_keys ss k n
    unfold bk
    split
    · rename_i hp
      by_cases e : k = kl (gl ss n)
      · rw [e, Go.Maps.has_put_same (bk_isMap ss n) (kl_key _)]
        exact ⟨fun _ => ⟨n, by omega, hp, rfl⟩, fun _ => rfl⟩
      · rw [Go.Maps.has_put_other e, ih]
        constructor
        · rintro ⟨j, hj, h⟩
          exact ⟨j, by omega, h⟩
        · rintro ⟨j, hj, h⟩
          refine ⟨j, ?_, h⟩
          by_cases e2 : j = n
          · exact absurd (e2 ▸ h.2) e
          · omega
    · rename_i hp
      rw [ih]
      constructor
      · rintro ⟨j, hj, h⟩
        exact ⟨j, by omega, h⟩
      · rintro ⟨j, hj, h⟩
        refine ⟨j, ?_, h⟩
        by_cases e2 : j = n
        · exact absurd (e2 ▸ h.1) hp
        · omega

theorem rep_bk {ss : List (Int × List Int)} (hr : faultR ss = 0) : Rep ss (bk ss ss.length) := by
  obtain ⟨_, hall⟩ := faultR_zero hr
  have g := good_of hr
  refine ⟨fun k => bk_keys ss k ss.length, fun j hj hp z => bk_at (g.right j hj hp) z ss.length j hall hj (by simp [hit, hp]) (fun i hi hih => ?_)⟩
  have hg : 0 < gc ss i ∧ gl ss i = gl ss j := by simpa [hit] using hih
  exact g.uniq i j hi hj hg.1 hp hg.2

/-- a loop over the book under way: slot j is still to come where L j. -/
def RngB (w : World) (M r n : Nat) (ss : List (Int × List Int)) (D : DataW Unit) (L : Nat → Bool) (cnt : Nat) : Prop :=
  ∃ left, w.ranges Tryz.prog 232 Rst M r n D left cnt ∧ (∀ j, j < ss.length → 0 < gc ss j → left (kl (gl ss j)) = L j) ∧ ∀ k, left k = true → Go.Maps.has D k = true

theorem RngB.start {w : World} {M r n : Nat} {ss : List (Int × List Int)} {D : DataW Unit} {cnt : Nat} (rep : Rep ss D) (h : w.ranges Tryz.prog 232 Rst M r n D (Go.Maps.has D) cnt) : RngB w M r n ss D (fun _ => true) cnt :=
  ⟨_, h, fun j hj hp => (rep.keys _).2 ⟨j, hj, hp, rfl⟩, fun _ hk => hk⟩

theorem RngB.left_eq {w : World} {M r n : Nat} {ss : List (Int × List Int)} {D : DataW Unit} {L : Nat → Bool} {cnt : Nat} (h : RngB w M r n ss D L cnt) : w.rangeLeft M r = cnt := by
  obtain ⟨_, h, _⟩ := h
  exact h.left_eq

theorem RngB.owns {w : World} {M r n : Nat} {ss : List (Int × List Int)} {D : DataW Unit} {L : Nat → Bool} {cnt : Nat} (h : RngB w M r n ss D L cnt) : w.ownsMap Tryz.prog 232 Rst M n D := by
  obtain ⟨_, h, _⟩ := h
  exact h.owns

theorem RngB.ne {w : World} {M r n : Nat} {ss : List (Int × List Int)} {D : DataW Unit} {L : Nat → Bool} {cnt : Nat} (h : RngB w M r n ss D L cnt) : r ≠ M := by
  obtain ⟨_, h, _⟩ := h
  exact h.ne

theorem RngB.lt {w : World} {M r n : Nat} {ss : List (Int × List Int)} {D : DataW Unit} {L : Nat → Bool} {cnt : Nat} (h : RngB w M r n ss D L cnt) : r < w.heap.size := by
  obtain ⟨_, h, _⟩ := h
  exact h.lt

theorem RngB.kept {w w' : World} {M r n : Nat} {ss : List (Int × List Int)} {D : DataW Unit} {L : Nat → Bool} {cnt : Nat} (h : RngB w M r n ss D L cnt) {row : Option Nat} (hg : w.grownBy w' row) (h1 : some M ≠ row) (h2 : some r ≠ row) : RngB w' M r n ss D L cnt := by
  obtain ⟨left, h, a, b⟩ := h
  exact ⟨left, h.kept hg h1 h2, a, b⟩

theorem Below.grownAll {w w' : World} (hb : Below w.heap.size w w') : w.grownBy w' none := ⟨hb.os, hb.tape, hb.output, hb.size, fun k hk _ => hb.block k hk⟩

theorem RngB.below {w w' : World} {M r n : Nat} {ss : List (Int × List Int)} {D : DataW Unit} {L : Nat → Bool} {cnt : Nat} (h : RngB w M r n ss D L cnt) (hb : Below w.heap.size w w') : RngB w' M r n ss D L cnt := h.kept (Below.grownAll hb) (by simp) (by simp)

theorem next_book {ops : Array Oper} {rest : List Oper} {o : Oper} {a : Act} {Q : Exit → Act → World → Prop} (w : World) (hg : o.guard = none) (it : Operand) (hop : o.op = Op.next it false) (M r n : Nat) {ss : List (Int × List Int)} {D : DataW Unit} {L : Nat → Bool} {cnt : Nat}
    (good : Good ss) (rep : Rep ss D) (hit : a.eval it = .pointer (some ⟨r, 0, none⟩)) (h : RngB w M r n ss D L cnt)
    (hDone : cnt = 0 → (∀ j, j < ss.length → 0 < gc ss j → L j = false) → wpList Tryz.prog ops Q rest (a.put o.dst (.tuple #[.bool false])) w)
    (hMore : ∀ j, j < ss.length → 0 < gc ss j → L j = true → ∀ w' cnt', RngB w' M r n ss D (fun i => L i && !(i == j)) cnt' → cnt' < cnt → w.grownBy w' (some r) → w'.heap.size = w.heap.size →
      (Instr.entry (.pointer (some ⟨r, 0, none⟩))).run Tryz.prog w' = .ok (.tuple #[.agg #[.int .i64 (gt (gl ss j) 0), .int .i64 (gt (gl ss j) 1), .int .i64 (gt (gl ss j) 2), .int .i64 (gt (gl ss j) 3)], .agg #[.int .i64 (j : Int), .int .i64 (gc ss j)]]) w' →
      wpList Tryz.prog ops Q rest (a.put o.dst (.tuple #[.bool true, .agg #[.int .i64 (gt (gl ss j) 0), .int .i64 (gt (gl ss j) 1), .int .i64 (gt (gl ss j) 2), .int .i64 (gt (gl ss j) 3)], .agg #[.int .i64 (j : Int), .int .i64 (gc ss j)]])) w') :
    wpList Tryz.prog ops Q (o :: rest) a w := by
  obtain ⟨left, hr, hL, hsub⟩ := h
  refine wpList_next_ranges w hg it hop 232 lawK Rst (fun x : Value => x) (fun x : Value => x) (fun key _ _ => ⟨key, rfl⟩) (fun v _ _ => ⟨v, rfl⟩) M r n D left cnt hit hr (fun h0 hl => hDone h0 (fun j hj hp => by rw [← hL j hj hp]; exact hl _)) ?_
  intro x c k y w' cnt' hkey hlk hv hat hr' hlt hgr hsz hen
  obtain ⟨j, hj, hp, rfl⟩ := (rep.keys k).1 (hsub k hlk)
  have hx : x = .agg (ints4 (gl ss j)) := lawK.inj hkey (key_mk (good.right j hj hp))
  obtain ⟨p, q, hc, hy⟩ := Rst_inv hv
  have e1 : st p q = st (j : Int) (gc ss j) := by
    have := (hat (st 0 0)).symm.trans (rep.vals j hj hp (st 0 0))
    rw [hy] at this
    exact this
  obtain ⟨rfl, rfl⟩ := st_inj e1
  subst hx hc
  unfold ints4 at hen
  refine hMore j hj hp (by rw [← hL j hj hp]; exact hlk) w' cnt' ⟨_, hr', fun i hi hpi => ?_, fun k hk => hsub k (by simp at hk; exact hk.1)⟩ hlt hgr hsz hen
  show (left (kl (gl ss i)) && !(kl (gl ss i)).sameKey (kl (gl ss j))) = _
  rw [hL i hi hpi]
  by_cases e : i = j
  · subst e
    rw [WideAt.sameKey_self (kl_key _)]
    simp
  · rw [Go.Maps.sameKey_ne (fun e1 => e (good.uniq i j hi hj hpi hp (kl_inj (good.right i hi hpi) (good.right j hj hp) e1)))]
    simp [e]

end Go.Proofs.YtnlkigjgloeonaaGreat
