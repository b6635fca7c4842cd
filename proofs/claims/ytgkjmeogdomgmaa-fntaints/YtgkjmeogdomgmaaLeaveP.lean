import Derived.Test.YtgkjmeogdomgmaaMarkAt
import Derived.WalkKit
import Derived.ProofKit
import Derived.OpenShut
import Derived.ShutString
import Derived.ChangeOld
import Derived.Below
import Derived.WalkSpells
import Derived.Deep.QuietTactic
import Derived.BigQuiet
import Derived.Deep.RegionWith
import Derived.Deep.WholeRow
import Derived.Deep.DeepCutAuto
import Derived.Deep.RegionHeld2
import Derived.Deep.AppendLies
import Derived.Deep.RegionLaw
namespace Go.Proofs.Ytgkjmeogdomgmaa
open Go.ChangeShapes Go.WideShapes Go.ChangeAt Go.RowKit

theorem gc_set (ss : List (Int × List Int)) (q j : Nat) (x : Int × List Int) (h : q < ss.length) : gc (ss.set q x) j = if j = q then x.1 else gc ss j := by
  unfold gc
  by_cases e : j = q
  · subst e; simp [h]
  · rw [if_neg e]; simp [Ne.symm e]

theorem gl_set (ss : List (Int × List Int)) (q j : Nat) (x : Int × List Int) (h : q < ss.length) : gl (ss.set q x) j = if j = q then x.2 else gl ss j := by
  unfold gl
  by_cases e : j = q
  · subst e; simp [h]
  · rw [if_neg e]; simp [Ne.symm e]

/-- a slot meant once less. -/
def leaveX (ss : List (Int × List Int)) (q : Nat) : Int × List Int := if gc ss q = 1 then (0, []) else (gc ss q - 1, gl ss q)

def leaveS (ss : List (Int × List Int)) (q : Nat) : List (Int × List Int) := ss.set q (leaveX ss q)

theorem length_leaveS (ss : List (Int × List Int)) (q : Nat) : (leaveS ss q).length = ss.length := by simp [leaveS]

theorem leaveX_1 (ss : List (Int × List Int)) (q : Nat) : (leaveX ss q).1 = gc ss q - 1 := by
  unfold leaveX
  split
  · rename_i h; rw [h]; rfl
  · rfl

theorem leaveX_2 (ss : List (Int × List Int)) (q : Nat) : (leaveX ss q).2 = if gc ss q = 1 then [] else gl ss q := by
  unfold leaveX
  split <;> rfl

theorem gc_leave {ss : List (Int × List Int)} {q : Nat} (hq : q < ss.length) (j : Nat) : gc (leaveS ss q) j = if j = q then gc ss q - 1 else gc ss j := by
  unfold leaveS
  rw [gc_set ss q j _ hq, leaveX_1]

theorem gl_leave {ss : List (Int × List Int)} {q : Nat} (hq : q < ss.length) (j : Nat) : gl (leaveS ss q) j = if j = q then (if gc ss q = 1 then [] else gl ss q) else gl ss j := by
  unfold leaveS
  rw [gl_set ss q j _ hq, leaveX_2]

theorem good_leave {ss : List (Int × List Int)} (g : Good ss) {q : Nat} (hq : q < ss.length) (hp : 0 < gc ss q) : Good (leaveS ss q) := by
  have live : ∀ j, j < ss.length → 0 < gc (leaveS ss q) j → 0 < gc ss j ∧ gl (leaveS ss q) j = gl ss j := fun j hj h => by
    rw [gc_leave hq] at h
    rw [gl_leave hq]
    by_cases e : j = q
    · subst e
      rw [if_pos rfl] at h ⊢
      exact ⟨hp, if_neg (by omega)⟩
    · rw [if_neg e] at h ⊢
      exact ⟨h, rfl⟩
  refine ⟨by rw [length_leaveS]; exact g.few, fun j hj => ?_, fun j hj => ?_, fun j hj h0 => ?_, fun j hj h => ?_, fun i j hi hj pi pj e => ?_⟩
  · rw [length_leaveS] at hj
    rw [gc_leave hq]
    split
    · omega
    · exact g.low j hj
  · rw [length_leaveS] at hj
    rw [gc_leave hq]
    split
    · have := g.top q hq; omega
    · exact g.top j hj
  · rw [length_leaveS] at hj
    rw [gc_leave hq] at h0
    rw [gl_leave hq]
    by_cases e : j = q
    · rw [if_pos e] at h0 ⊢
      rw [if_pos (by omega)]
    · rw [if_neg e] at h0 ⊢
      exact g.empty j hj h0
  · rw [length_leaveS] at hj
    obtain ⟨h1, h2⟩ := live j hj h
    rw [h2]
    exact g.right j hj h1
  · rw [length_leaveS] at hi hj
    obtain ⟨h1, h2⟩ := live i hi pi
    obtain ⟨h3, h4⟩ := live j hj pj
    rw [h2, h4] at e
    exact g.uniq i j hi hj h1 h3 e

def leaveD (ss : List (Int × List Int)) (q : Nat) (D : DataW Unit) : DataW Unit := if gc ss q = 1 then D.del (kl (gl ss q)) else D.put (kl (gl ss q)) (st (q : Int) (gc ss q - 1))

theorem rep_leave {ss : List (Int × List Int)} (g : Good ss) {D : DataW Unit} (r : Rep ss D) (hm : Go.Maps.IsMap D) {q : Nat} (hq : q < ss.length) (hp : 0 < gc ss q) : Rep (leaveS ss q) (leaveD ss q D) := by
  have hne : ∀ j, j < ss.length → 0 < gc ss j → j ≠ q → kl (gl ss j) ≠ kl (gl ss q) := fun j hj hpj e h => e (g.uniq j q hj hq hpj hp (kl_inj (g.right j hj hpj) (g.right q hq hp) h))
  by_cases h1 : gc ss q = 1
  · unfold leaveD
    rw [if_pos h1]
    refine ⟨fun k => ?_, fun j hj hpj z => ?_⟩
    · rw [length_leaveS]
      constructor
      · intro h
        have hk : k ≠ kl (gl ss q) := fun e => by rw [e, Go.Maps.has_del_same] at h; cases h
        rw [Go.Maps.has_del_other hk] at h
        obtain ⟨j, hj, hpj, rfl⟩ := (r.keys k).1 h
        have hjq : j ≠ q := fun e => hk (by rw [e])
        exact ⟨j, hj, by rw [gc_leave hq, if_neg hjq]; exact hpj, by rw [gl_leave hq, if_neg hjq]⟩
      · rintro ⟨j, hj, hpj, rfl⟩
        have hjq : j ≠ q := fun e => by rw [gc_leave hq, if_pos e] at hpj; omega
        rw [gc_leave hq, if_neg hjq] at hpj
        rw [gl_leave hq, if_neg hjq, Go.Maps.has_del_other (hne j hj hpj hjq)]
        exact (r.keys _).2 ⟨j, hj, hpj, rfl⟩
    · rw [length_leaveS] at hj
      have hjq : j ≠ q := fun e => by rw [gc_leave hq, if_pos e] at hpj; omega
      rw [gc_leave hq, if_neg hjq] at hpj ⊢
      rw [gl_leave hq, if_neg hjq, Go.Maps.atKey_del_other (hne j hj hpj hjq)]
      exact r.vals j hj hpj z
  · unfold leaveD
    rw [if_neg h1]
    have hlive : ∀ j, 0 < gc (leaveS ss q) j ↔ 0 < gc ss j := fun j => by
      rw [gc_leave hq]
      by_cases e : j = q
      · rw [if_pos e, e]; omega
      · rw [if_neg e]
    have hlab : ∀ j, gl (leaveS ss q) j = gl ss j := fun j => by
      rw [gl_leave hq]
      by_cases e : j = q
      · rw [if_pos e, if_neg h1, e]
      · rw [if_neg e]
    refine ⟨fun k => ?_, fun j hj hpj z => ?_⟩
    · rw [length_leaveS]
      by_cases hk : k = kl (gl ss q)
      · rw [hk, Go.Maps.has_put_same hm (kl_key _)]
        exact ⟨fun _ => ⟨q, hq, (hlive q).2 hp, by rw [hlab]⟩, fun _ => rfl⟩
      · rw [Go.Maps.has_put_other hk, r.keys k]
        constructor
        · rintro ⟨j, hj, hpj, e⟩
          exact ⟨j, hj, (hlive j).2 hpj, by rw [hlab]; exact e⟩
        · rintro ⟨j, hj, hpj, e⟩
          exact ⟨j, hj, (hlive j).1 hpj, by rw [hlab] at e; exact e⟩
    · rw [length_leaveS] at hj
      have hpj' := (hlive j).1 hpj
      rw [hlab, gc_leave hq]
      by_cases e : j = q
      · subst e
        rw [if_pos rfl, Go.Maps.atKey_put_same hm (kl_key _)]
      · rw [if_neg e, Go.Maps.atKey_put_other (hne j hj hpj' e)]
        exact r.vals j hj hpj' z

def lvV (ss : List (Int × List Int)) (p : Int) : Int := if atC ss p = 0 then gc ss p.toNat - 1 else 0

theorem atC_zero {ss : List (Int × List Int)} {p : Int} (good : Good ss) (h : atC ss p = 0) : ∃ q : Nat, p = (q : Int) ∧ q < ss.length ∧ 0 < gc ss q ∧ atL ss p = gl ss q ∧ lvV ss p = gc ss q - 1 := by
  have h2 := h
  unfold atC at h2
  split at h2
  · cases h2
  · split at h2
    · cases h2
    · rename_i h3 h4
      exact ⟨p.toNat, by omega, by omega, by have := good.low p.toNat (by omega); omega, if_pos h, if_pos h⟩

theorem look1_run {w : World} {M n : Nat} {D : DataW Unit} {zs : List Int} (h : w.ownsMap Try.prog 127 Rst M n D) (hf : fault zs = 0) :
    ∃ p c, D.atKey (kl zs) (st 0 0) = st p c ∧ ∀ (n' : Nat) (w' : World), w'.ownsMap Try.prog 127 Rst M n' D →
      (Instr.lookup 76 (.map (some M)) (.agg (ints4 zs)) false).run Try.prog w' = .ok (.agg #[.int .i64 p, .int .i64 c]) w' := by
  obtain ⟨v, ps, _, hv⟩ := h.lookup lawK Try.underlying76 (zeroSt w) (Rst_mk 0 0) (key_mk hf)
  obtain ⟨p, c, rfl, hy⟩ := Rst_inv hv
  have hat : D.atKey (kl zs) (st 0 0) = st p c := by injection hy
  refine ⟨p, c, hat, fun n' w' h' => ?_⟩
  obtain ⟨v', ps', hrun, hv'⟩ := h'.lookup lawK Try.underlying76 (zeroSt w') (Rst_mk 0 0) (key_mk hf)
  obtain ⟨p', c', rfl, hy'⟩ := Rst_inv hv'
  have hat' : D.atKey (kl zs) (st 0 0) = st p' c' := by injection hy'
  obtain ⟨rfl, rfl⟩ := st_inj (hat.symm.trans hat')
  exact hrun

/-- what 'leave' answers. -/
def LV (P M n : Nat) (ss : List (Int × List Int)) (p : Int) (w : World) (e : Ending) (w' : World) : Prop :=
  e = .returned (.tuple #[.int .i64 (lvV ss p), .int .i64 (atC ss p)]) ∧ OutS (fun k => k = M) w w' ∧ (atC ss p = 0 → ∃ D', Bk w' P M (ss.length : Int) (n + 1) D' ∧ Rep (leaveS ss p.toNat) D')

end Go.Proofs.Ytgkjmeogdomgmaa
