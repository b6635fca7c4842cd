import Derived.Test.YtpgpoeljbppggaaDoorPinP
import Derived.Scope
import Derived.ScopeJumps
import Derived.WalkMore
import Derived.WalkKit
import Derived.ProofKit
import Derived.OpenShut
import Derived.ShutString
import Derived.ChangeOld
import Derived.Below
import Derived.WalkSpells
import Derived.Deep.QuietTactic
import Derived.BigQuiet
import Derived.Deep.RegionWith
import Derived.Deep.WholeRow
import Derived.Deep.DeepCutAuto
import Derived.Deep.RegionHeld2
import Derived.Deep.AppendLies
import Derived.Deep.RegionLaw
namespace Go.Proofs.YtpgpoeljbppggaaDoor
open Go.ChangeShapes Go.WideShapes Go.ChangeAt Go.RowKit

/-- by a goto to one of four labels: what holds there, at a measure under N; else as Q. -/
def jump4 (J0 J1 J2 J3 : Act → World → Prop) (m0 m1 m2 m3 : Act → Nat) (N : Nat) (Q : Exit → Act → World → Prop) : Exit → Act → World → Prop
  | .goto 0, a, w => J0 a w ∧ m0 a < N
  | .goto 1, a, w => J1 a w ∧ m1 a < N
  | .goto 2, a, w => J2 a w ∧ m2 a < N
  | .goto 3, a, w => J3 a w ∧ m3 a < N
  | .goto _, _, _ => False
  | e, a, w => Q e a w

/-- a scope with four labels: what holds at each of them, and a measure that is less at each jump. -/
theorem wp_scope_four {P : Program} {a : Act} {w : World} {Q : Exit → Act → World → Prop} {c x0 x1 x2 x3 : Code} (J0 J1 J2 J3 : Act → World → Prop) (m0 m1 m2 m3 : Act → Nat) (N : Nat)
    (h0 : findLabel c 0 = some (Code.skip.seq x0)) (h1 : findLabel c 1 = some (Code.skip.seq x1)) (h2 : findLabel c 2 = some (Code.skip.seq x2)) (h3 : findLabel c 3 = some (Code.skip.seq x3))
    (p1 : ∀ M a w, J1 a w → m1 a ≤ M → x1.wp P (jump4 J0 J1 J2 J3 m0 m1 m2 m3 M Q) a w)
    (p3 : (∀ M a w, J1 a w → m1 a ≤ M → x1.wp P (jump4 J0 J1 J2 J3 m0 m1 m2 m3 M Q) a w) → ∀ M a w, J3 a w → m3 a ≤ M → x3.wp P (jump4 J0 J1 J2 J3 m0 m1 m2 m3 M Q) a w)
    (p2 : (∀ M a w, J3 a w → m3 a ≤ M → x3.wp P (jump4 J0 J1 J2 J3 m0 m1 m2 m3 M Q) a w) → ∀ M a w, J2 a w → m2 a ≤ M → x2.wp P (jump4 J0 J1 J2 J3 m0 m1 m2 m3 M Q) a w)
    (p0 : (∀ M a w, J2 a w → m2 a ≤ M → x2.wp P (jump4 J0 J1 J2 J3 m0 m1 m2 m3 M Q) a w) → ∀ M a w, J0 a w → m0 a ≤ M → x0.wp P (jump4 J0 J1 J2 J3 m0 m1 m2 m3 M Q) a w)
    (first : (∀ M a w, J0 a w → m0 a ≤ M → x0.wp P (jump4 J0 J1 J2 J3 m0 m1 m2 m3 M Q) a w) → c.wp P (jump4 J0 J1 J2 J3 m0 m1 m2 m3 N Q) a w) : (Code.scope c).wp P Q a w := by
  have sk : ∀ {x : Code} {Q : Exit → Act → World → Prop} {a : Act} {w : World}, x.wp P Q a w → (Code.skip.seq x).wp P Q a w := fun h => wp_seq (wp_skip h)
  have q3 := p3 p1
  have q2 := p2 q3
  have q0 := p0 q2
  intro b k cs
  have land : ∀ n e a w, jump4 J0 J1 J2 J3 m0 m1 m2 m3 n Q e a w → (∃ l, e = .goto l) → ∃ e' a' w', Q e' a' w' ∧ ∀ s, (∀ l r, e = .goto l → findLabel c l = some r → Steps P s (lone (b.at a (.code r :: .inScope c :: k)) cs w)) → Arrives P s b k cs e' a' w' := by
    intro n
    induction n using Nat.strongRecOn with
    | _ n ih =>
      have go : ∀ (l : Nat) (r : Code) (M : Nat) a w, findLabel c l = some r → M < n → r.wp P (jump4 J0 J1 J2 J3 m0 m1 m2 m3 M Q) a w → ∃ e' a' w', Q e' a' w' ∧ ∀ s, (∀ l' r', Exit.goto l = .goto l' → findLabel c l' = some r' → Steps P s (lone (b.at a (.code r' :: .inScope c :: k)) cs w)) → Arrives P s b k cs e' a' w' := by
        intro l r M a w hf hM hr
        obtain ⟨e₁, a₁, w₁, hq, harr⟩ := hr b (.inScope c :: k) cs
        cases e₁ with
        | normal => exact ⟨.normal, a₁, w₁, hq, fun s hs => .of_steps (hs l r rfl hf) (Steps.trans harr (.one step_inScope))⟩
        | exit id => exact ⟨.exit id, a₁, w₁, hq, fun s hs => .of_steps (hs l r rfl hf) (fun k' hk => harr k' (by simp [exitTo, hk]))⟩
        | ret => exact ⟨_, a₁, w₁, hq, fun s hs => .of_steps (hs l r rfl hf) harr⟩
        | panic ch => exact ⟨_, a₁, w₁, hq, fun s hs => .of_steps (hs l r rfl hf) harr⟩
        | outgrown => exact ⟨_, a₁, w₁, hq, fun s hs => .of_steps (hs l r rfl hf) harr⟩
        | goto l' =>
          obtain ⟨e₂, a₂, w₂, hq₂, h₂⟩ := ih M hM _ a₁ w₁ hq ⟨l', rfl⟩
          refine ⟨e₂, a₂, w₂, hq₂, fun s hs => h₂ s (fun l'' r'' e hr'' => ?_)⟩
          injection e with e
          subst e
          exact Steps.trans (hs l r rfl hf) (harr _ (by simp [gotoIn, hr'']))
      rintro e a w hj ⟨l, rfl⟩
      match l, hj with
      | 0, ⟨hj, hm⟩ => exact go 0 _ (m0 a) a w h0 hm (sk (q0 (m0 a) a w hj (Nat.le_refl _)))
      | 1, ⟨hj, hm⟩ => exact go 1 _ (m1 a) a w h1 hm (sk (p1 (m1 a) a w hj (Nat.le_refl _)))
      | 2, ⟨hj, hm⟩ => exact go 2 _ (m2 a) a w h2 hm (sk (q2 (m2 a) a w hj (Nat.le_refl _)))
      | 3, ⟨hj, hm⟩ => exact go 3 _ (m3 a) a w h3 hm (sk (q3 (m3 a) a w hj (Nat.le_refl _)))
      | n + 4, hj => exact hj.elim
  obtain ⟨e, a₁, w₁, hq, harr⟩ := first q0 b (.inScope c :: k) cs
  cases e with
  | normal => exact ⟨.normal, a₁, w₁, hq, .head step_scope (Steps.trans harr (.one step_inScope))⟩
  | exit id => exact ⟨.exit id, a₁, w₁, hq, fun k' hk => .head step_scope (harr k' (by simp [exitTo, hk]))⟩
  | ret => exact ⟨_, a₁, w₁, hq, .of_steps (.one step_scope) harr⟩
  | panic ch => exact ⟨_, a₁, w₁, hq, .of_steps (.one step_scope) harr⟩
  | outgrown => exact ⟨_, a₁, w₁, hq, .of_steps (.one step_scope) harr⟩
  | goto l' =>
    obtain ⟨e₂, a₂, w₂, hq₂, h₂⟩ := land N _ a₁ w₁ hq ⟨l', rfl⟩
    exact ⟨e₂, a₂, w₂, hq₂, h₂ _ (fun l'' r'' e hr'' => by
      injection e with e
      subst e
      exact .head step_scope (harr _ (by simp [gotoIn, hr''])))⟩

end Go.Proofs.YtpgpoeljbppggaaDoor
