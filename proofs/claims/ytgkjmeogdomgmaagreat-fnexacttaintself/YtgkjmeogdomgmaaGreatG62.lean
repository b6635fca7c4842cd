import Derived.Test.YtgkjmeogdomgmaaGreatG61
import Derived.Test.YtgkjmeogdomgmaaGreatG27
import Derived.Test.YtgkjmeogdomgmaaGreatG60
import Derived.WalkKit
import Derived.ProofKit
import Derived.OpenShut
import Derived.ShutString
import Derived.ChangeOld
import Derived.Below
import Derived.WalkSpells
import Derived.Deep.QuietTactic
import Derived.BigQuiet
import Derived.Deep.RegionWith
import Derived.Deep.WholeRow
import Derived.Deep.DeepCutAuto
import Derived.Deep.RegionHeld2
import Derived.Deep.AppendLies
import Derived.Deep.RegionLaw
namespace Go.Proofs.YtgkjmeogdomgmaaGreat
open Go.ChangeShapes Go.WideShapes Go.ChangeAt Go.RowKit

/-- the cache of a system of our own behind a pointer, and the system behind what is done with it. -/
theorem YM.cache {P : Nat} {S : Nat → Prop} {A : SA} {D : SD} {w : World} (h : YM P 0 S A D w) (hS : ∀ q, S q → q < w.heap.size) :
    ∃ T : Nat → Prop, (∀ k, T k → S k) ∧ CW w T P D.cz (.slice A.la A.ln A.lc) A.ln D.ls w ∧ ∀ (w' : World) (ra : Option Addr) (rn rc : Nat) (ls' : List (Int × Int × Int)), CW w T P D.cz (.slice ra rn rc) rn ls' w' → szY { A with la := ra, ln := rn, lc := rc } { D with ls := ls' } ≤ 1048576 →
      YM P 0 (fun q => S q ∨ (w.heap.size ≤ q ∧ q < w'.heap.size)) { A with la := ra, ln := rn, lc := rc } { D with ls := ls' } w' ∧ OutS (fun q => S q ∨ q = P) w w' := by
  obtain ⟨Q, q1, q2, q3, q4, q5, q6⟩ := h.y
  have hlen : D.ls.length = A.ln := h.y.oy.rs.ls.1
  have c6 := h.cs.cell 6 rfl
  have c7 := h.cs.cell 7 rfl
  simp only [Nat.zero_add] at c6 c7
  refine ⟨Q 3, fun k e => q1 _ _ e, ⟨h.lt, c6, fun _ _ => rfl, c7, h.fz, q6.2.1.1, hlen, fun g e => ⟨.inl (q6.2.1.2 g e), hS _ (q1 _ _ (q6.2.1.2 g e))⟩, fun e => h.ns (q1 _ _ e), OutS.refl _ _⟩, fun w' ra rn rc ls' V hz => ?_⟩
  have zz := V.out.size
  have hne : ∀ i k, Q i k → k ≠ P := fun i k e e2 => h.ns (e2 ▸ q1 _ _ e)
  have hk : ∀ j k, j ≠ 3 → Q j k → k < w.heap.size → w'.heap[k]? = w.heap[k]? := fun j k hj e hl => V.out.block k hl (fun e2 => by rcases e2 with e2 | e2; exact q2 j 3 k hj e e2; exact hne j k e e2)
  have ok : OL (fun k => Q 3 k ∨ (w.heap.size ≤ k ∧ k < w'.heap.size)) ra rn ls' w' := by
    obtain ⟨a, c, ea, ol⟩ := own_ol (by unfold szY at hz; dsimp only at hz; omega) V.len V.own
    injection ea with e1 _ e2
    subst e1 e2
    obtain ⟨l1, l2, l3⟩ := ol
    refine ⟨l1, l2, ?_⟩
    rcases l3 with l3 | ⟨b, rfl, hb, blk⟩
    · exact .inl l3
    · refine .inr ⟨b, rfl, ?_, blk⟩
      have := V.hS b rfl
      rcases this.1 with h1 | h1
      · exact .inl h1
      · exact .inr ⟨h1, this.2⟩
  have hcap : rn ≤ rc := by
    rcases V.own.2 with ⟨_, h0⟩ | ⟨g, cap, cur, e3, _⟩
    · omega
    · injection e3 with e4 _ e5
      have hw := V.own
      rw [e4, e5] at hw
      rw [e5]
      exact (own_room hw).1
  refine ⟨⟨?_, V.fz, fun e => ?_, Nat.lt_of_lt_of_le h.lt zz, ?_⟩, V.out.mono (fun k e => e.imp (fun e => q1 _ _ e) id)⟩
  · have ot : ∀ {i : Nat} {v : Value}, i ≠ 7 → w.cell? ⟨P, 0 + i, none⟩ = some v → w'.cell? ⟨P, 0 + i, none⟩ = some v := fun {i v} hi hv => (V.kp (0 + i) (by omega)).trans hv
    intro i hi
    simp only [List.length_cons, List.length_nil] at hi
    rcases (by omega : i = 0 ∨ i = 1 ∨ i = 2 ∨ i = 3 ∨ i = 4 ∨ i = 5 ∨ i = 6 ∨ i = 7 ∨ i = 8 ∨ i = 9 ∨ i = 10) with rfl | rfl | rfl | rfl | rfl | rfl | rfl | rfl | rfl | rfl | rfl
    · exact ot (by decide) (h.cs.cell 0 rfl)
    · exact ot (by decide) (h.cs.cell 1 rfl)
    · exact ot (by decide) (h.cs.cell 2 rfl)
    · exact ot (by decide) (h.cs.cell 3 rfl)
    · exact ot (by decide) (h.cs.cell 4 rfl)
    · exact ot (by decide) (h.cs.cell 5 rfl)
    · exact ot (by decide) (h.cs.cell 6 rfl)
    · exact V.c1
    · exact ot (by decide) (h.cs.cell 8 rfl)
    · exact ot (by decide) (h.cs.cell 9 rfl)
    · exact ot (by decide) (h.cs.cell 10 rfl)
  · rcases e with e | e
    · exact h.ns e
    · have := h.lt; omega
  · refine ⟨fun i k => if i = 3 then (Q 3 k ∨ (w.heap.size ≤ k ∧ k < w'.heap.size)) else Q i k, fun i k e => ?_, fun i j k hij e e2 => ?_, hz, hcap, ?_, ?_⟩
    · simp only at e
      split at e
      · exact e.imp (fun e => q1 _ _ e) id
      · exact .inl (q1 _ _ e)
    · simp only at e e2
      split at e
      · rw [if_neg (by omega)] at e2
        have := hS k (q1 _ _ e2)
        rcases e with e | e
        · exact q2 3 j k (by omega) e e2
        · omega
      · have := hS k (q1 _ _ e)
        split at e2
        · rcases e2 with e2 | e2
          · exact q2 i 3 k (by omega) e e2
          · omega
        · exact q2 i j k hij e e2
    · exact ⟨OT.loc w w' (fun k e hl => hk 0 k (by decide) e hl) q5.t, OWd.loc w w' (fun k e hl => hk 1 k (by decide) e hl) q5.m, OX.loc w w' (fun k e hl => hk 2 k (by decide) e hl) q5.x, ok, OS.loc w w' (fun k e hl => hk 4 k (by decide) e hl) q5.o, OWd.loc w w' (fun k e hl => hk 5 k (by decide) e hl) q5.g⟩
    · refine ⟨RW.loc w w' (fun k e hl => hk 4 k (by decide) e hl) q6.1, ⟨V.own, fun g e => ?_⟩, RSl.loc w w' (fun k e hl => hk 0 k (by decide) e hl) q6.2.2⟩
      have := V.hS g e
      rcases this.1 with h1 | h1
      · exact .inl h1
      · exact .inr ⟨h1, this.2⟩

/-- the slots and domains of a system of our own behind a pointer are turned. -/
theorem YM.tab {P : Nat} {S : Nat → Prop} {A : SA} {D : SD} {w w' : World} (h : YM P 0 S A D w) (hS : ∀ q, S q → q < w.heap.size) {Q : Nat → Nat → Prop} (q1 : ∀ i k, Q i k → S k) (q2 : ∀ i j k, i ≠ j → Q i k → ¬ Q j k) (q4 : A.ln ≤ A.lc) (q5 : OYb Q A D w) (q6 : RwY Q A D w)
    {S1 S2 S3 : Nat → Prop} (i1 : ∀ k, S1 k → Q 0 k) (i2 : ∀ k, S2 k → Q 0 k) (i3 : ∀ k, S3 k → Q 0 k) (d1 : ∀ k, S1 k → ¬ S2 k) (d2 : ∀ k, S1 k → ¬ S3 k) (d3 : ∀ k, S2 k → ¬ S3 k) (o2 : OS S2 A.ta A.tn D.ts w)
    {a' : Option Addr} {n' c' : Nat} {ss' : List (Int × List Int)} {ds' : List Int} (ho : OutS (fun k => (S1 k ∨ k = P) ∨ S3 k) w w') (hk : KQ P w w') (hc : w'.cell? ⟨P, 0, none⟩ = some (.slice a' n' c')) (hr : OR (fun k => S1 k ∨ InR w.heap.size w'.heap.size k) a' n' ss' w') (hy : ∃ ys, w'.ownsRow 0 150 2 (.slice a' n' c') n' ys) (hp : 0 < n') (hd : OS S3 A.da A.dn ds' w')
    (hz : szY { A with a := a', n := n', c := c' } { D with ss := ss', ds := ds' } ≤ 1048576) :
    YM P 0 (fun q => S q ∨ (w.heap.size ≤ q ∧ q < w'.heap.size)) { A with a := a', n := n', c := c' } { D with ss := ss', ds := ds' } w' := by
  have zz := ho.size
  have hne : ∀ i k, Q i k → k ≠ P := fun i k e e2 => h.ns (e2 ▸ q1 _ _ e)
  have hb : ∀ j k, j ≠ 0 → Q j k → k < w.heap.size → w'.heap[k]? = w.heap[k]? := fun j k hj e hl => ho.block k hl (fun e2 => by
    rcases e2 with (e2 | e2) | e2
    · exact q2 j 0 k hj e (i1 k e2)
    · exact hne j k e e2
    · exact q2 j 0 k hj e (i3 k e2))
  refine ⟨?_, fun j => ((hk j).2).trans (h.fz j), fun e => ?_, Nat.lt_of_lt_of_le h.lt zz, ?_⟩
  · have ot : ∀ {i : Nat} {v : Value}, i ≠ 0 → w.cell? ⟨P, 0 + i, none⟩ = some v → w'.cell? ⟨P, 0 + i, none⟩ = some v := fun {i v} hi hv => ((hk (0 + i)).1 (by omega)).trans hv
    intro i hi
    simp only [List.length_cons, List.length_nil] at hi
    rcases (by omega : i = 0 ∨ i = 1 ∨ i = 2 ∨ i = 3 ∨ i = 4 ∨ i = 5 ∨ i = 6 ∨ i = 7 ∨ i = 8 ∨ i = 9 ∨ i = 10) with rfl | rfl | rfl | rfl | rfl | rfl | rfl | rfl | rfl | rfl | rfl
    · exact hc
    · exact ot (by decide) (h.cs.cell 1 rfl)
    · exact ot (by decide) (h.cs.cell 2 rfl)
    · exact ot (by decide) (h.cs.cell 3 rfl)
    · exact ot (by decide) (h.cs.cell 4 rfl)
    · exact ot (by decide) (h.cs.cell 5 rfl)
    · exact ot (by decide) (h.cs.cell 6 rfl)
    · exact ot (by decide) (h.cs.cell 7 rfl)
    · exact ot (by decide) (h.cs.cell 8 rfl)
    · exact ot (by decide) (h.cs.cell 9 rfl)
    · exact ot (by decide) (h.cs.cell 10 rfl)
  · rcases e with e | e
    · exact h.ns e
    · have := h.lt; omega
  · refine ⟨fun i k => if i = 0 then (Q 0 k ∨ (w.heap.size ≤ k ∧ k < w'.heap.size)) else Q i k, fun i k e => ?_, fun i j k hij e e2 => ?_, hz, q4, ⟨?_, OWd.loc w w' (fun k e hl => hb 1 k (by decide) e hl) q5.m, OX.loc w w' (fun k e hl => hb 2 k (by decide) e hl) q5.x, OL.loc w w' (fun k e hl => hb 3 k (by decide) e hl) q5.l, OS.loc w w' (fun k e hl => hb 4 k (by decide) e hl) q5.o, OWd.loc w w' (fun k e hl => hb 5 k (by decide) e hl) q5.g⟩, ?_⟩
    · simp only at e
      split at e
      · exact e.imp (fun e => q1 _ _ e) id
      · exact .inl (q1 _ _ e)
    · simp only at e e2
      split at e
      · rw [if_neg (by omega)] at e2
        have := hS k (q1 _ _ e2)
        rcases e with e | e
        · exact q2 0 j k (by omega) e e2
        · omega
      · have := hS k (q1 _ _ e)
        split at e2
        · rcases e2 with e2 | e2
          · exact q2 i 0 k (by omega) e e2
          · omega
        · exact q2 i j k hij e e2
    · refine ⟨fun k => S1 k ∨ InR w.heap.size w'.heap.size k, S2, S3, fun k e => e.imp (i1 k) id, fun k e => .inl (i2 k e), fun k e => .inl (i3 k e), fun k e e2 => ?_, fun k e e2 => ?_, d3, hr, ?_, hd⟩
      · rcases e with e | e
        · exact d1 k e e2
        · have := hS k (q1 _ _ (i2 k e2)); have := e.1; omega
      · rcases e with e | e
        · exact d2 k e e2
        · have := hS k (q1 _ _ (i3 k e2)); have := e.1; omega
      · refine OS.loc w w' (fun k e hl => ho.block k hl (fun e2 => ?_)) o2
        rcases e2 with (e2 | e2) | e2
        · exact d1 k e2 e
        · exact hne 0 k (i2 k e) e2
        · exact d3 k e e2
    · refine ⟨RW.loc w w' (fun k e hl => hb 4 k (by decide) e hl) q6.1, RLn.loc w w' (fun k e hl => hb 3 k (by decide) e hl) q6.2.1, hy, fun g e => ?_⟩
      obtain ⟨N, la, lc, lb, rfl, hbb⟩ := hr.body hp
      have hN := hbb.hS
      simp only [Value.ownBlock, Option.some.injEq] at e
      subst e
      exact hN.imp (i1 _) id

theorem lenX_8 : ∀ (cs : List (List Int × Int × Bool)), (∀ j, j < cs.length → (gx cs j).1.length ≤ 8) → lenX cs ≤ cs.length * 8
  | [], _ => by simp [lenX]
  | s :: r, h => by
    have h0 := h 0 (by simp)
    have ih := lenX_8 r (fun j hj => by have := h (j + 1) (by simpa using hj); simpa [gx] using this)
    simp [lenX, gx] at h0 ⊢
    omega

theorem SysR.tiny {w : World} {A : SA} {D : SD} {k : Nat} (h : SysR A D k) (hr : RS w A D) : szY A D ≤ 400 := by
  obtain ⟨k0, k1, k2, k3, k4, k5, k6, k7⟩ := hr.len
  have a1 := lenSum_few D.ss (good_len h.good)
  have a2 := h.good.few
  have a3 := lenX_8 D.cs (fun j hj => Nat.le_of_eq (h.cx j (by have := h.xd; omega)).1)
  have a4 := mfC_len h.mf
  have a5 := h.fc.1
  have := h.xd
  have := h.d4
  have := h.t6
  have := h.g3
  have := h.o40
  unfold szY
  omega

/-- a system behind a pointer: its cells, and what they own. -/
structure YC (P : Nat) (S : Nat → Prop) (A : SA) (D : SD) (w : World) : Prop where
  cs : CsO P 0 [.slice A.a A.n A.c, .slice A.ta A.tn A.tc, .slice A.da A.dn A.dc, .slice A.wa A.wn A.wc, .slice A.xa A.xn A.xc, .int .i64 D.ac, .int .i64 D.cz, .slice A.la A.ln A.lc, .int .i64 D.dv, .slice A.oa A.on A.oc, .slice A.ga A.gn A.gc] w
  oy : OY S A D w

end Go.Proofs.YtgkjmeogdomgmaaGreat
