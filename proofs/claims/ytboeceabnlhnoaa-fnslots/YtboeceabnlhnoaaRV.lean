import Derived.Test.YtboeceabnlhnoaaL2EnterS
import Derived.Test.YtboeceabnlhnoaaL2LeaveR
import Derived.WalkKit
import Derived.ProofKit
import Derived.OpenShut
import Derived.ShutString
import Derived.ChangeOld
import Derived.Below
import Derived.WalkSpells
import Derived.Deep.QuietTactic
import Derived.BigQuiet
import Derived.Deep.RegionWith
import Derived.Deep.WholeRow
import Derived.Deep.DeepCutAuto
import Derived.Deep.RegionHeld2
import Derived.Deep.AppendLies
import Derived.Deep.RegionLaw
namespace Go.Proofs.Ytboeceabnlhnoaa
open Go.ChangeShapes Go.WideShapes Go.ChangeAt Go.RowKit

/-- a registry's variable at block q: its row and its labels in blocks of S behind q, the row its own, the registry right. -/
structure RV (q : Nat) (S : Nat → Prop) (ra : Option Addr) (n rc : Nat) (ss : List (Int × List Int)) (X : World) : Prop where
  c : X.cell? ⟨q, 0, none⟩ = some (.slice ra n rc)
  f : X.frozen? ⟨q, 0, none⟩ = false
  o : OR S ra n ss X
  row : ∃ ys, X.ownsRow (q + 1) 72 2 (.slice ra n rc) n ys
  vT : ∀ g, (Value.slice ra n rc).ownBlock = some g → S g
  sS : ∀ k, S k → q + 1 ≤ k ∧ k < X.heap.size
  good : Good ss
  lt : q < X.heap.size

theorem own_keepS {w u : World} {B m k : Nat} {e : TypeId} {v : Value} {L : List Value} (h : w.ownsRow B e m v k L) (hk : ∀ g, v.ownBlock = some g → u.heap[g]? = w.heap[g]?) : u.ownsRow B e m v k L := by
  obtain ⟨h1, h2⟩ := h
  refine ⟨h1, ?_⟩
  rcases h2 with h2 | ⟨g, cap, cur, hv, hg, hh, r⟩
  · exact .inl h2
  · exact .inr ⟨g, cap, cur, hv, hg, by rw [hk g (by rw [hv]; rfl)]; exact hh, r⟩

theorem RV.keep {q : Nat} {S : Nat → Prop} {ra : Option Addr} {n rc : Nat} {ss : List (Int × List Int)} {X Y : World} (h : RV q S ra n rc ss X) (hz : X.heap.size ≤ Y.heap.size) (hk : ∀ k, q ≤ k → k < X.heap.size → Y.heap[k]? = X.heap[k]?) : RV q S ra n rc ss Y := by
  obtain ⟨ys, hr⟩ := h.row
  exact ⟨(World.cell?_of_block (a := ⟨q, 0, none⟩) (hk q (Nat.le_refl _) h.lt)).trans h.c, (World.frozen?_of_block (a := ⟨q, 0, none⟩) (hk q (Nat.le_refl _) h.lt)).trans h.f, OR.loc X Y (fun k hS hl => hk k (by have := (h.sS k hS).1; omega) hl) h.o, ⟨ys, own_keepS hr (fun g hg => hk g (by have := (hr.lt g hg).1; omega) (hr.lt g hg).2)⟩, h.vT, fun k hS => ⟨(h.sS k hS).1, by have := (h.sS k hS).2; omega⟩, h.good, by have := h.lt; omega⟩

theorem RV.below {q : Nat} {S : Nat → Prop} {ra : Option Addr} {n rc : Nat} {ss : List (Int × List Int)} {X Y : World} (h : RV q S ra n rc ss X) (hb : Below X.heap.size X Y) : RV q S ra n rc ss Y := h.keep hb.size (fun k _ hk => hb.block k hk)

theorem RV.outside {q p : Nat} {S : Nat → Prop} {ra : Option Addr} {n rc : Nat} {ss : List (Int × List Int)} {X Y : World} (h : RV q S ra n rc ss X) (ho : Outside p (p + 1) X Y) (hp : p < q) : RV q S ra n rc ss Y := h.keep ho.size (fun k hq hk => ho.block k hk (.inr (by omega)))

theorem RV.new (X : World) (t : TypeId) : RV X.heap.size (fun _ => False) none 0 0 [] (X.alloc (.cells #[.slice none 0 0] t)) :=
  ⟨by simp, by simp, ⟨rfl, by simp [lenSum], .inl rfl⟩, ⟨[], World.ownsRow_nil _ _ _ _⟩, fun g hg => by simp [Value.ownBlock] at hg, fun k h => h.elim, ⟨by simp, fun j hj => by simp at hj, fun j hj => by simp at hj, fun j hj => by simp at hj, fun j hj => by simp at hj, fun i j hi => by simp at hi⟩, by simp⟩

theorem or_block {S : Nat → Prop} {a : Option Addr} {n c : Nat} {ss : List (Int × List Int)} {w : World} (h : OR S a n ss w) (hn : 0 < n) : ∀ g, (Value.slice a n c).ownBlock = some g → S g := by
  obtain ⟨N, la, lc, lb, rfl, hb⟩ := h.body hn
  intro g hg
  simp [Value.ownBlock] at hg
  exact hg ▸ hb.hS

theorem enS_pos {ss : List (Int × List Int)} {zs : List Int} (_ : Good ss) : 0 < (enS ss zs).length := by
  unfold enS layS
  by_cases h : enQ ss zs < ss.length
  · rw [if_pos h, List.length_set]; omega
  · rw [if_neg h, List.length_append]; simp

theorem fault_rng {zs : List Int} (h4 : zs.length = 4) (h : ∀ v ∈ zs, 0 ≤ v ∧ v ≤ 5) : fault zs = 0 := by
  unfold fault
  rw [if_pos h4, if_pos]
  rw [List.all_eq_true]
  intro v hv
  have := h v hv
  simp [okI]
  omega

/-- behind an entering, whether it was done or not. -/
theorem RV.entered {q : Nat} {S : Nat → Prop} {ra : Option Addr} {n rc : Nat} {ss : List (Int × List Int)} {zs : List Int} {X Y : World} {e : Ending} (h : RV q S ra n rc ss X) (hz : fault zs = 0) (he : ERs q (q + 1) S ss zs X e Y) : ∃ S' ra' n' rc' ss', RV q S' ra' n' rc' ss' Y := by
  obtain ⟨_, h1, h2, h3, h4⟩ := he
  by_cases hc : etC ss zs = 0
  · obtain ⟨a', ca', c1, o1, r1⟩ := h1 hc
    refine ⟨_, a', _, ca', enS ss zs, c1, ((h4 0).2).trans h.f, o1, r1, or_block o1 (enS_pos h.good), fun k hk => ?_, good_enter h.good hz hc, by have := h3.size; have := h.lt; omega⟩
    rcases hk with hk | hk
    · exact ⟨(h.sS k hk).1, by have := (h.sS k hk).2; have := h3.size; omega⟩
    · exact ⟨by have := hk.1; have := h.lt; omega, hk.2⟩
  · exact ⟨S, ra, n, rc, ss, h.below (h2 hc)⟩

/-- what an entering leaves of the rest. -/
theorem RV.enterB {q : Nat} {S : Nat → Prop} {ra : Option Addr} {n rc : Nat} {ss : List (Int × List Int)} {zs : List Int} {X Y : World} {e : Ending} (h : RV q S ra n rc ss X) (he : ERs q (q + 1) S ss zs X e Y) : Below q X Y := by
  have h3 := he.2.2.2.1
  exact h3.below (fun k hk => by rcases hk with hk | hk; have := (h.sS k hk).1; omega; omega) (by have := h.lt; omega)

theorem RV.left {q : Nat} {S : Nat → Prop} {ra : Option Addr} {n rc p : Nat} {ss : List (Int × List Int)} {X Y : World} (h : RV q S ra n rc ss X) (hp : p < ss.length) (hg : 0 < gc ss p) (ho : OR S ra n (leaveS ss p) Y) (hr : ∃ xs, Y.ownsRow (q + 1) 72 2 (.slice ra n rc) n xs) (hs : OutS S X Y) : RV q S ra n rc (leaveS ss p) Y := by
  have hq : ¬ S q := fun e => by have := (h.sS q e).1; omega
  have hb := hs.block q h.lt hq
  exact ⟨(World.cell?_of_block (a := ⟨q, 0, none⟩) hb).trans h.c, (World.frozen?_of_block (a := ⟨q, 0, none⟩) hb).trans h.f, ho, hr, h.vT, fun k hk => ⟨(h.sS k hk).1, by have := (h.sS k hk).2; have := hs.size; omega⟩, good_leave h.good hp hg, by have := h.lt; have := hs.size; omega⟩

end Go.Proofs.Ytboeceabnlhnoaa
