import Derived.Test.YtipfaoecodclaaaCoP
import Derived.Test.YtipfaoecodclaaaKfP
import Derived.Deep.AppendLies
import Derived.WalkKit
import Derived.ProofKit
import Derived.OpenShut
import Derived.ShutString
import Derived.ChangeOld
import Derived.Below
import Derived.WalkSpells
import Derived.Deep.QuietTactic
import Derived.BigQuiet
import Derived.Deep.RegionWith
import Derived.Deep.WholeRow
import Derived.Deep.DeepCutAuto
import Derived.Deep.RegionHeld2
import Derived.Deep.AppendLies
import Derived.Deep.RegionLaw
namespace Go.Proofs.Ytipfaoecodclaaa
open Go.ChangeShapes Go.WideShapes Go.ChangeAt Go.RowKit

/-- the Up of object k, once the boxes ahead have their places. -/
def upW (f : Nat → OB) (ps : List Int) (k : Nat) : Int := if k = 0 then (f k).1 else gt ps (f k).1.toNat
/-- is object k gone: by itself, or with its box. -/
def wtGo (p : Nat → Bool) (f : Nat → OB) (ps : List Int) (k : Nat) : Bool := p k || (decide (0 < k) && decide (upW f ps k < 0))
/-- the first k objects: the place of each in what is left (-1: none), and what is left. -/
def wtS (p : Nat → Bool) (f : Nat → OB) : Nat → List Int × List OB
  | 0 => ([], [])
  | k + 1 => if wtGo p f (wtS p f k).1 k = true then ((wtS p f k).1 ++ [-1], (wtS p f k).2) else ((wtS p f k).1 ++ [((wtS p f k).2.length : Int)], (wtS p f k).2 ++ [(upW f (wtS p f k).1 k, (f k).2)])

theorem wtS_go {p : Nat → Bool} {f : Nat → OB} {k : Nat} (h : wtGo p f (wtS p f k).1 k = true) : wtS p f (k + 1) = ((wtS p f k).1 ++ [-1], (wtS p f k).2) := if_pos h
theorem wtS_stay {p : Nat → Bool} {f : Nat → OB} {k : Nat} (h : wtGo p f (wtS p f k).1 k = false) : wtS p f (k + 1) = ((wtS p f k).1 ++ [((wtS p f k).2.length : Int)], (wtS p f k).2 ++ [(upW f (wtS p f k).1 k, (f k).2)]) := if_neg (by rw [h]; decide)

theorem wtGo_self {p : Nat → Bool} {f : Nat → OB} {ps : List Int} {k : Nat} (h : p k = true) : wtGo p f ps k = true := by unfold wtGo; rw [h]; rfl
theorem wtGo_box {p : Nat → Bool} {f : Nat → OB} {ps : List Int} {k : Nat} {u : Int} (h0 : 0 < k) (h1 : upW f ps k = u) (h : u < 0) : wtGo p f ps k = true := by unfold wtGo; rw [h1, decide_eq_true h0, decide_eq_true h]; simp
theorem wtGo_no {p : Nat → Bool} {f : Nat → OB} {ps : List Int} {k : Nat} {u : Int} (h : p k = false) (h1 : upW f ps k = u) (h2 : 0 < k → ¬ u < 0) : wtGo p f ps k = false := by
  unfold wtGo
  rw [h, h1]
  by_cases h0 : 0 < k
  · rw [decide_eq_true h0, decide_eq_false (h2 h0)]; rfl
  · rw [decide_eq_false h0]; rfl

theorem wtS_len (p : Nat → Bool) (f : Nat → OB) (k : Nat) : (wtS p f k).1.length = k ∧ (wtS p f k).2.length ≤ k := by
  induction k with
  | zero => exact ⟨rfl, Nat.le_refl _⟩
  | succ k ih =>
    by_cases h : wtGo p f (wtS p f k).1 k = true
    · rw [wtS_go h]; simp; omega
    · rw [wtS_stay (by simpa using h)]; simp; omega

/-- what is left only grows. -/
theorem wtS_pre (p : Nat → Bool) (f : Nat → OB) {k n : Nat} (h : k ≤ n) : (wtS p f k).2.length ≤ (wtS p f n).2.length ∧ ∀ j, j < (wtS p f k).2.length → gO (wtS p f n).2 j = gO (wtS p f k).2 j := by
  induction n with
  | zero => obtain rfl : k = 0 := by omega
            exact ⟨Nat.le_refl _, fun _ _ => rfl⟩
  | succ n ih =>
    by_cases e : k = n + 1
    · subst e; exact ⟨Nat.le_refl _, fun _ _ => rfl⟩
    · obtain ⟨h1, h2⟩ := ih (by omega)
      by_cases hg : wtGo p f (wtS p f n).1 n = true
      · rw [wtS_go hg]; exact ⟨h1, h2⟩
      · rw [wtS_stay (by simpa using hg)]
        refine ⟨by simp; omega, fun j hj => ?_⟩
        rw [← h2 j hj]
        simp only [gO, List.getD_eq_getElem?_getD]
        rw [List.getElem?_append_left (by omega)]

theorem wtS_at {p : Nat → Bool} {f : Nat → OB} {k n : Nat} (h : k < n) (hg : wtGo p f (wtS p f k).1 k = false) : (wtS p f k).2.length < (wtS p f n).2.length ∧ gO (wtS p f n).2 (wtS p f k).2.length = (upW f (wtS p f k).1 k, (f k).2) := by
  obtain ⟨h1, h2⟩ := wtS_pre p f (k := k + 1) (n := n) (by omega)
  rw [wtS_stay hg] at h1 h2
  simp only [List.length_append, List.length_singleton] at h1 h2
  refine ⟨by omega, ?_⟩
  rw [h2 _ (by omega)]
  simp [gO]

theorem wtS_next {p : Nat → Bool} {f : Nat → OB} {k : Nat} (j : Nat) (h : j ≤ k) : gt (wtS p f (k + 1)).1 j = if j = k then (if wtGo p f (wtS p f k).1 k = true then -1 else ((wtS p f k).2.length : Int)) else gt (wtS p f k).1 j := by
  have hl := (wtS_len p f k).1
  have key : ∀ u : Int, gt ((wtS p f k).1 ++ [u]) j = if j = k then u else gt (wtS p f k).1 j := fun u => by
    by_cases e : j = k
    · subst e; rw [if_pos rfl]; simp [gt, List.getD_eq_getElem?_getD, hl]
    · rw [if_neg e]; simp only [gt, List.getD_eq_getElem?_getD]; rw [List.getElem?_append_left (by omega)]
  by_cases hg : wtGo p f (wtS p f k).1 k = true
  · rw [wtS_go hg, if_pos hg]; exact key _
  · rw [wtS_stay (by simpa using hg), if_neg hg]; exact key _

/-- each place is -1, or one of what is left. -/
theorem wtS_rng (p : Nat → Bool) (f : Nat → OB) (k j : Nat) (h : j < k) : -1 ≤ gt (wtS p f k).1 j ∧ gt (wtS p f k).1 j < k := by
  induction k with
  | zero => omega
  | succ k ih =>
    rw [wtS_next j (by omega)]
    by_cases e : j = k
    · rw [if_pos e]
      have := (wtS_len p f k).2
      by_cases hg : wtGo p f (wtS p f k).1 k = true
      · rw [if_pos hg]; omega
      · rw [if_neg hg]; omega
    · rw [if_neg e]; have := ih (by omega); omega

theorem lenO_append (xs ys : List OB) : lenO (xs ++ ys) = lenO xs + lenO ys := by
  induction xs with
  | nil => simp [lenO]
  | cons x r ih => simp only [List.cons_append, lenO, ih]; omega

theorem wtS_sz (p : Nat → Bool) (f : Nat → OB) (m k : Nat) (h : ∀ j, j < k → (f j).2.2.2.1.length + (f j).2.2.2.2.2.2.length ≤ m) : lenO (wtS p f k).2 ≤ k * m := by
  induction k with
  | zero => simp [wtS, lenO]
  | succ k ih =>
    have h1 := ih (fun j hj => h j (by omega))
    have h2 := h k (by omega)
    have h3 : (k + 1) * m = k * m + m := Nat.succ_mul k m
    by_cases hg : wtGo p f (wtS p f k).1 k = true
    · rw [wtS_go hg]; dsimp only; omega
    · rw [wtS_stay (by simpa using hg), lenO_append]
      simp only [lenO]
      omega

theorem lenO_all (xs : List OB) (m : Nat) (h : ∀ j, j < xs.length → (gO xs j).2.2.2.1.length + (gO xs j).2.2.2.2.2.2.length ≤ m) : lenO xs ≤ xs.length * m := by
  induction xs with
  | nil => simp [lenO]
  | cons x r ih =>
    have h0 := h 0 (by simp)
    have h1 := ih (fun j hj => h (j + 1) (by simpa using hj))
    have e : gO (x :: r) 0 = x := rfl
    rw [e] at h0
    simp only [lenO, List.length_cons, Nat.succ_mul]
    omega

theorem CO.kept {wr : World} {B : Nat} {f : Nat → OB} {k : Nat} {v : Value} {la : Nat → Option Addr} {lc lb : Nat → Nat} {xs : List Value} (h : CO wr B f k v la lc lb xs) {w' : World} {row : Option Nat} (hg : wr.grownBy w' row) (h1 : v.ownBlock = none ∨ v.ownBlock ≠ row) (h2 : ∀ q, q < 2 * k → 0 < (sbO f q).length → row ≠ some (lb q)) : CO w' B f k v la lc lb xs :=
  ⟨h.own.kept hg h1, h.x, fun q hq => OS.loc wr w' (fun b hb hlt => hg.block b hlt (fun e => h2 q hq hb.2 (by rw [← e, hb.1]))) (h.os q hq), fun q hq hl => ⟨(h.ge q hq hl).1, by have := (h.ge q hq hl).2; have := hg.size; omega⟩, h.ne, h.ap⟩

/-- what is left of the first k of f: its row from block B on, the rows of numbers in blocks of the copy (lb), the row itself in none below T. -/
def KW (wr : World) (B T : Nat) (p : Nat → Bool) (f : Nat → OB) (n k : Nat) (v : Value) (lb : Nat → Nat) (L : List Value) : Prop :=
  ∃ la2 lc2 lb2, CO wr B (gO (wtS p f n).2) (wtS p f k).2.length v la2 lc2 lb2 L ∧ (∀ q, q < 2 * (wtS p f k).2.length → 0 < (sbO (gO (wtS p f n).2) q).length → ∃ r, r < 2 * k ∧ lb2 q = lb r ∧ 0 < (sbO f r).length) ∧ ∀ q, v.ownBlock = some q → T ≤ q

theorem KW.start {wr : World} {B T : Nat} (p : Nat → Bool) (f : Nat → OB) (n : Nat) {v : Value} (lb : Nat → Nat) (h : wr.ownsRow B 57 7 v 0 []) (hT : ∀ q, v.ownBlock = some q → T ≤ q) : KW wr B T p f n 0 v lb [] :=
  ⟨_, _, _, CO.start _ h, fun q hq => absurd hq (by simp [wtS]), hT⟩

theorem KW.below {wr w' : World} {B T : Nat} {p : Nat → Bool} {f : Nat → OB} {n k : Nat} {v : Value} {lb : Nat → Nat} {L : List Value} (h : KW wr B T p f n k v lb L) (hc : Below wr.heap.size wr w') : KW w' B T p f n k v lb L := by
  obtain ⟨la2, lc2, lb2, h1, h2, h3⟩ := h
  exact ⟨la2, lc2, lb2, h1.below hc, h2, h3⟩

theorem KW.skip {wr : World} {B T : Nat} {p : Nat → Bool} {f : Nat → OB} {n k : Nat} {v : Value} {lb : Nat → Nat} {L : List Value} (h : KW wr B T p f n k v lb L) (hg : wtGo p f (wtS p f k).1 k = true) : KW wr B T p f n (k + 1) v lb L := by
  obtain ⟨la2, lc2, lb2, h1, h2, h3⟩ := h
  have e : (wtS p f (k + 1)).2 = (wtS p f k).2 := by rw [wtS_go hg]
  refine ⟨la2, lc2, lb2, by rw [e]; exact h1, fun q hq hl => ?_, h3⟩
  rw [e] at hq
  obtain ⟨r, hr, h4⟩ := h2 q hq hl
  exact ⟨r, by omega, h4⟩

theorem KW.kept {wr w' : World} {B T : Nat} {p : Nat → Bool} {f : Nat → OB} {n k : Nat} {v : Value} {lb : Nat → Nat} {L : List Value} (h : KW wr B T p f n k v lb L) {row : Option Nat} (hg : wr.grownBy w' row) (h1 : v.ownBlock = none ∨ v.ownBlock ≠ row) (h2 : ∀ r, r < 2 * k → 0 < (sbO f r).length → row ≠ some (lb r)) : KW w' B T p f n k v lb L := by
  obtain ⟨la2, lc2, lb2, h3, h4, h5⟩ := h
  exact ⟨la2, lc2, lb2, h3.kept hg h1 (fun q hq hl => by obtain ⟨r, hr, e, hp⟩ := h4 q hq hl; rw [e]; exact h2 r hr hp), h4, h5⟩

theorem KW.setC {wr : World} {B T : Nat} {p : Nat → Bool} {f : Nat → OB} {n k : Nat} {v : Value} {lb : Nat → Nat} {L : List Value} (h : KW wr B T p f n k v lb L) {P o : Nat} (hP : P < B) (y : Value) : KW (wr.setCell ⟨P, o, none⟩ y) B T p f n k v lb L := by
  obtain ⟨la2, lc2, lb2, h1, h2, h3⟩ := h
  exact ⟨la2, lc2, lb2, h1.setC hP y, h2, h3⟩

theorem KW.form {wr : World} {B T : Nat} {p : Nat → Bool} {f : Nat → OB} {n k : Nat} {v : Value} {lb : Nat → Nat} {L : List Value} (h : KW wr B T p f n k v lb L) : ∃ ra rc, v = .slice ra (wtS p f k).2.length rc := by
  obtain ⟨la2, lc2, lb2, h1, _, _⟩ := h
  rcases h1.own.2 with ⟨e, e2⟩ | ⟨g, cap, cur, e, _⟩
  · exact ⟨none, 0, by rw [e2]; exact e⟩
  · exact ⟨_, cap, e⟩

theorem KW.own {wr : World} {B T : Nat} {p : Nat → Bool} {f : Nat → OB} {n k : Nat} {v : Value} {lb : Nat → Nat} {L : List Value} (h : KW wr B T p f n k v lb L) : wr.ownsRow B 57 7 v (wtS p f k).2.length L := by
  obtain ⟨la2, lc2, lb2, h1, _, _⟩ := h
  exact h1.own

theorem KW.ge {wr : World} {B T : Nat} {p : Nat → Bool} {f : Nat → OB} {n k : Nat} {v : Value} {lb : Nat → Nat} {L : List Value} (h : KW wr B T p f n k v lb L) {q : Nat} (e : v.ownBlock = some q) : T ≤ q := by
  obtain ⟨la2, lc2, lb2, _, _, h3⟩ := h
  exact h3 q e

theorem KW.lt {wr : World} {B T : Nat} {p : Nat → Bool} {f : Nat → OB} {n k : Nat} {v : Value} {lb : Nat → Nat} {L : List Value} (h : KW wr B T p f n k v lb L) {q : Nat} (e : v.ownBlock = some q) : q < wr.heap.size := by
  obtain ⟨la2, lc2, lb2, h1, _, _⟩ := h
  exact (h1.own.lt q e).2

/-- one object more is left: its label and its data lie where the copy has them. -/
theorem KW.push {wr : World} {B T : Nat} {p : Nat → Bool} {f : Nat → OB} {n k : Nat} {v : Value} {lb : Nat → Nat} {L : List Value} (h : KW wr B T p f n k v lb L) {X w1 : World} (hc : Below wr.heap.size wr X) {la : Nat → Option Addr} {lc : Nat → Nat} {g cp : Nat} (hk : k < n) (hgo : wtGo p f (wtS p f k).1 k = false)
    (hos : ∀ q, q < 2 * n → OS (fun b => b = lb q ∧ 0 < (sbO f q).length) (la q) (sbO f q).length (sbO f q) X)
    (hge : ∀ q, q < 2 * n → 0 < (sbO f q).length → B ≤ lb q ∧ lb q < T) (hap : ∀ q r, q < 2 * n → r < 2 * n → q ≠ r → 0 < (sbO f q).length → 0 < (sbO f r).length → lb q ≠ lb r) (hTX : T ≤ X.heap.size)
    (hg : X.grownBy w1 v.ownBlock) (hat : v.ownBlock = some g ∨ g = X.heap.size)
    (hown : w1.ownsRow B 57 7 (.slice (some ⟨g, 0, none⟩) ((wtS p f k).2.length + 1) cp) ((wtS p f k).2.length + 1) (L ++ v7 (upW f (wtS p f k).1 k, (f k).2) (la (2 * k)) (lc (2 * k)) (la (2 * k + 1)) (lc (2 * k + 1)))) :
    KW w1 B T p f n (k + 1) (.slice (some ⟨g, 0, none⟩) ((wtS p f k).2.length + 1) cp) lb (L ++ v7 (upW f (wtS p f k).1 k, (f k).2) (la (2 * k)) (lc (2 * k)) (la (2 * k + 1)) (lc (2 * k + 1))) := by
  obtain ⟨la2, lc2, lb2, h1, h2, h3⟩ := h
  obtain ⟨hj, hat2⟩ := wtS_at hk hgo
  have ej : (wtS p f (k + 1)).2.length = (wtS p f k).2.length + 1 := by rw [wtS_stay hgo]; simp
  have s1 := hos (2 * k) (by omega)
  have s2 := hos (2 * k + 1) (by omega)
  have g1 := hge (2 * k) (by omega)
  have g2 := hge (2 * k + 1) (by omega)
  have p12 := hap (2 * k) (2 * k + 1) (by omega) (by omega) (by omega)
  have pq : ∀ q, q < 2 * (wtS p f k).2.length → 0 < (sbO (gO (wtS p f n).2) q).length → (0 < (sbO f (2 * k)).length → lb2 q ≠ lb (2 * k)) ∧ (0 < (sbO f (2 * k + 1)).length → lb2 q ≠ lb (2 * k + 1)) := fun q hq hl => by
    obtain ⟨r, hr, e, hp⟩ := h2 q hq hl
    rw [e]
    exact ⟨fun hh => hap r (2 * k) (by omega) (by omega) (by omega) hp hh, fun hh => hap r (2 * k + 1) (by omega) (by omega) (by omega) hp hh⟩
  rw [sbO_l] at s1 g1
  rw [sbO_d] at s2 g2
  rw [sbO_l, sbO_d] at p12
  simp only [sbO_l, sbO_d] at pq
  rw [← hat2] at hown ⊢
  have el : (gO (wtS p f n).2 (wtS p f k).2.length).2.2.2.1 = (f k).2.2.2.1 := by rw [hat2]
  have ed : (gO (wtS p f n).2 (wtS p f k).2.length).2.2.2.2.2.2 = (f k).2.2.2.2.2.2 := by rw [hat2]
  obtain ⟨la', lc', lb', h6, h7⟩ := h1.push hc (a1 := la (2 * k)) (a2 := la (2 * k + 1)) (c1 := lc (2 * k)) (c2 := lc (2 * k + 1)) (b1 := lb (2 * k)) (b2 := lb (2 * k + 1)) (by rw [el]; exact s1) (by rw [ed]; exact s2)
    (by rw [el]; exact fun hp => ⟨(g1 hp).1, by have := (g1 hp).2; omega, fun e => by have := h3 _ e; have := (g1 hp).2; omega, fun q hq hl => (pq q hq hl).1 hp⟩)
    (by rw [ed]; exact fun hp => ⟨(g2 hp).1, by have := (g2 hp).2; omega, fun e => by have := h3 _ e; have := (g2 hp).2; omega, fun q hq hl => (pq q hq hl).2 hp⟩)
    (by rw [el, ed]; exact p12) hg hat hown
  refine ⟨la', lc', lb', by rw [ej]; exact h6, fun q hq hl => ?_, fun q e => ?_⟩
  · rw [ej] at hq
    rcases h7 q hq with ⟨e, e2⟩ | ⟨e, e2⟩ | ⟨hq2, e2⟩
    · refine ⟨2 * k, by omega, e2, ?_⟩
      rw [e, sbO_l, el] at hl
      rw [sbO_l]; exact hl
    · refine ⟨2 * k + 1, by omega, e2, ?_⟩
      rw [e, sbO_d, ed] at hl
      rw [sbO_d]; exact hl
    · obtain ⟨r, hr, e3, hp⟩ := h2 q hq2 hl
      exact ⟨r, by omega, e2.trans e3, hp⟩
  · rcases hat with hat | hat
    · exact h3 q (by rw [hat]; exact e)
    · have : g = q := by simpa [Value.ownBlock] using e
      omega

/-- all that is left. -/
theorem KW.oo {wr : World} {B T : Nat} {p : Nat → Bool} {f : Nat → OB} {n : Nat} {v : Value} {lb : Nat → Nat} {L : List Value} (h : KW wr B T p f n n v lb L) (hm : (wtS p f n).2.length + lenO (wtS p f n).2 ≤ 1048576) : ∃ ra rc, v = .slice ra (wtS p f n).2.length rc ∧ OO (InR B wr.heap.size) ra (wtS p f n).2.length (wtS p f n).2 wr := by
  obtain ⟨la2, lc2, lb2, h1, _, _⟩ := h
  by_cases h0 : 0 < (wtS p f n).2.length
  · have e : lsO (gO (wtS p f n).2) (wtS p f n).2.length = (wtS p f n).2 := gO_ext (length_lsO _ _) (fun j hj => gO_lsO (by rw [length_lsO] at hj; exact hj))
    obtain ⟨g, c, e1, e2⟩ := h1.oo h0 (by rw [e]; exact hm)
    rw [e] at e2
    exact ⟨_, c, e1, e2⟩
  · have hn : (wtS p f n).2 = [] := List.eq_nil_of_length_eq_zero (by omega)
    rcases h1.own.2 with ⟨e, _⟩ | ⟨g, cap, cur, e, _⟩
    · rw [hn]
      exact ⟨none, 0, e, OO.nil _ _ _⟩
    · rw [hn] at e ⊢
      exact ⟨_, cap, e, OO.nil _ _ _⟩

/-- a label and an object under a label; the code; what a label sees of a kernel. -/
def ksp (l : List Int) (f : Nat → OB) (k : Nat) : Bool := !(belowB (f k).2.2.2.1 l)
def ksC (xs : List OB) (l : List Int) : Int := if kerF xs ≠ 0 then kerF xs else fault l
def ksL (xs : List OB) (l : List Int) : List OB := if ksC xs l = 0 then (wtS (ksp l (gO xs)) (gO xs) xs.length).2 else []
theorem ksC_inv {xs : List OB} {l : List Int} (h : ksC xs l = 0) : kerF xs = 0 ∧ fault l = 0 := by
  unfold ksC at h
  by_cases h1 : kerF xs = 0
  · rw [if_neg (by rw [h1]; decide)] at h; exact ⟨h1, h⟩
  · rw [if_pos h1] at h; exact absurd h h1
theorem ksC_k {xs : List OB} {l : List Int} (h : kerF xs ≠ 0) : ksC xs l = kerF xs := if_pos h
theorem ksC_l {xs : List OB} {l : List Int} (h : kerF xs = 0) : ksC xs l = fault l := by unfold ksC; rw [if_neg (by rw [h]; decide)]
theorem ksL_no {xs : List OB} {l : List Int} (h : ksC xs l ≠ 0) : ksL xs l = [] := if_neg h
theorem ksL_ok {xs : List OB} {l : List Int} (h : ksC xs l = 0) : ksL xs l = (wtS (ksp l (gO xs)) (gO xs) xs.length).2 := if_pos h

/-- what is known of an object of a right kernel. -/
theorem kerF_at {xs : List OB} (h : kerF xs = 0) {j : Nat} (hj : j < xs.length) : (gO xs j).2.2.2.1.length = 4 ∧ fault (gO xs j).2.2.2.1 = 0 ∧ (gO xs j).2.2.2.2.2.2.length ≤ 200 ∧ (0 < j → 0 ≤ (gO xs j).1 ∧ (gO xs j).1 < j) := by
  obtain ⟨_, _, h3, _⟩ := kerF_inv h
  obtain ⟨_, f1, _, f3, f4, _⟩ := oneF_inv (h3 j hj)
  obtain ⟨⟨q1, q2⟩, _, q4, _⟩ := rngB_inv f3
  refine ⟨?_, f1, by omega, fun hp => ?_⟩
  · by_cases h4 : (gO xs j).2.2.2.1.length = 4
    · exact h4
    · unfold fault at f1; simp [h4] at f1
  · unfold upB at f4
    rw [if_neg (by omega)] at f4
    simp only [Bool.and_eq_true] at f4
    have := inB_iff.1 f4.1
    omega

end Go.Proofs.Ytipfaoecodclaaa
