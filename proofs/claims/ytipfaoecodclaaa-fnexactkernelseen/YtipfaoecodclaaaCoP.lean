import Derived.Test.YtipfaoecodclaaaL11P
import Derived.Test.YtipfaoecodclaaaCsK
import Derived.WalkKit
import Derived.ProofKit
import Derived.OpenShut
import Derived.ShutString
import Derived.ChangeOld
import Derived.Below
import Derived.WalkSpells
import Derived.Deep.QuietTactic
import Derived.BigQuiet
import Derived.Deep.RegionWith
import Derived.Deep.WholeRow
import Derived.Deep.DeepCutAuto
import Derived.Deep.RegionHeld2
import Derived.Deep.AppendLies
import Derived.Deep.RegionLaw
namespace Go.Proofs.Ytipfaoecodclaaa
open Go.ChangeShapes Go.WideShapes Go.ChangeAt Go.RowKit

theorem OS.one {B T : Nat} {a : Option Addr} {n : Nat} {zs : List Int} {w : World} (h : OS (InR B T) a n zs w) : ∃ b, OS (fun k => k = b ∧ 0 < n) a n zs w ∧ (0 < n → B ≤ b ∧ b < T) := by
  obtain ⟨h1, h2, h3⟩ := h
  by_cases e : n = 0
  · exact ⟨0, ⟨h1, h2, .inl e⟩, fun hp => by omega⟩
  · rcases h3 with h3 | ⟨b, rfl, hb, blk⟩
    · exact absurd h3 e
    · exact ⟨b, ⟨h1, h2, .inr ⟨b, rfl, ⟨rfl, by omega⟩, blk⟩⟩, fun _ => hb⟩

/-- the first k objects of f, under growth: the row from block B on, the row q (label of q / 2, or data) in block lb q. -/
structure CO (wr : World) (B : Nat) (f : Nat → OB) (k : Nat) (v : Value) (la : Nat → Option Addr) (lc lb : Nat → Nat) (xs : List Value) : Prop where
  own : wr.ownsRow B 57 7 v k xs
  x : ∀ i, i < k → ∀ j u, (v7 (f i) (la (2 * i)) (lc (2 * i)) (la (2 * i + 1)) (lc (2 * i + 1)))[j]? = some u → xs[i * 7 + j]? = some u
  os : ∀ q, q < 2 * k → OS (fun b => b = lb q ∧ 0 < (sbO f q).length) (la q) (sbO f q).length (sbO f q) wr
  ge : ∀ q, q < 2 * k → 0 < (sbO f q).length → B ≤ lb q ∧ lb q < wr.heap.size
  ne : ∀ q, q < 2 * k → 0 < (sbO f q).length → v.ownBlock ≠ some (lb q)
  ap : ∀ q r, q < 2 * k → r < 2 * k → q ≠ r → 0 < (sbO f q).length → 0 < (sbO f r).length → lb q ≠ lb r

theorem CO.start {wr : World} {B : Nat} (f : Nat → OB) {v : Value} (h : wr.ownsRow B 57 7 v 0 []) : CO wr B f 0 v (fun _ => none) (fun _ => 0) (fun _ => 0) [] :=
  ⟨h, fun i hi => by omega, fun q hq => by omega, fun q hq => by omega, fun q hq => by omega, fun q r hq => by omega⟩

theorem CO.below {wr : World} {B : Nat} {f : Nat → OB} {k : Nat} {v : Value} {la : Nat → Option Addr} {lc lb : Nat → Nat} {xs : List Value} (h : CO wr B f k v la lc lb xs) {w' : World} (hc : Below wr.heap.size wr w') : CO w' B f k v la lc lb xs :=
  ⟨ownR_below h.own hc, h.x, fun q hq => OS.loc.below hc (h.os q hq), fun q hq hl => ⟨(h.ge q hq hl).1, by have := (h.ge q hq hl).2; have := hc.size; omega⟩, h.ne, h.ap⟩

/-- one object more. -/
theorem CO.push {wr : World} {B : Nat} {f : Nat → OB} {k : Nat} {v : Value} {la : Nat → Option Addr} {lc lb : Nat → Nat} {xs : List Value} (h : CO wr B f k v la lc lb xs) {X w1 : World} (hc : Below wr.heap.size wr X) {a1 a2 : Option Addr} {c1 c2 b1 b2 g cp : Nat}
    (o1 : OS (fun b => b = b1 ∧ 0 < (f k).2.2.2.1.length) a1 (f k).2.2.2.1.length (f k).2.2.2.1 X) (o2 : OS (fun b => b = b2 ∧ 0 < (f k).2.2.2.2.2.2.length) a2 (f k).2.2.2.2.2.2.length (f k).2.2.2.2.2.2 X)
    (g1 : 0 < (f k).2.2.2.1.length → B ≤ b1 ∧ b1 < X.heap.size ∧ v.ownBlock ≠ some b1 ∧ ∀ q, q < 2 * k → 0 < (sbO f q).length → lb q ≠ b1)
    (g2 : 0 < (f k).2.2.2.2.2.2.length → B ≤ b2 ∧ b2 < X.heap.size ∧ v.ownBlock ≠ some b2 ∧ ∀ q, q < 2 * k → 0 < (sbO f q).length → lb q ≠ b2)
    (g12 : 0 < (f k).2.2.2.1.length → 0 < (f k).2.2.2.2.2.2.length → b1 ≠ b2)
    (hg : X.grownBy w1 v.ownBlock) (hat : v.ownBlock = some g ∨ g = X.heap.size)
    (hown : w1.ownsRow B 57 7 (.slice (some ⟨g, 0, none⟩) (k + 1) cp) (k + 1) (xs ++ v7 (f k) a1 c1 a2 c2)) :
    ∃ la' lc' lb', CO w1 B f (k + 1) (.slice (some ⟨g, 0, none⟩) (k + 1) cp) la' lc' lb' (xs ++ v7 (f k) a1 c1 a2 c2) ∧ ∀ q, q < 2 * (k + 1) → (q = 2 * k ∧ lb' q = b1) ∨ (q = 2 * k + 1 ∧ lb' q = b2) ∨ (q < 2 * k ∧ lb' q = lb q) := by
  have hx : xs.length = k * 7 := h.own.1
  have hgs := hg.size
  have hcs := hc.size
  have hgne : ∀ q, q < X.heap.size → v.ownBlock ≠ some q → g ≠ q := fun q hq hv e => by
    rcases hat with hat | hat
    · exact hv (by rw [hat, e])
    · omega
  have keep : ∀ {S : Nat → Prop} {a : Option Addr} {n : Nat} {zs : List Int}, (∀ q, S q → v.ownBlock ≠ some q) → OS S a n zs X → OS S a n zs w1 := fun hS h0 =>
    OS.loc X w1 (fun q hq hlt => hg.block q hlt (fun e => (hS q hq) e.symm)) h0
  have e0 : ∀ q, q < 2 * k → q ≠ 2 * k ∧ q ≠ 2 * k + 1 := fun q hq => by omega
  have s1 : sbO f (2 * k) = (f k).2.2.2.1 := sbO_l f k
  have s2 : sbO f (2 * k + 1) = (f k).2.2.2.2.2.2 := sbO_d f k
  refine ⟨fun q => if q = 2 * k then a1 else if q = 2 * k + 1 then a2 else la q, fun q => if q = 2 * k then c1 else if q = 2 * k + 1 then c2 else lc q, fun q => if q = 2 * k then b1 else if q = 2 * k + 1 then b2 else lb q, ⟨hown, fun i hi j u hu => ?_, fun q hq => ?_, fun q hq hl => ?_, fun q hq hl => ?_, fun q r hq hr hqr lq lr => ?_⟩, fun q hq => ?_⟩
  · by_cases e : i = k
    · subst e
      have hj : j < 7 := by
        by_cases hj : j < 7
        · exact hj
        · rw [List.getElem?_eq_none (by simp [v7]; omega)] at hu; cases hu
      simp only [if_true, if_neg (show ¬ 2 * i + 1 = 2 * i by omega)] at hu
      rw [List.getElem?_append_right (by omega), hx, show i * 7 + j - i * 7 = j by omega]
      exact hu
    · have hi' : i < k := by omega
      simp only [if_neg (show ¬ 2 * i = 2 * k by omega), if_neg (show ¬ 2 * i = 2 * k + 1 by omega), if_neg (show ¬ 2 * i + 1 = 2 * k by omega), if_neg (show ¬ 2 * i + 1 = 2 * k + 1 by omega)] at hu
      have hj : j < 7 := by
        by_cases hj : j < 7
        · exact hj
        · rw [List.getElem?_eq_none (by simp [v7]; omega)] at hu; cases hu
      rw [List.getElem?_append_left (by omega)]
      exact h.x i hi' j u hu
  · by_cases e1 : q = 2 * k
    · subst e1
      simp only [if_true]
      rw [s1]
      exact keep (fun q hq => by rw [hq.1]; exact (g1 hq.2).2.2.1) o1
    · by_cases e2 : q = 2 * k + 1
      · subst e2
        simp only [if_neg (show ¬ 2 * k + 1 = 2 * k by omega), if_true]
        rw [s2]
        exact keep (fun q hq => by rw [hq.1]; exact (g2 hq.2).2.2.1) o2
      · simp only [if_neg e1, if_neg e2]
        exact keep (fun r hr => by rw [hr.1]; exact h.ne q (by omega) hr.2) (OS.loc.below hc (h.os q (by omega)))
  · by_cases e1 : q = 2 * k
    · subst e1; rw [s1] at hl; rw [if_pos rfl]; have := g1 hl; omega
    · by_cases e2 : q = 2 * k + 1
      · subst e2; rw [s2] at hl; rw [if_neg (by omega), if_pos rfl]; have := g2 hl; omega
      · rw [if_neg e1, if_neg e2]; have := h.ge q (by omega) hl; omega
  · by_cases e1 : q = 2 * k
    · subst e1; rw [s1] at hl; rw [if_pos rfl]
      intro e; injection e with e
      exact hgne b1 (g1 hl).2.1 (g1 hl).2.2.1 e
    · by_cases e2 : q = 2 * k + 1
      · subst e2; rw [s2] at hl; rw [if_neg (by omega), if_pos rfl]
        intro e; injection e with e
        exact hgne b2 (g2 hl).2.1 (g2 hl).2.2.1 e
      · rw [if_neg e1, if_neg e2]
        intro e; injection e with e
        exact hgne (lb q) (by have := h.ge q (by omega) hl; omega) (h.ne q (by omega) hl) e
  · have far1 : ∀ q, q < 2 * k → 0 < (sbO f q).length → 0 < (sbO f (2 * k)).length → lb q ≠ b1 := fun q hq h1 h2 => (g1 (by rw [s1] at h2; exact h2)).2.2.2 q hq h1
    have far2 : ∀ q, q < 2 * k → 0 < (sbO f q).length → 0 < (sbO f (2 * k + 1)).length → lb q ≠ b2 := fun q hq h1 h2 => (g2 (by rw [s2] at h2; exact h2)).2.2.2 q hq h1
    have far : 0 < (sbO f (2 * k)).length → 0 < (sbO f (2 * k + 1)).length → b1 ≠ b2 := fun h1 h2 => g12 (by rw [s1] at h1; exact h1) (by rw [s2] at h2; exact h2)
    by_cases q1 : q = 2 * k
    · by_cases r1 : r = 2 * k
      · omega
      · by_cases r2 : r = 2 * k + 1
        · rw [if_pos q1, if_neg r1, if_pos r2]; subst q1 r2; exact far lq lr
        · rw [if_pos q1, if_neg r1, if_neg r2]; subst q1; exact (far1 r (by omega) lr lq).symm
    · by_cases q2 : q = 2 * k + 1
      · by_cases r1 : r = 2 * k
        · rw [if_neg q1, if_pos q2, if_pos r1]; subst q2 r1; exact (far lr lq).symm
        · by_cases r2 : r = 2 * k + 1
          · omega
          · rw [if_neg q1, if_pos q2, if_neg r1, if_neg r2]; subst q2; exact (far2 r (by omega) lr lq).symm
      · by_cases r1 : r = 2 * k
        · rw [if_neg q1, if_neg q2, if_pos r1]; subst r1; exact far1 q (by omega) lq lr
        · by_cases r2 : r = 2 * k + 1
          · rw [if_neg q1, if_neg q2, if_neg r1, if_pos r2]; subst r2; exact far2 q (by omega) lq lr
          · rw [if_neg q1, if_neg q2, if_neg r1, if_neg r2]; exact h.ap q r (by omega) (by omega) hqr lq lr
  · by_cases e1 : q = 2 * k
    · exact .inl ⟨e1, by dsimp only; rw [if_pos e1]⟩
    · by_cases e2 : q = 2 * k + 1
      · exact .inr (.inl ⟨e2, by dsimp only; rw [if_neg e1, if_pos e2]⟩)
      · exact .inr (.inr ⟨by omega, by dsimp only; rw [if_neg e1, if_neg e2]⟩)

theorem CO.o7 {wr : World} {B : Nat} {f : Nat → OB} {k g c : Nat} {la : Nat → Option Addr} {lc lb : Nat → Nat} {xs : List Value} (h : CO wr B f k (.slice (some ⟨g, 0, none⟩) k c) la lc lb xs) {i : Nat} (hi : i < k) : O7 wr g (i * 7) (f i) (la (2 * i)) (lc (2 * i)) (la (2 * i + 1)) (lc (2 * i + 1)) := by
  have hx : xs.length = k * 7 := h.own.1
  have key : ∀ j u, (v7 (f i) (la (2 * i)) (lc (2 * i)) (la (2 * i + 1)) (lc (2 * i + 1)))[j]? = some u → wr.cell? ⟨g, i * 7 + j, none⟩ = some u := fun j u hu => by
    have hj : j < 7 := by
      by_cases hj : j < 7
      · exact hj
      · rw [List.getElem?_eq_none (by simp [v7]; omega)] at hu; cases hu
    have hcell := h.own.cells (g := g) rfl (i * 7 + j) u (h.x i hi j u hu)
    have hadd : (Addr.mk g 0 none).add (i * 7 + j) = ⟨g, i * 7 + j, none⟩ := by cases (i * 7 + j) <;> simp [Addr.add]
    rwa [hadd] at hcell
  exact ⟨key 0 _ rfl, key 1 _ rfl, key 2 _ rfl, key 3 _ rfl, key 4 _ rfl, key 5 _ rfl, key 6 _ rfl⟩

theorem CO.form {wr : World} {B : Nat} {f : Nat → OB} {k : Nat} {v : Value} {la : Nat → Option Addr} {lc lb : Nat → Nat} {xs : List Value} (h : CO wr B f k v la lc lb xs) (h0 : 0 < k) : ∃ g c, v = .slice (some ⟨g, 0, none⟩) k c ∧ B ≤ g ∧ g < wr.heap.size ∧ ∀ j, wr.frozen? ⟨g, j, none⟩ = false := by
  rcases h.own.2 with ⟨_, e⟩ | ⟨g, cap, cur, e, hb, hg, _⟩
  · omega
  · exact ⟨g, cap, e, hb, (Array.getElem?_eq_some_iff.1 hg).1, fun j => by simp [World.frozen?, hg]⟩

theorem CO.oo {wr : World} {B : Nat} {f : Nat → OB} {k : Nat} {v : Value} {la : Nat → Option Addr} {lc lb : Nat → Nat} {xs : List Value} (h : CO wr B f k v la lc lb xs) (h0 : 0 < k) (hm : k + lenO (lsO f k) ≤ 1048576) : ∃ g c, v = .slice (some ⟨g, 0, none⟩) k c ∧ OO (InR B wr.heap.size) (some ⟨g, 0, none⟩) k (lsO f k) wr := by
  obtain ⟨g, c, rfl, hg, hlt, hfz⟩ := h.form h0
  have hs : ∀ q, q < 2 * k → sbO (gO (lsO f k)) q = sbO f q := fun q hq => by
    unfold sbO
    rw [gO_lsO (by omega)]
  refine ⟨g, c, rfl, length_lsO _ _, hm, .inr ⟨g, la, lc, lb, rfl, ⟨⟨hg, hlt⟩, hlt, hfz, fun i hi => ?_, fun q hq => ?_, fun q hq hl => ?_, fun q hq hl => ?_, fun q r hq hr hqr lq lr => ?_⟩⟩⟩
  · rw [gO_lsO hi]; exact h.o7 hi
  · rw [hs q hq]; exact h.os q hq
  · rw [hs q hq] at hl; exact h.ge q hq hl
  · rw [hs q hq] at hl; intro e; exact h.ne q hq hl (by rw [e]; rfl)
  · rw [hs q hq] at lq; rw [hs r hr] at lr; exact h.ap q r hq hr hqr lq lr

/-- a number of an object is written (j is not 3 and not 6: its label and its data stay). -/
theorem CO.put {wr : World} {B : Nat} {f : Nat → OB} {k g c : Nat} {la : Nat → Option Addr} {lc lb : Nat → Nat} {xs : List Value} (h : CO wr B f k (.slice (some ⟨g, 0, none⟩) k c) la lc lb xs) {i j : Nat} (hi : i < k) (hj : j < 7) (u : Value) (x : OB)
    (hx : ∀ m v, (v7 x (la (2 * i)) (lc (2 * i)) (la (2 * i + 1)) (lc (2 * i + 1)))[m]? = some v → (if m = j then some u else (v7 (f i) (la (2 * i)) (lc (2 * i)) (la (2 * i + 1)) (lc (2 * i + 1)))[m]?) = some v)
    (hl : x.2.2.2.1 = (f i).2.2.2.1) (hd : x.2.2.2.2.2.2 = (f i).2.2.2.2.2.2) : CO (wr.setCell ⟨g, i * 7 + j, none⟩ u) B (updO f i x) k (.slice (some ⟨g, 0, none⟩) k c) la lc lb (xs.set (i * 7 + j) u) := by
  have hlen : xs.length = k * 7 := h.own.1
  have es : ∀ q, sbO (updO f i x) q = sbO f q := fun q => by
    unfold sbO updO
    by_cases e : q / 2 = i
    · rw [if_pos e, hl, hd, e]
    · rw [if_neg e]
  refine ⟨(h.own.stored _ _).1, fun i' hi' m v hv => ?_, fun q hq => ?_, fun q hq l => ?_, fun q hq l => ?_, fun q r hq hr hqr lq lr => ?_⟩
  · have hm7 : m < 7 := by have := (List.getElem?_eq_some_iff.1 hv).1; simpa [v7] using this
    by_cases e : i' = i
    · subst e
      rw [updO_same] at hv
      have h1 := hx m v hv
      by_cases ek : m = j
      · subst ek
        rw [if_pos rfl] at h1
        cases h1
        rw [List.getElem?_set_self (by rw [hlen]; omega)]
      · rw [if_neg ek] at h1
        rw [List.getElem?_set_ne (by omega)]
        exact h.x i' hi' m v h1
    · rw [updO_ne e] at hv
      rw [List.getElem?_set_ne (by omega)]
      exact h.x i' hi' m v hv
  · rw [es q]
    exact OS.loc.setC (h.os q hq) (fun hb => h.ne q hq hb.2 (by rw [← hb.1]; rfl)) _
  · rw [es q] at l; have := h.ge q hq l; simpa using this
  · rw [es q] at l; exact h.ne q hq l
  · rw [es q] at lq; rw [es r] at lr; exact h.ap q r hq hr hqr lq lr

/-- the data of an object is written anew: its row lies in the new block bn. -/
theorem CO.setData {wr : World} {B : Nat} {f : Nat → OB} {k g c : Nat} {la : Nat → Option Addr} {lc lb : Nat → Nat} {xs : List Value} (h : CO wr B f k (.slice (some ⟨g, 0, none⟩) k c) la lc lb xs) {w' : World} (hc : Below wr.heap.size wr w') {i : Nat} (hi : i < k) {da : Option Addr} {dc bn : Nat} (x : OB)
    (hx : x.1 = (f i).1 ∧ x.2.1 = (f i).2.1 ∧ x.2.2.1 = (f i).2.2.1 ∧ x.2.2.2.1 = (f i).2.2.2.1 ∧ x.2.2.2.2.1 = (f i).2.2.2.2.1 ∧ x.2.2.2.2.2.1 = (f i).2.2.2.2.2.1)
    (o2 : OS (fun b => b = bn ∧ 0 < x.2.2.2.2.2.2.length) da x.2.2.2.2.2.2.length x.2.2.2.2.2.2 w') (gn : 0 < x.2.2.2.2.2.2.length → wr.heap.size ≤ bn ∧ bn < w'.heap.size) (hB : B ≤ wr.heap.size) :
    ∃ la' lc' lb', CO (w'.setCell ⟨g, i * 7 + 6, none⟩ (.slice da x.2.2.2.2.2.2.length dc)) B (updO f i x) k (.slice (some ⟨g, 0, none⟩) k c) la' lc' lb' (xs.set (i * 7 + 6) (.slice da x.2.2.2.2.2.2.length dc)) ∧ ∀ q, (q = 2 * i + 1 ∧ lb' q = bn) ∨ (q ≠ 2 * i + 1 ∧ lb' q = lb q) := by
  have hlen : xs.length = k * 7 := h.own.1
  have hgl : g < wr.heap.size := (h.own.lt g rfl).2
  have h' := h.below hc
  have hsz := hc.size
  have es : ∀ q, q ≠ 2 * i + 1 → sbO (updO f i x) q = sbO f q := fun q hq => by
    unfold sbO updO
    by_cases e : q / 2 = i
    · by_cases e2 : q % 2 = 0
      · rw [if_pos e2, if_pos e2, if_pos e, e, hx.2.2.2.1]
      · omega
    · rw [if_neg e]
  have e1 : sbO (updO f i x) (2 * i + 1) = x.2.2.2.2.2.2 := by rw [sbO_d, updO_same]
  refine ⟨fun q => if q = 2 * i + 1 then da else la q, fun q => if q = 2 * i + 1 then dc else lc q, fun q => if q = 2 * i + 1 then bn else lb q, ⟨(h'.own.stored _ _).1, fun i' hi' m v hv => ?_, fun q hq => ?_, fun q hq l => ?_, fun q hq l => ?_, fun q r hq hr hqr lq lr => ?_⟩, fun q => ?_⟩
  · have hm7 : m < 7 := by have := (List.getElem?_eq_some_iff.1 hv).1; simpa [v7] using this
    by_cases e : i' = i
    · subst e
      rw [updO_same] at hv
      simp only [if_true, if_neg (show ¬ 2 * i' = 2 * i' + 1 by omega)] at hv
      have hold := h.x i' hi'
      match m, hm7, hv with
      | 0, _, hv => rw [List.getElem?_set_ne (by omega)]; exact hold 0 _ (by simpa [v7, hx.1] using hv)
      | 1, _, hv => rw [List.getElem?_set_ne (by omega)]; exact hold 1 _ (by simpa [v7, hx.2.1] using hv)
      | 2, _, hv => rw [List.getElem?_set_ne (by omega)]; exact hold 2 _ (by simpa [v7, hx.2.2.1] using hv)
      | 3, _, hv => rw [List.getElem?_set_ne (by omega)]; exact hold 3 _ (by simpa [v7, hx.2.2.2.1] using hv)
      | 4, _, hv => rw [List.getElem?_set_ne (by omega)]; exact hold 4 _ (by simpa [v7, hx.2.2.2.2.1] using hv)
      | 5, _, hv => rw [List.getElem?_set_ne (by omega)]; exact hold 5 _ (by simpa [v7, hx.2.2.2.2.2] using hv)
      | 6, _, hv => rw [List.getElem?_set_self (by rw [hlen]; omega)]; simpa [v7] using hv
    · rw [updO_ne e] at hv
      simp only [if_neg (show ¬ 2 * i' = 2 * i + 1 by omega), if_neg (show ¬ 2 * i' + 1 = 2 * i + 1 by omega)] at hv
      rw [List.getElem?_set_ne (by omega)]
      exact h.x i' hi' m v hv
  · by_cases e : q = 2 * i + 1
    · subst e
      simp only [if_true]
      rw [e1]
      exact OS.loc.setC o2 (fun hb => by have h1 := gn hb.2; have h2 := hb.1; simp at h2; omega) _
    · simp only [if_neg e]
      rw [es q e]
      exact OS.loc.setC (h'.os q hq) (fun hb => h.ne q hq hb.2 (by rw [← hb.1]; rfl)) _
  · by_cases e : q = 2 * i + 1
    · subst e
      rw [e1] at l
      rw [if_pos rfl]
      have := gn l
      simp
      omega
    · rw [es q e] at l
      rw [if_neg e]
      have := h'.ge q hq l
      simpa using this
  · by_cases e : q = 2 * i + 1
    · subst e
      rw [e1] at l
      rw [if_pos rfl]
      have := gn l
      intro e2; injection e2 with e2
      have e3 : g = bn := e2
      omega
    · rw [es q e] at l
      rw [if_neg e]
      exact h.ne q hq l
  · by_cases eq : q = 2 * i + 1
    · have er : r ≠ 2 * i + 1 := by omega
      rw [if_pos eq, if_neg er]
      rw [es r er] at lr
      rw [eq, e1] at lq
      have h1 := gn lq
      have h2 := h.ge r hr lr
      omega
    · rw [if_neg eq]
      rw [es q eq] at lq
      by_cases er : r = 2 * i + 1
      · rw [if_pos er]
        rw [er, e1] at lr
        have h1 := gn lr
        have h2 := h.ge q hq lq
        omega
      · rw [if_neg er]
        rw [es r er] at lr
        exact h.ap q r hq hr hqr lq lr
  · by_cases e : q = 2 * i + 1
    · exact .inl ⟨e, by dsimp only; rw [if_pos e]⟩
    · exact .inr ⟨e, by dsimp only; rw [if_neg e]⟩

theorem CO.setC {wr : World} {B : Nat} {f : Nat → OB} {k : Nat} {v : Value} {la : Nat → Option Addr} {lc lb : Nat → Nat} {xs : List Value} (h : CO wr B f k v la lc lb xs) {P o : Nat} (hP : P < B) (y : Value) : CO (wr.setCell ⟨P, o, none⟩ y) B f k v la lc lb xs :=
  ⟨ownsRow_setCell_below h.own hP _, h.x, fun q hq => OS.loc.setC (h.os q hq) (fun e => by have := (h.ge q hq e.2).1; have := e.1; simp at this; omega) y, fun q hq hl => by simpa using h.ge q hq hl, h.ne, h.ap⟩

end Go.Proofs.Ytipfaoecodclaaa
