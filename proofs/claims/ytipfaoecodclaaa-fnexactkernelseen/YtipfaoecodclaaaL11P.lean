import Derived.Test.YtipfaoecodclaaaKiC
import Derived.Test.YtipfaoecodclaaaKfP
import Derived.Test.YtipfaoecodclaaaKgP
import Derived.WalkKit
import Derived.ProofKit
import Derived.OpenShut
import Derived.ShutString
import Derived.ChangeOld
import Derived.Below
import Derived.WalkSpells
import Derived.Deep.QuietTactic
import Derived.BigQuiet
import Derived.Deep.RegionWith
import Derived.Deep.WholeRow
import Derived.Deep.DeepCutAuto
import Derived.Deep.RegionHeld2
import Derived.Deep.AppendLies
import Derived.Deep.RegionLaw
namespace Go.Proofs.Ytipfaoecodclaaa
open Go.ChangeShapes Go.WideShapes Go.ChangeAt Go.RowKit

def updO (f : Nat → OB) (i : Nat) (x : OB) : Nat → OB := fun j => if j = i then x else f j
theorem updO_same (f : Nat → OB) (i : Nat) (x : OB) : updO f i x i = x := if_pos rfl
theorem updO_ne {f : Nat → OB} {i j : Nat} {x : OB} (h : j ≠ i) : updO f i x j = f j := if_neg h

/-- one name more. -/
def nxO (x : OB) : OB := (x.1, x.2.1, x.2.2.1, x.2.2.2.1, x.2.2.2.2.1, x.2.2.2.2.2.1 + 1, x.2.2.2.2.2.2)

theorem usedO_congr {f g : Nat → OB} {p : Int} {n : Nat} (h : ∀ k, k < n → (f k).1 = (g k).1 ∧ (f k).2.2.2.2.1 = (g k).2.2.2.2.1) : usedO f p n = usedO g p n := by
  induction n with
  | zero => rfl
  | succ n ih =>
    unfold usedO
    rw [ih (fun k hk => h k (by omega)), (h n (by omega)).1, (h n (by omega)).2]

theorem usedO_none {f : Nat → OB} {p : Int} {n : Nat} (h : ∀ k, k < n → (f k).1 ≠ p) : usedO f p n = 0 := by
  induction n with
  | zero => rfl
  | succ n ih =>
    unfold usedO
    rw [ih (fun k hk => h k (by omega)), if_neg (fun e => h n (by omega) e.2)]
    omega

/-- a kernel as it is drawn: n objects. -/
structure KD (f : Nat → OB) (n : Nat) : Prop where
  n1 : 1 ≤ n
  up0 : (f 0).1 = -1
  up : ∀ i, 0 < i → i < n → 0 ≤ (f i).1 ∧ (f i).1 < (i : Int)
  q : ∀ i, i < n → 0 ≤ (f i).2.2.2.2.1 ∧ (f i).2.2.2.2.1 ≤ 100
  nx : ∀ i, i < n → 0 ≤ (f i).2.2.2.2.2.1 ∧ (f i).2.2.2.2.2.1 ≤ (n : Int)
  lab : ∀ i, i < n → (f i).2.2.2.1.length = 4
  dat : ∀ i, i < n → (f i).2.2.2.2.2.2.length ≤ 20
  fr : ∀ p, p < n → 0 ≤ freeO f n p

theorem KD.first (zs : List Int) (h : zs.length = 4) (f : Nat → OB) (hf : f 0 = (-1, 0, 1, zs, 100, 1, [])) : KD f 1 := by
  refine ⟨Nat.le_refl _, by rw [hf], fun i h0 h1 => by omega, fun i hi => ?_, fun i hi => ?_, fun i hi => ?_, fun i hi => ?_, fun i hi => ?_⟩
  all_goals (obtain rfl : i = 0 := by omega)
  · rw [hf]; show (0 : Int) ≤ 100 ∧ (100 : Int) ≤ 100; omega
  · rw [hf]; show (0 : Int) ≤ 1 ∧ (1 : Int) ≤ ((1 : Nat) : Int); omega
  · rw [hf]; exact h
  · rw [hf]; exact Nat.zero_le _
  · unfold freeO
    rw [usedO_none (fun k hk => by obtain rfl : k = 0 := by omega
                                   rw [hf]; show (-1 : Int) ≠ ((0 : Nat) : Int); omega), hf]
    show (0 : Int) ≤ 100 - 0
    omega

theorem KD.push {f : Nat → OB} {n : Nat} (h : KD f n) {up : Nat} (hup : up < n) {x : OB} (h1 : x.1 = (up : Int)) (hq : 0 ≤ x.2.2.2.2.1 ∧ x.2.2.2.2.1 ≤ freeO f n up) (hnx : 0 ≤ x.2.2.2.2.2.1 ∧ x.2.2.2.2.2.1 ≤ 1) (hl : x.2.2.2.1.length = 4) (hd : x.2.2.2.2.2.2.length ≤ 20) (hq2 : x.2.2.2.2.1 ≤ 100) :
    KD (updO (updO f up (nxO (f up))) n x) (n + 1) := by
  have e1 : ∀ i, i < n → i ≠ up → updO (updO f up (nxO (f up))) n x i = f i := fun i hi hne => by rw [updO_ne (by omega), updO_ne hne]
  have e2 : updO (updO f up (nxO (f up))) n x up = nxO (f up) := by rw [updO_ne (by omega), updO_same]
  have e3 : updO (updO f up (nxO (f up))) n x n = x := updO_same _ _ _
  have e4 : ∀ i, i < n → (updO (updO f up (nxO (f up))) n x i).1 = (f i).1 ∧ (updO (updO f up (nxO (f up))) n x i).2.2.2.2.1 = (f i).2.2.2.2.1 ∧ (updO (updO f up (nxO (f up))) n x i).2.2.2.1 = (f i).2.2.2.1 ∧ (updO (updO f up (nxO (f up))) n x i).2.2.2.2.2.2 = (f i).2.2.2.2.2.2 := fun i hi => by
    by_cases e : i = up
    · subst e; rw [e2]; exact ⟨rfl, rfl, rfl, rfl⟩
    · rw [e1 i hi e]; exact ⟨rfl, rfl, rfl, rfl⟩
  have n1 := h.n1
  have eu : ∀ p : Int, usedO (updO (updO f up (nxO (f up))) n x) p (n + 1) = usedO f p n + (if (up : Int) = p then x.2.2.2.2.1 else 0) := fun p => by
    have a1 : usedO (updO (updO f up (nxO (f up))) n x) p (n + 1) = usedO (updO (updO f up (nxO (f up))) n x) p n + (if 1 ≤ n ∧ (updO (updO f up (nxO (f up))) n x n).1 = p then (updO (updO f up (nxO (f up))) n x n).2.2.2.2.1 else 0) := rfl
    rw [a1, usedO_congr (g := f) (fun k hk => ⟨(e4 k hk).1, (e4 k hk).2.1⟩), e3, h1]
    congr 1
    by_cases c : (up : Int) = p
    · rw [if_pos ⟨n1, c⟩, if_pos c]
    · rw [if_neg (fun e => c e.2), if_neg c]
  refine ⟨by omega, by rw [(e4 0 (by omega)).1]; exact h.up0, fun i h0 hi => ?_, fun i hi => ?_, fun i hi => ?_, fun i hi => ?_, fun i hi => ?_, fun p hp => ?_⟩
  · by_cases e : i = n
    · subst e; rw [e3, h1]; omega
    · rw [(e4 i (by omega)).1]; exact h.up i h0 (by omega)
  · by_cases e : i = n
    · subst e; rw [e3]; exact ⟨hq.1, hq2⟩
    · rw [(e4 i (by omega)).2.1]; exact h.q i (by omega)
  · by_cases e : i = n
    · subst e; rw [e3]; omega
    · by_cases e' : i = up
      · subst e'; rw [e2]; have := h.nx i hup; show 0 ≤ (f i).2.2.2.2.2.1 + 1 ∧ (f i).2.2.2.2.2.1 + 1 ≤ _; omega
      · rw [e1 i (by omega) e']; have := h.nx i (by omega); omega
  · by_cases e : i = n
    · subst e; rw [e3]; exact hl
    · rw [(e4 i (by omega)).2.2.1]; exact h.lab i (by omega)
  · by_cases e : i = n
    · subst e; rw [e3]; exact hd
    · rw [(e4 i (by omega)).2.2.2]; exact h.dat i (by omega)
  · unfold freeO
    rw [eu]
    by_cases e : p = n
    · subst e
      rw [e3, if_neg (by omega), usedO_none (fun k hk => ?_)]
      · omega
      · rcases Nat.eq_zero_or_pos k with hk0 | hk0
        · subst hk0; rw [h.up0]; omega
        · have := h.up k hk0 hk; omega
    · rw [(e4 p (by omega)).2.1]
      have := h.fr p (by omega)
      unfold freeO at this
      by_cases c : (up : Int) = (p : Int)
      · obtain rfl : up = p := by omega
        rw [if_pos rfl]
        have := hq.2
        unfold freeO at this
        omega
      · rw [if_neg c]; omega

/-- the kernel of a variable: its box KB, its row in block g; the labels and the data of its objects; all of them in blocks from B on, below T. -/
structure KXb (B T KB g c n : Nat) (la : Nat → Option Addr) (lc : Nat → Nat) (L : List Value) (f : Nat → OB) (w : World) : Prop where
  cell : w.cell? ⟨KB, 0, none⟩ = some (.slice (some ⟨g, 0, none⟩) n c)
  fz : w.frozen? ⟨KB, 0, none⟩ = false
  hK : B ≤ KB ∧ KB < T
  hg : B ≤ g ∧ g < T ∧ g ≠ KB
  hn : n ≤ c
  own : w.ownsRow B 57 7 (.slice (some ⟨g, 0, none⟩) n c) n L
  x : ∀ i, i < n → ∀ j v, (v7 (f i) (la (2 * i)) (lc (2 * i)) (la (2 * i + 1)) (lc (2 * i + 1)))[j]? = some v → L[i * 7 + j]? = some v
  os : ∀ q, q < 2 * n → OS (fun b => B ≤ b ∧ b < T ∧ b ≠ KB ∧ b ≠ g) (la q) (sbO f q).length (sbO f q) w

theorem own_of_block {w w' : World} {B e s g n c : Nat} {L : List Value} (h : w.ownsRow B e s (.slice (some ⟨g, 0, none⟩) n c) n L) (eb : w'.heap[g]? = w.heap[g]?) : w'.ownsRow B e s (.slice (some ⟨g, 0, none⟩) n c) n L := by
  refine ⟨h.1, ?_⟩
  rcases h.2 with ⟨h0, _⟩ | ⟨g', cap, cur, e0, hb, hg, r⟩
  · cases h0
  · cases e0
    exact .inr ⟨g, c, cur, rfl, hb, eb.trans hg, r⟩

theorem KXb.keep {B T KB g c n : Nat} {la : Nat → Option Addr} {lc : Nat → Nat} {L : List Value} {f : Nat → OB} {w w' : World} (h : KXb B T KB g c n la lc L f w) (hk : ∀ k, B ≤ k → k < T → k < w.heap.size → w'.heap[k]? = w.heap[k]?) : KXb B T KB g c n la lc L f w' := by
  have lK := World.block_lt_of_cell? _ _ h.cell
  have lg := (h.own.lt g rfl).2
  exact ⟨(World.cell?_of_block (a := ⟨KB, 0, none⟩) (hk KB h.hK.1 h.hK.2 lK)).trans h.cell, (World.frozen?_of_block (a := ⟨KB, 0, none⟩) (hk KB h.hK.1 h.hK.2 lK)).trans h.fz, h.hK, h.hg, h.hn, own_of_block h.own (hk g h.hg.1 h.hg.2.1 lg), h.x, fun q hq => OS.loc w w' (fun k e hl => hk k e.1 e.2.1 hl) (h.os q hq)⟩

theorem KXb.loc {B T KB g c n : Nat} {la : Nat → Option Addr} {lc : Nat → Nat} {L : List Value} {f : Nat → OB} : Loc (InR B T) (KXb B T KB g c n la lc L f) := fun _ _ hk h => h.keep (fun k h1 h2 h3 => hk k ⟨h1, h2⟩ h3)

theorem KXb.mono {B T T' KB g c n : Nat} {la : Nat → Option Addr} {lc : Nat → Nat} {L : List Value} {f : Nat → OB} {w : World} (h : KXb B T KB g c n la lc L f w) (hT : T ≤ T') : KXb B T' KB g c n la lc L f w :=
  ⟨h.cell, h.fz, ⟨h.hK.1, by have := h.hK.2; omega⟩, ⟨h.hg.1, by have := h.hg.2.1; omega, h.hg.2.2⟩, h.hn, h.own, h.x, fun q hq => (h.os q hq).mono (fun b hb => ⟨hb.1, by have := hb.2.1; omega, hb.2.2⟩)⟩

theorem KXb.o7 {B T KB g c n : Nat} {la : Nat → Option Addr} {lc : Nat → Nat} {L : List Value} {f : Nat → OB} {w : World} (h : KXb B T KB g c n la lc L f w) {i : Nat} (hi : i < n) : O7 w g (i * 7) (f i) (la (2 * i)) (lc (2 * i)) (la (2 * i + 1)) (lc (2 * i + 1)) := by
  have key : ∀ j u, (v7 (f i) (la (2 * i)) (lc (2 * i)) (la (2 * i + 1)) (lc (2 * i + 1)))[j]? = some u → w.cell? ⟨g, i * 7 + j, none⟩ = some u := fun j u hu => by
    have h1 := h.own.cells (g := g) rfl _ _ (h.x i hi j u hu)
    have hadd : (⟨g, 0, none⟩ : Addr).add (i * 7 + j) = ⟨g, i * 7 + j, none⟩ := by unfold Addr.add; split <;> simp_all
    rwa [hadd] at h1
  exact ⟨key 0 _ rfl, key 1 _ rfl, key 2 _ rfl, key 3 _ rfl, key 4 _ rfl, key 5 _ rfl, key 6 _ rfl⟩

theorem KXb.fzg {B T KB g c n : Nat} {la : Nat → Option Addr} {lc : Nat → Nat} {L : List Value} {f : Nat → OB} {w : World} (h : KXb B T KB g c n la lc L f w) (j : Nat) : w.frozen? ⟨g, j, none⟩ = false := by
  rcases h.own.2 with ⟨h0, _⟩ | ⟨g', cap, cur, e0, hb, hg, r⟩
  · cases h0
  · cases e0
    simp [World.frozen?, hg]

/-- the first n of f as a list. -/
def lsO (f : Nat → OB) (n : Nat) : List OB := (List.range n).map f
theorem length_lsO (f : Nat → OB) (n : Nat) : (lsO f n).length = n := by simp [lsO]
theorem gO_lsO {f : Nat → OB} {n i : Nat} (h : i < n) : gO (lsO f n) i = f i := by simp [lsO, gO, h]

theorem KXb.sob {B T KB g c n : Nat} {la : Nat → Option Addr} {lc : Nat → Nat} {L : List Value} {f : Nat → OB} {w : World} (h : KXb B T KB g c n la lc L f w) (hl : ∀ i, i < n → (f i).2.2.2.1.length ≤ 1000 ∧ (f i).2.2.2.2.2.2.length ≤ 1000) : Sob w (some ⟨g, 0, none⟩) n (lsO f n) := by
  refine ⟨length_lsO _ _, fun _ => ⟨g, 0, rfl, (h.own.lt g rfl).2, fun i hi => ?_⟩⟩
  rw [gO_lsO hi, Nat.zero_add]
  have o1 := (h.os (2 * i) (by omega)).sl
  have o2 := (h.os (2 * i + 1) (by omega)).sl
  rw [sbO_l] at o1
  rw [sbO_d] at o2
  have := hl i hi
  exact ⟨_, _, _, _, h.o7 hi, by unfold maxLen; omega, o1, by unfold maxLen; omega, o2⟩

theorem KXb.kr {B T KB g c n : Nat} {la : Nat → Option Addr} {lc : Nat → Nat} {L : List Value} {f : Nat → OB} {w : World} (h : KXb B T KB g c n la lc L f w) (hn : n ≤ 1000) (hl : ∀ i, i < n → (f i).2.2.2.1.length ≤ 1000 ∧ (f i).2.2.2.2.2.2.length ≤ 1000) : KR KB (some ⟨g, 0, none⟩) n c (lsO f n) w :=
  ⟨World.block_lt_of_cell? _ _ h.cell, h.cell, by unfold maxLen; omega, h.sob hl⟩

theorem freeO_lsO {f : Nat → OB} {n p : Nat} (hp : p < n) : freeO (gO (lsO f n)) n p = freeO f n p := by
  unfold freeO
  rw [gO_lsO hp, usedO_congr (g := f) (fun k hk => by rw [gO_lsO hk]; exact ⟨rfl, rfl⟩)]

/-- a number of an object is written: the cell j of the object i. -/
theorem KXb.put {B T KB g c n : Nat} {la : Nat → Option Addr} {lc : Nat → Nat} {L : List Value} {f : Nat → OB} {w : World} (h : KXb B T KB g c n la lc L f w) {i j : Nat} (hi : i < n) (hj : j < 7) (u : Value) (x : OB) (hx : ∀ k v, (v7 x (la (2 * i)) (lc (2 * i)) (la (2 * i + 1)) (lc (2 * i + 1)))[k]? = some v → (if k = j then some u else (v7 (f i) (la (2 * i)) (lc (2 * i)) (la (2 * i + 1)) (lc (2 * i + 1)))[k]?) = some v)
    (hl : x.2.2.2.1 = (f i).2.2.2.1) (hd : x.2.2.2.2.2.2 = (f i).2.2.2.2.2.2) : KXb B T KB g c n la lc (L.set (i * 7 + j) u) (updO f i x) (w.setCell ⟨g, i * 7 + j, none⟩ u) := by
  have hlen : L.length = n * 7 := h.own.1
  have hne := h.hg.2.2
  refine ⟨by rw [World.cell?_setCell_other _ _ _ _ (fun e => by injection e with e; exact hne e)]; exact h.cell, by rw [World.frozen?_setCell]; exact h.fz, h.hK, h.hg, h.hn, (h.own.stored _ _).1, fun i' hi' k v hv => ?_, fun q hq => ?_⟩
  · by_cases e : i' = i
    · subst e
      rw [updO_same] at hv
      have h1 := hx k v hv
      have hk7 : k < 7 := by have := (List.getElem?_eq_some_iff.1 hv).1; simpa [v7] using this
      by_cases ek : k = j
      · subst ek
        rw [if_pos rfl] at h1
        cases h1
        rw [List.getElem?_set_self (by rw [hlen]; omega)]
      · rw [if_neg ek] at h1
        rw [List.getElem?_set_ne (by omega)]
        exact h.x i' hi' k v h1
    · rw [updO_ne e] at hv
      have hk7 : k < 7 := by have := (List.getElem?_eq_some_iff.1 hv).1; simpa [v7] using this
      rw [List.getElem?_set_ne (by omega)]
      exact h.x i' hi' k v hv
  · have es : sbO (updO f i x) q = sbO f q := by
      unfold sbO updO
      by_cases e : q / 2 = i
      · rw [if_pos e, hl, hd, e]
      · rw [if_neg e]
    rw [es]
    exact OS.loc.setC (h.os q hq) (fun hb => hb.2.2.2 rfl) _

end Go.Proofs.Ytipfaoecodclaaa
