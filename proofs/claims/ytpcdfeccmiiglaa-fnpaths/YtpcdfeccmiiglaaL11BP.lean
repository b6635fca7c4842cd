import Derived.Test.YtpcdfeccmiiglaaL11D
import Derived.Test.YtpcdfeccmiiglaaLbBentM
import Derived.WalkKit
import Derived.ProofKit
import Derived.OpenShut
import Derived.ShutString
import Derived.ChangeOld
import Derived.Below
import Derived.WalkSpells
import Derived.Deep.QuietTactic
import Derived.BigQuiet
import Derived.Deep.RegionWith
import Derived.Deep.WholeRow
import Derived.Deep.DeepCutAuto
import Derived.Deep.RegionHeld2
import Derived.Deep.AppendLies
import Derived.Deep.RegionLaw
namespace Go.Proofs.Ytpcdfeccmiiglaa
open Go.ChangeShapes Go.WideShapes Go.ChangeAt Go.RowKit

/-- a slice of numbers that lies in a block of S and reads as xs. -/
def FrS (S : Nat → Prop) (a : Option Addr) (n : Nat) (xs : List Int) (w : World) : Prop :=
  xs.length = n ∧ (0 < n → ∃ b off, a = some ⟨b, off, none⟩ ∧ S b ∧ b < w.heap.size ∧ ∀ i, i < n → w.cell? ⟨b, off + i, none⟩ = some (.int .i64 (gt xs i)))

theorem blk_lt {w w' : World} {b : Nat} (h : w'.heap[b]? = w.heap[b]?) (hb : b < w.heap.size) : b < w'.heap.size := by
  rw [Array.getElem?_eq_getElem hb] at h
  exact (Array.getElem?_eq_some_iff.1 h).1

theorem FrS.loc {S : Nat → Prop} {a : Option Addr} {n : Nat} {xs : List Int} : Loc S (FrS S a n xs) := fun w w' hk h => by
  refine ⟨h.1, fun hp => ?_⟩
  obtain ⟨b, off, e, h1, h2, h3⟩ := h.2 hp
  have hb := hk b h1 h2
  exact ⟨b, off, e, h1, blk_lt hb h2, fun i hi => (World.cell?_of_block (a := ⟨b, off + i, none⟩) hb).trans (h3 i hi)⟩

theorem FrS.mono {S S' : Nat → Prop} {a : Option Addr} {n : Nat} {xs : List Int} {w : World} (h : FrS S a n xs w) (hs : ∀ k, S k → S' k) : FrS S' a n xs w :=
  ⟨h.1, fun hp => by obtain ⟨b, off, e, h1, h2⟩ := h.2 hp; exact ⟨b, off, e, hs b h1, h2⟩⟩

theorem FrS.sl {S : Nat → Prop} {a : Option Addr} {n : Nat} {xs : List Int} {w : World} (h : FrS S a n xs w) : Sl w a n xs :=
  ⟨h.1, fun hp => by obtain ⟨b, off, e, _, h2, h3⟩ := h.2 hp; exact ⟨b, off, e, h2, h3⟩⟩

theorem OS.frS {S S' : Nat → Prop} {a : Option Addr} {n : Nat} {xs : List Int} {w : World} (h : OS S a n xs w) (hs : ∀ k, S k → S' k) : FrS S' a n xs w := by
  obtain ⟨h1, _, h2⟩ := h
  refine ⟨h1, fun hp => ?_⟩
  rcases h2 with h2 | ⟨b, e, hb, blk⟩
  · omega
  · exact ⟨b, 0, e, hs b hb, blk.1, fun i hi => by rw [Nat.zero_add]; exact blk.2.1 i (by omega)⟩

/-- what a bent label is, in blocks of S. -/
theorem Fr.frS {w : World} {lo : Nat} {a : Option Addr} {n : Nat} {xs : List Int} (h : Fr w lo a n xs) : FrS (InR lo w.heap.size) a n xs w :=
  ⟨h.1, fun hp => by obtain ⟨b, off, e, h1, h2, h3⟩ := h.2.2 hp; exact ⟨b, off, e, ⟨h1, h2⟩, h2, h3⟩⟩

theorem lit3 {wr : World} {t : TypeId} {x y z : Int} : ∀ i, i < 3 → (wr.alloc (.cells #[.int .i64 x, .int .i64 y, .int .i64 z] t)).cell? ⟨wr.heap.size, i, none⟩ = some (.int .i64 (gt [x, y, z] i)) := by
  intro i hi
  rw [World.cell?_alloc_new]
  rcases (by omega : i = 0 ∨ i = 1 ∨ i = 2) with rfl | rfl | rfl <;> rfl

theorem lit2 {wr : World} {t : TypeId} {x y : Int} : ∀ i, i < 2 → (wr.alloc (.cells #[.int .i64 x, .int .i64 y] t)).cell? ⟨wr.heap.size, i, none⟩ = some (.int .i64 (gt [x, y] i)) := by
  intro i hi
  rw [World.cell?_alloc_new]
  rcases (by omega : i = 0 ∨ i = 1) with rfl | rfl <;> rfl

/-- a slice of objects in blocks of S that reads as xs. -/
def SobS (S : Nat → Prop) (a : Option Addr) (n : Nat) (xs : List OB) (w : World) : Prop :=
  xs.length = n ∧ n ≤ 1000 ∧ (0 < n → ∃ b off, a = some ⟨b, off, none⟩ ∧ S b ∧ b < w.heap.size ∧ ∀ i, i < n → ∃ la lc da dc, O7 w b (off + i * 7) (gO xs i) la lc da dc ∧ (gO xs i).2.2.2.1.length ≤ 1048576 ∧ FrS S la (gO xs i).2.2.2.1.length (gO xs i).2.2.2.1 w ∧ (gO xs i).2.2.2.2.2.2.length ≤ 1048576 ∧ FrS S da (gO xs i).2.2.2.2.2.2.length (gO xs i).2.2.2.2.2.2 w)

theorem SobS.loc {S : Nat → Prop} {a : Option Addr} {n : Nat} {xs : List OB} : Loc S (SobS S a n xs) := fun w w' hk h => by
  obtain ⟨h1, h2, h3⟩ := h
  refine ⟨h1, h2, fun hp => ?_⟩
  obtain ⟨b, off, h4, h5, h6, h7⟩ := h3 hp
  refine ⟨b, off, h4, h5, blk_lt (hk b h5 h6) h6, fun i hi => ?_⟩
  obtain ⟨la, lc, da, dc, h8, h9, h10, h11, h12⟩ := h7 i hi
  exact ⟨la, lc, da, dc, h8.of_block (hk b h5 h6), h9, FrS.loc w w' hk h10, h11, FrS.loc w w' hk h12⟩

theorem SobS.mono {S S' : Nat → Prop} {a : Option Addr} {n : Nat} {xs : List OB} {w : World} (h : SobS S a n xs w) (hs : ∀ k, S k → S' k) : SobS S' a n xs w := by
  obtain ⟨h1, h2, h3⟩ := h
  refine ⟨h1, h2, fun hp => ?_⟩
  obtain ⟨b, off, h4, h5, h6, h7⟩ := h3 hp
  refine ⟨b, off, h4, hs b h5, h6, fun i hi => ?_⟩
  obtain ⟨la, lc, da, dc, h8, h9, h10, h11, h12⟩ := h7 i hi
  exact ⟨la, lc, da, dc, h8, h9, h10.mono hs, h11, h12.mono hs⟩

theorem SobS.sob {S : Nat → Prop} {a : Option Addr} {n : Nat} {xs : List OB} {w : World} (h : SobS S a n xs w) : Sob w a n xs := by
  obtain ⟨h1, h2, h3⟩ := h
  refine ⟨h1, fun hp => ?_⟩
  obtain ⟨b, off, h4, h5, h6, h7⟩ := h3 hp
  refine ⟨b, off, h4, h6, fun i hi => ?_⟩
  obtain ⟨la, lc, da, dc, h8, h9, h10, h11, h12⟩ := h7 i hi
  exact ⟨la, lc, da, dc, h8, by unfold maxLen; omega, h10.sl, by unfold maxLen; omega, h12.sl⟩

theorem KRw.o7 {B T g c n : Nat} {la : Nat → Option Addr} {lc : Nat → Nat} {L : List Value} {f : Nat → OB} {w : World} (h : KRw B T g c n la lc L f w) {i : Nat} (hi : i < n) : O7 w g (i * 7) (f i) (la (2 * i)) (lc (2 * i)) (la (2 * i + 1)) (lc (2 * i + 1)) := by
  have key : ∀ j u, (v7 (f i) (la (2 * i)) (lc (2 * i)) (la (2 * i + 1)) (lc (2 * i + 1)))[j]? = some u → w.cell? ⟨g, i * 7 + j, none⟩ = some u := fun j u hu => by
    have h1 := h.own.cells (g := g) rfl _ _ (h.x i hi j u hu)
    have hadd : (⟨g, 0, none⟩ : Addr).add (i * 7 + j) = ⟨g, i * 7 + j, none⟩ := by unfold Addr.add; split <;> simp_all
    rwa [hadd] at h1
  exact ⟨key 0 _ rfl, key 1 _ rfl, key 2 _ rfl, key 3 _ rfl, key 4 _ rfl, key 5 _ rfl, key 6 _ rfl⟩

theorem KRw.fzg {B T g c n : Nat} {la : Nat → Option Addr} {lc : Nat → Nat} {L : List Value} {f : Nat → OB} {w : World} (h : KRw B T g c n la lc L f w) (j : Nat) : w.frozen? ⟨g, j, none⟩ = false := by
  rcases h.own.2 with ⟨h0, _⟩ | ⟨g', cap, cur, e0, hb, hg, r⟩
  · cases h0
  · cases e0
    simp [World.frozen?, hg]

/-- the row as a slice that is only read. -/
theorem KRw.sobS {B T g c n : Nat} {la : Nat → Option Addr} {lc : Nat → Nat} {L : List Value} {f : Nat → OB} {w : World} (h : KRw B T g c n la lc L f w) (hn : n ≤ 1000) : SobS (InR B T) (some ⟨g, 0, none⟩) n (lsO f n) w := by
  refine ⟨length_lsO _ _, hn, fun _ => ⟨g, 0, rfl, h.hg, (h.own.lt g rfl).2, fun i hi => ?_⟩⟩
  rw [gO_lsO hi, Nat.zero_add]
  have o1 := h.os (2 * i) (by omega)
  have o2 := h.os (2 * i + 1) (by omega)
  rw [sbO_l] at o1
  rw [sbO_d] at o2
  exact ⟨_, _, _, _, h.o7 hi, by have := o1.2.1; omega, o1.frS (fun k hk => ⟨hk.1, hk.2.1⟩), by have := o2.2.1; omega, o2.frS (fun k hk => ⟨hk.1, hk.2.1⟩)⟩

/-- one cell of the row is written: what reads then. -/
theorem KRw.putS {B T g c n : Nat} {la : Nat → Option Addr} {lc : Nat → Nat} {L : List Value} {f : Nat → OB} {w : World} (h : KRw B T g c n la lc L f w) (hn : n ≤ 1000) {i j : Nat} (hi : i < n) (hj : j < 7) (u : Value) (x : OB) {S : Nat → Prop} (hS : ∀ k, InR B T k → S k)
    {xa : Option Addr} {xc : Nat} {da : Option Addr} {dc : Nat} (hx : ∀ k v, (v7 x xa xc da dc)[k]? = some v → (if k = j then some u else (v7 (f i) (la (2 * i)) (lc (2 * i)) (la (2 * i + 1)) (lc (2 * i + 1)))[k]?) = some v)
    (hl1 : x.2.2.2.1.length ≤ 1048576) (hl : FrS (fun k => S k ∧ k ≠ g) xa x.2.2.2.1.length x.2.2.2.1 w) (hd1 : x.2.2.2.2.2.2.length ≤ 1048576) (hd : FrS (fun k => S k ∧ k ≠ g) da x.2.2.2.2.2.2.length x.2.2.2.2.2.2 w) :
    SobS S (some ⟨g, 0, none⟩) n (lsO (updO f i x) n) (w.setCell ⟨g, i * 7 + j, none⟩ u) := by
  have hg := (h.own.lt g rfl).2
  have old : ∀ k v, (v7 (f i) (la (2 * i)) (lc (2 * i)) (la (2 * i + 1)) (lc (2 * i + 1)))[k]? = some v → w.cell? ⟨g, i * 7 + k, none⟩ = some v := fun k v hv => by
    have h1 := h.own.cells (g := g) rfl _ _ (h.x i hi k v hv)
    have hadd : (⟨g, 0, none⟩ : Addr).add (i * 7 + k) = ⟨g, i * 7 + k, none⟩ := by unfold Addr.add; split <;> simp_all
    rwa [hadd] at h1
  have keep : ∀ {la' : Option Addr} {m : Nat} {ys : List Int}, FrS (fun k => S k ∧ k ≠ g) la' m ys w → FrS S la' m ys (w.setCell ⟨g, i * 7 + j, none⟩ u) := fun hf => (FrS.loc.setC hf (q := ⟨g, i * 7 + j, none⟩) (fun e => e.2 rfl) u).mono (fun _ e => e.1)
  refine ⟨length_lsO _ _, hn, fun _ => ⟨g, 0, rfl, hS g h.hg, by simpa using hg, fun i' hi' => ?_⟩⟩
  rw [gO_lsO hi', Nat.zero_add]
  by_cases e : i' = i
  · subst e
    rw [updO_same]
    have key : ∀ k v, k < 7 → (v7 x xa xc da dc)[k]? = some v → (w.setCell ⟨g, i' * 7 + j, none⟩ u).cell? ⟨g, i' * 7 + k, none⟩ = some v := fun k v hk hv => by
      have h1 := hx k v hv
      by_cases ek : k = j
      · subst ek
        rw [if_pos rfl] at h1
        cases h1
        obtain ⟨v0, hv0⟩ : ∃ v0, (v7 (f i') (la (2 * i')) (lc (2 * i')) (la (2 * i' + 1)) (lc (2 * i' + 1)))[k]? = some v0 := ⟨_, List.getElem?_eq_getElem (by simpa [v7] using hk)⟩
        exact World.cell?_setCell_same _ _ _ (old k v0 hv0)
      · rw [if_neg ek] at h1
        rw [World.cell?_setCell_other _ _ _ _ (fun e2 => by injection e2 with e3 e4; omega)]
        exact old k v h1
    exact ⟨xa, xc, da, dc, ⟨key 0 _ (by omega) rfl, key 1 _ (by omega) rfl, key 2 _ (by omega) rfl, key 3 _ (by omega) rfl, key 4 _ (by omega) rfl, key 5 _ (by omega) rfl, key 6 _ (by omega) rfl⟩, hl1, keep hl, hd1, keep hd⟩
  · rw [updO_ne e]
    have o1 := h.os (2 * i') (by omega)
    have o2 := h.os (2 * i' + 1) (by omega)
    rw [sbO_l] at o1
    rw [sbO_d] at o2
    obtain ⟨c0, c1, c2, c3, c4, c5, c6⟩ := h.o7 hi'
    have far : ∀ k v, k < 7 → w.cell? ⟨g, i' * 7 + k, none⟩ = some v → (w.setCell ⟨g, i * 7 + j, none⟩ u).cell? ⟨g, i' * 7 + k, none⟩ = some v := fun k v hk hv => by
      rw [World.cell?_setCell_other _ _ _ _ (fun e2 => by injection e2 with e3 e4; omega)]
      exact hv
    exact ⟨_, _, _, _, ⟨far 0 _ (by omega) c0, far 1 _ (by omega) c1, far 2 _ (by omega) c2, far 3 _ (by omega) c3, far 4 _ (by omega) c4, far 5 _ (by omega) c5, far 6 _ (by omega) c6⟩, by have := o1.2.1; omega, keep (o1.frS (fun k hk => ⟨hS k ⟨hk.1, hk.2.1⟩, hk.2.2⟩)), by have := o2.2.1; omega, keep (o2.frS (fun k hk => ⟨hS k ⟨hk.1, hk.2.1⟩, hk.2.2⟩))⟩

/-- a number of an object is written. -/
theorem KRw.putN {B T g c n : Nat} {la : Nat → Option Addr} {lc : Nat → Nat} {L : List Value} {f : Nat → OB} {w : World} (h : KRw B T g c n la lc L f w) (hn : n ≤ 1000) {i j : Nat} (hi : i < n) (hj : j < 7) (y : Int) (x : OB)
    (hx : ∀ k v, (v7 x (la (2 * i)) (lc (2 * i)) (la (2 * i + 1)) (lc (2 * i + 1)))[k]? = some v → (if k = j then some (.int .i64 y) else (v7 (f i) (la (2 * i)) (lc (2 * i)) (la (2 * i + 1)) (lc (2 * i + 1)))[k]?) = some v) (hl : x.2.2.2.1 = (f i).2.2.2.1) (hd : x.2.2.2.2.2.2 = (f i).2.2.2.2.2.2) :
    SobS (InR B T) (some ⟨g, 0, none⟩) n (lsO (updO f i x) n) (w.setCell ⟨g, i * 7 + j, none⟩ (.int .i64 y)) := by
  have o1 := h.os (2 * i) (by omega)
  have o2 := h.os (2 * i + 1) (by omega)
  rw [sbO_l] at o1
  rw [sbO_d] at o2
  refine h.putS hn hi hj _ x (fun _ e => e) hx (by rw [hl]; have := o1.2.1; omega) ?_ (by rw [hd]; have := o2.2.1; omega) ?_
  · rw [hl]; exact o1.frS (fun k hk => ⟨⟨hk.1, hk.2.1⟩, hk.2.2⟩)
  · rw [hd]; exact o2.frS (fun k hk => ⟨⟨hk.1, hk.2.1⟩, hk.2.2⟩)

/-- objects that a make has just laid. -/
theorem made_sobS (U : World) (m : Nat) (t : TypeId) (S : Nat → Prop) (hS : S U.heap.size) (hm : m ≤ 1000) : SobS S (some ⟨U.heap.size, 0, none⟩) m (List.replicate m (0, 0, 0, [], 0, 0, [])) (U.alloc (.cells (madeCells #[.int .i64 0, .int .i64 0, .int .i64 0, .slice none 0 0, .int .i64 0, .int .i64 0, .slice none 0 0] (m * 7)) t)) := by
  refine ⟨by simp, hm, fun _ => ⟨U.heap.size, 0, rfl, hS, by simp, fun i hi => ?_⟩⟩
  have g0 : gO (List.replicate m ((0, 0, 0, [], 0, 0, []) : OB)) i = (0, 0, 0, [], 0, 0, []) := by simp [gO, hi]
  rw [g0, Nat.zero_add]
  have key : ∀ j, j < 7 → (U.alloc (.cells (madeCells #[.int .i64 0, .int .i64 0, .int .i64 0, .slice none 0 0, .int .i64 0, .int .i64 0, .slice none 0 0] (m * 7)) t)).cell? ⟨U.heap.size, i * 7 + j, none⟩ = #[Value.int .i64 0, .int .i64 0, .int .i64 0, .slice none 0 0, .int .i64 0, .int .i64 0, .slice none 0 0][j]? := fun j hj => by
    rw [World.cell?_alloc_new]
    have e1 : (i * 7 + j) % 7 = j := by omega
    have e2 : i * 7 + j < m * 7 := by omega
    simp [madeCells, e1, e2, hj]
  exact ⟨none, 0, none, 0, ⟨key 0 (by omega), key 1 (by omega), key 2 (by omega), key 3 (by omega), key 4 (by omega), key 5 (by omega), key 6 (by omega)⟩, by simp, ⟨rfl, fun h => absurd h (by simp)⟩, by simp, ⟨rfl, fun h => absurd h (by simp)⟩⟩

/-- what l11Bent gives. -/
def BentK (p : Nat) (a : Option Addr) (len cap t : Nat) (w : World) (e : Ending) (w' : World) : Prop :=
  ∃ (ra : Option Addr) (n rc : Nat) (xs : List OB) (t' : Nat), e = .returned (.agg #[.slice ra n rc]) ∧ SobS (InR (w.heap.size + 1) w'.heap.size) ra n xs w' ∧ n ≤ rc ∧ Src w' p a len cap t' ∧ t' ≤ t + 450 ∧ Outside p (p + 1) w w'

theorem BentK.fin {p : Nat} {a : Option Addr} {len cap t t' n rc T : Nat} {ra : Option Addr} {xs : List OB} {w X : World} (hp : p < w.heap.size) (h1 : SobS (InR (w.heap.size + 1) T) ra n xs X) (hT : T ≤ X.heap.size) (hc : n ≤ rc) (h5 : Src X p a len cap t') (h6 : t' ≤ t + 450) (h7 : Outside p (p + 1) w X) :
    BentK p a len cap t w (.returned (.agg #[.slice ra n rc])) (X.setCell ⟨w.heap.size, 0, none⟩ (.slice ra n rc)) :=
  ⟨ra, n, rc, xs, t', rfl, (SobS.loc.setC h1 (q := ⟨w.heap.size, 0, none⟩) (fun e => by have h := e.1; simp only at h; omega) _).mono (fun k hk => ⟨hk.1, by have := hk.2; simp; omega⟩), hc, h5.setCell (by exact hp) _, h6, h7.setNew (Nat.le_refl _) _⟩

end Go.Proofs.Ytpcdfeccmiiglaa
