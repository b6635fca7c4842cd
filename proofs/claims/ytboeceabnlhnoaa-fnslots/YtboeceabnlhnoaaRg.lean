import Derived.Test.YtboeceabnlhnoaaL2Draw
import Derived.Test.YtboeceabnlhnoaaLbBentM
import Derived.WalkKit
import Derived.ProofKit
import Derived.OpenShut
import Derived.ShutString
import Derived.ChangeOld
import Derived.Below
import Derived.WalkSpells
import Derived.Deep.QuietTactic
import Derived.BigQuiet
import Derived.Deep.RegionWith
import Derived.Deep.WholeRow
import Derived.Deep.DeepCutAuto
import Derived.Deep.RegionHeld2
import Derived.Deep.AppendLies
import Derived.Deep.RegionLaw
namespace Go.Proofs.Ytboeceabnlhnoaa
open Go.ChangeShapes Go.WideShapes Go.ChangeAt Go.RowKit

/-- a slice of numbers that lies in a block of S and reads as xs. -/
def FrS (S : Nat → Prop) (a : Option Addr) (n : Nat) (xs : List Int) (w : World) : Prop :=
  xs.length = n ∧ (0 < n → ∃ b off, a = some ⟨b, off, none⟩ ∧ S b ∧ b < w.heap.size ∧ ∀ i, i < n → w.cell? ⟨b, off + i, none⟩ = some (.int .i64 (gt xs i)))

theorem blk_lt {w w' : World} {b : Nat} (h : w'.heap[b]? = w.heap[b]?) (hb : b < w.heap.size) : b < w'.heap.size := by
  rw [Array.getElem?_eq_getElem hb] at h
  exact (Array.getElem?_eq_some_iff.1 h).1

theorem FrS.loc {S : Nat → Prop} {a : Option Addr} {n : Nat} {xs : List Int} : Loc S (FrS S a n xs) := fun w w' hk h => by
  refine ⟨h.1, fun hp => ?_⟩
  obtain ⟨b, off, e, h1, h2, h3⟩ := h.2 hp
  have hb := hk b h1 h2
  exact ⟨b, off, e, h1, blk_lt hb h2, fun i hi => (World.cell?_of_block (a := ⟨b, off + i, none⟩) hb).trans (h3 i hi)⟩

theorem FrS.mono {S S' : Nat → Prop} {a : Option Addr} {n : Nat} {xs : List Int} {w : World} (h : FrS S a n xs w) (hs : ∀ k, S k → S' k) : FrS S' a n xs w :=
  ⟨h.1, fun hp => by obtain ⟨b, off, e, h1, h2⟩ := h.2 hp; exact ⟨b, off, e, hs b h1, h2⟩⟩

theorem FrS.sl {S : Nat → Prop} {a : Option Addr} {n : Nat} {xs : List Int} {w : World} (h : FrS S a n xs w) : Sl w a n xs :=
  ⟨h.1, fun hp => by obtain ⟨b, off, e, _, h2, h3⟩ := h.2 hp; exact ⟨b, off, e, h2, h3⟩⟩

/-- a slice of slots that lies in blocks of S and reads as ss; each label has at most four levels. -/
def RgS (S : Nat → Prop) (a : Option Addr) (n : Nat) (ss : List (Int × List Int)) (w : World) : Prop :=
  ss.length = n ∧ (0 < n → ∃ b off, a = some ⟨b, off, none⟩ ∧ S b ∧ b < w.heap.size ∧ ∀ i, i < n → w.cell? ⟨b, off + i * 2, none⟩ = some (.int .i64 (gc ss i)) ∧
    ∃ la ll lc, w.cell? ⟨b, off + i * 2 + 1, none⟩ = some (.slice la ll lc) ∧ ll ≤ 1048576 ∧ FrS S la ll (gl ss i) w)

theorem RgS.loc {S : Nat → Prop} {a : Option Addr} {n : Nat} {ss : List (Int × List Int)} : Loc S (RgS S a n ss) := fun w w' hk h => by
  refine ⟨h.1, fun hp => ?_⟩
  obtain ⟨b, off, e, h1, h2, h3⟩ := h.2 hp
  have hb := hk b h1 h2
  refine ⟨b, off, e, h1, blk_lt hb h2, fun i hi => ?_⟩
  obtain ⟨c0, la, ll, lc, c1, hl, hf⟩ := h3 i hi
  exact ⟨(World.cell?_of_block (a := ⟨b, off + i * 2, none⟩) hb).trans c0, la, ll, lc, (World.cell?_of_block (a := ⟨b, off + i * 2 + 1, none⟩) hb).trans c1, hl, FrS.loc w w' hk hf⟩

theorem RgS.mono {S S' : Nat → Prop} {a : Option Addr} {n : Nat} {ss : List (Int × List Int)} {w : World} (h : RgS S a n ss w) (hs : ∀ k, S k → S' k) : RgS S' a n ss w :=
  ⟨h.1, fun hp => by
    obtain ⟨b, off, e, h1, h2, h3⟩ := h.2 hp
    exact ⟨b, off, e, hs b h1, h2, fun i hi => by obtain ⟨c0, la, ll, lc, c1, hl, hf⟩ := h3 i hi; exact ⟨c0, la, ll, lc, c1, hl, hf.mono hs⟩⟩⟩

theorem RgS.sls {S : Nat → Prop} {a : Option Addr} {n : Nat} {ss : List (Int × List Int)} {w : World} (h : RgS S a n ss w) : Sls w a n ss :=
  ⟨h.1, fun hp => by
    obtain ⟨b, off, e, _, h2, h3⟩ := h.2 hp
    exact ⟨b, off, e, h2, fun i hi => by obtain ⟨c0, la, ll, lc, c1, hl, hf⟩ := h3 i hi; exact ⟨c0, la, ll, lc, c1, by unfold maxLen; omega, hf.sl⟩⟩⟩

theorem OS.frS {S S' : Nat → Prop} {a : Option Addr} {n : Nat} {xs : List Int} {w : World} (h : OS S a n xs w) (hs : ∀ k, S k → S' k) : FrS S' a n xs w := by
  obtain ⟨h1, _, h2⟩ := h
  refine ⟨h1, fun hp => ?_⟩
  rcases h2 with h2 | ⟨b, e, hb, blk⟩
  · omega
  · exact ⟨b, 0, e, hs b hb, blk.1, fun i hi => by rw [Nat.zero_add]; exact blk.2.1 i (by omega)⟩

theorem OR.rgS {S : Nat → Prop} {a : Option Addr} {n : Nat} {ss : List (Int × List Int)} {w : World} (h : OR S a n ss w) : RgS S a n ss w := by
  refine ⟨h.1, fun hp => ?_⟩
  obtain ⟨N, la, lc, lb, rfl, hb⟩ := h.body hp
  refine ⟨N, 0, rfl, hb.hS, hb.lt, fun i hi => ?_⟩
  have hl := gl_le ss i (by have := h.1; omega)
  have hm := h.2.1
  exact ⟨by simpa using hb.c0 i hi, la i, _, lc i, by simpa using hb.c1 i hi, by omega, (hb.os i hi).frS (fun k hk => hk.1 ▸ hb.lS i hi hk.2)⟩

theorem gc_snoc (ss : List (Int × List Int)) (x : Int × List Int) (i : Nat) : gc (ss ++ [x]) i = if i = ss.length then x.1 else gc ss i := by
  unfold gc
  by_cases h : i < ss.length
  · rw [if_neg (by omega)]; simp [List.getElem?_append_left, h]
  · by_cases e : i = ss.length
    · subst e; simp
    · rw [if_neg e]
      have h1 : (ss ++ [x])[i]? = none := by simp; omega
      have h2 : ss[i]? = none := by simp; omega
      simp [h1, h2]

theorem gl_snoc (ss : List (Int × List Int)) (x : Int × List Int) (i : Nat) : gl (ss ++ [x]) i = if i = ss.length then x.2 else gl ss i := by
  unfold gl
  by_cases h : i < ss.length
  · rw [if_neg (by omega)]; simp [List.getElem?_append_left, h]
  · by_cases e : i = ss.length
    · subst e; simp
    · rw [if_neg e]
      have h1 : (ss ++ [x])[i]? = none := by simp; omega
      have h2 : ss[i]? = none := by simp; omega
      simp [h1, h2]

/-- a slot appended to an owned row of slots. -/
theorem OR.grow {S S' : Nat → Prop} {B n c g cp ll lc : Nat} {a la : Option Addr} {ss : List (Int × List Int)} {xs : List Value} {X w5 : World} {o : Obj} {c1 : Int} {zs : List Int} (ho : OR S a n ss X) (hown : X.ownsRow B 72 2 (.slice a n c) n xs) (hg : (X.alloc o).grownBy w5 (Value.slice a n c).ownBlock)
    (hown5 : w5.ownsRow B 72 2 (.slice (some ⟨g, 0, none⟩) (n + 1) cp) (n + 1) (xs ++ [.int .i64 c1, .slice la ll lc])) (hfr : FrS S' la ll zs X) (hll : ll ≤ 1048576) (hne : ∀ k, S' k → (Value.slice a n c).ownBlock ≠ some k) :
    RgS (fun k => S k ∨ S' k ∨ k = g) (some ⟨g, 0, none⟩) (n + 1) (ss ++ [(c1, zs)]) w5 := by
  have hsn := ho.1
  have hx : xs.length = n * 2 := hown.1
  have keep : ∀ k, k < X.heap.size → (Value.slice a n c).ownBlock ≠ some k → w5.heap[k]? = X.heap[k]? := fun k hk hn => (hg.block k (by simp; omega) (fun e => hn e.symm)).trans (Below.heap_alloc X o k hk)
  refine ⟨by simp [hsn], fun _ => ⟨g, 0, rfl, .inr (.inr rfl), (hown5.lt g rfl).2, fun i hi => ?_⟩⟩
  rw [gc_snoc, gl_snoc]
  have k0 := hown5.cellAt (i * 2) (by omega)
  have k1 := hown5.cellAt (i * 2 + 1) (by omega)
  by_cases e : i = ss.length
  · rw [if_pos e, if_pos e]
    have e2 : i * 2 = xs.length := by omega
    refine ⟨?_, la, ll, lc, ?_, hll, ?_⟩
    · rw [Nat.zero_add, k0, List.getElem?_append_right (by omega)]; simp [e2]
    · rw [Nat.zero_add, k1, List.getElem?_append_right (by omega)]; simp [e2]
    · exact (FrS.loc X w5 (fun k hk hl => keep k hl (hne k hk)) hfr).mono (fun k hk => .inr (.inl hk))
  · have hin : i < n := by omega
    rw [if_neg e, if_neg e]
    obtain ⟨N, fa, fc, fb, rfl, hb⟩ := ho.body (by omega)
    have hl := gl_le ss i (by omega)
    have hm := ho.2.1
    refine ⟨?_, fa i, (gl ss i).length, fc i, ?_, by omega, ?_⟩
    · rw [Nat.zero_add, k0, List.getElem?_append_left (by omega), ← hown.cellAt (i * 2) (by omega)]; exact hb.c0 i hin
    · rw [Nat.zero_add, k1, List.getElem?_append_left (by omega), ← hown.cellAt (i * 2 + 1) (by omega)]; exact hb.c1 i hin
    · have h1 := OS.loc X w5 (fun k hk hl => keep k hl (fun e => hb.ne i hin hk.2 (by simp [Value.ownBlock] at e; rw [e]; exact hk.1.symm))) (hb.os i hin)
      exact h1.frS (S' := fun k => S k ∨ S' k ∨ k = g) (fun k hk => Or.inl (hk.1 ▸ hb.lS i hin hk.2))

/-- slots that a make has just laid. -/
theorem made_rg (U : World) (m : Nat) (t : TypeId) (S : Nat → Prop) (hS : S U.heap.size) : RgS S (some ⟨U.heap.size, 0, none⟩) m (List.replicate m (0, [])) (U.alloc (.cells (madeCells #[.int .i64 0, .slice none 0 0] (m * 2)) t)) := by
  refine ⟨by simp, fun _ => ⟨U.heap.size, 0, rfl, hS, by simp, fun i hi => ?_⟩⟩
  have z0 : (i * 2) % 2 = 0 := by omega
  have z1 : (i * 2 + 1) % 2 = 1 := by omega
  have g0 : gc (List.replicate m ((0 : Int), ([] : List Int))) i = 0 := by simp [gc, hi]
  have g1 : gl (List.replicate m ((0 : Int), ([] : List Int))) i = [] := by simp [gl, hi]
  refine ⟨?_, none, 0, 0, ?_, by omega, ?_⟩
  · rw [World.cell?_alloc_new, g0]
    simp [madeCells, show i * 2 < m * 2 by omega, z0]
  · rw [World.cell?_alloc_new]
    simp [madeCells, show i * 2 + 1 < m * 2 by omega, z1]
  · rw [g1]; exact ⟨rfl, fun h => by omega⟩

/-- what a bent label is, in blocks of S. -/
theorem Fr.frS {w : World} {lo : Nat} {a : Option Addr} {n : Nat} {xs : List Int} (h : Fr w lo a n xs) : FrS (InR lo w.heap.size) a n xs w :=
  ⟨h.1, fun hp => by obtain ⟨b, off, e, h1, h2, h3⟩ := h.2.2 hp; exact ⟨b, off, e, ⟨h1, h2⟩, h2, h3⟩⟩

end Go.Proofs.Ytboeceabnlhnoaa
