import Derived.Test.YtknnahchhbobbaaDoorSep
import Derived.Laws.BytesArg
import Derived.Lib.Strings
import Derived.WalkKit
import Derived.ProofKit
import Derived.OpenShut
import Derived.ShutString
import Derived.ChangeOld
import Derived.Below
import Derived.WalkSpells
import Derived.Deep.QuietTactic
import Derived.BigQuiet
import Derived.Deep.RegionWith
import Derived.Deep.WholeRow
import Derived.Deep.DeepCutAuto
import Derived.Deep.RegionHeld2
import Derived.Deep.AppendLies
import Derived.Deep.RegionLaw
namespace Go.Proofs.YtknnahchhbobbaaDoor
open Go.ChangeShapes Go.WideShapes Go.ChangeAt Go.RowKit

/-- the signs of the levels, as numbers. -/
def sgs : List Int := [42, 48, 49, 50, 51, 74]

def sg (z : Int) : Int := gt sgs z.toNat

/-- the text of a right label, else none. -/
def ltS (zs : List Int) : ByteArray := if fault zs = 0 then strOfNums (zs.map sg) else ⟨#[]⟩

theorem ltS_ok {zs : List Int} (h : fault zs = 0) : ltS zs = strOfNums (zs.map sg) := if_pos h

theorem ltS_no {zs : List Int} (h : fault zs ≠ 0) : ltS zs = ⟨#[]⟩ := if_neg h

/-- the program's table of signs lies in the first block. -/
def Sg (w : World) : Prop := 0 < w.heap.size ∧ ∀ j, j < 6 → w.cell? ⟨0, j, none⟩ = some (.int .u8 (gt sgs j))

theorem Sg.below {w u : World} (h : Sg w) (hb : Below w.heap.size w u) : Sg u :=
  ⟨by have := hb.size; have := h.1; omega, fun j hj => (hb.cell (p := ⟨0, j, none⟩) h.1).trans (h.2 j hj)⟩

theorem Sg.at {w : World} (h : Sg w) {z : Int} (h0 : 0 ≤ z) (h5 : z ≤ 5) : w.cell? ⟨0, z.toNat, none⟩ = some (.int .u8 (sg z)) := h.2 z.toNat (by omega)

/-- signs as bytes. -/
def sgV (xs : List Int) : List Value := (xs.map sg).map (Value.int .u8)

theorem take_sg (zs : List Int) (k : Nat) (h : k < zs.length) : sgV (zs.take (k + 1)) = sgV (zs.take k) ++ [.int .u8 (sg (gt zs k))] := by
  unfold sgV
  have e : gt zs k = zs[k] := by simp [gt, h]
  rw [List.take_succ_eq_append_getElem h, List.map_append, List.map_append, e]
  rfl

/-- the first k signs as bytes. -/
def sgK (zs : List Int) (k : Nat) : List Value := sgV (zs.take k)

theorem take_sgK (zs : List Int) (k : Nat) (h : k < zs.length) : sgK zs (k + 1) = sgK zs k ++ [.int .u8 (sg (gt zs k))] := take_sg zs k h

theorem own_keepB {w u : World} {B k : Nat} {e : TypeId} {v : Value} {L : List Value} (h : w.ownsRow B e 1 v k L) (hb : Below w.heap.size w u) : u.ownsRow B e 1 v k L := by
  obtain ⟨h1, h2⟩ := h
  refine ⟨h1, ?_⟩
  rcases h2 with h2 | ⟨g, cap, cur, hv, hg, hh, r⟩
  · exact .inl h2
  · exact .inr ⟨g, cap, cur, hv, hg, by rw [hb.block g (Array.getElem?_eq_some_iff.1 hh).1]; exact hh, r⟩

theorem ret_str {a b : ByteArray} (h : a = b) : Ending.returned (.string a) = .returned (.string b) := by rw [h]

theorem Mm.belowC {w X w1 : World} {cs : List (Nat × Nat × Value)} {B0 : Nat} (M : Mm w X cs []) (g : Below B0 X w1) (hB : w.heap.size ≤ B0) (hc : ∀ c ∈ cs, c.1 < B0) : Mm w w1 cs [] :=
  ⟨M.bel.trans (g.mono hB), fun c k => ⟨by have := (M.cells c k).1; have := g.size; omega, (World.cell?_of_block (a := ⟨c.1, c.2.1, none⟩) (g.block c.1 (hc c k))).trans (M.cells c k).2.1, (World.frozen?_of_block (a := ⟨c.1, c.2.1, none⟩) (g.block c.1 (hc c k))).trans (M.cells c k).2.2⟩, fun f hf => by cases hf⟩

/-- an owned row of bytes, converted to a text. -/
theorem own_text {w : World} {B n cap g : Nat} {e : TypeId} {xs : List Int} (h : w.ownsRow B e 1 (.slice (some ⟨g, 0, none⟩) n cap) n (xs.map (Value.int .u8))) : xs.length = n ∧ ∀ i, i < n → w.cell? ⟨g, 0 + i, none⟩ = some (.int .u8 (xs.getD i 0)) := by
  have hl : xs.length = n := by have := h.1; simpa using this
  refine ⟨hl, fun i hi => ?_⟩
  have hcell := h.cells (g := g) rfl i (.int .u8 (xs.getD i 0)) (by simp [List.getD, show i < xs.length by omega])
  have hadd : (Addr.mk g 0 none).add i = ⟨g, i, none⟩ := by cases i <;> simp [Addr.add]
  rw [hadd] at hcell
  rw [Nat.zero_add]
  exact hcell

end Go.Proofs.YtknnahchhbobbaaDoor
