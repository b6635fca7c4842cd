import Derived.Test.YtknnahchhbobbaaDoorTxtS
import Derived.Test.YtknnahchhbobbaaDoorLbDraw
import Derived.Laws.IdiomStrings
import Derived.WalkKit
import Derived.ProofKit
import Derived.OpenShut
import Derived.ShutString
import Derived.ChangeOld
import Derived.Below
import Derived.WalkSpells
import Derived.Deep.QuietTactic
import Derived.BigQuiet
import Derived.Deep.RegionWith
import Derived.Deep.WholeRow
import Derived.Deep.DeepCutAuto
import Derived.Deep.RegionHeld2
import Derived.Deep.AppendLies
import Derived.Deep.RegionLaw
namespace Go.Proofs.YtknnahchhbobbaaDoor
open Go.ChangeShapes Go.WideShapes Go.ChangeAt Go.RowKit

theorem strOfNums_size (xs : List Int) : (strOfNums xs).size = xs.length := by
  simp [strOfNums, ByteArray.size]

/-- a row of four bytes. -/
def B4 (w : World) (b : Nat) (x0 x1 x2 x3 : Int) : Prop :=
  (w.cell? ⟨b, 0, none⟩ = some (.int .u8 x0) ∧ w.cell? ⟨b, 1, none⟩ = some (.int .u8 x1) ∧ w.cell? ⟨b, 2, none⟩ = some (.int .u8 x2) ∧ w.cell? ⟨b, 3, none⟩ = some (.int .u8 x3)) ∧ ∀ j, j < 4 → w.frozen? ⟨b, j, none⟩ = false

theorem B4.outside {w u : World} {b p : Nat} {x0 x1 x2 x3 : Int} (h : B4 w b x0 x1 x2 x3) (o : Outside p (p + 1) w u) (hb : p < b) : B4 u b x0 x1 x2 x3 := by
  have hl : b < w.heap.size := World.block_lt_of_cell? _ _ h.1.1
  have hk : ∀ j, u.cell? ⟨b, j, none⟩ = w.cell? ⟨b, j, none⟩ := fun j => World.cell?_of_block (a := ⟨b, j, none⟩) (o.block b hl (.inr hb))
  have hf : ∀ j, u.frozen? ⟨b, j, none⟩ = w.frozen? ⟨b, j, none⟩ := fun j => World.frozen?_of_block (a := ⟨b, j, none⟩) (o.block b hl (.inr hb))
  exact ⟨⟨(hk 0).trans h.1.1, (hk 1).trans h.1.2.1, (hk 2).trans h.1.2.2.1, (hk 3).trans h.1.2.2.2⟩, fun j hj => (hf j).trans (h.2 j hj)⟩

theorem B4.below {w u : World} {b : Nat} {x0 x1 x2 x3 : Int} (h : B4 w b x0 x1 x2 x3) (o : Below w.heap.size w u) : B4 u b x0 x1 x2 x3 := by
  have hl : b < w.heap.size := World.block_lt_of_cell? _ _ h.1.1
  exact ⟨⟨(o.cell (p := ⟨b, 0, none⟩) hl).trans h.1.1, (o.cell (p := ⟨b, 1, none⟩) hl).trans h.1.2.1, (o.cell (p := ⟨b, 2, none⟩) hl).trans h.1.2.2.1, (o.cell (p := ⟨b, 3, none⟩) hl).trans h.1.2.2.2⟩, fun j hj => (o.frozen (p := ⟨b, j, none⟩) hl).trans (h.2 j hj)⟩

/-- four bytes, read as a text. -/
theorem B4.conv {w : World} {b : Nat} {x0 x1 x2 x3 : Int} (h : B4 w b x0 x1 x2 x3) (cp : Nat) : (convert 22 9 (.slice (some ⟨b, 0, none⟩) 4 cp)).run Tryd.prog w = .ok (.string (strOfNums [x0, x1, x2, x3])) w :=
  run_convert_bytes_arg (P := Tryd.prog) w 22 5 Tryd.underlying22 Tryd.underlying5 b 0 4 cp [x0, x1, x2, x3] rfl (fun i hi => by
    rcases (by omega : i = 0 ∨ i = 1 ∨ i = 2 ∨ i = 3) with rfl | rfl | rfl | rfl
    · exact h.1.1
    · exact h.1.2.1
    · exact h.1.2.2.1
    · exact h.1.2.2.2) 9 Tryd.underlying9

theorem B4.conv1 {w : World} {b : Nat} {x0 x1 x2 x3 : Int} (h : B4 w b x0 x1 x2 x3) (cp : Nat) : (convert 22 9 (.slice (some ⟨b, 1, none⟩) 3 cp)).run Tryd.prog w = .ok (.string (strOfNums [x1, x2, x3])) w :=
  run_convert_bytes_arg (P := Tryd.prog) w 22 5 Tryd.underlying22 Tryd.underlying5 b 1 3 cp [x1, x2, x3] rfl (fun i hi => by
    rcases (by omega : i = 0 ∨ i = 1 ∨ i = 2) with rfl | rfl | rfl
    · exact h.1.2.1
    · exact h.1.2.2.1
    · exact h.1.2.2.2) 9 Tryd.underlying9

/-- one of the four bytes written. -/
theorem B4.set {w : World} {b : Nat} {x0 x1 x2 x3 : Int} (h : B4 w b x0 x1 x2 x3) (j : Nat) (hj : j < 4) (y : Int) : ∃ z0 z1 z2 z3, B4 (w.setCell ⟨b, j, none⟩ (.int .u8 y)) b z0 z1 z2 z3 := by
  have hin : ∀ i, i < 4 → ∃ v, w.cell? ⟨b, i, none⟩ = some v := fun i hi => by
    rcases (by omega : i = 0 ∨ i = 1 ∨ i = 2 ∨ i = 3) with rfl | rfl | rfl | rfl
    · exact ⟨_, h.1.1⟩
    · exact ⟨_, h.1.2.1⟩
    · exact ⟨_, h.1.2.2.1⟩
    · exact ⟨_, h.1.2.2.2⟩
  have hf : ∀ i, i < 4 → (w.setCell ⟨b, j, none⟩ (.int .u8 y)).frozen? ⟨b, i, none⟩ = false := fun i hi => by rw [World.frozen?_setCell]; exact h.2 i hi
  obtain ⟨vj, hvj⟩ := hin j hj
  have hs : (w.setCell ⟨b, j, none⟩ (.int .u8 y)).cell? ⟨b, j, none⟩ = some (.int .u8 y) := World.cell?_setCell_same _ _ _ hvj
  have ho : ∀ i, i ≠ j → (w.setCell ⟨b, j, none⟩ (.int .u8 y)).cell? ⟨b, i, none⟩ = w.cell? ⟨b, i, none⟩ := fun i hi => World.cell?_setCell_other _ _ _ _ (fun e => hi (by injection e with _ e2; exact e2.symm))
  rcases (by omega : j = 0 ∨ j = 1 ∨ j = 2 ∨ j = 3) with rfl | rfl | rfl | rfl
  · exact ⟨y, x1, x2, x3, ⟨hs, (ho 1 (by decide)).trans h.1.2.1, (ho 2 (by decide)).trans h.1.2.2.1, (ho 3 (by decide)).trans h.1.2.2.2⟩, hf⟩
  · exact ⟨x0, y, x2, x3, ⟨(ho 0 (by decide)).trans h.1.1, hs, (ho 2 (by decide)).trans h.1.2.2.1, (ho 3 (by decide)).trans h.1.2.2.2⟩, hf⟩
  · exact ⟨x0, x1, y, x3, ⟨(ho 0 (by decide)).trans h.1.1, (ho 1 (by decide)).trans h.1.2.1, hs, (ho 3 (by decide)).trans h.1.2.2.2⟩, hf⟩
  · exact ⟨x0, x1, x2, y, ⟨(ho 0 (by decide)).trans h.1.1, (ho 1 (by decide)).trans h.1.2.1, (ho 2 (by decide)).trans h.1.2.2.1, hs⟩, hf⟩

theorem B4.cellAt {w : World} {b : Nat} {x0 x1 x2 x3 : Int} (h : B4 w b x0 x1 x2 x3) {r : Int} (h0 : 0 ≤ r) (h4 : r < 4) : ∃ z : Int, w.cell? ⟨b, r.toNat, none⟩ = some (.int .u8 z) := by
  rcases (by omega : r = 0 ∨ r = 1 ∨ r = 2 ∨ r = 3) with rfl | rfl | rfl | rfl
  · exact ⟨_, h.1.1⟩
  · exact ⟨_, h.1.2.1⟩
  · exact ⟨_, h.1.2.2.1⟩
  · exact ⟨_, h.1.2.2.2⟩

/-- a text of four bytes, laid as a row. -/
theorem lay4 (w : World) (st : ByteArray) (h : st.size = 4) : ∃ (kc : Nat) (W : World) (x0 x1 x2 x3 : Int), 4 ≤ kc ∧ kc ≤ maxLen ∧ (convert 9 22 (.string st)).run Tryd.prog w = .ok (.slice (some ⟨w.heap.size, 0, none⟩) 4 kc) W ∧ Below w.heap.size w W ∧ B4 W w.heap.size x0 x1 x2 x3 := by
  have hcv := run_bytes_of_string (P := Tryd.prog) w 9 22 5 st Tryd.underlying9 Tryd.underlying22 Tryd.underlying5
  rw [h] at hcv
  have hd : st.data.size = 4 := h
  have hk : 4 ≤ grownCap w 4 0 5 := grownCap_ge _ _ _ _
  have hk2 : grownCap w 4 0 5 ≤ maxLen := grownCap_le_maxLen _ _ _ _ (by unfold maxLen; omega)
  generalize grownCap w 4 0 5 = kc at hcv hk hk2
  have hsz : (bytesRow st kc).size = kc := by unfold bytesRow; simp [hd, h]; omega
  refine ⟨kc, _, (st.data[0].toNat : Int), (st.data[1].toNat : Int), (st.data[2].toNat : Int), (st.data[3].toNat : Int), hk, hk2, hcv, ((Below.refl _ _).drew).alloc (by simp) _, ⟨?_, ?_, ?_, ?_⟩, fun j hj => ?_⟩
  · exact (World.cell?_alloc_mark w.drew _ _ _ 0).trans (bytesRow_at st kc 0 (by omega))
  · exact (World.cell?_alloc_mark w.drew _ _ _ 1).trans (bytesRow_at st kc 1 (by omega))
  · exact (World.cell?_alloc_mark w.drew _ _ _ 2).trans (bytesRow_at st kc 2 (by omega))
  · exact (World.cell?_alloc_mark w.drew _ _ _ 3).trans (bytesRow_at st kc 3 (by omega))
  · refine (World.frozen?_alloc_mark w.drew _ _ _ _ j).trans ?_
    rw [hsz]
    simp
    omega

end Go.Proofs.YtknnahchhbobbaaDoor
