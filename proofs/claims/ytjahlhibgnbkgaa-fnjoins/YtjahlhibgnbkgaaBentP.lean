import Derived.Test.YtjahlhibgnbkgaaDraw2
import Derived.WalkKit
import Derived.ProofKit
import Derived.OpenShut
import Derived.ShutString
import Derived.ChangeOld
import Derived.Below
import Derived.WalkSpells
import Derived.Deep.QuietTactic
import Derived.BigQuiet
import Derived.Deep.RegionWith
import Derived.Deep.WholeRow
import Derived.Deep.DeepCutAuto
import Derived.Deep.RegionHeld2
import Derived.Deep.AppendLies
import Derived.Deep.RegionLaw
namespace Go.Proofs.Ytjahlhibgnbkgaa
open Go.ChangeShapes Go.WideShapes Go.ChangeAt Go.RowKit

/-- a slice of at most four numbers in a block from lo on. -/
def Fr (w : World) (lo : Nat) (a : Option Addr) (n : Nat) (xs : List Int) : Prop :=
  xs.length = n ∧ n ≤ 4 ∧ (0 < n → ∃ b off, a = some ⟨b, off, none⟩ ∧ lo ≤ b ∧ b < w.heap.size ∧ ∀ i, i < n → w.cell? ⟨b, off + i, none⟩ = some (.int .i64 (gt xs i)))

theorem Fr.sl {w : World} {lo : Nat} {a : Option Addr} {n : Nat} {xs : List Int} (h : Fr w lo a n xs) : Sl w a n xs :=
  ⟨h.1, fun hp => by obtain ⟨b, off, e, _, h2, h3⟩ := h.2.2 hp; exact ⟨b, off, e, h2, h3⟩⟩

theorem Fr.below {w u : World} {lo : Nat} {a : Option Addr} {n : Nat} {xs : List Int} (h : Fr w lo a n xs) (hb : Below w.heap.size w u) : Fr u lo a n xs :=
  ⟨h.1, h.2.1, fun hp => by
    obtain ⟨b, off, e, h1, h2, h3⟩ := h.2.2 hp
    exact ⟨b, off, e, h1, by have := hb.size; omega, fun i hi => (hb.cell (p := ⟨b, off + i, none⟩) h2).trans (h3 i hi)⟩⟩

theorem Fr.outside {w u : World} {lo p : Nat} {a : Option Addr} {n : Nat} {xs : List Int} (h : Fr w lo a n xs) (ho : Outside p (p + 1) w u) (hp : p < lo) : Fr u lo a n xs :=
  ⟨h.1, h.2.1, fun h0 => by
    obtain ⟨b, off, e, h1, h2, h3⟩ := h.2.2 h0
    exact ⟨b, off, e, h1, by have := ho.size; omega, fun i hi => ho.cell (q := ⟨b, off + i, none⟩) h2 (by show p + 1 ≤ b; omega) (h3 i hi)⟩⟩

theorem Fr.setCell {w : World} {lo : Nat} {a : Option Addr} {n : Nat} {xs : List Int} (h : Fr w lo a n xs) {q : Addr} (hq : q.block < lo) (v : Value) : Fr (w.setCell q v) lo a n xs :=
  ⟨h.1, h.2.1, fun h0 => by
    obtain ⟨b, off, e, h1, h2, h3⟩ := h.2.2 h0
    exact ⟨b, off, e, h1, by simpa using h2, fun i hi => by rw [World.cell?_setCell_other _ _ _ _ (fun e => by rw [e] at hq; simp at hq; omega)]; exact h3 i hi⟩⟩

theorem Fr.ofBlk {w : World} {lo g : Nat} {zs : List Int} (h : Blk w g zs) (hl : lo ≤ g) (h4 : zs.length = 4) : Fr w lo (some ⟨g, 0, none⟩) 4 zs :=
  ⟨h4, by omega, fun _ => ⟨g, 0, rfl, hl, h.1, fun i hi => by rw [Nat.zero_add]; exact h.2.1 i (by omega)⟩⟩

theorem Fr.tail {w : World} {lo g : Nat} {zs : List Int} (h : Blk w g zs) (hl : lo ≤ g) (h4 : zs.length = 4) : Fr w lo (some ⟨g, 1, none⟩) 3 (zs.drop 1) :=
  ⟨by simp [h4], by omega, fun _ => ⟨g, 1, rfl, hl, h.1, fun i hi => by rw [h.2.1 (1 + i) (by omega)]; simp [gt, Nat.add_comm]⟩⟩

end Go.Proofs.Ytjahlhibgnbkgaa
