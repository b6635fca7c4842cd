import Derived.Test.YtpgpoeljbppggaaDoorAsO
import Derived.WalkKit
import Derived.ProofKit
import Derived.OpenShut
import Derived.ShutString
import Derived.ChangeOld
import Derived.Below
import Derived.WalkSpells
import Derived.Deep.QuietTactic
import Derived.BigQuiet
import Derived.Deep.RegionWith
import Derived.Deep.WholeRow
import Derived.Deep.DeepCutAuto
import Derived.Deep.RegionHeld2
import Derived.Deep.AppendLies
import Derived.Deep.RegionLaw
namespace Go.Proofs.YtpgpoeljbppggaaDoor
open Go.ChangeShapes Go.WideShapes Go.ChangeAt Go.RowKit

/-- a row of texts of one's own. -/
def OSt (S : Nat → Prop) (a : Option Addr) (n : Nat) (ps : List ByteArray) (w : World) : Prop :=
  ps.length = n ∧ n + sumB ps ≤ 1048576 ∧ ∃ N, a = some ⟨N, 0, none⟩ ∧ S N ∧ HalfS w N n n ps

theorem OSt.loc {S : Nat → Prop} {a : Option Addr} {n : Nat} {ps : List ByteArray} : Loc S (OSt S a n ps) := fun w w' hk h => by
  obtain ⟨h1, h2, N, e, hS, hh⟩ := h
  refine ⟨h1, h2, N, e, hS, ?_⟩
  have eN := hk N hS hh.1
  have hN' : N < w'.heap.size := by
    have h3 := hh.1
    rw [Array.getElem?_eq_getElem h3] at eN
    exact (Array.getElem?_eq_some_iff.1 eN).1
  exact ⟨hN', fun j hj => (World.cell?_of_block (a := ⟨N, j, none⟩) eN).trans (hh.2.1 j hj), fun j hj => by obtain ⟨v, hv⟩ := hh.2.2.1 j hj; exact ⟨v, (World.cell?_of_block (a := ⟨N, j, none⟩) eN).trans hv⟩, fun j => (World.frozen?_of_block (a := ⟨N, j, none⟩) eN).trans (hh.2.2.2 j)⟩

theorem sumB_at {ps : List ByteArray} {j : Nat} (h : j < ps.length) : (ps.getD j ⟨#[]⟩).size ≤ sumB ps := by
  have h1 := sumB_take h
  have h2 := sumB_le (ps := ps) (k := j + 1)
  omega

theorem OSt.sts {S : Nat → Prop} {a : Option Addr} {n : Nat} {ps : List ByteArray} {w : World} (h : OSt S a n ps w) : Sts w a n ps := by
  obtain ⟨h1, _, N, rfl, _, hh⟩ := h
  exact hh.sts h1

theorem OSt.stx {S : Nat → Prop} {a : Option Addr} {n : Nat} {ps : List ByteArray} {w : World} (h : OSt S a n ps w) : Stx w a n ps := by
  obtain ⟨h1, _, N, rfl, _, hh⟩ := h
  exact hh.stx h1

theorem OSt.hz {S : Nat → Prop} {a : Option Addr} {n : Nat} {ps : List ByteArray} {w : World} (h : OSt S a n ps w) : ∀ j, j < n → (ps.getD j ⟨#[]⟩).size ≤ 1048576 := fun j hj => by
  have h1 := h.1
  have h2 := h.2.1
  have := sumB_at (ps := ps) (j := j) (by omega)
  omega

theorem toStringS_O (a : Option Addr) (n cap : Nat) (ps : List ByteArray) (w : World) (hm : n + sumB ps ≤ 1048576) (hs : Stx w a n ps) :
    Calls Tryd.prog 23 #[.slice a n cap] w fun e w' => ∃ b, e = .returned (.slice (some ⟨b, 0, none⟩) n n) ∧ OSt (InR w.heap.size w'.heap.size) (some ⟨b, 0, none⟩) n ps w' ∧ Below w.heap.size w w' :=
  (toStringS_calls a n cap ps w (by omega) hs).mono fun _ _ ⟨b, h1, h2, h3, h4⟩ => ⟨b, h1, ⟨hs.1, hm, b, rfl, ⟨h3, h2.1⟩, h2⟩, h4⟩

theorem markStringS_O (S : Nat → Prop) (a : Option Addr) (n cap : Nat) (ps : List ByteArray) (m : Int) (w : World) (hm0 : 1 ≤ m) (hm : m + n ≤ 4194304) (hs : OSt S a n ps w) :
    Calls Tryd.prog 26 #[.slice a n cap, .int .i64 m] w fun e w' => e = .returned (.int .i64 (m + n)) ∧ True ∧ OutS S w w' := by
  obtain ⟨_, h2, N, rfl, hS, hh⟩ := hs
  exact (markStringS_calls S N n cap ps m w hm0 hm (by omega) hS hh).mono fun _ _ ⟨h3, h4⟩ => ⟨h3, trivial, h4⟩

end Go.Proofs.YtpgpoeljbppggaaDoor
