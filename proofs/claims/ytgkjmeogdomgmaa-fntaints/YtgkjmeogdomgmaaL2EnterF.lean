import Derived.Test.YtgkjmeogdomgmaaL2EnterS
import Derived.WalkKit
import Derived.ProofKit
import Derived.OpenShut
import Derived.ShutString
import Derived.ChangeOld
import Derived.Below
import Derived.WalkSpells
import Derived.Deep.QuietTactic
import Derived.BigQuiet
import Derived.Deep.RegionWith
import Derived.Deep.WholeRow
import Derived.Deep.DeepCutAuto
import Derived.Deep.RegionHeld2
import Derived.Deep.AppendLies
import Derived.Deep.RegionLaw
namespace Go.Proofs.Ytgkjmeogdomgmaa
open Go.ChangeShapes Go.WideShapes Go.ChangeAt Go.RowKit

/-- the registry's variable behind an entering (out of l2Enter_S). -/
def ER (q B T : Nat) (ss : List (Int × List Int)) (zs : List Int) (w : World) (e : Ending) (w' : World) : Prop :=
  e = .returned (.int .i64 (if etC ss zs = 0 then (enQ ss zs : Int) else -1)) ∧
    (etC ss zs = 0 → ∃ a' ca', w'.cell? ⟨q, 0, none⟩ = some (.slice a' (enS ss zs).length ca') ∧ OR (fun k => InR B T k ∨ InR w.heap.size w'.heap.size k) a' (enS ss zs).length (enS ss zs) w') ∧
    OutS (fun k => InR B T k ∨ k = q) w w' ∧ KQ q w w'

theorem l2Enter_O (q r B T : Nat) (a b : Option Addr) (n ca cb : Nat) (ss : List (Int × List Int)) (zs : List Int) (xs : List Value) (w : World) (hq : q < w.heap.size) (hTq : T ≤ q) (hrB : r < B) (hBT : B ≤ T) (hqc : w.cell? ⟨q, 0, none⟩ = some (.slice a n ca)) (hqf : w.frozen? ⟨q, 0, none⟩ = false) (hrc : w.cell? ⟨r, 0, none⟩ = some (.slice b 4 cb))
    (ho : OR (InR B T) a n ss w) (hown : w.ownsRow B 111 2 (.slice a n ca) n xs) (hvT : ∀ g, (Value.slice a n ca).ownBlock = some g → g < T) (good : Good ss) (hy : Sl w b 4 zs) (hz : fault zs = 0) :
    Calls Try.prog 73 #[.pointer (some ⟨q, 0, none⟩), .pointer (some ⟨r, 0, none⟩)] w (ER q B T ss zs w) := by
  refine (l2Enter_S q r B (InR B T) a b n ca cb ss zs xs w hq (fun e => by have := e.2; omega) (by omega) (fun e => by have := e.1; omega) (by omega) (fun k hk => ⟨hk.1, by have := hk.2; omega⟩) hqc hqf hrc ho hown (fun g hg => ⟨(hown.lt g hg).1, hvT g hg⟩) good hy hz).mono ?_
  rintro e w' ⟨h1, h2, _, h4, h5⟩
  exact ⟨h1, fun h => by obtain ⟨a', ca', x, y, _⟩ := h2 h; exact ⟨a', ca', x, y⟩, h4, h5⟩

end Go.Proofs.Ytgkjmeogdomgmaa
