import Derived.Test.YtdcfdmcooonfkabPaP
import Derived.Test.YtdcfdmcooonfkabRows
import Derived.Deep.Slices
import Derived.Deep.SlicePairs
import Derived.Deep.Strs
import Derived.ChangeSame
import Derived.WalkKit
import Derived.ProofKit
import Derived.OpenShut
import Derived.ShutString
import Derived.ChangeOld
import Derived.Below
import Derived.WalkSpells
import Derived.Deep.QuietTactic
import Derived.BigQuiet
import Derived.Deep.RegionWith
import Derived.Deep.WholeRow
import Derived.Deep.DeepCutAuto
import Derived.Deep.RegionHeld2
import Derived.Deep.AppendLies
import Derived.Deep.RegionLaw
namespace Go.Proofs.Ytdcfdmcooonfkab
open Go.ChangeShapes Go.WideShapes Go.ChangeAt Go.RowKit

theorem lab_cell {H : Type} {enc : TypeId × Value → H} {P : Program} {w : World} {t e : TypeId} {f0 : Field} {v : Value} {x : DataW H × List MemPlace} {fuel : Nat}
    (hs : P.underlying t = some (.struct #[f0])) (h0 : f0.offset = 0) (h1 : P.cellsOf f0.type = 1) (hsl : P.underlying f0.type = some (.slice e)) (he : P.underlying e = some (.int .i64)) (hce : P.cellsOf e = 1)
    (h : DataW.trod enc P w 0 (fun _ => true) true fuel t [v] = some x) : ∃ a len cap zs, v = .slice a len cap ∧ len ≤ maxLen ∧ Sl w a len zs := by
  obtain ⟨y0, n, _, _, hy⟩ := trod_struct1 hs h
  rw [h0, h1] at hy
  rcases open_ints hsl he hce hy with ⟨hcs, _⟩ | ⟨x, l, c', zs, hcs, _, hl, hm, hz, _, hcell, _⟩
  · simp at hcs
    subst hcs
    exact ⟨none, 0, 0, [], rfl, Nat.zero_le _, rfl, fun h => by omega⟩
  · simp at hcs
    subst hcs
    simp at hz
    refine ⟨some x, l, c', zs.take l, rfl, by omega, by simp; omega, fun hp => ?_⟩
    obtain ⟨b, off, spot⟩ := x
    have hc0 := hcell 0 (by omega)
    have hspot : spot = none := by simpa [Addr.add] using World.cell?_spot hc0
    subst hspot
    refine ⟨b, off, rfl, World.block_lt_of_cell? _ _ hc0, fun i hi => ?_⟩
    have hadd : (Addr.mk b off none).add i = ⟨b, off + i, none⟩ := by cases i <;> simp [Addr.add]
    have := hcell i (by omega)
    rw [hadd] at this
    rw [this]
    simp [gt, List.getD, hi]

theorem int_cell {H : Type} {enc : TypeId × Value → H} {P : Program} {w : World} {e : TypeId} {v : Value} {x : DataW H × List MemPlace} {fuel base : Nat} {sp : Nat → Bool} {hd : Bool}
    (he : P.underlying e = some (.int .i64)) (h : DataW.trod enc P w base sp hd fuel e [v] = some x) : ∃ c, v = .int .i64 c := by
  cases fuel with
  | zero => simp [DataW.trod] at h
  | succ n =>
    cases v <;> simp [DataW.trod, he] at h
    exact ⟨_, by rw [h.1.1]⟩

theorem ints_cell {H : Type} {enc : TypeId × Value → H} {P : Program} {w : World} {t e : TypeId} {v : Value} {x : DataW H × List MemPlace} {fuel : Nat} (hsl : P.underlying t = some (.slice e)) (he : P.underlying e = some (.int .i64)) (hce : P.cellsOf e = 1)
    (h : DataW.trod enc P w 0 (fun _ => true) true fuel t [v] = some x) : ∃ a len cap zs, v = .slice a len cap ∧ len ≤ maxLen ∧ Sl w a len zs := by
  rcases open_ints hsl he hce h with ⟨hcs, _⟩ | ⟨x, l, c', zs, hcs, _, hl, hm, hz, _, hcell, _⟩
  · simp at hcs
    subst hcs
    exact ⟨none, 0, 0, [], rfl, Nat.zero_le _, rfl, fun h => by omega⟩
  · simp at hcs
    subst hcs
    simp at hz
    refine ⟨some x, l, c', zs.take l, rfl, by omega, by simp; omega, fun hp => ?_⟩
    obtain ⟨b, off, spot⟩ := x
    have hc0 := hcell 0 (by omega)
    have hspot : spot = none := by simpa [Addr.add] using World.cell?_spot hc0
    subst hspot
    refine ⟨b, off, rfl, World.block_lt_of_cell? _ _ hc0, fun i hi => ?_⟩
    have hadd : (Addr.mk b off none).add i = ⟨b, off + i, none⟩ := by cases i <;> simp [Addr.add]
    have := hcell i (by omega)
    rw [hadd] at this
    rw [this]
    simp [gt, List.getD, hi]

theorem open_num {H : Type} {enc : TypeId × Value → H} {P : Program} {w : World} {t : TypeId} {v : Value} {d : DataW H} {p : List MemPlace} {r : Reach} {b0 : Nat} (ht : P.underlying t = some (.int .i64)) (hv : Value.okWide P w r b0 t v) (h : DataW.Trod enc P w 0 (fun _ => true) true t v d p) : ∃ x, v = .int .i64 x := by
  obtain ⟨n, rfl, _⟩ := open_int ht hv h
  exact ⟨n, rfl⟩



end Go.Proofs.Ytdcfdmcooonfkab
