import Derived.Test.YtbbfhnmilfnicaaPlainL
import Derived.Deep.Slices
import Derived.Deep.Strs
import Derived.ChangeSame
import Derived.WalkKit
import Derived.ProofKit
import Derived.OpenShut
import Derived.ShutString
import Derived.ChangeOld
import Derived.Below
import Derived.WalkSpells
import Derived.Deep.QuietTactic
import Derived.BigQuiet
import Derived.Deep.RegionWith
import Derived.Deep.WholeRow
import Derived.Deep.DeepCutAuto
import Derived.Deep.RegionHeld2
import Derived.Deep.AppendLies
import Derived.Deep.RegionLaw
namespace Go.Proofs.Ytbbfhnmilfnicaa
open Go.ChangeShapes Go.WideShapes Go.ChangeAt Go.RowKit

theorem bool_cell {H : Type} {enc : TypeId × Value → H} {P : Program} {w : World} {e : TypeId} {v : Value} {x : DataW H × List MemPlace} {fuel base : Nat} {sp : Nat → Bool} {hd : Bool}
    (he : P.underlying e = some .bool) (h : DataW.trod enc P w base sp hd fuel e [v] = some x) : ∃ c, v = .bool c := by
  obtain ⟨b, h1, _⟩ := DataW.trod_bool he h
  exact ⟨b, by simpa using h1⟩

theorem int_cell1 {H : Type} {enc : TypeId × Value → H} {P : Program} {w : World} {e : TypeId} {v : Value} {x : DataW H × List MemPlace} {fuel base : Nat} {sp : Nat → Bool} {hd : Bool}
    (he : P.underlying e = some (.int .i64)) (h : DataW.trod enc P w base sp hd fuel e [v] = some x) : ∃ c, v = .int .i64 c := by
  cases fuel with
  | zero => simp [DataW.trod] at h
  | succ n =>
    cases v <;> simp [DataW.trod, he] at h
    exact ⟨_, by rw [h.1.1]⟩

/-- a slice of numbers among cells, opened. -/
theorem open_numS {H : Type} {enc : TypeId × Value → H} {P : Program} {w : World} {t e : TypeId} {v : Value} {x : DataW H × List MemPlace} {fuel : Nat}
    (hsl : P.underlying t = some (.slice e)) (he : P.underlying e = some (.int .i64)) (hce : P.cellsOf e = 1) (h : DataW.trod enc P w 0 (fun _ => true) true fuel t [v] = some x) :
    ∃ a len cap zs, v = .slice a len cap ∧ len ≤ maxLen ∧ Sl w a len zs := by
  rcases open_ints hsl he hce h with ⟨hcs, _⟩ | ⟨x, l, c', zs, hcs, _, hl, hm, hz, _, hcell, _⟩
  · simp at hcs
    subst hcs
    exact ⟨none, 0, 0, [], rfl, Nat.zero_le _, rfl, fun h => by omega⟩
  · simp at hcs
    subst hcs
    simp at hz
    refine ⟨some x, l, c', zs.take l, rfl, by omega, by simp; omega, fun hp => ?_⟩
    obtain ⟨b, off, spot⟩ := x
    have hc0 := hcell 0 (by omega)
    have hspot : spot = none := by simpa [Addr.add] using World.cell?_spot hc0
    subst hspot
    refine ⟨b, off, rfl, World.block_lt_of_cell? _ _ hc0, fun i hi => ?_⟩
    have hadd : (Addr.mk b off none).add i = ⟨b, off + i, none⟩ := by cases i <;> simp [Addr.add]
    have := hcell i (by omega)
    rw [hadd] at this
    rw [this]
    simp [gt, List.getD, hi]

theorem open_ctx {H : Type} {enc : TypeId × Value → H} {P : Program} {w : World} {t e : TypeId} {f0 f1 f2 : Field} {v : Value} {d : DataW H} {p : List MemPlace} {r : Reach} {b0 : Nat}
    (hs : P.underlying t = some (.struct #[f0, f1, f2])) (o0 : f0.offset = 0) (o1 : f1.offset = 1) (o2 : f2.offset = 2) (hC : P.cellsOf t = 3) (c0 : P.cellsOf f0.type = 1) (hsl : P.underlying f0.type = some (.slice e)) (he : P.underlying e = some (.int .i64)) (hb : P.underlying f2.type = some .bool) (hce : P.cellsOf e = 1) (hcb : P.cellsOf f2.type = 1) (h1 : f1.type = e)
    (hv : Value.okWide P w r b0 t v) (h : DataW.Trod enc P w 0 (fun _ => true) true t v d p) :
    ∃ a len cap q g zs, v = .agg #[.slice a len cap, .int .i64 q, .bool g] ∧ len ≤ maxLen ∧ Sl w a len zs := by
  obtain ⟨cs, rfl, hsz⟩ := okWide_struct hs hv
  obtain ⟨fuel, hf⟩ := h
  obtain ⟨y0, y1, y2, m0, _, _, hy0, hy1, hy2⟩ := Go.Deep.trod_struct3 hs hf
  obtain ⟨u0, u1, u2, rfl⟩ : ∃ u0 u1 u2, cs = #[u0, u1, u2] := by
    have h3 : cs.size = 3 := hsz.trans hC
    match cs, h3 with
    | ⟨[x, y, z]⟩, _ => exact ⟨x, y, z, rfl⟩
  rw [o0, c0] at hy0
  rw [o1, h1, hce] at hy1
  rw [o2, hcb] at hy2
  obtain ⟨q, rfl⟩ := int_cell1 he (by simpa [Value.cells] using hy1)
  obtain ⟨g, rfl⟩ := bool_cell hb (by simpa [Value.cells] using hy2)
  obtain ⟨a, n, c, zs, rfl, b1, b2⟩ := open_numS hsl he hce (by simpa [Value.cells] using hy0)
  exact ⟨a, n, c, q, g, zs, rfl, b1, b2⟩

theorem open_num {H : Type} {enc : TypeId × Value → H} {P : Program} {w : World} {t : TypeId} {v : Value} {d : DataW H} {p : List MemPlace} {r : Reach} {b0 : Nat} (ht : P.underlying t = some (.int .i64)) (hv : Value.okWide P w r b0 t v) (h : DataW.Trod enc P w 0 (fun _ => true) true t v d p) : ∃ x, v = .int .i64 x := by
  obtain ⟨n, rfl, _⟩ := open_int ht hv h
  exact ⟨n, rfl⟩

end Go.Proofs.Ytbbfhnmilfnicaa
