import Derived.Test.YtkpcomfmfpnbiaaDoorPlainI
import Derived.Deep.Slices
import Derived.Deep.Strs
import Derived.ChangeSame
import Derived.WalkKit
import Derived.ProofKit
import Derived.OpenShut
import Derived.ShutString
import Derived.ChangeOld
import Derived.Below
import Derived.WalkSpells
import Derived.Deep.QuietTactic
import Derived.BigQuiet
import Derived.Deep.RegionWith
import Derived.Deep.WholeRow
import Derived.Deep.DeepCutAuto
import Derived.Deep.RegionHeld2
import Derived.Deep.AppendLies
import Derived.Deep.RegionLaw
namespace Go.Proofs.YtkpcomfmfpnbiaaDoor
open Go.ChangeShapes Go.WideShapes Go.ChangeAt Go.RowKit

theorem int_cell {H : Type} {enc : TypeId × Value → H} {P : Program} {w : World} {e : TypeId} {v : Value} {x : DataW H × List MemPlace} {fuel base : Nat} {sp : Nat → Bool} {hd : Bool}
    (he : P.underlying e = some (.int .i64)) (h : DataW.trod enc P w base sp hd fuel e [v] = some x) : ∃ c, v = .int .i64 c := by
  cases fuel with
  | zero => simp [DataW.trod] at h
  | succ n =>
    cases v <;> simp [DataW.trod, he] at h
    exact ⟨_, by rw [h.1.1]⟩

theorem open_inst {H : Type} {enc : TypeId × Value → H} {P : Program} {w : World} {e ti : TypeId} {g0 g1 g2 g3 : Field} {v : Value} {d : DataW H} {p : List MemPlace} {r : Reach} {b0 : Nat}
    (he : P.underlying e = some (.struct #[g0, g1, g2, g3])) (ce : P.cellsOf e = 4) (o0 : g0.offset = 0) (o1 : g1.offset = 1) (o2 : g2.offset = 2) (o3 : g3.offset = 3) (t0 : g0.type = ti) (t1 : g1.type = ti) (t2 : g2.type = ti) (t3 : g3.type = ti) (hi : P.underlying ti = some (.int .i64)) (ci : P.cellsOf ti = 1)
    (hv : Value.okWide P w r b0 e v) (h : DataW.Trod enc P w 0 (fun _ => true) true e v d p) : ∃ x y z u : Int, v = .agg #[.int .i64 x, .int .i64 y, .int .i64 z, .int .i64 u] := by
  obtain ⟨cs, rfl, hsz⟩ := okWide_struct he hv
  obtain ⟨fuel, hf⟩ := h
  obtain ⟨xs, k, _, _, _, hxl, hff⟩ := DataW.trod_struct he hf
  obtain ⟨u0, u1, u2, u3, rfl⟩ : ∃ u0 u1 u2 u3, cs = #[u0, u1, u2, u3] := by
    have h3 : cs.size = 4 := hsz.trans ce
    match cs, h3 with
    | ⟨[x, y, z, u]⟩, _ => exact ⟨x, y, z, u, rfl⟩
  match xs, hxl with
  | [y0, y1, y2, y3], _ =>
    have f0 := hff 0 g0 rfl
    have f1 := hff 1 g1 rfl
    have f2 := hff 2 g2 rfl
    have f3 := hff 3 g3 rfl
    simp [o0, o1, o2, o3, t0, t1, t2, t3, ci, Value.cells] at f0 f1 f2 f3
    obtain ⟨c0, rfl⟩ := int_cell hi f0
    obtain ⟨c1, rfl⟩ := int_cell hi f1
    obtain ⟨c2, rfl⟩ := int_cell hi f2
    obtain ⟨c3, rfl⟩ := int_cell hi f3
    exact ⟨c0, c1, c2, c3, rfl⟩

theorem open_num {H : Type} {enc : TypeId × Value → H} {P : Program} {w : World} {t : TypeId} {v : Value} {d : DataW H} {p : List MemPlace} {r : Reach} {b0 : Nat} (ht : P.underlying t = some (.int .i64)) (hv : Value.okWide P w r b0 t v) (h : DataW.Trod enc P w 0 (fun _ => true) true t v d p) : ∃ x, v = .int .i64 x := by
  obtain ⟨n, rfl, _⟩ := open_int ht hv h
  exact ⟨n, rfl⟩

end Go.Proofs.YtkpcomfmfpnbiaaDoor
