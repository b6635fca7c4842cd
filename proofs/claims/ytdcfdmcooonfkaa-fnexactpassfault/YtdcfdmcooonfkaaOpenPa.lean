import Derived.Test.YtdcfdmcooonfkaaPaP
import Derived.Test.YtdcfdmcooonfkaaRows
import Derived.Deep.Slices
import Derived.Deep.SlicePairs
import Derived.Deep.Strs
import Derived.ChangeSame
import Derived.WalkKit
import Derived.ProofKit
import Derived.OpenShut
import Derived.ShutString
import Derived.ChangeOld
import Derived.Below
import Derived.WalkSpells
import Derived.Deep.QuietTactic
import Derived.BigQuiet
import Derived.Deep.RegionWith
import Derived.Deep.WholeRow
import Derived.Deep.DeepCutAuto
import Derived.Deep.RegionHeld2
import Derived.Deep.AppendLies
import Derived.Deep.RegionLaw
namespace Go.Proofs.Ytdcfdmcooonfkaa
open Go.ChangeShapes Go.WideShapes Go.ChangeAt Go.RowKit

theorem lab_cell {H : Type} {enc : TypeId × Value → H} {P : Program} {w : World} {t e : TypeId} {f0 : Field} {v : Value} {x : DataW H × List MemPlace} {fuel : Nat}
    (hs : P.underlying t = some (.struct #[f0])) (h0 : f0.offset = 0) (h1 : P.cellsOf f0.type = 1) (hsl : P.underlying f0.type = some (.slice e)) (he : P.underlying e = some (.int .i64)) (hce : P.cellsOf e = 1)
    (h : DataW.trod enc P w 0 (fun _ => true) true fuel t [v] = some x) : ∃ a len cap zs, v = .slice a len cap ∧ len ≤ maxLen ∧ Sl w a len zs := by
  obtain ⟨y0, n, _, _, hy⟩ := trod_struct1 hs h
  rw [h0, h1] at hy
  rcases open_ints hsl he hce hy with ⟨hcs, _⟩ | ⟨x, l, c', zs, hcs, _, hl, hm, hz, _, hcell, _⟩
  · simp at hcs
    subst hcs
    exact ⟨none, 0, 0, [], rfl, Nat.zero_le _, rfl, fun h => by omega⟩
  · simp at hcs
    subst hcs
    simp at hz
    refine ⟨some x, l, c', zs.take l, rfl, by omega, by simp; omega, fun hp => ?_⟩
    obtain ⟨b, off, spot⟩ := x
    have hc0 := hcell 0 (by omega)
    have hspot : spot = none := by simpa [Addr.add] using World.cell?_spot hc0
    subst hspot
    refine ⟨b, off, rfl, World.block_lt_of_cell? _ _ hc0, fun i hi => ?_⟩
    have hadd : (Addr.mk b off none).add i = ⟨b, off + i, none⟩ := by cases i <;> simp [Addr.add]
    have := hcell i (by omega)
    rw [hadd] at this
    rw [this]
    simp [gt, List.getD, hi]

theorem int_cell {H : Type} {enc : TypeId × Value → H} {P : Program} {w : World} {e : TypeId} {v : Value} {x : DataW H × List MemPlace} {fuel base : Nat} {sp : Nat → Bool} {hd : Bool}
    (he : P.underlying e = some (.int .i64)) (h : DataW.trod enc P w base sp hd fuel e [v] = some x) : ∃ c, v = .int .i64 c := by
  cases fuel with
  | zero => simp [DataW.trod] at h
  | succ n =>
    cases v <;> simp [DataW.trod, he] at h
    exact ⟨_, by rw [h.1.1]⟩

theorem ints_cell {H : Type} {enc : TypeId × Value → H} {P : Program} {w : World} {t e : TypeId} {v : Value} {x : DataW H × List MemPlace} {fuel : Nat} (hsl : P.underlying t = some (.slice e)) (he : P.underlying e = some (.int .i64)) (hce : P.cellsOf e = 1)
    (h : DataW.trod enc P w 0 (fun _ => true) true fuel t [v] = some x) : ∃ a len cap zs, v = .slice a len cap ∧ len ≤ maxLen ∧ Sl w a len zs := by
  rcases open_ints hsl he hce h with ⟨hcs, _⟩ | ⟨x, l, c', zs, hcs, _, hl, hm, hz, _, hcell, _⟩
  · simp at hcs
    subst hcs
    exact ⟨none, 0, 0, [], rfl, Nat.zero_le _, rfl, fun h => by omega⟩
  · simp at hcs
    subst hcs
    simp at hz
    refine ⟨some x, l, c', zs.take l, rfl, by omega, by simp; omega, fun hp => ?_⟩
    obtain ⟨b, off, spot⟩ := x
    have hc0 := hcell 0 (by omega)
    have hspot : spot = none := by simpa [Addr.add] using World.cell?_spot hc0
    subst hspot
    refine ⟨b, off, rfl, World.block_lt_of_cell? _ _ hc0, fun i hi => ?_⟩
    have hadd : (Addr.mk b off none).add i = ⟨b, off + i, none⟩ := by cases i <;> simp [Addr.add]
    have := hcell i (by omega)
    rw [hadd] at this
    rw [this]
    simp [gt, List.getD, hi]

theorem open_num {H : Type} {enc : TypeId × Value → H} {P : Program} {w : World} {t : TypeId} {v : Value} {d : DataW H} {p : List MemPlace} {r : Reach} {b0 : Nat} (ht : P.underlying t = some (.int .i64)) (hv : Value.okWide P w r b0 t v) (h : DataW.Trod enc P w 0 (fun _ => true) true t v d p) : ∃ x, v = .int .i64 x := by
  obtain ⟨n, rfl, _⟩ := open_int ht hv h
  exact ⟨n, rfl⟩

set_option maxRecDepth 100000 in
theorem open_pass {H : Type} {enc : TypeId × Value → H} {w : World} {v : Value} {d : DataW H} {p : List MemPlace} {r : Reach} {b0 : Nat}
    (hv : Value.okWide Try.prog w r b0 52 v) (h : DataW.Trod enc Try.prog w 0 (fun _ => true) true 52 v d p) :
    ∃ (a : Option Addr) (l c : Nat) (z : List Int) (b : Option Addr) (m k : Nat) (y : List Int), v = .agg #[.slice a l c, .slice b m k] ∧ PR w a l z b m y := by
  have hI : Try.prog.cellsOf 2 = 1 := by kernel_rfl
  have hO : Try.prog.cellsOf 24 = 1 := by kernel_rfl
  have hLb : Try.prog.cellsOf 50 = 1 := by kernel_rfl
  obtain ⟨cs, rfl, hsz⟩ := okWide_struct Try.underlying52 hv
  obtain ⟨fuel, hf⟩ := h
  obtain ⟨xs, k, _, _, _, hxl, hfl⟩ := DataW.trod_struct Try.underlying52 hf
  have h2 : cs.size = 2 := hsz.trans (by kernel_rfl)
  match cs, h2, xs, hxl with
  | ⟨[u0, u1]⟩, _, [y0, y1], _ =>
    have f0 := hfl 0 _ rfl
    have f1 := hfl 1 _ rfl
    simp [Value.cells, hLb] at f0 f1
    obtain ⟨a, n, c, z, rfl, b1, b2⟩ := lab_cell Try.underlying50 rfl hO Try.underlying24 Try.underlying2 hI f0
    obtain ⟨b, m, j, y, rfl, b3, b4⟩ := lab_cell Try.underlying50 rfl hO Try.underlying24 Try.underlying2 hI f1
    exact ⟨a, n, c, z, b, m, j, y, rfl, b1, b2, b3, b4⟩

end Go.Proofs.Ytdcfdmcooonfkaa
