import Derived.Test.YtpcdfeccmiiglaaOpenOb
import Derived.Test.YtpcdfeccmiiglaaAkP
import Derived.WalkKit
import Derived.ProofKit
import Derived.OpenShut
import Derived.ShutString
import Derived.ChangeOld
import Derived.Below
import Derived.WalkSpells
import Derived.Deep.QuietTactic
import Derived.BigQuiet
import Derived.Deep.RegionWith
import Derived.Deep.WholeRow
import Derived.Deep.DeepCutAuto
import Derived.Deep.RegionHeld2
import Derived.Deep.AppendLies
import Derived.Deep.RegionLaw
namespace Go.Proofs.Ytpcdfeccmiiglaa
open Go.ChangeShapes Go.WideShapes Go.ChangeAt Go.RowKit

set_option maxRecDepth 100000 in
theorem open_ask {H : Type} {enc : TypeId × Value → H} {w : World} {v : Value} {d : DataW H} {p : List MemPlace} {r : Reach} {b0 : Nat}
    (hv : Value.okWide Try.prog w r b0 44 v) (h : DataW.Trod enc Try.prog w 0 (fun _ => true) true 44 v d p) :
    ∃ (A : AkA) (D : AkD), v = .agg #[.int .i64 D.kd, .slice A.pa A.pn A.pc, .int .i64 D.wh, .slice A.la A.ln A.lc, .int .i64 D.qu, .int .i64 D.po, .int .i64 D.nn, .slice A.da A.dn A.dc] ∧ RK w A D := by
  have hI : Try.prog.cellsOf 2 = 1 := by kernel_rfl
  have hO : Try.prog.cellsOf 29 = 1 := by kernel_rfl
  have hLb : Try.prog.cellsOf 42 = 1 := by kernel_rfl
  obtain ⟨cs, rfl, hsz⟩ := okWide_struct Try.underlying44 hv
  obtain ⟨fuel, hf⟩ := h
  obtain ⟨xs, k, _, _, _, hxl, hfl⟩ := DataW.trod_struct Try.underlying44 hf
  have h8 : cs.size = 8 := hsz.trans (by kernel_rfl)
  match cs, h8, xs, hxl with
  | ⟨[u0, u1, u2, u3, u4, u5, u6, u7]⟩, _, [y0, y1, y2, y3, y4, y5, y6, y7], _ =>
    have f0 := hfl 0 _ rfl
    have f1 := hfl 1 _ rfl
    have f2 := hfl 2 _ rfl
    have f3 := hfl 3 _ rfl
    have f4 := hfl 4 _ rfl
    have f5 := hfl 5 _ rfl
    have f6 := hfl 6 _ rfl
    have f7 := hfl 7 _ rfl
    simp [Value.cells, hI, hO, hLb] at f0 f1 f2 f3 f4 f5 f6 f7
    obtain ⟨kd, rfl⟩ := int_cell Try.underlying2 f0
    obtain ⟨pa, pn, pc, ps, rfl, b1, b2⟩ := ints_cell Try.underlying29 Try.underlying2 hI f1
    obtain ⟨wh, rfl⟩ := int_cell Try.underlying2 f2
    obtain ⟨la, ln, lc, ls, rfl, b3, b4⟩ := lab_cell Try.underlying42 rfl hO Try.underlying29 Try.underlying2 hI f3
    obtain ⟨qu, rfl⟩ := int_cell Try.underlying2 f4
    obtain ⟨po, rfl⟩ := int_cell Try.underlying2 f5
    obtain ⟨nn, rfl⟩ := int_cell Try.underlying2 f6
    obtain ⟨da, dn, dc, ds, rfl, b5, b6⟩ := ints_cell Try.underlying29 Try.underlying2 hI f7
    exact ⟨⟨pa, pn, pc, la, ln, lc, da, dn, dc⟩, ⟨kd, ps, wh, ls, qu, po, nn, ds⟩, rfl, b1, b2, b3, b4, b5, b6⟩

end Go.Proofs.Ytpcdfeccmiiglaa
