import Derived.Test.YtcojgmecocjnkaaLn
import Derived.Deep.Slices
import Derived.Deep.Strs
import Derived.ChangeSame
import Derived.WalkKit
import Derived.ProofKit
import Derived.OpenShut
import Derived.ShutString
import Derived.ChangeOld
import Derived.Below
import Derived.WalkSpells
import Derived.Deep.QuietTactic
import Derived.BigQuiet
import Derived.Deep.RegionWith
import Derived.Deep.WholeRow
import Derived.Deep.DeepCutAuto
import Derived.Deep.RegionHeld2
import Derived.Deep.AppendLies
import Derived.Deep.RegionLaw
namespace Go.Proofs.Ytcojgmecocjnkaa
open Go.ChangeShapes Go.WideShapes Go.ChangeAt Go.RowKit

theorem int_cell {H : Type} {enc : TypeId × Value → H} {P : Program} {w : World} {e : TypeId} {v : Value} {x : DataW H × List MemPlace} {fuel base : Nat} {sp : Nat → Bool} {hd : Bool}
    (he : P.underlying e = some (.int .i64)) (h : DataW.trod enc P w base sp hd fuel e [v] = some x) : ∃ c, v = .int .i64 c := by
  cases fuel with
  | zero => simp [DataW.trod] at h
  | succ n =>
    cases v <;> simp [DataW.trod, he] at h
    exact ⟨_, by rw [h.1.1]⟩

theorem open_lines {H : Type} {enc : TypeId × Value → H} {P : Program} {w : World} {t e ti : TypeId} {g0 g1 g2 : Field} {v : Value} {x : DataW H × List MemPlace} {fuel : Nat}
    (hsl : P.underlying t = some (.slice e)) (he : P.underlying e = some (.struct #[g0, g1, g2])) (ce : P.cellsOf e = 3) (o0 : g0.offset = 0) (o1 : g1.offset = 1) (o2 : g2.offset = 2) (t0 : g0.type = ti) (t1 : g1.type = ti) (t2 : g2.type = ti) (hi : P.underlying ti = some (.int .i64)) (ci : P.cellsOf ti = 1)
    (h : DataW.trod enc P w 0 (fun _ => true) true fuel t [v] = some x) : ∃ a n cap ls, v = .slice a n cap ∧ n ≤ maxLen ∧ Sln w a n ls := by
  rcases Go.Deep.open_slice hsl h with ⟨h0, _⟩ | ⟨a, len, cap, m, n, D, Pl, hv, _, hl, hm, hmm, _, hx⟩
  · simp at h0
    exact ⟨none, 0, 0, [], h0, by unfold maxLen; omega, rfl, fun h => by omega⟩
  · simp at hv hmm
    subst hv
    have each : ∀ i, i < len → ∃ q : Int × Int × Int, w.cell? (a.add (i * 3)) = some (.int .i64 q.1) ∧ w.cell? (a.add (i * 3 + 1)) = some (.int .i64 q.2.1) ∧ w.cell? (a.add (i * 3 + 2)) = some (.int .i64 q.2.2) := by
      intro i hi'
      obtain ⟨cs', h1, h2⟩ := hx i (by omega)
      rw [ce] at h1
      obtain ⟨_, hlen, hcell⟩ := World.cells?_some h1
      obtain ⟨xs, k, _, _, _, hxl, hf⟩ := DataW.trod_struct he h2
      match xs, hxl, cs', hlen with
      | [y0, y1, y2], _, [v0, v1, v2], _ =>
        have f0 := hf 0 g0 rfl
        have f1 := hf 1 g1 rfl
        have f2 := hf 2 g2 rfl
        simp [o0, o1, o2, t0, t1, t2, ci] at f0 f1 f2
        obtain ⟨c0, rfl⟩ := int_cell hi f0
        obtain ⟨c1, rfl⟩ := int_cell hi f1
        obtain ⟨c2, rfl⟩ := int_cell hi f2
        have e0 := hcell 0 (by omega)
        have e1 := hcell 1 (by omega)
        have e2 := hcell 2 (by omega)
        rw [Go.Deep.add_add] at e0 e1 e2
        exact ⟨(c0, c1, c2), by simpa using e0, by simpa using e1, by simpa using e2⟩
    obtain ⟨q, hq⟩ := Go.Deep.choose_lt each
    refine ⟨some a, len, cap, (List.range len).map q, rfl, by omega, by simp, fun hp => ?_⟩
    obtain ⟨b, off, spot⟩ := a
    have hc0 := (hq 0 (by omega)).1
    have hspot : spot = none := by simpa [Addr.add] using World.cell?_spot hc0
    subst hspot
    have hadd : ∀ i, (Addr.mk b off none).add i = ⟨b, off + i, none⟩ := fun i => by cases i <;> simp [Addr.add]
    refine ⟨b, off, rfl, World.block_lt_of_cell? _ _ hc0, fun i hi' => ?_⟩
    obtain ⟨e0, e1, e2⟩ := gt_fl3 ((List.range len).map q) (i / 3)
    obtain ⟨r0, r1, r2⟩ := hq (i / 3) (by omega)
    rw [hadd] at r0 r1 r2
    have hg : g3 ((List.range len).map q) (i / 3) = q (i / 3) := by simp [g3, show i / 3 < len by omega]
    rw [hg] at e0 e1 e2
    rcases (show i = i / 3 * 3 ∨ i = i / 3 * 3 + 1 ∨ i = i / 3 * 3 + 2 by omega) with e | e | e
    · rw [← e] at e0 r0; rw [e0]; exact r0
    · rw [← e] at e1 r1; rw [e1]; exact r1
    · rw [← e] at e2 r2; rw [e2]; exact r2

theorem open_cache {H : Type} {enc : TypeId × Value → H} {P : Program} {w : World} {t e ti : TypeId} {f0 f1 g0 g1 g2 : Field} {v : Value} {d : DataW H} {p : List MemPlace} {r : Reach} {b0 : Nat}
    (hs : P.underlying t = some (.struct #[f0, f1])) (a0 : f0.offset = 0) (a1 : f1.offset = 1) (z0 : f0.type = ti) (z1 : P.cellsOf f1.type = 1) (hC : P.cellsOf t = 2) (hsl : P.underlying f1.type = some (.slice e))
    (he : P.underlying e = some (.struct #[g0, g1, g2])) (ce : P.cellsOf e = 3) (o0 : g0.offset = 0) (o1 : g1.offset = 1) (o2 : g2.offset = 2) (t0 : g0.type = ti) (t1 : g1.type = ti) (t2 : g2.type = ti) (hi : P.underlying ti = some (.int .i64)) (ci : P.cellsOf ti = 1)
    (hv : Value.okWide P w r b0 t v) (h : DataW.Trod enc P w 0 (fun _ => true) true t v d p) :
    ∃ s a n c ls, v = .agg #[.int .i64 s, .slice a n c] ∧ n ≤ maxLen ∧ Sln w a n ls := by
  obtain ⟨cs, rfl, hsz⟩ := okWide_struct hs hv
  obtain ⟨fuel, hf⟩ := h
  obtain ⟨y0, y1, m0, _, _, hy0, hy1⟩ := trod_struct2 hs hf
  obtain ⟨u0, u1, rfl⟩ : ∃ u0 u1, cs = #[u0, u1] := by
    have h2 : cs.size = 2 := hsz.trans hC
    match cs, h2 with
    | ⟨[x, y]⟩, _ => exact ⟨x, y, rfl⟩
  rw [a0, z0, ci] at hy0
  rw [a1, z1] at hy1
  obtain ⟨s, rfl⟩ := int_cell hi (by simpa [Value.cells] using hy0)
  obtain ⟨a, n, c, ls, rfl, b1, b2⟩ := open_lines hsl he ce o0 o1 o2 t0 t1 t2 hi ci (by simpa [Value.cells] using hy1)
  exact ⟨s, a, n, c, ls, rfl, b1, b2⟩

theorem open_line {H : Type} {enc : TypeId × Value → H} {P : Program} {w : World} {e ti : TypeId} {g0 g1 g2 : Field} {v : Value} {d : DataW H} {p : List MemPlace} {r : Reach} {b0 : Nat}
    (he : P.underlying e = some (.struct #[g0, g1, g2])) (ce : P.cellsOf e = 3) (o0 : g0.offset = 0) (o1 : g1.offset = 1) (o2 : g2.offset = 2) (t0 : g0.type = ti) (t1 : g1.type = ti) (t2 : g2.type = ti) (hi : P.underlying ti = some (.int .i64)) (ci : P.cellsOf ti = 1)
    (hv : Value.okWide P w r b0 e v) (h : DataW.Trod enc P w 0 (fun _ => true) true e v d p) : ∃ x y z : Int, v = .agg #[.int .i64 x, .int .i64 y, .int .i64 z] := by
  obtain ⟨cs, rfl, hsz⟩ := okWide_struct he hv
  obtain ⟨fuel, hf⟩ := h
  obtain ⟨y0, y1, y2, m0, _, _, hy0, hy1, hy2⟩ := Go.Deep.trod_struct3 he hf
  obtain ⟨u0, u1, u2, rfl⟩ : ∃ u0 u1 u2, cs = #[u0, u1, u2] := by
    have h3 : cs.size = 3 := hsz.trans ce
    match cs, h3 with
    | ⟨[x, y, z]⟩, _ => exact ⟨x, y, z, rfl⟩
  rw [o0, t0, ci] at hy0
  rw [o1, t1, ci] at hy1
  rw [o2, t2, ci] at hy2
  obtain ⟨c0, rfl⟩ := int_cell hi (by simpa [Value.cells] using hy0)
  obtain ⟨c1, rfl⟩ := int_cell hi (by simpa [Value.cells] using hy1)
  obtain ⟨c2, rfl⟩ := int_cell hi (by simpa [Value.cells] using hy2)
  exact ⟨c0, c1, c2, rfl⟩

theorem open_num {H : Type} {enc : TypeId × Value → H} {P : Program} {w : World} {t : TypeId} {v : Value} {d : DataW H} {p : List MemPlace} {r : Reach} {b0 : Nat} (ht : P.underlying t = some (.int .i64)) (hv : Value.okWide P w r b0 t v) (h : DataW.Trod enc P w 0 (fun _ => true) true t v d p) : ∃ x, v = .int .i64 x := by
  obtain ⟨n, rfl, _⟩ := open_int ht hv h
  exact ⟨n, rfl⟩

end Go.Proofs.Ytcojgmecocjnkaa
