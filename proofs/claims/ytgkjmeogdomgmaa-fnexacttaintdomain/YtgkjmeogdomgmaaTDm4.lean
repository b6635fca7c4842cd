import Derived.Test.YtgkjmeogdomgmaaReg
import Derived.Test.YtgkjmeogdomgmaaOpenTab
import Derived.Deep.SlicePairs
import Derived.Deep.Strs
import Derived.WalkKit
import Derived.ProofKit
import Derived.OpenShut
import Derived.ShutString
import Derived.ChangeOld
import Derived.Below
import Derived.WalkSpells
import Derived.Deep.QuietTactic
import Derived.BigQuiet
import Derived.Deep.RegionWith
import Derived.Deep.WholeRow
import Derived.Deep.DeepCutAuto
import Derived.Deep.RegionHeld2
import Derived.Deep.AppendLies
import Derived.Deep.RegionLaw
namespace Go.Proofs.Ytgkjmeogdomgmaa
open Go.ChangeShapes Go.WideShapes Go.ChangeAt Go.RowKit

theorem lab_cell {H : Type} {enc : TypeId × Value → H} {P : Program} {w : World} {t e : TypeId} {f0 : Field} {v : Value} {x : DataW H × List MemPlace} {fuel : Nat}
    (hs : P.underlying t = some (.struct #[f0])) (h0 : f0.offset = 0) (h1 : P.cellsOf f0.type = 1) (hsl : P.underlying f0.type = some (.slice e)) (he : P.underlying e = some (.int .i64)) (hce : P.cellsOf e = 1)
    (h : DataW.trod enc P w 0 (fun _ => true) true fuel t [v] = some x) : ∃ a len cap zs, v = .slice a len cap ∧ len ≤ maxLen ∧ Sl w a len zs := by
  obtain ⟨y0, n, _, _, hy⟩ := trod_struct1 hs h
  rw [h0, h1] at hy
  rcases open_ints hsl he hce hy with ⟨hcs, _⟩ | ⟨x, l, c', zs, hcs, _, hl, hm, hz, _, hcell, _⟩
  · simp at hcs
    subst hcs
    exact ⟨none, 0, 0, [], rfl, Nat.zero_le _, rfl, fun h => by omega⟩
  · simp at hcs
    subst hcs
    simp at hz
    refine ⟨some x, l, c', zs.take l, rfl, by omega, by simp; omega, fun hp => ?_⟩
    obtain ⟨b, off, spot⟩ := x
    have hc0 := hcell 0 (by omega)
    have hspot : spot = none := by simpa [Addr.add] using World.cell?_spot hc0
    subst hspot
    refine ⟨b, off, rfl, World.block_lt_of_cell? _ _ hc0, fun i hi => ?_⟩
    have hadd : (Addr.mk b off none).add i = ⟨b, off + i, none⟩ := by cases i <;> simp [Addr.add]
    have := hcell i (by omega)
    rw [hadd] at this
    rw [this]
    simp [gt, List.getD, hi]

theorem int_cell {H : Type} {enc : TypeId × Value → H} {P : Program} {w : World} {e : TypeId} {v : Value} {x : DataW H × List MemPlace} {fuel base : Nat} {sp : Nat → Bool} {hd : Bool}
    (he : P.underlying e = some (.int .i64)) (h : DataW.trod enc P w base sp hd fuel e [v] = some x) : ∃ c, v = .int .i64 c := by
  cases fuel with
  | zero => simp [DataW.trod] at h
  | succ n =>
    cases v <;> simp [DataW.trod, he] at h
    exact ⟨_, by rw [h.1.1]⟩

theorem open_reg {H : Type} {enc : TypeId × Value → H} {P : Program} {w : World} {t e te : TypeId} {f0 g0 g1 k0 : Field} {v : Value} {d : DataW H} {p : List MemPlace} {r : Reach} {b0 : Nat}
    (hs : P.underlying t = some (.struct #[f0])) (h0 : f0.offset = 0) (h1 : P.cellsOf f0.type = 1) (hC : P.cellsOf t = 1) (hsl : P.underlying f0.type = some (.slice e))
    (he : P.underlying e = some (.struct #[g0, g1])) (ce : P.cellsOf e = 2) (o0 : g0.offset = 0) (o1 : g1.offset = 1) (c0 : P.cellsOf g0.type = 1) (c1 : P.cellsOf g1.type = 1)
    (hi : P.underlying g0.type = some (.int .i64)) (hl : P.underlying g1.type = some (.struct #[k0])) (l0 : k0.offset = 0) (l1 : P.cellsOf k0.type = 1) (hk : P.underlying k0.type = some (.slice te)) (ht : P.underlying te = some (.int .i64)) (hct : P.cellsOf te = 1)
    (hv : Value.okWide P w r b0 t v) (h : DataW.Trod enc P w 0 (fun _ => true) true t v d p) :
    ∃ a n cap ss, v = .agg #[.slice a n cap] ∧ n ≤ maxLen ∧ Sls w a n ss := by
  obtain ⟨cs, rfl, hsz⟩ := okWide_struct hs hv
  obtain ⟨fuel, hf⟩ := h
  obtain ⟨y0, m0, _, _, hy⟩ := trod_struct1 hs hf
  obtain ⟨c, rfl⟩ : ∃ c, cs = #[c] := by
    have : cs.size = 1 := hsz.trans hC
    exact Array.size_eq_one_iff.1 this
  rw [h0, h1] at hy
  rcases Go.Deep.open_slice_pairs hsl he ce o0 o1 c0 c1 hy with ⟨hcs, _⟩ | ⟨x, n, cap, m, k, V0, V1, D0, D1, P0, P1, hcs, _, hl', hm, hmm, _, hcell⟩
  · simp [Value.cells] at hcs
    subst hcs
    exact ⟨none, 0, 0, [], rfl, Nat.zero_le _, rfl, fun h => by omega⟩
  · simp [Value.cells] at hcs
    subst hcs
    simp at hmm
    have each : ∀ i, i < n → ∃ q : Int × List Int × Option Addr × Nat × Nat, V0 i = .int .i64 q.1 ∧ V1 i = .slice q.2.2.1 q.2.2.2.1 q.2.2.2.2 ∧ q.2.2.2.1 ≤ maxLen ∧ Sl w q.2.2.1 q.2.2.2.1 q.2.1 := by
      intro i hi'
      obtain ⟨_, _, t0, t1⟩ := hcell i (by omega)
      obtain ⟨c, hc⟩ := int_cell hi t0
      obtain ⟨la, ll, lc, zs, e1, e2, e3⟩ := lab_cell hl l0 l1 hk ht hct t1
      exact ⟨(c, zs, la, ll, lc), hc, e1, e2, e3⟩
    obtain ⟨q, hq⟩ := Go.Deep.choose_lt each
    refine ⟨some x, n, cap, (List.range n).map (fun i => ((q i).1, (q i).2.1)), rfl, by omega, by simp, fun hp => ?_⟩
    obtain ⟨b, off, spot⟩ := x
    have hc0 := (hcell 0 (by omega)).1
    have hspot : spot = none := by simpa [Addr.add] using World.cell?_spot hc0
    subst hspot
    have hadd : ∀ i, (Addr.mk b off none).add i = ⟨b, off + i, none⟩ := fun i => by cases i <;> simp [Addr.add]
    refine ⟨b, off, rfl, World.block_lt_of_cell? _ _ hc0, fun i hi' => ?_⟩
    obtain ⟨e0, e1, _, _⟩ := hcell i (by omega)
    obtain ⟨q0, q1, q2, q3⟩ := hq i hi'
    rw [hadd] at e0 e1
    have hgc : gc ((List.range n).map (fun i => ((q i).1, (q i).2.1))) i = (q i).1 := by simp [gc, hi']
    have hgl : gl ((List.range n).map (fun i => ((q i).1, (q i).2.1))) i = (q i).2.1 := by simp [gl, hi']
    rw [hgc, hgl]
    exact ⟨e0.trans (by rw [q0]), _, _, _, e1.trans (by rw [q1]), q2, q3⟩

theorem open_num {H : Type} {enc : TypeId × Value → H} {P : Program} {w : World} {t : TypeId} {v : Value} {d : DataW H} {p : List MemPlace} {r : Reach} {b0 : Nat} (ht : P.underlying t = some (.int .i64)) (hv : Value.okWide P w r b0 t v) (h : DataW.Trod enc P w 0 (fun _ => true) true t v d p) : ∃ x, v = .int .i64 x := by
  obtain ⟨n, rfl, _⟩ := open_int ht hv h
  exact ⟨n, rfl⟩

theorem ints_cell {H : Type} {enc : TypeId × Value → H} {P : Program} {w : World} {t e : TypeId} {v : Value} {x : DataW H × List MemPlace} {fuel : Nat} (hsl : P.underlying t = some (.slice e)) (he : P.underlying e = some (.int .i64)) (hce : P.cellsOf e = 1)
    (h : DataW.trod enc P w 0 (fun _ => true) true fuel t [v] = some x) : ∃ a len cap zs, v = .slice a len cap ∧ len ≤ maxLen ∧ Sl w a len zs := by
  rcases open_ints hsl he hce h with ⟨hcs, _⟩ | ⟨x, l, c', zs, hcs, _, hl, hm, hz, _, hcell, _⟩
  · simp at hcs
    subst hcs
    exact ⟨none, 0, 0, [], rfl, Nat.zero_le _, rfl, fun h => by omega⟩
  · simp at hcs
    subst hcs
    simp at hz
    refine ⟨some x, l, c', zs.take l, rfl, by omega, by simp; omega, fun hp => ?_⟩
    obtain ⟨b, off, spot⟩ := x
    have hc0 := hcell 0 (by omega)
    have hspot : spot = none := by simpa [Addr.add] using World.cell?_spot hc0
    subst hspot
    refine ⟨b, off, rfl, World.block_lt_of_cell? _ _ hc0, fun i hi => ?_⟩
    have hadd : (Addr.mk b off none).add i = ⟨b, off + i, none⟩ := by cases i <;> simp [Addr.add]
    have := hcell i (by omega)
    rw [hadd] at this
    rw [this]
    simp [gt, List.getD, hi]

theorem reg_cell {H : Type} {enc : TypeId × Value → H} {P : Program} {w : World} {t e te : TypeId} {f0 g0 g1 k0 : Field} {c : Value} {x0 : DataW H × List MemPlace} {fuel : Nat}
    (hs : P.underlying t = some (.struct #[f0])) (h0 : f0.offset = 0) (h1 : P.cellsOf f0.type = 1) (hsl : P.underlying f0.type = some (.slice e))
    (he : P.underlying e = some (.struct #[g0, g1])) (ce : P.cellsOf e = 2) (o0 : g0.offset = 0) (o1 : g1.offset = 1) (c0 : P.cellsOf g0.type = 1) (c1 : P.cellsOf g1.type = 1)
    (hi : P.underlying g0.type = some (.int .i64)) (hl : P.underlying g1.type = some (.struct #[k0])) (l0 : k0.offset = 0) (l1 : P.cellsOf k0.type = 1) (hk : P.underlying k0.type = some (.slice te)) (ht : P.underlying te = some (.int .i64)) (hct : P.cellsOf te = 1)
    (h : DataW.trod enc P w 0 (fun _ => true) true fuel t [c] = some x0) :
    ∃ a n cap ss, c = .slice a n cap ∧ n ≤ maxLen ∧ Sls w a n ss := by
  obtain ⟨y0, m0, _, _, hy⟩ := trod_struct1 hs h
  rw [h0, h1] at hy
  rcases Go.Deep.open_slice_pairs hsl he ce o0 o1 c0 c1 hy with ⟨hcs, _⟩ | ⟨x, n, cap, m, k, V0, V1, D0, D1, P0, P1, hcs, _, hl', hm, hmm, _, hcell⟩
  · simp at hcs
    subst hcs
    exact ⟨none, 0, 0, [], rfl, Nat.zero_le _, rfl, fun h => by omega⟩
  · simp at hcs
    subst hcs
    simp at hmm
    have each : ∀ i, i < n → ∃ q : Int × List Int × Option Addr × Nat × Nat, V0 i = .int .i64 q.1 ∧ V1 i = .slice q.2.2.1 q.2.2.2.1 q.2.2.2.2 ∧ q.2.2.2.1 ≤ maxLen ∧ Sl w q.2.2.1 q.2.2.2.1 q.2.1 := by
      intro i hi'
      obtain ⟨_, _, t0, t1⟩ := hcell i (by omega)
      obtain ⟨c, hc⟩ := int_cell hi t0
      obtain ⟨la, ll, lc, zs, e1, e2, e3⟩ := lab_cell hl l0 l1 hk ht hct t1
      exact ⟨(c, zs, la, ll, lc), hc, e1, e2, e3⟩
    obtain ⟨q, hq⟩ := Go.Deep.choose_lt each
    refine ⟨some x, n, cap, (List.range n).map (fun i => ((q i).1, (q i).2.1)), rfl, by omega, by simp, fun hp => ?_⟩
    obtain ⟨b, off, spot⟩ := x
    have hc0 := (hcell 0 (by omega)).1
    have hspot : spot = none := by simpa [Addr.add] using World.cell?_spot hc0
    subst hspot
    have hadd : ∀ i, (Addr.mk b off none).add i = ⟨b, off + i, none⟩ := fun i => by cases i <;> simp [Addr.add]
    refine ⟨b, off, rfl, World.block_lt_of_cell? _ _ hc0, fun i hi' => ?_⟩
    obtain ⟨e0, e1, _, _⟩ := hcell i (by omega)
    obtain ⟨q0, q1, q2, q3⟩ := hq i hi'
    rw [hadd] at e0 e1
    have hgc : gc ((List.range n).map (fun i => ((q i).1, (q i).2.1))) i = (q i).1 := by simp [gc, hi']
    have hgl : gl ((List.range n).map (fun i => ((q i).1, (q i).2.1))) i = (q i).2.1 := by simp [gl, hi']
    rw [hgc, hgl]
    exact ⟨e0.trans (by rw [q0]), _, _, _, e1.trans (by rw [q1]), q2, q3⟩

theorem open_tab {H : Type} {enc : TypeId × Value → H} {P : Program} {w : World} {t e te : TypeId} {f0 f1 f2 g0 g1 k0 r0 : Field} {v : Value} {d : DataW H} {p : List MemPlace} {r : Reach} {b0 : Nat}
    (hs : P.underlying t = some (.struct #[f0, f1, f2])) (a0 : f0.offset = 0) (a1 : f1.offset = 1) (a2 : f2.offset = 2) (z0 : P.cellsOf f0.type = 1) (z1 : P.cellsOf f1.type = 1) (z2 : P.cellsOf f2.type = 1) (hC : P.cellsOf t = 3)
    (hr : P.underlying f0.type = some (.struct #[r0])) (h0 : r0.offset = 0) (h1 : P.cellsOf r0.type = 1) (hsl : P.underlying r0.type = some (.slice e))
    (he : P.underlying e = some (.struct #[g0, g1])) (ce : P.cellsOf e = 2) (o0 : g0.offset = 0) (o1 : g1.offset = 1) (c0 : P.cellsOf g0.type = 1) (c1 : P.cellsOf g1.type = 1)
    (hi : P.underlying g0.type = some (.int .i64)) (hl : P.underlying g1.type = some (.struct #[k0])) (l0 : k0.offset = 0) (l1 : P.cellsOf k0.type = 1) (hk : P.underlying k0.type = some (.slice te)) (ht : P.underlying te = some (.int .i64)) (hct : P.cellsOf te = 1)
    (ht1 : P.underlying f1.type = some (.slice te)) (ht2 : P.underlying f2.type = some (.slice te))
    (hv : Value.okWide P w r b0 t v) (h : DataW.Trod enc P w 0 (fun _ => true) true t v d p) :
    ∃ a n c ss ta tn tc ts da dn dc ds, v = .agg #[.slice a n c, .slice ta tn tc, .slice da dn dc] ∧ RT w a n ss ta tn ts da dn ds := by
  obtain ⟨cs, rfl, hsz⟩ := okWide_struct hs hv
  obtain ⟨fuel, hf⟩ := h
  obtain ⟨y0, y1, y2, m0, _, _, hy0, hy1, hy2⟩ := Go.Deep.trod_struct3 hs hf
  obtain ⟨u0, u1, u2, rfl⟩ : ∃ u0 u1 u2, cs = #[u0, u1, u2] := by
    have h3 : cs.size = 3 := hsz.trans hC
    match cs, h3 with
    | ⟨[x, y, z]⟩, _ => exact ⟨x, y, z, rfl⟩
  rw [a0, z0] at hy0
  rw [a1, z1] at hy1
  rw [a2, z2] at hy2
  obtain ⟨a, n, c, ss, rfl, b1, b2⟩ := reg_cell hr h0 h1 hsl he ce o0 o1 c0 c1 hi hl l0 l1 hk ht hct (by simpa [Value.cells] using hy0)
  obtain ⟨ta, tn, tc, ts, rfl, b3, b4⟩ := ints_cell ht1 ht hct (by simpa [Value.cells] using hy1)
  obtain ⟨da, dn, dc, ds, rfl, b5, b6⟩ := ints_cell ht2 ht hct (by simpa [Value.cells] using hy2)
  exact ⟨a, n, c, ss, ta, tn, tc, ts, da, dn, dc, ds, rfl, b1, b2, b3, b4, b5, b6⟩

end Go.Proofs.Ytgkjmeogdomgmaa
