import Derived.Test.YtnlkigjgloeonaaGreatReg
import Derived.Test.YtnlkigjgloeonaaGreatOpenTab
import Derived.Test.YtnlkigjgloeonaaGreatSysP
import Derived.Test.YtnlkigjgloeonaaGreatRows
import Derived.Deep.SlicePairs
import Derived.Deep.Strs
import Derived.Deep.Slices
import Derived.ChangeSame
import Derived.WalkKit
import Derived.ProofKit
import Derived.OpenShut
import Derived.ShutString
import Derived.ChangeOld
import Derived.Below
import Derived.WalkSpells
import Derived.Deep.QuietTactic
import Derived.BigQuiet
import Derived.Deep.RegionWith
import Derived.Deep.WholeRow
import Derived.Deep.DeepCutAuto
import Derived.Deep.RegionHeld2
import Derived.Deep.AppendLies
import Derived.Deep.RegionLaw
namespace Go.Proofs.YtnlkigjgloeonaaGreat
open Go.ChangeShapes Go.WideShapes Go.ChangeAt Go.RowKit

theorem lab_cell {H : Type} {enc : TypeId × Value → H} {P : Program} {w : World} {t e : TypeId} {f0 : Field} {v : Value} {x : DataW H × List MemPlace} {fuel : Nat}
    (hs : P.underlying t = some (.struct #[f0])) (h0 : f0.offset = 0) (h1 : P.cellsOf f0.type = 1) (hsl : P.underlying f0.type = some (.slice e)) (he : P.underlying e = some (.int .i64)) (hce : P.cellsOf e = 1)
    (h : DataW.trod enc P w 0 (fun _ => true) true fuel t [v] = some x) : ∃ a len cap zs, v = .slice a len cap ∧ len ≤ maxLen ∧ Sl w a len zs := by
  obtain ⟨y0, n, _, _, hy⟩ := trod_struct1 hs h
  rw [h0, h1] at hy
  rcases open_ints hsl he hce hy with ⟨hcs, _⟩ | ⟨x, l, c', zs, hcs, _, hl, hm, hz, _, hcell, _⟩
  · simp at hcs
    subst hcs
    exact ⟨none, 0, 0, [], rfl, Nat.zero_le _, rfl, fun h => by omega⟩
  · simp at hcs
    subst hcs
    simp at hz
    refine ⟨some x, l, c', zs.take l, rfl, by omega, by simp; omega, fun hp => ?_⟩
    obtain ⟨b, off, spot⟩ := x
    have hc0 := hcell 0 (by omega)
    have hspot : spot = none := by simpa [Addr.add] using World.cell?_spot hc0
    subst hspot
    refine ⟨b, off, rfl, World.block_lt_of_cell? _ _ hc0, fun i hi => ?_⟩
    have hadd : (Addr.mk b off none).add i = ⟨b, off + i, none⟩ := by cases i <;> simp [Addr.add]
    have := hcell i (by omega)
    rw [hadd] at this
    rw [this]
    simp [gt, List.getD, hi]

theorem int_cell {H : Type} {enc : TypeId × Value → H} {P : Program} {w : World} {e : TypeId} {v : Value} {x : DataW H × List MemPlace} {fuel base : Nat} {sp : Nat → Bool} {hd : Bool}
    (he : P.underlying e = some (.int .i64)) (h : DataW.trod enc P w base sp hd fuel e [v] = some x) : ∃ c, v = .int .i64 c := by
  cases fuel with
  | zero => simp [DataW.trod] at h
  | succ n =>
    cases v <;> simp [DataW.trod, he] at h
    exact ⟨_, by rw [h.1.1]⟩

theorem open_reg {H : Type} {enc : TypeId × Value → H} {P : Program} {w : World} {t e te : TypeId} {f0 g0 g1 k0 : Field} {v : Value} {d : DataW H} {p : List MemPlace} {r : Reach} {b0 : Nat}
    (hs : P.underlying t = some (.struct #[f0])) (h0 : f0.offset = 0) (h1 : P.cellsOf f0.type = 1) (hC : P.cellsOf t = 1) (hsl : P.underlying f0.type = some (.slice e))
    (he : P.underlying e = some (.struct #[g0, g1])) (ce : P.cellsOf e = 2) (o0 : g0.offset = 0) (o1 : g1.offset = 1) (c0 : P.cellsOf g0.type = 1) (c1 : P.cellsOf g1.type = 1)
    (hi : P.underlying g0.type = some (.int .i64)) (hl : P.underlying g1.type = some (.struct #[k0])) (l0 : k0.offset = 0) (l1 : P.cellsOf k0.type = 1) (hk : P.underlying k0.type = some (.slice te)) (ht : P.underlying te = some (.int .i64)) (hct : P.cellsOf te = 1)
    (hv : Value.okWide P w r b0 t v) (h : DataW.Trod enc P w 0 (fun _ => true) true t v d p) :
    ∃ a n cap ss, v = .agg #[.slice a n cap] ∧ n ≤ maxLen ∧ Sls w a n ss := by
  obtain ⟨cs, rfl, hsz⟩ := okWide_struct hs hv
  obtain ⟨fuel, hf⟩ := h
  obtain ⟨y0, m0, _, _, hy⟩ := trod_struct1 hs hf
  obtain ⟨c, rfl⟩ : ∃ c, cs = #[c] := by
    have : cs.size = 1 := hsz.trans hC
    exact Array.size_eq_one_iff.1 this
  rw [h0, h1] at hy
  rcases Go.Deep.open_slice_pairs hsl he ce o0 o1 c0 c1 hy with ⟨hcs, _⟩ | ⟨x, n, cap, m, k, V0, V1, D0, D1, P0, P1, hcs, _, hl', hm, hmm, _, hcell⟩
  · simp [Value.cells] at hcs
    subst hcs
    exact ⟨none, 0, 0, [], rfl, Nat.zero_le _, rfl, fun h => by omega⟩
  · simp [Value.cells] at hcs
    subst hcs
    simp at hmm
    have each : ∀ i, i < n → ∃ q : Int × List Int × Option Addr × Nat × Nat, V0 i = .int .i64 q.1 ∧ V1 i = .slice q.2.2.1 q.2.2.2.1 q.2.2.2.2 ∧ q.2.2.2.1 ≤ maxLen ∧ Sl w q.2.2.1 q.2.2.2.1 q.2.1 := by
      intro i hi'
      obtain ⟨_, _, t0, t1⟩ := hcell i (by omega)
      obtain ⟨c, hc⟩ := int_cell hi t0
      obtain ⟨la, ll, lc, zs, e1, e2, e3⟩ := lab_cell hl l0 l1 hk ht hct t1
      exact ⟨(c, zs, la, ll, lc), hc, e1, e2, e3⟩
    obtain ⟨q, hq⟩ := Go.Deep.choose_lt each
    refine ⟨some x, n, cap, (List.range n).map (fun i => ((q i).1, (q i).2.1)), rfl, by omega, by simp, fun hp => ?_⟩
    obtain ⟨b, off, spot⟩ := x
    have hc0 := (hcell 0 (by omega)).1
    have hspot : spot = none := by simpa [Addr.add] using World.cell?_spot hc0
    subst hspot
    have hadd : ∀ i, (Addr.mk b off none).add i = ⟨b, off + i, none⟩ := fun i => by cases i <;> simp [Addr.add]
    refine ⟨b, off, rfl, World.block_lt_of_cell? _ _ hc0, fun i hi' => ?_⟩
    obtain ⟨e0, e1, _, _⟩ := hcell i (by omega)
    obtain ⟨q0, q1, q2, q3⟩ := hq i hi'
    rw [hadd] at e0 e1
    have hgc : gc ((List.range n).map (fun i => ((q i).1, (q i).2.1))) i = (q i).1 := by simp [gc, hi']
    have hgl : gl ((List.range n).map (fun i => ((q i).1, (q i).2.1))) i = (q i).2.1 := by simp [gl, hi']
    rw [hgc, hgl]
    exact ⟨e0.trans (by rw [q0]), _, _, _, e1.trans (by rw [q1]), q2, q3⟩

theorem open_num {H : Type} {enc : TypeId × Value → H} {P : Program} {w : World} {t : TypeId} {v : Value} {d : DataW H} {p : List MemPlace} {r : Reach} {b0 : Nat} (ht : P.underlying t = some (.int .i64)) (hv : Value.okWide P w r b0 t v) (h : DataW.Trod enc P w 0 (fun _ => true) true t v d p) : ∃ x, v = .int .i64 x := by
  obtain ⟨n, rfl, _⟩ := open_int ht hv h
  exact ⟨n, rfl⟩

theorem ints_cell {H : Type} {enc : TypeId × Value → H} {P : Program} {w : World} {t e : TypeId} {v : Value} {x : DataW H × List MemPlace} {fuel : Nat} (hsl : P.underlying t = some (.slice e)) (he : P.underlying e = some (.int .i64)) (hce : P.cellsOf e = 1)
    (h : DataW.trod enc P w 0 (fun _ => true) true fuel t [v] = some x) : ∃ a len cap zs, v = .slice a len cap ∧ len ≤ maxLen ∧ Sl w a len zs := by
  rcases open_ints hsl he hce h with ⟨hcs, _⟩ | ⟨x, l, c', zs, hcs, _, hl, hm, hz, _, hcell, _⟩
  · simp at hcs
    subst hcs
    exact ⟨none, 0, 0, [], rfl, Nat.zero_le _, rfl, fun h => by omega⟩
  · simp at hcs
    subst hcs
    simp at hz
    refine ⟨some x, l, c', zs.take l, rfl, by omega, by simp; omega, fun hp => ?_⟩
    obtain ⟨b, off, spot⟩ := x
    have hc0 := hcell 0 (by omega)
    have hspot : spot = none := by simpa [Addr.add] using World.cell?_spot hc0
    subst hspot
    refine ⟨b, off, rfl, World.block_lt_of_cell? _ _ hc0, fun i hi => ?_⟩
    have hadd : (Addr.mk b off none).add i = ⟨b, off + i, none⟩ := by cases i <;> simp [Addr.add]
    have := hcell i (by omega)
    rw [hadd] at this
    rw [this]
    simp [gt, List.getD, hi]

theorem reg_cell {H : Type} {enc : TypeId × Value → H} {P : Program} {w : World} {t e te : TypeId} {f0 g0 g1 k0 : Field} {c : Value} {x0 : DataW H × List MemPlace} {fuel : Nat}
    (hs : P.underlying t = some (.struct #[f0])) (h0 : f0.offset = 0) (h1 : P.cellsOf f0.type = 1) (hsl : P.underlying f0.type = some (.slice e))
    (he : P.underlying e = some (.struct #[g0, g1])) (ce : P.cellsOf e = 2) (o0 : g0.offset = 0) (o1 : g1.offset = 1) (c0 : P.cellsOf g0.type = 1) (c1 : P.cellsOf g1.type = 1)
    (hi : P.underlying g0.type = some (.int .i64)) (hl : P.underlying g1.type = some (.struct #[k0])) (l0 : k0.offset = 0) (l1 : P.cellsOf k0.type = 1) (hk : P.underlying k0.type = some (.slice te)) (ht : P.underlying te = some (.int .i64)) (hct : P.cellsOf te = 1)
    (h : DataW.trod enc P w 0 (fun _ => true) true fuel t [c] = some x0) :
    ∃ a n cap ss, c = .slice a n cap ∧ n ≤ maxLen ∧ Sls w a n ss := by
  obtain ⟨y0, m0, _, _, hy⟩ := trod_struct1 hs h
  rw [h0, h1] at hy
  rcases Go.Deep.open_slice_pairs hsl he ce o0 o1 c0 c1 hy with ⟨hcs, _⟩ | ⟨x, n, cap, m, k, V0, V1, D0, D1, P0, P1, hcs, _, hl', hm, hmm, _, hcell⟩
  · simp at hcs
    subst hcs
    exact ⟨none, 0, 0, [], rfl, Nat.zero_le _, rfl, fun h => by omega⟩
  · simp at hcs
    subst hcs
    simp at hmm
    have each : ∀ i, i < n → ∃ q : Int × List Int × Option Addr × Nat × Nat, V0 i = .int .i64 q.1 ∧ V1 i = .slice q.2.2.1 q.2.2.2.1 q.2.2.2.2 ∧ q.2.2.2.1 ≤ maxLen ∧ Sl w q.2.2.1 q.2.2.2.1 q.2.1 := by
      intro i hi'
      obtain ⟨_, _, t0, t1⟩ := hcell i (by omega)
      obtain ⟨c, hc⟩ := int_cell hi t0
      obtain ⟨la, ll, lc, zs, e1, e2, e3⟩ := lab_cell hl l0 l1 hk ht hct t1
      exact ⟨(c, zs, la, ll, lc), hc, e1, e2, e3⟩
    obtain ⟨q, hq⟩ := Go.Deep.choose_lt each
    refine ⟨some x, n, cap, (List.range n).map (fun i => ((q i).1, (q i).2.1)), rfl, by omega, by simp, fun hp => ?_⟩
    obtain ⟨b, off, spot⟩ := x
    have hc0 := (hcell 0 (by omega)).1
    have hspot : spot = none := by simpa [Addr.add] using World.cell?_spot hc0
    subst hspot
    have hadd : ∀ i, (Addr.mk b off none).add i = ⟨b, off + i, none⟩ := fun i => by cases i <;> simp [Addr.add]
    refine ⟨b, off, rfl, World.block_lt_of_cell? _ _ hc0, fun i hi' => ?_⟩
    obtain ⟨e0, e1, _, _⟩ := hcell i (by omega)
    obtain ⟨q0, q1, q2, q3⟩ := hq i hi'
    rw [hadd] at e0 e1
    have hgc : gc ((List.range n).map (fun i => ((q i).1, (q i).2.1))) i = (q i).1 := by simp [gc, hi']
    have hgl : gl ((List.range n).map (fun i => ((q i).1, (q i).2.1))) i = (q i).2.1 := by simp [gl, hi']
    rw [hgc, hgl]
    exact ⟨e0.trans (by rw [q0]), _, _, _, e1.trans (by rw [q1]), q2, q3⟩

theorem open_tab {H : Type} {enc : TypeId × Value → H} {P : Program} {w : World} {t e te : TypeId} {f0 f1 f2 g0 g1 k0 r0 : Field} {v : Value} {d : DataW H} {p : List MemPlace} {r : Reach} {b0 : Nat}
    (hs : P.underlying t = some (.struct #[f0, f1, f2])) (a0 : f0.offset = 0) (a1 : f1.offset = 1) (a2 : f2.offset = 2) (z0 : P.cellsOf f0.type = 1) (z1 : P.cellsOf f1.type = 1) (z2 : P.cellsOf f2.type = 1) (hC : P.cellsOf t = 3)
    (hr : P.underlying f0.type = some (.struct #[r0])) (h0 : r0.offset = 0) (h1 : P.cellsOf r0.type = 1) (hsl : P.underlying r0.type = some (.slice e))
    (he : P.underlying e = some (.struct #[g0, g1])) (ce : P.cellsOf e = 2) (o0 : g0.offset = 0) (o1 : g1.offset = 1) (c0 : P.cellsOf g0.type = 1) (c1 : P.cellsOf g1.type = 1)
    (hi : P.underlying g0.type = some (.int .i64)) (hl : P.underlying g1.type = some (.struct #[k0])) (l0 : k0.offset = 0) (l1 : P.cellsOf k0.type = 1) (hk : P.underlying k0.type = some (.slice te)) (ht : P.underlying te = some (.int .i64)) (hct : P.cellsOf te = 1)
    (ht1 : P.underlying f1.type = some (.slice te)) (ht2 : P.underlying f2.type = some (.slice te))
    (hv : Value.okWide P w r b0 t v) (h : DataW.Trod enc P w 0 (fun _ => true) true t v d p) :
    ∃ a n c ss ta tn tc ts da dn dc ds, v = .agg #[.slice a n c, .slice ta tn tc, .slice da dn dc] ∧ RT w a n ss ta tn ts da dn ds := by
  obtain ⟨cs, rfl, hsz⟩ := okWide_struct hs hv
  obtain ⟨fuel, hf⟩ := h
  obtain ⟨y0, y1, y2, m0, _, _, hy0, hy1, hy2⟩ := Go.Deep.trod_struct3 hs hf
  obtain ⟨u0, u1, u2, rfl⟩ : ∃ u0 u1 u2, cs = #[u0, u1, u2] := by
    have h3 : cs.size = 3 := hsz.trans hC
    match cs, h3 with
    | ⟨[x, y, z]⟩, _ => exact ⟨x, y, z, rfl⟩
  rw [a0, z0] at hy0
  rw [a1, z1] at hy1
  rw [a2, z2] at hy2
  obtain ⟨a, n, c, ss, rfl, b1, b2⟩ := reg_cell hr h0 h1 hsl he ce o0 o1 c0 c1 hi hl l0 l1 hk ht hct (by simpa [Value.cells] using hy0)
  obtain ⟨ta, tn, tc, ts, rfl, b3, b4⟩ := ints_cell ht1 ht hct (by simpa [Value.cells] using hy1)
  obtain ⟨da, dn, dc, ds, rfl, b5, b6⟩ := ints_cell ht2 ht hct (by simpa [Value.cells] using hy2)
  exact ⟨a, n, c, ss, ta, tn, tc, ts, da, dn, dc, ds, rfl, b1, b2, b3, b4, b5, b6⟩

theorem open_lines {H : Type} {enc : TypeId × Value → H} {P : Program} {w : World} {t e ti : TypeId} {g0 g1 g2 : Field} {v : Value} {x : DataW H × List MemPlace} {fuel : Nat}
    (hsl : P.underlying t = some (.slice e)) (he : P.underlying e = some (.struct #[g0, g1, g2])) (ce : P.cellsOf e = 3) (o0 : g0.offset = 0) (o1 : g1.offset = 1) (o2 : g2.offset = 2) (t0 : g0.type = ti) (t1 : g1.type = ti) (t2 : g2.type = ti) (hi : P.underlying ti = some (.int .i64)) (ci : P.cellsOf ti = 1)
    (h : DataW.trod enc P w 0 (fun _ => true) true fuel t [v] = some x) : ∃ a n cap ls, v = .slice a n cap ∧ n ≤ maxLen ∧ Sln w a n ls := by
  rcases Go.Deep.open_slice hsl h with ⟨h0, _⟩ | ⟨a, len, cap, m, n, D, Pl, hv, _, hl, hm, hmm, _, hx⟩
  · simp at h0
    exact ⟨none, 0, 0, [], h0, by unfold maxLen; omega, rfl, fun h => by omega⟩
  · simp at hv hmm
    subst hv
    have each : ∀ i, i < len → ∃ q : Int × Int × Int, w.cell? (a.add (i * 3)) = some (.int .i64 q.1) ∧ w.cell? (a.add (i * 3 + 1)) = some (.int .i64 q.2.1) ∧ w.cell? (a.add (i * 3 + 2)) = some (.int .i64 q.2.2) := by
      intro i hi'
      obtain ⟨cs', h1, h2⟩ := hx i (by omega)
      rw [ce] at h1
      obtain ⟨_, hlen, hcell⟩ := World.cells?_some h1
      obtain ⟨xs, k, _, _, _, hxl, hf⟩ := DataW.trod_struct he h2
      match xs, hxl, cs', hlen with
      | [y0, y1, y2], _, [v0, v1, v2], _ =>
        have f0 := hf 0 g0 rfl
        have f1 := hf 1 g1 rfl
        have f2 := hf 2 g2 rfl
        simp [o0, o1, o2, t0, t1, t2, ci] at f0 f1 f2
        obtain ⟨c0, rfl⟩ := int_cell hi f0
        obtain ⟨c1, rfl⟩ := int_cell hi f1
        obtain ⟨c2, rfl⟩ := int_cell hi f2
        have e0 := hcell 0 (by omega)
        have e1 := hcell 1 (by omega)
        have e2 := hcell 2 (by omega)
        rw [Go.Deep.add_add] at e0 e1 e2
        exact ⟨(c0, c1, c2), by simpa using e0, by simpa using e1, by simpa using e2⟩
    obtain ⟨q, hq⟩ := Go.Deep.choose_lt each
    refine ⟨some a, len, cap, (List.range len).map q, rfl, by omega, by simp, fun hp => ?_⟩
    obtain ⟨b, off, spot⟩ := a
    have hc0 := (hq 0 (by omega)).1
    have hspot : spot = none := by simpa [Addr.add] using World.cell?_spot hc0
    subst hspot
    have hadd : ∀ i, (Addr.mk b off none).add i = ⟨b, off + i, none⟩ := fun i => by cases i <;> simp [Addr.add]
    refine ⟨b, off, rfl, World.block_lt_of_cell? _ _ hc0, fun i hi' => ?_⟩
    obtain ⟨e0, e1, e2⟩ := gt_fl3 ((List.range len).map q) (i / 3)
    obtain ⟨r0, r1, r2⟩ := hq (i / 3) (by omega)
    rw [hadd] at r0 r1 r2
    have hg : g3 ((List.range len).map q) (i / 3) = q (i / 3) := by simp [g3, show i / 3 < len by omega]
    rw [hg] at e0 e1 e2
    rcases (show i = i / 3 * 3 ∨ i = i / 3 * 3 + 1 ∨ i = i / 3 * 3 + 2 by omega) with e | e | e
    · rw [← e] at e0 r0; rw [e0]; exact r0
    · rw [← e] at e1 r1; rw [e1]; exact r1
    · rw [← e] at e2 r2; rw [e2]; exact r2

theorem open_cache {H : Type} {enc : TypeId × Value → H} {P : Program} {w : World} {t e ti : TypeId} {f0 f1 g0 g1 g2 : Field} {v : Value} {d : DataW H} {p : List MemPlace} {r : Reach} {b0 : Nat}
    (hs : P.underlying t = some (.struct #[f0, f1])) (a0 : f0.offset = 0) (a1 : f1.offset = 1) (z0 : f0.type = ti) (z1 : P.cellsOf f1.type = 1) (hC : P.cellsOf t = 2) (hsl : P.underlying f1.type = some (.slice e))
    (he : P.underlying e = some (.struct #[g0, g1, g2])) (ce : P.cellsOf e = 3) (o0 : g0.offset = 0) (o1 : g1.offset = 1) (o2 : g2.offset = 2) (t0 : g0.type = ti) (t1 : g1.type = ti) (t2 : g2.type = ti) (hi : P.underlying ti = some (.int .i64)) (ci : P.cellsOf ti = 1)
    (hv : Value.okWide P w r b0 t v) (h : DataW.Trod enc P w 0 (fun _ => true) true t v d p) :
    ∃ s a n c ls, v = .agg #[.int .i64 s, .slice a n c] ∧ n ≤ maxLen ∧ Sln w a n ls := by
  obtain ⟨cs, rfl, hsz⟩ := okWide_struct hs hv
  obtain ⟨fuel, hf⟩ := h
  obtain ⟨y0, y1, m0, _, _, hy0, hy1⟩ := trod_struct2 hs hf
  obtain ⟨u0, u1, rfl⟩ : ∃ u0 u1, cs = #[u0, u1] := by
    have h2 : cs.size = 2 := hsz.trans hC
    match cs, h2 with
    | ⟨[x, y]⟩, _ => exact ⟨x, y, rfl⟩
  rw [a0, z0, ci] at hy0
  rw [a1, z1] at hy1
  obtain ⟨s, rfl⟩ := int_cell hi (by simpa [Value.cells] using hy0)
  obtain ⟨a, n, c, ls, rfl, b1, b2⟩ := open_lines hsl he ce o0 o1 o2 t0 t1 t2 hi ci (by simpa [Value.cells] using hy1)
  exact ⟨s, a, n, c, ls, rfl, b1, b2⟩

theorem open_line {H : Type} {enc : TypeId × Value → H} {P : Program} {w : World} {e ti : TypeId} {g0 g1 g2 : Field} {v : Value} {d : DataW H} {p : List MemPlace} {r : Reach} {b0 : Nat}
    (he : P.underlying e = some (.struct #[g0, g1, g2])) (ce : P.cellsOf e = 3) (o0 : g0.offset = 0) (o1 : g1.offset = 1) (o2 : g2.offset = 2) (t0 : g0.type = ti) (t1 : g1.type = ti) (t2 : g2.type = ti) (hi : P.underlying ti = some (.int .i64)) (ci : P.cellsOf ti = 1)
    (hv : Value.okWide P w r b0 e v) (h : DataW.Trod enc P w 0 (fun _ => true) true e v d p) : ∃ x y z : Int, v = .agg #[.int .i64 x, .int .i64 y, .int .i64 z] := by
  obtain ⟨cs, rfl, hsz⟩ := okWide_struct he hv
  obtain ⟨fuel, hf⟩ := h
  obtain ⟨y0, y1, y2, m0, _, _, hy0, hy1, hy2⟩ := Go.Deep.trod_struct3 he hf
  obtain ⟨u0, u1, u2, rfl⟩ : ∃ u0 u1 u2, cs = #[u0, u1, u2] := by
    have h3 : cs.size = 3 := hsz.trans ce
    match cs, h3 with
    | ⟨[x, y, z]⟩, _ => exact ⟨x, y, z, rfl⟩
  rw [o0, t0, ci] at hy0
  rw [o1, t1, ci] at hy1
  rw [o2, t2, ci] at hy2
  obtain ⟨c0, rfl⟩ := int_cell hi (by simpa [Value.cells] using hy0)
  obtain ⟨c1, rfl⟩ := int_cell hi (by simpa [Value.cells] using hy1)
  obtain ⟨c2, rfl⟩ := int_cell hi (by simpa [Value.cells] using hy2)
  exact ⟨c0, c1, c2, rfl⟩

theorem open_words {H : Type} {enc : TypeId × Value → H} {P : Program} {w : World} {t e ti : TypeId} {g0 g1 : Field} {v : Value} {x : DataW H × List MemPlace} {fuel : Nat}
    (hsl : P.underlying t = some (.slice e)) (he : P.underlying e = some (.struct #[g0, g1])) (ce : P.cellsOf e = 2) (o0 : g0.offset = 0) (o1 : g1.offset = 1) (t0 : g0.type = ti) (t1 : g1.type = ti) (hi : P.underlying ti = some (.int .i64)) (ci : P.cellsOf ti = 1)
    (h : DataW.trod enc P w 0 (fun _ => true) true fuel t [v] = some x) : ∃ a n cap ls, v = .slice a n cap ∧ n ≤ maxLen ∧ Swd w a n ls := by
  rcases Go.Deep.open_slice hsl h with ⟨h0, _⟩ | ⟨a, len, cap, m, n, D, Pl, hv, _, hl, hm, hmm, _, hx⟩
  · simp at h0
    exact ⟨none, 0, 0, [], h0, by unfold maxLen; omega, rfl, fun h => by omega⟩
  · simp at hv hmm
    subst hv
    have each : ∀ i, i < len → ∃ q : Int × Int, w.cell? (a.add (i * 2)) = some (.int .i64 q.1) ∧ w.cell? (a.add (i * 2 + 1)) = some (.int .i64 q.2) := by
      intro i hi'
      obtain ⟨cs', h1, h2⟩ := hx i (by omega)
      rw [ce] at h1
      obtain ⟨_, hlen, hcell⟩ := World.cells?_some h1
      obtain ⟨xs, k, _, _, _, hxl, hf⟩ := DataW.trod_struct he h2
      match xs, hxl, cs', hlen with
      | [y0, y1], _, [v0, v1], _ =>
        have f0 := hf 0 g0 rfl
        have f1 := hf 1 g1 rfl
        simp [o0, o1, t0, t1, ci] at f0 f1
        obtain ⟨c0, rfl⟩ := int_cell hi f0
        obtain ⟨c1, rfl⟩ := int_cell hi f1
        have e0 := hcell 0 (by omega)
        have e1 := hcell 1 (by omega)
        rw [Go.Deep.add_add] at e0 e1
        exact ⟨(c0, c1), by simpa using e0, by simpa using e1⟩
    obtain ⟨q, hq⟩ := Go.Deep.choose_lt each
    refine ⟨some a, len, cap, (List.range len).map q, rfl, by omega, by simp, fun hp => ?_⟩
    obtain ⟨b, off, spot⟩ := a
    have hc0 := (hq 0 (by omega)).1
    have hspot : spot = none := by simpa [Addr.add] using World.cell?_spot hc0
    subst hspot
    have hadd : ∀ i, (Addr.mk b off none).add i = ⟨b, off + i, none⟩ := fun i => by cases i <;> simp [Addr.add]
    refine ⟨b, off, rfl, World.block_lt_of_cell? _ _ hc0, fun i hi' => ?_⟩
    obtain ⟨e0, e1⟩ := gt_flw ((List.range len).map q) (i / 2)
    obtain ⟨r0, r1⟩ := hq (i / 2) (by omega)
    rw [hadd] at r0 r1
    have hg : gw ((List.range len).map q) (i / 2) = q (i / 2) := by simp [gw, show i / 2 < len by omega]
    rw [hg] at e0 e1
    rcases (show i = i / 2 * 2 ∨ i = i / 2 * 2 + 1 by omega) with e | e
    · rw [← e] at e0 r0; rw [e0]; exact r0
    · rw [← e] at e1 r1; rw [e1]; exact r1

theorem bool_cell {H : Type} {enc : TypeId × Value → H} {P : Program} {w : World} {e : TypeId} {v : Value} {x : DataW H × List MemPlace} {fuel base : Nat} {sp : Nat → Bool} {hd : Bool}
    (he : P.underlying e = some .bool) (h : DataW.trod enc P w base sp hd fuel e [v] = some x) : ∃ c, v = .bool c := by
  obtain ⟨b, h1, _⟩ := DataW.trod_bool he h
  exact ⟨b, by simpa using h1⟩

theorem open_ctxs {H : Type} {enc : TypeId × Value → H} {P : Program} {w : World} {t e te : TypeId} {g0 g1 g2 : Field} {v : Value} {x : DataW H × List MemPlace} {fuel : Nat}
    (hsl : P.underlying t = some (.slice e)) (he : P.underlying e = some (.struct #[g0, g1, g2])) (ce : P.cellsOf e = 3) (o0 : g0.offset = 0) (o1 : g1.offset = 1) (o2 : g2.offset = 2) (c0 : P.cellsOf g0.type = 1) (c1 : P.cellsOf g1.type = 1) (c2 : P.cellsOf g2.type = 1) (hs0 : P.underlying g0.type = some (.slice te)) (ht : P.underlying te = some (.int .i64)) (hct : P.cellsOf te = 1) (hi : P.underlying g1.type = some (.int .i64)) (hb : P.underlying g2.type = some .bool)
    (h : DataW.trod enc P w 0 (fun _ => true) true fuel t [v] = some x) : ∃ a n cap cs, v = .slice a n cap ∧ n ≤ maxLen ∧ Scx w a n cs := by
  rcases Go.Deep.open_slice hsl h with ⟨h0, _⟩ | ⟨a, len, cap, m, n, D, Pl, hv, _, hl, hm, hmm, _, hx⟩
  · simp at h0
    exact ⟨none, 0, 0, [], h0, by unfold maxLen; omega, rfl, fun h => by omega⟩
  · simp at hv hmm
    subst hv
    have each : ∀ i, i < len → ∃ q : (List Int × Int × Bool) × Option Addr × Nat × Nat, w.cell? (a.add (i * 3)) = some (.slice q.2.1 q.2.2.1 q.2.2.2) ∧ w.cell? (a.add (i * 3 + 1)) = some (.int .i64 q.1.2.1) ∧ w.cell? (a.add (i * 3 + 2)) = some (.bool q.1.2.2) ∧ q.2.2.1 ≤ maxLen ∧ Sl w q.2.1 q.2.2.1 q.1.1 := by
      intro i hi'
      obtain ⟨cs', h1, h2⟩ := hx i (by omega)
      rw [ce] at h1
      obtain ⟨_, hlen, hcell⟩ := World.cells?_some h1
      obtain ⟨xs, k, _, _, _, hxl, hf⟩ := DataW.trod_struct he h2
      match xs, hxl, cs', hlen with
      | [y0, y1, y2], _, [v0, v1, v2], _ =>
        have f0 := hf 0 g0 rfl
        have f1 := hf 1 g1 rfl
        have f2 := hf 2 g2 rfl
        simp [o0, o1, o2, c0, c1, c2] at f0 f1 f2
        obtain ⟨la, ll, lc, zs, rfl, b1, b2⟩ := ints_cell hs0 ht hct f0
        obtain ⟨p, rfl⟩ := int_cell hi f1
        obtain ⟨g, rfl⟩ := bool_cell hb f2
        have e0 := hcell 0 (by omega)
        have e1 := hcell 1 (by omega)
        have e2 := hcell 2 (by omega)
        rw [Go.Deep.add_add] at e0 e1 e2
        exact ⟨((zs, p, g), la, ll, lc), by simpa using e0, by simpa using e1, by simpa using e2, b1, b2⟩
    obtain ⟨q, hq⟩ := Go.Deep.choose_lt each
    refine ⟨some a, len, cap, (List.range len).map (fun i => (q i).1), rfl, by omega, by simp, fun hp => ?_⟩
    obtain ⟨b, off, spot⟩ := a
    have hc0 := (hq 0 (by omega)).1
    have hspot : spot = none := by simpa [Addr.add] using World.cell?_spot hc0
    subst hspot
    have hadd : ∀ i, (Addr.mk b off none).add i = ⟨b, off + i, none⟩ := fun i => by cases i <;> simp [Addr.add]
    refine ⟨b, off, rfl, World.block_lt_of_cell? _ _ hc0, fun i hi' => ?_⟩
    obtain ⟨r0, r1, r2, r3, r4⟩ := hq i hi'
    rw [hadd] at r0 r1 r2
    have hg : gx ((List.range len).map (fun i => (q i).1)) i = (q i).1 := by simp [gx, hi']
    rw [hg]
    exact ⟨_, _, _, r0, r1, r2, r3, r4⟩

set_option maxRecDepth 100000 in
theorem open_sys {H : Type} {enc : TypeId × Value → H} {w : World} {v : Value} {d : DataW H} {p : List MemPlace} {r : Reach} {b0 : Nat}
    (hv : Value.okWide Tryz.prog w r b0 37 v) (h : DataW.Trod enc Tryz.prog w 0 (fun _ => true) true 37 v d p) :
    ∃ (A : SA) (D : SD), v = .agg #[.slice A.a A.n A.c, .slice A.ta A.tn A.tc, .slice A.da A.dn A.dc, .slice A.wa A.wn A.wc, .slice A.xa A.xn A.xc, .int .i64 D.ac, .int .i64 D.cz, .slice A.la A.ln A.lc, .int .i64 D.dv, .slice A.oa A.on A.oc, .slice A.ga A.gn A.gc] ∧ RS w A D := by
  have hT : Tryz.prog.cellsOf 27 = 3 := by kernel_rfl
  have hM : Tryz.prog.cellsOf 30 = 1 := by kernel_rfl
  have hX : Tryz.prog.cellsOf 31 = 1 := by kernel_rfl
  have hI : Tryz.prog.cellsOf 2 = 1 := by kernel_rfl
  have hK : Tryz.prog.cellsOf 34 = 2 := by kernel_rfl
  have hO : Tryz.prog.cellsOf 25 = 1 := by kernel_rfl
  have hG : Tryz.prog.cellsOf 35 = 1 := by kernel_rfl
  have hR : Tryz.prog.cellsOf 24 = 1 := by kernel_rfl
  have hW : Tryz.prog.cellsOf 28 = 1 := by kernel_rfl
  have hL : Tryz.prog.cellsOf 32 = 1 := by kernel_rfl
  obtain ⟨cs, rfl, hsz⟩ := okWide_struct Tryz.underlying37 hv
  obtain ⟨fuel, hf⟩ := h
  obtain ⟨xs, k, _, _, _, hxl, hfl⟩ := DataW.trod_struct Tryz.underlying37 hf
  have h11 : cs.size = 11 := hsz.trans (by kernel_rfl)
  match cs, h11, xs, hxl with
  | ⟨[u0, u1, u2, u3, u4, u5, u6, u7, u8, u9, u10]⟩, _, [y0, y1, y2, y3, y4, y5, y6, y7], _ =>
    have f0 := hfl 0 _ rfl
    have f1 := hfl 1 _ rfl
    have f2 := hfl 2 _ rfl
    have f3 := hfl 3 _ rfl
    have f4 := hfl 4 _ rfl
    have f5 := hfl 5 _ rfl
    have f6 := hfl 6 _ rfl
    have f7 := hfl 7 _ rfl
    simp [Value.cells, hT, hM, hX, hI, hK, hO, hG] at f0 f1 f2 f3 f4 f5 f6 f7
    obtain ⟨z0, z1, z2, m0, _, _, hy0, hy1, hy2⟩ := Go.Deep.trod_struct3 Tryz.underlying27 f0
    simp [hR, hO] at hy0 hy1 hy2
    obtain ⟨a, n, c, ss, rfl, b1, b2⟩ := reg_cell Tryz.underlying24 rfl (by kernel_rfl) Tryz.underlying22 Tryz.underlying218 (by kernel_rfl) rfl rfl (by kernel_rfl) (by kernel_rfl) Tryz.underlying2 Tryz.underlying39 rfl (by kernel_rfl) Tryz.underlying25 Tryz.underlying2 (by kernel_rfl) hy0
    obtain ⟨ta, tn, tc, ts, rfl, b3, b4⟩ := ints_cell Tryz.underlying25 Tryz.underlying2 hI hy1
    obtain ⟨da, dn, dc, ds, rfl, b5, b6⟩ := ints_cell Tryz.underlying25 Tryz.underlying2 hI hy2
    obtain ⟨z3, m1, _, _, hy3⟩ := trod_struct1 Tryz.underlying30 f1
    simp [hW] at hy3
    obtain ⟨wa, wn, wc, ws, rfl, b7, b8⟩ := open_words Tryz.underlying28 Tryz.underlying198 (by kernel_rfl) rfl rfl rfl rfl Tryz.underlying2 hI hy3
    obtain ⟨xa, xn, xc, cx, rfl, b9, b10⟩ := open_ctxs Tryz.underlying31 Tryz.underlying118 (by kernel_rfl) rfl rfl rfl (by kernel_rfl) (by kernel_rfl) (by kernel_rfl) Tryz.underlying25 Tryz.underlying2 hI Tryz.underlying2 Tryz.underlying4 f2
    obtain ⟨ac, rfl⟩ := int_cell Tryz.underlying2 f3
    obtain ⟨z4, z5, m2, _, _, hy4, hy5⟩ := trod_struct2 Tryz.underlying34 f4
    simp [hI, hL] at hy4 hy5
    obtain ⟨cz, rfl⟩ := int_cell Tryz.underlying2 hy4
    obtain ⟨la, ln, lc, ls, rfl, b11, b12⟩ := open_lines Tryz.underlying32 Tryz.underlying200 (by kernel_rfl) rfl rfl rfl rfl rfl rfl Tryz.underlying2 hI hy5
    obtain ⟨dv, rfl⟩ := int_cell Tryz.underlying2 f5
    obtain ⟨oa, on, oc, os, rfl, b13, b14⟩ := ints_cell Tryz.underlying25 Tryz.underlying2 hI f6
    obtain ⟨ga, gn, gc, gs, rfl, b15, b16⟩ := open_words Tryz.underlying35 Tryz.underlying142 (by kernel_rfl) rfl rfl rfl rfl Tryz.underlying2 hI f7
    exact ⟨⟨a, n, c, ta, tn, tc, da, dn, dc, wa, wn, wc, xa, xn, xc, la, ln, lc, oa, on, oc, ga, gn, gc⟩, ⟨ss, ts, ds, ws, cx, ac, cz, ls, dv, os, gs⟩, rfl, ⟨b1, b2, b3, b4, b5, b6⟩, b7, b8, b9, b10, b11, b12, b13, b14, b15, b16⟩

end Go.Proofs.YtnlkigjgloeonaaGreat
