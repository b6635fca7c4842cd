import Derived.Test.YtnlkigjgloeonaaSnP
import Derived.Test.YtnlkigjgloeonaaRows
import Derived.Deep.Slices
import Derived.Deep.SlicePairs
import Derived.Deep.Strs
import Derived.ChangeSame
import Derived.WalkKit
import Derived.ProofKit
import Derived.OpenShut
import Derived.ShutString
import Derived.ChangeOld
import Derived.Below
import Derived.WalkSpells
import Derived.Deep.QuietTactic
import Derived.BigQuiet
import Derived.Deep.RegionWith
import Derived.Deep.WholeRow
import Derived.Deep.DeepCutAuto
import Derived.Deep.RegionHeld2
import Derived.Deep.AppendLies
import Derived.Deep.RegionLaw
namespace Go.Proofs.Ytnlkigjgloeonaa
open Go.ChangeShapes Go.WideShapes Go.ChangeAt Go.RowKit

theorem lab_cell {H : Type} {enc : TypeId × Value → H} {P : Program} {w : World} {t e : TypeId} {f0 : Field} {v : Value} {x : DataW H × List MemPlace} {fuel : Nat}
    (hs : P.underlying t = some (.struct #[f0])) (h0 : f0.offset = 0) (h1 : P.cellsOf f0.type = 1) (hsl : P.underlying f0.type = some (.slice e)) (he : P.underlying e = some (.int .i64)) (hce : P.cellsOf e = 1)
    (h : DataW.trod enc P w 0 (fun _ => true) true fuel t [v] = some x) : ∃ a len cap zs, v = .slice a len cap ∧ len ≤ maxLen ∧ Sl w a len zs := by
  obtain ⟨y0, n, _, _, hy⟩ := trod_struct1 hs h
  rw [h0, h1] at hy
  rcases open_ints hsl he hce hy with ⟨hcs, _⟩ | ⟨x, l, c', zs, hcs, _, hl, hm, hz, _, hcell, _⟩
  · simp at hcs
    subst hcs
    exact ⟨none, 0, 0, [], rfl, Nat.zero_le _, rfl, fun h => by omega⟩
  · simp at hcs
    subst hcs
    simp at hz
    refine ⟨some x, l, c', zs.take l, rfl, by omega, by simp; omega, fun hp => ?_⟩
    obtain ⟨b, off, spot⟩ := x
    have hc0 := hcell 0 (by omega)
    have hspot : spot = none := by simpa [Addr.add] using World.cell?_spot hc0
    subst hspot
    refine ⟨b, off, rfl, World.block_lt_of_cell? _ _ hc0, fun i hi => ?_⟩
    have hadd : (Addr.mk b off none).add i = ⟨b, off + i, none⟩ := by cases i <;> simp [Addr.add]
    have := hcell i (by omega)
    rw [hadd] at this
    rw [this]
    simp [gt, List.getD, hi]

theorem int_cell {H : Type} {enc : TypeId × Value → H} {P : Program} {w : World} {e : TypeId} {v : Value} {x : DataW H × List MemPlace} {fuel base : Nat} {sp : Nat → Bool} {hd : Bool}
    (he : P.underlying e = some (.int .i64)) (h : DataW.trod enc P w base sp hd fuel e [v] = some x) : ∃ c, v = .int .i64 c := by
  cases fuel with
  | zero => simp [DataW.trod] at h
  | succ n =>
    cases v <;> simp [DataW.trod, he] at h
    exact ⟨_, by rw [h.1.1]⟩

theorem ints_cell {H : Type} {enc : TypeId × Value → H} {P : Program} {w : World} {t e : TypeId} {v : Value} {x : DataW H × List MemPlace} {fuel : Nat} (hsl : P.underlying t = some (.slice e)) (he : P.underlying e = some (.int .i64)) (hce : P.cellsOf e = 1)
    (h : DataW.trod enc P w 0 (fun _ => true) true fuel t [v] = some x) : ∃ a len cap zs, v = .slice a len cap ∧ len ≤ maxLen ∧ Sl w a len zs := by
  rcases open_ints hsl he hce h with ⟨hcs, _⟩ | ⟨x, l, c', zs, hcs, _, hl, hm, hz, _, hcell, _⟩
  · simp at hcs
    subst hcs
    exact ⟨none, 0, 0, [], rfl, Nat.zero_le _, rfl, fun h => by omega⟩
  · simp at hcs
    subst hcs
    simp at hz
    refine ⟨some x, l, c', zs.take l, rfl, by omega, by simp; omega, fun hp => ?_⟩
    obtain ⟨b, off, spot⟩ := x
    have hc0 := hcell 0 (by omega)
    have hspot : spot = none := by simpa [Addr.add] using World.cell?_spot hc0
    subst hspot
    refine ⟨b, off, rfl, World.block_lt_of_cell? _ _ hc0, fun i hi => ?_⟩
    have hadd : (Addr.mk b off none).add i = ⟨b, off + i, none⟩ := by cases i <;> simp [Addr.add]
    have := hcell i (by omega)
    rw [hadd] at this
    rw [this]
    simp [gt, List.getD, hi]

theorem open_num {H : Type} {enc : TypeId × Value → H} {P : Program} {w : World} {t : TypeId} {v : Value} {d : DataW H} {p : List MemPlace} {r : Reach} {b0 : Nat} (ht : P.underlying t = some (.int .i64)) (hv : Value.okWide P w r b0 t v) (h : DataW.Trod enc P w 0 (fun _ => true) true t v d p) : ∃ x, v = .int .i64 x := by
  obtain ⟨n, rfl, _⟩ := open_int ht hv h
  exact ⟨n, rfl⟩

theorem open_words {H : Type} {enc : TypeId × Value → H} {P : Program} {w : World} {t e ti : TypeId} {g0 g1 : Field} {v : Value} {x : DataW H × List MemPlace} {fuel : Nat}
    (hsl : P.underlying t = some (.slice e)) (he : P.underlying e = some (.struct #[g0, g1])) (ce : P.cellsOf e = 2) (o0 : g0.offset = 0) (o1 : g1.offset = 1) (t0 : g0.type = ti) (t1 : g1.type = ti) (hi : P.underlying ti = some (.int .i64)) (ci : P.cellsOf ti = 1)
    (h : DataW.trod enc P w 0 (fun _ => true) true fuel t [v] = some x) : ∃ a n cap ls, v = .slice a n cap ∧ n ≤ maxLen ∧ Swd w a n ls := by
  rcases Go.Deep.open_slice hsl h with ⟨h0, _⟩ | ⟨a, len, cap, m, n, D, Pl, hv, _, hl, hm, hmm, _, hx⟩
  · simp at h0
    exact ⟨none, 0, 0, [], h0, by unfold maxLen; omega, rfl, fun h => by omega⟩
  · simp at hv hmm
    subst hv
    have each : ∀ i, i < len → ∃ q : Int × Int, w.cell? (a.add (i * 2)) = some (.int .i64 q.1) ∧ w.cell? (a.add (i * 2 + 1)) = some (.int .i64 q.2) := by
      intro i hi'
      obtain ⟨cs', h1, h2⟩ := hx i (by omega)
      rw [ce] at h1
      obtain ⟨_, hlen, hcell⟩ := World.cells?_some h1
      obtain ⟨xs, k, _, _, _, hxl, hf⟩ := DataW.trod_struct he h2
      match xs, hxl, cs', hlen with
      | [y0, y1], _, [v0, v1], _ =>
        have f0 := hf 0 g0 rfl
        have f1 := hf 1 g1 rfl
        simp [o0, o1, t0, t1, ci] at f0 f1
        obtain ⟨c0, rfl⟩ := int_cell hi f0
        obtain ⟨c1, rfl⟩ := int_cell hi f1
        have e0 := hcell 0 (by omega)
        have e1 := hcell 1 (by omega)
        rw [Go.Deep.add_add] at e0 e1
        exact ⟨(c0, c1), by simpa using e0, by simpa using e1⟩
    obtain ⟨q, hq⟩ := Go.Deep.choose_lt each
    refine ⟨some a, len, cap, (List.range len).map q, rfl, by omega, by simp, fun hp => ?_⟩
    obtain ⟨b, off, spot⟩ := a
    have hc0 := (hq 0 (by omega)).1
    have hspot : spot = none := by simpa [Addr.add] using World.cell?_spot hc0
    subst hspot
    have hadd : ∀ i, (Addr.mk b off none).add i = ⟨b, off + i, none⟩ := fun i => by cases i <;> simp [Addr.add]
    refine ⟨b, off, rfl, World.block_lt_of_cell? _ _ hc0, fun i hi' => ?_⟩
    obtain ⟨e0, e1⟩ := gt_flw ((List.range len).map q) (i / 2)
    obtain ⟨r0, r1⟩ := hq (i / 2) (by omega)
    rw [hadd] at r0 r1
    have hg : gw ((List.range len).map q) (i / 2) = q (i / 2) := by simp [gw, show i / 2 < len by omega]
    rw [hg] at e0 e1
    rcases (show i = i / 2 * 2 ∨ i = i / 2 * 2 + 1 by omega) with e | e
    · rw [← e] at e0 r0; rw [e0]; exact r0
    · rw [← e] at e1 r1; rw [e1]; exact r1

theorem bool_cell {H : Type} {enc : TypeId × Value → H} {P : Program} {w : World} {e : TypeId} {v : Value} {x : DataW H × List MemPlace} {fuel base : Nat} {sp : Nat → Bool} {hd : Bool}
    (he : P.underlying e = some .bool) (h : DataW.trod enc P w base sp hd fuel e [v] = some x) : ∃ c, v = .bool c := by
  obtain ⟨b, h1, _⟩ := DataW.trod_bool he h
  exact ⟨b, by simpa using h1⟩

theorem open_ctxs {H : Type} {enc : TypeId × Value → H} {P : Program} {w : World} {t e te : TypeId} {g0 g1 g2 : Field} {v : Value} {x : DataW H × List MemPlace} {fuel : Nat}
    (hsl : P.underlying t = some (.slice e)) (he : P.underlying e = some (.struct #[g0, g1, g2])) (ce : P.cellsOf e = 3) (o0 : g0.offset = 0) (o1 : g1.offset = 1) (o2 : g2.offset = 2) (c0 : P.cellsOf g0.type = 1) (c1 : P.cellsOf g1.type = 1) (c2 : P.cellsOf g2.type = 1) (hs0 : P.underlying g0.type = some (.slice te)) (ht : P.underlying te = some (.int .i64)) (hct : P.cellsOf te = 1) (hi : P.underlying g1.type = some (.int .i64)) (hb : P.underlying g2.type = some .bool)
    (h : DataW.trod enc P w 0 (fun _ => true) true fuel t [v] = some x) : ∃ a n cap cs, v = .slice a n cap ∧ n ≤ maxLen ∧ Scx w a n cs := by
  rcases Go.Deep.open_slice hsl h with ⟨h0, _⟩ | ⟨a, len, cap, m, n, D, Pl, hv, _, hl, hm, hmm, _, hx⟩
  · simp at h0
    exact ⟨none, 0, 0, [], h0, by unfold maxLen; omega, rfl, fun h => by omega⟩
  · simp at hv hmm
    subst hv
    have each : ∀ i, i < len → ∃ q : (List Int × Int × Bool) × Option Addr × Nat × Nat, w.cell? (a.add (i * 3)) = some (.slice q.2.1 q.2.2.1 q.2.2.2) ∧ w.cell? (a.add (i * 3 + 1)) = some (.int .i64 q.1.2.1) ∧ w.cell? (a.add (i * 3 + 2)) = some (.bool q.1.2.2) ∧ q.2.2.1 ≤ maxLen ∧ Sl w q.2.1 q.2.2.1 q.1.1 := by
      intro i hi'
      obtain ⟨cs', h1, h2⟩ := hx i (by omega)
      rw [ce] at h1
      obtain ⟨_, hlen, hcell⟩ := World.cells?_some h1
      obtain ⟨xs, k, _, _, _, hxl, hf⟩ := DataW.trod_struct he h2
      match xs, hxl, cs', hlen with
      | [y0, y1, y2], _, [v0, v1, v2], _ =>
        have f0 := hf 0 g0 rfl
        have f1 := hf 1 g1 rfl
        have f2 := hf 2 g2 rfl
        simp [o0, o1, o2, c0, c1, c2] at f0 f1 f2
        obtain ⟨la, ll, lc, zs, rfl, b1, b2⟩ := ints_cell hs0 ht hct f0
        obtain ⟨p, rfl⟩ := int_cell hi f1
        obtain ⟨g, rfl⟩ := bool_cell hb f2
        have e0 := hcell 0 (by omega)
        have e1 := hcell 1 (by omega)
        have e2 := hcell 2 (by omega)
        rw [Go.Deep.add_add] at e0 e1 e2
        exact ⟨((zs, p, g), la, ll, lc), by simpa using e0, by simpa using e1, by simpa using e2, b1, b2⟩
    obtain ⟨q, hq⟩ := Go.Deep.choose_lt each
    refine ⟨some a, len, cap, (List.range len).map (fun i => (q i).1), rfl, by omega, by simp, fun hp => ?_⟩
    obtain ⟨b, off, spot⟩ := a
    have hc0 := (hq 0 (by omega)).1
    have hspot : spot = none := by simpa [Addr.add] using World.cell?_spot hc0
    subst hspot
    have hadd : ∀ i, (Addr.mk b off none).add i = ⟨b, off + i, none⟩ := fun i => by cases i <;> simp [Addr.add]
    refine ⟨b, off, rfl, World.block_lt_of_cell? _ _ hc0, fun i hi' => ?_⟩
    obtain ⟨r0, r1, r2, r3, r4⟩ := hq i hi'
    rw [hadd] at r0 r1 r2
    have hg : gx ((List.range len).map (fun i => (q i).1)) i = (q i).1 := by simp [gx, hi']
    rw [hg]
    exact ⟨_, _, _, r0, r1, r2, r3, r4⟩

set_option maxRecDepth 100000 in
theorem open_lbs {H : Type} {enc : TypeId × Value → H} {w : World} {v : Value} {x : DataW H × List MemPlace} {fuel : Nat}
    (h : DataW.trod enc Try.prog w 0 (fun _ => true) true fuel 24 [v] = some x) : ∃ a n cap xs, v = .slice a n cap ∧ n ≤ maxLen ∧ Slb w a n xs := by
  have hI : Try.prog.cellsOf 2 = 1 := by kernel_rfl
  have hO : Try.prog.cellsOf 25 = 1 := by kernel_rfl
  have ce : Try.prog.cellsOf 64 = 1 := by kernel_rfl
  rcases Go.Deep.open_slice Try.underlying24 h with ⟨h0, _⟩ | ⟨a, len, cap, m, n, D, Pl, hv, _, hl, hm, hmm, _, hx⟩
  · simp at h0
    exact ⟨none, 0, 0, [], h0, by unfold maxLen; omega, rfl, fun h => by omega⟩
  · simp at hv hmm
    subst hv
    have each : ∀ i, i < len → ∃ q : List Int × Option Addr × Nat, w.cell? (a.add i) = some (.slice q.2.1 q.1.length q.2.2) ∧ q.1.length ≤ maxLen ∧ Sl w q.2.1 q.1.length q.1 := by
      intro i hi'
      obtain ⟨cs', h1, h2⟩ := hx i (by omega)
      rw [ce] at h1
      obtain ⟨_, hlen, hcell⟩ := World.cells?_some h1
      match cs', hlen with
      | [v0], _ =>
        obtain ⟨la, ll, lc, lz, rfl, p1, p2⟩ := lab_cell Try.underlying64 rfl hO Try.underlying25 Try.underlying2 hI h2
        obtain rfl : lz.length = ll := p2.1
        have e0 := hcell 0 (by omega)
        rw [Go.Deep.add_add] at e0
        exact ⟨(lz, la, lc), by simpa using e0, p1, p2⟩
    obtain ⟨q, hq⟩ := Go.Deep.choose_lt each
    refine ⟨some a, len, cap, (List.range len).map (fun i => (q i).1), rfl, by omega, by simp, fun hp => ?_⟩
    obtain ⟨b, off, spot⟩ := a
    have hc0 := (hq 0 (by omega)).1
    have hspot : spot = none := by simpa [Addr.add] using World.cell?_spot hc0
    subst hspot
    have hadd : ∀ i, (Addr.mk b off none).add i = ⟨b, off + i, none⟩ := fun i => by cases i <;> simp [Addr.add]
    refine ⟨b, off, rfl, World.block_lt_of_cell? _ _ hc0, fun i hi' => ?_⟩
    obtain ⟨r0, s1, s2⟩ := hq i hi'
    rw [hadd] at r0
    have hg : gL ((List.range len).map (fun i => (q i).1)) i = (q i).1 := by simp [gL, hi']
    rw [hg]
    exact ⟨_, _, r0, s1, s2⟩

set_option maxRecDepth 100000 in
theorem open_seen {H : Type} {enc : TypeId × Value → H} {w : World} {v : Value} {d : DataW H} {p : List MemPlace} {r : Reach} {b0 : Nat}
    (hv : Value.okWide Try.prog w r b0 27 v) (h : DataW.Trod enc Try.prog w 0 (fun _ => true) true 27 v d p) :
    ∃ (A : NA) (D : ND), v = .agg #[.slice A.wa A.wn A.wc, .slice A.xa A.xn A.xc, .slice A.la A.ln A.lc, .slice A.oa A.on A.oc] ∧ RN w A D := by
  have hI : Try.prog.cellsOf 2 = 1 := by kernel_rfl
  have hO : Try.prog.cellsOf 25 = 1 := by kernel_rfl
  have hW : Try.prog.cellsOf 22 = 1 := by kernel_rfl
  have hX : Try.prog.cellsOf 23 = 1 := by kernel_rfl
  have hL : Try.prog.cellsOf 24 = 1 := by kernel_rfl
  obtain ⟨cs, rfl, hsz⟩ := okWide_struct Try.underlying27 hv
  obtain ⟨fuel, hf⟩ := h
  obtain ⟨xs, k, _, _, _, hxl, hfl⟩ := DataW.trod_struct Try.underlying27 hf
  have h4 : cs.size = 4 := hsz.trans (by kernel_rfl)
  match cs, h4, xs, hxl with
  | ⟨[u0, u1, u2, u3]⟩, _, [y0, y1, y2, y3], _ =>
    have f0 := hfl 0 _ rfl
    have f1 := hfl 1 _ rfl
    have f2 := hfl 2 _ rfl
    have f3 := hfl 3 _ rfl
    simp [Value.cells, hO, hW, hX, hL] at f0 f1 f2 f3
    obtain ⟨wa, wn, wc, ws, rfl, b1, b2⟩ := open_words Try.underlying22 Try.underlying70 (by kernel_rfl) rfl rfl rfl rfl Try.underlying2 hI f0
    obtain ⟨xa, xn, xc, cx, rfl, b3, b4⟩ := open_ctxs Try.underlying23 Try.underlying62 (by kernel_rfl) rfl rfl rfl (by kernel_rfl) (by kernel_rfl) (by kernel_rfl) Try.underlying25 Try.underlying2 hI Try.underlying2 Try.underlying4 f1
    obtain ⟨la, ln, lc, ls, rfl, b5, b6⟩ := open_lbs f2
    obtain ⟨oa, on, oc, os, rfl, b7, b8⟩ := ints_cell Try.underlying25 Try.underlying2 hI f3
    exact ⟨⟨wa, wn, wc, xa, xn, xc, la, ln, lc, oa, on, oc⟩, ⟨ws, cx, ls, os⟩, rfl, b1, b2, b3, b4, b5, b6, b7, b8⟩

end Go.Proofs.Ytnlkigjgloeonaa
