import Derived.Test.YtipfaoecodclaaaObP
import Derived.Test.YtipfaoecodclaaaRows
import Derived.Deep.Slices
import Derived.Deep.SlicePairs
import Derived.Deep.Strs
import Derived.ChangeSame
import Derived.WalkKit
import Derived.ProofKit
import Derived.OpenShut
import Derived.ShutString
import Derived.ChangeOld
import Derived.Below
import Derived.WalkSpells
import Derived.Deep.QuietTactic
import Derived.BigQuiet
import Derived.Deep.RegionWith
import Derived.Deep.WholeRow
import Derived.Deep.DeepCutAuto
import Derived.Deep.RegionHeld2
import Derived.Deep.AppendLies
import Derived.Deep.RegionLaw
namespace Go.Proofs.Ytipfaoecodclaaa
open Go.ChangeShapes Go.WideShapes Go.ChangeAt Go.RowKit

theorem lab_cell {H : Type} {enc : TypeId × Value → H} {P : Program} {w : World} {t e : TypeId} {f0 : Field} {v : Value} {x : DataW H × List MemPlace} {fuel : Nat}
    (hs : P.underlying t = some (.struct #[f0])) (h0 : f0.offset = 0) (h1 : P.cellsOf f0.type = 1) (hsl : P.underlying f0.type = some (.slice e)) (he : P.underlying e = some (.int .i64)) (hce : P.cellsOf e = 1)
    (h : DataW.trod enc P w 0 (fun _ => true) true fuel t [v] = some x) : ∃ a len cap zs, v = .slice a len cap ∧ len ≤ maxLen ∧ Sl w a len zs := by
  obtain ⟨y0, n, _, _, hy⟩ := trod_struct1 hs h
  rw [h0, h1] at hy
  rcases open_ints hsl he hce hy with ⟨hcs, _⟩ | ⟨x, l, c', zs, hcs, _, hl, hm, hz, _, hcell, _⟩
  · simp at hcs
    subst hcs
    exact ⟨none, 0, 0, [], rfl, Nat.zero_le _, rfl, fun h => by omega⟩
  · simp at hcs
    subst hcs
    simp at hz
    refine ⟨some x, l, c', zs.take l, rfl, by omega, by simp; omega, fun hp => ?_⟩
    obtain ⟨b, off, spot⟩ := x
    have hc0 := hcell 0 (by omega)
    have hspot : spot = none := by simpa [Addr.add] using World.cell?_spot hc0
    subst hspot
    refine ⟨b, off, rfl, World.block_lt_of_cell? _ _ hc0, fun i hi => ?_⟩
    have hadd : (Addr.mk b off none).add i = ⟨b, off + i, none⟩ := by cases i <;> simp [Addr.add]
    have := hcell i (by omega)
    rw [hadd] at this
    rw [this]
    simp [gt, List.getD, hi]

theorem int_cell {H : Type} {enc : TypeId × Value → H} {P : Program} {w : World} {e : TypeId} {v : Value} {x : DataW H × List MemPlace} {fuel base : Nat} {sp : Nat → Bool} {hd : Bool}
    (he : P.underlying e = some (.int .i64)) (h : DataW.trod enc P w base sp hd fuel e [v] = some x) : ∃ c, v = .int .i64 c := by
  cases fuel with
  | zero => simp [DataW.trod] at h
  | succ n =>
    cases v <;> simp [DataW.trod, he] at h
    exact ⟨_, by rw [h.1.1]⟩

theorem ints_cell {H : Type} {enc : TypeId × Value → H} {P : Program} {w : World} {t e : TypeId} {v : Value} {x : DataW H × List MemPlace} {fuel : Nat} (hsl : P.underlying t = some (.slice e)) (he : P.underlying e = some (.int .i64)) (hce : P.cellsOf e = 1)
    (h : DataW.trod enc P w 0 (fun _ => true) true fuel t [v] = some x) : ∃ a len cap zs, v = .slice a len cap ∧ len ≤ maxLen ∧ Sl w a len zs := by
  rcases open_ints hsl he hce h with ⟨hcs, _⟩ | ⟨x, l, c', zs, hcs, _, hl, hm, hz, _, hcell, _⟩
  · simp at hcs
    subst hcs
    exact ⟨none, 0, 0, [], rfl, Nat.zero_le _, rfl, fun h => by omega⟩
  · simp at hcs
    subst hcs
    simp at hz
    refine ⟨some x, l, c', zs.take l, rfl, by omega, by simp; omega, fun hp => ?_⟩
    obtain ⟨b, off, spot⟩ := x
    have hc0 := hcell 0 (by omega)
    have hspot : spot = none := by simpa [Addr.add] using World.cell?_spot hc0
    subst hspot
    refine ⟨b, off, rfl, World.block_lt_of_cell? _ _ hc0, fun i hi => ?_⟩
    have hadd : (Addr.mk b off none).add i = ⟨b, off + i, none⟩ := by cases i <;> simp [Addr.add]
    have := hcell i (by omega)
    rw [hadd] at this
    rw [this]
    simp [gt, List.getD, hi]

theorem open_num {H : Type} {enc : TypeId × Value → H} {P : Program} {w : World} {t : TypeId} {v : Value} {d : DataW H} {p : List MemPlace} {r : Reach} {b0 : Nat} (ht : P.underlying t = some (.int .i64)) (hv : Value.okWide P w r b0 t v) (h : DataW.Trod enc P w 0 (fun _ => true) true t v d p) : ∃ x, v = .int .i64 x := by
  obtain ⟨n, rfl, _⟩ := open_int ht hv h
  exact ⟨n, rfl⟩

set_option maxRecDepth 100000 in
theorem open_objs {H : Type} {enc : TypeId × Value → H} {w : World} {v : Value} {x : DataW H × List MemPlace} {fuel : Nat}
    (h : DataW.trod enc Try.prog w 0 (fun _ => true) true fuel 22 [v] = some x) : ∃ a n cap xs, v = .slice a n cap ∧ n ≤ maxLen ∧ Sob w a n xs := by
  have hI : Try.prog.cellsOf 2 = 1 := by kernel_rfl
  have hO : Try.prog.cellsOf 25 = 1 := by kernel_rfl
  have hLb : Try.prog.cellsOf 27 = 1 := by kernel_rfl
  have ce : Try.prog.cellsOf 69 = 7 := by kernel_rfl
  rcases Go.Deep.open_slice Try.underlying22 h with ⟨h0, _⟩ | ⟨a, len, cap, m, n, D, Pl, hv, _, hl, hm, hmm, _, hx⟩
  · simp at h0
    exact ⟨none, 0, 0, [], h0, by unfold maxLen; omega, rfl, fun h => by omega⟩
  · simp at hv hmm
    subst hv
    have each : ∀ i, i < len → ∃ q : OB × Option Addr × Nat × Option Addr × Nat, (w.cell? (a.add (i * 7)) = some (.int .i64 q.1.1) ∧ w.cell? (a.add (i * 7 + 1)) = some (.int .i64 q.1.2.1) ∧ w.cell? (a.add (i * 7 + 2)) = some (.int .i64 q.1.2.2.1) ∧ w.cell? (a.add (i * 7 + 3)) = some (.slice q.2.1 q.1.2.2.2.1.length q.2.2.1) ∧ w.cell? (a.add (i * 7 + 4)) = some (.int .i64 q.1.2.2.2.2.1) ∧ w.cell? (a.add (i * 7 + 5)) = some (.int .i64 q.1.2.2.2.2.2.1) ∧ w.cell? (a.add (i * 7 + 6)) = some (.slice q.2.2.2.1 q.1.2.2.2.2.2.2.length q.2.2.2.2)) ∧ q.1.2.2.2.1.length ≤ maxLen ∧ Sl w q.2.1 q.1.2.2.2.1.length q.1.2.2.2.1 ∧ q.1.2.2.2.2.2.2.length ≤ maxLen ∧ Sl w q.2.2.2.1 q.1.2.2.2.2.2.2.length q.1.2.2.2.2.2.2 := by
      intro i hi'
      obtain ⟨cs', h1, h2⟩ := hx i (by omega)
      rw [ce] at h1
      obtain ⟨_, hlen, hcell⟩ := World.cells?_some h1
      obtain ⟨ys, k, _, _, _, hxl, hf⟩ := DataW.trod_struct Try.underlying69 h2
      match ys, hxl, cs', hlen with
      | [y0, y1, y2, y3, y4, y5, y6], _, [v0, v1, v2, v3, v4, v5, v6], _ =>
        have f0 := hf 0 _ rfl
        have f1 := hf 1 _ rfl
        have f2 := hf 2 _ rfl
        have f3 := hf 3 _ rfl
        have f4 := hf 4 _ rfl
        have f5 := hf 5 _ rfl
        have f6 := hf 6 _ rfl
        simp [hI, hO, hLb] at f0 f1 f2 f3 f4 f5 f6
        obtain ⟨u0, rfl⟩ := int_cell Try.underlying2 f0
        obtain ⟨u1, rfl⟩ := int_cell Try.underlying2 f1
        obtain ⟨u2, rfl⟩ := int_cell Try.underlying2 f2
        obtain ⟨la, ll, lc, lz, rfl, p1, p2⟩ := lab_cell Try.underlying27 rfl hO Try.underlying25 Try.underlying2 hI f3
        obtain ⟨u4, rfl⟩ := int_cell Try.underlying2 f4
        obtain ⟨u5, rfl⟩ := int_cell Try.underlying2 f5
        obtain ⟨da, dl, dc, dz, rfl, p3, p4⟩ := ints_cell Try.underlying25 Try.underlying2 hI f6
        obtain rfl : lz.length = ll := p2.1
        obtain rfl : dz.length = dl := p4.1
        have e0 := hcell 0 (by omega)
        have e1 := hcell 1 (by omega)
        have e2 := hcell 2 (by omega)
        have e3 := hcell 3 (by omega)
        have e4 := hcell 4 (by omega)
        have e5 := hcell 5 (by omega)
        have e6 := hcell 6 (by omega)
        rw [Go.Deep.add_add] at e0 e1 e2 e3 e4 e5 e6
        exact ⟨((u0, u1, u2, lz, u4, u5, dz), la, lc, da, dc), ⟨by simpa using e0, by simpa using e1, by simpa using e2, by simpa using e3, by simpa using e4, by simpa using e5, by simpa using e6⟩, p1, p2, p3, p4⟩
    obtain ⟨q, hq⟩ := Go.Deep.choose_lt each
    refine ⟨some a, len, cap, (List.range len).map (fun i => (q i).1), rfl, by omega, by simp, fun hp => ?_⟩
    obtain ⟨b, off, spot⟩ := a
    have hc0 := (hq 0 (by omega)).1.1
    have hspot : spot = none := by simpa [Addr.add] using World.cell?_spot hc0
    subst hspot
    have hadd : ∀ i, (Addr.mk b off none).add i = ⟨b, off + i, none⟩ := fun i => by cases i <;> simp [Addr.add]
    refine ⟨b, off, rfl, World.block_lt_of_cell? _ _ hc0, fun i hi' => ?_⟩
    obtain ⟨⟨r0, r1, r2, r3, r4, r5, r6⟩, s1, s2, s3, s4⟩ := hq i hi'
    rw [hadd] at r0 r1 r2 r3 r4 r5 r6
    have hg : gO ((List.range len).map (fun i => (q i).1)) i = (q i).1 := by simp [gO, hi']
    rw [hg]
    exact ⟨_, _, _, _, ⟨r0, r1, r2, r3, r4, r5, r6⟩, s1, s2, s3, s4⟩

set_option maxRecDepth 100000 in
theorem open_kernel {H : Type} {enc : TypeId × Value → H} {w : World} {v : Value} {d : DataW H} {p : List MemPlace} {r : Reach} {b0 : Nat}
    (hv : Value.okWide Try.prog w r b0 24 v) (h : DataW.Trod enc Try.prog w 0 (fun _ => true) true 24 v d p) :
    ∃ a n cap xs, v = .agg #[.slice a n cap] ∧ n ≤ maxLen ∧ Sob w a n xs := by
  obtain ⟨cs, rfl, hsz⟩ := okWide_struct Try.underlying24 hv
  obtain ⟨fuel, hf⟩ := h
  obtain ⟨y0, m0, _, _, hy⟩ := trod_struct1 Try.underlying24 hf
  obtain ⟨c, rfl⟩ : ∃ c, cs = #[c] := by
    have : cs.size = 1 := hsz.trans (by kernel_rfl)
    exact Array.size_eq_one_iff.1 this
  have h1 : Try.prog.cellsOf 22 = 1 := by kernel_rfl
  simp [Value.cells, h1] at hy
  obtain ⟨a, n, cap, xs, rfl, b1, b2⟩ := open_objs hy
  exact ⟨a, n, cap, xs, rfl, b1, b2⟩

end Go.Proofs.Ytipfaoecodclaaa
