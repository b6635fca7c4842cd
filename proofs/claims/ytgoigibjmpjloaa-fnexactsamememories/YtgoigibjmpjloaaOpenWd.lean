import Derived.Test.YtgoigibjmpjloaaWd
import Derived.Deep.Slices
import Derived.Deep.Strs
import Derived.ChangeSame
import Derived.WalkKit
import Derived.ProofKit
import Derived.OpenShut
import Derived.ShutString
import Derived.ChangeOld
import Derived.Below
import Derived.WalkSpells
import Derived.Deep.QuietTactic
import Derived.BigQuiet
import Derived.Deep.RegionWith
import Derived.Deep.WholeRow
import Derived.Deep.DeepCutAuto
import Derived.Deep.RegionHeld2
import Derived.Deep.AppendLies
import Derived.Deep.RegionLaw
namespace Go.Proofs.Ytgoigibjmpjloaa
open Go.ChangeShapes Go.WideShapes Go.ChangeAt Go.RowKit

theorem int_cell {H : Type} {enc : TypeId × Value → H} {P : Program} {w : World} {e : TypeId} {v : Value} {x : DataW H × List MemPlace} {fuel base : Nat} {sp : Nat → Bool} {hd : Bool}
    (he : P.underlying e = some (.int .i64)) (h : DataW.trod enc P w base sp hd fuel e [v] = some x) : ∃ c, v = .int .i64 c := by
  cases fuel with
  | zero => simp [DataW.trod] at h
  | succ n =>
    cases v <;> simp [DataW.trod, he] at h
    exact ⟨_, by rw [h.1.1]⟩

theorem open_words {H : Type} {enc : TypeId × Value → H} {P : Program} {w : World} {t e ti : TypeId} {g0 g1 : Field} {v : Value} {x : DataW H × List MemPlace} {fuel : Nat}
    (hsl : P.underlying t = some (.slice e)) (he : P.underlying e = some (.struct #[g0, g1])) (ce : P.cellsOf e = 2) (o0 : g0.offset = 0) (o1 : g1.offset = 1) (t0 : g0.type = ti) (t1 : g1.type = ti) (hi : P.underlying ti = some (.int .i64)) (ci : P.cellsOf ti = 1)
    (h : DataW.trod enc P w 0 (fun _ => true) true fuel t [v] = some x) : ∃ a n cap ls, v = .slice a n cap ∧ n ≤ maxLen ∧ Swd w a n ls := by
  rcases Go.Deep.open_slice hsl h with ⟨h0, _⟩ | ⟨a, len, cap, m, n, D, Pl, hv, _, hl, hm, hmm, _, hx⟩
  · simp at h0
    exact ⟨none, 0, 0, [], h0, by unfold maxLen; omega, rfl, fun h => by omega⟩
  · simp at hv hmm
    subst hv
    have each : ∀ i, i < len → ∃ q : Int × Int, w.cell? (a.add (i * 2)) = some (.int .i64 q.1) ∧ w.cell? (a.add (i * 2 + 1)) = some (.int .i64 q.2) := by
      intro i hi'
      obtain ⟨cs', h1, h2⟩ := hx i (by omega)
      rw [ce] at h1
      obtain ⟨_, hlen, hcell⟩ := World.cells?_some h1
      obtain ⟨xs, k, _, _, _, hxl, hf⟩ := DataW.trod_struct he h2
      match xs, hxl, cs', hlen with
      | [y0, y1], _, [v0, v1], _ =>
        have f0 := hf 0 g0 rfl
        have f1 := hf 1 g1 rfl
        simp [o0, o1, t0, t1, ci] at f0 f1
        obtain ⟨c0, rfl⟩ := int_cell hi f0
        obtain ⟨c1, rfl⟩ := int_cell hi f1
        have e0 := hcell 0 (by omega)
        have e1 := hcell 1 (by omega)
        rw [Go.Deep.add_add] at e0 e1
        exact ⟨(c0, c1), by simpa using e0, by simpa using e1⟩
    obtain ⟨q, hq⟩ := Go.Deep.choose_lt each
    refine ⟨some a, len, cap, (List.range len).map q, rfl, by omega, by simp, fun hp => ?_⟩
    obtain ⟨b, off, spot⟩ := a
    have hc0 := (hq 0 (by omega)).1
    have hspot : spot = none := by simpa [Addr.add] using World.cell?_spot hc0
    subst hspot
    have hadd : ∀ i, (Addr.mk b off none).add i = ⟨b, off + i, none⟩ := fun i => by cases i <;> simp [Addr.add]
    refine ⟨b, off, rfl, World.block_lt_of_cell? _ _ hc0, fun i hi' => ?_⟩
    obtain ⟨e0, e1⟩ := gt_flw ((List.range len).map q) (i / 2)
    obtain ⟨r0, r1⟩ := hq (i / 2) (by omega)
    rw [hadd] at r0 r1
    have hg : gw ((List.range len).map q) (i / 2) = q (i / 2) := by simp [gw, show i / 2 < len by omega]
    rw [hg] at e0 e1
    rcases (show i = i / 2 * 2 ∨ i = i / 2 * 2 + 1 by omega) with e | e
    · rw [← e] at e0 r0; rw [e0]; exact r0
    · rw [← e] at e1 r1; rw [e1]; exact r1

theorem open_mem {H : Type} {enc : TypeId × Value → H} {P : Program} {w : World} {t e ti : TypeId} {f0 g0 g1 : Field} {v : Value} {d : DataW H} {p : List MemPlace} {r : Reach} {b0 : Nat}
    (hs : P.underlying t = some (.struct #[f0])) (a0 : f0.offset = 0) (z0 : P.cellsOf f0.type = 1) (hC : P.cellsOf t = 1) (hsl : P.underlying f0.type = some (.slice e))
    (he : P.underlying e = some (.struct #[g0, g1])) (ce : P.cellsOf e = 2) (o0 : g0.offset = 0) (o1 : g1.offset = 1) (t0 : g0.type = ti) (t1 : g1.type = ti) (hi : P.underlying ti = some (.int .i64)) (ci : P.cellsOf ti = 1)
    (hv : Value.okWide P w r b0 t v) (h : DataW.Trod enc P w 0 (fun _ => true) true t v d p) :
    ∃ a n c ls, v = .agg #[.slice a n c] ∧ n ≤ maxLen ∧ Swd w a n ls := by
  obtain ⟨cs, rfl, hsz⟩ := okWide_struct hs hv
  obtain ⟨fuel, hf⟩ := h
  obtain ⟨xs, k, _, _, _, hxl, hff⟩ := DataW.trod_struct hs hf
  obtain ⟨u0, rfl⟩ : ∃ u0, cs = #[u0] := by
    have h2 : cs.size = 1 := hsz.trans hC
    match cs, h2 with
    | ⟨[x]⟩, _ => exact ⟨x, rfl⟩
  match xs, hxl with
  | [y0], _ =>
    have f := hff 0 f0 rfl
    rw [a0, z0] at f
    obtain ⟨a, n, c, ls, rfl, b1, b2⟩ := open_words hsl he ce o0 o1 t0 t1 hi ci (by simpa [Value.cells] using f)
    exact ⟨a, n, c, ls, rfl, b1, b2⟩

theorem open_num {H : Type} {enc : TypeId × Value → H} {P : Program} {w : World} {t : TypeId} {v : Value} {d : DataW H} {p : List MemPlace} {r : Reach} {b0 : Nat} (ht : P.underlying t = some (.int .i64)) (hv : Value.okWide P w r b0 t v) (h : DataW.Trod enc P w 0 (fun _ => true) true t v d p) : ∃ x, v = .int .i64 x := by
  obtain ⟨n, rfl, _⟩ := open_int ht hv h
  exact ⟨n, rfl⟩

end Go.Proofs.Ytgoigibjmpjloaa
