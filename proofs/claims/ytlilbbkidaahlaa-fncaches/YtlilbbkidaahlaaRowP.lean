import Derived.Test.YtlilbbkidaahlaaLn
import Derived.Laws.IdiomCopy
import Derived.Laws.OwnMore
import Derived.WalkKit
import Derived.ProofKit
import Derived.OpenShut
import Derived.ShutString
import Derived.ChangeOld
import Derived.Below
import Derived.WalkSpells
import Derived.Deep.QuietTactic
import Derived.BigQuiet
import Derived.Deep.RegionWith
import Derived.Deep.WholeRow
import Derived.Deep.DeepCutAuto
import Derived.Deep.RegionHeld2
import Derived.Deep.AppendLies
import Derived.Deep.RegionLaw
namespace Go.Proofs.Ytlilbbkidaahlaa
open Go.ChangeShapes Go.WideShapes Go.ChangeAt Go.RowKit

/-- numbers as values. -/
abbrev vs3 (ls : List (Int × Int × Int)) : List Value := (fl3 ls).map (Value.int .i64)

theorem length_vs3 (ls : List (Int × Int × Int)) : (vs3 ls).length = ls.length * 3 := by rw [List.length_map, length_fl3]

theorem own_ol {w : World} {B0 : Nat} {e : TypeId} {v : Value} {n : Nat} {ls : List (Int × Int × Int)} (hn : n ≤ 1048576) (hl : ls.length = n) (h : w.ownsRow B0 e 3 v n (vs3 ls)) : ∃ a c, v = .slice a n c ∧ OL (InR B0 w.heap.size) a n ls w := by
  rcases h.2 with ⟨rfl, h0⟩ | ⟨g, cap, cur, rfl, hb, hg, hc, _, hs, ht⟩
  · exact ⟨none, 0, by rw [h0], hl, hn, .inl h0⟩
  · have hlt : g < w.heap.size := (Array.getElem?_eq_some_iff.1 hg).1
    refine ⟨_, cap, rfl, hl, hn, .inr ⟨g, rfl, ⟨hb, hlt⟩, hlt, fun i hi => ?_, fun i => by simp [World.frozen?, hg]⟩⟩
    have hcell := h.cells (g := g) rfl i (.int .i64 (gt (fl3 ls) i)) (by simp [gt, hi])
    have hadd : (Addr.mk g 0 none).add i = ⟨g, i, none⟩ := by cases i <;> simp [Addr.add]
    rwa [hadd] at hcell

/-- a row cut to its first k elements is owned as well. -/
theorem own_take {w : World} {B g n k cap : Nat} {e : TypeId} {xs : List Value} (h : w.ownsRow B e 3 (.slice (some ⟨g, 0, none⟩) n cap) n xs) (hk : k ≤ n) : w.ownsRow B e 3 (.slice (some ⟨g, 0, none⟩) k cap) k (xs.take (k * 3)) := by
  refine ⟨by rw [List.length_take, h.1]; omega, ?_⟩
  rcases h.2 with ⟨h', _⟩ | ⟨g', cap', cur, h', hb, hg, hnc, hcm, hcs, ht⟩
  · simp at h'
  · simp only [Value.slice.injEq, Option.some.injEq, Addr.mk.injEq, and_true, true_and] at h'
    obtain ⟨rfl, rfl⟩ := h'
    refine .inr ⟨g, cap, cur, rfl, hb, hg, by omega, hcm, hcs, ?_⟩
    rw [← ht, List.take_take, Nat.min_eq_left (by omega)]

theorem own_room {w : World} {B g n cap : Nat} {e : TypeId} {xs : List Value} (h : w.ownsRow B e 3 (.slice (some ⟨g, 0, none⟩) n cap) n xs) : n ≤ cap ∧ cap ≤ maxLen ∧ B ≤ g ∧ g < w.heap.size := by
  rcases h.2 with ⟨h', _⟩ | ⟨g', cap', cur, h', hb, hg, hnc, hcm, hcs, ht⟩
  · simp at h'
  · simp only [Value.slice.injEq, Option.some.injEq, Addr.mk.injEq, and_true, true_and] at h'
    obtain ⟨rfl, rfl⟩ := h'
    exact ⟨hnc, hcm, hb, (Array.getElem?_eq_some_iff.1 hg).1⟩

theorem own_cell {w : World} {B g n cap : Nat} {e : TypeId} {ys : List Int} (h : w.ownsRow B e 3 (.slice (some ⟨g, 0, none⟩) n cap) n (ys.map (Value.int .i64))) {j : Nat} (hj : j < n * 3) : w.cell? ⟨g, j, none⟩ = some (.int .i64 (gt ys j)) := by
  have hl : ys.length = n * 3 := by have := h.1; rwa [List.length_map] at this
  have hcell := h.cells (g := g) rfl j (.int .i64 (gt ys j)) (by simp [gt, show j < ys.length by omega])
  have hadd : (Addr.mk g 0 none).add j = ⟨g, j, none⟩ := by cases j <;> simp [Addr.add]
  rwa [hadd] at hcell

theorem own_below {w w' : World} {B n : Nat} {e : TypeId} {v : Value} {xs : List Value} (h : w.ownsRow B e 3 v n xs) (hb : Below w.heap.size w w') : w'.ownsRow B e 3 v n xs := by
  refine ⟨h.1, ?_⟩
  rcases h.2 with h' | ⟨g, cap, cur, h', hB, hg, r⟩
  · exact .inl h'
  · exact .inr ⟨g, cap, cur, h', hB, (hb.block g (Array.getElem?_eq_some_iff.1 hg).1).trans hg, r⟩

theorem own_mono {w : World} {B B' n : Nat} {e : TypeId} {v : Value} {xs : List Value} (h : w.ownsRow B e 3 v n xs) (hb : B' ≤ B) : w.ownsRow B' e 3 v n xs := by
  refine ⟨h.1, ?_⟩
  rcases h.2 with h' | ⟨g, cap, cur, h', hB, r⟩
  · exact .inl h'
  · exact .inr ⟨g, cap, cur, h', by omega, r⟩

/-- numbers put in place of three. -/
def put3 (ys : List Int) (k : Nat) (x : Int × Int × Int) : List Int := ((ys.set (k * 3) x.1).set (k * 3 + 1) x.2.1).set (k * 3 + 2) x.2.2

theorem put3_take {ys : List Int} {k : Nat} (x : Int × Int × Int) (h : (k + 1) * 3 ≤ ys.length) : (put3 ys k x).take ((k + 1) * 3) = ys.take (k * 3) ++ [x.1, x.2.1, x.2.2] := by
  apply List.ext_getElem
  · simp [put3]; omega
  · intro i h1 h2
    simp [put3] at h1
    simp only [put3, List.getElem_take, List.getElem_append, List.length_take, List.getElem_set]
    rcases (show i < k * 3 ∨ i = k * 3 ∨ i = k * 3 + 1 ∨ i = k * 3 + 2 by omega) with e | e | e | e
    · rw [dif_pos (by omega), if_neg (by omega), if_neg (by omega), if_neg (by omega)]
    · subst e
      rw [dif_neg (by omega), if_neg (by omega), if_neg (by omega), if_pos rfl]
      simp [show min (k * 3) ys.length = k * 3 by omega]
    · subst e
      rw [dif_neg (by omega), if_neg (by omega), if_pos rfl]
      simp [show min (k * 3) ys.length = k * 3 by omega]
    · subst e
      rw [dif_neg (by omega), if_pos rfl]
      simp [show min (k * 3) ys.length = k * 3 by omega]

theorem own_set3 {w : World} {B g n cap : Nat} {e : TypeId} {ys : List Int} (h : w.ownsRow B e 3 (.slice (some ⟨g, 0, none⟩) n cap) n (ys.map (Value.int .i64))) (k : Nat) (x : Int × Int × Int) : (set3 w g (k * 3) x).ownsRow B e 3 (.slice (some ⟨g, 0, none⟩) n cap) n ((put3 ys k x).map (Value.int .i64)) := by
  have h1 := (h.stored (k * 3) (.int .i64 x.1)).1
  have h2 := (h1.stored (k * 3 + 1) (.int .i64 x.2.1)).1
  have h3 := (h2.stored (k * 3 + 2) (.int .i64 x.2.2)).1
  simpa [put3, set3, List.map_set] using h3

theorem own_zero : ∀ (m o : Nat) {w : World} {B g n cap : Nat} {e : TypeId} {ys : List Int}, w.ownsRow B e 3 (.slice (some ⟨g, 0, none⟩) n cap) n (ys.map (Value.int .i64)) →
    ∃ zs : List Int, zs.take o = ys.take o ∧ (w.setCells g o (List.replicate m (.int .i64 0))).ownsRow B e 3 (.slice (some ⟨g, 0, none⟩) n cap) n (zs.map (Value.int .i64))
  | 0, _, _, _, _, _, _, _, ys, h => ⟨ys, rfl, h⟩
  | m + 1, o, w, B, g, n, cap, e, ys, h => by
    have h1 := (h.stored o (.int .i64 0)).1
    have h2 : (w.setCell ⟨g, o, none⟩ (.int .i64 0)).ownsRow B e 3 (.slice (some ⟨g, 0, none⟩) n cap) n ((ys.set o 0).map (Value.int .i64)) := by simpa [List.map_set] using h1
    obtain ⟨zs, e1, e2⟩ := own_zero m (o + 1) h2
    refine ⟨zs, ?_, e2⟩
    have := congrArg (List.take o) e1
    rw [List.take_take, List.take_take, Nat.min_eq_left (by omega)] at this
    rw [this]
    apply List.ext_getElem?
    intro i
    by_cases hi : i < o
    · rw [List.getElem?_take_of_lt hi, List.getElem?_take_of_lt hi, List.getElem?_set_ne (by omega)]
    · rw [List.getElem?_take_eq_none (by omega), List.getElem?_take_eq_none (by omega)]

theorem below_setCells {w : World} {B g : Nat} : ∀ (vs : List Value) (o : Nat) {u : World}, Below B w u → B ≤ g → Below B w (u.setCells g o vs)
  | [], _, _, h, _ => h
  | v :: r, o, u, h, hg => below_setCells (u := u.setCell ⟨g, o, none⟩ v) r (o + 1) (h.setCell (by exact hg) v) hg

theorem run_clear_lines {P : Program} (w : World) (t e ty : TypeId) (ht : P.underlying t = some (.slice e)) (hv : ∀ w, (zeroValue e).run P w = .ok (.agg #[.int .i64 0, .int .i64 0, .int .i64 0]) w) (b o n c : Nat) (hn : 0 < n)
    (hc : ∀ j, j < n * 3 → ∃ v, w.cell? ⟨b, o + j, none⟩ = some v) (hf : ∀ j, w.frozen? ⟨b, o + j, none⟩ = false) :
    (Builtin.clear_ #[t] ty #[.slice (some ⟨b, o, none⟩) n c]).run P w = .ok (.tuple #[]) (w.setCells b o (List.replicate (n * 3) (.int .i64 0))) := by
  have hzc : (Builtin.zeroCells (Value.agg #[.int .i64 0, .int .i64 0, .int .i64 0]).cells n).toList = List.replicate (n * 3) (.int .i64 0) := by
    simp [Builtin.zeroCells, Value.cells]
    apply List.ext_getElem
    · simp
    · intro i h1 h2
      simp
      rcases (show i % 3 = 0 ∨ i % 3 = 1 ∨ i % 3 = 2 by omega) with h | h | h <;> simp [h]
  have hst := run_storeCells_cells (P := P) b o (List.replicate (n * 3) (.int .i64 0)) 0 w (by intro j hj; obtain ⟨v, hv⟩ := hc j (by simpa using hj); simp [hv]) (by intro j _; simpa using hf j) (by intro v hv'; rw [List.eq_of_mem_replicate hv']; rfl)
  simp only [Nat.add_zero] at hst
  obtain ⟨m, rfl⟩ : ∃ m, n = m + 1 := ⟨n - 1, by omega⟩
  simp [Builtin.clear_, run_underlying ht, hv, hzc, hst]

theorem news_sln {w : World} {b off n : Nat} {ls : List (Int × Int × Int)} (hl : ls.length = n) (hc : ∀ i, i < n * 3 → w.cell? ⟨b, off + i, none⟩ = some (.int .i64 (gt (fl3 ls) i))) :
    ∀ j u, (vs3 ls)[j]? = some u → w.cell? ((Addr.mk b off none).add j) = some u :=
  ints_at_sl (zs := fl3 ls) (fun i hi => hc i (by rw [length_fl3] at hi; omega))

end Go.Proofs.Ytlilbbkidaahlaa
