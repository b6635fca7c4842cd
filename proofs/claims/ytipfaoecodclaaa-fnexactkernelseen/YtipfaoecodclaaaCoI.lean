import Derived.Test.YtipfaoecodclaaaCoP
import Derived.Test.YtipfaoecodclaaaAppAny
import Derived.Lib.SliceRun
import Derived.WalkKit
import Derived.ProofKit
import Derived.OpenShut
import Derived.ShutString
import Derived.ChangeOld
import Derived.Below
import Derived.WalkSpells
import Derived.Deep.QuietTactic
import Derived.BigQuiet
import Derived.Deep.RegionWith
import Derived.Deep.WholeRow
import Derived.Deep.DeepCutAuto
import Derived.Deep.RegionHeld2
import Derived.Deep.AppendLies
import Derived.Deep.RegionLaw
namespace Go.Proofs.Ytipfaoecodclaaa
open Go.ChangeShapes Go.WideShapes Go.ChangeAt Go.RowKit

/-- the cells of a row of objects that came in, as one list. -/
theorem flat_objs {w : World} {b off : Nat} {f : Nat → OB} : ∀ n, (∀ i, i < n → ∃ la lc da dc, O7 w b (off + i * 7) (f i) la lc da dc) → ∃ L : List Value, C7 L (lsO f n) ∧ (∀ u ∈ L, u.oneCell' = true) ∧ ∀ j u, L[j]? = some u → w.cell? ⟨b, off + j, none⟩ = some u := by
  intro n
  induction n with
  | zero => intro _; exact ⟨[], C7.nil, by simp, by simp⟩
  | succ n ih =>
    intro h
    obtain ⟨L, hC, h1, hc⟩ := ih (fun i hi => h i (by omega))
    obtain ⟨la, lc, da, dc, h7⟩ := h n (by omega)
    have hl : L.length = n * 7 := by rw [hC.1, length_lsO]
    have e : lsO f (n + 1) = lsO f n ++ [f n] := by unfold lsO; rw [List.range_succ, List.map_append]; rfl
    refine ⟨L ++ v7 (f n) la lc da dc, by rw [e]; exact hC.app _ _ _ _ _, fun u hu => ?_, fun j u hu => ?_⟩
    · rcases List.mem_append.1 hu with h2 | h2
      · exact h1 u h2
      · exact v7_one _ _ _ _ _ u h2
    · by_cases hj : j < n * 7
      · rw [List.getElem?_append_left (by omega)] at hu
        exact hc j u hu
      · rw [List.getElem?_append_right (by omega), hl] at hu
        have hj7 : j - n * 7 < 7 := by have := (List.getElem?_eq_some_iff.1 hu).1; simpa [v7] using this
        obtain ⟨m, rfl⟩ : ∃ m, j = n * 7 + m := ⟨j - n * 7, by omega⟩
        rw [Nat.add_sub_cancel_left] at hu hj7
        obtain ⟨t0, t1, t2, t3, t4, t5, t6⟩ := h7
        rw [← Nat.add_assoc]
        match m, hj7, hu with
        | 0, _, hu => simp [v7] at hu; subst hu; exact t0
        | 1, _, hu => simp [v7] at hu; subst hu; exact t1
        | 2, _, hu => simp [v7] at hu; subst hu; exact t2
        | 3, _, hu => simp [v7] at hu; subst hu; exact t3
        | 4, _, hu => simp [v7] at hu; subst hu; exact t4
        | 5, _, hu => simp [v7] at hu; subst hu; exact t5
        | 6, _, hu => simp [v7] at hu; subst hu; exact t6

set_option maxRecDepth 100000 in
set_option maxHeartbeats 2000000 in
/-- slices.Clone: a new row, its labels and data are still those of the row that came in. -/
theorem cloneO_calls (a : Option Addr) (n c : Nat) (f : Nat → OB) (w : World) (hn1 : 0 < n) (hn : n ≤ 1000) (hs : S7 w a n f) :
    Calls Try.prog 53 #[.slice a n c] w fun e w' => ∃ g cc L, e = .returned (.slice (some ⟨g, 0, none⟩) n cc) ∧ w'.ownsRow w.heap.size 57 7 (.slice (some ⟨g, 0, none⟩) n cc) n L ∧ C7 L (lsO f n) ∧ Below w.heap.size w w' := by
  obtain ⟨b, off, rfl, hb, hc⟩ := hs hn1
  obtain ⟨i0, hi, hz0, hz1, hz2⟩ := info_parts infoObject
  obtain ⟨L, hC, h1, hL⟩ := flat_objs (w := w) (b := b) (off := off) (f := f) n hc
  have hl : L.length = n * 7 := by rw [hC.1, length_lsO]
  have hnil := fun (u : World) (x : Option Addr) (m c : Nat) => Lib.run_eql_slice_nil (P := Try.prog) u 30 57 x m c 0 0 Try.underlying30
  have hb0 : Below w.heap.size w (w.alloc (.cells #[] 57)) := (Below.refl _ _).alloc (Nat.le_refl _) _
  have HO := hide (owns_empty w w.heap.size 57 7 (Nat.le_refl _))
  have HN : Hid (∀ j u, L[j]? = some u → (w.alloc (.cells #[] 57)).cell? ((⟨b, off, none⟩ : Addr).add j) = some u) := fun j u hu => by
    have hadd : (Addr.mk b off none).add j = ⟨b, off + j, none⟩ := by cases j <;> simp [Addr.add]
    rw [hadd]
    exact (hb0.cell (p := ⟨b, off + j, none⟩) hb).trans (hL j u hu)
  have HL := hide hl
  have H1 := hide h1
  have HM1 : Hid (0 + n ≤ maxLen) := by show _ ≤ _; unfold maxLen; omega
  have HM2 : Hid ((0 + n) * 88 ≤ 140737488355328) := by show _ ≤ _; omega
  have HBS : Hid (w.heap.size ≤ (w.alloc (.cells #[] 57)).heap.size) := by show _ ≤ _; simp
  have HB0 := hide hb0
  have HC := hide hC
  clear hC h1 hL hl hb0 hs hc
  go_enter Try.func53, Try.ntmps53
  go_wp2_with (first
    | (at_builtin; refine wpList_append_own _ rfl _ _ 30 rfl w.heap.size 57 i0 (.agg #[.int .i64 0, .int .i64 0, .int .i64 0, .slice none 0 0, .int .i64 0, .int .i64 0, .slice none 0 0]) 7 88 Try.underlying30 hi hz0 hz1 hz2 rfl (by decide) _ 0 [] rfl HO.out ⟨b, off, none⟩ n c L rfl HL.out HN.out H1.out HM1.out HM2.out HBS.out ?_)
    | go_in)
  intro v' w1 hown' hgrow _
  have hown2 : w1.ownsRow w.heap.size 57 7 v' n L := by simpa using hown'
  have h2 : Below w.heap.size w w1 := HB0.out.grown hgrow (by simp) (fun k hk => by simp [Value.ownBlock] at hk; omega)
  rcases hown2.2 with ⟨_, e⟩ | ⟨g, cap, cur, rfl, _⟩
  · omega
  have HW := hide hown2
  have HE := hide h2
  clear hown' hown2 hgrow h2
  go_wp2
  go_ret
  exact ⟨g, cap, L, rfl, HW.out, HC.out, HE.out⟩

/-- the first k objects have labels and data of their own. -/
structure CH (wr : World) (B : Nat) (f : Nat → OB) (k n g c : Nat) (la : Nat → Option Addr) (lc lb : Nat → Nat) (xs : List Value) : Prop where
  own : wr.ownsRow B 57 7 (.slice (some ⟨g, 0, none⟩) n c) n xs
  x : ∀ i, i < k → ∀ j u, (v7 (f i) (la (2 * i)) (lc (2 * i)) (la (2 * i + 1)) (lc (2 * i + 1)))[j]? = some u → xs[i * 7 + j]? = some u
  y : ∀ i, k ≤ i → i < n → ∃ l1 c1 l2 c2, ∀ j u, (v7 (f i) l1 c1 l2 c2)[j]? = some u → xs[i * 7 + j]? = some u
  os : ∀ q, q < 2 * k → OS (fun b => b = lb q ∧ 0 < (sbO f q).length) (la q) (sbO f q).length (sbO f q) wr
  ge : ∀ q, q < 2 * k → 0 < (sbO f q).length → B ≤ lb q ∧ lb q < wr.heap.size ∧ lb q ≠ g
  ap : ∀ q r, q < 2 * k → r < 2 * k → q ≠ r → 0 < (sbO f q).length → 0 < (sbO f r).length → lb q ≠ lb r

theorem CH.start {wr : World} {B : Nat} {f : Nat → OB} {n g c : Nat} {L : List Value} (h : wr.ownsRow B 57 7 (.slice (some ⟨g, 0, none⟩) n c) n L) (hC : C7 L (lsO f n)) : CH wr B f 0 n g c (fun _ => none) (fun _ => 0) (fun _ => 0) L := by
  refine ⟨h, fun i hi => by omega, fun i _ hi => ?_, fun q hq => by omega, fun q hq => by omega, fun q r hq => by omega⟩
  obtain ⟨l1, c1, l2, c2, h1⟩ := hC.2 i (by rw [length_lsO]; exact hi)
  rw [gO_lsO hi] at h1
  exact ⟨l1, c1, l2, c2, h1⟩

theorem CH.co {wr : World} {B : Nat} {f : Nat → OB} {n g c : Nat} {la : Nat → Option Addr} {lc lb : Nat → Nat} {xs : List Value} (h : CH wr B f n n g c la lc lb xs) : CO wr B f n (.slice (some ⟨g, 0, none⟩) n c) la lc lb xs :=
  ⟨h.own, h.x, h.os, fun q hq hl => ⟨(h.ge q hq hl).1, (h.ge q hq hl).2.1⟩, fun q hq hl e => (h.ge q hq hl).2.2 (by injection e with e; exact e.symm), h.ap⟩

theorem CH.below {wr w' : World} {B : Nat} {f : Nat → OB} {k n g c : Nat} {la : Nat → Option Addr} {lc lb : Nat → Nat} {xs : List Value} (h : CH wr B f k n g c la lc lb xs) (hc : Below wr.heap.size wr w') : CH w' B f k n g c la lc lb xs :=
  ⟨ownR_below h.own hc, h.x, h.y, fun q hq => OS.loc.below hc (h.os q hq), fun q hq hl => ⟨(h.ge q hq hl).1, by have := (h.ge q hq hl).2; have := hc.size; omega, (h.ge q hq hl).2.2⟩, h.ap⟩

end Go.Proofs.Ytipfaoecodclaaa
