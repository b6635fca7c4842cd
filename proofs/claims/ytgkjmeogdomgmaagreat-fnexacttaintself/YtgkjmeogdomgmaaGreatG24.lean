import Derived.Test.YtgkjmeogdomgmaaGreatG12
import Derived.Test.YtgkjmeogdomgmaaGreatG14
import Derived.Laws.IdiomCopy
import Derived.Laws.OwnMore
import Derived.Lib.SliceRun
import Derived.Deep.Onto
import Derived.Laws.CopyRow
import Derived.WalkKit
import Derived.ProofKit
import Derived.OpenShut
import Derived.ShutString
import Derived.ChangeOld
import Derived.Below
import Derived.WalkSpells
import Derived.Deep.QuietTactic
import Derived.BigQuiet
import Derived.Deep.RegionWith
import Derived.Deep.WholeRow
import Derived.Deep.DeepCutAuto
import Derived.Deep.RegionHeld2
import Derived.Deep.AppendLies
import Derived.Deep.RegionLaw
namespace Go.Proofs.YtgkjmeogdomgmaaGreat
open Go.ChangeShapes Go.WideShapes Go.ChangeAt Go.RowKit

/-- numbers as values. -/
abbrev vs3 (ls : List (Int × Int × Int)) : List Value := (fl3 ls).map (Value.int .i64)

theorem length_vs3 (ls : List (Int × Int × Int)) : (vs3 ls).length = ls.length * 3 := by rw [List.length_map, length_fl3]

theorem own_ol {w : World} {B0 : Nat} {e : TypeId} {v : Value} {n : Nat} {ls : List (Int × Int × Int)} (hn : n ≤ 1048576) (hl : ls.length = n) (h : w.ownsRow B0 e 3 v n (vs3 ls)) : ∃ a c, v = .slice a n c ∧ OL (InR B0 w.heap.size) a n ls w := by
  rcases h.2 with ⟨rfl, h0⟩ | ⟨g, cap, cur, rfl, hb, hg, hc, _, hs, ht⟩
  · exact ⟨none, 0, by rw [h0], hl, hn, .inl h0⟩
  · have hlt : g < w.heap.size := (Array.getElem?_eq_some_iff.1 hg).1
    refine ⟨_, cap, rfl, hl, hn, .inr ⟨g, rfl, ⟨hb, hlt⟩, hlt, fun i hi => ?_, fun i => by simp [World.frozen?, hg]⟩⟩
    have hcell := h.cells (g := g) rfl i (.int .i64 (gt (fl3 ls) i)) (by simp [gt, hi])
    have hadd : (Addr.mk g 0 none).add i = ⟨g, i, none⟩ := by cases i <;> simp [Addr.add]
    rwa [hadd] at hcell

/-- a row cut to its first k elements is owned as well. -/
theorem own_take {w : World} {B g n k cap : Nat} {e : TypeId} {xs : List Value} (h : w.ownsRow B e 3 (.slice (some ⟨g, 0, none⟩) n cap) n xs) (hk : k ≤ n) : w.ownsRow B e 3 (.slice (some ⟨g, 0, none⟩) k cap) k (xs.take (k * 3)) := by
  refine ⟨by rw [List.length_take, h.1]; omega, ?_⟩
  rcases h.2 with ⟨h', _⟩ | ⟨g', cap', cur, h', hb, hg, hnc, hcm, hcs, ht⟩
  · simp at h'
  · simp only [Value.slice.injEq, Option.some.injEq, Addr.mk.injEq, and_true, true_and] at h'
    obtain ⟨rfl, rfl⟩ := h'
    refine .inr ⟨g, cap, cur, rfl, hb, hg, by omega, hcm, hcs, ?_⟩
    rw [← ht, List.take_take, Nat.min_eq_left (by omega)]

theorem own_room {w : World} {B g n cap : Nat} {e : TypeId} {xs : List Value} (h : w.ownsRow B e 3 (.slice (some ⟨g, 0, none⟩) n cap) n xs) : n ≤ cap ∧ cap ≤ maxLen ∧ B ≤ g ∧ g < w.heap.size := by
  rcases h.2 with ⟨h', _⟩ | ⟨g', cap', cur, h', hb, hg, hnc, hcm, hcs, ht⟩
  · simp at h'
  · simp only [Value.slice.injEq, Option.some.injEq, Addr.mk.injEq, and_true, true_and] at h'
    obtain ⟨rfl, rfl⟩ := h'
    exact ⟨hnc, hcm, hb, (Array.getElem?_eq_some_iff.1 hg).1⟩

theorem own_cell {w : World} {B g n cap : Nat} {e : TypeId} {ys : List Int} (h : w.ownsRow B e 3 (.slice (some ⟨g, 0, none⟩) n cap) n (ys.map (Value.int .i64))) {j : Nat} (hj : j < n * 3) : w.cell? ⟨g, j, none⟩ = some (.int .i64 (gt ys j)) := by
  have hl : ys.length = n * 3 := by have := h.1; rwa [List.length_map] at this
  have hcell := h.cells (g := g) rfl j (.int .i64 (gt ys j)) (by simp [gt, show j < ys.length by omega])
  have hadd : (Addr.mk g 0 none).add j = ⟨g, j, none⟩ := by cases j <;> simp [Addr.add]
  rwa [hadd] at hcell

theorem own_below {w w' : World} {B n : Nat} {e : TypeId} {v : Value} {xs : List Value} (h : w.ownsRow B e 3 v n xs) (hb : Below w.heap.size w w') : w'.ownsRow B e 3 v n xs := by
  refine ⟨h.1, ?_⟩
  rcases h.2 with h' | ⟨g, cap, cur, h', hB, hg, r⟩
  · exact .inl h'
  · exact .inr ⟨g, cap, cur, h', hB, (hb.block g (Array.getElem?_eq_some_iff.1 hg).1).trans hg, r⟩

theorem own_mono {w : World} {B B' n : Nat} {e : TypeId} {v : Value} {xs : List Value} (h : w.ownsRow B e 3 v n xs) (hb : B' ≤ B) : w.ownsRow B' e 3 v n xs := by
  refine ⟨h.1, ?_⟩
  rcases h.2 with h' | ⟨g, cap, cur, h', hB, r⟩
  · exact .inl h'
  · exact .inr ⟨g, cap, cur, h', by omega, r⟩

/-- numbers put in place of three. -/
def put3 (ys : List Int) (k : Nat) (x : Int × Int × Int) : List Int := ((ys.set (k * 3) x.1).set (k * 3 + 1) x.2.1).set (k * 3 + 2) x.2.2

theorem put3_take {ys : List Int} {k : Nat} (x : Int × Int × Int) (h : (k + 1) * 3 ≤ ys.length) : (put3 ys k x).take ((k + 1) * 3) = ys.take (k * 3) ++ [x.1, x.2.1, x.2.2] := by
  apply List.ext_getElem
  · simp [put3]; omega
  · intro i h1 h2
    simp [put3] at h1
    simp only [put3, List.getElem_take, List.getElem_append, List.length_take, List.getElem_set]
    rcases (show i < k * 3 ∨ i = k * 3 ∨ i = k * 3 + 1 ∨ i = k * 3 + 2 by omega) with e | e | e | e
    · rw [dif_pos (by omega), if_neg (by omega), if_neg (by omega), if_neg (by omega)]
    · subst e
      rw [dif_neg (by omega), if_neg (by omega), if_neg (by omega), if_pos rfl]
      simp [show min (k * 3) ys.length = k * 3 by omega]
    · subst e
      rw [dif_neg (by omega), if_neg (by omega), if_pos rfl]
      simp [show min (k * 3) ys.length = k * 3 by omega]
    · subst e
      rw [dif_neg (by omega), if_pos rfl]
      simp [show min (k * 3) ys.length = k * 3 by omega]

theorem own_set3 {w : World} {B g n cap : Nat} {e : TypeId} {ys : List Int} (h : w.ownsRow B e 3 (.slice (some ⟨g, 0, none⟩) n cap) n (ys.map (Value.int .i64))) (k : Nat) (x : Int × Int × Int) : (set3 w g (k * 3) x).ownsRow B e 3 (.slice (some ⟨g, 0, none⟩) n cap) n ((put3 ys k x).map (Value.int .i64)) := by
  have h1 := (h.stored (k * 3) (.int .i64 x.1)).1
  have h2 := (h1.stored (k * 3 + 1) (.int .i64 x.2.1)).1
  have h3 := (h2.stored (k * 3 + 2) (.int .i64 x.2.2)).1
  simpa [put3, set3, List.map_set] using h3

theorem own_zero : ∀ (m o : Nat) {w : World} {B g n cap : Nat} {e : TypeId} {ys : List Int}, w.ownsRow B e 3 (.slice (some ⟨g, 0, none⟩) n cap) n (ys.map (Value.int .i64)) →
    ∃ zs : List Int, zs.take o = ys.take o ∧ (w.setCells g o (List.replicate m (.int .i64 0))).ownsRow B e 3 (.slice (some ⟨g, 0, none⟩) n cap) n (zs.map (Value.int .i64))
  | 0, _, _, _, _, _, _, _, ys, h => ⟨ys, rfl, h⟩
  | m + 1, o, w, B, g, n, cap, e, ys, h => by
    have h1 := (h.stored o (.int .i64 0)).1
    have h2 : (w.setCell ⟨g, o, none⟩ (.int .i64 0)).ownsRow B e 3 (.slice (some ⟨g, 0, none⟩) n cap) n ((ys.set o 0).map (Value.int .i64)) := by simpa [List.map_set] using h1
    obtain ⟨zs, e1, e2⟩ := own_zero m (o + 1) h2
    refine ⟨zs, ?_, e2⟩
    have := congrArg (List.take o) e1
    rw [List.take_take, List.take_take, Nat.min_eq_left (by omega)] at this
    rw [this]
    apply List.ext_getElem?
    intro i
    by_cases hi : i < o
    · rw [List.getElem?_take_of_lt hi, List.getElem?_take_of_lt hi, List.getElem?_set_ne (by omega)]
    · rw [List.getElem?_take_eq_none (by omega), List.getElem?_take_eq_none (by omega)]

theorem below_setCells {w : World} {B g : Nat} : ∀ (vs : List Value) (o : Nat) {u : World}, Below B w u → B ≤ g → Below B w (u.setCells g o vs)
  | [], _, _, h, _ => h
  | v :: r, o, u, h, hg => below_setCells (u := u.setCell ⟨g, o, none⟩ v) r (o + 1) (h.setCell (by exact hg) v) hg

theorem run_clear_lines {P : Program} (w : World) (t e ty : TypeId) (ht : P.underlying t = some (.slice e)) (hv : ∀ w, (zeroValue e).run P w = .ok (.agg #[.int .i64 0, .int .i64 0, .int .i64 0]) w) (b o n c : Nat) (hn : 0 < n)
    (hc : ∀ j, j < n * 3 → ∃ v, w.cell? ⟨b, o + j, none⟩ = some v) (hf : ∀ j, w.frozen? ⟨b, o + j, none⟩ = false) :
    (Builtin.clear_ #[t] ty #[.slice (some ⟨b, o, none⟩) n c]).run P w = .ok (.tuple #[]) (w.setCells b o (List.replicate (n * 3) (.int .i64 0))) := by
  have hzc : (Builtin.zeroCells (Value.agg #[.int .i64 0, .int .i64 0, .int .i64 0]).cells n).toList = List.replicate (n * 3) (.int .i64 0) := by
    simp [Builtin.zeroCells, Value.cells]
    apply List.ext_getElem
    · simp
    · intro i h1 h2
      simp
      rcases (show i % 3 = 0 ∨ i % 3 = 1 ∨ i % 3 = 2 by omega) with h | h | h <;> simp [h]
  have hst := run_storeCells_cells (P := P) b o (List.replicate (n * 3) (.int .i64 0)) 0 w (by intro j hj; obtain ⟨v, hv⟩ := hc j (by simpa using hj); simp [hv]) (by intro j _; simpa using hf j) (by intro v hv'; rw [List.eq_of_mem_replicate hv']; rfl)
  simp only [Nat.add_zero] at hst
  obtain ⟨m, rfl⟩ : ∃ m, n = m + 1 := ⟨n - 1, by omega⟩
  simp [Builtin.clear_, run_underlying ht, hv, hzc, hst]

theorem news_sln {w : World} {b off n : Nat} {ls : List (Int × Int × Int)} (hl : ls.length = n) (hc : ∀ i, i < n * 3 → w.cell? ⟨b, off + i, none⟩ = some (.int .i64 (gt (fl3 ls) i))) :
    ∀ j u, (vs3 ls)[j]? = some u → w.cell? ((Addr.mk b off none).add j) = some u :=
  ints_at_sl (zs := fl3 ls) (fun i hi => hc i (by rw [length_fl3] at hi; omega))

set_option maxRecDepth 100000 in
set_option maxHeartbeats 1000000 in
theorem cloneL_calls (a : Option Addr) (n cap : Nat) (ls : List (Int × Int × Int)) (w : World) (hn : n ≤ 1048576) (hs : Sln w a n ls) :
    Calls Tryz.prog 150 #[.slice a n cap] w fun e w' => ∃ v, e = .returned v ∧ w'.ownsRow w.heap.size 160 3 v n (vs3 ls) ∧ Below w.heap.size w w' := by
  obtain ⟨hlen, hs⟩ := hs
  obtain ⟨i0, hi, hz0, hz1, hz2⟩ := info_parts infoLine
  have hnil := fun (u : World) (x : Option Addr) (m c : Nat) => Lib.run_eql_slice_nil (P := Tryz.prog) u 48 160 x m c 0 0 Tryz.underlying48
  have hb0 := fun o1 => (Below.refl w.heap.size w).alloc (Nat.le_refl _) o1
  by_cases hp : 0 < n
  · obtain ⟨b, off, rfl, hb, hc⟩ := hs hp
    have hown := World.ownsRow_lit (base := w.heap.size) (e := 160) (size := 3) w #[] 0 (Nat.le_refl _) (Nat.zero_le _) rfl
    have hnews := news_sln (w := w.alloc (.cells #[] 160)) (b := b) (off := off) hlen (fun i hi => ((hb0 _).cell (p := ⟨b, off + i, none⟩) hb).trans (hc i (by omega)))
    have HO := hide hown
    have HN := hide hnews
    have HL : Hid ((vs3 ls).length = n * 3) := by show _ = _; rw [length_vs3, hlen]
    have HM1 : Hid (0 + n ≤ maxLen) := by show _ ≤ _; unfold maxLen; omega
    have HM2 : Hid ((0 + n) * 24 ≤ 140737488355328) := by show _ ≤ _; omega
    have HBS : Hid (w.heap.size ≤ (w.alloc (.cells #[] 160)).heap.size) := by show _ ≤ _; simp
    clear hown hnews hs hc
    go_enter Tryz.func150, Tryz.ntmps150
    go_wp2_with (first
      | (at_builtin; refine wpList_append_own _ rfl _ _ 48 rfl w.heap.size 160 i0 (.agg #[.int .i64 0, .int .i64 0, .int .i64 0]) 3 24 Tryz.underlying48 hi hz0 hz1 hz2 rfl (by decide) _ 0 [] rfl HO.out ⟨b, off, none⟩ n cap (vs3 ls) rfl HL.out HN.out ints_one HM1.out HM2.out HBS.out ?_)
      | go_in)
    intro v' w1 hown' hgrow _
    have hown2 : w1.ownsRow w.heap.size 160 3 v' n (vs3 ls) := by simpa using hown'
    have h1 : Below w.heap.size w w1 := (hb0 _).grown hgrow (by simp) (fun k hk => by simp [Value.ownBlock] at hk; omega)
    have HFR := hide hown2
    have HB1 := hide h1
    clear HO HN hown' hown2 hgrow hb0 h1
    go_wp2
    go_ret
    exact ⟨_, rfl, HFR.out, HB1.out⟩
  · have h0 : n = 0 := by omega
    subst h0
    have hl0 : ls = [] := List.length_eq_zero_iff.1 hlen
    subst hl0
    cases a
    · go_enter Tryz.func150, Tryz.ntmps150
      go_wp2
      go_ret
      exact ⟨_, rfl, World.ownsRow_nil _ _ _ _, Below.refl _ _⟩
    · have HO := hide (World.ownsRow_lit (base := w.heap.size) (e := 160) (size := 3) w #[] 0 (Nat.le_refl _) (Nat.zero_le _) rfl)
      go_enter Tryz.func150, Tryz.ntmps150
      go_wp2
      go_ret
      exact ⟨_, rfl, HO.out, hb0 _⟩

theorem own_lit0 (X : World) (T : TypeId) {B : Nat} (h : B ≤ X.heap.size) : (X.alloc (.cells #[] T)).ownsRow B T 3 (.slice (some ⟨X.heap.size, 0, none⟩) 0 0) 0 [] :=
  ⟨rfl, .inr ⟨X.heap.size, 0, #[], rfl, h, heap_alloc_new X _, Nat.le_refl _, Nat.zero_le _, rfl, rfl⟩⟩

theorem own_drew {w : World} {B n : Nat} {e : TypeId} {v : Value} {xs : List Value} (h : w.ownsRow B e 3 v n xs) : w.drew.ownsRow B e 3 v n xs := h

theorem grow_far {X w1 : World} {row : Option Nat} (hg : X.grownBy w1 row) {b o : Nat} {v : Value} (hb : b < X.heap.size) (hne : some b ≠ row) (hc : X.cell? ⟨b, o, none⟩ = some v) (hf : X.frozen? ⟨b, o, none⟩ = false) : w1.cell? ⟨b, o, none⟩ = some v ∧ w1.frozen? ⟨b, o, none⟩ = false :=
  ⟨(World.cell?_of_block (a := ⟨b, o, none⟩) (hg.block b hb hne)).trans hc, (World.frozen?_of_block (a := ⟨b, o, none⟩) (hg.block b hb hne)).trans hf⟩

theorem own_set_below {w : World} {B n P o : Nat} {e : TypeId} {v : Value} {xs : List Value} (h : w.ownsRow B e 3 v n xs) (hP : P < B) (u : Value) : (w.setCell ⟨P, o, none⟩ u).ownsRow B e 3 v n xs := ownsRow_setCell_below h (by exact hP) u

set_option maxRecDepth 100000 in
set_option maxHeartbeats 1000000 in
theorem l4Copy_R (s : Int) (a : Option Addr) (n c : Nat) (ls : List (Int × Int × Int)) (w : World) (hn : n ≤ 1048576) (hs : Sln w a n ls) :
    Calls Tryz.prog 59 #[.agg #[.int .i64 s, .slice a n c]] w fun e w' => ∃ ra rc, e = .returned (.agg #[.int .i64 s, .slice ra n rc]) ∧ w'.ownsRow w.heap.size 160 3 (.slice ra n rc) n (vs3 ls) ∧ Below w.heap.size w w' := by
  obtain ⟨hlen, hs⟩ := hs
  obtain ⟨i0, hi, hz0, hz1, hz2⟩ := info_parts infoLine
  have M0 := ((Mm.start w).alloc2 (.int .i64 s) (.slice a n c) 50).alloc2 (.int .i64 0) (.slice none 0 0) 50
  try simp only [World.size_alloc] at M0
  have HO := hide (own_drew (own_lit0 (((w.alloc (.cells #[.int .i64 s, .slice a n c] 50)).alloc (.cells #[.int .i64 0, .slice none 0 0] 50))) 160 (B := w.heap.size + 1 + 1) (by simp)))
  simp only [World.size_alloc] at HO
  by_cases hp : 0 < n
  · obtain ⟨b, off, rfl, hb, hc⟩ := hs hp
    have M1 := M0.below ((Below.refl _ _).alloc (Nat.le_refl _) (.cells #[] 160))
    have HN := hide (news_sln (w := (((w.alloc (.cells #[.int .i64 s, .slice (some ⟨b, off, none⟩) n c] 50)).alloc (.cells #[.int .i64 0, .slice none 0 0] 50)).alloc (.cells #[] 160)).drew) (b := b) (off := off) hlen (fun i hi => (M1.bel.cell (p := ⟨b, off + i, none⟩) hb).trans (hc i hi)))
    have HL : Hid ((vs3 ls).length = n * 3) := by show _ = _; rw [length_vs3, hlen]
    have HM := hide M1.drew
    clear M0 M1 hs hc
    go_enter Tryz.func59, Tryz.ntmps59
    go_wp2_with fail
    go_region_law (refine step_append_lies _ rfl _ _ 48 rfl (w.heap.size + 1 + 1) 160 i0 (.agg #[.int .i64 0, .int .i64 0, .int .i64 0]) 3 24 Tryz.underlying48 hi hz0 hz1 hz2 rfl (by decide) (.slice (some ⟨w.heap.size + 1 + 1, 0, none⟩) 0 0) 0 [] rfl HO.out ⟨b, off, none⟩ n c (vs3 ls) rfl HL.out HN.out ints_one hp (by unfold maxLen; omega) (by omega) (by simp) (w.heap.size + 1 + 1 + 1) (by simp) ?_; intro g cp w1 hown1 hgrow hat hlt1; simp only [Nat.zero_add, List.nil_append] at hown1 ⊢; obtain ⟨c0, f0⟩ := grow_far hgrow (b := w.heap.size + 1) (o := 0) (by simp) (by simp [Value.ownBlock]) (HM.out.cell 0 rfl) (HM.out.fz 0 rfl); obtain ⟨c1, f1⟩ := grow_far hgrow (b := w.heap.size + 1) (o := 1) (by simp) (by simp [Value.ownBlock]) (HM.out.cell 1 rfl) (HM.out.fz 1 rfl); have c2 := (grow_far hgrow (b := w.heap.size) (o := 0) (by simp; omega) (by simp [Value.ownBlock]; omega) (HM.out.cell 2 rfl) (HM.out.fz 2 rfl)).1; have HB := hide (HM.out.bel.grown hgrow (by simp; omega) (fun k hk => by simp [Value.ownBlock] at hk; omega)); have HW := hide hown1; clear hown1 hgrow hat hlt1)
    all_goals (
      go_wp2
      refine bodyPost_ret (v := .agg #[.int .i64 s, .slice (some ⟨g, 0, none⟩) n cp]) (by simp [results, Tryz.results59, go_sem, c0, c1]) rfl ⟨_, _, rfl, ?_, ?_⟩
      · exact own_mono (own_set_below (own_set_below HW.out (by omega) _) (by omega) _) (by omega)
      · exact (HB.out.setCell (by simp) _).setCell (by simp) _)
  · have h0 : n = 0 := by omega
    subst h0
    have hl0 : ls = [] := List.length_eq_zero_iff.1 hlen
    subst hl0
    have HE : Hid (∀ o1 o2 : Obj, (((w.alloc o1).alloc o2).alloc (.cells #[] 160)).drew.ownsRow w.heap.size 160 3 (.slice (some ⟨w.heap.size + 1 + 1, 0, none⟩) 0 0) 0 []) := fun o1 o2 => by
      have h := own_lit0 ((w.alloc o1).alloc o2) 160 (B := w.heap.size) (by simp; omega)
      simp only [World.size_alloc] at h
      exact own_drew h
    have HB := hide fun o1 o2 o3 => ((((Below.refl w.heap.size w).alloc (Nat.le_refl _) o1).alloc (by simp) o2).alloc (by simp; omega) o3).drew
    clear M0
    cases a
    all_goals (
      go_enter Tryz.func59, Tryz.ntmps59
      go_wp2_with fail
      go_region
      all_goals (
        go_wp2
        exact bodyPost_ret (v := .agg #[.int .i64 s, .slice (some ⟨w.heap.size + 1 + 1, 0, none⟩) 0 0]) (by simp [results, Tryz.results59, go_sem]) rfl ⟨_, _, rfl, HE.out _ _, HB.out _ _ _⟩))

abbrev vsw (ls : List (Int × Int)) : List Value := (flw ls).map (Value.int .i64)

theorem length_vsw (ls : List (Int × Int)) : (vsw ls).length = ls.length * 2 := by rw [List.length_map, length_flw]

theorem ints_onew {ls : List (Int × Int)} : ∀ v ∈ vsw ls, v.oneCell' = true := by
  intro v hv
  obtain ⟨z, _, rfl⟩ := List.mem_map.1 hv
  rfl

theorem own_owd {w : World} {B0 : Nat} {e : TypeId} {v : Value} {n : Nat} {ls : List (Int × Int)} (hn : n ≤ 1048576) (hl : ls.length = n) (h : w.ownsRow B0 e 2 v n (vsw ls)) : ∃ a c, v = .slice a n c ∧ OWd (InR B0 w.heap.size) a n ls w := by
  rcases h.2 with ⟨rfl, h0⟩ | ⟨g, cap, cur, rfl, hb, hg, hc, _, hs, ht⟩
  · exact ⟨none, 0, by rw [h0], hl, hn, .inl h0⟩
  · have hlt : g < w.heap.size := (Array.getElem?_eq_some_iff.1 hg).1
    refine ⟨_, cap, rfl, hl, hn, .inr ⟨g, rfl, ⟨hb, hlt⟩, hlt, fun i hi => ?_, fun i => by simp [World.frozen?, hg]⟩⟩
    have hcell := h.cells (g := g) rfl i (.int .i64 (gt (flw ls) i)) (by simp [gt, hi])
    have hadd : (Addr.mk g 0 none).add i = ⟨g, i, none⟩ := by cases i <;> simp [Addr.add]
    rwa [hadd] at hcell

theorem news_swd {w : World} {b off n : Nat} {ls : List (Int × Int)} (hlen : ls.length = n) (hc : ∀ i, i < n * 2 → w.cell? ⟨b, off + i, none⟩ = some (.int .i64 (gt (flw ls) i))) : ∀ j u, (vsw ls)[j]? = some u → w.cell? ((Addr.mk b off none).add j) = some u := by
  intro j u hj
  have hj2 : j < (vsw ls).length := (List.getElem?_eq_some_iff.1 hj).1
  rw [length_vsw] at hj2
  have hadd : (Addr.mk b off none).add j = ⟨b, off + j, none⟩ := by cases j <;> simp [Addr.add]
  rw [hadd, hc j (by omega), ← hj]
  have hf : j < (flw ls).length := by rw [length_flw]; omega
  simp [gt, hf]

theorem infoWord2 : (Tryz.prog.info? 154).map (·.size) = some 2 := by kernel_rfl

theorem copy_w {P : Program} (U : World) (dT sT ty elem t : TypeId) (b off n ca : Nat) (ls : List (Int × Int)) (cur : Array Value) (hu : P.underlying dT = some (.slice elem)) (hs : (P.info? elem).map (·.size) = some 2) (hcur : cur.size = n * 2) (hlen : ls.length = n)
    (hb : b < U.heap.size) (hc : ∀ i, i < n * 2 → U.cell? ⟨b, off + i, none⟩ = some (.int .i64 (gt (flw ls) i))) :
    Sem.run P (Builtin.copy_ #[dT, sT] ty #[.slice (some ⟨U.heap.size, 0, none⟩) n n, .slice (some ⟨b, off, none⟩) n ca]) (U.alloc (.cells cur t)) = .ok (.int .i64 n) (U.alloc (.cells (vsw ls).toArray t)) := by
  have hsrc : ∀ j v, (vsw ls)[j]? = some v → (U.alloc (.cells cur t)).cell? ((Addr.mk b off none).add j) = some v := fun j v hj => by
    have h := news_swd hlen hc j v hj
    have hadd : (Addr.mk b off none).add j = ⟨b, off + j, none⟩ := by cases j <;> simp [Addr.add]
    rw [hadd] at h ⊢
    rw [World.cell?_alloc_past _ _ _ hb]
    exact h
  have hl := run_loadCells_list (P := P) (U.alloc (.cells cur t)) ⟨b, off, none⟩ (vsw ls) hsrc
  have hst := run_storeCells_at P U.heap.size 0 t (vsw ls) 0 cur (U.alloc (.cells cur t)) (heap_alloc_new U _) (by rw [length_vsw]; omega) ints_onew
  have hL : (vsw ls).length = n * 2 := by rw [length_vsw, hlen]
  have e : (cur.toList.take (0 + 0) ++ vsw ls ++ cur.toList.drop (0 + 0 + (vsw ls).length)).toArray = (vsw ls).toArray := by
    have : cur.toList.drop (0 + 0 + (vsw ls).length) = [] := by apply List.drop_eq_nil_of_le; rw [hL]; simp [hcur]
    rw [this]; simp
  rw [e, World.setRow_alloc_new] at hst
  rw [hL] at hl
  cases hq : P.info? elem with
  | none => simp [hq] at hs
  | some i =>
    have hi : i.size = 2 := by simpa [hq] using hs
    have hmin : Nat.min n n = n := Nat.min_self n
    simp [Builtin.copy_, run_underlying hu, Builtin.lenOf, Builtin.firstCells, sizeOf, typeInfo, hq, hi, hmin, hl, hst, goInt]

theorem copy_w0 {P : Program} (U : World) (dT sT ty elem : TypeId) (d a : Option Addr) (ca cb : Nat) (hu : P.underlying dT = some (.slice elem)) (hs : (P.info? elem).map (·.size) = some 2) :
    Sem.run P (Builtin.copy_ #[dT, sT] ty #[.slice d 0 cb, .slice a 0 ca]) U = .ok (.int .i64 0) U := by
  cases hq : P.info? elem with
  | none => simp [hq] at hs
  | some i =>
    have hl : ∀ (x : Addr), (loadCells x 0).run P U = .ok #[] U := fun x => by simpa using run_loadCells_list (P := P) U x [] (by simp)
    cases d <;> cases a <;> simp [Builtin.copy_, run_underlying hu, Builtin.lenOf, Builtin.firstCells, sizeOf, typeInfo, hq, storeCells, hl, goInt]

theorem blk_vsw (U : World) (ls : List (Int × Int)) (t : TypeId) : Blk (U.alloc (.cells (vsw ls).toArray t)) U.heap.size (flw ls) := by
  refine ⟨by simp, fun i hi => ?_, fun i => by simp⟩
  rw [World.cell?_alloc_new]
  simp [gt, hi]

set_option maxRecDepth 100000 in
theorem copiedMemory_O (a : Option Addr) (n c : Nat) (ls : List (Int × Int)) (w : World) (hn : n ≤ 1048576) (hs : Swd w a n ls) :
    Calls Tryz.prog 149 #[.agg #[.slice a n c]] w fun e w' => ∃ ra rc, e = .returned (.agg #[.slice ra n rc]) ∧ OWd (InR w.heap.size w'.heap.size) ra n ls w' ∧ Below w.heap.size w w' := by
  obtain ⟨hlen, hs⟩ := hs
  obtain ⟨i0, hi, hz0, hz1, hz2⟩ := info_parts infoWord
  have hmk : ∀ u : World, (Instr.makeSlice 44 (.int .i64 (n : Int)) (.int .i64 (n : Int))).run Tryz.prog u =
      .ok (.slice (some ⟨u.heap.size, 0, none⟩) n n) (u.alloc (.cells (madeCells #[.int .i64 0, .int .i64 0] (n * 2)) 154)) := fun u => by
    have h := run_make (P := Tryz.prog) u 44 154 i0 (.agg #[.int .i64 0, .int .i64 0]) Tryz.underlying44 hi hz0 .i64 .i64 (n : Int) (n : Int) (by omega) (Int.le_refl _) (by rw [hz2]; omega) (by omega)
    simpa [hz1, Value.cells] using h
  have HB := hide fun o1 o2 o3 => (((Below.refl w.heap.size w).alloc (Nat.le_refl _) o1).alloc (by simp) o2).alloc (by simp; omega) o3
  by_cases hp : 0 < n
  · obtain ⟨b, off, rfl, hb, hc⟩ := hs hp
    have hcp : Sem.run Tryz.prog (Builtin.copy_ #[44, 44] 3 #[.slice (some ⟨w.heap.size + 1 + 1, 0, none⟩) n n, .slice (some ⟨b, off, none⟩) n c])
        (((w.alloc (.cells #[.slice (some ⟨b, off, none⟩) n c] 46)).alloc (.cells #[.slice none 0 0] 46)).alloc (.cells (madeCells #[.int .i64 0, .int .i64 0] (n * 2)) 154)) =
        .ok (.int .i64 n) (((w.alloc (.cells #[.slice (some ⟨b, off, none⟩) n c] 46)).alloc (.cells #[.slice none 0 0] 46)).alloc (.cells (vsw ls).toArray 154)) := by
      have h := copy_w (P := Tryz.prog) ((w.alloc (.cells #[.slice (some ⟨b, off, none⟩) n c] 46)).alloc (.cells #[.slice none 0 0] 46)) 44 44 3 154 154 b off n c ls (madeCells #[.int .i64 0, .int .i64 0] (n * 2)) Tryz.underlying44 infoWord2 (by rw [size_madeCells]) hlen (by simp; omega) (fun j hj => by rw [World.cell?_alloc_past _ _ _ (by simp; omega), World.cell?_alloc_past _ _ _ hb]; exact hc j hj)
      rw [show ((w.alloc (.cells #[.slice (some ⟨b, off, none⟩) n c] 46)).alloc (.cells #[.slice none 0 0] 46)).heap.size = w.heap.size + 1 + 1 from by simp] at h
      exact h
    have HK := hide fun o1 o2 => blk_vsw ((w.alloc o1).alloc o2) ls 154
    simp only [World.size_alloc] at HK
    clear hs hc
    go_enter Tryz.func149, Tryz.ntmps149
    go_wp2
    clear hcp
    refine bodyPost_ret (v := .agg #[.slice (some ⟨w.heap.size + 1 + 1, 0, none⟩) n n]) (by simp [results, Tryz.results149, go_sem]) rfl ⟨_, _, rfl, ?_, ?_⟩
    · exact OWd.ofBlk (HK.out _ _) ⟨by omega, by simp⟩ hlen hn
    · first
        | exact HB.out _ _ _
        | exact (HB.out _ _ _).setCell (by simp) _
  · have h0 : n = 0 := by omega
    subst h0
    have hl0 : ls = [] := List.length_eq_zero_iff.1 hlen
    subst hl0
    have hcp := fun (u : World) (x y : Option Addr) (p q : Nat) => copy_w0 (P := Tryz.prog) u 44 44 3 154 x y p q Tryz.underlying44 infoWord2
    have hmk0 : ∀ u : World, (Instr.makeSlice 44 (.int .i64 0) (.int .i64 0)).run Tryz.prog u = .ok (.slice (some ⟨u.heap.size, 0, none⟩) 0 0) (u.alloc (.cells (madeCells #[.int .i64 0, .int .i64 0] (0 * 2)) 154)) := hmk
    clear hs hmk
    go_enter Tryz.func149, Tryz.ntmps149
    go_wp2
    refine bodyPost_ret (v := .agg #[.slice (some ⟨w.heap.size + 1 + 1, 0, none⟩) 0 0]) (by simp [results, Tryz.results149, go_sem]) rfl ⟨_, _, rfl, OWd.nil _ _ _, ?_⟩
    first
      | exact HB.out _ _ _
      | exact (HB.out _ _ _).setCell (by simp) _

set_option maxRecDepth 100000 in
set_option maxHeartbeats 1000000 in
theorem l6Copy_O (a : Option Addr) (n c : Nat) (ls : List (Int × Int)) (w : World) (hn : n ≤ 1048576) (hs : Swd w a n ls) :
    Calls Tryz.prog 57 #[.agg #[.slice a n c]] w fun e w' => ∃ ra rc, e = .returned (.agg #[.slice ra n rc]) ∧ OWd (InR w.heap.size w'.heap.size) ra n ls w' ∧ Below w.heap.size w w' := by
  obtain ⟨hlen, hs⟩ := hs
  obtain ⟨i0, hi, hz0, hz1, hz2⟩ := info_parts infoWord
  have HB := hide fun o1 o2 o3 => (((Below.refl w.heap.size w).alloc (Nat.le_refl _) o1).alloc (by simp) o2).alloc (by simp; omega) o3
  by_cases hp : 0 < n
  · obtain ⟨b, off, rfl, hb, hc⟩ := hs hp
    have hown := World.ownsRow_lit (base := w.heap.size + 1 + 1) (e := 154) (size := 2) ((w.alloc (.cells #[.slice (some ⟨b, off, none⟩) n c] 46)).alloc (.cells #[.slice none 0 0] 46)) #[] 0 (by simp) (Nat.zero_le _) rfl
    simp only [World.size_alloc] at hown
    have HO := hide hown
    have HN := hide (news_swd (w := (((w.alloc (.cells #[.slice (some ⟨b, off, none⟩) n c] 46)).alloc (.cells #[.slice none 0 0] 46)).alloc (.cells #[] 154))) (b := b) (off := off) hlen (fun i hi => ((HB.out _ _ _).cell (p := ⟨b, off + i, none⟩) hb).trans (hc i hi)))
    have HL : Hid ((vsw ls).length = n * 2) := by show _ = _; rw [length_vsw, hlen]
    have HM1 : Hid (0 + n ≤ maxLen) := by show _ ≤ _; unfold maxLen; omega
    have HM2 : Hid ((0 + n) * 16 ≤ 140737488355328) := by show _ ≤ _; omega
    have HBS : Hid (w.heap.size + 1 + 1 ≤ (((w.alloc (.cells #[.slice (some ⟨b, off, none⟩) n c] 46)).alloc (.cells #[.slice none 0 0] 46)).alloc (.cells #[] 154)).heap.size) := by show _ ≤ _; simp
    clear hown hs hc
    go_enter Tryz.func57, Tryz.ntmps57
    go_wp2_with (first
      | (at_builtin; refine wpList_append_own _ rfl _ _ 44 rfl (w.heap.size + 1 + 1) 154 i0 (.agg #[.int .i64 0, .int .i64 0]) 2 16 Tryz.underlying44 hi hz0 hz1 hz2 rfl (by decide) _ 0 [] rfl HO.out ⟨b, off, none⟩ n c (vsw ls) rfl HL.out HN.out ints_onew HM1.out HM2.out HBS.out ?_)
      | go_in)
    intro v' w1 hown' hgrow _
    have hown2 : w1.ownsRow (w.heap.size + 1 + 1) 154 2 v' n (vsw ls) := by simpa using hown'
    obtain ⟨ra, rc, rfl, ho⟩ := own_owd hn hlen hown2
    have h1 : Below w.heap.size w w1 := (HB.out _ _ _).grown hgrow (by simp; omega) (fun k hk => by simp [Value.ownBlock] at hk; omega)
    have c0 : w1.cell? ⟨w.heap.size + 1, 0, none⟩ = some (.slice none 0 0) := (World.cell?_of_block (a := ⟨w.heap.size + 1, 0, none⟩) (hgrow.block (w.heap.size + 1) (by simp) (by simp [Value.ownBlock]))).trans (by go_simp)
    have f0 : w1.frozen? ⟨w.heap.size + 1, 0, none⟩ = false := (World.frozen?_of_block (a := ⟨w.heap.size + 1, 0, none⟩) (hgrow.block (w.heap.size + 1) (by simp) (by simp [Value.ownBlock]))).trans (by go_simp)
    have HFR := hide ho
    have HB1 := hide h1
    clear HO HN hown' hown2 hgrow h1 ho
    go_wp2
    refine bodyPost_ret (v := .agg #[.slice ra n rc]) (by simp [results, Tryz.results57, go_sem, c0]) rfl ⟨_, _, rfl, ?_, HB1.out.setCell (by simp) _⟩
    exact (OWd.loc.setC HFR.out (fun h => by have := h.1; (try simp at this); omega) _).mono (fun k hk => ⟨by have := hk.1; omega, by simpa using hk.2⟩)
  · have h0 : n = 0 := by omega
    subst h0
    have hl0 : ls = [] := List.length_eq_zero_iff.1 hlen
    subst hl0
    clear hs
    cases a
    all_goals (
      go_enter Tryz.func57, Tryz.ntmps57
      go_wp2
      refine bodyPost_ret (v := .agg #[.slice (some ⟨w.heap.size + 1 + 1, 0, none⟩) 0 0]) (by simp [results, Tryz.results57, go_sem]) rfl ⟨_, _, rfl, OWd.nil _ _ _, ?_⟩
      first
        | exact HB.out _ _ _
        | exact (HB.out _ _ _).setCell (by simp) _)

end Go.Proofs.YtgkjmeogdomgmaaGreat
