import Derived.Test.YtnlkigjgloeonaaGreatTabP
import Derived.Test.YtnlkigjgloeonaaGreatApp
import Derived.Deep.DeepAppendRoom
import Derived.WalkKit
import Derived.ProofKit
import Derived.OpenShut
import Derived.ShutString
import Derived.ChangeOld
import Derived.Below
import Derived.WalkSpells
import Derived.Deep.QuietTactic
import Derived.BigQuiet
import Derived.Deep.RegionWith
import Derived.Deep.WholeRow
import Derived.Deep.DeepCutAuto
import Derived.Deep.RegionHeld2
import Derived.Deep.AppendLies
import Derived.Deep.RegionLaw
namespace Go.Proofs.YtnlkigjgloeonaaGreat
open Go.ChangeShapes Go.WideShapes Go.ChangeAt Go.RowKit

theorem infoLabel : (Tryz.prog.info? 64).map (fun i => (i.zero, i.size, i.bytes)) = some (some (.agg #[.slice none 0 0]), 1, 24) := by kernel_rfl

theorem grown_out {w w' : World} {g : Nat} (h : w.grownBy w' (some g)) : OutS (fun k => k = g) w w' := ⟨h.os, h.tape, h.output, h.size, fun k hk hn => h.block k hk (fun e => hn (by injection e))⟩

theorem owned_cell {w : World} {base : Nat} {e : TypeId} {v : Value} {n g : Nat} {xs : List Value} (h : w.ownsRow base e 1 v n xs) (hg : v.ownBlock = some g) {j : Nat} {u : Value} (hj : xs[j]? = some u) : w.cell? ⟨g, j, none⟩ = some u := by
  have := h.cells hg j u hj
  have hadd : (Addr.mk g 0 none).add j = ⟨g, j, none⟩ := by cases j <;> simp [Addr.add]
  rwa [hadd] at this

set_option maxRecDepth 100000 in
set_option maxHeartbeats 1000000 in
theorem labelsAt_calls (P M n : Nat) (ss : List (Int × List Int)) (D : DataW Unit) (a : Option Addr) (l c : Nat) (ts : List Int) (w : World) (hb : Bk w P M (ss.length : Int) n D) (good : Good ss) (rep : Rep ss D) (hs : Sl w a l ts) (hl : l ≤ 10) :
    Calls Tryz.prog 150 #[.pointer (some ⟨P, 0, none⟩), .slice a l c] w fun e w' => ∃ ra rn rc, e = .returned (.tuple #[.slice ra rn rc, .bool (allS ss ts)]) ∧ (allS ss ts = true → Lbs w' ra rn (labs ss ts)) ∧ rn ≤ 10 ∧ Below w.heap.size w w' := by
  obtain ⟨hlen, hs⟩ := hs
  obtain ⟨i0, hi, hz0, hz1, hz2⟩ := info_parts infoLabel
  have hPlt := hb.lt
  have hmk : ∀ u : World, (Instr.makeSlice 44 (.int .i64 0) (.int .i64 (l : Int))).run Tryz.prog u =
      .ok (.slice (some ⟨u.heap.size, 0, none⟩) 0 l) (u.alloc (.cells (madeCells #[.slice none 0 0] l) 64)) := fun u => by
    have h := run_make (P := Tryz.prog) u 44 64 i0 (.agg #[.slice none 0 0]) Tryz.underlying44 hi hz0 .i64 .i64 0 (l : Int) (by omega) (by omega) (by rw [hz2]; omega) (by omega)
    simpa [hz1, Value.cells] using h
  have hown0 := World.ownsRow_made (base := w.heap.size) (e := 64) (size := 1) w (madeCells #[.slice none 0 0] l) l (Nat.le_refl _) (by unfold maxLen; omega) (by rw [size_madeCells]; omega)
  have HO0 := hide hown0
  clear hown0
  go_enter Tryz.func150, Tryz.ntmps150
  go_wp2
  go_loopw [15, 6] (fun i v wr => ∃ (k : Nat) (vals : List Value), k ≤ l ∧ i = .int .i64 k ∧ v = .slice (some ⟨w.heap.size, 0, none⟩) k l ∧ wr.ownsRow w.heap.size 64 1 (.slice (some ⟨w.heap.size, 0, none⟩) k l) k vals ∧
      (∀ j, j < k → okS ss (gt ts j) = true ∧ ∃ la lc, vals[j]? = some (.slice la (atL ss (gt ts j)).length lc) ∧ OS (fun b => w.heap.size < b) la (atL ss (gt ts j)).length (atL ss (gt ts j)) wr) ∧ Below w.heap.size w wr ∧ w.heap.size < wr.heap.size) (fun i _ _ => l - (intOf i).toNat)
  case atStart => exact ⟨0, [], Nat.zero_le _, rfl, rfl, by simpa using HO0.out, fun j hj => by omega, (Below.refl _ _).alloc (Nat.le_refl _) _, by simp⟩
  case round =>
    obtain ⟨k, vals, hk, rfl, rfl, hown, hall, hbel, hsz⟩ := hrel
    by_cases hlt : k < l
    · obtain ⟨b, off, rfl, hbb, hc⟩ := hs (by omega)
      have hck := (hbel.cell (p := ⟨b, off + k, none⟩) hbb).trans (hc k hlt)
      have hbk := hb.below hbel
      have HO := hide hown
      have HA := hide hall
      have HB := hide hbel
      clear hown hall hbel
      by_cases hcode : atC ss (gt ts k) = 0
      · have ec : (atC ss (gt ts k) != 0) = false := by simp [hcode]
        have Hc := hide hcode
        clear hcode
        go_wp2_with fail
        refine (labelAt_calls P M n (gt ts k) ss D _ hbk good rep).mono ?_
        rintro e w1 ⟨ra, rn, rc, rfl, os1, g1⟩
        obtain rfl : (atL ss (gt ts k)).length = rn := os1.1
        have b2 : Below w1.heap.size w1 (w1.alloc (.cells #[.int .i64 (atC ss (gt ts k)), .slice ra (atL ss (gt ts k)).length rc] 112)) := (Below.refl _ _).alloc (Nat.le_refl _) _
        have b3 : Below w1.heap.size w1 ((w1.alloc (.cells #[.int .i64 (atC ss (gt ts k)), .slice ra (atL ss (gt ts k)).length rc] 112)).alloc (.cells #[.slice ra (atL ss (gt ts k)).length rc] 64)) := b2.alloc (by simp) _
        have b03 := g1.trans (b3.mono g1.size)
        have HO3 := hide (HO.out.kept (Below.grownAll b03) (.inr (by simp [Value.ownBlock])))
        have HOS := hide (OS.mono (OS.loc.below b3 os1) (S' := fun b => w.heap.size < b) (fun j hj => by have := hj.1; show w.heap.size < j; omega))
        have HA3 : Hid (∀ j, j < k → okS ss (gt ts j) = true ∧ ∃ la lc, vals[j]? = some (.slice la (atL ss (gt ts j)).length lc) ∧ OS (fun b => w.heap.size < b) la (atL ss (gt ts j)).length (atL ss (gt ts j)) ((w1.alloc (.cells #[.int .i64 (atC ss (gt ts k)), .slice ra (atL ss (gt ts k)).length rc] 112)).alloc (.cells #[.slice ra (atL ss (gt ts k)).length rc] 64))) := fun j hj => by
          obtain ⟨h1, la, lc, h2, h3⟩ := HA.out j hj
          exact ⟨h1, la, lc, h2, OS.loc.below b03 h3⟩
        have HB3 := hide (HB.out.trans (b03.mono HB.out.size))
        have hsz3 : w.heap.size < w1.heap.size + 1 + 1 := by have := g1.size; omega
        have HN := hide (one_new (W := ((w1.alloc (.cells #[.int .i64 (atC ss (gt ts k)), .slice ra (atL ss (gt ts k)).length rc] 112)).alloc (.cells #[.slice ra (atL ss (gt ts k)).length rc] 64))) (B := w1.heap.size + 1) (v := .slice ra (atL ss (gt ts k)).length rc) (by go_simp))
        clear g1 os1 b2 b3 b03 hbk
        go_wp2_with (first
          | (at_builtin; refine wpList_append_own_spare _ rfl _ _ 44 rfl w.heap.size 64 i0 1 Tryz.underlying44 hi hz1 w.heap.size k l vals rfl HO3.out ⟨w1.heap.size + 1, 0, none⟩ 1 1 [.slice ra (atL ss (gt ts k)).length rc] rfl rfl HN.out (by simp [Value.oneCell']) (by omega) ?_)
          | go_in)
        intro w4 hown4 hg4
        have HO4 := hide hown4
        have HA4 : Hid (∀ j, j < k + 1 → okS ss (gt ts j) = true ∧ ∃ la lc, (vals ++ [.slice ra (atL ss (gt ts k)).length rc])[j]? = some (.slice la (atL ss (gt ts j)).length lc) ∧ OS (fun b => w.heap.size < b) la (atL ss (gt ts j)).length (atL ss (gt ts j)) w4) := fun j hj => by
          have hv : vals.length = k := by have := HO3.out.1; simpa using this
          by_cases e : j = k
          · subst e
            exact ⟨by simp [okS, Hc.out], ra, rc, by rw [List.getElem?_append_right (by omega), hv]; simp, OS.loc.out (grown_out hg4) (fun b hb e => by subst e; exact Nat.lt_irrefl _ hb) HOS.out⟩
          · obtain ⟨h1, la, lc, h2, h3⟩ := HA3.out j (by omega)
            exact ⟨h1, la, lc, by rw [List.getElem?_append_left (by omega)]; exact h2, OS.loc.out (grown_out hg4) (fun b hb e => by subst e; exact Nat.lt_irrefl _ hb) h3⟩
        have HB4 := hide (bel_grown HB3.out hg4 (Nat.le_refl _) HB3.out.size)
        have hsz4 : w.heap.size < w4.heap.size := by have := hg4.size; simp at this; omega
        clear hown4 hg4 HO3 HOS HA3 HB3 HN
        go_wp2
        go_roundw
        case rel => exact ⟨k + 1, _, by omega, by go_num, rfl, HO4.out, HA4.out, HB4.out, hsz4⟩
        case measure => simp [intOf]; omega
      · have ec : (atC ss (gt ts k) != 0) = true := by simp [hcode]
        have HF : Hid (allS ss ts = false) := all_hit (d := 0) (j := k) (by omega) (by show okS ss (gt ts k) = false; simp [okS, hcode])
        clear hcode
        go_wp2_with fail
        refine (labelAt_calls P M n (gt ts k) ss D _ hbk good rep).mono ?_
        rintro e w1 ⟨ra, rn, rc, rfl, os1, g1⟩
        have HB1 := hide (HB.out.trans (g1.mono HB.out.size))
        clear g1 os1 hbk HB
        go_wp2
        refine bodyPost_ret (v := .tuple #[.slice none 0 0, .bool false]) (by simp [results, Tryz.results150, go_sem]) rfl ⟨none, 0, 0, by rw [HF.out], fun h => (by rw [HF.out] at h; cases h), by omega, HB1.out.alloc HB1.out.size _⟩
    · have hkl : k = l := by omega
      subst hkl
      have HT : Hid (allS ss ts = true) := all_pre (d := 0) (fun j hj => (hall j (by omega)).1)
      have HL : Hid (Lbs wr (some ⟨w.heap.size, 0, none⟩) k (labs ss ts)) := by
        refine ⟨by simp [labs, hlen], fun hp => ⟨w.heap.size, 0, rfl, hsz, fun i hi => ?_⟩⟩
        obtain ⟨_, la, lc, h2, h3⟩ := hall i hi
        rw [getD_labs ss ts i (by omega)]
        exact ⟨la, _, lc, by simpa using owned_cell hown rfl h2, by have := atL_len good (gt ts i); unfold maxLen; omega, h3.sl⟩
      have HB := hide hbel
      clear hown hall hbel
      go_wp2
      refine bodyPost_ret (v := .tuple #[.slice (some ⟨w.heap.size, 0, none⟩) k k, .bool true]) (by simp [results, Tryz.results150, go_sem]) rfl ⟨_, k, k, by rw [HT.out], fun _ => HL.out, hl, HB.out⟩

set_option maxRecDepth 100000 in
theorem areThings_calls (a : Option Addr) (n c : Nat) (ls : List (List Int)) (w : World) (hn : n ≤ 10) (hs : Lbs w a n ls) :
    Calls Tryz.prog 151 #[.slice a n c] w fun e w' => e = .returned (.bool (thingsB ls)) ∧ Below w.heap.size w w' := by
  obtain ⟨hlen, hs⟩ := hs
  go_enter Tryz.func151, Tryz.ntmps151
  go_wp2
  go_loopw [7] (fun i wr => ∃ k : Nat, k ≤ n ∧ i = .int .i64 k ∧ Below w.heap.size w wr ∧ ∀ j, j < k → thingB (ls.getD j []) = true) (fun i _ => n - (intOf i).toNat)
  case atStart => exact ⟨0, Nat.zero_le _, rfl, Below.refl _ _, fun j hj => by omega⟩
  case round =>
    obtain ⟨k, hk, rfl, hbel, hall⟩ := hrel
    have Hall := hide hall
    clear hall
    by_cases hlt : k < n
    · obtain ⟨b, off, rfl, hbb, hc⟩ := hs (by omega)
      obtain ⟨la, ll, lc, h6, h7, h8⟩ := hc k hlt
      have hck := (hbel.cell (p := ⟨b, off + k, none⟩) hbb).trans h6
      have al := (Below.refl wr.heap.size wr).alloc (Nat.le_refl _) (.cells #[.slice la ll lc] 64)
      have HS := hide ((h8.below hbel (Nat.le_refl _)).below al (Nat.le_refl _))
      have HB := hide (hbel.trans (al.mono hbel.size))
      clear h8 al hbel
      cases ht : thingB (ls.getD k []) with
      | true =>
        have Ht := hide ht
        go_wp2_with fail
        refine (isThing_calls la ll lc (ls.getD k []) _ h7 HS.out).mono ?_
        rintro e w1 ⟨rfl, g1⟩
        rw [ht]
        have HE := hide (HB.out.trans (g1.mono HB.out.size))
        clear g1 ht
        go_wp2
        go_roundw
        case rel => exact ⟨k + 1, by omega, by go_num, HE.out, fun j hj => by (by_cases e : j = k); (subst e; exact Ht.out); exact Hall.out j (by omega)⟩
        case measure => simp [intOf]; omega
      | false =>
        have HF : Hid (thingsB ls = false) := all_hit (d := []) (j := k) (by omega) ht
        go_wp2_with fail
        refine (isThing_calls la ll lc (ls.getD k []) _ h7 HS.out).mono ?_
        rintro e w1 ⟨rfl, g1⟩
        rw [ht]
        have HE := hide (HB.out.trans (g1.mono HB.out.size))
        clear g1 ht
        go_wp2
        go_ret
        exact ⟨ret_bool HF.out.symm, HE.out⟩
    · have HT : Hid (thingsB ls = true) := all_pre (d := []) (fun j hj => Hall.out j (by omega))
      go_wp2
      go_ret
      exact ⟨ret_bool HT.out.symm, hbel⟩

set_option maxRecDepth 100000 in
theorem areWithoutTop_calls (a : Option Addr) (n c : Nat) (ls : List (List Int)) (w : World) (hn : n ≤ 10) (hs : Lbs w a n ls) :
    Calls Tryz.prog 152 #[.slice a n c] w fun e w' => e = .returned (.bool (lowsB ls)) ∧ Below w.heap.size w w' := by
  obtain ⟨hlen, hs⟩ := hs
  go_enter Tryz.func152, Tryz.ntmps152
  go_wp2
  go_loopw [7] (fun i wr => ∃ k : Nat, k ≤ n ∧ i = .int .i64 k ∧ Below w.heap.size w wr ∧ ∀ j, j < k → lowB (ls.getD j []) = true) (fun i _ => n - (intOf i).toNat)
  case atStart => exact ⟨0, Nat.zero_le _, rfl, Below.refl _ _, fun j hj => by omega⟩
  case round =>
    obtain ⟨k, hk, rfl, hbel, hall⟩ := hrel
    have Hall := hide hall
    clear hall
    by_cases hlt : k < n
    · obtain ⟨b, off, rfl, hbb, hc⟩ := hs (by omega)
      obtain ⟨la, ll, lc, h6, h7, h8⟩ := hc k hlt
      have hck := (hbel.cell (p := ⟨b, off + k, none⟩) hbb).trans h6
      have al := (Below.refl wr.heap.size wr).alloc (Nat.le_refl _) (.cells #[.slice la ll lc] 64)
      have HS := hide ((h8.below hbel (Nat.le_refl _)).below al (Nat.le_refl _))
      have HB := hide (hbel.trans (al.mono hbel.size))
      clear h8 al hbel
      cases ht : has (ls.getD k []) 5 with
      | false =>
        have Ht : Hid (lowB (ls.getD k []) = true) := by show lowB _ = true; simp only [lowB, ht]; rfl
        go_wp2_with fail
        refine (hasLevel_calls la ll lc (ls.getD k []) 5 _ h7 HS.out).mono ?_
        rintro e w1 ⟨rfl, g1⟩
        rw [ht]
        have HE := hide (HB.out.trans (g1.mono HB.out.size))
        clear g1 ht
        go_wp2
        go_roundw
        case rel => exact ⟨k + 1, by omega, by go_num, HE.out, fun j hj => by (by_cases e : j = k); (subst e; exact Ht.out); exact Hall.out j (by omega)⟩
        case measure => simp [intOf]; omega
      | true =>
        have HF : Hid (lowsB ls = false) := all_hit (d := []) (j := k) (by omega) (by simp only [lowB, ht]; rfl)
        go_wp2_with fail
        refine (hasLevel_calls la ll lc (ls.getD k []) 5 _ h7 HS.out).mono ?_
        rintro e w1 ⟨rfl, g1⟩
        rw [ht]
        have HE := hide (HB.out.trans (g1.mono HB.out.size))
        clear g1 ht
        go_wp2
        go_ret
        exact ⟨ret_bool HF.out.symm, HE.out⟩
    · have HT : Hid (lowsB ls = true) := all_pre (d := []) (fun j hj => Hall.out j (by omega))
      go_wp2
      go_ret
      exact ⟨ret_bool HT.out.symm, hbel⟩

theorem cnt_take (l : List Int) (k i : Nat) (h : k < l.length) : cnt (l.take (k + 1)) i = cnt (l.take k) i + (if gt l k = (i : Int) then 1 else 0) := by
  unfold cnt
  rw [List.take_succ_eq_append_getElem h, List.filter_append, List.length_append]
  have e : gt l k = l[k] := by simp [gt, h]
  rw [e]
  by_cases h1 : l[k] = (i : Int)
  · rw [if_pos h1]
    simp [h1]
  · rw [if_neg h1]
    simp [h1]

theorem cnt_le (l : List Int) (i : Nat) : 0 ≤ cnt l i ∧ cnt l i ≤ (l.length : Int) := by
  unfold cnt
  have := List.length_filter_le (fun s => s == (i : Int)) l
  omega

theorem cnt_zero {ss : List (Int × List Int)} {l : List Int} (h : allS ss l = true) {i : Nat} (h0 : gc ss i = 0) : cnt l i = 0 := by
  unfold cnt
  have : l.filter (fun s => s == (i : Int)) = [] := by
    rw [List.filter_eq_nil_iff]
    intro s hs e
    have h1 := List.all_eq_true.1 h s hs
    simp at e
    subst e
    simp [okS, atC] at h1
    omega
  rw [this]
  rfl

/-- ten cells of a block that hold numbers. -/
def TRow (w : World) (g : Nat) (f : Nat → Int) : Prop := g < w.heap.size ∧ (∀ j, j < 10 → w.cell? ⟨g, j, none⟩ = some (.int .i64 (f j))) ∧ ∀ j, w.frozen? ⟨g, j, none⟩ = false

theorem TRow.set {w : World} {g k : Nat} {f f' : Nat → Int} {x : Int} (h : TRow w g f) (hk : k < 10) (e : ∀ j, j < 10 → (if j = k then x else f j) = f' j) : TRow (w.setCell ⟨g, k, none⟩ (.int .i64 x)) g f' := by
  refine ⟨by simpa using h.1, fun j hj => ?_, fun j => by simpa using h.2.2 j⟩
  rw [← e j hj]
  by_cases hjk : j = k
  · subst hjk; rw [if_pos rfl, World.cell?_setCell_same _ _ _ (h.2.1 j hj)]
  · rw [if_neg hjk, World.cell?_setCell_other _ _ _ _ (fun h => hjk (by injection h with _ h2; exact h2.symm))]; exact h.2.1 j hj

theorem TRow.below {w w' : World} {g : Nat} {f : Nat → Int} (h : TRow w g f) (hb : Below w.heap.size w w') : TRow w' g f :=
  ⟨by have := hb.size; have := h.1; omega, fun j hj => (hb.cell (p := ⟨g, j, none⟩) h.1).trans (h.2.1 j hj), fun j => (hb.frozen (p := ⟨g, j, none⟩) h.1).trans (h.2.2 j)⟩

theorem TRow.keep {w w' : World} {g r : Nat} {f : Nat → Int} (h : TRow w g f) (hg : w.grownBy w' (some r)) (hr : g ≠ r) : TRow w' g f := by
  have e := hg.block g h.1 (fun e => hr (by injection e))
  exact ⟨by have := hg.size; have := h.1; omega, fun j hj => (World.cell?_of_block (a := ⟨g, j, none⟩) e).trans (h.2.1 j hj), fun j => (World.frozen?_of_block (a := ⟨g, j, none⟩) e).trans (h.2.2 j)⟩

theorem allS_lt {ss : List (Int × List Int)} {l : List Int} (h : allS ss l = true) {j : Nat} (hj : j < l.length) : ∃ q : Nat, gt l j = (q : Int) ∧ q < ss.length := by
  have h1 := all_get (d := 0) h hj
  have h2 : atC ss (gt l j) = 0 := by simpa [okS, gt] using h1
  unfold atC at h2
  split at h2
  · cases h2
  · exact ⟨(gt l j).toNat, by omega, by omega⟩

end Go.Proofs.YtnlkigjgloeonaaGreat
