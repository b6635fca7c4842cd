import Derived.Test.YtgkjmeogdomgmaaGreatG6
import Derived.Test.YtgkjmeogdomgmaaGreatG2
import Derived.Test.YtgkjmeogdomgmaaGreatG5
import Derived.Test.YtgkjmeogdomgmaaGreatG1
import Derived.Deep.DeepAppendRoom
import Derived.WalkKit
import Derived.ProofKit
import Derived.OpenShut
import Derived.ShutString
import Derived.ChangeOld
import Derived.Below
import Derived.WalkSpells
import Derived.Deep.QuietTactic
import Derived.BigQuiet
import Derived.Deep.RegionWith
import Derived.Deep.WholeRow
import Derived.Deep.DeepCutAuto
import Derived.Deep.RegionHeld2
import Derived.Deep.AppendLies
import Derived.Deep.RegionLaw
namespace Go.Proofs.YtgkjmeogdomgmaaGreat
open Go.ChangeShapes Go.WideShapes Go.ChangeAt Go.RowKit

theorem infoLabel : (Tryz.prog.info? 112).map (fun i => (i.zero, i.size, i.bytes)) = some (some (.agg #[.slice none 0 0]), 1, 24) := by kernel_rfl

theorem grown_out {w w' : World} {g : Nat} (h : w.grownBy w' (some g)) : OutS (fun k => k = g) w w' := ⟨h.os, h.tape, h.output, h.size, fun k hk hn => h.block k hk (fun e => hn (by injection e))⟩

theorem owned_cell {w : World} {base : Nat} {e : TypeId} {v : Value} {n g : Nat} {xs : List Value} (h : w.ownsRow base e 1 v n xs) (hg : v.ownBlock = some g) {j : Nat} {u : Value} (hj : xs[j]? = some u) : w.cell? ⟨g, j, none⟩ = some u := by
  have := h.cells hg j u hj
  have hadd : (Addr.mk g 0 none).add j = ⟨g, j, none⟩ := by cases j <;> simp [Addr.add]
  rwa [hadd] at this

set_option maxRecDepth 100000 in
set_option maxHeartbeats 1000000 in
theorem labelsAt_calls (P M n : Nat) (ss : List (Int × List Int)) (D : DataW Unit) (a : Option Addr) (l c : Nat) (ts : List Int) (w : World) (hb : Bk w P M (ss.length : Int) n D) (good : Good ss) (rep : Rep ss D) (hs : Sl w a l ts) (hl : l ≤ 10) :
    Calls Tryz.prog 167 #[.pointer (some ⟨P, 0, none⟩), .slice a l c] w fun e w' => ∃ ra rn rc, e = .returned (.tuple #[.slice ra rn rc, .bool (allS ss ts)]) ∧ (allS ss ts = true → Lbs w' ra rn (labs ss ts)) ∧ rn ≤ 10 ∧ Below w.heap.size w w' := by
  obtain ⟨hlen, hs⟩ := hs
  obtain ⟨i0, hi, hz0, hz1, hz2⟩ := info_parts infoLabel
  have hPlt := hb.lt
  have hmk : ∀ u : World, (Instr.makeSlice 228 (.int .i64 0) (.int .i64 (l : Int))).run Tryz.prog u =
      .ok (.slice (some ⟨u.heap.size, 0, none⟩) 0 l) (u.alloc (.cells (madeCells #[.slice none 0 0] l) 112)) := fun u => by
    have h := run_make (P := Tryz.prog) u 228 112 i0 (.agg #[.slice none 0 0]) Tryz.underlying228 hi hz0 .i64 .i64 0 (l : Int) (by omega) (by omega) (by rw [hz2]; omega) (by omega)
    simpa [hz1, Value.cells] using h
  have hown0 := World.ownsRow_made (base := w.heap.size) (e := 112) (size := 1) w (madeCells #[.slice none 0 0] l) l (Nat.le_refl _) (by unfold maxLen; omega) (by rw [size_madeCells]; omega)
  have HO0 := hide hown0
  clear hown0
  go_enter Tryz.func167, Tryz.ntmps167
  go_wp2
  go_loopw [15, 6] (fun i v wr => ∃ (k : Nat) (vals : List Value), k ≤ l ∧ i = .int .i64 k ∧ v = .slice (some ⟨w.heap.size, 0, none⟩) k l ∧ wr.ownsRow w.heap.size 112 1 (.slice (some ⟨w.heap.size, 0, none⟩) k l) k vals ∧
      (∀ j, j < k → okS ss (gt ts j) = true ∧ ∃ la lc, vals[j]? = some (.slice la (atL ss (gt ts j)).length lc) ∧ OS (fun b => w.heap.size < b) la (atL ss (gt ts j)).length (atL ss (gt ts j)) wr) ∧ Below w.heap.size w wr ∧ w.heap.size < wr.heap.size) (fun i _ _ => l - (intOf i).toNat)
  case atStart => exact ⟨0, [], Nat.zero_le _, rfl, rfl, by simpa using HO0.out, fun j hj => by omega, (Below.refl _ _).alloc (Nat.le_refl _) _, by simp⟩
  case round =>
    obtain ⟨k, vals, hk, rfl, rfl, hown, hall, hbel, hsz⟩ := hrel
    by_cases hlt : k < l
    · obtain ⟨b, off, rfl, hbb, hc⟩ := hs (by omega)
      have hck := (hbel.cell (p := ⟨b, off + k, none⟩) hbb).trans (hc k hlt)
      have hbk := hb.below hbel
      have HO := hide hown
      have HA := hide hall
      have HB := hide hbel
      clear hown hall hbel
      by_cases hcode : atC ss (gt ts k) = 0
      · have ec : (atC ss (gt ts k) != 0) = false := by simp [hcode]
        have Hc := hide hcode
        clear hcode
        go_wp2_with fail
        refine (labelAt_calls P M n (gt ts k) ss D _ hbk good rep).mono ?_
        rintro e w1 ⟨ra, rn, rc, rfl, os1, g1⟩
        obtain rfl : (atL ss (gt ts k)).length = rn := os1.1
        have b2 : Below w1.heap.size w1 (w1.alloc (.cells #[.int .i64 (atC ss (gt ts k)), .slice ra (atL ss (gt ts k)).length rc] 188)) := (Below.refl _ _).alloc (Nat.le_refl _) _
        have b3 : Below w1.heap.size w1 ((w1.alloc (.cells #[.int .i64 (atC ss (gt ts k)), .slice ra (atL ss (gt ts k)).length rc] 188)).alloc (.cells #[.slice ra (atL ss (gt ts k)).length rc] 112)) := b2.alloc (by simp) _
        have b03 := g1.trans (b3.mono g1.size)
        have HO3 := hide (HO.out.kept (Below.grownAll b03) (.inr (by simp [Value.ownBlock])))
        have HOS := hide (OS.mono (OS.loc.below b3 os1) (S' := fun b => w.heap.size < b) (fun j hj => by have := hj.1; show w.heap.size < j; omega))
        have HA3 : Hid (∀ j, j < k → okS ss (gt ts j) = true ∧ ∃ la lc, vals[j]? = some (.slice la (atL ss (gt ts j)).length lc) ∧ OS (fun b => w.heap.size < b) la (atL ss (gt ts j)).length (atL ss (gt ts j)) ((w1.alloc (.cells #[.int .i64 (atC ss (gt ts k)), .slice ra (atL ss (gt ts k)).length rc] 188)).alloc (.cells #[.slice ra (atL ss (gt ts k)).length rc] 112))) := fun j hj => by
          obtain ⟨h1, la, lc, h2, h3⟩ := HA.out j hj
          exact ⟨h1, la, lc, h2, OS.loc.below b03 h3⟩
        have HB3 := hide (HB.out.trans (b03.mono HB.out.size))
        have hsz3 : w.heap.size < w1.heap.size + 1 + 1 := by have := g1.size; omega
        have HN := hide (one_new (W := ((w1.alloc (.cells #[.int .i64 (atC ss (gt ts k)), .slice ra (atL ss (gt ts k)).length rc] 188)).alloc (.cells #[.slice ra (atL ss (gt ts k)).length rc] 112))) (B := w1.heap.size + 1) (v := .slice ra (atL ss (gt ts k)).length rc) (by go_simp))
        clear g1 os1 b2 b3 b03 hbk
        go_wp2_with (first
          | (at_builtin; refine wpList_append_own_spare _ rfl _ _ 228 rfl w.heap.size 112 i0 1 Tryz.underlying228 hi hz1 w.heap.size k l vals rfl HO3.out ⟨w1.heap.size + 1, 0, none⟩ 1 1 [.slice ra (atL ss (gt ts k)).length rc] rfl rfl HN.out (by simp [Value.oneCell']) (by omega) ?_)
          | go_in)
        intro w4 hown4 hg4
        have HO4 := hide hown4
        have HA4 : Hid (∀ j, j < k + 1 → okS ss (gt ts j) = true ∧ ∃ la lc, (vals ++ [.slice ra (atL ss (gt ts k)).length rc])[j]? = some (.slice la (atL ss (gt ts j)).length lc) ∧ OS (fun b => w.heap.size < b) la (atL ss (gt ts j)).length (atL ss (gt ts j)) w4) := fun j hj => by
          have hv : vals.length = k := by have := HO3.out.1; simpa using this
          by_cases e : j = k
          · subst e
            exact ⟨by simp [okS, Hc.out], ra, rc, by rw [List.getElem?_append_right (by omega), hv]; simp, OS.loc.out (grown_out hg4) (fun b hb e => by subst e; exact Nat.lt_irrefl _ hb) HOS.out⟩
          · obtain ⟨h1, la, lc, h2, h3⟩ := HA3.out j (by omega)
            exact ⟨h1, la, lc, by rw [List.getElem?_append_left (by omega)]; exact h2, OS.loc.out (grown_out hg4) (fun b hb e => by subst e; exact Nat.lt_irrefl _ hb) h3⟩
        have HB4 := hide (bel_grown HB3.out hg4 (Nat.le_refl _) HB3.out.size)
        have hsz4 : w.heap.size < w4.heap.size := by have := hg4.size; simp at this; omega
        clear hown4 hg4 HO3 HOS HA3 HB3 HN
        go_wp2
        go_roundw
        case rel => exact ⟨k + 1, _, by omega, by go_num, rfl, HO4.out, HA4.out, HB4.out, hsz4⟩
        case measure => simp [intOf]; omega
      · have ec : (atC ss (gt ts k) != 0) = true := by simp [hcode]
        have HF : Hid (allS ss ts = false) := all_hit (d := 0) (j := k) (by omega) (by show okS ss (gt ts k) = false; simp [okS, hcode])
        clear hcode
        go_wp2_with fail
        refine (labelAt_calls P M n (gt ts k) ss D _ hbk good rep).mono ?_
        rintro e w1 ⟨ra, rn, rc, rfl, os1, g1⟩
        have HB1 := hide (HB.out.trans (g1.mono HB.out.size))
        clear g1 os1 hbk HB
        go_wp2
        refine bodyPost_ret (v := .tuple #[.slice none 0 0, .bool false]) (by simp [results, Tryz.results167, go_sem]) rfl ⟨none, 0, 0, by rw [HF.out], fun h => (by rw [HF.out] at h; cases h), by omega, HB1.out.alloc HB1.out.size _⟩
    · have hkl : k = l := by omega
      subst hkl
      have HT : Hid (allS ss ts = true) := all_pre (d := 0) (fun j hj => (hall j (by omega)).1)
      have HL : Hid (Lbs wr (some ⟨w.heap.size, 0, none⟩) k (labs ss ts)) := by
        refine ⟨by simp [labs, hlen], fun hp => ⟨w.heap.size, 0, rfl, hsz, fun i hi => ?_⟩⟩
        obtain ⟨_, la, lc, h2, h3⟩ := hall i hi
        rw [getD_labs ss ts i (by omega)]
        exact ⟨la, _, lc, by simpa using owned_cell hown rfl h2, by have := atL_len good (gt ts i); unfold maxLen; omega, h3.sl⟩
      have HB := hide hbel
      clear hown hall hbel
      go_wp2
      refine bodyPost_ret (v := .tuple #[.slice (some ⟨w.heap.size, 0, none⟩) k k, .bool true]) (by simp [results, Tryz.results167, go_sem]) rfl ⟨_, k, k, by rw [HT.out], fun _ => HL.out, hl, HB.out⟩

set_option maxRecDepth 100000 in
theorem areThings_calls (a : Option Addr) (n c : Nat) (ls : List (List Int)) (w : World) (hn : n ≤ 10) (hs : Lbs w a n ls) :
    Calls Tryz.prog 153 #[.slice a n c] w fun e w' => e = .returned (.bool (thingsB ls)) ∧ Below w.heap.size w w' := by
  obtain ⟨hlen, hs⟩ := hs
  go_enter Tryz.func153, Tryz.ntmps153
  go_wp2
  go_loopw [7] (fun i wr => ∃ k : Nat, k ≤ n ∧ i = .int .i64 k ∧ Below w.heap.size w wr ∧ ∀ j, j < k → thingB (ls.getD j []) = true) (fun i _ => n - (intOf i).toNat)
  case atStart => exact ⟨0, Nat.zero_le _, rfl, Below.refl _ _, fun j hj => by omega⟩
  case round =>
    obtain ⟨k, hk, rfl, hbel, hall⟩ := hrel
    have Hall := hide hall
    clear hall
    by_cases hlt : k < n
    · obtain ⟨b, off, rfl, hbb, hc⟩ := hs (by omega)
      obtain ⟨la, ll, lc, h6, h7, h8⟩ := hc k hlt
      have hck := (hbel.cell (p := ⟨b, off + k, none⟩) hbb).trans h6
      have al := (Below.refl wr.heap.size wr).alloc (Nat.le_refl _) (.cells #[.slice la ll lc] 112)
      have HS := hide ((h8.below hbel (Nat.le_refl _)).below al (Nat.le_refl _))
      have HB := hide (hbel.trans (al.mono hbel.size))
      clear h8 al hbel
      cases ht : thingB (ls.getD k []) with
      | true =>
        have Ht := hide ht
        go_wp2_with fail
        refine (isThing_calls la ll lc (ls.getD k []) _ h7 HS.out).mono ?_
        rintro e w1 ⟨rfl, g1⟩
        rw [ht]
        have HE := hide (HB.out.trans (g1.mono HB.out.size))
        clear g1 ht
        go_wp2
        go_roundw
        case rel => exact ⟨k + 1, by omega, by go_num, HE.out, fun j hj => by (by_cases e : j = k); (subst e; exact Ht.out); exact Hall.out j (by omega)⟩
        case measure => simp [intOf]; omega
      | false =>
        have HF : Hid (thingsB ls = false) := all_hit (d := []) (j := k) (by omega) ht
        go_wp2_with fail
        refine (isThing_calls la ll lc (ls.getD k []) _ h7 HS.out).mono ?_
        rintro e w1 ⟨rfl, g1⟩
        rw [ht]
        have HE := hide (HB.out.trans (g1.mono HB.out.size))
        clear g1 ht
        go_wp2
        go_ret
        exact ⟨ret_bool HF.out.symm, HE.out⟩
    · have HT : Hid (thingsB ls = true) := all_pre (d := []) (fun j hj => Hall.out j (by omega))
      go_wp2
      go_ret
      exact ⟨ret_bool HT.out.symm, hbel⟩

set_option maxRecDepth 100000 in
theorem areWithoutTop_calls (a : Option Addr) (n c : Nat) (ls : List (List Int)) (w : World) (hn : n ≤ 10) (hs : Lbs w a n ls) :
    Calls Tryz.prog 168 #[.slice a n c] w fun e w' => e = .returned (.bool (lowsB ls)) ∧ Below w.heap.size w w' := by
  obtain ⟨hlen, hs⟩ := hs
  go_enter Tryz.func168, Tryz.ntmps168
  go_wp2
  go_loopw [7] (fun i wr => ∃ k : Nat, k ≤ n ∧ i = .int .i64 k ∧ Below w.heap.size w wr ∧ ∀ j, j < k → lowB (ls.getD j []) = true) (fun i _ => n - (intOf i).toNat)
  case atStart => exact ⟨0, Nat.zero_le _, rfl, Below.refl _ _, fun j hj => by omega⟩
  case round =>
    obtain ⟨k, hk, rfl, hbel, hall⟩ := hrel
    have Hall := hide hall
    clear hall
    by_cases hlt : k < n
    · obtain ⟨b, off, rfl, hbb, hc⟩ := hs (by omega)
      obtain ⟨la, ll, lc, h6, h7, h8⟩ := hc k hlt
      have hck := (hbel.cell (p := ⟨b, off + k, none⟩) hbb).trans h6
      have al := (Below.refl wr.heap.size wr).alloc (Nat.le_refl _) (.cells #[.slice la ll lc] 112)
      have HS := hide ((h8.below hbel (Nat.le_refl _)).below al (Nat.le_refl _))
      have HB := hide (hbel.trans (al.mono hbel.size))
      clear h8 al hbel
      cases ht : has (ls.getD k []) 5 with
      | false =>
        have Ht : Hid (lowB (ls.getD k []) = true) := by show lowB _ = true; simp only [lowB, ht]; rfl
        go_wp2_with fail
        refine (hasLevel_calls la ll lc (ls.getD k []) 5 _ h7 HS.out).mono ?_
        rintro e w1 ⟨rfl, g1⟩
        rw [ht]
        have HE := hide (HB.out.trans (g1.mono HB.out.size))
        clear g1 ht
        go_wp2
        go_roundw
        case rel => exact ⟨k + 1, by omega, by go_num, HE.out, fun j hj => by (by_cases e : j = k); (subst e; exact Ht.out); exact Hall.out j (by omega)⟩
        case measure => simp [intOf]; omega
      | true =>
        have HF : Hid (lowsB ls = false) := all_hit (d := []) (j := k) (by omega) (by simp only [lowB, ht]; rfl)
        go_wp2_with fail
        refine (hasLevel_calls la ll lc (ls.getD k []) 5 _ h7 HS.out).mono ?_
        rintro e w1 ⟨rfl, g1⟩
        rw [ht]
        have HE := hide (HB.out.trans (g1.mono HB.out.size))
        clear g1 ht
        go_wp2
        go_ret
        exact ⟨ret_bool HF.out.symm, HE.out⟩
    · have HT : Hid (lowsB ls = true) := all_pre (d := []) (fun j hj => Hall.out j (by omega))
      go_wp2
      go_ret
      exact ⟨ret_bool HT.out.symm, hbel⟩

theorem cnt_take (l : List Int) (k i : Nat) (h : k < l.length) : cnt (l.take (k + 1)) i = cnt (l.take k) i + (if gt l k = (i : Int) then 1 else 0) := by
  unfold cnt
  rw [List.take_succ_eq_append_getElem h, List.filter_append, List.length_append]
  have e : gt l k = l[k] := by simp [gt, h]
  rw [e]
  by_cases h1 : l[k] = (i : Int)
  · rw [if_pos h1]
    simp [h1]
  · rw [if_neg h1]
    simp [h1]

theorem cnt_le (l : List Int) (i : Nat) : 0 ≤ cnt l i ∧ cnt l i ≤ (l.length : Int) := by
  unfold cnt
  have := List.length_filter_le (fun s => s == (i : Int)) l
  omega

theorem cnt_zero {ss : List (Int × List Int)} {l : List Int} (h : allS ss l = true) {i : Nat} (h0 : gc ss i = 0) : cnt l i = 0 := by
  unfold cnt
  have : l.filter (fun s => s == (i : Int)) = [] := by
    rw [List.filter_eq_nil_iff]
    intro s hs e
    have h1 := List.all_eq_true.1 h s hs
    simp at e
    subst e
    simp [okS, atC] at h1
    omega
  rw [this]
  rfl

/-- ten cells of a block that hold numbers. -/
def TRow (w : World) (g : Nat) (f : Nat → Int) : Prop := g < w.heap.size ∧ (∀ j, j < 10 → w.cell? ⟨g, j, none⟩ = some (.int .i64 (f j))) ∧ ∀ j, w.frozen? ⟨g, j, none⟩ = false

theorem TRow.set {w : World} {g k : Nat} {f f' : Nat → Int} {x : Int} (h : TRow w g f) (hk : k < 10) (e : ∀ j, j < 10 → (if j = k then x else f j) = f' j) : TRow (w.setCell ⟨g, k, none⟩ (.int .i64 x)) g f' := by
  refine ⟨by simpa using h.1, fun j hj => ?_, fun j => by simpa using h.2.2 j⟩
  rw [← e j hj]
  by_cases hjk : j = k
  · subst hjk; rw [if_pos rfl, World.cell?_setCell_same _ _ _ (h.2.1 j hj)]
  · rw [if_neg hjk, World.cell?_setCell_other _ _ _ _ (fun h => hjk (by injection h with _ h2; exact h2.symm))]; exact h.2.1 j hj

theorem TRow.below {w w' : World} {g : Nat} {f : Nat → Int} (h : TRow w g f) (hb : Below w.heap.size w w') : TRow w' g f :=
  ⟨by have := hb.size; have := h.1; omega, fun j hj => (hb.cell (p := ⟨g, j, none⟩) h.1).trans (h.2.1 j hj), fun j => (hb.frozen (p := ⟨g, j, none⟩) h.1).trans (h.2.2 j)⟩

theorem TRow.keep {w w' : World} {g r : Nat} {f : Nat → Int} (h : TRow w g f) (hg : w.grownBy w' (some r)) (hr : g ≠ r) : TRow w' g f := by
  have e := hg.block g h.1 (fun e => hr (by injection e))
  exact ⟨by have := hg.size; have := h.1; omega, fun j hj => (World.cell?_of_block (a := ⟨g, j, none⟩) e).trans (h.2.1 j hj), fun j => (World.frozen?_of_block (a := ⟨g, j, none⟩) e).trans (h.2.2 j)⟩

theorem allS_lt {ss : List (Int × List Int)} {l : List Int} (h : allS ss l = true) {j : Nat} (hj : j < l.length) : ∃ q : Nat, gt l j = (q : Int) ∧ q < ss.length := by
  have h1 := all_get (d := 0) h hj
  have h2 : atC ss (gt l j) = 0 := by simpa [okS, gt] using h1
  unfold atC at h2
  split at h2
  · cases h2
  · exact ⟨(gt l j).toNat, by omega, by omega⟩

set_option maxRecDepth 100000 in
set_option maxHeartbeats 1000000 in
theorem isCountedRight_calls (P M n : Nat) (ss : List (Int × List Int)) (D : DataW Unit) (ta da : Option Addr) (tl tc dl dc : Nat) (ts ds : List Int) (w : World) (hb : Bk w P M (ss.length : Int) n D) (good : Good ss) (rep : Rep ss D)
    (ct : w.cell? ⟨P, 2, none⟩ = some (.slice ta tl tc)) (cd : w.cell? ⟨P, 3, none⟩ = some (.slice da dl dc)) (hts : Sl w ta tl ts) (hds : Sl w da dl ds) (htl : tl ≤ 10) (hdl : dl ≤ 10) (at1 : allS ss ts = true) (at2 : allS ss ds = true) :
    Calls Tryz.prog 169 #[.pointer (some ⟨P, 0, none⟩)] w fun e w' => e = .returned (.bool (cntB ss ts ds)) ∧ Below w.heap.size w w' := by
  have few := good.few
  have hP := hb.lt
  have htlen := hts.1
  have hdlen := hds.1
  have hb0 := fun o => (Below.refl w.heap.size w).alloc (Nat.le_refl _) o
  go_enter Tryz.func169, Tryz.ntmps169
  go_wp2
  go_loopw [15] (fun i wr => ∃ k : Nat, k ≤ tl ∧ i = .int .i64 k ∧ Below w.heap.size w wr ∧ TRow wr w.heap.size (fun j => cnt (ts.take k) j)) (fun i _ => tl - (intOf i).toNat)
  case atStart =>
    refine ⟨0, Nat.zero_le _, rfl, hb0 _, by simp, fun j hj => ?_, fun j => by go_simp⟩
    rw [World.cell?_alloc_at _ _ _ _ rfl]
    rcases (by omega : j = 0 ∨ j = 1 ∨ j = 2 ∨ j = 3 ∨ j = 4 ∨ j = 5 ∨ j = 6 ∨ j = 7 ∨ j = 8 ∨ j = 9) with rfl | rfl | rfl | rfl | rfl | rfl | rfl | rfl | rfl | rfl <;> rfl
  case round =>
    obtain ⟨k, hk, rfl, hbel, hrow⟩ := hrel
    by_cases hlt : k < tl
    · obtain ⟨b, off, rfl, hbb, hc⟩ := hts.2 (by omega)
      have hck := (hbel.cell (p := ⟨b, off + k, none⟩) hbb).trans (hc k hlt)
      obtain ⟨q, hq, hql⟩ := allS_lt at1 (j := k) (by omega)
      rw [hq] at hck
      have hq10 : q < 10 := by omega
      have hv := hrow.2.1 q hq10
      have hfz := hrow.2.2 q
      have hcl := cnt_le (ts.take k) q
      have hcl2 : cnt (ts.take k) q ≤ 10 := by have := hcl.2; rw [List.length_take] at this; omega
      have hcl1 := hcl.1
      have i0 : (0 : Int) ≤ (q : Int) := by omega
      have i1 : (q : Int) < 10 := by omega
      have HR := hide (hrow.set hq10 (x := cnt (ts.take k) q + 1) (f' := fun j => cnt (ts.take (k + 1)) j) (fun j hj => by
        rw [cnt_take ts k j (by omega), hq]
        by_cases e : j = q
        · subst e; rw [if_pos rfl, if_pos rfl]
        · rw [if_neg e, if_neg (by omega)]; simp))
      have HB := hide (hbel.setCell (p := ⟨w.heap.size, q, none⟩) (Nat.le_refl _) (.int .i64 (cnt (ts.take k) q + 1)))
      clear hrow hbel hcl
      go_wp2
      go_roundw
      case rel => exact ⟨k + 1, by omega, by go_num, HB.out, HR.out⟩
      case measure => simp [intOf]; omega
    · have hkn : k = tl := by omega
      subst hkn
      rw [show ts.take k = ts from List.take_of_length_le (by omega)] at hrow
      have cdr := (hbel.cell (p := ⟨P, 3, none⟩) hP).trans cd
      have HB := hide hbel
      have HR := hide hrow
      clear hbel hrow
      go_wp2
      clear cdr
      go_loopw [30] (fun i wr => ∃ k : Nat, k ≤ dl ∧ i = .int .i64 k ∧ Below w.heap.size w wr ∧ TRow wr w.heap.size (fun j => cnt ts j + cnt (ds.take k) j)) (fun i _ => dl - (intOf i).toNat)
      case atStart => exact ⟨0, Nat.zero_le _, rfl, HB.out, HR.out.1, fun j hj => by rw [HR.out.2.1 j hj]; simp [cnt], HR.out.2.2⟩
      case round =>
        clear HB HR
        obtain ⟨k2, hk, rfl, hbel, hrow⟩ := hrel
        by_cases hlt : k2 < dl
        · obtain ⟨b, off, rfl, hbb, hc⟩ := hds.2 (by omega)
          have hck := (hbel.cell (p := ⟨b, off + k2, none⟩) hbb).trans (hc k2 hlt)
          obtain ⟨q, hq, hql⟩ := allS_lt at2 (j := k2) (by omega)
          rw [hq] at hck
          have hq10 : q < 10 := by omega
          have hv := hrow.2.1 q hq10
          have hfz := hrow.2.2 q
          have hcl := cnt_le (ds.take k2) q
          have hcl2 : cnt (ds.take k2) q ≤ 10 := by have := hcl.2; rw [List.length_take] at this; omega
          have hcl1 := hcl.1
          have hct := cnt_le ts q
          have hct2 : cnt ts q ≤ 10 := by have := hct.2; omega
          have hct1 := hct.1
          have i0 : (0 : Int) ≤ (q : Int) := by omega
          have i1 : (q : Int) < 10 := by omega
          have HR := hide (hrow.set hq10 (x := cnt ts q + cnt (ds.take k2) q + 1) (f' := fun j => cnt ts j + cnt (ds.take (k2 + 1)) j) (fun j hj => by
            rw [cnt_take ds k2 j (by omega), hq]
            by_cases e : j = q
            · subst e; rw [if_pos rfl, if_pos rfl]; omega
            · rw [if_neg e, if_neg (by omega)]; simp))
          have HB := hide (hbel.setCell (p := ⟨w.heap.size, q, none⟩) (Nat.le_refl _) (.int .i64 (cnt ts q + cnt (ds.take k2) q + 1)))
          clear hrow hbel hcl hct
          go_wp2
          go_roundw
          case rel => exact ⟨k2 + 1, by omega, by go_num, HB.out, HR.out⟩
          case measure => simp [intOf]; omega
        · have hkn : k2 = dl := by omega
          subst hkn
          rw [show ds.take k2 = ds from List.take_of_length_le (by omega)] at hrow
          have cm := (hbel.cell (p := ⟨P, 1, none⟩) hP).trans hb.c1
          have own := (hb.below hbel).own
          have hzw : w.heap.size < wr.heap.size := hrow.1
          have HB := hide hbel
          have HR := hide hrow
          clear hbel hrow
          go_wp2_with (first
            | (at_range; refine wpList_range_own _ rfl _ 172 rfl 239 247 lawK Tryz.underlying172 _ M n _ rfl own ?_; intro w0 hrg0 hg0 hs0)
            | go_in)
          try go_frame
          obtain ⟨R, hR⟩ : ∃ R, wr.heap.size = R := ⟨_, rfl⟩
          rw [hR] at hrg0 hs0 hzw ⊢
          have HB0 := hide (bel_grown0 HB.out hg0 HB.out.size)
          have HR0 := hide (HR.out.below (w' := w0) ⟨hg0.os, hg0.tape, hg0.output, hg0.size, fun k hk => hg0.block k hk (by simp)⟩)
          have HG0 := hide (RngB.start rep hrg0)
          have HZ : Hid (w0.heap.size = R + 1) := hs0
          clear hrg0 hg0 hs0 HB HR cm own hR
          go_loopw [46] (fun _ w3 => ∃ (L : Nat → Bool) (cn : Nat), RngB w3 M R n ss D L cn ∧ (∀ j, j < ss.length → 0 < gc ss j → L j = false → gc ss j = cnt ts j + cnt ds j) ∧ Below w.heap.size w w3 ∧ TRow w3 w.heap.size (fun j => cnt ts j + cnt ds j) ∧ R < w3.heap.size)
            (fun _ w3 => w3.rangeLeft M R)
          case atStart => exact ⟨_, _, HG0.out, fun j _ _ h => (by cases h), HB0.out, HR0.out, by have := HZ.out; omega⟩
          case round =>
            obtain ⟨L, cn, hrg, hok, hbel, hrow, hsz⟩ := hrel
            have HOK := hide hok
            clear hok
            go_wp2_with (first
              | (at_next; refine next_book _ rfl _ rfl M R n good rep rfl hrg ?_ ?_)
              | go_in)
            · intro hc0 hl0
              have HC : Hid (cntB ss ts ds = true) := by
                show cntB ss ts ds = true
                unfold cntB
                rw [List.all_eq_true]
                intro i hi
                have hi := List.mem_range.1 hi
                simp only [decide_eq_true_eq]
                by_cases h0 : gc ss i = 0
                · rw [h0, cnt_zero at1 h0, cnt_zero at2 h0]; rfl
                · have hp : 0 < gc ss i := by have := good.low i hi; omega
                  exact HOK.out i hi hp (hl0 i hi hp)
              have HE := hide hbel
              clear hl0 hbel hrow hrg
              go_wp2
              go_ret
              exact ⟨ret_bool HC.out.symm, HE.out⟩
            · intro j hj hp hLj w1 cnt1 hrg1 hlt1 hg1 hs1 hen
              have hj10 : j < 10 := by omega
              have i0 : (0 : Int) ≤ (j : Int) := by omega
              have i1 : (j : Int) < 10 := by omega
              have al : Below w1.heap.size w1 (w1.alloc (.cells #[.int .i64 (j : Int), .int .i64 (gc ss j)] 247)) := (Below.refl _ _).alloc (Nat.le_refl _) _
              have hrow1 := (hrow.keep hg1 (by omega)).below al
              have hv := hrow1.2.1 j hj10
              have HB1 := hide ((bel_grown hbel hg1 (by omega) hbel.size).trans (al.mono (bel_grown hbel hg1 (by omega) hbel.size).size))
              have HR1 := hide (hrg1.below al)
              have HT1 := hide hrow1
              have HLT := hide hlt1
              have HRG := hide hrg
              have hz1 : R < w1.heap.size := by omega
              clear hrg1 hg1 hlt1 hrg hbel hrow hrow1 al
              by_cases he : cnt ts j + cnt ds j = gc ss j
              · have ee : (cnt ts j + cnt ds j != gc ss j) = false := by simp [he]
                have He := hide he
                clear he
                go_wp2_with fail
                go_quiet (fail)
                go_wp2
                go_roundw
                case rel =>
                  refine ⟨_, cnt1, HR1.out.below (bdrewN (Below.refl _ _) _), fun i hi hpi hLi => ?_, bdrewN HB1.out _, HT1.out.below (bdrewN (Below.refl _ _) _), by simp; omega⟩
                  by_cases e : i = j
                  · subst e; exact He.out.symm
                  · exact HOK.out i hi hpi (by simpa [e] using hLi)
                case measure =>
                  rw [(HR1.out.below (bdrewN (Below.refl _ _) _)).left_eq, HRG.out.left_eq]
                  exact HLT.out
              · have ee : (cnt ts j + cnt ds j != gc ss j) = true := by simp [he]
                have HC : Hid (cntB ss ts ds = false) := by
                  show cntB ss ts ds = false
                  unfold cntB
                  rw [List.all_eq_false]
                  exact ⟨j, List.mem_range.2 hj, by simp; omega⟩
                clear he
                go_wp2_with fail
                go_quiet (fail)
                go_wp2
                go_ret
                exact ⟨ret_bool HC.out.symm, bdrewN HB1.out _⟩

set_option maxRecDepth 100000 in
set_option maxHeartbeats 1000000 in
theorem fault_calls (P M n : Nat) (ss : List (Int × List Int)) (D : DataW Unit) (ta da : Option Addr) (tl tc dl dc : Nat) (ts ds : List Int) (w : World) (hb : Bk w P M (ss.length : Int) n D) (good : Good ss) (rep : Rep ss D)
    (ct : w.cell? ⟨P, 2, none⟩ = some (.slice ta tl tc)) (cd : w.cell? ⟨P, 3, none⟩ = some (.slice da dl dc)) (hts : Sl w ta tl ts) (hds : Sl w da dl ds) (htl : tl ≤ 10) (hdl : dl ≤ 10) :
    Calls Tryz.prog 143 #[.pointer (some ⟨P, 0, none⟩)] w fun e w' => e = .returned (.int .i64 (ledF ss ts ds)) ∧ Below w.heap.size w w' := by
  have hP := hb.lt
  cases h1 : allS ss ts with
  | false =>
    cases h2 : allS ss ds with
    | false =>
      have HF : Hid (ledF ss ts ds = 4) := by show ledF ss ts ds = 4; simp [ledF, h1]
      go_enter Tryz.func143, Tryz.ntmps143
      go_wp2_with fail
      refine (labelsAt_calls P M n ss D ta tl tc ts _ hb good rep hts htl).mono ?_
      rintro e w1 ⟨ra, rn, rc, rfl, hL1, hn1, g1⟩
      rw [h1]
      have cd1 := (g1.cell (p := ⟨P, 3, none⟩) hP).trans cd
      have hb1 := hb.below g1
      have hds1 := hds.below g1 (Nat.le_refl _)
      go_wp2_with fail
      refine (labelsAt_calls P M n ss D da dl dc ds _ hb1 good rep hds1 hdl).mono ?_
      rintro e w2 ⟨rb, rm, rd, rfl, hL2, hn2, g2⟩
      rw [h2]
      have g02 := g1.trans (g2.mono g1.size)
      clear g1 g2 hL1 hL2 cd1 hb1 hds1
      have HE := hide g02
      clear g02
      go_wp2
      go_ret
      exact ⟨ret_int HF.out.symm, HE.out⟩
    | true =>
      have HF : Hid (ledF ss ts ds = 4) := by show ledF ss ts ds = 4; simp [ledF, h1]
      go_enter Tryz.func143, Tryz.ntmps143
      go_wp2_with fail
      refine (labelsAt_calls P M n ss D ta tl tc ts _ hb good rep hts htl).mono ?_
      rintro e w1 ⟨ra, rn, rc, rfl, hL1, hn1, g1⟩
      rw [h1]
      have cd1 := (g1.cell (p := ⟨P, 3, none⟩) hP).trans cd
      have hb1 := hb.below g1
      have hds1 := hds.below g1 (Nat.le_refl _)
      go_wp2_with fail
      refine (labelsAt_calls P M n ss D da dl dc ds _ hb1 good rep hds1 hdl).mono ?_
      rintro e w2 ⟨rb, rm, rd, rfl, hL2, hn2, g2⟩
      rw [h2]
      have g02 := g1.trans (g2.mono g1.size)
      clear g1 g2 hL1 hL2 cd1 hb1 hds1
      have HE := hide g02
      clear g02
      go_wp2
      go_ret
      exact ⟨ret_int HF.out.symm, HE.out⟩
  | true =>
    cases h2 : allS ss ds with
    | false =>
      have HF : Hid (ledF ss ts ds = 4) := by show ledF ss ts ds = 4; simp [ledF, h2]
      go_enter Tryz.func143, Tryz.ntmps143
      go_wp2_with fail
      refine (labelsAt_calls P M n ss D ta tl tc ts _ hb good rep hts htl).mono ?_
      rintro e w1 ⟨ra, rn, rc, rfl, hL1, hn1, g1⟩
      rw [h1]
      have cd1 := (g1.cell (p := ⟨P, 3, none⟩) hP).trans cd
      have hb1 := hb.below g1
      have hds1 := hds.below g1 (Nat.le_refl _)
      go_wp2_with fail
      refine (labelsAt_calls P M n ss D da dl dc ds _ hb1 good rep hds1 hdl).mono ?_
      rintro e w2 ⟨rb, rm, rd, rfl, hL2, hn2, g2⟩
      rw [h2]
      have g02 := g1.trans (g2.mono g1.size)
      have L1 := (hL1 h1).below g2 (Nat.le_refl _)
      clear g1 g2 hL1 hL2 cd1 hb1 hds1
      have HE := hide g02
      clear g02 L1
      go_wp2
      go_ret
      exact ⟨ret_int HF.out.symm, HE.out⟩
    | true =>
      cases h3 : thingsB (labs ss ts) with
      | false =>
        have HF : Hid (ledF ss ts ds = 1) := by show ledF ss ts ds = 1; simp [ledF, h1, h2, h3]
        go_enter Tryz.func143, Tryz.ntmps143
        go_wp2_with fail
        refine (labelsAt_calls P M n ss D ta tl tc ts _ hb good rep hts htl).mono ?_
        rintro e w1 ⟨ra, rn, rc, rfl, hL1, hn1, g1⟩
        rw [h1]
        have cd1 := (g1.cell (p := ⟨P, 3, none⟩) hP).trans cd
        have hb1 := hb.below g1
        have hds1 := hds.below g1 (Nat.le_refl _)
        go_wp2_with fail
        refine (labelsAt_calls P M n ss D da dl dc ds _ hb1 good rep hds1 hdl).mono ?_
        rintro e w2 ⟨rb, rm, rd, rfl, hL2, hn2, g2⟩
        rw [h2]
        have g02 := g1.trans (g2.mono g1.size)
        have L1 := (hL1 h1).below g2 (Nat.le_refl _)
        have L2 := hL2 h2
        clear g1 g2 hL1 hL2 cd1 hb1 hds1
        go_wp2_with fail
        refine (areThings_calls ra rn rc _ _ hn1 L1).mono ?_
        rintro e w3 ⟨rfl, g3⟩
        rw [h3]
        have g03 := g02.trans (g3.mono g02.size)
        have HE := hide g03
        clear g3 g03 g02 L1 L2
        go_wp2
        go_ret
        exact ⟨ret_int HF.out.symm, HE.out⟩
      | true =>
        cases h4 : lowsB (labs ss ds) with
        | false =>
          have HF : Hid (ledF ss ts ds = 1) := by show ledF ss ts ds = 1; simp [ledF, h1, h2, h4]
          go_enter Tryz.func143, Tryz.ntmps143
          go_wp2_with fail
          refine (labelsAt_calls P M n ss D ta tl tc ts _ hb good rep hts htl).mono ?_
          rintro e w1 ⟨ra, rn, rc, rfl, hL1, hn1, g1⟩
          rw [h1]
          have cd1 := (g1.cell (p := ⟨P, 3, none⟩) hP).trans cd
          have hb1 := hb.below g1
          have hds1 := hds.below g1 (Nat.le_refl _)
          go_wp2_with fail
          refine (labelsAt_calls P M n ss D da dl dc ds _ hb1 good rep hds1 hdl).mono ?_
          rintro e w2 ⟨rb, rm, rd, rfl, hL2, hn2, g2⟩
          rw [h2]
          have g02 := g1.trans (g2.mono g1.size)
          have L1 := (hL1 h1).below g2 (Nat.le_refl _)
          have L2 := hL2 h2
          clear g1 g2 hL1 hL2 cd1 hb1 hds1
          go_wp2_with fail
          refine (areThings_calls ra rn rc _ _ hn1 L1).mono ?_
          rintro e w3 ⟨rfl, g3⟩
          rw [h3]
          have g03 := g02.trans (g3.mono g02.size)
          have L3 := L2.below g3 (Nat.le_refl _)
          clear g3 g02 L1 L2
          go_wp2_with fail
          refine (areWithoutTop_calls rb rm rd _ _ hn2 L3).mono ?_
          rintro e w4 ⟨rfl, g4⟩
          rw [h4]
          have g04 := g03.trans (g4.mono g03.size)
          clear g4 g03 L3
          have HE := hide g04
          clear g04
          go_wp2
          go_ret
          exact ⟨ret_int HF.out.symm, HE.out⟩
        | true =>
          cases h5 : cntB ss ts ds with
          | false =>
            have HF : Hid (ledF ss ts ds = 8) := by show ledF ss ts ds = 8; simp [ledF, h1, h2, h3, h4, h5]
            go_enter Tryz.func143, Tryz.ntmps143
            go_wp2_with fail
            refine (labelsAt_calls P M n ss D ta tl tc ts _ hb good rep hts htl).mono ?_
            rintro e w1 ⟨ra, rn, rc, rfl, hL1, hn1, g1⟩
            rw [h1]
            have cd1 := (g1.cell (p := ⟨P, 3, none⟩) hP).trans cd
            have hb1 := hb.below g1
            have hds1 := hds.below g1 (Nat.le_refl _)
            go_wp2_with fail
            refine (labelsAt_calls P M n ss D da dl dc ds _ hb1 good rep hds1 hdl).mono ?_
            rintro e w2 ⟨rb, rm, rd, rfl, hL2, hn2, g2⟩
            rw [h2]
            have g02 := g1.trans (g2.mono g1.size)
            have L1 := (hL1 h1).below g2 (Nat.le_refl _)
            have L2 := hL2 h2
            clear g1 g2 hL1 hL2 cd1 hb1 hds1
            go_wp2_with fail
            refine (areThings_calls ra rn rc _ _ hn1 L1).mono ?_
            rintro e w3 ⟨rfl, g3⟩
            rw [h3]
            have g03 := g02.trans (g3.mono g02.size)
            have L3 := L2.below g3 (Nat.le_refl _)
            clear g3 g02 L1 L2
            go_wp2_with fail
            refine (areWithoutTop_calls rb rm rd _ _ hn2 L3).mono ?_
            rintro e w4 ⟨rfl, g4⟩
            rw [h4]
            have g04 := g03.trans (g4.mono g03.size)
            clear g4 g03 L3
            have ct4 := (g04.cell (p := ⟨P, 2, none⟩) hP).trans ct
            have cd4 := (g04.cell (p := ⟨P, 3, none⟩) hP).trans cd
            go_wp2_with fail
            refine (isCountedRight_calls P M n ss D ta da tl tc dl dc ts ds _ (hb.below g04) good rep ct4 cd4 (hts.below g04 (Nat.le_refl _)) (hds.below g04 (Nat.le_refl _)) htl hdl h1 h2).mono ?_
            rintro e w5 ⟨rfl, g5⟩
            rw [h5]
            have HE := hide (g04.trans (g5.mono g04.size))
            clear g5 g04 ct4 cd4
            go_wp2
            go_ret
            exact ⟨ret_int HF.out.symm, HE.out⟩
          | true =>
            have HF : Hid (ledF ss ts ds = 0) := by show ledF ss ts ds = 0; simp [ledF, h1, h2, h3, h4, h5]
            go_enter Tryz.func143, Tryz.ntmps143
            go_wp2_with fail
            refine (labelsAt_calls P M n ss D ta tl tc ts _ hb good rep hts htl).mono ?_
            rintro e w1 ⟨ra, rn, rc, rfl, hL1, hn1, g1⟩
            rw [h1]
            have cd1 := (g1.cell (p := ⟨P, 3, none⟩) hP).trans cd
            have hb1 := hb.below g1
            have hds1 := hds.below g1 (Nat.le_refl _)
            go_wp2_with fail
            refine (labelsAt_calls P M n ss D da dl dc ds _ hb1 good rep hds1 hdl).mono ?_
            rintro e w2 ⟨rb, rm, rd, rfl, hL2, hn2, g2⟩
            rw [h2]
            have g02 := g1.trans (g2.mono g1.size)
            have L1 := (hL1 h1).below g2 (Nat.le_refl _)
            have L2 := hL2 h2
            clear g1 g2 hL1 hL2 cd1 hb1 hds1
            go_wp2_with fail
            refine (areThings_calls ra rn rc _ _ hn1 L1).mono ?_
            rintro e w3 ⟨rfl, g3⟩
            rw [h3]
            have g03 := g02.trans (g3.mono g02.size)
            have L3 := L2.below g3 (Nat.le_refl _)
            clear g3 g02 L1 L2
            go_wp2_with fail
            refine (areWithoutTop_calls rb rm rd _ _ hn2 L3).mono ?_
            rintro e w4 ⟨rfl, g4⟩
            rw [h4]
            have g04 := g03.trans (g4.mono g03.size)
            clear g4 g03 L3
            have ct4 := (g04.cell (p := ⟨P, 2, none⟩) hP).trans ct
            have cd4 := (g04.cell (p := ⟨P, 3, none⟩) hP).trans cd
            go_wp2_with fail
            refine (isCountedRight_calls P M n ss D ta da tl tc dl dc ts ds _ (hb.below g04) good rep ct4 cd4 (hts.below g04 (Nat.le_refl _)) (hds.below g04 (Nat.le_refl _)) htl hdl h1 h2).mono ?_
            rintro e w5 ⟨rfl, g5⟩
            rw [h5]
            have HE := hide (g04.trans (g5.mono g04.size))
            clear g5 g04 ct4 cd4
            go_wp2
            go_ret
            exact ⟨ret_int HF.out.symm, HE.out⟩

/-- how tables read. -/
def RT (w : World) (a : Option Addr) (n : Nat) (ss : List (Int × List Int)) (ta : Option Addr) (tn : Nat) (ts : List Int) (da : Option Addr) (dn : Nat) (ds : List Int) : Prop :=
  n ≤ maxLen ∧ Sls w a n ss ∧ tn ≤ maxLen ∧ Sl w ta tn ts ∧ dn ≤ maxLen ∧ Sl w da dn ds

theorem RT.below {w w' : World} {a : Option Addr} {n : Nat} {ss : List (Int × List Int)} {ta : Option Addr} {tn : Nat} {ts : List Int} {da : Option Addr} {dn : Nat} {ds : List Int} (h : RT w a n ss ta tn ts da dn ds) {B : Nat} (hb : Below B w w') (hB : w.heap.size ≤ B) : RT w' a n ss ta tn ts da dn ds :=
  ⟨h.1, h.2.1.below hb hB, h.2.2.1, h.2.2.2.1.below hb hB, h.2.2.2.2.1, h.2.2.2.2.2.below hb hB⟩

/-- what a ledger's cells lead to: the book's map, the tags, the domains, each in blocks of their own. -/
def Led (w0 : Nat) (mo : Option Nat) (ss : List (Int × List Int)) (xa : Option Addr) (xn : Nat) (ts : List Int) (ya : Option Addr) (yn : Nat) (ds : List Int) (w : World) : Prop :=
  ∃ M X1 X2 X3, mo = some M ∧ w0 ≤ M ∧ M < X1 ∧ X1 ≤ X2 ∧ X2 ≤ X3 ∧ X3 ≤ w.heap.size ∧ w.ownsMap Tryz.prog 239 Rst M ss.length (bk ss ss.length) ∧ OS (InR X1 X2) xa xn ts w ∧ OS (InR X2 X3) ya yn ds w

theorem Led.below {w0 : Nat} {mo : Option Nat} {ss : List (Int × List Int)} {xa ya : Option Addr} {xn yn : Nat} {ts ds : List Int} {w w' : World} (h : Led w0 mo ss xa xn ts ya yn ds w) (hb : Below w.heap.size w w') : Led w0 mo ss xa xn ts ya yn ds w' := by
  obtain ⟨M, X1, X2, X3, h1, h2, h3, h4, h5, h6, h7, h8, h9⟩ := h
  exact ⟨M, X1, X2, X3, h1, h2, h3, h4, h5, by have := hb.size; omega, ownsMap_below h7 hb (Nat.le_refl _), OS.loc.below hb h8, OS.loc.below hb h9⟩

theorem Led.mono {w0 w1 : Nat} {mo : Option Nat} {ss : List (Int × List Int)} {xa ya : Option Addr} {xn yn : Nat} {ts ds : List Int} {w : World} (h : Led w0 mo ss xa xn ts ya yn ds w) (hb : w1 ≤ w0) : Led w1 mo ss xa xn ts ya yn ds w := by
  obtain ⟨M, X1, X2, X3, h1, h2, h⟩ := h
  exact ⟨M, X1, X2, X3, h1, by omega, h⟩

theorem Led.setCell {w0 : Nat} {mo : Option Nat} {ss : List (Int × List Int)} {xa ya : Option Addr} {xn yn : Nat} {ts ds : List Int} {w : World} (h : Led w0 mo ss xa xn ts ya yn ds w) {p : Addr} (hp : p.block < w0) (v : Value) : Led w0 mo ss xa xn ts ya yn ds (w.setCell p v) := by
  obtain ⟨M, X1, X2, X3, h1, h2, h3, h4, h5, h6, h7, h8, h9⟩ := h
  exact ⟨M, X1, X2, X3, h1, h2, h3, h4, h5, by simpa using h6, h7.setCell (by omega) v, OS.loc.setC h8 (fun e => by have := e.1; omega) v, OS.loc.setC h9 (fun e => by have := e.1; omega) v⟩

theorem tabF_bad {ss : List (Int × List Int)} {ts ds : List Int} (h : faultR ss ≠ 0) : tabF ss ts ds = faultR ss := if_neg h

theorem tabF_many {ss : List (Int × List Int)} {ts ds : List Int} (h : faultR ss = 0) (hm : manyB ts ds = true) : tabF ss ts ds = 2 := by
  unfold tabF
  rw [if_pos h, if_pos hm]

theorem tabF_led {ss : List (Int × List Int)} {ts ds : List Int} (h : faultR ss = 0) (hm : manyB ts ds = false) : tabF ss ts ds = ledF ss ts ds := by
  unfold tabF
  rw [if_pos h, if_neg (by rw [hm]; simp)]

theorem OS.allocR {B T B' : Nat} {a : Option Addr} {n : Nat} {rs : List Int} {w : World} (h : OS (InR B T) a n rs w) (hB : B' ≤ B) (o : Obj) : OS (InR B' T) a n rs (w.alloc o) := OS.mono (OS.loc.alloc h o) (fun k hk => ⟨by have := hk.1; omega, hk.2⟩)

theorem OS.set4R {B T B' P : Nat} {a : Option Addr} {n : Nat} {rs : List Int} {w : World} (h : OS (InR B T) a n rs w) (hB : B' ≤ B) (hP : P < B ∨ T ≤ P) (v0 v1 v2 v3 : Value) :
    OS (InR B' T) a n rs ((((w.setCell ⟨P, 0, none⟩ v0).setCell ⟨P, 1, none⟩ v1).setCell ⟨P, 2, none⟩ v2).setCell ⟨P, 3, none⟩ v3) := by
  have hn : ¬ InR B T P := fun e => by have h1 := e.1; have h2 := e.2; omega
  exact OS.mono (OS.loc.setC (OS.loc.setC (OS.loc.setC (OS.loc.setC h hn _) hn _) hn _) hn _) (fun k hk => ⟨by have := hk.1; omega, hk.2⟩)

/-- what 'openTables' answers. -/
def OT1 (ss : List (Int × List Int)) (ts ds : List Int) (w : World) (e : Ending) (w' : World) : Prop :=
  ∃ sz mo xa xn xc ya yn yc, e = .returned (.tuple #[.agg #[.int .i64 sz, .map mo, .slice xa xn xc, .slice ya yn yc], .int .i64 (tabF ss ts ds)]) ∧ Below w.heap.size w w' ∧
    (tabF ss ts ds = 0 → sz = (ss.length : Int) ∧ Led w.heap.size mo ss xa xn ts ya yn ds w')

theorem OT1.mk {ss : List (Int × List Int)} {ts ds : List Int} {w w' : World} {e : Ending} (sz : Int) (mo : Option Nat) (xa : Option Addr) (xn xc : Nat) (ya : Option Addr) (yn yc : Nat) (he : e = .returned (.tuple #[.agg #[.int .i64 sz, .map mo, .slice xa xn xc, .slice ya yn yc], .int .i64 (tabF ss ts ds)])) (hb : Below w.heap.size w w')
    (h : tabF ss ts ds = 0 → sz = (ss.length : Int) ∧ Led w.heap.size mo ss xa xn ts ya yn ds w') : OT1 ss ts ds w e w' := ⟨sz, mo, xa, xn, xc, ya, yn, yc, he, hb, h⟩

set_option maxRecDepth 100000 in
set_option maxHeartbeats 4000000 in
theorem openTables_calls (a : Option Addr) (n c : Nat) (ss : List (Int × List Int)) (ta : Option Addr) (tn tc : Nat) (ts : List Int) (da : Option Addr) (dn dc : Nat) (ds : List Int) (w : World) (hx : RT w a n ss ta tn ts da dn ds) :
    Calls Tryz.prog 112 #[.agg #[.slice a n c, .slice ta tn tc, .slice da dn dc]] w (OT1 ss ts ds w) := by
  have M0 := ((Mm.start w).alloc3 (.slice a n c) (.slice ta tn tc) (.slice da dn dc) 43).alloc4 (.int .i64 0) (.map none) (.slice none 0 0) (.slice none 0 0) 176
  simp only [World.size_alloc] at M0
  have hx0 := hx.below M0.bel (Nat.le_refl _)
  obtain rfl : n = ss.length := hx.2.1.1.symm
  have htl := hx.2.2.2.1.1
  have hdl := hx.2.2.2.2.2.1
  obtain ⟨hn, _, htm, _, hdm, _⟩ := hx
  obtain ⟨_, hss, _, hts, _, hds⟩ := hx0
  by_cases hr : faultR ss = 0
  · have er : (faultR ss != 0) = false := by simp [hr]
    have Hr := hide hr
    clear hr
    by_cases hmany : manyB ts ds = true
    · have HF := hide (tabF_many Hr.out hmany)
      by_cases h6 : 6 < tn
      · go_enter Tryz.func112, Tryz.ntmps112
        go_wp2_with fail
        refine (openRegistry_calls a _ c ss _ hn hss).mono ?_
        rintro e w1 ⟨sz, mo, rfl, g1, _⟩
        have M1 := (M0.below g1).alloc2 (.int .i64 sz) (.map mo) 174
        have t1 := M1.cell 7 rfl
        have r0 := M1.cell 2 rfl
        have r1 := M1.cell 3 rfl
        have r2 := M1.cell 4 rfl
        have r3 := M1.cell 5 rfl
        have f0 := M1.fz 2 rfl
        have f1 := M1.fz 3 rfl
        have f2 := M1.fz 4 rfl
        have f3 := M1.fz 5 rfl
        have HB := hide M1.bel
        clear M0 M1 g1 hss hts hds
        go_wp2
        refine bodyPost_ret (v := .tuple #[.agg #[.int .i64 0, .map none, .slice none 0 0, .slice none 0 0], .int .i64 2]) (by simp [results, Tryz.results112, go_sem, r0, r1, r2, r3]) rfl (OT1.mk 0 none none 0 0 none 0 0 (by rw [HF.out]) ?_ (fun h => absurd (HF.out.symm.trans h) (by decide)))
        exact (((HB.out.setCell (by simp) _).setCell (by simp) _).setCell (by simp) _).setCell (by simp) _
      · have h4 : 4 < dn := by
          unfold manyB at hmany
          simp at hmany
          omega
        go_enter Tryz.func112, Tryz.ntmps112
        go_wp2_with fail
        refine (openRegistry_calls a _ c ss _ hn hss).mono ?_
        rintro e w1 ⟨sz, mo, rfl, g1, _⟩
        have M1 := (M0.below g1).alloc2 (.int .i64 sz) (.map mo) 174
        have t1 := M1.cell 7 rfl
        have t2 := M1.cell 8 rfl
        have r0 := M1.cell 2 rfl
        have r1 := M1.cell 3 rfl
        have r2 := M1.cell 4 rfl
        have r3 := M1.cell 5 rfl
        have f0 := M1.fz 2 rfl
        have f1 := M1.fz 3 rfl
        have f2 := M1.fz 4 rfl
        have f3 := M1.fz 5 rfl
        have HB := hide M1.bel
        clear M0 M1 g1 hss hts hds
        go_wp2
        refine bodyPost_ret (v := .tuple #[.agg #[.int .i64 0, .map none, .slice none 0 0, .slice none 0 0], .int .i64 2]) (by simp [results, Tryz.results112, go_sem, r0, r1, r2, r3]) rfl (OT1.mk 0 none none 0 0 none 0 0 (by rw [HF.out]) ?_ (fun h => absurd (HF.out.symm.trans h) (by decide)))
        exact (((HB.out.setCell (by simp) _).setCell (by simp) _).setCell (by simp) _).setCell (by simp) _
    · have hmf : manyB ts ds = false := by simpa using hmany
      have HF := hide (tabF_led Hr.out hmf)
      have hs6 : ¬ (6 < tn) ∧ ¬ (4 < dn) := by
        unfold manyB at hmf
        simp at hmf
        omega
      obtain ⟨h6, h4⟩ := hs6
      clear hmany hmf
      go_enter Tryz.func112, Tryz.ntmps112
      go_wp2_with fail
      refine (openRegistry_calls a _ c ss _ hn hss).mono ?_
      rintro e w1 ⟨sz, mo, rfl, g1, hown⟩
      obtain ⟨rfl, M, rfl, hM, hown⟩ := hown Hr.out
      simp only [World.size_alloc] at hM
      have M1 := (M0.below g1).alloc2 (.int .i64 (ss.length : Int)) (.map (some M)) 174
      have al := (Below.refl w1.heap.size w1).alloc (Nat.le_refl _) (.cells #[.int .i64 (ss.length : Int), .map (some M)] 174)
      have s1 := (hts.below g1 (Nat.le_refl _)).below al (Nat.le_refl _)
      have s2 := (hds.below g1 (Nat.le_refl _)).below al (Nat.le_refl _)
      have hown1 := ownsMap_below hown al (Nat.le_refl _)
      have q0 := M1.cell 0 rfl
      have q1 := M1.cell 1 rfl
      have q2 := M1.cell 7 rfl
      have q3 := M1.cell 8 rfl
      have lt0 := M1.lt 0 rfl
      have lt2 := M1.lt 7 rfl
      have ltR := M1.lt 2 rfl
      have hMlt : M < w1.heap.size := hown.lt
      clear g1 al hown hss hts hds M0
      go_upto_region 6 with fail
      generalize hW : (w1.alloc (.cells #[.int .i64 (ss.length : Int), .map (some M)] 174)) = W at M1 s1 s2 hown1 q0 q1 q2 q3 lt0 lt2 ltR ⊢
      have HWs : Hid (W.heap.size = w1.heap.size + 1) := by show _ = _; rw [← hW]; simp
      clear hW
      go_cut [6] (fun v6 wd => ∃ P xa xc ya yc X1 X2 X3, v6 = .pointer (some ⟨P, 0, none⟩) ∧ wd.cell? ⟨P, 0, none⟩ = some (.int .i64 (ss.length : Int)) ∧ wd.cell? ⟨P, 1, none⟩ = some (.map (some M)) ∧ wd.cell? ⟨P, 2, none⟩ = some (.slice xa tn xc) ∧ wd.cell? ⟨P, 3, none⟩ = some (.slice ya dn yc) ∧
        (∀ j, wd.frozen? ⟨P, j, none⟩ = false) ∧ (W.heap.size ≤ X1 ∧ X1 ≤ X2 ∧ X2 ≤ X3 ∧ X3 ≤ wd.heap.size) ∧ OS (InR X1 X2) xa tn ts wd ∧ OS (InR X2 X3) ya dn ds wd ∧ Below W.heap.size W wd)
      case first =>
        have HS0 : Hid (W.drew.cell? ⟨w1.heap.size, 0, none⟩ = some (.int .i64 (ss.length : Int)) ∧ W.drew.cell? ⟨w1.heap.size, 1, none⟩ = some (.map (some M)) ∧ W.drew.cell? ⟨w.heap.size, 1, none⟩ = some (.slice ta tn tc) ∧ W.drew.cell? ⟨w.heap.size, 2, none⟩ = some (.slice da dn dc) ∧ Below W.heap.size W W.drew) := ⟨q0, q1, q2, q3, (Below.refl _ _).drew⟩
        have HS1 := hide s1
        have HS2 := hide s2
        clear M1 s1 s2 hown1
        go_region_held2 (fun w' => w'.cell? ⟨w1.heap.size, 0, none⟩ = some (.int .i64 (ss.length : Int)) ∧ w'.cell? ⟨w1.heap.size, 1, none⟩ = some (.map (some M)) ∧ w'.cell? ⟨w.heap.size, 1, none⟩ = some (.slice ta tn tc) ∧ w'.cell? ⟨w.heap.size, 2, none⟩ = some (.slice da dn dc) ∧ Below W.heap.size W w')
          (first | with_reducible exact HS0.out | (repeat (first | with_reducible assumption | with_reducible refine q4_allocd lt0 lt0 lt2 lt2 ?_ _ | with_reducible refine q4_alloc lt0 lt0 lt2 lt2 ?_ _ | with_reducible refine q4_set lt0 lt0 lt2 lt2 ?_ ?_ _ | (show (_ : Nat) ≤ _; exact Nat.le_refl _) | (show (_ : Nat) ≤ _; dsimp only; omega))))
          (first
            | (go_at_call_of 142 (Value.slice ta tn tc); refine (clone_calls ta tn tc ts _ (by omega) ?_).mono ?_; exact HS1.out.below (q4_bel (by with_reducible assumption)) (Nat.le_refl _); rintro e wa ⟨xa, xc, rfl, ox, ga⟩; have hsa := q4_below lt0 lt0 lt2 lt2 (by with_reducible assumption) ga; have hza := ga.size; have hwa := (q4_bel hsa).size; (try simp only [World.size_alloc, World.size_drew] at hza ox); (try have hqa := Nat.lt_of_succ_le hza); obtain ⟨bca, bfa⟩ := bcellQ ga; (try simp only [World.size_alloc, World.size_drew] at bca bfa); clear ga)
            | (go_at_call_of 142 (Value.slice da dn dc); refine (clone_calls da dn dc ds _ (by omega) ?_).mono ?_; exact HS2.out.below (q4_bel (by with_reducible assumption)) (Nat.le_refl _); rintro e wb ⟨ya, yc, rfl, oy, gb⟩; have hsb := q4_below lt0 lt0 lt2 lt2 (by with_reducible assumption) gb; have ox := Loc.belowA OS.loc ox gb (by first | exact Below.refl _ _ | exact (Below.refl _ _).alloc (Nat.le_refl _) _); have hzb := gb.size; have hwb := (q4_bel hsb).size; (try simp only [World.size_alloc] at hzb oy); (try have hqb := Nat.lt_of_succ_le hzb); (try have hrb := Nat.lt_of_lt_of_le hqa hzb); obtain ⟨bcb, bfb⟩ := bcellQ gb; (try simp only [World.size_alloc] at bcb bfb); clear gb))
        all_goals go_wp2_with fail
        all_goals go_meet
        all_goals (
          refine ⟨_, xa, xc, ya, yc, W.heap.size, wa.heap.size, wb.heap.size, rfl, ?c0, ?c1, ?c2, ?c3, fun j => ?fz, ⟨Nat.le_refl _, hwa, ?s1, ?s2⟩, ?ox, ?oy, ?bel⟩
          case c0 => first | (go_simp; done) | (with_reducible refine set4_at0 _ _ _ _ _ _ ?_; go_simp; done)
          case c1 => first | (go_simp; done) | (with_reducible refine set4_at1 _ _ _ _ _ _ ?_; go_simp; done)
          case c2 => first | (go_simp; done) | (with_reducible refine set4_at2 _ _ _ _ _ _ ?_; go_simp; done)
          case c3 => first | (go_simp; done) | (with_reducible refine set4_at3 _ _ _ _ _ _ ?_; go_simp; done)
          case fz => go_simp
          case s1 => omega
          case s2 => first | omega | (simp; done) | (simp; omega)
          case ox => first | with_reducible exact OS.allocR ox (by omega) _ | with_reducible exact OS.set4R ox (by omega) (by omega) _ _ _ _
          case oy => first | with_reducible exact OS.allocR oy (by omega) _ | with_reducible exact OS.set4R oy (by omega) (by omega) _ _ _ _
          case bel => exact q4_bel (by with_reducible assumption))
      case rest =>
        obtain ⟨P, xa, xc, ya, yc, X1, X2, X3, rfl, c0, c1, c2, c3, cf, ⟨k1, k2, k3, k4⟩, ox, oy, hWc⟩ := hcut
        obtain ⟨wq, rfl⟩ : ∃ x, x = wc := ⟨wc, rfl⟩
        have lP : P < wq.heap.size := World.block_lt_of_cell? _ _ c0
        have M2 := M1.below hWc
        have hown2 := ownsMap_below hown1 hWc (Nat.le_refl _)
        have bkq : Bk wq.drew P M (ss.length : Int) ss.length (bk ss ss.length) := ⟨lP, c0, c1, cf, hown2⟩
        have HQ := hide bkq
        have HX := hide (OS.loc.below (Below.refl wq.heap.size wq).drew ox)
        have HY := hide (OS.loc.below (Below.refl wq.heap.size wq).drew oy)
        have HM2 := hide M2
        have kW := HWs.out
        have r0 := M2.cell 2 rfl
        have r1 := M2.cell 3 rfl
        have r2 := M2.cell 4 rfl
        have r3 := M2.cell 5 rfl
        have f0 := M2.fz 2 rfl
        have f1 := M2.fz 3 rfl
        have f2 := M2.fz 4 rfl
        have f3 := M2.fz 5 rfl
        clear M1 M2 hown1 hown2 bkq ox oy hWc s1 s2 q0 q1 q2 q3 HWs
        go_wp2_with fail
        go_region_with (first
          | (go_at_call 143; refine (fault_calls P M _ ss _ xa ya tn xc dn yc ts ds _ HQ.out (good_of Hr.out) (rep_bk Hr.out) c2 c3 HX.out.sl HY.out.sl (by omega) (by omega)).mono ?_; rintro e w3 ⟨rfl, g3⟩; have h3 : Below wq.heap.size wq w3 := ((Below.refl wq.heap.size wq).drew).trans g3; have d0 := (h3.cell (p := ⟨P, 0, none⟩) lP).trans c0; have d1 := (h3.cell (p := ⟨P, 1, none⟩) lP).trans c1; have d2 := (h3.cell (p := ⟨P, 2, none⟩) lP).trans c2; have d3 := (h3.cell (p := ⟨P, 3, none⟩) lP).trans c3; have M3 := HM2.out.below h3; have u0 := M3.cell 2 rfl; have u1 := M3.cell 3 rfl; have u2 := M3.cell 4 rfl; have u3 := M3.cell 5 rfl; have v0 := M3.fz 2 rfl; have v1 := M3.fz 3 rfl; have v2 := M3.fz 4 rfl; have v3 := M3.fz 5 rfl; have HB3 := hide M3.bel; have HL : Hid (Led (w.heap.size + 1 + 1) (some M) ss xa tn ts ya dn ds w3) := ⟨M, X1, X2, X3, rfl, by omega, by omega, k2, k3, by have := h3.size; omega, ownsMap_below HQ.out.own g3 (Nat.le_refl _), OS.loc.below g3 HX.out, OS.loc.below g3 HY.out⟩; clear g3 h3 M3))
        all_goals go_wp2
        all_goals refine bodyPost_ret (v := .tuple #[.agg #[.int .i64 (ss.length : Int), .map (some M), .slice xa tn xc, .slice ya dn yc], .int .i64 (ledF ss ts ds)]) (by simp [results, Tryz.results112, go_sem, u0, u1, u2, u3]) rfl (OT1.mk (ss.length : Int) (some M) xa tn xc ya dn yc (by rw [HF.out]) ?_ (fun _ => ⟨rfl, ?_⟩))
        all_goals first | exact (((HB3.out.setCell (by simp) _).setCell (by simp) _).setCell (by simp) _).setCell (by simp) _ | exact ((((HL.out.setCell (by simp) _).setCell (by simp) _).setCell (by simp) _).setCell (by simp) _).mono (by omega)
  · have er : (faultR ss != 0) = true := by simp [hr]
    have HF := hide (tabF_bad (ts := ts) (ds := ds) hr)
    have Hr := hide hr
    clear hr
    go_enter Tryz.func112, Tryz.ntmps112
    go_wp2_with fail
    refine (openRegistry_calls a _ c ss _ hn hss).mono ?_
    rintro e w1 ⟨sz, mo, rfl, g1, _⟩
    have M1 := (M0.below g1).alloc2 (.int .i64 sz) (.map mo) 174
    have r0 := M1.cell 2 rfl
    have r1 := M1.cell 3 rfl
    have r2 := M1.cell 4 rfl
    have r3 := M1.cell 5 rfl
    have f0 := M1.fz 2 rfl
    have f1 := M1.fz 3 rfl
    have f2 := M1.fz 4 rfl
    have f3 := M1.fz 5 rfl
    have HB := hide M1.bel
    clear M0 M1 g1 hss hts hds
    go_wp2
    refine bodyPost_ret (v := .tuple #[.agg #[.int .i64 0, .map none, .slice none 0 0, .slice none 0 0], .int .i64 (faultR ss)]) (by simp [results, Tryz.results112, go_sem, r0, r1, r2, r3]) rfl (OT1.mk 0 none none 0 0 none 0 0 (by rw [HF.out]) ?_ (fun h => absurd (HF.out.symm.trans h) Hr.out))
    exact (((HB.out.setCell (by simp) _).setCell (by simp) _).setCell (by simp) _).setCell (by simp) _

end Go.Proofs.YtgkjmeogdomgmaaGreat
