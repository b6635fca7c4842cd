import Derived.Test.YtgkjmeogdomgmaaL3Fault
import Derived.Test.YtgkjmeogdomgmaaDropP
import Derived.Test.YtgkjmeogdomgmaaAddP
import Derived.Test.YtgkjmeogdomgmaaEnterP
import Derived.Test.YtgkjmeogdomgmaaLeaveP
import Derived.Test.YtgkjmeogdomgmaaTgP
import Derived.Test.YtgkjmeogdomgmaaBookReg2
import Derived.Test.YtgkjmeogdomgmaaP1
import Derived.Test.YtgkjmeogdomgmaaApp
import Derived.Test.YtgkjmeogdomgmaaSep
import Derived.Test.YtgkjmeogdomgmaaP2
import Derived.Test.YtgkjmeogdomgmaaLevels
import Derived.Test.YtgkjmeogdomgmaaQs
import Derived.Test.YtgkjmeogdomgmaaP0
import Derived.Test.YtgkjmeogdomgmaaLeave
import Derived.Test.YtgkjmeogdomgmaaL2EnterF
import Derived.Test.YtgkjmeogdomgmaaL1Copy
import Derived.Test.YtgkjmeogdomgmaaL3CopyR
import Derived.Test.YtgkjmeogdomgmaaThing
import Derived.Deep.AppendLies
import Derived.StillTailTactics
import Derived.WalkKit
import Derived.ProofKit
import Derived.OpenShut
import Derived.ShutString
import Derived.ChangeOld
import Derived.Below
import Derived.WalkSpells
import Derived.Deep.QuietTactic
import Derived.BigQuiet
import Derived.Deep.RegionWith
import Derived.Deep.WholeRow
import Derived.Deep.DeepCutAuto
import Derived.Deep.RegionHeld2
import Derived.Deep.AppendLies
import Derived.Deep.RegionLaw
namespace Go.Proofs.Ytgkjmeogdomgmaa
open Go.ChangeShapes Go.WideShapes Go.ChangeAt Go.RowKit

set_option maxRecDepth 100000 in
theorem implTablesFault_calls (a : Option Addr) (n ca : Nat) (ss : List (Int × List Int)) (ta : Option Addr) (tl tc : Nat) (ts : List Int) (da : Option Addr) (dl dc : Nat) (ds : List Int) (w : World) (hrt : RT w a n ss ta tl ts da dl ds) :
    Calls Try.prog 24 #[.agg #[.slice a n ca, .slice ta tl tc, .slice da dl dc]] w fun e w' => e = .returned (.int .i64 (tabF ss ts ds)) ∧ Below w.heap.size w w' := by
  have M0 := (Mm.start w).alloc3 (.slice a n ca) (.slice ta tl tc) (.slice da dl dc) 36
  go_enter Try.func24, Try.ntmps24
  go_wp2_with fail
  refine (openTables_calls a n ca ss ta tl tc ts da dl dc ds _ (hrt.below M0.bel (Nat.le_refl _))).mono ?_
  rintro e w1 ⟨sz, mo, xa, xn, xc, ya, yn, yc, rfl, g1, _⟩
  have HE := hide (M0.below g1).bel
  clear g1 M0
  go_wp2
  go_ret
  exact ⟨rfl, HE.out.alloc HE.out.size _⟩

/-- right tables, as one fact. -/
structure Tb (ss : List (Int × List Int)) (ts ds : List Int) : Prop where
  good : Good ss
  nt : ts.length ≤ 6
  nd : ds.length ≤ 4
  tg : ∀ s ∈ ts, ∃ q : Nat, s = (q : Int) ∧ q < ss.length ∧ 0 < gc ss q ∧ thing0 (gl ss q) = true
  dm : ∀ s ∈ ds, ∃ q : Nat, s = (q : Int) ∧ q < ss.length ∧ 0 < gc ss q ∧ lowB (gl ss q) = true
  cn : ∀ i, i < ss.length → gc ss i = cnt ts i + cnt ds i

theorem atL_at {ss : List (Int × List Int)} {q : Nat} (hq : q < ss.length) (hp : 0 < gc ss q) : atC ss (q : Int) = 0 ∧ atL ss (q : Int) = gl ss q := by
  have h1 : atC ss (q : Int) = 0 := by rw [atC_in hq, if_neg (by omega)]
  exact ⟨h1, by unfold atL; rw [if_pos h1]; rfl⟩

theorem thing_of {zs : List Int} (h : fault zs = 0) : thingB zs = thing0 zs := by simp [thingB, thing0, h]

theorem slot_of {ss : List (Int × List Int)} (g : Good ss) {s : Int} (h : okS ss s = true) : ∃ q : Nat, s = (q : Int) ∧ q < ss.length ∧ 0 < gc ss q := by
  have h1 : atC ss s = 0 := of_decide_eq_true h
  obtain ⟨q, e, hq, hp, _⟩ := atC_zero g h1
  exact ⟨q, e, hq, hp⟩

theorem tb_of {ss : List (Int × List Int)} {ts ds : List Int} (h : tabF ss ts ds = 0) : Tb ss ts ds := by
  obtain ⟨hr, hm, a1, a2, t1, l1, hc⟩ := tabF_zero h
  have g := good_of hr
  obtain ⟨n1, n2⟩ := many_len hm
  refine ⟨g, n1, n2, fun s hs => ?_, fun s hs => ?_, fun i hi => ?_⟩
  · obtain ⟨q, e, hq, hp⟩ := slot_of g (List.all_eq_true.1 a1 s hs)
    have h1 := List.all_eq_true.1 t1 (atL ss s) (List.mem_map_of_mem hs)
    rw [e, (atL_at hq hp).2, thing_of (g.right q hq hp)] at h1
    exact ⟨q, e, hq, hp, h1⟩
  · obtain ⟨q, e, hq, hp⟩ := slot_of g (List.all_eq_true.1 a2 s hs)
    have h1 := List.all_eq_true.1 l1 (atL ss s) (List.mem_map_of_mem hs)
    rw [e, (atL_at hq hp).2] at h1
    exact ⟨q, e, hq, hp, h1⟩
  · unfold cntB at hc
    exact of_decide_eq_true (List.all_eq_true.1 hc i (List.mem_range.2 hi))

theorem Tb.tab {ss : List (Int × List Int)} {ts ds : List Int} (h : Tb ss ts ds) : tabF ss ts ds = 0 := by
  have hr := fault_of_good h.good
  have hm : manyB ts ds = false := by have := h.nt; have := h.nd; simp [manyB]; omega
  have a1 : allS ss ts = true := List.all_eq_true.2 fun s hs => by
    obtain ⟨q, e, hq, hp, _⟩ := h.tg s hs
    rw [e]; exact decide_eq_true (atL_at hq hp).1
  have a2 : allS ss ds = true := List.all_eq_true.2 fun s hs => by
    obtain ⟨q, e, hq, hp, _⟩ := h.dm s hs
    rw [e]; exact decide_eq_true (atL_at hq hp).1
  have t1 : thingsB (labs ss ts) = true := List.all_eq_true.2 fun z hz => by
    obtain ⟨s, hs, rfl⟩ := List.mem_map.1 hz
    obtain ⟨q, e, hq, hp, ht⟩ := h.tg s hs
    rw [e, (atL_at hq hp).2, thing_of (h.good.right q hq hp)]; exact ht
  have l1 : lowsB (labs ss ds) = true := List.all_eq_true.2 fun z hz => by
    obtain ⟨s, hs, rfl⟩ := List.mem_map.1 hz
    obtain ⟨q, e, hq, hp, ht⟩ := h.dm s hs
    rw [e, (atL_at hq hp).2]; exact ht
  have hc : cntB ss ts ds = true := List.all_eq_true.2 fun i hi => decide_eq_true (h.cn i (List.mem_range.1 hi))
  unfold tabF
  rw [if_pos hr, if_neg (by simp [hm])]
  simp [ledF, a1, a2, t1, l1, hc]

theorem cnt_snoc (l : List Int) (x : Int) (i : Nat) : cnt (l ++ [x]) i = cnt l i + (if x = (i : Int) then 1 else 0) := by
  unfold cnt
  rw [List.filter_append, List.length_append]
  by_cases h : x = (i : Int)
  · simp [h]
  · simp [h]

theorem cnt_mem {l : List Int} {i : Nat} (h : (i : Int) ∈ l) : 1 ≤ cnt l i := by
  unfold cnt
  have : 0 < (l.filter (fun s => s == (i : Int))).length := List.length_pos_of_mem (List.mem_filter.2 ⟨h, by simp⟩)
  omega

theorem cnt_out {l : List Int} {n i : Nat} (h : ∀ s ∈ l, ∃ q : Nat, s = (q : Int) ∧ q < n) (hi : n ≤ i) : cnt l i = 0 := by
  unfold cnt
  have : l.filter (fun s => s == (i : Int)) = [] := by
    rw [List.filter_eq_nil_iff]
    intro s hs e
    obtain ⟨q, e1, hq⟩ := h s hs
    have e2 : s = (i : Int) := by simpa using e
    omega
  rw [this]
  rfl

theorem gc_out {ss : List (Int × List Int)} {i : Nat} (h : ss.length ≤ i) : gc ss i = 0 := by
  unfold gc
  simp [List.getElem?_eq_none h]

theorem gc_enQ {ss : List (Int × List Int)} (zs : List Int) : gc ss (enQ ss zs) = enN ss zs := by
  rcases at2_cases ss zs with ⟨h1, _⟩ | ⟨j, _, h1, _⟩
  · have e1 : enQ ss zs = fe ss := if_pos (by omega)
    have e2 : enN ss zs = 0 := if_pos (by omega)
    rw [e1, e2]
    rcases Nat.lt_or_ge (fe ss) ss.length with h | h
    · exact fe_gc h
    · exact gc_out h
  · have e1 : enQ ss zs = (at2 ss zs).toNat := if_neg (by omega)
    have e2 : enN ss zs = gc ss (at2 ss zs).toNat := if_neg (by omega)
    rw [e1, e2]

theorem gc_en {ss : List (Int × List Int)} (g : Good ss) (zs : List Int) (i : Nat) : gc (enS ss zs) i = gc ss i + (if i = enQ ss zs then 1 else 0) := by
  have hq := (en_facts g (zs := zs)).1
  unfold enS
  rw [gc_put _ hq]
  by_cases h : i = enQ ss zs
  · rw [if_pos h, if_pos h, h, gc_enQ]
  · rw [if_neg h, if_neg h]; omega

theorem gl_en {ss : List (Int × List Int)} (g : Good ss) (zs : List Int) {i : Nat} (hi : i < ss.length) (hp : 0 < gc ss i) : gl (enS ss zs) i = gl ss i := by
  obtain ⟨hq, _, _, _, h5⟩ := en_facts g (zs := zs)
  unfold enS
  rw [gl_put _ hq]
  by_cases h : i = enQ ss zs
  · rw [if_pos h]
    subst h
    exact (h5 hi hp).symm
  · rw [if_neg h]

theorem gl_enQ {ss : List (Int × List Int)} (g : Good ss) (zs : List Int) : gl (enS ss zs) (enQ ss zs) = zs := by
  have hq := (en_facts g (zs := zs)).1
  unfold enS
  rw [gl_put _ hq, if_pos rfl]

theorem len_en {ss : List (Int × List Int)} (g : Good ss) (zs : List Int) : (enS ss zs).length = max ss.length (enQ ss zs + 1) := length_layS _ (en_facts g).1

/-- what was meant is meant behind an entering, with its label; what was entered is there. -/
theorem en_at {ss : List (Int × List Int)} (g : Good ss) {zs : List Int} {q : Nat} (hq : q < ss.length) (hp : 0 < gc ss q) : q < (enS ss zs).length ∧ 0 < gc (enS ss zs) q ∧ gl (enS ss zs) q = gl ss q := by
  refine ⟨by rw [len_en g]; omega, ?_, gl_en g zs hq hp⟩
  rw [gc_en g]
  split <;> omega

theorem en_new {ss : List (Int × List Int)} (g : Good ss) {zs : List Int} : enQ ss zs < (enS ss zs).length ∧ 0 < gc (enS ss zs) (enQ ss zs) ∧ gl (enS ss zs) (enQ ss zs) = zs := by
  refine ⟨by rw [len_en g]; omega, ?_, gl_enQ g zs⟩
  rw [gc_en g, if_pos rfl]
  have h0 : 0 ≤ gc ss (enQ ss zs) := by rw [gc_enQ]; exact (en_facts g (zs := zs)).2.1
  omega

theorem Tb.cn' {ss : List (Int × List Int)} {ts ds : List Int} (h : Tb ss ts ds) (i : Nat) : gc ss i = cnt ts i + cnt ds i := by
  rcases Nat.lt_or_ge i ss.length with hi | hi
  · exact h.cn i hi
  · rw [gc_out hi, cnt_out (fun s hs => by obtain ⟨q, e, hq, _⟩ := h.tg s hs; exact ⟨q, e, hq⟩) hi, cnt_out (fun s hs => by obtain ⟨q, e, hq, _⟩ := h.dm s hs; exact ⟨q, e, hq⟩) hi]
    rfl

theorem Tb.addTag {ss : List (Int × List Int)} {ts ds zs : List Int} (h : Tb ss ts ds) (hz : fault zs = 0) (ht : thing0 zs = true) (hn : ts.length ≤ 5) (he : etC ss zs = 0) : Tb (enS ss zs) (ts ++ [(enQ ss zs : Int)]) ds := by
  refine ⟨good_enter h.good hz he, by simp; omega, h.nd, fun s hs => ?_, fun s hs => ?_, fun i _ => ?_⟩
  · rcases List.mem_append.1 hs with hs | hs
    · obtain ⟨q, e, hq, hp, hl⟩ := h.tg s hs
      obtain ⟨a, b, c⟩ := en_at h.good (zs := zs) hq hp
      exact ⟨q, e, a, b, by rw [c]; exact hl⟩
    · obtain ⟨a, b, c⟩ := en_new h.good (zs := zs)
      exact ⟨_, by simpa using hs, a, b, by rw [c]; exact ht⟩
  · obtain ⟨q, e, hq, hp, hl⟩ := h.dm s hs
    obtain ⟨a, b, c⟩ := en_at h.good (zs := zs) hq hp
    exact ⟨q, e, a, b, by rw [c]; exact hl⟩
  · rw [gc_en h.good, cnt_snoc, h.cn' i]
    by_cases e : i = enQ ss zs
    · rw [if_pos e, if_pos (by omega)]; omega
    · rw [if_neg e, if_neg (by omega)]; omega

theorem Tb.addDom {ss : List (Int × List Int)} {ts ds zs : List Int} (h : Tb ss ts ds) (hz : fault zs = 0) (ht : lowB zs = true) (hn : ds.length ≤ 3) (he : etC ss zs = 0) : Tb (enS ss zs) ts (ds ++ [(enQ ss zs : Int)]) := by
  refine ⟨good_enter h.good hz he, h.nt, by simp; omega, fun s hs => ?_, fun s hs => ?_, fun i _ => ?_⟩
  · obtain ⟨q, e, hq, hp, hl⟩ := h.tg s hs
    obtain ⟨a, b, c⟩ := en_at h.good (zs := zs) hq hp
    exact ⟨q, e, a, b, by rw [c]; exact hl⟩
  · rcases List.mem_append.1 hs with hs | hs
    · obtain ⟨q, e, hq, hp, hl⟩ := h.dm s hs
      obtain ⟨a, b, c⟩ := en_at h.good (zs := zs) hq hp
      exact ⟨q, e, a, b, by rw [c]; exact hl⟩
    · obtain ⟨a, b, c⟩ := en_new h.good (zs := zs)
      exact ⟨_, by simpa using hs, a, b, by rw [c]; exact ht⟩
  · rw [gc_en h.good, cnt_snoc, h.cn' i]
    by_cases e : i = enQ ss zs
    · rw [if_pos e, if_pos (by omega)]; omega
    · rw [if_neg e, if_neg (by omega)]; omega

/-- what is meant besides keeps its label behind a leaving. -/
theorem lv_at {ss : List (Int × List Int)} {p q : Nat} (hp : p < ss.length) (hq : 0 < gc ss q) (h2 : q = p → 2 ≤ gc ss p) : 0 < gc (leaveS ss p) q ∧ gl (leaveS ss p) q = gl ss q := by
  rw [gc_leave hp, gl_leave hp]
  by_cases e : q = p
  · have := h2 e
    subst e
    rw [if_pos rfl, if_pos rfl, if_neg (by omega)]
    exact ⟨by omega, rfl⟩
  · rw [if_neg e, if_neg e]
    exact ⟨hq, rfl⟩

theorem Tb.dropTag {ss : List (Int × List Int)} {ts ds : List Int} {q : Nat} (h : Tb ss (ts ++ [(q : Int)]) ds) : Tb (leaveS ss q) ts ds := by
  have hmem : (q : Int) ∈ ts ++ [(q : Int)] := by simp
  obtain ⟨q', e, hq, hp, _⟩ := h.tg _ hmem
  obtain rfl : q = q' := by omega
  have hcq := h.cn q hq
  rw [cnt_snoc, if_pos rfl] at hcq
  have c1 := (cnt_le ts q).1
  have c2 := (cnt_le ds q).1
  refine ⟨good_leave h.good hq hp, by have := h.nt; simp at this; omega, h.nd, fun s hs => ?_, fun s hs => ?_, fun i hi => ?_⟩
  · obtain ⟨j, e, hj, hjp, hl⟩ := h.tg s (List.mem_append_left _ hs)
    obtain ⟨a, b⟩ := lv_at hq hjp (fun ej => by have := cnt_mem (l := ts) (i := q) (by rw [← ej, ← e]; exact hs); omega)
    exact ⟨j, e, by rw [length_leaveS]; exact hj, a, by rw [b]; exact hl⟩
  · obtain ⟨j, e, hj, hjp, hl⟩ := h.dm s hs
    obtain ⟨a, b⟩ := lv_at hq hjp (fun ej => by have := cnt_mem (l := ds) (i := q) (by rw [← ej, ← e]; exact hs); omega)
    exact ⟨j, e, by rw [length_leaveS]; exact hj, a, by rw [b]; exact hl⟩
  · rw [length_leaveS] at hi
    have hci := h.cn i hi
    rw [cnt_snoc] at hci
    rw [gc_leave hq]
    by_cases ei : i = q
    · subst ei
      rw [if_pos rfl] at hci ⊢
      omega
    · rw [if_neg ei]
      rw [if_neg (by omega)] at hci
      omega

theorem last_of {ts : List Int} (h : 0 < ts.length) : ts = ts.take (ts.length - 1) ++ [gt ts (ts.length - 1)] := by
  have h1 := List.take_succ_eq_append_getElem (l := ts) (i := ts.length - 1) (by omega)
  have h2 : gt ts (ts.length - 1) = ts[ts.length - 1]'(by omega) := by simp [gt, show ts.length - 1 < ts.length by omega]
  rw [h2, ← h1, Nat.sub_add_cancel (by omega), List.take_length]

/-- a tag that was dropped. -/
theorem dt_right {ss : List (Int × List Int)} {ts ds : List Int} (h : dtC ss ts ds = 0) : tabF (dtS ss ts ds) (dtT ss ts ds) (dtD ss ts ds) = 0 ∧ (dtT ss ts ds).length + 1 = ts.length := by
  have hS : dtS ss ts ds = leaveS ss (gt ts (ts.length - 1)).toNat := if_pos h
  have hT : dtT ss ts ds = ts.take (ts.length - 1) := if_pos h
  have hD : dtD ss ts ds = ds := if_pos h
  unfold dtC at h
  split at h
  · rename_i ht
    split at h
    · cases h
    · rename_i hn
      have tb := tb_of ht
      have hl := last_of (ts := ts) (by omega)
      obtain ⟨q, e, _⟩ := tb.tg (gt ts (ts.length - 1)) (by simp [gt, show ts.length - 1 < ts.length by omega])
      rw [hS, hT, hD, e]
      refine ⟨?_, by simp; omega⟩
      rw [hl, e] at tb
      exact tb.dropTag.tab
  · rename_i ht; exact absurd h ht

theorem inL_at {ss : List (Int × List Int)} {l : List Int} {j q : Nat} (hj : j < l.length) (e : gt l j = (q : Int)) (hq : q < ss.length) (hp : 0 < gc ss q) : inL ss l (j : Int) = gl ss q := by
  unfold inL
  rw [if_pos (inC_yes hj)]
  simp only [Int.toNat_natCast]
  rw [e, (atL_at hq hp).2]

theorem gt_snoc_at (l : List Int) (x : Int) : gt (l ++ [x]) l.length = x := by simp [gt]

theorem gt_snoc_lt {l : List Int} {j : Nat} (x : Int) (h : j < l.length) : gt (l ++ [x]) j = gt l j := by simp [gt, List.getElem?_append_left, h]

/-- a domain that was added. -/
theorem ad_right {ss : List (Int × List Int)} {ts ds zs : List Int} (h : adC ss ts ds zs = 0) : tabF (adS ss ts ds zs) (adT ss ts ds zs) (adD ss ts ds zs) = 0 ∧ tgL (adS ss ts ds zs) (adT ss ts ds zs) (adD ss ts ds zs) (adD ss ts ds zs) (adV ss ts ds zs) = zs := by
  have hS : adS ss ts ds zs = enS ss zs := if_pos h
  have hT : adT ss ts ds zs = ts := if_pos h
  have hD : adD ss ts ds zs = ds ++ [(enQ ss zs : Int)] := if_pos h
  have hV : adV ss ts ds zs = (ds.length : Int) := if_pos h
  rw [hS, hT, hD, hV]
  unfold adC at h
  by_cases h0 : otF ss ts ds zs = 0
  · rw [if_pos h0] at h
    obtain ⟨hf, hz⟩ := otF_zero h0
    have tb := tb_of hf
    by_cases h1 : lowB zs = true
    · rw [if_pos h1] at h
      by_cases h2 : ds.length = 4
      · rw [if_pos h2] at h; cases h
      · rw [if_neg h2] at h
        have tb2 := tb.addDom hz h1 (by have := tb.nd; omega) h
        refine ⟨tb2.tab, ?_⟩
        rw [tgL_ok tb2.tab]
        obtain ⟨a, b, c⟩ := en_new tb.good (zs := zs)
        rw [inL_at (by simp) (gt_snoc_at ds _) a b, c]
    · rw [if_neg h1] at h; cases h
  · rw [if_neg h0] at h; exact absurd h h0

/-- a tag that was added. -/
theorem ag_right {ss : List (Int × List Int)} {ts ds zs : List Int} (h : agC ss ts ds zs = 0) :
    tabF (agS ss ts ds zs) (agT ss ts ds zs) (agD ss ts ds zs) = 0 ∧ agV ss ts ds zs = (ts.length : Int) + 1 ∧ tgL (agS ss ts ds zs) (agT ss ts ds zs) (agD ss ts ds zs) (agT ss ts ds zs) (agV ss ts ds zs - 1) = zs ∧
      (∀ j, j < ts.length → tgL (agS ss ts ds zs) (agT ss ts ds zs) (agD ss ts ds zs) (agT ss ts ds zs) (j : Int) = tgL ss ts ds ts (j : Int)) ∧
      dtC (agS ss ts ds zs) (agT ss ts ds zs) (agD ss ts ds zs) = 0 ∧ dtT (agS ss ts ds zs) (agT ss ts ds zs) (agD ss ts ds zs) = ts ∧ tgC ss ts ds ts (agV ss ts ds zs - 1) = 4 := by
  have hS : agS ss ts ds zs = enS ss zs := if_pos h
  have hT : agT ss ts ds zs = ts ++ [(enQ ss zs : Int)] := if_pos h
  have hD : agD ss ts ds zs = ds := if_pos h
  have hV : agV ss ts ds zs = (ts.length : Int) + 1 := if_pos h
  rw [hS, hT, hD, hV]
  unfold agC at h
  by_cases h0 : otF ss ts ds zs = 0
  · rw [if_pos h0] at h
    obtain ⟨hf, hz⟩ := otF_zero h0
    have tb := tb_of hf
    by_cases h1 : thing0 zs = true
    · rw [if_pos h1] at h
      by_cases h2 : ts.length = 6
      · rw [if_pos h2] at h; cases h
      · rw [if_neg h2] at h
        have tb2 := tb.addTag hz h1 (by have := tb.nt; omega) h
        have e1 : (ts.length : Int) + 1 - 1 = (ts.length : Int) := by omega
        have hdc : dtC (enS ss zs) (ts ++ [(enQ ss zs : Int)]) ds = 0 := dt_ok tb2.tab (by simp)
        refine ⟨tb2.tab, rfl, ?_, fun j hj => ?_, hdc, ?_, ?_⟩
        · rw [tgL_ok tb2.tab, e1]
          obtain ⟨a, b, c⟩ := en_new tb.good (zs := zs)
          rw [inL_at (by simp) (gt_snoc_at ts _) a b, c]
        · rw [tgL_ok tb2.tab, tgL_ok hf]
          obtain ⟨q, e, hq, hp, _⟩ := tb.tg (gt ts j) (by simp [gt, hj])
          obtain ⟨a, b, c⟩ := en_at tb.good (zs := zs) hq hp
          rw [inL_at hj e hq hp, inL_at (by simp; omega) ((gt_snoc_lt _ hj).trans e) a b, c]
        · unfold dtT
          rw [if_pos hdc]
          simp
        · rw [tgC_ok hf, e1]
          exact inC_no (by omega)
    · rw [if_neg h1] at h; cases h
  · rw [if_neg h0] at h; exact absurd h h0

theorem rep_look {ss : List (Int × List Int)} (g : Good ss) {D : DataW Unit} (r : Rep ss D) {zs : List Int} (hz : fault zs = 0) :
    (at2 ss zs = -1 ∧ Go.Maps.has D (kl zs) = false ∧ D.atKey (kl zs) (st 0 0) = st 0 0) ∨ ∃ j, j < ss.length ∧ at2 ss zs = (j : Int) ∧ Go.Maps.has D (kl zs) = true ∧ D.atKey (kl zs) (st 0 0) = st (j : Int) (gc ss j) := by
  rcases at2_cases ss zs with ⟨h1, h2⟩ | ⟨j, hj, h1, h2⟩
  · have hf : Go.Maps.has D (kl zs) = false := by
      cases hx : Go.Maps.has D (kl zs)
      · rfl
      · obtain ⟨j, hj, hp, e⟩ := (r.keys _).1 hx
        have e2 := kl_inj hz (g.right j hj hp) e
        have := h2 j hj
        simp [hit, hp, e2] at this
    exact .inl ⟨h1, hf, Go.Maps.atKey_of_not_has hf _⟩
  · have hh : 0 < gc ss j ∧ gl ss j = zs := by simpa [hit] using h2
    have hv := r.vals j hj hh.1 (st 0 0)
    rw [hh.2] at hv
    exact .inr ⟨j, hj, h1, (r.keys _).2 ⟨j, hj, hh.1, by rw [hh.2]⟩, hv⟩

def etV (ss : List (Int × List Int)) (zs : List Int) : Int := if etC ss zs = 0 then (enQ ss zs : Int) else 0

/-- P's cells from the third on are as they were. -/
def KP (P : Nat) (w w' : World) : Prop := ∀ j, (2 ≤ j → w'.cell? ⟨P, j, none⟩ = w.cell? ⟨P, j, none⟩) ∧ w'.frozen? ⟨P, j, none⟩ = w.frozen? ⟨P, j, none⟩

theorem KP.of_block {P : Nat} {w w' : World} (h : w'.heap[P]? = w.heap[P]?) : KP P w w' := fun j => ⟨fun _ => World.cell?_of_block (a := ⟨P, j, none⟩) h, World.frozen?_of_block (a := ⟨P, j, none⟩) h⟩

theorem KP.trans {P : Nat} {w u v : World} (h : KP P w u) (k : KP P u v) : KP P w v := fun j => ⟨fun hj => ((k j).1 hj).trans ((h j).1 hj), (k j).2.trans (h j).2⟩

theorem KP.set0 {P : Nat} {w u : World} (h : KP P w u) (v : Value) : KP P w (u.setCell ⟨P, 0, none⟩ v) := fun j => ⟨fun hj => (World.cell?_setCell_other _ _ _ _ (fun e => by injection e with _ e2; omega)).trans ((h j).1 hj), by rw [World.frozen?_setCell]; exact (h j).2⟩

/-- blocks but M and P are as they were, and so are P's cells from the third on. -/
def OutP (P M : Nat) (w w' : World) : Prop := OutS (fun k => k = M ∨ k = P) w w' ∧ KP P w w'

theorem OutP.of_below {P M : Nat} {w w' : World} (h : Below w.heap.size w w') (hP : P < w.heap.size) : OutP P M w w' := ⟨OutS.of_below h, KP.of_block (h.block P hP)⟩

theorem OutP.drew {P M : Nat} {w w' : World} (h : OutP P M w w') : OutP P M w w'.drew := ⟨h.1.trans (OutS.of_below (Below.refl _ _).drew), fun j => h.2 j⟩

/-- what 'enter' answers. -/
def EN (P M n : Nat) (ss : List (Int × List Int)) (zs : List Int) (w : World) (e : Ending) (w' : World) : Prop :=
  e = .returned (.tuple #[.int .i64 (etV ss zs), .int .i64 (etC ss zs)]) ∧ OutP P M w w' ∧ (etC ss zs = 0 → ∃ D', Bk w' P M ((enS ss zs).length : Int) (n + 1) D' ∧ Rep (enS ss zs) D')

/-- what stands when a label's place is known: the mark in block w.heap.size, its standing in the block behind. -/
structure EnU (P M n : Nat) (ss : List (Int × List Int)) (zs : List Int) (D : DataW Unit) (c : Int) (w U : World) : Prop where
  bk : Bk U P M (ss.length : Int) n D
  bel : Below w.heap.size w U
  lt : w.heap.size + 1 < U.heap.size
  k : ∀ i, i < 4 → U.cell? ⟨w.heap.size, i, none⟩ = some (.int .i64 (gt zs i))
  z0 : U.cell? ⟨w.heap.size + 1, 0, none⟩ = some (.int .i64 (enQ ss zs : Int))
  z1 : U.cell? ⟨w.heap.size + 1, 1, none⟩ = some (.int .i64 c)
  f : ∀ i, U.frozen? ⟨w.heap.size + 1, i, none⟩ = false

theorem EnU.count {P M n : Nat} {ss : List (Int × List Int)} {zs : List Int} {D : DataW Unit} {c : Int} {w U : World} (h : EnU P M n ss zs D c w U) (hP : P < w.heap.size) (hM : M < w.heap.size) (c' : Int) : EnU P M n ss zs D c' w (U.setCell ⟨w.heap.size + 1, 1, none⟩ (.int .i64 c')) := by
  have hg := setC1_grown U (w.heap.size + 1) 1 (.int .i64 c')
  refine ⟨h.bk.keep hg (by omega) (by omega), h.bel.setCell (by show w.heap.size ≤ w.heap.size + 1; omega) _, by simpa using h.lt, fun i hi => ?_, ?_, World.cell?_setCell_same _ _ _ h.z1, fun i => by simpa using h.f i⟩
  · rw [World.cell?_setCell_other _ _ _ _ (fun e => by injection e with e1 _; omega)]; exact h.k i hi
  · rw [World.cell?_setCell_other _ _ _ _ (fun e => by injection e with _ e2; omega)]; exact h.z0

theorem EnU.place {P M n : Nat} {ss : List (Int × List Int)} {zs : List Int} {D : DataW Unit} {w U : World} (hb : Bk U P M (ss.length : Int) n D) (hbel : Below w.heap.size w U) (hlt : w.heap.size + 1 < U.heap.size) (hk : ∀ i, i < 4 → U.cell? ⟨w.heap.size, i, none⟩ = some (.int .i64 (gt zs i)))
    {x c : Int} (z0 : U.cell? ⟨w.heap.size + 1, 0, none⟩ = some (.int .i64 x)) (z1 : U.cell? ⟨w.heap.size + 1, 1, none⟩ = some (.int .i64 c)) (hf : ∀ i, U.frozen? ⟨w.heap.size + 1, i, none⟩ = false) (hP : P < w.heap.size) (hM : M < w.heap.size) {q : Nat} (hq : enQ ss zs = q) : EnU P M n ss zs D c w (U.setCell ⟨w.heap.size + 1, 0, none⟩ (.int .i64 (q : Int))) := by
  have hg := setC1_grown U (w.heap.size + 1) 0 (.int .i64 (q : Int))
  refine ⟨hb.keep hg (by omega) (by omega), hbel.setCell (by show w.heap.size ≤ w.heap.size + 1; omega) _, by simpa using hlt, fun i hi => ?_, ?_, ?_, fun i => by simpa using hf i⟩
  · rw [World.cell?_setCell_other _ _ _ _ (fun e => by injection e with e1 _; omega)]; exact hk i hi
  · rw [hq]; exact World.cell?_setCell_same _ _ _ z0
  · rw [World.cell?_setCell_other _ _ _ _ (fun e => by injection e with _ e2; omega)]; exact z1

set_option maxRecDepth 100000 in
set_option maxHeartbeats 2000000 in
theorem enter_calls (P M n : Nat) (ss : List (Int × List Int)) (zs : List Int) (D : DataW Unit) (w : World) (hb : Bk w P M (ss.length : Int) n D) (hn : n ≤ 100) (good : Good ss) (rep : Rep ss D) (hz : fault zs = 0) :
    Calls Try.prog 81 #[.pointer (some ⟨P, 0, none⟩), .agg (ints4 zs)] w (EN P M n ss zs w) := by
  have few := good.few
  have hP0 := hb.lt
  have hM0 := hb.own.lt
  have M1 := (Mm.start w).alloc4 (.int .i64 (gt zs 0)) (.int .i64 (gt zs 1)) (.int .i64 (gt zs 2)) (.int .i64 (gt zs 3)) 127
  have al := (Below.refl w.heap.size w).alloc (Nat.le_refl _) (.cells #[.int .i64 (gt zs 0), .int .i64 (gt zs 1), .int .i64 (gt zs 2), .int .i64 (gt zs 3)] 127)
  have hbW := hb.below al
  have b1 := hbW.c1
  have k0 := M1.cell 0 rfl
  have k1 := M1.cell 1 rfl
  have k2 := M1.cell 2 rfl
  have k3 := M1.cell 3 rfl
  have hsW : (w.alloc (.cells #[.int .i64 (gt zs 0), .int .i64 (gt zs 1), .int .i64 (gt zs 2), .int .i64 (gt zs 3)] 127)).heap.size = w.heap.size + 1 := by simp
  have HSW := hide hsW
  have Hz := hide hz
  clear al M1 hsW
  unfold ints4
  go_enter Try.func81, Try.ntmps81
  go_upto_region 1 with fail
  have hWb : Below w.heap.size w (w.alloc (.cells #[.int .i64 (gt zs 0), .int .i64 (gt zs 1), .int .i64 (gt zs 2), .int .i64 (gt zs 3)] 127)) := (Below.refl w.heap.size w).alloc (Nat.le_refl _) _
  generalize hW : (w.alloc (.cells #[.int .i64 (gt zs 0), .int .i64 (gt zs 1), .int .i64 (gt zs 2), .int .i64 (gt zs 3)] 127)) = W at hbW b1 k0 k1 k2 k3 HSW hWb ⊢
  clear hW
  obtain ⟨lp, lc, hat, hlook⟩ := look_run hbW.own Hz.out
  have L1 := hlook W.drew hbW.own.drew
  have L2 := hlook ((W.alloc (.cells #[.int .i64 0, .int .i64 0] 154)).drew) (hbW.own.alloc _).drew
  unfold ints4 at L1 L2
  have nP := World.new_ne W ⟨P, 1, none⟩ b1
  have nK := World.new_ne W ⟨w.heap.size, 0, none⟩ k0
  clear hlook
  go_cut [6, 7] (fun v f wc => v = .pointer (some ⟨W.heap.size, 0, none⟩) ∧ f = .bool (Go.Maps.has D (kl zs)) ∧ wc = (W.alloc (.cells #[.int .i64 lp, .int .i64 lc] 154)).drew)
  case first =>
    go_region_held2 (fun w' => w'.cell? ⟨P, 1, none⟩ = some (.map (some M)) ∧ w'.cell? ⟨w.heap.size, 0, none⟩ = some (.int .i64 (gt zs 0)) ∧ w'.cell? ⟨w.heap.size, 1, none⟩ = some (.int .i64 (gt zs 1)) ∧ w'.cell? ⟨w.heap.size, 2, none⟩ = some (.int .i64 (gt zs 2)) ∧ w'.cell? ⟨w.heap.size, 3, none⟩ = some (.int .i64 (gt zs 3)))
      (go_keep) (fail)
    all_goals go_wp2_with fail
    all_goals go_meet
    all_goals exact ⟨rfl, rfl, rfl⟩
  case rest =>
    obtain ⟨rfl, rfl, rfl⟩ := hcut
    rw [HSW.out]
    clear L1 L2 nP nK
    have al : Below W.heap.size W (W.alloc (.cells #[.int .i64 lp, .int .i64 lc] 154)).drew := ((Below.refl _ _).alloc (Nat.le_refl _) _).drew
    have BU := hbW.below al
    have hwU := hWb.trans (al.mono hWb.size)
    have hk : ∀ i, i < 4 → (W.alloc (.cells #[.int .i64 lp, .int .i64 lc] 154)).drew.cell? ⟨w.heap.size, i, none⟩ = some (.int .i64 (gt zs i)) := fun i hi => by
      refine (al.cell (p := ⟨w.heap.size, i, none⟩) (by have := HSW.out; show w.heap.size < _; omega)).trans ?_
      obtain rfl | rfl | rfl | rfl : i = 0 ∨ i = 1 ∨ i = 2 ∨ i = 3 := by omega
      · exact k0
      · exact k1
      · exact k2
      · exact k3
    have z0 : (W.alloc (.cells #[.int .i64 lp, .int .i64 lc] 154)).drew.cell? ⟨w.heap.size + 1, 0, none⟩ = some (.int .i64 lp) := by rw [← HSW.out]; go_simp
    have z1 : (W.alloc (.cells #[.int .i64 lp, .int .i64 lc] 154)).drew.cell? ⟨w.heap.size + 1, 1, none⟩ = some (.int .i64 lc) := by rw [← HSW.out]; go_simp
    have zf : ∀ i, (W.alloc (.cells #[.int .i64 lp, .int .i64 lc] 154)).drew.frozen? ⟨w.heap.size + 1, i, none⟩ = false := fun i => by rw [← HSW.out]; go_simp
    have hlU : w.heap.size + 1 < (W.alloc (.cells #[.int .i64 lp, .int .i64 lc] 154)).drew.heap.size := by have := HSW.out; simp; omega
    generalize hUe : (W.alloc (.cells #[.int .i64 lp, .int .i64 lc] 154)).drew = U at BU hwU hk z0 z1 zf hlU ⊢
    clear hUe al k0 k1 k2 k3 b1 hbW hWb
    rcases rep_look good rep Hz.out with ⟨ha, hh, hv⟩ | ⟨j, hj, ha, hh, hv⟩
    · obtain ⟨rfl, rfl⟩ := st_inj (hat.symm.trans hv)
      rw [hh]
      have HQ : Hid (enQ ss zs = fe ss) := if_pos (by omega)
      have HN : Hid (enN ss zs = 0) := if_pos (by omega)
      clear hat hv hh
      go_wp2_with fail
      refine (firstEmpty_calls P M n ss D _ BU good rep).mono ?_
      rintro e w3 ⟨rfl, g3⟩
      have hsz3 := g3.size
      have y0 := (g3.cell (p := ⟨w.heap.size + 1, 0, none⟩) hlU).trans z0
      have yf := (g3.frozen (p := ⟨w.heap.size + 1, 0, none⟩) hlU).trans (zf 0)
      have hU : EnU P M n ss zs D (enN ss zs) w (w3.setCell ⟨w.heap.size + 1, 0, none⟩ (.int .i64 (fe ss : Int))) := by
        rw [HN.out]
        exact EnU.place (BU.below g3) (hwU.trans (g3.mono hwU.size)) (by omega) (fun i hi => (g3.cell (p := ⟨w.heap.size, i, none⟩) (by show w.heap.size < _; omega)).trans (hk i hi)) y0 ((g3.cell (p := ⟨w.heap.size + 1, 1, none⟩) hlU).trans z1) (fun i => (g3.frozen (p := ⟨w.heap.size + 1, i, none⟩) hlU).trans (zf i)) hP0 hM0 HQ.out
      clear g3 BU hwU hk z0 z1 zf hlU hsz3
      go_upto_region 4 with fail
      generalize hVe : (w3.setCell ⟨w.heap.size + 1, 0, none⟩ (.int .i64 (fe ss : Int))) = V at hU ⊢
      clear hVe y0 yf
      have d0 := hU.z0
      have d1 := hU.z1
      have df0 := hU.f 0
      have df1 := hU.f 1
      have hund : undef = Value.tuple #[] := rfl
      by_cases h10 : enQ ss zs = 10
      · have e10 : ((enQ ss zs : Int) == 10) = true := by simp; omega
        have HC : Hid (etC ss zs = 7) := if_pos (.inl h10)
        have HO := hide (OutP.of_below (P := P) (M := M) hU.bel hP0)
        clear hU
        go_wp2
        refine bodyPost_ret (v := .tuple #[.int .i64 0, .int .i64 7]) (by simp [results, Try.results81, go_sem]) rfl ⟨by rw [HC.out]; unfold etV; rw [if_neg (by rw [HC.out]; decide)], HO.out, fun h => absurd (HC.out.symm.trans h) (by decide)⟩
      · have e10 : ((enQ ss zs : Int) == 10) = false := by simp; omega
        by_cases h99 : enN ss zs = 99
        · have e99 : (enN ss zs == 99) = true := by simp [h99]
          have HC : Hid (etC ss zs = 7) := if_pos (.inr h99)
          have HO := hide (OutP.of_below (P := P) (M := M) hU.bel hP0)
          clear hU
          go_wp2
          refine bodyPost_ret (v := .tuple #[.int .i64 0, .int .i64 7]) (by simp [results, Try.results81, go_sem]) rfl ⟨by rw [HC.out]; unfold etV; rw [if_neg (by rw [HC.out]; decide)], HO.out, fun h => absurd (HC.out.symm.trans h) (by decide)⟩
        · have e99 : (enN ss zs == 99) = false := by simp [h99]
          have HC : Hid (etC ss zs = 0) := if_neg (fun e => by rcases e with e | e; exact h10 e; exact h99 e)
          have hU2 := hU.count hP0 hM0 (enN ss zs + 1)
          have en0 := (en_facts good (zs := zs)).2.1
          have en9 := (en_facts good (zs := zs)).2.2.1
          have enL := (en_facts good (zs := zs)).1
          clear hU
          go_upto_region 7 with fail
          generalize hXe : (V.setCell ⟨w.heap.size + 1, 1, none⟩ (.int .i64 (enN ss zs + 1))) = X at hU2 ⊢
          clear hXe d0 d1 df0 df1
          have neM := hU2.bk.ne
          obtain ⟨w4, hup, own4, gr4⟩ := (hU2.bk.own.drew).update lawK Try.underlying76 (by unfold maxLen; omega) (key_mk Hz.out) (Rst_mk (enQ ss zs : Int) (enN ss zs + 1))
          have kP := hU2.bk.lt
          have hlX := hU2.lt
          have blkM : ∀ k, k < X.heap.size → k ≠ M → w4.heap[k]? = X.heap[k]? := fun k hk hne => gr4.block k hk (fun e => hne (by injection e))
          have HSa : Hid (X.drew.cell? ⟨P, 1, none⟩ = some (.map (some M)) ∧ X.drew.cell? ⟨w.heap.size, 0, none⟩ = some (.int .i64 (gt zs 0)) ∧ X.drew.cell? ⟨w.heap.size, 1, none⟩ = some (.int .i64 (gt zs 1)) ∧ X.drew.cell? ⟨w.heap.size, 2, none⟩ = some (.int .i64 (gt zs 2)) ∧ X.drew.cell? ⟨w.heap.size, 3, none⟩ = some (.int .i64 (gt zs 3)) ∧ X.drew.cell? ⟨w.heap.size + 1, 0, none⟩ = some (.int .i64 (enQ ss zs : Int)) ∧ X.drew.cell? ⟨w.heap.size + 1, 1, none⟩ = some (.int .i64 (enN ss zs + 1))) := ⟨hU2.bk.c1, hU2.k 0 (by omega), hU2.k 1 (by omega), hU2.k 2 (by omega), hU2.k 3 (by omega), hU2.z0, hU2.z1⟩
          have kb : ∀ k o, k < X.heap.size → k ≠ M → w4.cell? ⟨k, o, none⟩ = X.cell? ⟨k, o, none⟩ := fun k o hk hne => World.cell?_of_block (a := ⟨k, o, none⟩) (blkM k hk hne)
          have HSb : Hid (w4.cell? ⟨P, 1, none⟩ = some (.map (some M)) ∧ w4.cell? ⟨w.heap.size, 0, none⟩ = some (.int .i64 (gt zs 0)) ∧ w4.cell? ⟨w.heap.size, 1, none⟩ = some (.int .i64 (gt zs 1)) ∧ w4.cell? ⟨w.heap.size, 2, none⟩ = some (.int .i64 (gt zs 2)) ∧ w4.cell? ⟨w.heap.size, 3, none⟩ = some (.int .i64 (gt zs 3)) ∧ w4.cell? ⟨w.heap.size + 1, 0, none⟩ = some (.int .i64 (enQ ss zs : Int)) ∧ w4.cell? ⟨w.heap.size + 1, 1, none⟩ = some (.int .i64 (enN ss zs + 1))) := ⟨(kb P 1 kP neM.symm).trans hU2.bk.c1, (kb _ 0 (by omega) (by omega)).trans (hU2.k 0 (by omega)), (kb _ 1 (by omega) (by omega)).trans (hU2.k 1 (by omega)), (kb _ 2 (by omega) (by omega)).trans (hU2.k 2 (by omega)), (kb _ 3 (by omega) (by omega)).trans (hU2.k 3 (by omega)), (kb _ 0 (by omega) (by omega)).trans hU2.z0, (kb _ 1 (by omega) (by omega)).trans hU2.z1⟩
          have x0 := (kb P 0 kP neM.symm).trans hU2.bk.c0
          have xf : ∀ j, w4.frozen? ⟨P, j, none⟩ = false := fun j => (World.frozen?_of_block (a := ⟨P, j, none⟩) (blkM P kP neM.symm)).trans (hU2.bk.f j)
          have xf0 := xf 0
          have x1 := HSb.out.2.2.2.2.2.1
          have hl4 := gr4.size
          simp only [World.size_drew] at hl4
          have HL : Hid (((enS ss zs).length : Int) = max (ss.length : Int) ((enQ ss zs : Int) + 1)) := by
            show ((enS ss zs).length : Int) = _
            unfold enS
            rw [length_layS _ enL]
            omega
          have hg5 := setC1_grown w4 P 0 (.int .i64 (max (ss.length : Int) ((enQ ss zs : Int) + 1)))
          have HBk : Hid (Bk (w4.setCell ⟨P, 0, none⟩ (.int .i64 (max (ss.length : Int) ((enQ ss zs : Int) + 1)))) P M ((enS ss zs).length : Int) (n + 1) (D.put (kl zs) (st (enQ ss zs : Int) (enN ss zs + 1)))) := by
            show Bk _ _ _ _ _ _
            rw [HL.out]
            refine ⟨by simp; omega, World.cell?_setCell_same _ _ _ x0, ?_, fun j => by simpa using xf j, own4.kept hg5 (fun e => neM (by injection e))⟩
            rw [World.cell?_setCell_other _ _ _ _ (fun e => by injection e with _ e2; omega)]
            exact HSb.out.1
          have HO : Hid (OutP P M w (w4.setCell ⟨P, 0, none⟩ (.int .i64 (max (ss.length : Int) ((enQ ss zs : Int) + 1))))) := ⟨OutS.setCell ((OutS.of_below hU2.bel).trans ⟨gr4.os, gr4.tape, gr4.output, gr4.size, fun k hk hn => blkM k hk (fun e => hn (.inl e))⟩) (.inr rfl) _, ((KP.of_block (hU2.bel.block P hP0)).trans (KP.of_block (blkM P kP neM.symm))).set0 _⟩
          have HR := hide (rep_enter good rep hb.own.isMap (zs := zs) Hz.out)
          have HV : Hid (etV ss zs = (enQ ss zs : Int)) := if_pos HC.out
          unfold ints4 at hup
          have HU := hide hU2
          clear own4 gr4 blkM kb hU2 hg5 xf
          go_cut [] (fun wd => wd = w4)
          case first =>
            go_region_held2 (fun w' => w'.cell? ⟨P, 1, none⟩ = some (.map (some M)) ∧ w'.cell? ⟨w.heap.size, 0, none⟩ = some (.int .i64 (gt zs 0)) ∧ w'.cell? ⟨w.heap.size, 1, none⟩ = some (.int .i64 (gt zs 1)) ∧ w'.cell? ⟨w.heap.size, 2, none⟩ = some (.int .i64 (gt zs 2)) ∧ w'.cell? ⟨w.heap.size, 3, none⟩ = some (.int .i64 (gt zs 3)) ∧ w'.cell? ⟨w.heap.size + 1, 0, none⟩ = some (.int .i64 (enQ ss zs : Int)) ∧ w'.cell? ⟨w.heap.size + 1, 1, none⟩ = some (.int .i64 (enN ss zs + 1)))
              (first | with_reducible exact HSa.out | with_reducible exact HSb.out | with_reducible assumption) (fail)
            all_goals go_wp2_with fail
            all_goals go_meet
            all_goals exact rfl
          case rest =>
            subst hcut
            clear hup HSa HSb
            go_wp2_with fail
            go_region
            all_goals go_wp2
            all_goals first
              | (have em : max (ss.length : Int) ((enQ ss zs : Int) + 1) = (enQ ss zs : Int) + 1 := (by omega)
                 rw [em] at HBk HO
                 refine bodyPost_ret (v := .tuple #[.int .i64 (enQ ss zs : Int), .int .i64 0]) (by simp [results, Try.results81, go_sem]) rfl ⟨by rw [HV.out, HC.out], HO.out.drew, fun _ => ⟨_, HBk.out.below (Below.refl _ _).drew, HR.out⟩⟩)
              | (have em : max (ss.length : Int) ((enQ ss zs : Int) + 1) = (ss.length : Int) := (by omega)
                 rw [em] at HBk HO
                 refine bodyPost_ret (v := .tuple #[.int .i64 (enQ ss zs : Int), .int .i64 0]) (by simp [results, Try.results81, go_sem]) rfl ⟨by rw [HV.out, HC.out], HO.out.drew, fun _ => ⟨_, HBk.out.below (Below.refl _ _).drew, HR.out⟩⟩)
    · obtain ⟨rfl, rfl⟩ := st_inj (hat.symm.trans hv)
      rw [hh]
      have hU : EnU P M n ss zs D (enN ss zs) w U := by
        have e1 : enQ ss zs = j := by unfold enQ; rw [if_neg (by omega), ha]; omega
        have e2 : enN ss zs = gc ss j := by unfold enN; rw [if_neg (by omega), ha]; rfl
        rw [e2]
        exact ⟨BU, hwU, hlU, hk, by rw [e1]; exact z0, z1, zf⟩
      clear hat hv hh BU hwU hk z0 z1 zf hlU
      go_upto_region 4 with fail
      have d0 := hU.z0
      have d1 := hU.z1
      have df0 := hU.f 0
      have df1 := hU.f 1
      have hund : undef = Value.tuple #[] := rfl
      by_cases h10 : enQ ss zs = 10
      · have e10 : ((enQ ss zs : Int) == 10) = true := by simp; omega
        have HC : Hid (etC ss zs = 7) := if_pos (.inl h10)
        have HO := hide (OutP.of_below (P := P) (M := M) hU.bel hP0)
        clear hU
        go_wp2
        refine bodyPost_ret (v := .tuple #[.int .i64 0, .int .i64 7]) (by simp [results, Try.results81, go_sem]) rfl ⟨by rw [HC.out]; unfold etV; rw [if_neg (by rw [HC.out]; decide)], HO.out, fun h => absurd (HC.out.symm.trans h) (by decide)⟩
      · have e10 : ((enQ ss zs : Int) == 10) = false := by simp; omega
        by_cases h99 : enN ss zs = 99
        · have e99 : (enN ss zs == 99) = true := by simp [h99]
          have HC : Hid (etC ss zs = 7) := if_pos (.inr h99)
          have HO := hide (OutP.of_below (P := P) (M := M) hU.bel hP0)
          clear hU
          go_wp2
          refine bodyPost_ret (v := .tuple #[.int .i64 0, .int .i64 7]) (by simp [results, Try.results81, go_sem]) rfl ⟨by rw [HC.out]; unfold etV; rw [if_neg (by rw [HC.out]; decide)], HO.out, fun h => absurd (HC.out.symm.trans h) (by decide)⟩
        · have e99 : (enN ss zs == 99) = false := by simp [h99]
          have HC : Hid (etC ss zs = 0) := if_neg (fun e => by rcases e with e | e; exact h10 e; exact h99 e)
          have hU2 := hU.count hP0 hM0 (enN ss zs + 1)
          have en0 := (en_facts good (zs := zs)).2.1
          have en9 := (en_facts good (zs := zs)).2.2.1
          have enL := (en_facts good (zs := zs)).1
          clear hU
          go_upto_region 7 with fail
          generalize hXe : (U.setCell ⟨w.heap.size + 1, 1, none⟩ (.int .i64 (enN ss zs + 1))) = X at hU2 ⊢
          clear hXe d0 d1 df0 df1
          have neM := hU2.bk.ne
          obtain ⟨w4, hup, own4, gr4⟩ := (hU2.bk.own.drew).update lawK Try.underlying76 (by unfold maxLen; omega) (key_mk Hz.out) (Rst_mk (enQ ss zs : Int) (enN ss zs + 1))
          have kP := hU2.bk.lt
          have hlX := hU2.lt
          have blkM : ∀ k, k < X.heap.size → k ≠ M → w4.heap[k]? = X.heap[k]? := fun k hk hne => gr4.block k hk (fun e => hne (by injection e))
          have HSa : Hid (X.drew.cell? ⟨P, 1, none⟩ = some (.map (some M)) ∧ X.drew.cell? ⟨w.heap.size, 0, none⟩ = some (.int .i64 (gt zs 0)) ∧ X.drew.cell? ⟨w.heap.size, 1, none⟩ = some (.int .i64 (gt zs 1)) ∧ X.drew.cell? ⟨w.heap.size, 2, none⟩ = some (.int .i64 (gt zs 2)) ∧ X.drew.cell? ⟨w.heap.size, 3, none⟩ = some (.int .i64 (gt zs 3)) ∧ X.drew.cell? ⟨w.heap.size + 1, 0, none⟩ = some (.int .i64 (enQ ss zs : Int)) ∧ X.drew.cell? ⟨w.heap.size + 1, 1, none⟩ = some (.int .i64 (enN ss zs + 1))) := ⟨hU2.bk.c1, hU2.k 0 (by omega), hU2.k 1 (by omega), hU2.k 2 (by omega), hU2.k 3 (by omega), hU2.z0, hU2.z1⟩
          have kb : ∀ k o, k < X.heap.size → k ≠ M → w4.cell? ⟨k, o, none⟩ = X.cell? ⟨k, o, none⟩ := fun k o hk hne => World.cell?_of_block (a := ⟨k, o, none⟩) (blkM k hk hne)
          have HSb : Hid (w4.cell? ⟨P, 1, none⟩ = some (.map (some M)) ∧ w4.cell? ⟨w.heap.size, 0, none⟩ = some (.int .i64 (gt zs 0)) ∧ w4.cell? ⟨w.heap.size, 1, none⟩ = some (.int .i64 (gt zs 1)) ∧ w4.cell? ⟨w.heap.size, 2, none⟩ = some (.int .i64 (gt zs 2)) ∧ w4.cell? ⟨w.heap.size, 3, none⟩ = some (.int .i64 (gt zs 3)) ∧ w4.cell? ⟨w.heap.size + 1, 0, none⟩ = some (.int .i64 (enQ ss zs : Int)) ∧ w4.cell? ⟨w.heap.size + 1, 1, none⟩ = some (.int .i64 (enN ss zs + 1))) := ⟨(kb P 1 kP neM.symm).trans hU2.bk.c1, (kb _ 0 (by omega) (by omega)).trans (hU2.k 0 (by omega)), (kb _ 1 (by omega) (by omega)).trans (hU2.k 1 (by omega)), (kb _ 2 (by omega) (by omega)).trans (hU2.k 2 (by omega)), (kb _ 3 (by omega) (by omega)).trans (hU2.k 3 (by omega)), (kb _ 0 (by omega) (by omega)).trans hU2.z0, (kb _ 1 (by omega) (by omega)).trans hU2.z1⟩
          have x0 := (kb P 0 kP neM.symm).trans hU2.bk.c0
          have xf : ∀ j, w4.frozen? ⟨P, j, none⟩ = false := fun j => (World.frozen?_of_block (a := ⟨P, j, none⟩) (blkM P kP neM.symm)).trans (hU2.bk.f j)
          have xf0 := xf 0
          have x1 := HSb.out.2.2.2.2.2.1
          have hl4 := gr4.size
          simp only [World.size_drew] at hl4
          have HL : Hid (((enS ss zs).length : Int) = max (ss.length : Int) ((enQ ss zs : Int) + 1)) := by
            show ((enS ss zs).length : Int) = _
            unfold enS
            rw [length_layS _ enL]
            omega
          have hg5 := setC1_grown w4 P 0 (.int .i64 (max (ss.length : Int) ((enQ ss zs : Int) + 1)))
          have HBk : Hid (Bk (w4.setCell ⟨P, 0, none⟩ (.int .i64 (max (ss.length : Int) ((enQ ss zs : Int) + 1)))) P M ((enS ss zs).length : Int) (n + 1) (D.put (kl zs) (st (enQ ss zs : Int) (enN ss zs + 1)))) := by
            show Bk _ _ _ _ _ _
            rw [HL.out]
            refine ⟨by simp; omega, World.cell?_setCell_same _ _ _ x0, ?_, fun j => by simpa using xf j, own4.kept hg5 (fun e => neM (by injection e))⟩
            rw [World.cell?_setCell_other _ _ _ _ (fun e => by injection e with _ e2; omega)]
            exact HSb.out.1
          have HO : Hid (OutP P M w (w4.setCell ⟨P, 0, none⟩ (.int .i64 (max (ss.length : Int) ((enQ ss zs : Int) + 1))))) := ⟨OutS.setCell ((OutS.of_below hU2.bel).trans ⟨gr4.os, gr4.tape, gr4.output, gr4.size, fun k hk hn => blkM k hk (fun e => hn (.inl e))⟩) (.inr rfl) _, ((KP.of_block (hU2.bel.block P hP0)).trans (KP.of_block (blkM P kP neM.symm))).set0 _⟩
          have HR := hide (rep_enter good rep hb.own.isMap (zs := zs) Hz.out)
          have HV : Hid (etV ss zs = (enQ ss zs : Int)) := if_pos HC.out
          unfold ints4 at hup
          have HU := hide hU2
          clear own4 gr4 blkM kb hU2 hg5 xf
          go_cut [] (fun wd => wd = w4)
          case first =>
            go_region_held2 (fun w' => w'.cell? ⟨P, 1, none⟩ = some (.map (some M)) ∧ w'.cell? ⟨w.heap.size, 0, none⟩ = some (.int .i64 (gt zs 0)) ∧ w'.cell? ⟨w.heap.size, 1, none⟩ = some (.int .i64 (gt zs 1)) ∧ w'.cell? ⟨w.heap.size, 2, none⟩ = some (.int .i64 (gt zs 2)) ∧ w'.cell? ⟨w.heap.size, 3, none⟩ = some (.int .i64 (gt zs 3)) ∧ w'.cell? ⟨w.heap.size + 1, 0, none⟩ = some (.int .i64 (enQ ss zs : Int)) ∧ w'.cell? ⟨w.heap.size + 1, 1, none⟩ = some (.int .i64 (enN ss zs + 1)))
              (first | with_reducible exact HSa.out | with_reducible exact HSb.out | with_reducible assumption) (fail)
            all_goals go_wp2_with fail
            all_goals go_meet
            all_goals exact rfl
          case rest =>
            subst hcut
            clear hup HSa HSb
            go_wp2_with fail
            go_region
            all_goals go_wp2
            all_goals first
              | (have em : max (ss.length : Int) ((enQ ss zs : Int) + 1) = (enQ ss zs : Int) + 1 := (by omega)
                 rw [em] at HBk HO
                 refine bodyPost_ret (v := .tuple #[.int .i64 (enQ ss zs : Int), .int .i64 0]) (by simp [results, Try.results81, go_sem]) rfl ⟨by rw [HV.out, HC.out], HO.out.drew, fun _ => ⟨_, HBk.out.below (Below.refl _ _).drew, HR.out⟩⟩)
              | (have em : max (ss.length : Int) ((enQ ss zs : Int) + 1) = (ss.length : Int) := (by omega)
                 rw [em] at HBk HO
                 refine bodyPost_ret (v := .tuple #[.int .i64 (enQ ss zs : Int), .int .i64 0]) (by simp [results, Try.results81, go_sem]) rfl ⟨by rw [HV.out, HC.out], HO.out.drew, fun _ => ⟨_, HBk.out.below (Below.refl _ _).drew, HR.out⟩⟩)

/-- what 'oneMore' answers. -/
def OM (P M nn m : Nat) (ss : List (Int × List Int)) (zs : List Int) (S : Nat → Prop) (xn : Nat) (ts : List Int) (w : World) (e : Ending) (w' : World) : Prop :=
  ∃ ra rn rc, e = .returned (.tuple #[.slice ra rn rc, .int .i64 (if xn = m then 7 else etC ss zs)]) ∧ OutS (fun k => (k = M ∨ k = P) ∨ S k) w w' ∧ KP P w w' ∧
    (xn ≠ m → etC ss zs = 0 → rn = xn + 1 ∧ OS (fun k => S k ∨ InR w.heap.size w'.heap.size k) ra (xn + 1) (ts ++ [(enQ ss zs : Int)]) w' ∧ ∃ D', Bk w' P M ((enS ss zs).length : Int) (nn + 1) D' ∧ Rep (enS ss zs) D')

theorem Bk.keepG {w w' : World} {P M n : Nat} {sz : Int} {D : DataW Unit} (h : Bk w P M sz n D) {row : Option Nat} (hg : w.grownBy w' row) (h1 : some P ≠ row) (h2 : some M ≠ row) : Bk w' P M sz n D := by
  cases row with
  | some r => exact h.keep hg (fun e => h1 (by rw [e])) (fun e => h2 (by rw [e]))
  | none => exact h.below ⟨hg.os, hg.tape, hg.output, hg.size, fun k hk => hg.block k hk (by simp)⟩

set_option maxRecDepth 100000 in
theorem lastTagB_calls (P : Nat) (xa : Option Addr) (xn xc : Nat) (w : World) (c2 : w.cell? ⟨P, 2, none⟩ = some (.slice xa xn xc)) :
    Calls Try.prog 96 #[.pointer (some ⟨P, 0, none⟩)] w fun e w' => e = .returned (.int .i64 xn) ∧ Below w.heap.size w w' := by
  go_enter Try.func96, Try.ntmps96
  go_wp2
  go_ret
  exact ⟨rfl, Below.refl _ _⟩

set_option maxRecDepth 100000 in
set_option maxHeartbeats 2000000 in
theorem tables_calls (P M nn : Nat) (ss : List (Int × List Int)) (D : DataW Unit) (xa : Option Addr) (xn xc : Nat) (ya : Option Addr) (yn yc : Nat) (w : World) (hb : Bk w P M (ss.length : Int) nn D) (good : Good ss) (rep : Rep ss D) (c2 : w.cell? ⟨P, 2, none⟩ = some (.slice xa xn xc)) (c3 : w.cell? ⟨P, 3, none⟩ = some (.slice ya yn yc)) :
    Calls Try.prog 45 #[.pointer (some ⟨P, 0, none⟩)] w fun e w' => ∃ b, e = .returned (.agg #[.slice (some ⟨b, 0, none⟩) ss.length ss.length, .slice xa xn xc, .slice ya yn yc]) ∧ OR (InR w.heap.size w'.heap.size) (some ⟨b, 0, none⟩) ss.length ss w' ∧ Below w.heap.size w w' := by
  have hP := hb.lt
  have al := (Below.refl w.heap.size w).alloc (Nat.le_refl _) (.cells #[.slice none 0 0, .slice none 0 0, .slice none 0 0] 36)
  have M0 := (Mm.start w).alloc3 (.slice none 0 0) (.slice none 0 0) (.slice none 0 0) 36
  have hb0 := hb.below al
  have d2 := (al.cell (p := ⟨P, 2, none⟩) hP).trans c2
  have d3 := (al.cell (p := ⟨P, 3, none⟩) hP).trans c3
  have HM := hide M0
  have HBk := hide hb0
  clear al M0 hb0
  go_enter Try.func45, Try.ntmps45
  go_wp2_with fail
  go_region_with (first
    | (go_at_call 86; refine (registry_calls P M nn ss D _ ?_ good rep).mono ?_; exact HBk.out.below (Below.refl _ _).drew; rintro e w1 ⟨b, rfl, o1, g1⟩; have M1 := HM.out.drew.below g1; have z1 := g1.size; have hX : Below (w.alloc (.cells #[.slice none 0 0, .slice none 0 0, .slice none 0 0] 36)).heap.size (w.alloc (.cells #[.slice none 0 0, .slice none 0 0, .slice none 0 0] 36)) w1 := ((Below.refl _ _).drew).trans g1; have e2 := (hX.cell (p := ⟨P, 2, none⟩) (by simp; omega)).trans d2; have e3 := (hX.cell (p := ⟨P, 3, none⟩) (by simp; omega)).trans d3; clear g1 hX; have r0 := M1.cell 0 rfl; have r1 := M1.cell 1 rfl; have r2 := M1.cell 2 rfl; have t0 := M1.fz 0 rfl; have t1 := M1.fz 1 rfl; have t2 := M1.fz 2 rfl))
  all_goals (
    have HB := hide M1.bel
    have HO := hide o1
    clear M1 o1
    go_wp2
    refine bodyPost_ret (v := .agg #[.slice (some ⟨b, 0, none⟩) ss.length ss.length, .slice xa xn xc, .slice ya yn yc]) (by simp [results, Try.results45, go_sem, r0, r1, r2]) rfl ⟨b, rfl, ?_, ((HB.out.setCell (by simp) _).setCell (by simp) _).setCell (by simp) _⟩
    exact (OR.set3 HO.out (fun e => by have h1 := e.1; simp only [World.size_drew, World.size_alloc] at h1; omega) _ _ _).mono (fun k hk => ⟨by have h1 := hk.1; simp only [World.size_drew, World.size_alloc] at h1; omega, by have := hk.2; simp; omega⟩))

set_option maxRecDepth 100000 in
theorem l1Max_calls (x y : Int) (w : World) : Calls Try.prog 119 #[.int .i64 x, .int .i64 y] w fun e w' => e = .returned (.int .i64 (max x y)) ∧ w' = w := by
  by_cases h : y < x
  · go_enter Try.func119, Try.ntmps119
    go_wp2
    go_ret
    exact ⟨ret_int (by omega), rfl⟩
  · go_enter Try.func119, Try.ntmps119
    go_wp2
    go_ret
    exact ⟨ret_int (by omega), rfl⟩

set_option maxRecDepth 100000 in
set_option maxHeartbeats 4000000 in
theorem l1JoinO_calls (p o q : Nat) (a b : Option Addr) (n ca cb : Nat) (xs ys : List Int) (w : World) (hn : n ≤ 1048576) (hp : p < w.heap.size) (hq : q < w.heap.size)
    (hpc : w.cell? ⟨p, o, none⟩ = some (.slice a n ca)) (hqc : w.cell? ⟨q, 0, none⟩ = some (.slice b n cb)) (hx : Sl w a n xs) (hy : Sl w b n ys) :
    Calls Try.prog 102 #[.pointer (some ⟨p, o, none⟩), .pointer (some ⟨q, 0, none⟩)] w fun e w' => ∃ ra rc, e = .returned (.agg #[.slice ra n rc]) ∧ OSl w' w.heap.size w'.heap.size ra n (mix max xs ys) ∧ Below w.heap.size w w' := by
  obtain ⟨hxl, hx⟩ := hx
  obtain ⟨hyl, hy⟩ := hy
  obtain ⟨i0, hi, hz0, hz1, hz2⟩ := info_parts info2
  go_enter Try.func102, Try.ntmps102
  go_wp2
  go_loopw [6] (fun i wr => ∃ (k : Nat) (v : Value), k ≤ n ∧ i = .int .i64 k ∧ wr.cell? ⟨w.heap.size + 1, 0, none⟩ = some v ∧ wr.frozen? ⟨w.heap.size + 1, 0, none⟩ = false ∧ wr.ownsRow (w.heap.size + 2) 2 1 v k (((mix max xs ys).take k).map (Value.int .i64)) ∧
      wr.cell? ⟨w.heap.size, 0, none⟩ = some (.slice none 0 0) ∧ wr.frozen? ⟨w.heap.size, 0, none⟩ = false ∧ Below w.heap.size w wr ∧ w.heap.size + 2 ≤ wr.heap.size) (fun i _ => n - (intOf i).toNat)
  case atStart => exact ⟨0, .slice none 0 0, Nat.zero_le _, rfl, by go_simp, by go_simp, World.ownsRow_nil _ _ _ _, by go_simp, by go_simp, ((Below.refl _ _).alloc (Nat.le_refl _) _).alloc (by simp) _, by simp⟩
  case round =>
    obtain ⟨k, v, hk, rfl, hv, hvf, hown, hr, hrf, hbel, hsz⟩ := hrel
    have hpr := (hbel.cell (p := ⟨p, o, none⟩) hp).trans hpc
    have hqr := (hbel.cell (p := ⟨q, 0, none⟩) hq).trans hqc
    by_cases hlt : k < n
    · obtain ⟨b1, o1, rfl, hb1, hc1⟩ := hx (by omega)
      obtain ⟨b2, o2, rfl, hb2, hc2⟩ := hy (by omega)
      have hck1 := (hbel.cell (p := ⟨b1, o1 + k, none⟩) hb1).trans (hc1 k hlt)
      have hck2 := (hbel.cell (p := ⟨b2, o2 + k, none⟩) hb2).trans (hc2 k hlt)
      have hki : (k : Int) < (n : Int) := by omega
      have hsz1 : w.heap.size + 1 < wr.heap.size := by omega
      have HO := hide hown
      clear hown hx hy hc1 hc2
      go_wp2_with fail
      go_region_law (first
        | (refine step_append_lies _ rfl _ _ 25 rfl (w.heap.size + 2) 2 i0 (.int .i64 0) 1 8 Try.underlying25 hi hz0 hz1 hz2 rfl (by decide) v k (((mix max xs ys).take k).map (Value.int .i64)) rfl (HO.out.alloc _) ⟨wr.heap.size, 0, none⟩ 1 1 [.int .i64 (max (gt xs k) (gt ys k))] rfl rfl (one_new (by go_simp)) (by simp [Value.oneCell']) (by omega) (by unfold maxLen; omega) (by omega) (by simp; omega) (wr.heap.size + 1) (by simp) ?_; intro g cp w1 hown1 hgrow hat hlt1; have gv := grow_cell HO.out hgrow hsz (p := ⟨w.heap.size + 1, 0, none⟩) (by simp); rw [hv, hvf] at gv; obtain ⟨gv1, gv2⟩ := gv)
        | (go_simp; go_at_call 119; refine (l1Max_calls _ _ _).mono ?_; rintro e w2 ⟨rfl, rfl⟩))
      all_goals
        have R := app_step hbel hsz (by omega : w.heap.size + 1 < w.heap.size + 2) (by omega) hv hvf HO.out hgrow hown1
        have RN := R.2.2.2.1 ⟨w.heap.size, 0, none⟩ (by simp) (by simp)
        rw [hr, hrf] at RN
        rw [← mix_take max xs ys k (by omega)] at R
        have HR := hide R
        have HRN := hide RN
        clear R RN gv1 gv2 hown1 hgrow hat hlt1
        go_wp2
        go_roundw
        case rel => exact ⟨k + 1, _, by omega, by go_num, HR.out.1, HR.out.2.1, HR.out.2.2.1, HRN.out.1, HRN.out.2, HR.out.2.2.2.2.1, HR.out.2.2.2.2.2⟩
        case measure => simp [intOf]; omega
    · have hkn : k = n := by omega
      subst hkn
      rw [List.take_of_length_le (by rw [length_mix]; omega)] at hown
      obtain ⟨ra, rc, rfl, ho⟩ := owns_osl hn hown
      clear hown
      go_wp2
      refine bodyPost_ret (v := .agg #[.slice ra k rc]) (by simp [results, Try.results102, go_sem, hr]) rfl ⟨ra, rc, rfl, ?_, hbel.setCell (by simp) _⟩
      exact (ho.map (fun b h1 _ hb => hb.setCell (by simp; omega) _)).mono (by omega) (by simp)

def td (x y : Int) : Int := if x = 0 then 0 else max x y

/-- a label joined with another one, of which the first k levels are done: where it owns, it keeps its star. -/
def tdK (k : Nat) (xs ys : List Int) : List Int := (List.range 4).map (fun j => if j < k then td (gt xs j) (gt ys j) else max (gt xs j) (gt ys j))

theorem length_tdK (k : Nat) (xs ys : List Int) : (tdK k xs ys).length = 4 := by simp [tdK]

theorem gt_tdK (k : Nat) (xs ys : List Int) (j : Nat) (h : j < 4) : gt (tdK k xs ys) j = if j < k then td (gt xs j) (gt ys j) else max (gt xs j) (gt ys j) := by simp [tdK, gt, h]

theorem tdK_start {xs : List Int} (ys : List Int) (h : xs.length = 4) : tdK 0 xs ys = mix max xs ys := by simp [tdK, mix, h]

theorem tdK_end {xs : List Int} (ys : List Int) (h : xs.length = 4) : tdK 4 xs ys = mix td xs ys := by
  unfold tdK mix
  rw [h]
  exact List.map_congr_left (fun j hj => if_pos (by simpa using hj))

theorem tdK_star {k : Nat} {xs : List Int} (ys : List Int) (hk : k < 4) (h : gt xs k = 0) : (tdK k xs ys).set k 0 = tdK (k + 1) xs ys := by
  obtain rfl | rfl | rfl | rfl : k = 0 ∨ k = 1 ∨ k = 2 ∨ k = 3 := by omega
  all_goals simp [tdK, td, h, List.range, List.range.loop]

theorem tdK_same {k : Nat} {xs : List Int} (ys : List Int) (hk : k < 4) (h : gt xs k ≠ 0) : tdK k xs ys = tdK (k + 1) xs ys := by
  obtain rfl | rfl | rfl | rfl : k = 0 ∨ k = 1 ∨ k = 2 ∨ k = 3 := by omega
  all_goals simp [tdK, td, h, List.range, List.range.loop]

theorem blk_store {w : World} {b r : Nat} {zs : List Int} {x : Int} (h : Blk w b zs) (hr : r < zs.length) : Blk (w.setCell ⟨b, r, none⟩ (.int .i64 x)) b (zs.set r x) := by
  refine ⟨by simpa using h.1, fun i hi => ?_, fun i => by simpa using h.2.2 i⟩
  by_cases e : i = r
  · subst e
    rw [World.cell?_setCell_same _ _ _ (h.2.1 i hr)]
    simp [gt, hr]
  · rw [World.cell?_setCell_other _ _ _ _ (fun he => by injection he with _ e2; omega), h.2.1 i (by simpa using hi)]
    simp [gt, Ne.symm e]

set_option maxRecDepth 100000 in
set_option maxHeartbeats 2000000 in
theorem l3Tainted_calls (p o q : Nat) (a b : Option Addr) (ca cb : Nat) (xs ys : List Int) (w : World) (hp : p < w.heap.size) (hq : q < w.heap.size)
    (hpc : w.cell? ⟨p, o, none⟩ = some (.slice a 4 ca)) (hqc : w.cell? ⟨q, 0, none⟩ = some (.slice b 4 cb)) (hx : Sl w a 4 xs) (hy : Sl w b 4 ys) :
    Calls Try.prog 71 #[.pointer (some ⟨p, o, none⟩), .pointer (some ⟨q, 0, none⟩)] w fun e w' => ∃ ra rc, e = .returned (.agg #[.slice ra 4 rc]) ∧ OS (InR w.heap.size w'.heap.size) ra 4 (mix td xs ys) w' ∧ Below w.heap.size w w' := by
  have M0 := (Mm.start w).alloc1 (.slice none 0 0) 41
  have al := (Below.refl w.heap.size w).alloc (Nat.le_refl _) (.cells #[.slice none 0 0] 41)
  have hp0 : p < (w.alloc (.cells #[.slice none 0 0] 41)).heap.size := by simp; omega
  have hq0 : q < (w.alloc (.cells #[.slice none 0 0] 41)).heap.size := by simp; omega
  go_enter Try.func71, Try.ntmps71
  go_wp2_with fail
  refine (l1JoinO_calls p o q a b 4 ca cb xs ys _ (by omega) hp0 hq0 ((al.cell (p := ⟨p, o, none⟩) hp).trans hpc) ((al.cell (p := ⟨q, 0, none⟩) hq).trans hqc) (hx.below al (Nat.le_refl _)) (hy.below al (Nat.le_refl _))).mono ?_
  rintro e w1 ⟨ra, rc, rfl, o1, g1⟩
  obtain ⟨_, _, h4 | ⟨bb, rfl, hbb, blk⟩⟩ := OS.ofOSl o1
  · omega
  have z1 := g1.size
  have hb1 := hbb.1
  have hb2 := hbb.2
  simp only [World.size_alloc] at z1 hb1
  have M1 := (M0.below g1).alloc1 (.slice (some ⟨bb, 0, none⟩) 4 rc) 41
  have blk1 := blk.below ((Below.refl w1.heap.size w1).alloc (Nat.le_refl _) (.cells #[.slice (some ⟨bb, 0, none⟩) 4 rc] 41))
  rw [← tdK_start ys hx.1] at blk1
  have HM1 := hide M1
  have HBk := hide blk1
  have hxl := hx.1
  obtain ⟨_, hx⟩ := hx
  obtain ⟨xb, xo, rfl, hxb, hxc⟩ := hx (by omega)
  clear M0 M1 g1 al o1 blk blk1 hbb hp0 hq0
  go_wp2
  go_loopw [6] (fun i wr => ∃ k : Nat, k ≤ 4 ∧ i = .int .i64 k ∧ Blk wr bb (tdK k xs ys) ∧ Mm w wr [(w1.heap.size, 0, .slice (some ⟨bb, 0, none⟩) 4 rc), (w.heap.size, 0, .slice none 0 0)] []) (fun i _ => 4 - (intOf i).toNat)
  case atStart => exact ⟨0, Nat.zero_le _, rfl, HBk.out, HM1.out⟩
  case round =>
    obtain ⟨k, hk, rfl, blk, M2⟩ := hrel
    have hpr := (M2.bel.cell (p := ⟨p, o, none⟩) hp).trans hpc
    have v0 := M2.cell 0 rfl
    have r0 := M2.cell 1 rfl
    have rf := M2.fz 1 rfl
    by_cases hlt : k < 4
    · have ck := (M2.bel.cell (p := ⟨xb, xo + k, none⟩) hxb).trans (hxc k hlt)
      have hki : (k : Int) < 4 := by omega
      have bc := blk.2.1 k (by rw [length_tdK]; exact hlt)
      have bf := blk.2.2 k
      by_cases h0 : gt xs k = 0
      · have e0 : (gt xs k == 0) = true := by simp [h0]
        have HBs : Hid (Blk (wr.setCell ⟨bb, k, none⟩ (.int .i64 0)) bb (tdK (k + 1) xs ys)) := by show Blk _ _ _; rw [← tdK_star ys hlt h0]; exact blk_store blk (by rw [length_tdK]; exact hlt)
        have HMs := hide (M2.out (B := bb) (T := bb + 1) ((OutS.refl (InR bb (bb + 1)) wr).setCell (p := ⟨bb, k, none⟩) ⟨Nat.le_refl _, Nat.lt_succ_self _⟩ (.int .i64 0)) (by omega) (by simp <;> omega) (by simp))
        clear M2 blk
        go_wp2
        go_roundw
        case rel => exact ⟨k + 1, by omega, by go_num, HBs.out, HMs.out⟩
        case measure => simp [intOf]; omega
      · have e0 : (gt xs k == 0) = false := by simp [h0]
        have HBs : Hid (Blk wr bb (tdK (k + 1) xs ys)) := by show Blk _ _ _; rw [← tdK_same ys hlt h0]; exact blk
        have HMs := hide M2
        clear M2 blk
        go_wp2
        go_roundw
        case rel => exact ⟨k + 1, by omega, by go_num, HBs.out, HMs.out⟩
        case measure => simp [intOf]; omega
    · obtain rfl : k = 4 := by omega
      rw [tdK_end ys hxl] at blk
      have HBs := hide blk
      have HB := hide M2.bel
      have HLn : Hid ((mix td xs ys).length = 4) := (length_mix td xs ys).trans hxl
      clear M2 blk
      go_wp2
      refine bodyPost_ret (v := .agg #[.slice (some ⟨bb, 0, none⟩) 4 rc]) (by simp [results, Try.results71, go_sem, r0]) rfl ⟨_, _, rfl, ?_, HB.out.setCell (by simp) _⟩
      exact OS.ofBlk (HBs.out.setCell (by show w.heap.size ≠ _; omega) _) ⟨by omega, by have := HBs.out.1; simpa using this⟩ HLn.out (by omega)

/-- what the region keeps: two boxes, and all that was there. -/
theorem sj_alloc {w1 X : World} {N M : Nat} {u v : Value} (h : X.cell? ⟨N, 0, none⟩ = some u ∧ X.cell? ⟨M, 0, none⟩ = some v ∧ Below w1.heap.size w1 X) (o : Obj) :
    (X.alloc o).cell? ⟨N, 0, none⟩ = some u ∧ (X.alloc o).cell? ⟨M, 0, none⟩ = some v ∧ Below w1.heap.size w1 (X.alloc o) :=
  ⟨(World.cell?_alloc_lt _ _ _ (World.block_lt_of_cell? _ _ h.1)).trans h.1, (World.cell?_alloc_lt _ _ _ (World.block_lt_of_cell? _ _ h.2.1)).trans h.2.1, h.2.2.alloc h.2.2.size o⟩

theorem sj_below {w1 X Y : World} {N M : Nat} {u v : Value} (h : X.cell? ⟨N, 0, none⟩ = some u ∧ X.cell? ⟨M, 0, none⟩ = some v ∧ Below w1.heap.size w1 X) (hb : Below X.heap.size X Y) :
    Y.cell? ⟨N, 0, none⟩ = some u ∧ Y.cell? ⟨M, 0, none⟩ = some v ∧ Below w1.heap.size w1 Y :=
  ⟨(hb.cell (p := ⟨N, 0, none⟩) (World.block_lt_of_cell? _ _ h.1)).trans h.1, (hb.cell (p := ⟨M, 0, none⟩) (World.block_lt_of_cell? _ _ h.2.1)).trans h.2.1, h.2.2.trans (hb.mono h.2.2.size)⟩

theorem sj_sl {w w1 X : World} {N M : Nat} {u v : Value} {a : Option Addr} {n : Nat} {xs : List Int} (h : X.cell? ⟨N, 0, none⟩ = some u ∧ X.cell? ⟨M, 0, none⟩ = some v ∧ Below w1.heap.size w1 X) (h1 : Below w.heap.size w w1) (hx : Sl w a n xs) : Sl X a n xs :=
  hx.below (h1.trans (h.2.2.mono h1.size)) (Nat.le_refl _)

theorem sj_set {w1 X : World} {N M : Nat} {u v : Value} (nN : N < w1.heap.size) (nM : M < w1.heap.size) (h : X.cell? ⟨N, 0, none⟩ = some u ∧ X.cell? ⟨M, 0, none⟩ = some v ∧ Below w1.heap.size w1 X) {p : Addr} (hp : w1.heap.size ≤ p.block) (y : Value) :
    (X.setCell p y).cell? ⟨N, 0, none⟩ = some u ∧ (X.setCell p y).cell? ⟨M, 0, none⟩ = some v ∧ Below w1.heap.size w1 (X.setCell p y) :=
  ⟨(World.cell?_setCell_other _ _ _ _ (fun e => by rw [e] at hp; simp at hp; omega)).trans h.1, (World.cell?_setCell_other _ _ _ _ (fun e => by rw [e] at hp; simp at hp; omega)).trans h.2.1, h.2.2.setCell hp y⟩

theorem sj_allocd {w1 X : World} {N M : Nat} {u v : Value} (h : X.drew.cell? ⟨N, 0, none⟩ = some u ∧ X.drew.cell? ⟨M, 0, none⟩ = some v ∧ Below w1.heap.size w1 X.drew) (o : Obj) :
    (X.alloc o).drew.cell? ⟨N, 0, none⟩ = some u ∧ (X.alloc o).drew.cell? ⟨M, 0, none⟩ = some v ∧ Below w1.heap.size w1 (X.alloc o).drew := sj_alloc (X := X.drew) h o

theorem bcell {W w1 : World} (hb : Below W.heap.size W w1) : (∀ b o, b < W.heap.size → w1.cell? ⟨b, o, none⟩ = W.cell? ⟨b, o, none⟩) ∧ (∀ b o, b < W.heap.size → w1.frozen? ⟨b, o, none⟩ = W.frozen? ⟨b, o, none⟩) :=
  ⟨fun b o h => hb.cell (p := ⟨b, o, none⟩) h, fun b o h => hb.frozen (p := ⟨b, o, none⟩) h⟩

theorem sj_start {w1 : World} {N M : Nat} {u v : Value} (h : w1.cell? ⟨N, 0, none⟩ = some u) (k : w1.cell? ⟨M, 0, none⟩ = some v) :
    w1.drew.cell? ⟨N, 0, none⟩ = some u ∧ w1.drew.cell? ⟨M, 0, none⟩ = some v ∧ Below w1.heap.size w1 w1.drew := ⟨h, k, (Below.refl _ _).drew⟩

theorem bcell_lt {W w1 : World} {n : Nat} (hb : Below W.heap.size W w1) (hn : n ≤ W.heap.size) : (∀ b o, b < n → w1.cell? ⟨b, o, none⟩ = W.cell? ⟨b, o, none⟩) ∧ (∀ b o, b < n → w1.frozen? ⟨b, o, none⟩ = W.frozen? ⟨b, o, none⟩) :=
  ⟨fun b o h => hb.cell (p := ⟨b, o, none⟩) (Nat.lt_of_lt_of_le h hn), fun b o h => hb.frozen (p := ⟨b, o, none⟩) (Nat.lt_of_lt_of_le h hn)⟩

theorem set4_other (X : World) (g h j : Nat) (y0 y1 y2 y3 : Value) (hne : g ≠ h) : ((((X.setCell ⟨h, 0, none⟩ y0).setCell ⟨h, 1, none⟩ y1).setCell ⟨h, 2, none⟩ y2).setCell ⟨h, 3, none⟩ y3).cell? ⟨g, j, none⟩ = X.cell? ⟨g, j, none⟩ := by
  rw [World.cell?_setCell_other _ _ _ _ (fun e => hne (by injection e with e1; exact e1.symm)), World.cell?_setCell_other _ _ _ _ (fun e => hne (by injection e with e1; exact e1.symm)), World.cell?_setCell_other _ _ _ _ (fun e => hne (by injection e with e1; exact e1.symm)), World.cell?_setCell_other _ _ _ _ (fun e => hne (by injection e with e1; exact e1.symm))]

theorem ARow.mk4 {w : World} {g : Nat} {f : Nat → Int} (h0 : w.cell? ⟨g, 0, none⟩ = some (.int .i64 (f 0))) (h1 : w.cell? ⟨g, 1, none⟩ = some (.int .i64 (f 1))) (h2 : w.cell? ⟨g, 2, none⟩ = some (.int .i64 (f 2))) (h3 : w.cell? ⟨g, 3, none⟩ = some (.int .i64 (f 3))) (hf : ∀ j, w.frozen? ⟨g, j, none⟩ = false) : ARow w g f :=
  ⟨fun j hj => by rcases (by omega : j = 0 ∨ j = 1 ∨ j = 2 ∨ j = 3) with rfl | rfl | rfl | rfl <;> assumption, hf⟩

theorem mix4 (f : Int → Int → Int) {xs ys : List Int} (h : xs.length = 4) : mix f xs ys = [f (gt xs 0) (gt ys 0), f (gt xs 1) (gt ys 1), f (gt xs 2) (gt ys 2), f (gt xs 3) (gt ys 3)] := by
  rw [list4 (zs := mix f xs ys) (by rw [length_mix]; exact h), gt_mix f xs ys 0 (by omega), gt_mix f xs ys 1 (by omega), gt_mix f xs ys 2 (by omega), gt_mix f xs ys 3 (by omega)]

theorem some_set {X : World} {p q : Addr} {v : Value} (h : (X.cell? q).isSome = true) : ((X.setCell p v).cell? q).isSome = true := by
  obtain ⟨u, hu⟩ := Option.isSome_iff_exists.1 h
  obtain ⟨u', hu'⟩ := cell?_setCell_some (p := p) (x := v) hu
  rw [hu']; rfl



theorem fieldL (c v : Value) (w : World) : (Instr.field 55 (.agg #[c, v]) 1).run Try.prog w = .ok (.agg #[v]) w := by kernel_rfl

set_option maxRecDepth 100000 in
theorem taintedLevel_calls (x y : Int) (w : World) : Calls Try.prog 85 #[.int .i64 x, .int .i64 y] w fun e w' => e = .returned (.int .i64 (td x y)) ∧ w' = w := by
  by_cases h : x = 0
  · have HV : Hid (td x y = 0) := if_pos h
    have e1 : (x == 0) = true := by simp [h]
    clear h
    go_enter Try.func85, Try.ntmps85
    go_wp2
    go_ret
    exact ⟨ret_int HV.out.symm, rfl⟩
  · have HV : Hid (td x y = max x y) := if_neg h
    have e1 : (x == 0) = false := by simp [h]
    clear h
    by_cases h2 : x < y
    · have HV2 : Hid (td x y = y) := by show _ = _; rw [HV.out]; omega
      go_enter Try.func85, Try.ntmps85
      go_wp2
      go_ret
      exact ⟨ret_int HV2.out.symm, rfl⟩
    · have HV2 : Hid (td x y = x) := by show _ = _; rw [HV.out]; omega
      go_enter Try.func85, Try.ntmps85
      go_wp2
      go_ret
      exact ⟨ret_int HV2.out.symm, rfl⟩

set_option maxRecDepth 100000 in
set_option maxHeartbeats 4000000 in
theorem mixed_td (xs ys : List Int) (w : World) :
    Calls Try.prog 84 #[.agg (ints4 xs), .agg (ints4 ys), .func (.func 85) #[] #[]] w fun e w' => e = .returned (.agg #[.int .i64 (td (gt xs 0) (gt ys 0)), .int .i64 (td (gt xs 1) (gt ys 1)), .int .i64 (td (gt xs 2) (gt ys 2)), .int .i64 (td (gt xs 3) (gt ys 3))]) ∧ Below w.heap.size w w' := by
  unfold ints4
  have M00 := (((Mm.start w).allocC [.int .i64 (gt xs 0), .int .i64 (gt xs 1), .int .i64 (gt xs 2), .int .i64 (gt xs 3)] 100).allocC [.int .i64 (gt ys 0), .int .i64 (gt ys 1), .int .i64 (gt ys 2), .int .i64 (gt ys 3)] 100).allocC [.int .i64 0, .int .i64 0, .int .i64 0, .int .i64 0] 100
  simp only [World.size_alloc] at M00
  obtain ⟨W, hW⟩ : ∃ W : World, W = ((w.alloc (.cells #[.int .i64 (gt xs 0), .int .i64 (gt xs 1), .int .i64 (gt xs 2), .int .i64 (gt xs 3)] 100)).alloc (.cells #[.int .i64 (gt ys 0), .int .i64 (gt ys 1), .int .i64 (gt ys 2), .int .i64 (gt ys 3)] 100)).alloc (.cells #[.int .i64 0, .int .i64 0, .int .i64 0, .int .i64 0] 100) := ⟨_, rfl⟩
  rw [← hW] at M00
  have zW : W.heap.size = w.heap.size + 3 := by rw [hW]; simp
  have HRow : Hid (ARow W w.heap.size (upTo (fun j => td (gt xs j) (gt ys j)) (gt xs) 0)) := ARow.mk4 ((M00.get 2 rfl).cell 0 rfl) ((M00.get 2 rfl).cell 1 rfl) ((M00.get 2 rfl).cell 2 rfl) ((M00.get 2 rfl).cell 3 rfl) (fun j => by rw [hW]; go_simp)
  have HM0 : Hid (Mm w W [] [(w.heap.size + 1 + 1, w.heap.size + 1 + 1 + 1, Cs (w.heap.size + 1 + 1) [.int .i64 0, .int .i64 0, .int .i64 0, .int .i64 0]), (w.heap.size + 1, w.heap.size + 1 + 1, Cs (w.heap.size + 1) [.int .i64 (gt ys 0), .int .i64 (gt ys 1), .int .i64 (gt ys 2), .int .i64 (gt ys 3)])]) := M00.sub (fun _ h => h) (fun _ h => by simp only [List.mem_cons, List.not_mem_nil, or_false] at h ⊢; rcases h with h | h <;> simp [h])
  have HW := hide hW
  clear M00 hW
  go_enter Try.func84, Try.ntmps84
  go_upto_region 1 with fail
  rw [← HW.out]
  clear HW
  go_wp2
  go_loopw [8] (fun i wr => ∃ k : Nat, k ≤ 4 ∧ i = .int .i64 k ∧ ARow wr w.heap.size (upTo (fun j => td (gt xs j) (gt ys j)) (gt xs) k) ∧ Mm w wr [] [(w.heap.size + 1 + 1, w.heap.size + 1 + 1 + 1, Cs (w.heap.size + 1 + 1) [.int .i64 0, .int .i64 0, .int .i64 0, .int .i64 0]), (w.heap.size + 1, w.heap.size + 1 + 1, Cs (w.heap.size + 1) [.int .i64 (gt ys 0), .int .i64 (gt ys 1), .int .i64 (gt ys 2), .int .i64 (gt ys 3)])]) (fun i _ => 4 - (intOf i).toNat)
  case atStart => exact ⟨0, Nat.zero_le _, rfl, HRow.out, HM0.out⟩
  case round =>
    clear HRow HM0
    obtain ⟨k, hk4, rfl, hrow, M⟩ := hrel
    by_cases hlt : k < 4
    · have hv : wr.cell? ⟨w.heap.size, k, none⟩ = some (.int .i64 (gt xs k)) := by rw [hrow.1 k hlt]; simp [upTo]
      have hf := hrow.2 k
      have hy : wr.cell? ⟨w.heap.size + 1, k, none⟩ = some (.int .i64 (gt ys k)) := by
        rcases (by omega : k = 0 ∨ k = 1 ∨ k = 2 ∨ k = 3) with rfl | rfl | rfl | rfl
        · exact (M.get 1 rfl).cell 0 rfl
        · exact (M.get 1 rfl).cell 1 rfl
        · exact (M.get 1 rfl).cell 2 rfl
        · exact (M.get 1 rfl).cell 3 rfl
      have k0 : (0 : Int) ≤ (k : Int) := by omega
      have k1 : (k : Int) < 4 := by omega
      have HR := hide (hrow.set (x := td (gt xs k) (gt ys k)) hlt (upTo_set (F := fun j => td (gt xs j) (gt ys j)) (f := gt xs) rfl))
      have HMs := hide (M.out (B := w.heap.size) (T := w.heap.size + 1) ((OutS.refl (InR w.heap.size (w.heap.size + 1)) wr).setCell (p := ⟨w.heap.size, k, none⟩) ⟨Nat.le_refl _, Nat.lt_succ_self _⟩ (.int .i64 (td (gt xs k) (gt ys k)))) (by omega) (by simp) (by simp <;> omega))
      clear hrow M
      go_wp2_with fail
      go_region_with (go_at_call 85; refine (taintedLevel_calls _ _ _).mono ?_; rintro e w1 ⟨rfl, rfl⟩)
      all_goals (
        go_wp2
        go_roundw
        case rel => exact ⟨k + 1, by omega, by go_num, HR.out, HMs.out.below (Below.refl _ _).drew⟩
        case measure => simp [intOf]; omega)
    · obtain rfl : k = 4 := by omega
      have hrow := hrow.keep (f' := fun j => td (gt xs j) (gt ys j)) (fun j hj => if_pos hj)
      have v0 := hrow.1 0 (by omega)
      have v1 := hrow.1 1 (by omega)
      have v2 := hrow.1 2 (by omega)
      have v3 := hrow.1 3 (by omega)
      have r0 := (M.get 0 rfl).cell 0 rfl
      have r1 := (M.get 0 rfl).cell 1 rfl
      have r2 := (M.get 0 rfl).cell 2 rfl
      have r3 := (M.get 0 rfl).cell 3 rfl
      have f0 := (M.get 0 rfl).fz 0 (by simp)
      have f1 := (M.get 0 rfl).fz 1 (by simp)
      have f2 := (M.get 0 rfl).fz 2 (by simp)
      have f3 := (M.get 0 rfl).fz 3 (by simp)
      have HB := hide M.bel
      clear hrow M
      go_wp2
      have n0 := set4_at0 _ _ (.int .i64 (td (gt xs 0) (gt ys 0))) (.int .i64 (td (gt xs 1) (gt ys 1))) (.int .i64 (td (gt xs 2) (gt ys 2))) (.int .i64 (td (gt xs 3) (gt ys 3))) ⟨_, r0⟩
      have n1 := set4_at1 _ _ (.int .i64 (td (gt xs 0) (gt ys 0))) (.int .i64 (td (gt xs 1) (gt ys 1))) (.int .i64 (td (gt xs 2) (gt ys 2))) (.int .i64 (td (gt xs 3) (gt ys 3))) ⟨_, r1⟩
      have n2 := set4_at2 _ _ (.int .i64 (td (gt xs 0) (gt ys 0))) (.int .i64 (td (gt xs 1) (gt ys 1))) (.int .i64 (td (gt xs 2) (gt ys 2))) (.int .i64 (td (gt xs 3) (gt ys 3))) ⟨_, r2⟩
      have n3 := set4_at3 _ _ (.int .i64 (td (gt xs 0) (gt ys 0))) (.int .i64 (td (gt xs 1) (gt ys 1))) (.int .i64 (td (gt xs 2) (gt ys 2))) (.int .i64 (td (gt xs 3) (gt ys 3))) ⟨_, r3⟩
      refine bodyPost_ret (v := .agg #[.int .i64 (td (gt xs 0) (gt ys 0)), .int .i64 (td (gt xs 1) (gt ys 1)), .int .i64 (td (gt xs 2) (gt ys 2)), .int .i64 (td (gt xs 3) (gt ys 3))]) (by simp [results, Try.results84, go_sem, n0, n1, n2, n3]) rfl ⟨rfl, ?_⟩
      exact (((HB.out.setCell (by simp; omega) _).setCell (by simp; omega) _).setCell (by simp; omega) _).setCell (by simp; omega) _

set_option maxRecDepth 100000 in
set_option maxHeartbeats 4000000 in
theorem taintedBy_calls (a b : Option Addr) (ca cb : Nat) (xs ys : List Int) (w : World) (hx : Sl w a 4 xs) (hy : Sl w b 4 ys) (_ : fault xs = 0) (_ : fault ys = 0) :
    Calls Try.prog 44 #[.agg #[.slice a 4 ca], .agg #[.slice b 4 cb]] w fun e w' => ∃ bb, e = .returned (.agg #[.slice (some ⟨bb, 0, none⟩) 4 4]) ∧ (w.heap.size ≤ bb ∧ Blk w' bb (mix td xs ys)) ∧ Below w.heap.size w w' := by
  have M0 := (((Mm.start w).allocC [.slice a 4 ca] 41).allocC [.slice b 4 cb] 41).allocC [.slice none 0 0] 41
  simp only [World.size_alloc] at M0
  have HX := hide (hx.below M0.bel (Nat.le_refl _))
  have HY := hide (hy.below M0.bel (Nat.le_refl _))
  have hxl := hx.1
  have HM4 := hide (mix4 td (ys := ys) hxl)
  have HM := hide M0
  obtain ⟨u, hu⟩ : ∃ u, u = ((w.alloc (.cells #[.slice a 4 ca] 41)).alloc (.cells #[.slice b 4 cb] 41)).alloc (.cells #[.slice none 0 0] 41) := ⟨_, rfl⟩
  rw [← hu] at HX HY HM
  have zu : u.heap.size = w.heap.size + 3 := by rw [hu]; simp
  have HU := hide hu
  have c0 : u.cell? ⟨w.heap.size, 0, none⟩ = some (.slice a 4 ca) := (HM.out.get 2 rfl).cell 0 rfl
  have c1 : u.cell? ⟨w.heap.size + 1, 0, none⟩ = some (.slice b 4 cb) := (HM.out.get 1 rfl).cell 0 rfl
  have hb : Below u.heap.size u u.drew := (Below.refl _ _).drew
  clear hx hy hu M0
  go_enter Try.func44, Try.ntmps44
  go_upto_region 1 with fail
  rw [← HU.out]
  clear HU
  go_region_with (first
    | (go_at_call_of 59 (Value.slice a 4 ca); refine (levelsOf_calls a ca xs _ (HX.out.below hb (Nat.le_refl _))).mono ?_; rintro e ua ⟨rfl, ga⟩; replace hb := hb.trans (ga.mono hb.size); have N := HM.out.below hb; have k0 := (N.get 2 rfl).cell 0 rfl; have k1 := (N.get 1 rfl).cell 0 rfl; clear N; clear ga)
    | (go_at_call_of 59 (Value.slice b 4 cb); refine (levelsOf_calls b cb ys _ (HY.out.below hb (Nat.le_refl _))).mono ?_; rintro e ub ⟨rfl, ga⟩; replace hb := hb.trans (ga.mono hb.size); have N := HM.out.below hb; have k0 := (N.get 2 rfl).cell 0 rfl; have k1 := (N.get 1 rfl).cell 0 rfl; clear N; clear ga)
    | (go_at_call 84; refine (mixed_td xs ys _).mono ?_; rintro e uc ⟨rfl, ga⟩; replace hb := hb.trans (ga.mono hb.size); clear ga)
    | (go_at_call 83; refine (labelOf_calls _ _ _ _ _).mono ?_; rintro e ud ⟨b4, rfl, hl4, blk4, ga⟩; have hz4 := hb.size; replace hb := hb.trans (ga.mono hb.size); have hz5 := ga.size; have lb4 := blk4.1; have M4 := HM.out.below hb; have r0 := (M4.get 0 rfl).cell 0 rfl; have f0 := (M4.get 0 rfl).fz 0 (by simp); have HB := hide M4.bel; clear M4; clear ga))
  all_goals (
    have HK : Hid (Blk ud b4 (mix td xs ys)) := by show Blk _ _ _; rw [HM4.out]; exact blk4
    have HBx := hide HB.out
    clear blk4 hb
    go_wp2
    refine bodyPost_ret (v := .agg #[.slice (some ⟨b4, 0, none⟩) 4 4]) (by simp [results, Try.results44, go_sem, r0]) rfl ⟨b4, rfl, ⟨by omega, ?_⟩, HB.out.setCell (by simp <;> omega) _⟩
    exact HK.out.setCell (p := ⟨w.heap.size + 1 + 1, 0, none⟩) (by show w.heap.size + 1 + 1 ≠ _; omega) (.slice (some ⟨b4, 0, none⟩) 4 4))

/-- what 'relabelDomain' answers. -/
def RL (P M nn : Nat) (ss : List (Int × List Int)) (q : Nat) (zs : List Int) (S : Nat → Prop) (ya : Option Addr) (dn j : Nat) (ds : List Int) (w : World) (e : Ending) (w' : World) : Prop :=
  e = .returned (.tuple #[.int .i64 (etV (leaveS ss q) zs), .int .i64 (etC (leaveS ss q) zs)]) ∧ OutS (fun k => (k = M ∨ k = P) ∨ S k) w w' ∧ KP P w w' ∧
    (etC (leaveS ss q) zs = 0 → OS S ya dn (ds.set j (enQ (leaveS ss q) zs : Int)) w' ∧ ∃ D', Bk w' P M ((enS (leaveS ss q) zs).length : Int) (nn + 1 + 1) D' ∧ Rep (enS (leaveS ss q) zs) D')

set_option maxRecDepth 100000 in
set_option maxHeartbeats 4000000 in
theorem relabelDomain_calls (P M nn j q : Nat) (ss : List (Int × List Int)) (zs : List Int) (D : DataW Unit) (S : Nat → Prop) (ya : Option Addr) (dn yc : Nat) (ds : List Int) (bb cb : Nat) (w : World) (hb : Bk w P M (ss.length : Int) nn D) (hn : nn ≤ 90) (good : Good ss) (rep : Rep ss D) (hz : fault zs = 0) (c3 : w.cell? ⟨P, 3, none⟩ = some (.slice ya dn yc)) (hrow : OS S ya dn ds w) (hSM : ¬ S M) (hSP : ¬ S P) (hbM : bb ≠ M) (hy : Blk w bb zs) (hj : j < dn) (hq : gt ds j = (q : Int)) (hql : q < ss.length) (hqp : 0 < gc ss q) (hat : atC ss (q : Int) = 0) :
    Calls Try.prog 43 #[.pointer (some ⟨P, 0, none⟩), .int .i64 (j : Int), .agg #[.slice (some ⟨bb, 0, none⟩) 4 cb]] w (RL P M nn ss q zs S ya dn j ds w) := by
  have al := (Below.refl w.heap.size w).alloc (Nat.le_refl _) (.cells #[.slice (some ⟨bb, 0, none⟩) 4 cb] 41)
  have M0 := (Mm.start w).alloc1 (.slice (some ⟨bb, 0, none⟩) 4 cb) 41
  have hP0 := hb.lt
  have hM0 := hb.own.lt
  obtain ⟨hdl, hd1, h0 | ⟨g, rfl, hSg, blk⟩⟩ := hrow
  · omega
  have hPg : P ≠ g := fun e => hSP (e ▸ hSg)
  have hMg : M ≠ g := fun e => hSM (e ▸ hSg)
  have blk0 := blk.below al
  have cj := blk0.2.1 j (by omega)
  rw [hq] at cj
  have c30 := (al.cell (p := ⟨P, 3, none⟩) hP0).trans c3
  have hb0 := hb.below al
  have hy0 := hy.below al
  have hzl := fault_len hz
  have gl2 := good_leave good hql hqp
  have i0 : (0 : Int) ≤ (j : Int) := by omega
  have i1 : (j : Int) < (dn : Int) := by omega
  have HB0 := hide hb0
  have HG := hide good
  have HRp := hide rep
  have HY0 := hide hy0
  have HBlk := hide blk0
  have HM0 := hide M0
  have HAl := hide al
  clear hb0 good rep hy0 blk0 M0 al hb blk hy
  go_enter Try.func43, Try.ntmps43
  go_wp2_with fail
  go_region_with (first
    | (go_at_call 80; refine (leave_calls P M nn (q : Int) ss D _ (HB0.out.below (Below.refl _ _).drew) (by omega) HG.out HRp.out).mono ?_; rintro e w1 ⟨rfl, u1, hfin⟩))
  all_goals (
    obtain ⟨D1, hb1, hrep1⟩ := hfin hat
    have hqn : ((q : Int)).toNat = q := by omega
    rw [hqn] at hrep1
    have v1 : OutS (fun k => k = M) (w.alloc (.cells #[.slice (some ⟨bb, 0, none⟩) 4 cb] 41)) w1 := (OutS.of_below ((Below.refl _ _).drew)).trans u1
    have z1 := v1.size
    simp only [World.size_alloc] at z1
    have hPM : P ≠ M := hb1.ne.symm
    have blk1 : Blk w1 g ds := (Blk.loc (S := fun k => k = g) rfl) _ _ (fun k hk hl => v1.block k hl (fun e => hMg (e.symm.trans hk))) HBlk.out
    have y1 : Blk w1 bb zs := (Blk.loc (S := fun k => k = bb) rfl) _ _ (fun k hk hl => v1.block k hl (fun e => hbM (hk.symm.trans e))) HY0.out
    have hs1 := y1.sl
    rw [hzl] at hs1
    have c31 := (World.cell?_of_block (a := ⟨P, 3, none⟩) (v1.block P (by simp; omega) hPM)).trans c30
    have lc1 := (World.cell?_of_block (a := ⟨w.heap.size, 0, none⟩) (v1.block w.heap.size (by simp) (by omega))).trans (HM0.out.cell 0 rfl)
    have HK1 : Hid (KP P w w1) := (KP.of_block (HAl.out.block P hP0)).trans (KP.of_block (v1.block P (by simp; omega) hPM))
    have HO1 : Hid (OutS (fun k => (k = M ∨ k = P) ∨ S k) w w1) := (OutS.of_below HAl.out).trans (v1.mono (fun k h => .inl (.inl h)))
    have HB1 := hide hb1
    rw [← length_leaveS ss q] at hb1
    have HB1' := hide hb1
    have HRp1 := hide hrep1
    have HS1 := hide hs1
    have HBk1 := hide blk1
    clear u1 hfin v1 hb1 hrep1 HB0 HBlk HY0 HM0 HAl HRp blk1 y1 hs1
    go_wp2_with fail
    go_region_with (first
      | (go_at_call 82; refine (markOf_calls (some ⟨bb, 0, none⟩) cb zs _ ?_).mono ?_; exact HS1.out.below (Below.refl _ _).drew (Nat.le_refl _); rintro e w2 ⟨rfl, g2⟩; have k2 := (Below.refl w1.heap.size w1).drew.trans g2; clear g2)
      | (go_at_call 81; refine (enter_calls P M (nn + 1) (leaveS ss q) zs D1 _ (HB1'.out.below k2) (by omega) gl2 HRp1.out hz).mono ?_; rintro e w3 ⟨rfl, u3, hfin3⟩))
    all_goals (
      have z2 := k2.size
      have hP1 := HB1.out.lt
      have blk3 : Blk w3 g ds := (Blk.loc (S := fun k => k = g) rfl) _ _ (fun k hk hl => u3.1.block k hl (fun e => by rcases e with e | e; exact hMg (e.symm.trans hk); exact hPg (e.symm.trans hk))) (HBk1.out.below k2)
      have HK3 : Hid (KP P w w3) := (HK1.out.trans (KP.of_block (k2.block P hP1))).trans u3.2
      have HO3 : Hid (OutS (fun k => (k = M ∨ k = P) ∨ S k) w w3) := (HO1.out.trans (OutS.of_below k2)).trans (u3.1.mono (fun k h => .inl h))
      have c33 := ((HK3.out 3).1 (by omega)).trans c3
      have cj3 := blk3.2.1 j (by omega)
      have fj3 := blk3.2.2 j
      have HBk3 := hide blk3
      clear u3 k2 HB1 HB1' HRp1 HS1 HBk1 HO1 HK1 blk3
      by_cases ht : etC (leaveS ss q) zs = 0
      · obtain ⟨D', hb3, hrep3⟩ := hfin3 ht
        have et : (etC (leaveS ss q) zs != 0) = false := by simp [ht]
        have HEV : Hid (etV (leaveS ss q) zs = (enQ (leaveS ss q) zs : Int)) := if_pos ht
        have Ht := hide ht
        have HB3 := hide (hb3.keepG (row := some g) (setC1_grown w3 g j (.int .i64 (enQ (leaveS ss q) zs : Int))) (fun e => hPg (by injection e)) (fun e => hMg (by injection e)))
        have HRep := hide hrep3
        have HO4 := hide (HO3.out.setCell (p := ⟨g, j, none⟩) (.inr hSg) (.int .i64 (enQ (leaveS ss q) zs : Int)))
        have HK4 := hide (HK3.out.trans (KP.of_block (Below.heap_setCell w3 ⟨g, j, none⟩ (.int .i64 (enQ (leaveS ss q) zs : Int)) P (fun e => hPg e))))
        have HOS : Hid (OS S (some ⟨g, 0, none⟩) dn (ds.set j (enQ (leaveS ss q) zs : Int)) (w3.setCell ⟨g, j, none⟩ (.int .i64 (enQ (leaveS ss q) zs : Int)))) := OS.ofBlk (blk_store HBk3.out (by omega)) hSg (by simpa using hdl) hd1
        rw [HEV.out]
        clear hfin3 ht hb3 hrep3
        go_wp2
        refine bodyPost_ret (v := .tuple #[.int .i64 (enQ (leaveS ss q) zs : Int), .int .i64 0]) (by simp [results, Try.results43, go_sem]) rfl ⟨by rw [HEV.out, Ht.out], HO4.out, HK4.out, fun _ => ⟨HOS.out, D', HB3.out, HRep.out⟩⟩
      · have et : (etC (leaveS ss q) zs != 0) = true := by simp [ht]
        have HEV : Hid (etV (leaveS ss q) zs = 0) := if_neg ht
        have Ht := hide ht
        clear hfin3 ht
        go_wp2
        refine bodyPost_ret (v := .tuple #[.int .i64 0, .int .i64 (etC (leaveS ss q) zs)]) (by simp [results, Try.results43, go_sem]) rfl ⟨by rw [HEV.out], HO3.out, HK3.out, fun h => absurd h Ht.out⟩))

theorem l2EnterG_O (q r B T : Nat) (a b : Option Addr) (n ca cb : Nat) (ss : List (Int × List Int)) (zs : List Int) (xs : List Value) (w : World) (hq : q < w.heap.size) (hTq : T ≤ q) (hr : r < w.heap.size) (hrB : r < B ∨ T ≤ r) (hBT : B ≤ T) (hqc : w.cell? ⟨q, 0, none⟩ = some (.slice a n ca)) (hqf : w.frozen? ⟨q, 0, none⟩ = false) (hrc : w.cell? ⟨r, 0, none⟩ = some (.slice b 4 cb))
    (ho : OR (InR B T) a n ss w) (hown : w.ownsRow B 111 2 (.slice a n ca) n xs) (hvT : ∀ g, (Value.slice a n ca).ownBlock = some g → g < T) (good : Good ss) (hy : Sl w b 4 zs) (hz : fault zs = 0) :
    Calls Try.prog 73 #[.pointer (some ⟨q, 0, none⟩), .pointer (some ⟨r, 0, none⟩)] w (ER q B T ss zs w) := by
  refine (l2Enter_S q r B (InR B T) a b n ca cb ss zs xs w hq (fun e => by have := e.2; omega) hr (fun e => by have := e.1; have := e.2; omega) (by omega) (fun k hk => ⟨hk.1, by have := hk.2; omega⟩) hqc hqf hrc ho hown (fun g hg => ⟨(hown.lt g hg).1, hvT g hg⟩) good hy hz).mono ?_
  rintro e w' ⟨h1, h2, _, h4, h5⟩
  exact ⟨h1, fun h => by obtain ⟨a', ca', x, y, _⟩ := h2 h; exact ⟨a', ca', x, y⟩, h4, h5⟩

theorem fault_mix {f : Int → Int → Int} {xs ys : List Int} (hf : ∀ x y, f x y = x ∨ f x y = y) (hx : fault xs = 0) (hy : fault ys = 0) : fault (mix f xs ys) = 0 := by
  have lx := fault_len hx
  have ly := fault_len hy
  apply fault_ok
  · rw [length_mix]; exact lx
  · rw [List.all_eq_true]
    intro z hz
    obtain ⟨j, hj, rfl⟩ := List.getElem_of_mem hz
    have hj' : j < xs.length := by rw [length_mix] at hj; exact hj
    have e : (mix f xs ys)[j] = gt (mix f xs ys) j := by simp [gt, hj]
    have h1 := fault_all hx j hj'
    have h2 := fault_all hy j (by omega)
    rw [e, gt_mix f xs ys j hj']
    unfold okI
    rcases hf (gt xs j) (gt ys j) with h | h
    · rw [h]; simp; omega
    · rw [h]; simp; omega

theorem max_or (x y : Int) : max x y = x ∨ max x y = y := by
  rcases Int.le_total x y with h | h
  · exact .inr (Int.max_eq_right h)
  · exact .inl (Int.max_eq_left h)

theorem td_or (x y : Int) : td x y = x ∨ td x y = y := by
  unfold td
  split
  · rename_i h; exact .inl h.symm
  · exact max_or x y

def txQ (ds : List Int) (x : Int) : Nat := (gt ds x.toNat).toNat

def txZ (ss : List (Int × List Int)) (ds : List Int) (x : Int) (zs : List Int) : List Int := mix td (gl ss (txQ ds x)) zs

def txC (ss : List (Int × List Int)) (ts ds : List Int) (x : Int) (zs : List Int) : Int := if tabF ss ts ds = 0 then (if inC ds x = 0 then (if fault zs = 0 then (if thing0 zs = true then etC (leaveS ss (txQ ds x)) (txZ ss ds x zs) else 1) else fault zs) else inC ds x) else tabF ss ts ds

def txV (ss : List (Int × List Int)) (ts ds : List Int) (x : Int) (zs : List Int) : Int := if txC ss ts ds x zs = 0 then (enQ (leaveS ss (txQ ds x)) (txZ ss ds x zs) : Int) else 0

def txS (ss : List (Int × List Int)) (ts ds : List Int) (x : Int) (zs : List Int) : List (Int × List Int) := if txC ss ts ds x zs = 0 then enS (leaveS ss (txQ ds x)) (txZ ss ds x zs) else []

def txT (ss : List (Int × List Int)) (ts ds : List Int) (x : Int) (zs : List Int) : List Int := if txC ss ts ds x zs = 0 then ts else []

def txD (ss : List (Int × List Int)) (ts ds : List Int) (x : Int) (zs : List Int) : List Int := if txC ss ts ds x zs = 0 then ds.set x.toNat (enQ (leaveS ss (txQ ds x)) (txZ ss ds x zs) : Int) else []

theorem inC_zero {l : List Int} {i : Int} (h : inC l i = 0) : 0 ≤ i ∧ i < (l.length : Int) := by
  unfold inC at h
  split at h
  · assumption
  · cases h

set_option maxRecDepth 100000 in
set_option maxHeartbeats 4000000 in
theorem implTaintDomain_calls (a : Option Addr) (n c : Nat) (ss : List (Int × List Int)) (ta : Option Addr) (tn tc : Nat) (ts : List Int) (da : Option Addr) (dn dc : Nat) (ds : List Int) (x : Int) (b : Option Addr) (lb cb : Nat) (zs : List Int) (w : World) (hrt : RT w a n ss ta tn ts da dn ds) (hlb : lb ≤ maxLen) (hy : Sl w b lb zs) :
    Calls Try.prog 10 #[.agg #[.slice a n c, .slice ta tn tc, .slice da dn dc], .int .i64 x, .agg #[.slice b lb cb]] w fun e w' => ∃ ra rn rc xa xn xc ya yn yc, e = .returned (.agg #[.int .i64 (txC ss ts ds x zs), .int .i64 (txV ss ts ds x zs), .slice ra rn rc, .slice xa xn xc, .slice ya yn yc]) ∧
      OT (InR w.heap.size w'.heap.size) ra rn (txS ss ts ds x zs) xa xn (txT ss ts ds x zs) ya yn (txD ss ts ds x zs) w' ∧ Below w.heap.size w w' := by
  have M0 := (((Mm.start w).alloc3 (.slice a n c) (.slice ta tn tc) (.slice da dn dc) 36).alloc1 (.slice b lb cb) 41).alloc5 (.int .i64 0) (.int .i64 0) (.slice none 0 0) (.slice none 0 0) (.slice none 0 0) 38
  simp only [World.size_alloc] at M0
  have hrt0 := hrt.below M0.bel (Nat.le_refl _)
  have hy0 := hy.below M0.bel (Nat.le_refl _)
  go_enter Try.func10, Try.ntmps10
  go_wp2_with fail
  refine (openTables_R a n c ss ta tn tc ts da dn dc ds _ hrt0).mono ?_
  rintro e w1 ⟨sz, mo, xa, xn, xc, ya, yn, yc, rfl, g1, hled⟩
  have M1a := M0.below g1
  have zR := M1a.lt 0 rfl
  have M1 := (M0.below g1).alloc4 (.int .i64 sz) (.map mo) (.slice xa xn xc) (.slice ya yn yc) 80
  have z1 := g1.size
  simp only [World.size_alloc] at z1
  by_cases hf : tabF ss ts ds = 0
  rotate_left
  · have HC : Hid (txC ss ts ds x zs = tabF ss ts ds) := if_neg hf
    have e2 : (tabF ss ts ds != 0) = true := by simpa using hf
    have hf' : txC ss ts ds x zs ≠ 0 := by rw [HC.out]; exact hf
    have HV : Hid (txV ss ts ds x zs = 0) := if_neg hf'
    have HS : Hid (txS ss ts ds x zs = []) := if_neg hf'
    have HT : Hid (txT ss ts ds x zs = []) := if_neg hf'
    have HD : Hid (txD ss ts ds x zs = []) := if_neg hf'
    have c0 := M1a.cell 0 rfl
    have c1 := M1a.cell 1 rfl
    have c2 := M1a.cell 2 rfl
    have c3 := M1a.cell 3 rfl
    have c4 := M1a.cell 4 rfl
    have f0 := M1a.fz 0 rfl
    have f1 := M1a.fz 1 rfl
    have f2 := M1a.fz 2 rfl
    have f3 := M1a.fz 3 rfl
    have f4 := M1a.fz 4 rfl
    have HB := hide M1a.bel
    clear hf hf' M0 M1 M1a g1 hrt0 hy0 hled
    go_wp2
    refine bodyPost_ret (v := .agg #[.int .i64 (tabF ss ts ds), .int .i64 0, .slice none 0 0, .slice none 0 0, .slice none 0 0]) (by simp [results, Try.results10, go_sem, c0, c1, c2, c3, c4, zR]) rfl ⟨_, _, _, _, _, _, _, _, _, by rw [HC.out, HV.out], ?_, (below_set5 HB.out (by omega) _ _ _ _ _).alloc (by simp; omega) _⟩
    rw [HS.out, HT.out, HD.out]
    exact OT.nil _ _ _ _ _
  have HC1 : Hid (txC ss ts ds x zs = if inC ds x = 0 then (if fault zs = 0 then (if thing0 zs = true then etC (leaveS ss (txQ ds x)) (txZ ss ds x zs) else 1) else fault zs) else inC ds x) := if_pos hf
  obtain ⟨rfl, _, M, X1, X2, X3, rfl, l1, l2, l3, l4, l5, own, ox, oy⟩ := hled hf
  simp only [World.size_alloc] at l1
  obtain ⟨hr, hmy, hA1, hA2, _⟩ := tabF_zero hf
  have hml := many_len hmy
  have good := good_of hr
  have few := good.few
  have hyn1 : ds.length ≤ yn := Nat.le_of_eq oy.1.1
  have hyn2 : yn ≤ ds.length := Nat.le_of_eq oy.1.1.symm
  have al := (Below.refl w1.heap.size w1).alloc (Nat.le_refl _) (.cells #[.int .i64 (ss.length : Int), .map (some M), .slice xa xn xc, .slice ya yn yc] 80)
  have hbk : Bk (w1.alloc (.cells #[.int .i64 (ss.length : Int), .map (some M), .slice xa xn xc, .slice ya yn yc] 80)) w1.heap.size M (ss.length : Int) ss.length (bk ss ss.length) := ⟨by simp, by simp, by simp, fun j => by simp, ownsMap_below own al (Nat.le_refl _)⟩
  have hM1 := own.lt
  have ox1 := OS.loc.below al ox.1
  have oy1 := OS.loc.below al oy.1
  have hy1 := (hy0.below g1 (Nat.le_refl _)).below al (Nat.le_refl _)
  have p3 := M1.cell 3 rfl
  rw [hf]
  clear M0 M1a g1 hrt0 hy0 hled own ox oy al hf zR
  go_wp2_with fail
  refine (domainLabel_calls w1.heap.size M ss.length ss _ ya yn yc ds x _ hbk good (rep_bk hr) p3 oy1.sl (by omega) hA2).mono ?_
  rintro e w2 ⟨ra, rn, rc, rfl, o2, g2⟩
  have M2a := M1.below g2
  have zR := M2a.lt 4 rfl
  have z2 := g2.size
  simp only [World.size_alloc] at z2 o2
  by_cases hi : inC ds x = 0
  rotate_left
  · have HC : Hid (txC ss ts ds x zs = inC ds x) := by show _ = _; rw [HC1.out, if_neg hi]
    have e2 : (inC ds x != 0) = true := by simpa using hi
    have hf' : txC ss ts ds x zs ≠ 0 := by rw [HC.out]; exact hi
    have HV : Hid (txV ss ts ds x zs = 0) := if_neg hf'
    have HS : Hid (txS ss ts ds x zs = []) := if_neg hf'
    have HT : Hid (txT ss ts ds x zs = []) := if_neg hf'
    have HD : Hid (txD ss ts ds x zs = []) := if_neg hf'
    have c0 := M2a.cell 4 rfl
    have c1 := M2a.cell 5 rfl
    have c2 := M2a.cell 6 rfl
    have c3 := M2a.cell 7 rfl
    have c4 := M2a.cell 8 rfl
    have f0 := M2a.fz 4 rfl
    have f1 := M2a.fz 5 rfl
    have f2 := M2a.fz 6 rfl
    have f3 := M2a.fz 7 rfl
    have f4 := M2a.fz 8 rfl
    have HB := hide M2a.bel
    clear hi hf' M1 M2a g2 o2 hbk ox1 oy1 hy1 p3 HC1 hr
    go_wp2
    refine bodyPost_ret (v := .agg #[.int .i64 (inC ds x), .int .i64 0, .slice none 0 0, .slice none 0 0, .slice none 0 0]) (by simp [results, Try.results10, go_sem, c0, c1, c2, c3, c4, zR]) rfl ⟨_, _, _, _, _, _, _, _, _, by rw [HC.out, HV.out], ?_, (below_set5 HB.out (by omega) _ _ _ _ _).alloc (by simp; omega) _⟩
    rw [HS.out, HT.out, HD.out]
    exact OT.nil _ _ _ _ _
  have hin := inC_zero hi
  obtain ⟨j, rfl⟩ : ∃ j : Nat, x = (j : Int) := ⟨x.toNat, by omega⟩
  have hjl : j < ds.length := by omega
  have hat := atC_all hA2 hjl
  obtain ⟨q, hq, hql, hqp, hqL, _⟩ := atC_zero good hat
  have hQ : txQ ds (j : Int) = q := by unfold txQ; rw [Int.toNat_natCast, hq, Int.toNat_natCast]
  have HQ := hide hQ
  have HZ : Hid (txZ ss ds (j : Int) zs = mix td (gl ss q) zs) := by show _ = _; unfold txZ; rw [hQ]
  rw [inL_yes hjl, hqL] at o2
  have fo := good.right q hql hqp
  obtain rfl : rn = 4 := by have := o2.1; have := fault_len fo; omega
  have Hq := hide hq
  rw [hq] at hat
  have Hat := hide hat
  have Hr := hide hr
  have HC2 : Hid (txC ss ts ds (j : Int) zs = if fault zs = 0 then (if thing0 zs = true then etC (leaveS ss q) (mix td (gl ss q) zs) else 1) else fault zs) := by show _ = _; rw [HC1.out, if_pos hi, HZ.out, hQ]
  rw [hi]
  have M2 := M2a.alloc2 (.int .i64 0) (.slice ra 4 rc) 55
  have al2 := (Below.refl w2.heap.size w2).alloc (Nat.le_refl _) (.cells #[.int .i64 0, .slice ra 4 rc] 55)
  have hb2 := (hbk.below g2).below al2
  have ox2 := OS.loc.below al2 (OS.loc.below g2 ox1)
  have oy2 := OS.loc.below al2 (OS.loc.below g2 oy1)
  have ow2 := OS.loc.below al2 o2
  have hy2 := (hy1.below g2 (Nat.le_refl _)).below al2 (Nat.le_refl _)
  have lc2 := M2.cell 11 rfl
  clear M1 M2a g2 o2 hbk ox1 oy1 hy1 p3 HC1 hr hq hat hQ hqL al2 zR
  go_wp2_with fail
  refine (implLabelFault_calls b lb cb zs _ hlb hy2).mono ?_
  rintro e w3 ⟨rfl, g3⟩
  have M3 := M2.below g3
  have z3 := g3.size
  simp only [World.size_alloc] at z3
  by_cases hz : fault zs = 0
  rotate_left
  · have HC : Hid (txC ss ts ds (j : Int) zs = fault zs) := by show _ = _; rw [HC2.out, if_neg hz]
    have e2 : (fault zs != 0) = true := by simpa using hz
    have hf' : txC ss ts ds (j : Int) zs ≠ 0 := by rw [HC.out]; exact hz
    have HV : Hid (txV ss ts ds (j : Int) zs = 0) := if_neg hf'
    have HS : Hid (txS ss ts ds (j : Int) zs = []) := if_neg hf'
    have HT : Hid (txT ss ts ds (j : Int) zs = []) := if_neg hf'
    have HD : Hid (txD ss ts ds (j : Int) zs = []) := if_neg hf'
    have c0 := M3.cell 6 rfl
    have c1 := M3.cell 7 rfl
    have c2 := M3.cell 8 rfl
    have c3 := M3.cell 9 rfl
    have c4 := M3.cell 10 rfl
    have f0 := M3.fz 6 rfl
    have f1 := M3.fz 7 rfl
    have f2 := M3.fz 8 rfl
    have f3 := M3.fz 9 rfl
    have f4 := M3.fz 10 rfl
    have HB := hide M3.bel
    clear hi hz hf' M2 M3 g3 hb2 ox2 oy2 ow2 hy2 lc2 HC2
    go_wp2
    refine bodyPost_ret (v := .agg #[.int .i64 (fault zs), .int .i64 0, .slice none 0 0, .slice none 0 0, .slice none 0 0]) (by simp [results, Try.results10, go_sem, c0, c1, c2, c3, c4]) rfl ⟨_, _, _, _, _, _, _, _, _, by rw [HC.out, HV.out], ?_, below_set5 HB.out (by omega) _ _ _ _ _⟩
    rw [HS.out, HT.out, HD.out]
    exact OT.nil _ _ _ _ _
  obtain rfl : lb = 4 := by have := fault_len hz; have := hy.1; omega
  rw [hz]
  have M4 := M3.alloc1 (.slice b 4 cb) 41
  have al4 := (Below.refl w3.heap.size w3).alloc (Nat.le_refl _) (.cells #[.slice b 4 cb] 41)
  have hb4 := (hb2.below g3).below al4
  have ox4 := OS.loc.below al4 (OS.loc.below g3 ox2)
  have oy4 := OS.loc.below al4 (OS.loc.below g3 oy2)
  have ow4 := OS.loc.below al4 (OS.loc.below g3 ow2)
  have hy4 := (hy2.below g3 (Nat.le_refl _)).below al4 (Nat.le_refl _)
  have lc3 := M3.cell 11 rfl
  have lc4 := M4.cell 0 rfl
  clear M2 M3 g3 hb2 ox2 oy2 ow2 hy2 lc2 al4
  go_wp2_with fail
  refine (areThings_calls (some ⟨w3.heap.size, 0, none⟩) 1 1 [zs] _ (by omega) (lbs_one lc4 hlb hy4)).mono ?_
  rintro e w4 ⟨rfl, g4⟩
  rw [things_one hz]
  have M5 := M4.below g4
  have z4 := g4.size
  simp only [World.size_alloc] at z4
  by_cases ht : thing0 zs = true
  rotate_left
  · have htf : thing0 zs = false := by simpa using ht
    have HC : Hid (txC ss ts ds (j : Int) zs = 1) := by show _ = _; rw [HC2.out, if_pos hz, if_neg ht]
    rw [htf]
    have hf' : txC ss ts ds (j : Int) zs ≠ 0 := by rw [HC.out]; decide
    have HV : Hid (txV ss ts ds (j : Int) zs = 0) := if_neg hf'
    have HS : Hid (txS ss ts ds (j : Int) zs = []) := if_neg hf'
    have HT : Hid (txT ss ts ds (j : Int) zs = []) := if_neg hf'
    have HD : Hid (txD ss ts ds (j : Int) zs = []) := if_neg hf'
    have c0 := M5.cell 7 rfl
    have c1 := M5.cell 8 rfl
    have c2 := M5.cell 9 rfl
    have c3 := M5.cell 10 rfl
    have c4 := M5.cell 11 rfl
    have f0 := M5.fz 7 rfl
    have f1 := M5.fz 8 rfl
    have f2 := M5.fz 9 rfl
    have f3 := M5.fz 10 rfl
    have f4 := M5.fz 11 rfl
    have HB := hide M5.bel
    clear hi hz ht htf hf' M4 M5 g4 hb4 ox4 oy4 ow4 hy4 lc3 lc4 HC2
    go_wp2
    refine bodyPost_ret (v := .agg #[.int .i64 1, .int .i64 0, .slice none 0 0, .slice none 0 0, .slice none 0 0]) (by simp [results, Try.results10, go_sem, c0, c1, c2, c3, c4]) rfl ⟨_, _, _, _, _, _, _, _, _, by rw [HC.out, HV.out], ?_, below_set5 HB.out (by omega) _ _ _ _ _⟩
    rw [HS.out, HT.out, HD.out]
    exact OT.nil _ _ _ _ _
  have HC : Hid (txC ss ts ds (j : Int) zs = etC (leaveS ss q) (mix td (gl ss q) zs)) := by show _ = _; rw [HC2.out, if_pos hz, if_pos ht]
  rw [ht]
  have hb5 := hb4.below g4
  have ox5 := OS.loc.below g4 ox4
  have oy5 := OS.loc.below g4 oy4
  have ow5 := OS.loc.below g4 ow4
  have hy5 := hy4.below g4 (Nat.le_refl _)
  have wc5 := M5.cell 2 rfl
  have lc5 := M5.cell 12 rfl
  have hmz : fault (mix td (gl ss q) zs) = 0 := fault_mix td_or fo hz
  clear M4 g4 hb4 ox4 oy4 ow4 hy4 lc3 lc4 HC2 hi ht
  go_wp2_with fail
  refine (taintedBy_calls ra b rc cb (gl ss q) zs _ ow5.sl hy5 fo hz).mono ?_
  rintro e w5 ⟨bb, rfl, ⟨hbl, blk⟩, g5⟩
  have M6 := M5.below g5
  have z5 := g5.size
  have hb6 := hb5.below g5
  have ox6 := OS.loc.below g5 ox5
  have oy6 := OS.loc.below g5 oy5
  have p2 := M6.cell 5 rfl
  have p3 := M6.cell 6 rfl
  clear M5 g5 hb5 ox5 oy5 ow5 hy5 wc5 lc5
  go_wp2_with fail
  refine (relabelDomain_calls w1.heap.size M ss.length j q ss (mix td (gl ss q) zs) _ (InR X2 X3) ya yn yc ds bb 4 _ hb6 (by omega) good (rep_bk Hr.out) hmz p3 oy6 (fun e => by have := e.1; omega) (fun e => by have := e.2; omega) (by omega) blk (by omega) Hq.out hql hqp Hat.out).mono ?_
  rintro e w6 ⟨rfl, u6, k6, hfin⟩
  have z6 := u6.size
  have q2 := ((k6 2).1 (by omega)).trans p2
  have q3 := ((k6 3).1 (by omega)).trans p3
  have M7 : Mm w w6 [(w.heap.size + 1 + 1, 0, .int .i64 0), (w.heap.size + 1 + 1, 1, .int .i64 0), (w.heap.size + 1 + 1, 2, .slice none 0 0), (w.heap.size + 1 + 1, 3, .slice none 0 0), (w.heap.size + 1 + 1, 4, .slice none 0 0)] [] :=
    (M6.sub (fun _ h => by simp only [List.mem_cons, List.not_mem_nil, or_false] at h ⊢; rcases h with h | h | h | h | h <;> simp [h]) (fun _ h => by cases h)).out (B := M) (T := w1.heap.size + 1) (u6.mono (fun k hk => by rcases hk with (hk | hk) | hk; exact ⟨by omega, by omega⟩; exact ⟨by omega, by omega⟩; exact ⟨by have := hk.1; omega, by have := hk.2; omega⟩)) (by omega) (by simp <;> omega) (by simp)
  have ox7 := OS.loc.out u6 (fun k h h' => by have := h.1; have := h.2; rcases h' with (h' | h') | h'; omega; omega; have := h'.1; omega) ox6
  clear M6 u6 k6 hb6 ox6 oy6 p2 p3 blk
  by_cases het : etC (leaveS ss q) (mix td (gl ss q) zs) = 0
  rotate_left
  · have e2 : (etC (leaveS ss q) (mix td (gl ss q) zs) != 0) = true := by simpa using het
    have HEV : Hid (etV (leaveS ss q) (mix td (gl ss q) zs) = 0) := if_neg het
    rw [HEV.out]
    have hf' : txC ss ts ds (j : Int) zs ≠ 0 := by rw [HC.out]; exact het
    have HV : Hid (txV ss ts ds (j : Int) zs = 0) := if_neg hf'
    have HS : Hid (txS ss ts ds (j : Int) zs = []) := if_neg hf'
    have HT : Hid (txT ss ts ds (j : Int) zs = []) := if_neg hf'
    have HD : Hid (txD ss ts ds (j : Int) zs = []) := if_neg hf'
    have c0 := M7.cell 0 rfl
    have c1 := M7.cell 1 rfl
    have c2 := M7.cell 2 rfl
    have c3 := M7.cell 3 rfl
    have c4 := M7.cell 4 rfl
    have f0 := M7.fz 0 rfl
    have f1 := M7.fz 1 rfl
    have f2 := M7.fz 2 rfl
    have f3 := M7.fz 3 rfl
    have f4 := M7.fz 4 rfl
    have HB := hide M7.bel
    clear het hf' M7 ox7 hfin q2 q3
    go_wp2
    refine bodyPost_ret (v := .agg #[.int .i64 (etC (leaveS ss q) (mix td (gl ss q) zs)), .int .i64 0, .slice none 0 0, .slice none 0 0, .slice none 0 0]) (by simp [results, Try.results10, go_sem, c0, c1, c2, c3, c4]) rfl ⟨_, _, _, _, _, _, _, _, _, by rw [HC.out, HV.out], ?_, below_set5 HB.out (by omega) _ _ _ _ _⟩
    rw [HS.out, HT.out, HD.out]
    exact OT.nil _ _ _ _ _
  have HC0 : Hid (txC ss ts ds (j : Int) zs = 0) := HC.out.trans het
  have HV : Hid (txV ss ts ds (j : Int) zs = (enQ (leaveS ss q) (mix td (gl ss q) zs) : Int)) := (if_pos HC0.out).trans (by rw [HZ.out, HQ.out])
  have HS : Hid (txS ss ts ds (j : Int) zs = enS (leaveS ss q) (mix td (gl ss q) zs)) := (if_pos HC0.out).trans (by rw [HZ.out, HQ.out])
  have HT : Hid (txT ss ts ds (j : Int) zs = ts) := if_pos HC0.out
  have HD : Hid (txD ss ts ds (j : Int) zs = ds.set j (enQ (leaveS ss q) (mix td (gl ss q) zs) : Int)) := (if_pos HC0.out).trans (by rw [HZ.out, HQ.out, Int.toNat_natCast])
  obtain ⟨oy7, D3, hb7, hrep⟩ := hfin het
  have gl3 := good_enter (good_leave good hql hqp) hmz het
  have HEV : Hid (etV (leaveS ss q) (mix td (gl ss q) zs) = (enQ (leaveS ss q) (mix td (gl ss q) zs) : Int)) := if_pos het
  rw [HEV.out, het]
  generalize hEq : enQ (leaveS ss q) (mix td (gl ss q) zs) = eq at HV HD oy7 ⊢
  generalize hEs : enS (leaveS ss q) (mix td (gl ss q) zs) = es at HS gl3 hb7 hrep ⊢
  clear HEV het hfin HC hEq hEs hmz
  go_wp2_with fail
  refine (tables_calls w1.heap.size M _ es D3 xa xn xc ya yn yc _ hb7 gl3 hrep q2 q3).mono ?_
  rintro e w7 ⟨b7, rfl, o7, g7⟩
  have M8 := M7.below g7
  have z7 := g7.size
  have ox8 := OS.loc.below g7 ox7
  have oy8 := OS.loc.below g7 oy7
  have c0 := M8.cell 0 rfl
  have c1 := M8.cell 1 rfl
  have c2 := M8.cell 2 rfl
  have c3 := M8.cell 3 rfl
  have c4 := M8.cell 4 rfl
  have f0 := M8.fz 0 rfl
  have f1 := M8.fz 1 rfl
  have f2 := M8.fz 2 rfl
  have f3 := M8.fz 3 rfl
  have f4 := M8.fz 4 rfl
  have HB := hide M8.bel
  have HO : Hid (∀ v0 v1 v2 v3 v4, OT (InR w.heap.size w7.heap.size) (some ⟨b7, 0, none⟩) es.length es xa xn ts ya yn (ds.set j (eq : Int)) (((((w7.setCell ⟨w.heap.size + 1 + 1, 0, none⟩ v0).setCell ⟨w.heap.size + 1 + 1, 1, none⟩ v1).setCell ⟨w.heap.size + 1 + 1, 2, none⟩ v2).setCell ⟨w.heap.size + 1 + 1, 3, none⟩ v3).setCell ⟨w.heap.size + 1 + 1, 4, none⟩ v4)) := fun v0 v1 v2 v3 v4 =>
    OT.ofS (loc_set5 OR.loc o7 (fun e => by have := e.1; omega) v0 v1 v2 v3 v4) (loc_set5 OS.loc ox8 (fun e => by have := e.1; omega) v0 v1 v2 v3 v4) (loc_set5 OS.loc oy8 (fun e => by have := e.1; omega) v0 v1 v2 v3 v4)
      (fun k h => ⟨by have := h.1; omega, by have := h.2; omega⟩) (fun k h => ⟨by have := h.1; omega, by have := h.2; omega⟩) (fun k h => ⟨by have := h.1; omega, by have := h.2; omega⟩)
      (fun k h h' => by have := h.1; have := h'.2; omega) (fun k h h' => by have := h.1; have := h'.2; omega) (fun k h h' => by have := h.2; have := h'.1; omega)
  clear M7 M8 g7 o7 ox7 oy7 ox8 oy8 hb7 hrep q2 q3
  go_wp2
  refine bodyPost_ret (v := .agg #[.int .i64 0, .int .i64 (eq : Int), .slice (some ⟨b7, 0, none⟩) es.length es.length, .slice xa xn xc, .slice ya yn yc]) (by simp [results, Try.results10, go_sem, c0, c1, c2, c3, c4]) rfl ⟨_, _, _, _, _, _, _, _, _, by rw [HC0.out, HV.out], ?_, below_set5 HB.out (by omega) _ _ _ _ _⟩
  rw [HS.out, HT.out, HD.out]
  simpa using HO.out _ _ _ _ _

/-- what 'l3Taint' answers. -/
def TT (q B1 B2 B3 B4 : Nat) (ss : List (Int × List Int)) (p : Nat) (zs : List Int) (ya : Option Addr) (dn j : Nat) (ds : List Int) (w : World) (e : Ending) (w' : World) : Prop :=
  e = .returned (.bool (etC (leaveS ss p) zs == 0)) ∧ OutS (fun k => (InR B1 B2 k ∨ k = q) ∨ InR B3 B4 k) w w' ∧ KQ q w w' ∧
    (etC (leaveS ss p) zs = 0 → (∃ a' ca', w'.cell? ⟨q, 0, none⟩ = some (.slice a' (enS (leaveS ss p) zs).length ca') ∧ OR (fun k => InR B1 B2 k ∨ InR w.heap.size w'.heap.size k) a' (enS (leaveS ss p) zs).length (enS (leaveS ss p) zs) w') ∧ OS (InR B3 B4) ya dn (ds.set j (enQ (leaveS ss p) zs : Int)) w')

set_option maxRecDepth 100000 in
set_option maxHeartbeats 4000000 in
theorem l3Taint_calls (q r B1 B2 B3 B4 j p : Nat) (a : Option Addr) (n rc : Nat) (ss : List (Int × List Int)) (ya : Option Addr) (dn yc : Nat) (ds : List Int) (b : Option Addr) (cb : Nat) (zs : List Int) (w : World) (hq : q < w.heap.size) (c0 : w.cell? ⟨q, 0, none⟩ = some (.slice a n rc)) (c2 : w.cell? ⟨q, 2, none⟩ = some (.slice ya dn yc)) (f0 : w.frozen? ⟨q, 0, none⟩ = false) (hg : RG B1 B2 a n rc ss w) (ho : OS (InR B3 B4) ya dn ds w) (b12 : B1 ≤ B2) (b23 : B2 ≤ B3) (b34 : B3 ≤ B4) (b4q : B4 ≤ q) (hr : r < B1) (hrc : w.cell? ⟨r, 0, none⟩ = some (.slice b 4 cb)) (hy : Sl w b 4 zs) (good : Good ss) (hz : fault zs = 0) (hj : j < dn) (hdn : dn ≤ 10) (hp : gt ds j = (p : Int)) (hpl : p < ss.length) (hpp : 0 < gc ss p) (hpL : atL ss (p : Int) = gl ss p) (hA2 : allS ss ds = true) :
    Calls Try.prog 36 #[.pointer (some ⟨q, 0, none⟩), .int .i64 (j : Int), .pointer (some ⟨r, 0, none⟩)] w (TT q B1 B2 B3 B4 ss p (mix td (gl ss p) zs) ya dn j ds w) := by
  have fo := good.right p hpl hpp
  have hmz : fault (mix td (gl ss p) zs) = 0 := fault_mix td_or fo hz
  have gl2 := good_leave good hpl hpp
  have hsum2 := good_sum gl2
  rw [length_leaveS] at hsum2
  have hlen := hg.1.1
  have h9 := good.top p hpl
  go_enter Try.func36, Try.ntmps36
  go_wp2_with fail
  refine (l3Domain_calls q a n rc ss ya dn yc ds j _ good hdn c0 c2 hg.1.sls ho.sl hA2 hj).mono ?_
  rintro e w1 ⟨lb, lo, la, ll, lcap, rfl, hlb, lcell, _, lsl, g1⟩
  rw [hp, hpL] at lsl
  obtain rfl : ll = 4 := by have := lsl.1; have := fault_len fo; omega
  have z1 := g1.size
  have lc1 := (g1.cell (p := ⟨lb, lo, none⟩) hlb).trans lcell
  have rc1 := (g1.cell (p := ⟨r, 0, none⟩) (by show r < _; omega)).trans hrc
  have ls1 := lsl.below g1 (Nat.le_refl _)
  have hy1 := hy.below g1 (Nat.le_refl _)
  go_wp2_with fail
  refine (l3Tainted_calls lb lo r la b lcap cb (gl ss p) zs _ (by omega) (by omega) lc1 rc1 ls1 hy1).mono ?_
  rintro e w2 ⟨na, nc, rfl, on, g2⟩
  have z2 := g2.size
  have al := (Below.refl w2.heap.size w2).alloc (Nat.le_refl _) (.cells #[.slice na 4 nc] 41)
  have g3 : Below w.heap.size w (w2.alloc (.cells #[.slice na 4 nc] 41)) := (g1.trans (g2.mono z1)).trans (al.mono (by omega))
  have hg3 := RG.loc.below g3 hg
  have ho3 := OS.loc.below g3 ho
  have on3 := OS.loc.below al on
  have c03 := (g3.cell (p := ⟨q, 0, none⟩) hq).trans c0
  have c23 := (g3.cell (p := ⟨q, 2, none⟩) hq).trans c2
  have f03 := (g3.frozen (p := ⟨q, 0, none⟩) hq).trans f0
  have r2c : (w2.alloc (.cells #[.slice na 4 nc] 41)).cell? ⟨w2.heap.size, 0, none⟩ = some (.slice na 4 nc) := by simp
  obtain ⟨hdl, hd1, h0 | ⟨g, rfl, hSg, blk⟩⟩ := ho3
  · omega
  have cj := blk.2.1 j (by omega)
  rw [hp] at cj
  have i0 : (0 : Int) ≤ (j : Int) := by omega
  have i1 : (j : Int) < (dn : Int) := by omega
  have HG3 := hide g3
  have HR3 := hide hg3
  have HB3 := hide blk
  have HN3 := hide on3
  have hnz : (w2.alloc (.cells #[.slice na 4 nc] 41)).heap.size = w2.heap.size + 1 := by simp
  have HNZ := hide hnz
  have gq : g ≠ q := by have := hSg.2; omega
  have gB : ¬ InR B1 B2 g := fun e => by have := e.2; have := hSg.1; omega
  have qB : ¬ InR B1 B2 q := fun e => by have := e.2; omega
  clear g1 g2 al g3 hg ho hg3 on on3 blk lsl ls1 hy1 hy lc1 rc1 lcell hnz
  go_wp2_with fail
  generalize hWe : (w2.alloc (.cells #[.slice na 4 nc] 41)) = W at c03 c23 f03 r2c cj HG3 HR3 HB3 HN3 HNZ ⊢
  clear hWe
  go_region_with (first
    | (go_at_call 72; refine (l2Leave_R q B1 (InR B1 B2) (a) n rc ss p _ (by exact c03) (by exact HR3.out.1) (by exact HR3.out.2.1) qB (by omega) (by omega) h9 (by omega)).mono ?_; rintro e w3 ⟨rfl, o4, row4, u4⟩))
  all_goals (
    have v4 : OutS (InR B1 B2) W w3 := (OutS.of_below (Below.refl _ _).drew).trans u4
    have z4 := v4.size
    have kz := HNZ.out
    have hqb := v4.block q (by omega) qB
    have c04 := (World.cell?_of_block (a := ⟨q, 0, none⟩) hqb).trans c03
    have c24 := (World.cell?_of_block (a := ⟨q, 2, none⟩) hqb).trans c23
    have f04 := (World.frozen?_of_block (a := ⟨q, 0, none⟩) hqb).trans f03
    have r24 := (World.cell?_of_block (a := ⟨w2.heap.size, 0, none⟩) (v4.block w2.heap.size (by omega) (fun e => by have := e.2; omega))).trans r2c
    have on4 := OS.loc.out v4 (fun k h h' => by have := h.1; have := h'.2; omega) HN3.out
    have blk4 : Blk w3 g ds := (Blk.loc (S := fun k => k = g) rfl) _ _ (fun k hk hl => v4.block k hl (fun e => gB (hk ▸ e))) HB3.out
    obtain ⟨xs, hxs⟩ := row4
    have HBk4 := hide blk4
    have HK4 : Hid (KQ q w w3) := (KQ.of_block (HG3.out.block q hq)).trans (KQ.of_block hqb)
    have HO4 : Hid (OutS (fun k => (InR B1 B2 k ∨ k = q) ∨ InR B3 B4 k) w w3) := (OutS.of_below HG3.out).trans (v4.mono (fun k h => .inl (.inl h)))
    have hvT := HR3.out.2.2
    have HN4 := hide on4.sl
    clear u4 v4 hqb HB3 HN3 HR3 HG3 blk4 on4 c03 c23 f03 r2c cj
    go_wp2_with fail
    refine (l2EnterG_O q w2.heap.size B1 B2 a na n rc nc (leaveS ss p) (mix td (gl ss p) zs) xs _ (by omega) (by omega) (by omega) (.inr (by omega)) b12 c04 f04 r24 o4 hxs (fun g hg => (hvT g hg).2) gl2 HN4.out hmz).mono ?_
    rintro e w4 ⟨rfl, hfin, u5, k5⟩
    have z5 := u5.size
    have blk5 : Blk w4 g ds := (Blk.loc (S := fun k => k = g) rfl) _ _ (fun k hk hl => u5.block k hl (fun e => by rcases e with e | e; exact gB (hk ▸ e); exact gq (hk.symm.trans e))) HBk4.out
    have c25 := ((k5 2).1 (by omega)).trans c24
    have HK5 := hide (HK4.out.trans k5)
    have HO5 : Hid (OutS (fun k => (InR B1 B2 k ∨ k = q) ∨ InR B3 B4 k) w w4) := HO4.out.trans (u5.mono (fun k h => .inl h))
    have cj5 := blk5.2.1 j (by omega)
    have fj5 := blk5.2.2 j
    have HBk5 := hide blk5
    clear u5 k5 blk5 o4 hxs HK4 HO4 HBk4 c04 c24 f04 r24 HN4
    by_cases het : etC (leaveS ss p) (mix td (gl ss p) zs) = 0
    · obtain ⟨a', ca', q0, o5⟩ := hfin het
      rw [if_pos het]
      have en : decide ((enQ (leaveS ss p) (mix td (gl ss p) zs) : Int) < 0) = false := by simp
      have HQ0 : Hid ((w4.setCell ⟨g, j, none⟩ (.int .i64 (enQ (leaveS ss p) (mix td (gl ss p) zs) : Int))).cell? ⟨q, 0, none⟩ = some (.slice a' (enS (leaveS ss p) (mix td (gl ss p) zs)).length ca')) := (World.cell?_setCell_other _ _ _ _ (fun e => by injection e with e1 _; exact gq e1)).trans q0
      have HOR := hide ((OR.loc.setC o5 (q := ⟨g, j, none⟩) (fun e => by simp only at e; rcases e with e | e; exact gB e; have := e.1; have := hSg.2; omega) (.int .i64 (enQ (leaveS ss p) (mix td (gl ss p) zs) : Int))).mono (S' := fun k => InR B1 B2 k ∨ InR w.heap.size w4.heap.size k) (fun k h => h.imp id (fun h => ⟨by have := h.1; omega, h.2⟩)))
      have HOS : Hid (OS (InR B3 B4) (some ⟨g, 0, none⟩) dn (ds.set j (enQ (leaveS ss p) (mix td (gl ss p) zs) : Int)) (w4.setCell ⟨g, j, none⟩ (.int .i64 (enQ (leaveS ss p) (mix td (gl ss p) zs) : Int)))) := OS.ofBlk (blk_store HBk5.out (by omega)) hSg (by simpa using hdl) hd1
      have HO6 := hide (HO5.out.setCell (p := ⟨g, j, none⟩) (.inr hSg) (.int .i64 (enQ (leaveS ss p) (mix td (gl ss p) zs) : Int)))
      have HK6 := hide (HK5.out.setN (i := j) gq.symm (.int .i64 (enQ (leaveS ss p) (mix td (gl ss p) zs) : Int)))
      have HE : Hid ((etC (leaveS ss p) (mix td (gl ss p) zs) == 0) = true) := by show _ = _; simp [het]
      clear hfin het q0 o5
      go_wp2
      go_ret
      exact ⟨by rw [HE.out]; rfl, HO6.out, HK6.out, fun _ => ⟨⟨a', ca', HQ0.out, by simpa using HOR.out⟩, HOS.out⟩⟩
    · rw [if_neg het]
      have HE : Hid ((etC (leaveS ss p) (mix td (gl ss p) zs) == 0) = false) := by show _ = _; simp [het]
      have Ht := hide het
      clear hfin het
      go_wp2
      go_ret
      exact ⟨by rw [HE.out]; rfl, HO5.out, HK5.out, fun h => absurd h Ht.out⟩)

theorem OT.cast {B T T' : Nat} {a : Option Addr} {n : Nat} {ss : List (Int × List Int)} {ta : Option Addr} {tn : Nat} {ts : List Int} {da : Option Addr} {dn : Nat} {ds : List Int} {w : World} (h : OT (InR B T) a n ss ta tn ts da dn ds w) (e : T = T') : OT (InR B T') a n ss ta tn ts da dn ds w := e ▸ h

set_option maxRecDepth 100000 in
set_option maxHeartbeats 4000000 in
theorem specTaintDomain_calls (a : Option Addr) (n c : Nat) (ss : List (Int × List Int)) (ta : Option Addr) (tn tc : Nat) (ts : List Int) (da : Option Addr) (dn dc : Nat) (ds : List Int) (x : Int) (b : Option Addr) (lb cb : Nat) (zs : List Int) (w : World) (hrt : RT w a n ss ta tn ts da dn ds) (hlb : lb ≤ maxLen) (hy : Sl w b lb zs) :
    Calls Try.prog 7 #[.agg #[.slice a n c, .slice ta tn tc, .slice da dn dc], .int .i64 x, .agg #[.slice b lb cb]] w fun e w' => ∃ ra rn rc xa xn xc ya yn yc, e = .returned (.agg #[.int .i64 (txC ss ts ds x zs), .int .i64 (txV ss ts ds x zs), .slice ra rn rc, .slice xa xn xc, .slice ya yn yc]) ∧
      OT (InR w.heap.size w'.heap.size) ra rn (txS ss ts ds x zs) xa xn (txT ss ts ds x zs) ya yn (txD ss ts ds x zs) w' ∧ Below w.heap.size w w' := by
  have M0 := (((Mm.start w).alloc3 (.slice a n c) (.slice ta tn tc) (.slice da dn dc) 36).alloc1 (.slice b lb cb) 41).alloc5 (.int .i64 0) (.int .i64 0) (.slice none 0 0) (.slice none 0 0) (.slice none 0 0) 38
  simp only [World.size_alloc] at M0
  have hrt0 := hrt.below M0.bel (Nat.le_refl _)
  have hy0 := hy.below M0.bel (Nat.le_refl _)
  have HTL := hide hrt.2.2.2.1.1
  have HDL := hide hrt.2.2.2.2.2.1
  have hsl1 : ss.length ≤ n := Nat.le_of_eq hrt.2.1.1
  have hsl2 : n ≤ ss.length := Nat.le_of_eq hrt.2.1.1.symm
  have htl1 : ts.length ≤ tn := Nat.le_of_eq HTL.out
  have htl2 : tn ≤ ts.length := Nat.le_of_eq HTL.out.symm
  have hdl1 : ds.length ≤ dn := Nat.le_of_eq HDL.out
  have hdl2 : dn ≤ ds.length := Nat.le_of_eq HDL.out.symm
  go_enter Try.func7, Try.ntmps7
  go_wp2_with fail
  refine (l3Fault_calls _ a n c ss ta tn tc ts da dn dc ds _ (M0.lt 6 rfl) (M0.cell 6 rfl) (M0.cell 7 rfl) (M0.cell 8 rfl) hrt0).mono ?_
  rintro e w1 ⟨rfl, g1⟩
  have M1 := M0.below g1
  have hrt1 := hrt0.below g1 (Nat.le_refl _)
  have hy1 := hy0.below g1 (Nat.le_refl _)
  have z1 := g1.size
  simp only [World.size_alloc] at z1
  clear M0 g1 hrt0 hy0
  by_cases hf : tabF ss ts ds = 0
  rotate_left
  · have HC : Hid (txC ss ts ds x zs = tabF ss ts ds) := if_neg hf
    have e2 : (tabF ss ts ds != 0) = true := by simpa using hf
    have hf' : txC ss ts ds x zs ≠ 0 := by rw [HC.out]; exact hf
    have HV : Hid (txV ss ts ds x zs = 0) := if_neg hf'
    have HS : Hid (txS ss ts ds x zs = []) := if_neg hf'
    have HT : Hid (txT ss ts ds x zs = []) := if_neg hf'
    have HD : Hid (txD ss ts ds x zs = []) := if_neg hf'
    clear hf hf' hrt1 hy1
    go_wp2_with fail
    refine (l3Bad_calls _ _).mono ?_
    rintro e wz ⟨rfl, gz⟩
    have Mz := M1.below gz
    have c0 := Mz.cell 0 rfl
    have c1 := Mz.cell 1 rfl
    have c2 := Mz.cell 2 rfl
    have c3 := Mz.cell 3 rfl
    have c4 := Mz.cell 4 rfl
    have f0 := Mz.fz 0 rfl
    have f1 := Mz.fz 1 rfl
    have f2 := Mz.fz 2 rfl
    have f3 := Mz.fz 3 rfl
    have f4 := Mz.fz 4 rfl
    have HB := hide Mz.bel
    clear M1 Mz gz
    go_wp2
    refine bodyPost_ret (v := .agg #[.int .i64 (tabF ss ts ds), .int .i64 0, .slice none 0 0, .slice none 0 0, .slice none 0 0]) (by simp [results, Try.results7, go_sem, c0, c1, c2, c3, c4]) rfl ⟨_, _, _, _, _, _, _, _, _, by rw [HC.out, HV.out], ?_, below_set5 HB.out (by omega) _ _ _ _ _⟩
    rw [HS.out, HT.out, HD.out]
    exact OT.nil _ _ _ _ _
  have HC1 : Hid (txC ss ts ds x zs = if inC ds x = 0 then (if fault zs = 0 then (if thing0 zs = true then etC (leaveS ss (txQ ds x)) (txZ ss ds x zs) else 1) else fault zs) else inC ds x) := if_pos hf
  obtain ⟨hr, hmy, hA1, hA2, _⟩ := tabF_zero hf
  have hml := many_len hmy
  have good := good_of hr
  have hsum := good_sum good
  rw [hf]
  have dc1 := M1.cell 8 rfl
  clear hf
  go_wp2_with fail
  refine (l3HasDomain_calls w.heap.size da dn dc x _ (by omega) dc1).mono ?_
  rintro e w2 ⟨rfl, g2⟩
  have M2 := M1.below g2
  have hrt2 := hrt1.below g2 (Nat.le_refl _)
  have hy2 := hy1.below g2 (Nat.le_refl _)
  have z2 := g2.size
  clear M1 g2 hrt1 hy1 dc1
  by_cases hin : 0 ≤ x ∧ x < (dn : Int)
  rotate_left
  · have h4 := inC_no (l := ds) (i := x) (by omega)
    have HC : Hid (txC ss ts ds x zs = 4) := by show _ = _; rw [HC1.out, if_neg (by rw [h4]; decide), h4]
    have hd : decide (0 ≤ x ∧ x < (dn : Int)) = false := by simp only [decide_eq_false_iff_not]; exact hin
    rw [hd]
    have hf' : txC ss ts ds x zs ≠ 0 := by rw [HC.out]; decide
    have HV : Hid (txV ss ts ds x zs = 0) := if_neg hf'
    have HS : Hid (txS ss ts ds x zs = []) := if_neg hf'
    have HT : Hid (txT ss ts ds x zs = []) := if_neg hf'
    have HD : Hid (txD ss ts ds x zs = []) := if_neg hf'
    clear hin hd hf' h4 hrt2 hy2 HC1
    go_wp2_with fail
    refine (l3Bad_calls _ _).mono ?_
    rintro e wz ⟨rfl, gz⟩
    have Mz := M2.below gz
    have c0 := Mz.cell 0 rfl
    have c1 := Mz.cell 1 rfl
    have c2 := Mz.cell 2 rfl
    have c3 := Mz.cell 3 rfl
    have c4 := Mz.cell 4 rfl
    have f0 := Mz.fz 0 rfl
    have f1 := Mz.fz 1 rfl
    have f2 := Mz.fz 2 rfl
    have f3 := Mz.fz 3 rfl
    have f4 := Mz.fz 4 rfl
    have HB := hide Mz.bel
    clear M2 Mz gz
    go_wp2
    refine bodyPost_ret (v := .agg #[.int .i64 4, .int .i64 0, .slice none 0 0, .slice none 0 0, .slice none 0 0]) (by simp [results, Try.results7, go_sem, c0, c1, c2, c3, c4]) rfl ⟨_, _, _, _, _, _, _, _, _, by rw [HC.out, HV.out], ?_, below_set5 HB.out (by omega) _ _ _ _ _⟩
    rw [HS.out, HT.out, HD.out]
    exact OT.nil _ _ _ _ _
  have hd : decide (0 ≤ x ∧ x < (dn : Int)) = true := by simp only [decide_eq_true_eq]; exact hin
  rw [hd]
  obtain ⟨j, rfl⟩ : ∃ j : Nat, x = (j : Int) := ⟨x.toNat, by omega⟩
  have hjl : j < ds.length := by omega
  have hi := inC_yes hjl
  have hat := atC_all hA2 hjl
  obtain ⟨q, hq, hql, hqp, hqL, _⟩ := atC_zero good hat
  have hQ : txQ ds (j : Int) = q := by unfold txQ; rw [Int.toNat_natCast, hq, Int.toNat_natCast]
  have HQ := hide hQ
  have HZ : Hid (txZ ss ds (j : Int) zs = mix td (gl ss q) zs) := by show _ = _; unfold txZ; rw [hQ]
  have Hq := hide hq
  rw [hq] at hqL
  have HqL := hide hqL
  have HC2 : Hid (txC ss ts ds (j : Int) zs = if fault zs = 0 then (if thing0 zs = true then etC (leaveS ss q) (mix td (gl ss q) zs) else 1) else fault zs) := by show _ = _; rw [HC1.out, if_pos hi, HZ.out, hQ]
  have lc2 := M2.cell 5 rfl
  have hL2 : w.heap.size + 1 < w2.heap.size := by omega
  clear hd hin hi hat hq hqL hQ HC1
  go_wp2_with fail
  refine (l1FaultO_calls (w.heap.size + 1) 0 b lb cb zs _ hlb hL2 lc2 hy2).mono ?_
  rintro e w3 ⟨rfl, g3⟩
  have M3 := M2.below g3
  have hrt3 := hrt2.below g3 (Nat.le_refl _)
  have hy3 := hy2.below g3 (Nat.le_refl _)
  have z3 := g3.size
  clear M2 g3 hrt2 hy2 lc2
  by_cases hz : fault zs = 0
  rotate_left
  · have HC : Hid (txC ss ts ds (j : Int) zs = fault zs) := by show _ = _; rw [HC2.out, if_neg hz]
    have e2 : (fault zs != 0) = true := by simpa using hz
    have hf' : txC ss ts ds (j : Int) zs ≠ 0 := by rw [HC.out]; exact hz
    have HV : Hid (txV ss ts ds (j : Int) zs = 0) := if_neg hf'
    have HS : Hid (txS ss ts ds (j : Int) zs = []) := if_neg hf'
    have HT : Hid (txT ss ts ds (j : Int) zs = []) := if_neg hf'
    have HD : Hid (txD ss ts ds (j : Int) zs = []) := if_neg hf'
    clear hz hf' hrt3 hy3 HC2
    go_wp2_with fail
    refine (l3Bad_calls _ _).mono ?_
    rintro e wz ⟨rfl, gz⟩
    have Mz := M3.below gz
    have c0 := Mz.cell 0 rfl
    have c1 := Mz.cell 1 rfl
    have c2 := Mz.cell 2 rfl
    have c3 := Mz.cell 3 rfl
    have c4 := Mz.cell 4 rfl
    have f0 := Mz.fz 0 rfl
    have f1 := Mz.fz 1 rfl
    have f2 := Mz.fz 2 rfl
    have f3 := Mz.fz 3 rfl
    have f4 := Mz.fz 4 rfl
    have HB := hide Mz.bel
    clear M3 Mz gz
    go_wp2
    refine bodyPost_ret (v := .agg #[.int .i64 (fault zs), .int .i64 0, .slice none 0 0, .slice none 0 0, .slice none 0 0]) (by simp [results, Try.results7, go_sem, c0, c1, c2, c3, c4]) rfl ⟨_, _, _, _, _, _, _, _, _, by rw [HC.out, HV.out], ?_, below_set5 HB.out (by omega) _ _ _ _ _⟩
    rw [HS.out, HT.out, HD.out]
    exact OT.nil _ _ _ _ _
  obtain rfl : lb = 4 := by have := fault_len hz; have := hy.1; omega
  rw [hz]
  have lc3 := M3.cell 5 rfl
  go_wp2_with fail
  refine (l1ThingO_calls (w.heap.size + 1) 0 b 4 cb zs _ hlb lc3 hy3).mono ?_
  rintro e w3' ⟨rfl, rfl⟩
  by_cases ht : thing0 zs = true
  rotate_left
  · have htf : thing0 zs = false := by simpa using ht
    have HC : Hid (txC ss ts ds (j : Int) zs = 1) := by show _ = _; rw [HC2.out, if_pos hz, if_neg ht]
    rw [htf]
    have hf' : txC ss ts ds (j : Int) zs ≠ 0 := by rw [HC.out]; decide
    have HV : Hid (txV ss ts ds (j : Int) zs = 0) := if_neg hf'
    have HS : Hid (txS ss ts ds (j : Int) zs = []) := if_neg hf'
    have HT : Hid (txT ss ts ds (j : Int) zs = []) := if_neg hf'
    have HD : Hid (txD ss ts ds (j : Int) zs = []) := if_neg hf'
    clear ht htf hf' hrt3 hy3 HC2 lc3
    go_wp2_with fail
    refine (l3Bad_calls _ _).mono ?_
    rintro e wz ⟨rfl, gz⟩
    have Mz := M3.below gz
    have c0 := Mz.cell 0 rfl
    have c1 := Mz.cell 1 rfl
    have c2 := Mz.cell 2 rfl
    have c3 := Mz.cell 3 rfl
    have c4 := Mz.cell 4 rfl
    have f0 := Mz.fz 0 rfl
    have f1 := Mz.fz 1 rfl
    have f2 := Mz.fz 2 rfl
    have f3 := Mz.fz 3 rfl
    have f4 := Mz.fz 4 rfl
    have HB := hide Mz.bel
    clear M3 Mz gz
    go_wp2
    refine bodyPost_ret (v := .agg #[.int .i64 1, .int .i64 0, .slice none 0 0, .slice none 0 0, .slice none 0 0]) (by simp [results, Try.results7, go_sem, c0, c1, c2, c3, c4]) rfl ⟨_, _, _, _, _, _, _, _, _, by rw [HC.out, HV.out], ?_, below_set5 HB.out (by omega) _ _ _ _ _⟩
    rw [HS.out, HT.out, HD.out]
    exact OT.nil _ _ _ _ _
  have HC : Hid (txC ss ts ds (j : Int) zs = etC (leaveS ss q) (mix td (gl ss q) zs)) := by show _ = _; rw [HC2.out, if_pos hz, if_pos ht]
  rw [ht]
  have k0 := M3.cell 6 rfl
  have k1 := M3.cell 7 rfl
  have k2 := M3.cell 8 rfl
  clear ht lc3 HC2
  go_wp2_with fail
  refine (l3Copy_R a n c ss ta tn tc ts da dn dc ds _ (by omega) (by omega) (by omega) hrt3).mono ?_
  rintro e w4 ⟨ra, rc, xa, xc, ya, yc, rfl, L2, g4⟩
  have M4 := (M3.below g4).alloc3 (.slice ra n rc) (.slice xa tn xc) (.slice ya dn yc) 36
  have z4 := g4.size
  have al := (Below.refl w4.heap.size w4).alloc (Nat.le_refl _) (.cells #[.slice ra n rc, .slice xa tn xc, .slice ya dn yc] 36)
  obtain ⟨B1, B2, B3, B4, b1, b2, b3, b4, b5, o1, o2, o3⟩ := L2
  have o1a := RG.loc.below al o1
  have o2a := OS.loc.below al o2.1
  have o3a := OS.loc.below al o3.1
  have hy4 := (hy3.below g4 (Nat.le_refl _)).below al (Nat.le_refl _)
  have s0 := M4.cell 0 rfl
  have s1 := M4.cell 1 rfl
  have s2 := M4.cell 2 rfl
  have t0 := M4.fz 0 rfl
  have lc4 := M4.cell 8 rfl
  have zP : w4.heap.size < (w4.alloc (.cells #[.slice ra n rc, .slice xa tn xc, .slice ya dn yc] 36)).heap.size := by simp
  clear g4 al o1 o2 o3 M3 k0 k1 k2 hrt3 hy3
  go_wp2_with fail
  refine (l3Taint_calls w4.heap.size (w.heap.size + 1) B1 B2 B3 B4 j q ra n rc ss ya dn yc ds b cb zs _ zP s0 s2 t0 o1a o3a b2 b3 b4 b5 (by omega) lc4 hy4 good hz (by omega) (by omega) Hq.out hql hqp HqL.out hA2).mono ?_
  rintro e w5 ⟨rfl, u5, kk, hfin⟩
  have z5 := u5.size
  simp only [World.size_alloc] at z5
  have q1 := ((kk 1).1 (by omega)).trans s1
  have q2 := ((kk 2).1 (by omega)).trans s2
  have M5 : Mm w w5 [(w.heap.size + 1 + 1, 0, .int .i64 0), (w.heap.size + 1 + 1, 1, .int .i64 0), (w.heap.size + 1 + 1, 2, .slice none 0 0), (w.heap.size + 1 + 1, 3, .slice none 0 0), (w.heap.size + 1 + 1, 4, .slice none 0 0)] [] :=
    (M4.sub (fun _ h => by simp only [List.mem_cons, List.not_mem_nil, or_false] at h ⊢; rcases h with h | h | h | h | h <;> simp [h]) (fun _ h => by cases h)).out (B := B1) (T := w4.heap.size + 1) (u5.mono (fun k hk => by rcases hk with (hk | hk) | hk; exact ⟨hk.1, by have := hk.2; omega⟩; exact ⟨by omega, by omega⟩; exact ⟨by have := hk.1; omega, by have := hk.2; omega⟩)) (by omega) (by simp <;> omega) (by simp)
  have o2b := OS.loc.out u5 (fun k h h' => by have := h.1; have := h.2; rcases h' with (h' | h') | h'; have := h'.2; omega; omega; have := h'.1; omega) o2a
  clear M4 u5 kk hy4 o1a o2a o3a s0 s1 s2 t0 lc4
  by_cases het : etC (leaveS ss q) (mix td (gl ss q) zs) = 0
  rotate_left
  · have h7 : etC (leaveS ss q) (mix td (gl ss q) zs) = 7 := by unfold etC at het ⊢; split at het <;> simp_all
    have HC : Hid (txC ss ts ds (j : Int) zs = 7) := HC.out.trans h7
    have e7 : (etC (leaveS ss q) (mix td (gl ss q) zs) == 0) = false := by simp [het]
    rw [e7]
    have hf' : txC ss ts ds (j : Int) zs ≠ 0 := by rw [HC.out]; decide
    have HV : Hid (txV ss ts ds (j : Int) zs = 0) := if_neg hf'
    have HS : Hid (txS ss ts ds (j : Int) zs = []) := if_neg hf'
    have HT : Hid (txT ss ts ds (j : Int) zs = []) := if_neg hf'
    have HD : Hid (txD ss ts ds (j : Int) zs = []) := if_neg hf'
    clear het h7 e7 hf' hfin o2b q1 q2
    go_wp2_with fail
    refine (l3Bad_calls _ _).mono ?_
    rintro e wz ⟨rfl, gz⟩
    have Mz := M5.below gz
    have c0 := Mz.cell 0 rfl
    have c1 := Mz.cell 1 rfl
    have c2 := Mz.cell 2 rfl
    have c3 := Mz.cell 3 rfl
    have c4 := Mz.cell 4 rfl
    have f0 := Mz.fz 0 rfl
    have f1 := Mz.fz 1 rfl
    have f2 := Mz.fz 2 rfl
    have f3 := Mz.fz 3 rfl
    have f4 := Mz.fz 4 rfl
    have HB := hide Mz.bel
    clear M5 Mz gz
    go_wp2
    refine bodyPost_ret (v := .agg #[.int .i64 7, .int .i64 0, .slice none 0 0, .slice none 0 0, .slice none 0 0]) (by simp [results, Try.results7, go_sem, c0, c1, c2, c3, c4]) rfl ⟨_, _, _, _, _, _, _, _, _, by rw [HC.out, HV.out], ?_, below_set5 HB.out (by omega) _ _ _ _ _⟩
    rw [HS.out, HT.out, HD.out]
    exact OT.nil _ _ _ _ _
  have HC0 : Hid (txC ss ts ds (j : Int) zs = 0) := HC.out.trans het
  have HV : Hid (txV ss ts ds (j : Int) zs = (enQ (leaveS ss q) (mix td (gl ss q) zs) : Int)) := (if_pos HC0.out).trans (by rw [HZ.out, HQ.out])
  have HS : Hid (txS ss ts ds (j : Int) zs = enS (leaveS ss q) (mix td (gl ss q) zs)) := (if_pos HC0.out).trans (by rw [HZ.out, HQ.out])
  have HT : Hid (txT ss ts ds (j : Int) zs = ts) := if_pos HC0.out
  have HD : Hid (txD ss ts ds (j : Int) zs = ds.set j (enQ (leaveS ss q) (mix td (gl ss q) zs) : Int)) := (if_pos HC0.out).trans (by rw [HZ.out, HQ.out, Int.toNat_natCast])
  obtain ⟨⟨a5, ca5, q0, o5⟩, d5⟩ := hfin het
  have et : (etC (leaveS ss q) (mix td (gl ss q) zs) == 0) = true := by simp [het]
  rw [et]
  generalize hEq : enQ (leaveS ss q) (mix td (gl ss q) zs) = eq at HV HD d5
  generalize hEs : enS (leaveS ss q) (mix td (gl ss q) zs) = es at HS q0 o5
  clear et het hfin HC hEq hEs
  simp only [World.size_alloc] at o5
  have dsl := d5.sl
  obtain ⟨gb, go, rfl, _, hcd⟩ := dsl.2 (by omega)
  have cj := hcd j (by omega)
  have hgj : gt (ds.set j (eq : Int)) j = (eq : Int) := by simp [gt, hjl]
  rw [hgj] at cj
  have i0 : (0 : Int) ≤ (j : Int) := by omega
  have i1 : (j : Int) < (dn : Int) := by omega
  obtain ⟨Y, hY⟩ : ∃ Y : World, Y = w5.drew := ⟨_, rfl⟩
  have GY : Below w5.heap.size w5 Y := by rw [hY]; exact (Below.refl _ _).drew
  have zY : Y.heap.size = w5.heap.size := by rw [hY]; rfl
  have MY := M5.below GY
  have o5Y := OR.loc.below GY o5
  have o2Y := OS.loc.below GY o2b
  have d5Y := OS.loc.below GY d5
  have HYe := hide hY
  have c0 := MY.cell 0 rfl
  have c1 := MY.cell 1 rfl
  have c2 := MY.cell 2 rfl
  have c3 := MY.cell 3 rfl
  have c4 := MY.cell 4 rfl
  have f0 := MY.fz 0 rfl
  have f1 := MY.fz 1 rfl
  have f2 := MY.fz 2 rfl
  have f3 := MY.fz 3 rfl
  have f4 := MY.fz 4 rfl
  have HB := hide MY.bel
  have HO : Hid (∀ v0 v1 v2 v3 v4, OT (InR w.heap.size w5.heap.size) a5 es.length es xa tn ts (some ⟨gb, go, none⟩) dn (ds.set j (eq : Int)) (((((Y.setCell ⟨w.heap.size + 1 + 1, 0, none⟩ v0).setCell ⟨w.heap.size + 1 + 1, 1, none⟩ v1).setCell ⟨w.heap.size + 1 + 1, 2, none⟩ v2).setCell ⟨w.heap.size + 1 + 1, 3, none⟩ v3).setCell ⟨w.heap.size + 1 + 1, 4, none⟩ v4)) := fun v0 v1 v2 v3 v4 =>
    OT.ofS (loc_set5 OR.loc o5Y (fun e => by rcases e with e | e; have := e.1; omega; have := e.1; omega) v0 v1 v2 v3 v4) (loc_set5 OS.loc o2Y (fun e => by have := e.1; omega) v0 v1 v2 v3 v4) (loc_set5 OS.loc d5Y (fun e => by have := e.1; omega) v0 v1 v2 v3 v4)
      (fun k h => by rcases h with h | h; exact ⟨by have := h.1; omega, by have := h.2; omega⟩; exact ⟨by have := h.1; omega, by have := h.2; omega⟩) (fun k h => ⟨by have := h.1; omega, by have := h.2; omega⟩) (fun k h => ⟨by have := h.1; omega, by have := h.2; omega⟩)
      (fun k h h' => by have := h'.1; have := h'.2; rcases h with h | h; have := h.2; omega; have := h.1; omega) (fun k h h' => by have := h'.1; have := h'.2; rcases h with h | h; have := h.2; omega; have := h.1; omega) (fun k h h' => by have := h.2; have := h'.1; omega)
  have HZY := hide zY
  clear M5 MY o5 o2b d5 o5Y o2Y d5Y dsl hcd GY hY zY
  go_wp2_with fail
  go_still_tail 7, (by kernel_rfl)
  clear q0 q1 q2 cj
  have hyw : { heap := w5.heap, tape := w5.tape, drawn := w5.drawn + 1, os := w5.os, output := w5.output } = Y := HYe.out.symm
  rw [hyw]
  clear hyw
  go_wp2
  refine bodyPost_ret (v := .agg #[.int .i64 0, .int .i64 (eq : Int), .slice a5 es.length ca5, .slice xa tn xc, .slice (some ⟨gb, go, none⟩) dn yc]) (by simp [results, Try.results7, go_sem, c0, c1, c2, c3, c4]) rfl ⟨_, _, _, _, _, _, _, _, _, by rw [HC0.out, HV.out], ?_, below_set5 HB.out (by omega) _ _ _ _ _⟩
  rw [HS.out, HT.out, HD.out]
  exact OT.cast (HO.out _ _ _ _ _) (by simp; exact HZY.out.symm)

theorem cnt_ins (l1 l2 : List Int) (x : Int) (i : Nat) : cnt (l1 ++ x :: l2) i = cnt (l1 ++ l2) i + (if x = (i : Int) then 1 else 0) := by
  unfold cnt
  rw [List.filter_append, List.filter_append, List.length_append, List.length_append, List.filter_cons]
  by_cases h : x = (i : Int)
  · simp [h]; omega
  · simp [h]

theorem Tb.leaveD {ss : List (Int × List Int)} {ts l1 l2 : List Int} {q : Nat} (h : Tb ss ts (l1 ++ (q : Int) :: l2)) : Tb (leaveS ss q) ts (l1 ++ l2) := by
  have hmem : (q : Int) ∈ l1 ++ (q : Int) :: l2 := by simp
  obtain ⟨q', e, hq, hp, _⟩ := h.dm _ hmem
  obtain rfl : q = q' := by omega
  have hcq := h.cn q hq
  rw [cnt_ins, if_pos rfl] at hcq
  have c1 := (cnt_le ts q).1
  have c2 := (cnt_le (l1 ++ l2) q).1
  refine ⟨good_leave h.good hq hp, h.nt, by have := h.nd; simp at this ⊢; omega, fun s hs => ?_, fun s hs => ?_, fun i hi => ?_⟩
  · obtain ⟨j, e, hj, hjp, hl⟩ := h.tg s hs
    obtain ⟨a, b⟩ := lv_at hq hjp (fun ej => by have := cnt_mem (l := ts) (i := q) (by rw [← ej, ← e]; exact hs); omega)
    exact ⟨j, e, by rw [length_leaveS]; exact hj, a, by rw [b]; exact hl⟩
  · have hs' : s ∈ l1 ++ (q : Int) :: l2 := by
      rcases List.mem_append.1 hs with h1 | h1
      · exact List.mem_append_left _ h1
      · exact List.mem_append_right _ (List.mem_cons_of_mem _ h1)
    obtain ⟨j, e, hj, hjp, hl⟩ := h.dm s hs'
    obtain ⟨a, b⟩ := lv_at hq hjp (fun ej => by have := cnt_mem (l := l1 ++ l2) (i := q) (by rw [← ej, ← e]; exact hs); omega)
    exact ⟨j, e, by rw [length_leaveS]; exact hj, a, by rw [b]; exact hl⟩
  · rw [length_leaveS] at hi
    have hci := h.cn i hi
    rw [cnt_ins] at hci
    rw [gc_leave hq]
    by_cases ei : i = q
    · subst ei
      rw [if_pos rfl] at hci ⊢
      omega
    · rw [if_neg ei]
      rw [if_neg (by omega)] at hci
      omega

theorem Tb.enterD {ss : List (Int × List Int)} {ts l1 l2 zs : List Int} (h : Tb ss ts (l1 ++ l2)) (hz : fault zs = 0) (ht : lowB zs = true) (hn : (l1 ++ l2).length ≤ 3) (he : etC ss zs = 0) : Tb (enS ss zs) ts (l1 ++ (enQ ss zs : Int) :: l2) := by
  refine ⟨good_enter h.good hz he, h.nt, by simp at hn ⊢; omega, fun s hs => ?_, fun s hs => ?_, fun i _ => ?_⟩
  · obtain ⟨q, e, hq, hp, hl⟩ := h.tg s hs
    obtain ⟨a, b, c⟩ := en_at h.good (zs := zs) hq hp
    exact ⟨q, e, a, b, by rw [c]; exact hl⟩
  · have hs' : s ∈ l1 ++ l2 ∨ s = (enQ ss zs : Int) := by
      rcases List.mem_append.1 hs with h1 | h1
      · exact .inl (List.mem_append_left _ h1)
      · rcases List.mem_cons.1 h1 with h2 | h2
        · exact .inr h2
        · exact .inl (List.mem_append_right _ h2)
    rcases hs' with hs' | hs'
    · obtain ⟨q, e, hq, hp, hl⟩ := h.dm s hs'
      obtain ⟨a, b, c⟩ := en_at h.good (zs := zs) hq hp
      exact ⟨q, e, a, b, by rw [c]; exact hl⟩
    · obtain ⟨a, b, c⟩ := en_new h.good (zs := zs)
      exact ⟨_, hs', a, b, by rw [c]; exact ht⟩
  · rw [gc_en h.good, cnt_ins, h.cn' i]
    by_cases e : i = enQ ss zs
    · rw [if_pos e, if_pos (by omega)]; omega
    · rw [if_neg e, if_neg (by omega)]; omega

theorem okI_lv {zs : List Int} (h : fault zs = 0) {j : Nat} (hj : j < 4) : 0 ≤ gt zs j ∧ gt zs j ≤ 5 := by
  have h4 := fault_len h
  unfold fault at h
  rw [if_pos h4] at h
  split at h
  · rename_i ha
    have h1 := List.all_eq_true.1 ha (gt zs j) (by simp [gt, show j < zs.length by omega])
    simpa [okI] using h1
  · cases h

theorem has_iff {zs : List Int} (h4 : zs.length = 4) (x : Int) : has zs x = true ↔ ∃ j, j < 4 ∧ gt zs j = x := by
  unfold has
  rw [List.any_eq_true]
  constructor
  · rintro ⟨z, hz, e⟩
    obtain ⟨j, hj, rfl⟩ := List.getElem_of_mem hz
    exact ⟨j, by omega, by simpa [gt, hj] using e⟩
  · rintro ⟨j, hj, e⟩
    exact ⟨gt zs j, by simp [gt, show j < zs.length by omega], by simp [e]⟩

theorem lev_td {xs zs : List Int} (hx : fault xs = 0) {j : Nat} (hj : j < 4) : gt (mix td xs zs) j = td (gt xs j) (gt zs j) := gt_mix td xs zs j (by have := fault_len hx; omega)

theorem len_td {xs : List Int} (zs : List Int) (hx : fault xs = 0) : (mix td xs zs).length = 4 := by simp [mix, fault_len hx]

theorem td_low {xs zs : List Int} (hx : fault xs = 0) (hz : fault zs = 0) (hl : lowB xs = true) (ht : thing0 zs = true) : lowB (mix td xs zs) = true := by
  unfold lowB at hl ⊢
  have h5 : has xs 5 = false := by simpa using hl
  have z5 : has zs 5 = false := by unfold thing0 at ht; simp at ht; exact ht.2
  have : has (mix td xs zs) 5 = false := by
    cases hb : has (mix td xs zs) 5
    · rfl
    · obtain ⟨j, hj, e⟩ := (has_iff (len_td zs hx) 5).1 hb
      rw [lev_td hx hj] at e
      rcases td_or (gt xs j) (gt zs j) with e2 | e2
      · rw [e2] at e
        rw [(has_iff (fault_len hx) 5).2 ⟨j, hj, e⟩] at h5; cases h5
      · rw [e2] at e
        rw [(has_iff (fault_len hz) 5).2 ⟨j, hj, e⟩] at z5; cases z5
  rw [this]
  rfl

theorem td_up {xs zs : List Int} (hx : fault xs = 0) (_hz : fault zs = 0) {j : Nat} (hj : j < 4) : gt xs j ≤ gt (mix td xs zs) j ∧ (gt xs j ≠ 0 → gt zs j ≤ gt (mix td xs zs) j ∧ gt (mix td xs zs) j ≠ 0) ∧ (gt xs j = 0 → gt (mix td xs zs) j = 0) := by
  rw [lev_td hx hj]
  have a1 := okI_lv hx hj
  unfold td
  by_cases e : gt xs j = 0
  · rw [if_pos e]
    exact ⟨by omega, fun h => absurd e h, fun _ => rfl⟩
  · rw [if_neg e]
    have m1 : gt xs j ≤ max (gt xs j) (gt zs j) := Int.le_max_left _ _
    have m2 : gt zs j ≤ max (gt xs j) (gt zs j) := Int.le_max_right _ _
    exact ⟨m1, fun _ => ⟨m2, by omega⟩, fun h => absurd h e⟩

theorem high_lev {zs : List Int} (hz : fault zs = 0) {j : Nat} (hj : j < 4) : gt (highL zs) j = if gt zs j = 0 then 5 else gt zs j := by
  unfold highL
  rw [gt_mix _ _ _ _ (by have := fault_len hz; omega)]
  rfl

theorem high_up {xs zs : List Int} (hx : fault xs = 0) (hz : fault zs = 0) {j : Nat} (hj : j < 4) : gt (highL xs) j ≤ gt (highL (mix td xs zs)) j ∧ gt zs j ≤ gt (highL (mix td xs zs)) j := by
  have hm := fault_mix td_or hx hz
  rw [high_lev hx hj, high_lev hm hj]
  obtain ⟨a, b, c⟩ := td_up hx hz hj
  have z1 := okI_lv hz hj
  by_cases e : gt xs j = 0
  · rw [if_pos e, if_pos (c e)]; omega
  · obtain ⟨b1, b2⟩ := b e
    rw [if_neg e, if_neg b2]; omega

theorem bel_le {xs ys : List Int} (h : belowB xs ys = true) {j : Nat} (hj : j < 4) : gt xs j ≤ gt ys j := by
  unfold belowB at h
  exact of_decide_eq_true (List.all_eq_true.1 h j (List.mem_range.2 hj))

/-- who is tainted sees no less. -/
theorem obs_up {xs zs ys : List Int} (hx : fault xs = 0) (hz : fault zs = 0) (h : obsB xs ys = true) : obsB (mix td xs zs) ys = true := by
  have hm := fault_mix td_or hx hz
  unfold obsB at h ⊢
  rw [hm]
  simp only [Bool.and_eq_true] at h ⊢
  obtain ⟨⟨_, h2⟩, h3, h4⟩ := h
  exact ⟨⟨rfl, h2⟩, h3, belowB_yes (fun j hj => Int.le_trans (bel_le h4 hj) (high_up hx hz hj).1)⟩

theorem taint_facts {xs zs : List Int} (hx : fault xs = 0) (hz : fault zs = 0) (ht : thing0 zs = true) : isBelowB xs (mix td xs zs) = true ∧ obsB (mix td xs zs) zs = true ∧ ownsB xs = ownsB (mix td xs zs) := by
  have hm := fault_mix td_or hx hz
  refine ⟨?_, ?_, ?_⟩
  · rw [isBelowB_of ⟨hx, hm⟩]
    exact belowB_yes (fun j hj => (td_up hx hz hj).1)
  · unfold obsB
    rw [hm, hz, ht]
    simp only [beq_self_eq_true, Bool.true_and]
    exact belowB_yes (fun j hj => (high_up hx hz hj).2)
  · unfold ownsB
    rw [hx, hm]
    have : has xs 0 = has (mix td xs zs) 0 := by
      rw [Bool.eq_iff_iff, has_iff (fault_len hx), has_iff (len_td zs hx)]
      constructor
      · rintro ⟨j, hj, e⟩
        exact ⟨j, hj, (td_up hx hz hj).2.2 e⟩
      · rintro ⟨j, hj, e⟩
        refine ⟨j, hj, ?_⟩
        by_cases e2 : gt xs j = 0
        · exact e2
        · exact absurd e ((td_up hx hz hj).2.1 e2).2
    rw [this]

theorem perm_up {xs zs ys : List Int} (hx : fault xs = 0) (hz : fault zs = 0) : permV xs ys = 0 ∨ ((permV xs ys = 5 ∨ permV xs ys = 7) ∧ (permV (mix td xs zs) ys = 5 ∨ permV (mix td xs zs) ys = 7)) := by
  have hmo := modB_eq xs ys
  cases ho : obsB xs ys
  · rw [ho] at hmo
    left
    unfold permV
    simp [hmo, ho]
  · right
    have h2 := obs_up (ys := ys) hx hz ho
    refine ⟨?_, ?_⟩
    · unfold permV
      cases modB xs ys <;> simp [ho]
    · unfold permV
      cases modB (mix td xs zs) ys <;> simp [h2]

theorem perm_vals (xs ys : List Int) : permV xs ys = 0 ∨ permV xs ys = 5 ∨ permV xs ys = 7 := by
  unfold permV
  split
  · exact .inr (.inr rfl)
  · split
    · exact .inr (.inl rfl)
    · exact .inl rfl

theorem set_parts {l : List Int} {i : Nat} (h : i < l.length) (x : Int) : l = l.take i ++ gt l i :: l.drop (i + 1) ∧ l.set i x = l.take i ++ x :: l.drop (i + 1) := by
  have e : gt l i = l[i] := by simp [gt, h]
  refine ⟨?_, by rw [List.set_eq_take_append_cons_drop, if_pos h]⟩
  rw [e, List.getElem_cons_drop, List.take_append_drop]

theorem gt_set_ne {l : List Int} {i j : Nat} (x : Int) (h : i ≠ j) : gt (l.set i x) j = gt l j := by simp [gt, h]

theorem gt_set_eq {l : List Int} {i : Nat} (x : Int) (h : i < l.length) : gt (l.set i x) i = x := by simp [gt, h]

/-- a domain that was tainted. -/
theorem tx_right {ss : List (Int × List Int)} {ts ds zs : List Int} {x : Int} (h : txC ss ts ds x zs = 0) :
    tabF (txS ss ts ds x zs) (txT ss ts ds x zs) (txD ss ts ds x zs) = 0 ∧ tgC ss ts ds ds x = 0 ∧
      (∀ j, j < ds.length → (j : Int) ≠ x → tgL ss ts ds ds (j : Int) = tgL (txS ss ts ds x zs) (txT ss ts ds x zs) (txD ss ts ds x zs) (txD ss ts ds x zs) (j : Int)) ∧
      isBelowB (tgL ss ts ds ds x) (tgL (txS ss ts ds x zs) (txT ss ts ds x zs) (txD ss ts ds x zs) (txD ss ts ds x zs) x) = true ∧
      obsB (tgL (txS ss ts ds x zs) (txT ss ts ds x zs) (txD ss ts ds x zs) (txD ss ts ds x zs) x) zs = true ∧
      ownsB (tgL ss ts ds ds x) = ownsB (tgL (txS ss ts ds x zs) (txT ss ts ds x zs) (txD ss ts ds x zs) (txD ss ts ds x zs) x) ∧
      (∀ j, j < ts.length → (pmV ss ts ds x ((j : Int) + 1) = 0 ∧ (pmV (txS ss ts ds x zs) (txT ss ts ds x zs) (txD ss ts ds x zs) x ((j : Int) + 1) = 0 ∨ pmV (txS ss ts ds x zs) (txT ss ts ds x zs) (txD ss ts ds x zs) x ((j : Int) + 1) = 5 ∨ pmV (txS ss ts ds x zs) (txT ss ts ds x zs) (txD ss ts ds x zs) x ((j : Int) + 1) = 7)) ∨
        ((pmV ss ts ds x ((j : Int) + 1) = 5 ∨ pmV ss ts ds x ((j : Int) + 1) = 7) ∧ (pmV (txS ss ts ds x zs) (txT ss ts ds x zs) (txD ss ts ds x zs) x ((j : Int) + 1) = 5 ∨ pmV (txS ss ts ds x zs) (txT ss ts ds x zs) (txD ss ts ds x zs) x ((j : Int) + 1) = 7))) := by
  have hS : txS ss ts ds x zs = enS (leaveS ss (txQ ds x)) (txZ ss ds x zs) := if_pos h
  have hT : txT ss ts ds x zs = ts := if_pos h
  have hD : txD ss ts ds x zs = ds.set x.toNat (enQ (leaveS ss (txQ ds x)) (txZ ss ds x zs) : Int) := if_pos h
  rw [hS, hT, hD]
  unfold txC at h
  by_cases h0 : tabF ss ts ds = 0
  rotate_left
  · rw [if_neg h0] at h; exact absurd h h0
  rw [if_pos h0] at h
  by_cases h1 : inC ds x = 0
  rotate_left
  · rw [if_neg h1] at h; exact absurd h h1
  rw [if_pos h1] at h
  by_cases h2 : fault zs = 0
  rotate_left
  · rw [if_neg h2] at h; exact absurd h h2
  rw [if_pos h2] at h
  by_cases h3 : thing0 zs = true
  rotate_left
  · rw [if_neg h3] at h; cases h
  rw [if_pos h3] at h
  have tb := tb_of h0
  obtain ⟨x0, x1⟩ := inC_zero h1
  obtain ⟨i, rfl⟩ : ∃ i : Nat, x = (i : Int) := ⟨x.toNat, by omega⟩
  have hi : i < ds.length := by omega
  simp only [Int.toNat_natCast]
  obtain ⟨q, eq, hq, hp, hlow⟩ := tb.dm (gt ds i) (by simp [gt, hi])
  have hQ : txQ ds (i : Int) = q := by unfold txQ; simp only [Int.toNat_natCast]; rw [eq]; simp
  have hZ : txZ ss ds (i : Int) zs = mix td (gl ss q) zs := by unfold txZ; rw [hQ]
  rw [hQ, hZ] at h ⊢
  have hown := tb.good.right q hq hp
  have hmz := fault_mix td_or hown h2
  obtain ⟨e1, e2⟩ := set_parts hi (enQ (leaveS ss q) (mix td (gl ss q) zs) : Int)
  rw [eq] at e1
  have tb1 : Tb ss ts (ds.take i ++ (q : Int) :: ds.drop (i + 1)) := by rw [← e1]; exact tb
  have tb2 := tb1.leaveD
  have hlen : (ds.take i ++ ds.drop (i + 1)).length ≤ 3 := by have := tb.nd; simp; omega
  have tb3 := tb2.enterD hmz (td_low hown h2 hlow h3) hlen h
  rw [← e2] at tb3
  have t3 := tb3.tab
  have hset : (ds.set i (enQ (leaveS ss q) (mix td (gl ss q) zs) : Int)).length = ds.length := by simp
  have hwas : tgL ss ts ds ds (i : Int) = gl ss q := by rw [tgL_ok h0, inL_at hi eq hq hp]
  obtain ⟨n1, n2, n3⟩ := en_new tb2.good (zs := mix td (gl ss q) zs)
  have hnow : tgL (enS (leaveS ss q) (mix td (gl ss q) zs)) ts (ds.set i (enQ (leaveS ss q) (mix td (gl ss q) zs) : Int)) (ds.set i (enQ (leaveS ss q) (mix td (gl ss q) zs) : Int)) (i : Int) = mix td (gl ss q) zs := by
    rw [tgL_ok t3, inL_at (by omega) (gt_set_eq _ hi) n1 n2, n3]
  obtain ⟨f1, f2, f3⟩ := taint_facts hown h2 h3
  have hcq := tb1.cn q hq
  rw [cnt_ins, if_pos rfl] at hcq
  have keep : ∀ s : Nat, s < ss.length → 0 < gc ss s → (s = q → 2 ≤ gc ss q) → s < (enS (leaveS ss q) (mix td (gl ss q) zs)).length ∧ 0 < gc (enS (leaveS ss q) (mix td (gl ss q) zs)) s ∧ gl (enS (leaveS ss q) (mix td (gl ss q) zs)) s = gl ss s := fun s hs hsp h2' => by
    obtain ⟨a, b⟩ := lv_at hq hsp h2'
    obtain ⟨c, d, e⟩ := en_at tb2.good (zs := mix td (gl ss q) zs) (by rw [length_leaveS]; exact hs) a
    exact ⟨c, d, e.trans b⟩
  have cT := (cnt_le ts q).1
  have cD := (cnt_le (ds.take i ++ ds.drop (i + 1)) q).1
  refine ⟨t3, by rw [tgC_ok h0, h1], fun j hj hne => ?_, by rw [hwas, hnow]; exact f1, by rw [hnow]; exact f2, by rw [hwas, hnow]; exact f3, fun j hj => ?_⟩
  · obtain ⟨s, es, hs, hsp, _⟩ := tb.dm (gt ds j) (by simp [gt, hj])
    have hne' : i ≠ j := by omega
    have h2' : s = q → 2 ≤ gc ss q := fun e => by
      have hm : (q : Int) ∈ ds.take i ++ ds.drop (i + 1) := by
        rw [← e, ← es]
        rcases Nat.lt_or_gt_of_ne hne' with hlt | hlt
        · refine List.mem_append_right _ ?_
          have : gt ds j = (ds.drop (i + 1))[j - (i + 1)]'(by simp; omega) := by simp [gt, hj, show i + 1 + (j - (i + 1)) = j by omega]
          rw [this]
          exact List.getElem_mem _
        · refine List.mem_append_left _ ?_
          have : gt ds j = (ds.take i)[j]'(by simp; omega) := by simp [gt, hj]
          rw [this]
          exact List.getElem_mem _
      have := cnt_mem hm
      omega
    obtain ⟨a, b, c⟩ := keep s hs hsp h2'
    rw [tgL_ok h0, tgL_ok t3, inL_at hj es hs hsp, inL_at (by omega) ((gt_set_ne _ hne').trans es) a b, c]
  · obtain ⟨s, es, hs, hsp, _⟩ := tb.tg (gt ts j) (by simp [gt, hj])
    have h2' : s = q → 2 ≤ gc ss q := fun e => by
      have hm : (q : Int) ∈ ts := by rw [← e, ← es]; simp [gt, hj]
      have := cnt_mem hm
      omega
    obtain ⟨a, b, c⟩ := keep s hs hsp h2'
    have ej : (j : Int) + 1 - 1 = (j : Int) := by omega
    have hj0 : (j : Int) + 1 ≠ 0 := by omega
    have p1 : pmV ss ts ds (i : Int) ((j : Int) + 1) = permV (gl ss q) (gl ss s) := by
      rw [(pm_yes h0 h1 hj0 (by rw [ej]; exact inC_yes hj)).2, ej, inL_at hi eq hq hp, inL_at hj es hs hsp]
    have p2 : pmV (enS (leaveS ss q) (mix td (gl ss q) zs)) ts (ds.set i (enQ (leaveS ss q) (mix td (gl ss q) zs) : Int)) (i : Int) ((j : Int) + 1) = permV (mix td (gl ss q) zs) (gl ss s) := by
      rw [(pm_yes t3 (inC_yes (by omega)) hj0 (by rw [ej]; exact inC_yes hj)).2, ej, inL_at (by omega) (gt_set_eq _ hi) n1 n2, n3, inL_at hj es a b, c]
    rw [p1, p2]
    rcases perm_up (ys := gl ss s) hown h2 with e | e
    · exact .inl ⟨e, perm_vals _ _⟩
    · exact .inr e

set_option maxRecDepth 100000 in
theorem implOwnsAny_calls (a : Option Addr) (len cap : Nat) (zs : List Int) (w : World) (hl : len ≤ maxLen) (hs : Sl w a len zs) :
    Calls Try.prog 27 #[.agg #[.slice a len cap]] w fun e w' => e = .returned (.bool (ownsB zs)) ∧ Below w.heap.size w w' := by
  have hb0 := fun o => (Below.refl w.heap.size w).alloc (Nat.le_refl _) o
  cases hf : (fault zs == 0) with
  | true =>
    have e : ownsB zs = has zs 0 := by unfold ownsB; rw [hf]; rfl
    rw [e]
    clear e
    go_enter Try.func27, Try.ntmps27
    go_wp2_with fail
    refine (implLabelFault_calls a len cap zs _ hl (hs.below (hb0 _) (Nat.le_refl _))).mono ?_
    rintro e w1 ⟨rfl, hb⟩
    have h1 : Below w.heap.size w w1 := (hb0 _).trans (hb.mono (by simp))
    have c1 : w1.cell? ⟨w.heap.size, 0, none⟩ = some (.slice a len cap) := (hb.cell (p := ⟨w.heap.size, 0, none⟩) (by simp)).trans (by go_simp)
    clear hb hb0
    go_wp2_with fail
    refine (hasLevel_calls a len cap zs 0 _ hl (hs.below h1 (Nat.le_refl _))).mono ?_
    rintro e w2 ⟨rfl, hb⟩
    go_wp2
    go_ret
    exact ⟨rfl, h1.trans (hb.mono h1.size)⟩
  | false =>
    have e : ownsB zs = false := by unfold ownsB; rw [hf]; rfl
    rw [e]
    clear e
    go_enter Try.func27, Try.ntmps27
    go_wp2_with fail
    refine (implLabelFault_calls a len cap zs _ hl (hs.below (hb0 _) (Nat.le_refl _))).mono ?_
    rintro e w1 ⟨rfl, hb⟩
    go_wp2
    go_ret
    exact ⟨rfl, (hb0 _).trans (hb.mono (by simp))⟩

end Go.Proofs.Ytgkjmeogdomgmaa
