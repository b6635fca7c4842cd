import Derived.Test.YtdokminhoihghaaNkP
import Derived.Test.YtdokminhoihghaaL1Copy
import Derived.Test.YtdokminhoihghaaCsK
import Derived.WalkKit
import Derived.ProofKit
import Derived.OpenShut
import Derived.ShutString
import Derived.ChangeOld
import Derived.Below
import Derived.WalkSpells
import Derived.Deep.QuietTactic
import Derived.BigQuiet
import Derived.Deep.RegionWith
import Derived.Deep.WholeRow
import Derived.Deep.DeepCutAuto
import Derived.Deep.RegionHeld2
import Derived.Deep.AppendLies
import Derived.Deep.RegionLaw
namespace Go.Proofs.Ytdokminhoihghaa
open Go.ChangeShapes Go.WideShapes Go.ChangeAt Go.RowKit

set_option maxRecDepth 100000 in
theorem l1FaultO_calls (p o : Nat) (a : Option Addr) (len cap : Nat) (zs : List Int) (w : World) (hl : len ≤ maxLen) (hp : p < w.heap.size) (hpc : w.cell? ⟨p, o, none⟩ = some (.slice a len cap)) (hs : Sl w a len zs) :
    Calls Try.prog 46 #[.pointer (some ⟨p, o, none⟩)] w fun e w' => e = .returned (.int .i64 (fault zs)) ∧ Below w.heap.size w w' := by
  unfold maxLen at hl
  obtain ⟨hlen, hs⟩ := hs
  by_cases h4 : len = 4
  · subst h4
    obtain ⟨b, off, rfl, hb, hc⟩ := hs (by omega)
    go_enter Try.func46, Try.ntmps46
    go_wp2
    go_loopw [3] (fun i wr => ∃ k : Nat, k ≤ 4 ∧ i = .int .i64 k ∧ Below w.heap.size w wr ∧ (zs.take k).all okI = true) (fun i _ => 4 - (intOf i).toNat)
    case atStart => exact ⟨0, Nat.zero_le _, rfl, Below.refl _ _, by simp⟩
    case round =>
      obtain ⟨k, hk, rfl, hbel, hall⟩ := hrel
      have Hall : Hid ((zs.take k).all okI = true) := hall
      clear hall
      have hpr := (hbel.cell (p := ⟨p, o, none⟩) hp).trans hpc
      by_cases hlt : k < 4
      · have hck := (hbel.cell (p := ⟨b, off + k, none⟩) hb).trans (hc k hlt)
        have HS : Hid ((zs.take (k + 1)).all okI = ((zs.take k).all okI && okI (gt zs k))) := all_take_succ zs k (by omega)
        go_wp2_with fail
        refine (in_calls _ _ _ _).mono ?_
        rintro e w1 ⟨rfl, hb1⟩
        have hbw : Below w.heap.size w w1 := hbel.trans (hb1.mono hbel.size)
        clear hb1
        cases hok : (decide (0 ≤ gt zs k) && decide (gt zs k ≤ 5)) with
        | true =>
          have Hok : Hid ((decide (0 ≤ gt zs k) && decide (gt zs k ≤ 5)) = true) := hok
          clear hok
          go_wp2
          go_roundw
          case rel => exact ⟨k + 1, by omega, by go_num, hbw, by rw [HS.out, Hall.out]; exact Hok.out⟩
          case measure => simp [intOf]; omega
        | false =>
          have Hok : Hid ((decide (0 ≤ gt zs k) && decide (gt zs k ≤ 5)) = false) := hok
          clear hok
          go_wp2
          go_ret
          exact ⟨ret_int (fault_bad zs k (by omega) hlen Hok.out).symm, hbw⟩
      · go_wp2
        go_ret
        exact ⟨ret_int (fault_ok zs hlen (by have := Hall.out; rw [List.take_of_length_le (by omega)] at this; exact this)).symm, hbel⟩
  · have hne : ((len : Int) == 4) = false := by simp; omega
    go_enter Try.func46, Try.ntmps46
    go_wp2
    go_ret
    exact ⟨ret_int (by simp [fault, hlen, h4]), Below.refl _ _⟩

set_option maxRecDepth 100000 in
theorem l1ThingO_calls (p o : Nat) (a : Option Addr) (n cap : Nat) (zs : List Int) (w : World) (hn : n ≤ maxLen) (hpc : w.cell? ⟨p, o, none⟩ = some (.slice a n cap)) (hs : Sl w a n zs) :
    Calls Try.prog 48 #[.pointer (some ⟨p, o, none⟩)] w fun e w' => e = .returned (.bool (thing0 zs)) ∧ w' = w := by
  unfold maxLen at hn
  obtain ⟨hlen, hs⟩ := hs
  go_enter Try.func48, Try.ntmps48
  go_wp2
  go_loop [3] (fun i => ∃ k : Nat, k ≤ n ∧ i = .int .i64 k ∧ ∀ j, j < k → gt zs j ≠ 0 ∧ gt zs j ≠ 5) (fun i => n - (intOf i).toNat)
  case atStart => exact ⟨0, Nat.zero_le _, rfl, fun j hj => by omega⟩
  case round =>
    obtain ⟨k, hk, rfl, hall⟩ := hrel
    have Hall : Hid (∀ j, j < k → gt zs j ≠ 0 ∧ gt zs j ≠ 5) := hall
    clear hall
    by_cases hlt : k < n
    · obtain ⟨b, off, rfl, hb, hc⟩ := hs (by omega)
      have hck := hc k hlt
      by_cases he : gt zs k = 0
      · have hq : (gt zs k == 0) = true := by simp [he]
        have He := hide he
        clear he
        go_wp2
        go_ret
        exact ⟨ret_bool (thing0_no (k := k) (by omega) (.inl He.out)).symm, rfl⟩
      · have hq : (gt zs k == 0) = false := by simp [he]
        have He := hide he
        clear he
        by_cases h5 : gt zs k = 5
        · have hq5 : (gt zs k == 5) = true := by simp [h5]
          have H5 := hide h5
          clear h5
          go_wp2
          go_ret
          exact ⟨ret_bool (thing0_no (k := k) (by omega) (.inr H5.out)).symm, rfl⟩
        · have hq5 : (gt zs k == 5) = false := by simp [h5]
          have H5 := hide h5
          clear h5
          go_wp2
          go_round
          case rel => exact ⟨k + 1, by omega, by go_num, fun j hj => by (by_cases e : j = k); (subst e; exact ⟨He.out, H5.out⟩); exact Hall.out j (by omega)⟩
          case measure => simp [intOf]; omega
    · go_wp2
      go_ret
      exact ⟨ret_bool (thing0_yes (fun j hj => Hall.out j (by omega))).symm, rfl⟩

theorem set3_at0 (X : World) (P : Nat) (v0 v1 v2 : Value) (h : ∃ u, X.cell? ⟨P, 0, none⟩ = some u) : (((X.setCell ⟨P, 0, none⟩ v0).setCell ⟨P, 1, none⟩ v1).setCell ⟨P, 2, none⟩ v2).cell? ⟨P, 0, none⟩ = some v0 := by
  obtain ⟨u, h⟩ := h
  rw [World.cell?_setCell_other _ _ _ _ (fun e => by injection e with _ e2; omega)]
  rw [World.cell?_setCell_other _ _ _ _ (fun e => by injection e with _ e2; omega)]
  exact World.cell?_setCell_same _ _ _ h

theorem set3_at1 (X : World) (P : Nat) (v0 v1 v2 : Value) (h : ∃ u, X.cell? ⟨P, 1, none⟩ = some u) : (((X.setCell ⟨P, 0, none⟩ v0).setCell ⟨P, 1, none⟩ v1).setCell ⟨P, 2, none⟩ v2).cell? ⟨P, 1, none⟩ = some v1 := by
  obtain ⟨u, h⟩ := h
  rw [World.cell?_setCell_other _ _ _ _ (fun e => by injection e with _ e2; omega)]
  exact World.cell?_setCell_same _ _ _ ((World.cell?_setCell_other _ _ _ _ (fun e => by injection e with _ e2; omega)).trans h)

theorem set3_at2 (X : World) (P : Nat) (v0 v1 v2 : Value) (h : ∃ u, X.cell? ⟨P, 2, none⟩ = some u) : (((X.setCell ⟨P, 0, none⟩ v0).setCell ⟨P, 1, none⟩ v1).setCell ⟨P, 2, none⟩ v2).cell? ⟨P, 2, none⟩ = some v2 := by
  obtain ⟨u, h⟩ := h
  exact World.cell?_setCell_same _ _ _ ((World.cell?_setCell_other _ _ _ _ (fun e => by injection e with _ e2; omega)).trans ((World.cell?_setCell_other _ _ _ _ (fun e => by injection e with _ e2; omega)).trans h))

def nkW (w2 : World) (la : Option Addr) (lc : Nat) (q : Int) (R : Nat) : World := ((((w2.setCell ⟨R, 0, none⟩ (.int .i64 0)).setCell ⟨R, 1, none⟩ (.int .i64 0)).setCell ⟨R, 2, none⟩ (.slice (some ⟨w2.heap.size + 1, 0, none⟩) 1 1)).alloc (.cells #[.int .i64 (-1), .int .i64 0, .int .i64 1, .slice la 4 lc, .int .i64 q, .int .i64 1, .slice none 0 0] 67)).alloc (.cells #[.int .i64 (-1), .int .i64 0, .int .i64 1, .slice la 4 lc, .int .i64 q, .int .i64 1, .slice none 0 0] 67)

theorem alloc_last {X : World} {o : Obj} {n : Nat} (h : X.heap.size = n) : (X.alloc o).heap[n]? = some o := by subst h; exact heap_alloc_new _ _

theorem nk_cells {w2 : World} {la : Option Addr} {lc : Nat} {q : Int} {R : Nat} {u0 u1 u2 : Value} (hR : R < w2.heap.size) (r0 : w2.cell? ⟨R, 0, none⟩ = some u0) (r1 : w2.cell? ⟨R, 1, none⟩ = some u1) (r2 : w2.cell? ⟨R, 2, none⟩ = some u2) : (nkW w2 la lc q R).cell? ⟨R, 0, none⟩ = some (.int .i64 0) ∧ (nkW w2 la lc q R).cell? ⟨R, 1, none⟩ = some (.int .i64 0) ∧ (nkW w2 la lc q R).cell? ⟨R, 2, none⟩ = some (.slice (some ⟨w2.heap.size + 1, 0, none⟩) 1 1) := by
  have past : ∀ j, (nkW w2 la lc q R).cell? ⟨R, j, none⟩ = (((w2.setCell ⟨R, 0, none⟩ (.int .i64 0)).setCell ⟨R, 1, none⟩ (.int .i64 0)).setCell ⟨R, 2, none⟩ (.slice (some ⟨w2.heap.size + 1, 0, none⟩) 1 1)).cell? ⟨R, j, none⟩ := fun j => by
    unfold nkW
    rw [World.cell?_alloc_past _ _ _ (by simp; omega), World.cell?_alloc_past _ _ _ (by simp; omega)]
  exact ⟨(past 0).trans (set3_at0 _ _ _ _ _ ⟨_, r0⟩), (past 1).trans (set3_at1 _ _ _ _ _ ⟨_, r1⟩), (past 2).trans (set3_at2 _ _ _ _ _ ⟨_, r2⟩)⟩

theorem nk_end {B R : Nat} {w2 : World} {zs : List Int} {q : Int} {la : Option Addr} {lc : Nat} (ho : OS (fun k => B ≤ k ∧ k < w2.heap.size ∧ k ≠ R) la 4 zs w2) (h4 : zs.length = 4) (hB : B ≤ w2.heap.size) (_hR : R < w2.heap.size) : OO (InR B (nkW w2 la lc q R).heap.size) (some ⟨w2.heap.size + 1, 0, none⟩) 1 [(-1, 0, 1, zs, q, 1, [])] (nkW w2 la lc q R) := by
  have hsz : (nkW w2 la lc q R).heap.size = w2.heap.size + 2 := by simp [nkW]
  have blk : ∀ k, k < w2.heap.size → k ≠ R → (nkW w2 la lc q R).heap[k]? = w2.heap[k]? := fun k hk hne => by
    unfold nkW
    rw [Below.heap_alloc _ _ _ (by simp; omega), Below.heap_alloc _ _ _ (by simp; omega), Below.heap_setCell _ _ _ _ (by simpa using hne), Below.heap_setCell _ _ _ _ (by simpa using hne), Below.heap_setCell _ _ _ _ (by simpa using hne)]
  have hg : (nkW w2 la lc q R).heap[w2.heap.size + 1]? = some (.cells #[.int .i64 (-1), .int .i64 0, .int .i64 1, .slice la 4 lc, .int .i64 q, .int .i64 1, .slice none 0 0] 67) := by
    unfold nkW
    exact alloc_last (by simp)
  have cN : ∀ j v, (#[.int .i64 (-1), .int .i64 0, .int .i64 1, .slice la 4 lc, .int .i64 q, .int .i64 1, .slice none 0 0] : Array Value)[j]? = some v → (nkW w2 la lc q R).cell? ⟨w2.heap.size + 1, j, none⟩ = some v := fun j v hv => by
    rw [cell_of_row _ _ _ _ _ _ hg]
    simpa using hv
  refine OO.single rfl (by show zs.length ≤ 1000; omega) ⟨by omega, by omega⟩ (by omega) (fun j => ?_) ⟨cN 0 _ rfl, cN 1 _ rfl, cN 2 _ rfl, by rw [show ((-1, 0, 1, zs, q, 1, []) : OB).2.2.2.1.length = 4 from h4]; exact cN 3 _ rfl, cN 4 _ rfl, cN 5 _ rfl, cN 6 _ rfl⟩ (lc := lc) ?_
  · simp [World.frozen?, hg]
  · show OS _ la zs.length zs _
    rw [h4]
    exact OS.mono (OS.loc w2 _ (fun k hk hlt => blk k hlt hk.2.2) ho) (fun k hk => ⟨⟨hk.1, by rw [hsz]; omega⟩, by omega⟩)

set_option maxRecDepth 100000 in
theorem l11Bad_calls (c : Int) (w : World) : Calls Try.prog 47 #[.int .i64 c] w fun e w' => e = .returned (.agg #[.int .i64 c, .int .i64 0, .slice none 0 0]) ∧ Below w.heap.size w w' := by
  go_enter Try.func47, Try.ntmps47
  go_wp2
  refine bodyPost_ret (v := .agg #[.int .i64 c, .int .i64 0, .slice none 0 0]) (by simp [results, Try.results47, go_sem]) rfl ⟨rfl, ?_⟩
  exact (Below.refl _ _).alloc (Nat.le_refl _) _

set_option maxRecDepth 100000 in
set_option maxHeartbeats 2000000 in
theorem specNewKernel_calls (a : Option Addr) (n cap : Nat) (zs : List Int) (q : Int) (w : World) (hm : n ≤ maxLen) (hs : Sl w a n zs) : Calls Try.prog 15 #[.agg #[.slice a n cap], .int .i64 q] w fun e w' => ∃ ra rn rc, e = .returned (.agg #[.int .i64 (nkC zs q), .int .i64 0, .slice ra rn rc]) ∧ OO (InR w.heap.size w'.heap.size) ra rn (nkL zs q) w' ∧ Below w.heap.size w w' := by
  have hlen := hs.1
  have M0 := ((Mm.start w).allocC [.slice a n cap] 40).allocC [.int .i64 0, .int .i64 0, .slice none 0 0] 38
  simp only [World.size_alloc] at M0
  have p0 := (M0.get 1 rfl).cell 0 rfl
  have zm := hm
  have HF := hide (l1FaultO_calls w.heap.size 0 a n cap zs _ zm (by simp; omega) p0 (hs.below M0.bel (Nat.le_refl _)))
  have HS := hide hs
  clear hs p0
  go_enter Try.func15, Try.ntmps15
  go_wp2_with fail
  refine HF.out.mono ?_
  rintro e w1 ⟨rfl, g1⟩
  have z1 : w.heap.size + 2 ≤ w1.heap.size := by have := g1.size; simpa using this
  have HM := hide (M0.below g1)
  clear M0 g1 HF
  by_cases h1 : fault zs = 0
  rotate_left
  · have hk := nkC_thg (q := q) (by rw [thgF_fault h1]; exact h1)
    have HC : Hid (nkC zs q = fault zs) := hk.trans (thgF_fault h1)
    have HL : Hid (nkL zs q = []) := nkL_no (by rw [HC.out]; exact h1)
    have e1 : (fault zs != 0) = true := by simpa using h1
    clear h1 hk
    go_wp2_with fail
    refine (l11Bad_calls _ _).mono ?_
    rintro e w2 ⟨rfl, g2⟩
    have M2 := HM.out.below g2
    have r0 := (M2.get 0 rfl).cell 0 rfl
    have r1 := (M2.get 0 rfl).cell 1 rfl
    have r2 := (M2.get 0 rfl).cell 2 rfl
    have f0 := (M2.get 0 rfl).fz 0 (by simp)
    have f1 := (M2.get 0 rfl).fz 1 (by simp)
    have f2 := (M2.get 0 rfl).fz 2 (by simp)
    have HB := hide M2.bel
    clear g2 M2
    go_wp2
    refine bodyPost_ret (v := .agg #[.int .i64 (fault zs), .int .i64 0, .slice none 0 0]) (by simp [results, Try.results15, go_sem, r0, r1, r2]) rfl ⟨none, 0, 0, by rw [HC.out], ?_, ((HB.out.setCell (by simp) _).setCell (by simp) _).setCell (by simp) _⟩
    rw [HL.out]
    exact OO.nil _ _ _
  have e1 : (fault zs != 0) = false := by simp [h1]
  have hl4 := fault_four h1
  have p1 := (HM.out.get 1 rfl).cell 0 rfl
  have HT : Hid (∀ b, thing0 zs = b → Calls Try.prog 48 #[.pointer (some ⟨w.heap.size, 0, none⟩)] w1 fun e w' => e = .returned (.bool b) ∧ w' = w1) := fun b hb => hb ▸ l1ThingO_calls w.heap.size 0 a n cap zs w1 zm p1 (HS.out.below HM.out.bel (Nat.le_refl _))
  cases h2 : thing0 zs with
  | false =>
    have HC : Hid (nkC zs q = 1) := (nkC_thg (q := q) (by rw [thgF_no h1 h2]; decide)).trans (thgF_no h1 h2)
    have HL : Hid (nkL zs q = []) := nkL_no (by rw [HC.out]; decide)
    clear h1 p1
    go_wp2_with fail
    refine (HT.out _ h2).mono ?_
    rintro e w' ⟨rfl, hw'⟩
    rw [hw']
    clear hw' w'
    go_wp2_with fail
    refine (l11Bad_calls _ _).mono ?_
    rintro e w2 ⟨rfl, g2⟩
    have M2 := HM.out.below g2
    have r0 := (M2.get 0 rfl).cell 0 rfl
    have r1 := (M2.get 0 rfl).cell 1 rfl
    have r2 := (M2.get 0 rfl).cell 2 rfl
    have f0 := (M2.get 0 rfl).fz 0 (by simp)
    have f1 := (M2.get 0 rfl).fz 1 (by simp)
    have f2 := (M2.get 0 rfl).fz 2 (by simp)
    have HB := hide M2.bel
    clear g2 M2
    go_wp2
    refine bodyPost_ret (v := .agg #[.int .i64 (1), .int .i64 0, .slice none 0 0]) (by simp [results, Try.results15, go_sem, r0, r1, r2]) rfl ⟨none, 0, 0, by rw [HC.out], ?_, ((HB.out.setCell (by simp) _).setCell (by simp) _).setCell (by simp) _⟩
    rw [HL.out]
    exact OO.nil _ _ _
  | true =>
  have hT := thgF_ok h1 h2
  cases h3 : inB q 0 200 with
  | false =>
    have HC : Hid (nkC zs q = 3) := nkC_rng hT h3
    have HL : Hid (nkL zs q = []) := nkL_no (by rw [HC.out]; decide)
    clear h1 p1 hT
    go_wp2_with fail
    refine (HT.out _ h2).mono ?_
    rintro e w' ⟨rfl, hw'⟩
    rw [hw']
    clear hw' w'
    go_wp2_with (go_at_call 49; with_reducible refine (inB_is _ _ _ _ _ h3).mono ?_; rintro e w' ⟨rfl, hw'⟩; rw [hw']; clear hw' w')
    refine (l11Bad_calls _ _).mono ?_
    rintro e w2 ⟨rfl, g2⟩
    have M2 := HM.out.below g2
    have r0 := (M2.get 0 rfl).cell 0 rfl
    have r1 := (M2.get 0 rfl).cell 1 rfl
    have r2 := (M2.get 0 rfl).cell 2 rfl
    have f0 := (M2.get 0 rfl).fz 0 (by simp)
    have f1 := (M2.get 0 rfl).fz 1 (by simp)
    have f2 := (M2.get 0 rfl).fz 2 (by simp)
    have HB := hide M2.bel
    clear g2 M2
    go_wp2
    refine bodyPost_ret (v := .agg #[.int .i64 (3), .int .i64 0, .slice none 0 0]) (by simp [results, Try.results15, go_sem, r0, r1, r2]) rfl ⟨none, 0, 0, by rw [HC.out], ?_, ((HB.out.setCell (by simp) _).setCell (by simp) _).setCell (by simp) _⟩
    rw [HL.out]
    exact OO.nil _ _ _
  | true =>
  have HC : Hid (nkC zs q = 0) := nkC_ok hT h3
  have HL : Hid (nkL zs q = [(-1, 0, 1, zs, q, 1, [])]) := nkL_ok HC.out
  clear h1 hT
  go_wp2_with fail
  refine (HT.out _ h2).mono ?_
  rintro e w' ⟨rfl, hw'⟩
  rw [hw']
  clear hw' w'
  go_wp2_with (go_at_call 49; with_reducible refine (inB_is _ _ _ _ _ h3).mono ?_; rintro e w' ⟨rfl, hw'⟩; rw [hw']; clear hw' w')
  refine (l1Copy_O a n cap zs w1 (by omega) (HS.out.below HM.out.bel (Nat.le_refl _))).mono ?_
  rintro e w2 ⟨ra, rc, rfl, own, g2⟩
  obtain rfl : n = 4 := by omega
  have z2 := g2.size
  have M2 := HM.out.below g2
  have r0 := (M2.get 0 rfl).cell 0 rfl
  have r1 := (M2.get 0 rfl).cell 1 rfl
  have r2 := (M2.get 0 rfl).cell 2 rfl
  have f0 := (M2.get 0 rfl).fz 0 (by simp)
  have f1 := (M2.get 0 rfl).fz 1 (by simp)
  have f2 := (M2.get 0 rfl).fz 2 (by simp)
  have HB := hide M2.bel
  have HO : Hid (OS (fun k => w.heap.size ≤ k ∧ k < w2.heap.size ∧ k ≠ w.heap.size + 1) ra 4 zs w2) := own.mono (fun k hk => ⟨by have := hk.1; omega, hk.2, by have := hk.1; omega⟩)
  have lR : w.heap.size + 1 < w2.heap.size := by omega
  have lS : w.heap.size < w2.heap.size := by omega
  clear M2 g2 HM
  obtain ⟨n0, n1, n2⟩ := nk_cells (la := ra) (lc := rc) (q := q) lR r0 r1 r2
  unfold nkW at n0 n1 n2
  go_wp2
  refine bodyPost_ret (v := .agg #[.int .i64 0, .int .i64 0, .slice (some ⟨w2.heap.size + 1, 0, none⟩) 1 1]) (by simp [results, Try.results15, go_sem, n0, n1, n2]) rfl ⟨some ⟨w2.heap.size + 1, 0, none⟩, 1, 1, by rw [HC.out], ?_, ?_⟩
  · rw [HL.out]
    exact nk_end (lc := rc) HO.out hl4 (by omega) (by omega)
  · exact ((((HB.out.setCell (by simp) _).setCell (by simp) _).setCell (by simp) _).alloc (by simp; omega) _).alloc (by simp; omega) _

end Go.Proofs.Ytdokminhoihghaa
