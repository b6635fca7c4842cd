import Derived.Test.YtipfaoecodclaaaWtP
import Derived.Test.YtipfaoecodclaaaQs
import Derived.Test.YtipfaoecodclaaaClone
import Derived.WalkKit
import Derived.ProofKit
import Derived.OpenShut
import Derived.ShutString
import Derived.ChangeOld
import Derived.Below
import Derived.WalkSpells
import Derived.Deep.QuietTactic
import Derived.BigQuiet
import Derived.Deep.RegionWith
import Derived.Deep.WholeRow
import Derived.Deep.DeepCutAuto
import Derived.Deep.RegionHeld2
import Derived.Deep.AppendLies
import Derived.Deep.RegionLaw
namespace Go.Proofs.Ytipfaoecodclaaa
open Go.ChangeShapes Go.WideShapes Go.ChangeAt Go.RowKit

/-- a row of n numbers of one's own, in block b: g tells what each place holds. -/
structure PL (w : World) (b n : Nat) (g : Nat → Int) : Prop where
  lt : b < w.heap.size
  c : ∀ j, j < n → w.cell? ⟨b, j, none⟩ = some (.int .i64 (g j))
  fz : ∀ j, w.frozen? ⟨b, j, none⟩ = false

theorem PL.of_block {w w' : World} {b n : Nat} {g : Nat → Int} (h : PL w b n g) (e : w'.heap[b]? = w.heap[b]?) (hs : w.heap.size ≤ w'.heap.size) : PL w' b n g :=
  ⟨by have := h.lt; omega, fun j hj => (World.cell?_of_block (a := ⟨b, j, none⟩) e).trans (h.c j hj), fun j => (World.frozen?_of_block (a := ⟨b, j, none⟩) e).trans (h.fz j)⟩

theorem PL.below {w w' : World} {b n : Nat} {g : Nat → Int} (h : PL w b n g) (hc : Below w.heap.size w w') : PL w' b n g := h.of_block (hc.block b h.lt) hc.size

theorem PL.set {w : World} {b n : Nat} {g g' : Nat → Int} (h : PL w b n g) {k : Nat} {u : Int} (hk : k < n) (hg : ∀ j, j < n → g' j = if j = k then u else g j) : PL (w.setCell ⟨b, k, none⟩ (.int .i64 u)) b n g' :=
  ⟨by simpa using h.lt, fun j hj => by
    rw [hg j hj]
    by_cases e : j = k
    · subst e; rw [if_pos rfl]; exact World.cell?_setCell_same _ _ _ (h.c j hj)
    · rw [if_neg e, World.cell?_setCell_other _ _ _ _ (fun e2 => by injection e2 with _ e3; exact e e3.symm)]; exact h.c j hj, fun j => by simpa using h.fz j⟩

/-- the places of the first k, and 0 from there on. -/
def plG (p : Nat → Bool) (f : Nat → OB) (k j : Nat) : Int := if j < k then gt (wtS p f k).1 j else 0

theorem plG_set (p : Nat → Bool) (f : Nat → OB) (k j : Nat) : plG p f (k + 1) j = if j = k then (if wtGo p f (wtS p f k).1 k = true then -1 else ((wtS p f k).2.length : Int)) else plG p f k j := by
  unfold plG
  by_cases e : j = k
  · rw [if_pos (by omega), if_pos e, wtS_next j (by omega), if_pos e]
  · rw [if_neg e]
    by_cases h : j < k
    · rw [if_pos (by omega), if_pos h, wtS_next j (by omega), if_neg e]
    · rw [if_neg (by omega), if_neg h]

theorem grown_set (X : World) (P o : Nat) (y : Value) : X.grownBy (X.setCell ⟨P, o, none⟩ y) (some P) :=
  have h := (OutS.refl (fun k => k = P) X).setCell (p := ⟨P, o, none⟩) rfl y
  ⟨h.os, h.tape, h.output, h.size, fun k hk hne => h.block k hk (fun e => hne (by rw [e]))⟩

theorem info_n64 : (Try.prog.info? 2).map (fun i => (i.zero, i.size, i.bytes)) = some (some (.int .i64 0), 1, 8) := by kernel_rfl

set_option maxRecDepth 100000 in
set_option maxHeartbeats 8000000 in
theorem without_calls (Pl : Nat) (p : Nat → Bool) (gb n cc B : Nat) (xs : List OB) (la1 : Nat → Option Addr) (lc1 lb1 : Nat → Nat) (L : List Value) (w : World) (hn1 : 0 < n) (hn : n ≤ 12) (hB : B ≤ w.heap.size) (hgb : gb < w.heap.size) (hco : CO w B (gO xs) n (.slice (some ⟨gb, 0, none⟩) n cc) la1 lc1 lb1 L)
    (hup : ∀ j, j < n → 0 < j → 0 ≤ (gO xs j).1 ∧ (gO xs j).1 < j)
    (hf : ∀ k, k < n → ∀ W, Below w.heap.size w W → Calls Try.prog 33 #[.agg #[.int .i64 (gO xs k).1, .int .i64 (gO xs k).2.1, .int .i64 (gO xs k).2.2.1, .slice (la1 (2 * k)) (gO xs k).2.2.2.1.length (lc1 (2 * k)), .int .i64 (gO xs k).2.2.2.2.1, .int .i64 (gO xs k).2.2.2.2.2.1, .slice (la1 (2 * k + 1)) (gO xs k).2.2.2.2.2.2.length (lc1 (2 * k + 1))], .int .i64 (k : Int), .pointer (some ⟨Pl, 0, none⟩)] W fun e w' => e = .returned (.bool (p k)) ∧ Below W.heap.size W w') :
    Calls Try.prog 31 #[.slice (some ⟨gb, 0, none⟩) n cc, .func (.func 33) #[] #[.pointer (some ⟨Pl, 0, none⟩)]] w fun e w' => ∃ v L2, e = .returned v ∧ KW w' B w.heap.size p (gO xs) n n v lb1 L2 ∧ Below w.heap.size w w' := by
  obtain ⟨i0, hi, hz0, hz1, hz2⟩ := info_parts infoObject
  obtain ⟨j0i, hji, hy0, hy1, hy2⟩ := info_parts info_n64
  have hmk1 : ∀ W : World, (Instr.makeSlice 30 (.int .i64 0) (.int .i64 (n : Int))).run Try.prog W = .ok (.slice (some ⟨W.heap.size, 0, none⟩) 0 n) (W.alloc (.cells (madeCells #[.int .i64 0, .int .i64 0, .int .i64 0, .slice none 0 0, .int .i64 0, .int .i64 0, .slice none 0 0] (n * 7)) 57)) := fun W => by
    have h := run_make (P := Try.prog) W 30 57 i0 (.agg #[.int .i64 0, .int .i64 0, .int .i64 0, .slice none 0 0, .int .i64 0, .int .i64 0, .slice none 0 0]) Try.underlying30 hi hz0 .i64 .i64 0 (n : Int) (Int.le_refl _) (by omega) (by rw [hz2]; omega) (by omega)
    simpa [hz1, Value.cells] using h
  have hmk2 : ∀ W : World, (Instr.makeSlice 25 (.int .i64 (n : Int)) (.int .i64 (n : Int))).run Try.prog W = .ok (.slice (some ⟨W.heap.size, 0, none⟩) n n) (W.alloc (.cells (madeCells #[.int .i64 0] n) 2)) := fun W => by
    have h := run_make (P := Try.prog) W 25 2 j0i (.int .i64 0) Try.underlying25 hji hy0 .i64 .i64 (n : Int) (n : Int) (by omega) (Int.le_refl _) (by rw [hy2]; omega) (by omega)
    simpa [hy1, Value.cells] using h
  obtain ⟨U, hU⟩ : ∃ y, y = (w.alloc (.cells (madeCells #[.int .i64 0, .int .i64 0, .int .i64 0, .slice none 0 0, .int .i64 0, .int .i64 0, .slice none 0 0] (n * 7)) 57)).alloc (.cells (madeCells #[.int .i64 0] n) 2) := ⟨_, rfl⟩
  have zU : U.heap.size = w.heap.size + 2 := by rw [hU]; simp
  have hbU : Below w.heap.size w U := by rw [hU]; exact ((Below.refl _ _).alloc (Nat.le_refl _) _).alloc (by simp) _
  have hown := (World.ownsRow_made (base := B) (e := 57) (size := 7) w (madeCells #[.int .i64 0, .int .i64 0, .int .i64 0, .slice none 0 0, .int .i64 0, .int .i64 0, .slice none 0 0] (n * 7)) n hB (by unfold maxLen; omega) (by rw [size_madeCells])).alloc (.cells (madeCells #[.int .i64 0] n) 2)
  rw [← hU] at hown
  have HW0 : Hid (KW U B w.heap.size p (gO xs) n 0 (.slice (some ⟨w.heap.size, 0, none⟩) 0 n) lb1 []) := KW.start _ _ _ _ hown (fun q e => Nat.le_of_eq (by simpa [Value.ownBlock] using e))
  have HP0 : Hid (PL U (w.heap.size + 1) n (plG p (gO xs) 0)) := ⟨by omega, fun j hj => by
    have h1 := World.cell?_alloc_new (w.alloc (.cells (madeCells #[.int .i64 0, .int .i64 0, .int .i64 0, .slice none 0 0, .int .i64 0, .int .i64 0, .slice none 0 0] (n * 7)) 57)) (madeCells #[.int .i64 0] n) 2 j
    rw [World.size_alloc, ← hU] at h1
    rw [h1, ← Array.getElem?_toList, toList_madeCells_one, List.getElem?_replicate, if_pos hj]
    simp [plG], fun j => by rw [hU]; go_simp⟩
  have HCO := hide hco
  have HUP := hide hup
  have HF := hide hf
  have HU := hide hU
  have HBU := hide hbU
  clear hown hco hup hf hU hbU
  go_enter Try.func31, Try.ntmps31
  go_upto_region 3 with fail
  rw [← HU.out]
  clear HU
  go_wp2
  go_loopw [5, 18] (fun q i wr => ∃ (k : Nat) (v : Value) (L2 : List Value), k ≤ n ∧ q = v ∧ i = .int .i64 (k : Int) ∧ Below w.heap.size w wr ∧ w.heap.size + 2 ≤ wr.heap.size ∧ KW wr B w.heap.size p (gO xs) n k v lb1 L2 ∧ PL wr (w.heap.size + 1) n (plG p (gO xs) k) ∧ ∀ b, v.ownBlock = some b → b ≠ w.heap.size + 1) (fun _ i _ => n - (intOf i).toNat)
  case atStart => exact ⟨0, _, _, Nat.zero_le _, rfl, rfl, HBU.out, by omega, HW0.out, HP0.out, fun b e e2 => by subst e2; simp [Value.ownBlock] at e⟩
  case round =>
    clear HW0 HP0
    obtain ⟨k, v, L2, hk, e8, rfl, hbel, hsz, hW, hP, hne⟩ := hrel
    replace e8 := e8.symm
    subst e8
    obtain ⟨ra, rc, rfl⟩ := hW.form
    have Hlk := hide (wtS_len p (gO xs) k)
    have HB := hide hbel
    have HW := hide hW
    have HP := hide hP
    have Hne := hide hne
    by_cases hlt : k < n
    · obtain ⟨r0, r1, r2, r3, r4, r5, r6⟩ := (HCO.out.o7 hlt).of_block (hbel.block gb hgb)
      have k0 : (0 : Int) ≤ (k : Int) := by omega
      have k1 : (k : Int) < (n : Int) := by omega
      have hgw : gb < wr.heap.size := by omega
      have HOS : Hid (∀ X, Below w.heap.size w X → ∀ q, q < 2 * n → OS (fun b => b = lb1 q ∧ 0 < (sbO (gO xs) q).length) (la1 q) (sbO (gO xs) q).length (sbO (gO xs) q) X) := fun X hX q hq => OS.loc.below hX (HCO.out.os q hq)
      obtain ⟨A, hA⟩ : ∃ y, y = wr.alloc (.cells #[.int .i64 (gO xs k).1, .int .i64 (gO xs k).2.1, .int .i64 (gO xs k).2.2.1, .slice (la1 (2 * k)) (gO xs k).2.2.2.1.length (lc1 (2 * k)), .int .i64 (gO xs k).2.2.2.2.1, .int .i64 (gO xs k).2.2.2.2.2.1, .slice (la1 (2 * k + 1)) (gO xs k).2.2.2.2.2.2.length (lc1 (2 * k + 1))] 57) := ⟨_, rfl⟩
      have N1 := (Mm.start wr).allocC [.int .i64 (gO xs k).1, .int .i64 (gO xs k).2.1, .int .i64 (gO xs k).2.2.1, .slice (la1 (2 * k)) (gO xs k).2.2.2.1.length (lc1 (2 * k)), .int .i64 (gO xs k).2.2.2.2.1, .int .i64 (gO xs k).2.2.2.2.2.1, .slice (la1 (2 * k + 1)) (gO xs k).2.2.2.2.2.2.length (lc1 (2 * k + 1))] 57
      rw [← hA] at N1
      have zA : A.heap.size = wr.heap.size + 1 := by rw [hA]; simp
      have HA := hide hA
      have HN1 := hide N1
      have n0 := (N1.get 0 rfl).cell 0 rfl
      have n1 := (N1.get 0 rfl).cell 1 rfl
      have n2 := (N1.get 0 rfl).cell 2 rfl
      have n3 := (N1.get 0 rfl).cell 3 rfl
      have n4 := (N1.get 0 rfl).cell 4 rfl
      have n5 := (N1.get 0 rfl).cell 5 rfl
      have n6 := (N1.get 0 rfl).cell 6 rfl
      have HBA := hide (hbel.trans (N1.bel.mono hbel.size))
      clear hW hP hne hbel hA N1
      go_upto_region 6 with fail
      rw [← HA.out]
      clear HA r0 r1 r2 r3 r4 r5 r6
      go_wp2_with fail
      refine (HF.out k hlt _ HBA.out).mono ?_
      rintro e w4 ⟨rfl, g4⟩
      have z4 := g4.size
      have HN4 := hide (HN1.out.below g4)
      have HB4 := hide (HB.out.trans (HN4.out.bel.mono HB.out.size))
      have HW4 := hide (HW.out.below HN4.out.bel)
      have HP4 := hide (HP.out.below HN4.out.bel)
      clear n0 n1 n2 n3 n4 n5 n6 g4
      by_cases hk0 : k = 0
      · have e3 : ((k : Int) != 0) = false := by simp; omega
        have e4 : decide (k = 0) = true := decide_eq_true hk0
        have Hk0 := hide hk0
        clear hk0
        have HUW : Hid (upW (gO xs) (wtS p (gO xs) k).1 k = (gO xs k).1) := if_pos Hk0.out
        have HN5 := HN4
        have zz : wr.heap.size + 1 ≤ w4.heap.size := by omega
        have HB5 := hide (HB.out.trans (HN5.out.bel.mono HB.out.size))
        have HW5 := hide (HW.out.below HN5.out.bel)
        have HP5 := hide (HP.out.below HN5.out.bel)
        have pk := HP5.out.c k hlt
        have pf := HP5.out.fz k
        by_cases hb : p k = true
        · have HGO : Hid (wtGo p (gO xs) (wtS p (gO xs) k).1 k = true) := wtGo_self hb
          rw [hb]
          have HP6 := hide (HP5.out.set (g' := plG p (gO xs) (k + 1)) hlt (u := -1) (fun i hi => by rw [plG_set, HGO.out]; simp))
          have HW6 := hide ((HW5.out.kept (grown_set w4 (w.heap.size + 1) k (.int .i64 (-1))) (.inr (fun e => Hne.out _ e rfl)) (fun r hr hp e => by have h1 := (HCO.out.ge r (by omega) hp).2; injection e with e2; omega)).skip HGO.out)
          have HB6 := hide (HB5.out.setCell (p := ⟨w.heap.size + 1, k, none⟩) (by show w.heap.size ≤ w.heap.size + 1; omega) (.int .i64 (-1)))
          have HZ6 : Hid (w.heap.size + 2 ≤ (w4.setCell ⟨w.heap.size + 1, k, none⟩ (.int .i64 (-1))).heap.size) := by show _ ≤ _; simp; omega
          go_wp2
          go_roundw
          case rel => exact ⟨k + 1, _, _, by omega, rfl, by go_num, HB6.out, HZ6.out, HW6.out, HP6.out, Hne.out⟩
          case measure => simp [intOf]; omega
        replace hb : p k = false := by simpa using hb
        have HGO : Hid (wtGo p (gO xs) (wtS p (gO xs) k).1 k = false) := wtGo_no hb HUW.out (fun h => by have := Hk0.out; omega)
        rw [hb]
        obtain ⟨Y, hY⟩ : ∃ y, y = (w4.setCell ⟨w.heap.size + 1, k, none⟩ (.int .i64 ((wtS p (gO xs) k).2.length : Int))) := ⟨_, rfl⟩
        have P6 := HP5.out.set (g' := plG p (gO xs) (k + 1)) hlt (u := ((wtS p (gO xs) k).2.length : Int)) (fun i hi => by rw [plG_set, HGO.out]; simp)
        have W6 := HW5.out.kept (grown_set w4 (w.heap.size + 1) k (.int .i64 ((wtS p (gO xs) k).2.length : Int))) (.inr (fun e => Hne.out _ e rfl)) (fun r hr hp e => by have h1 := (HCO.out.ge r (by omega) hp).2; injection e with e2; omega)
        have B6 := HB5.out.setCell (p := ⟨w.heap.size + 1, k, none⟩) (by show w.heap.size ≤ w.heap.size + 1; omega) (.int .i64 ((wtS p (gO xs) k).2.length : Int))
        have y0 := (World.cell?_setCell_other w4 ⟨w.heap.size + 1, k, none⟩ ⟨wr.heap.size, 0, none⟩ (.int .i64 ((wtS p (gO xs) k).2.length : Int)) (fun e => by injection e with e2 _; omega)).trans ((HN5.out.get 0 rfl).cell 0 rfl)
        have y1 := (World.cell?_setCell_other w4 ⟨w.heap.size + 1, k, none⟩ ⟨wr.heap.size, 1, none⟩ (.int .i64 ((wtS p (gO xs) k).2.length : Int)) (fun e => by injection e with e2 _; omega)).trans ((HN5.out.get 0 rfl).cell 1 rfl)
        have y2 := (World.cell?_setCell_other w4 ⟨w.heap.size + 1, k, none⟩ ⟨wr.heap.size, 2, none⟩ (.int .i64 ((wtS p (gO xs) k).2.length : Int)) (fun e => by injection e with e2 _; omega)).trans ((HN5.out.get 0 rfl).cell 2 rfl)
        have y3 := (World.cell?_setCell_other w4 ⟨w.heap.size + 1, k, none⟩ ⟨wr.heap.size, 3, none⟩ (.int .i64 ((wtS p (gO xs) k).2.length : Int)) (fun e => by injection e with e2 _; omega)).trans ((HN5.out.get 0 rfl).cell 3 rfl)
        have y4 := (World.cell?_setCell_other w4 ⟨w.heap.size + 1, k, none⟩ ⟨wr.heap.size, 4, none⟩ (.int .i64 ((wtS p (gO xs) k).2.length : Int)) (fun e => by injection e with e2 _; omega)).trans ((HN5.out.get 0 rfl).cell 4 rfl)
        have y5 := (World.cell?_setCell_other w4 ⟨w.heap.size + 1, k, none⟩ ⟨wr.heap.size, 5, none⟩ (.int .i64 ((wtS p (gO xs) k).2.length : Int)) (fun e => by injection e with e2 _; omega)).trans ((HN5.out.get 0 rfl).cell 5 rfl)
        have y6 := (World.cell?_setCell_other w4 ⟨w.heap.size + 1, k, none⟩ ⟨wr.heap.size, 6, none⟩ (.int .i64 ((wtS p (gO xs) k).2.length : Int)) (fun e => by injection e with e2 _; omega)).trans ((HN5.out.get 0 rfl).cell 6 rfl)
        have zY : Y.heap.size = w4.heap.size := by rw [hY]; simp
        rw [← hY] at P6 W6 B6 y0 y1 y2 y3 y4 y5 y6
        have HY := hide hY
        have HP6 := hide P6
        have HW6 := hide W6
        have HB6 := hide B6
        have HZY := hide zY
        clear hY P6 W6 B6 zY
        go_upto_region 13 with fail
        rw [← HY.out]
        clear HY pk pf
        have hZY := HZY.out
        have l8 := Hlk.out.2
        have hY2 : w.heap.size + 2 ≤ Y.heap.size := by omega
        have hYr : wr.heap.size + 1 ≤ Y.heap.size := by omega
        clear hZY
        have HX2 : Hid (Below Y.heap.size Y (Y.alloc (.cells #[.int .i64 (gO xs k).1, .int .i64 (gO xs k).2.1, .int .i64 (gO xs k).2.2.1, .slice (la1 (2 * k)) (gO xs k).2.2.2.1.length (lc1 (2 * k)), .int .i64 (gO xs k).2.2.2.2.1, .int .i64 (gO xs k).2.2.2.2.2.1, .slice (la1 (2 * k + 1)) (gO xs k).2.2.2.2.2.2.length (lc1 (2 * k + 1))] 57))) := (Below.refl _ _).alloc (Nat.le_refl _) _
        have HOW2 := hide (HW6.out.below HX2.out).own
        have HNW : Hid (∀ q y, (v7 ((gO xs k).1, (gO xs k).2) (la1 (2 * k)) (lc1 (2 * k)) (la1 (2 * k + 1)) (lc1 (2 * k + 1)))[q]? = some y → (Y.alloc (.cells #[.int .i64 (gO xs k).1, .int .i64 (gO xs k).2.1, .int .i64 (gO xs k).2.2.1, .slice (la1 (2 * k)) (gO xs k).2.2.2.1.length (lc1 (2 * k)), .int .i64 (gO xs k).2.2.2.2.1, .int .i64 (gO xs k).2.2.2.2.2.1, .slice (la1 (2 * k + 1)) (gO xs k).2.2.2.2.2.2.length (lc1 (2 * k + 1))] 57)).cell? ((Addr.mk Y.heap.size 0 none).add q) = some y) := World.news_of_block (t := 57) (fr := (0, 0)) (heap_alloc_new Y _)
        go_wp2_with (first
          | (at_builtin; go_loud (refine wpList_append_lies _ rfl _ _ 30 rfl B 57 i0 (.agg #[.int .i64 0, .int .i64 0, .int .i64 0, .slice none 0 0, .int .i64 0, .int .i64 0, .slice none 0 0]) 7 88 Try.underlying30 hi hz0 hz1 hz2 rfl (by decide) (Value.slice ra (wtS p (gO xs) k).2.length rc) _ _ rfl HOW2.out ⟨Y.heap.size, 0, none⟩ 1 1 (v7 ((gO xs k).1, (gO xs k).2) (la1 (2 * k)) (lc1 (2 * k)) (la1 (2 * k + 1)) (lc1 (2 * k + 1))) rfl rfl HNW.out (v7_one _ _ _ _ _) (by omega) (by unfold maxLen; omega) (by omega) (by simp; omega) (Y.heap.size + 1) (by simp) ?_))
          | go_in)
        intro g2 cp2 w6 hown6 hg6 hat6 hlt6
        rw [← HUW.out] at hown6
        have zx2 : (Y.alloc (.cells #[.int .i64 (gO xs k).1, .int .i64 (gO xs k).2.1, .int .i64 (gO xs k).2.2.1, .slice (la1 (2 * k)) (gO xs k).2.2.2.1.length (lc1 (2 * k)), .int .i64 (gO xs k).2.2.2.2.1, .int .i64 (gO xs k).2.2.2.2.2.1, .slice (la1 (2 * k + 1)) (gO xs k).2.2.2.2.2.2.length (lc1 (2 * k + 1))] 57)).heap.size = Y.heap.size + 1 := by simp
        have hB7 := HB6.out.trans (HX2.out.mono HB6.out.size)
        have HW7 := hide (HW6.out.push HX2.out hlt HGO.out (HOS.out _ hB7) (HCO.out.ge) HCO.out.ap (by omega) hg6 (hat6.imp id (fun e => by rw [e]; simp)) hown6)
        have HP7 := hide ((HP6.out.below HX2.out).of_block (hg6.block _ (by omega) (fun e => Hne.out _ e.symm rfl)) hg6.size)
        have HB7 := hide (hB7.grown hg6 (by omega) (fun q e => HW6.out.ge e))
        have HZ7 : Hid (w.heap.size + 2 ≤ w6.heap.size) := by show _ ≤ _; have := hg6.size; omega
        have HN7 : Hid (∀ b, (Value.slice (some ⟨g2, 0, none⟩) ((wtS p (gO xs) k).2.length + 1) cp2).ownBlock = some b → b ≠ w.heap.size + 1) := fun b e => by
          have e1 : g2 = b := by simpa [Value.ownBlock] using e
          rcases hat6 with hat | hat
          · exact Hne.out b (by rw [hat, e1])
          · omega
        clear hB7 hown6 hg6 hat6 hlt6 zx2 y0 y1 y2 y3 y4 y5 y6
        go_wp2
        go_roundw
        case rel => exact ⟨k + 1, _, _, by omega, rfl, by go_num, HB7.out, HZ7.out, HW7.out, HP7.out, HN7.out⟩
        case measure => simp [intOf]; omega
      · have e3 : ((k : Int) != 0) = true := by simp; omega
        have e4 : decide (k = 0) = false := decide_eq_false hk0
        obtain ⟨j, hj⟩ : ∃ j : Nat, (gO xs k).1 = (j : Int) := ⟨(gO xs k).1.toNat, by have := HUP.out k hlt (by omega); omega⟩
        have hjk : j < k := by have := HUP.out k hlt (by omega); omega
        have j0 : (0 : Int) ≤ (j : Int) := by omega
        have j1 : (j : Int) < (n : Int) := by omega
        have HUW : Hid (upW (gO xs) (wtS p (gO xs) k).1 k = gt (wtS p (gO xs) k).1 j) := by show _ = _; unfold upW; rw [if_neg (by omega), hj]; rfl
        have pj := HP4.out.c j (by omega)
        unfold plG at pj
        rw [if_pos hjk] at pj
        have n0 := (HN4.out.get 0 rfl).cell 0 rfl
        rw [hj] at n0
        have nf := (HN4.out.get 0 rfl).fz 0 (by simp)
        have HR := hide (wtS_rng p (gO xs) k j hjk)
        have HN5 := hide (HN4.out.put 0 rfl 0 (by simp) (.int .i64 (gt (wtS p (gO xs) k).1 j)) (by omega) (by simp) (by simp <;> omega))
        have zz : wr.heap.size + 1 ≤ (w4.setCell ⟨wr.heap.size, 0, none⟩ (.int .i64 (gt (wtS p (gO xs) k).1 j))).heap.size := by simp; omega
        have HB5 := hide (HB.out.trans (HN5.out.bel.mono HB.out.size))
        have HW5 := hide (HW.out.below HN5.out.bel)
        have HP5 := hide (HP.out.below HN5.out.bel)
        have pk := HP5.out.c k hlt
        have pf := HP5.out.fz k
        by_cases hb : p k = true
        · have HGO : Hid (wtGo p (gO xs) (wtS p (gO xs) k).1 k = true) := wtGo_self hb
          rw [hb]
          have HP6 := hide (HP5.out.set (g' := plG p (gO xs) (k + 1)) hlt (u := -1) (fun i hi => by rw [plG_set, HGO.out]; simp))
          have HW6 := hide ((HW5.out.kept (grown_set (w4.setCell ⟨wr.heap.size, 0, none⟩ (.int .i64 (gt (wtS p (gO xs) k).1 j))) (w.heap.size + 1) k (.int .i64 (-1))) (.inr (fun e => Hne.out _ e rfl)) (fun r hr hp e => by have h1 := (HCO.out.ge r (by omega) hp).2; injection e with e2; omega)).skip HGO.out)
          have HB6 := hide (HB5.out.setCell (p := ⟨w.heap.size + 1, k, none⟩) (by show w.heap.size ≤ w.heap.size + 1; omega) (.int .i64 (-1)))
          have HZ6 : Hid (w.heap.size + 2 ≤ ((w4.setCell ⟨wr.heap.size, 0, none⟩ (.int .i64 (gt (wtS p (gO xs) k).1 j))).setCell ⟨w.heap.size + 1, k, none⟩ (.int .i64 (-1))).heap.size) := by show _ ≤ _; simp; omega
          go_wp2
          go_roundw
          case rel => exact ⟨k + 1, _, _, by omega, rfl, by go_num, HB6.out, HZ6.out, HW6.out, HP6.out, Hne.out⟩
          case measure => simp [intOf]; omega
        replace hb : p k = false := by simpa using hb
        by_cases hneg : (gt (wtS p (gO xs) k).1 j) = -1
        · have HGO : Hid (wtGo p (gO xs) (wtS p (gO xs) k).1 k = true) := wtGo_box (by omega) HUW.out (by rw [hneg]; decide)
          rw [hb]
          have u0 := (HN5.out.get 0 rfl).cell 0 rfl
          have e5 : ((gt (wtS p (gO xs) k).1 j) == -1) = true := by simpa using hneg
          clear hneg
          have HP6 := hide (HP5.out.set (g' := plG p (gO xs) (k + 1)) hlt (u := -1) (fun i hi => by rw [plG_set, HGO.out]; simp))
          have HW6 := hide ((HW5.out.kept (grown_set (w4.setCell ⟨wr.heap.size, 0, none⟩ (.int .i64 (gt (wtS p (gO xs) k).1 j))) (w.heap.size + 1) k (.int .i64 (-1))) (.inr (fun e => Hne.out _ e rfl)) (fun r hr hp e => by have h1 := (HCO.out.ge r (by omega) hp).2; injection e with e2; omega)).skip HGO.out)
          have HB6 := hide (HB5.out.setCell (p := ⟨w.heap.size + 1, k, none⟩) (by show w.heap.size ≤ w.heap.size + 1; omega) (.int .i64 (-1)))
          have HZ6 : Hid (w.heap.size + 2 ≤ ((w4.setCell ⟨wr.heap.size, 0, none⟩ (.int .i64 (gt (wtS p (gO xs) k).1 j))).setCell ⟨w.heap.size + 1, k, none⟩ (.int .i64 (-1))).heap.size) := by show _ ≤ _; simp; omega
          go_wp2
          go_roundw
          case rel => exact ⟨k + 1, _, _, by omega, rfl, by go_num, HB6.out, HZ6.out, HW6.out, HP6.out, Hne.out⟩
          case measure => simp [intOf]; omega
        · have HGO : Hid (wtGo p (gO xs) (wtS p (gO xs) k).1 k = false) := wtGo_no hb HUW.out (fun _ => by have := HR.out; omega)
          rw [hb]
          have u0 := (HN5.out.get 0 rfl).cell 0 rfl
          have e5 : ((gt (wtS p (gO xs) k).1 j) == -1) = false := by simpa using hneg
          obtain ⟨Y, hY⟩ : ∃ y, y = ((w4.setCell ⟨wr.heap.size, 0, none⟩ (.int .i64 (gt (wtS p (gO xs) k).1 j))).setCell ⟨w.heap.size + 1, k, none⟩ (.int .i64 ((wtS p (gO xs) k).2.length : Int))) := ⟨_, rfl⟩
          have P6 := HP5.out.set (g' := plG p (gO xs) (k + 1)) hlt (u := ((wtS p (gO xs) k).2.length : Int)) (fun i hi => by rw [plG_set, HGO.out]; simp)
          have W6 := HW5.out.kept (grown_set (w4.setCell ⟨wr.heap.size, 0, none⟩ (.int .i64 (gt (wtS p (gO xs) k).1 j))) (w.heap.size + 1) k (.int .i64 ((wtS p (gO xs) k).2.length : Int))) (.inr (fun e => Hne.out _ e rfl)) (fun r hr hp e => by have h1 := (HCO.out.ge r (by omega) hp).2; injection e with e2; omega)
          have B6 := HB5.out.setCell (p := ⟨w.heap.size + 1, k, none⟩) (by show w.heap.size ≤ w.heap.size + 1; omega) (.int .i64 ((wtS p (gO xs) k).2.length : Int))
          have y0 := (World.cell?_setCell_other (w4.setCell ⟨wr.heap.size, 0, none⟩ (.int .i64 (gt (wtS p (gO xs) k).1 j))) ⟨w.heap.size + 1, k, none⟩ ⟨wr.heap.size, 0, none⟩ (.int .i64 ((wtS p (gO xs) k).2.length : Int)) (fun e => by injection e with e2 _; omega)).trans ((HN5.out.get 0 rfl).cell 0 rfl)
          have y1 := (World.cell?_setCell_other (w4.setCell ⟨wr.heap.size, 0, none⟩ (.int .i64 (gt (wtS p (gO xs) k).1 j))) ⟨w.heap.size + 1, k, none⟩ ⟨wr.heap.size, 1, none⟩ (.int .i64 ((wtS p (gO xs) k).2.length : Int)) (fun e => by injection e with e2 _; omega)).trans ((HN5.out.get 0 rfl).cell 1 rfl)
          have y2 := (World.cell?_setCell_other (w4.setCell ⟨wr.heap.size, 0, none⟩ (.int .i64 (gt (wtS p (gO xs) k).1 j))) ⟨w.heap.size + 1, k, none⟩ ⟨wr.heap.size, 2, none⟩ (.int .i64 ((wtS p (gO xs) k).2.length : Int)) (fun e => by injection e with e2 _; omega)).trans ((HN5.out.get 0 rfl).cell 2 rfl)
          have y3 := (World.cell?_setCell_other (w4.setCell ⟨wr.heap.size, 0, none⟩ (.int .i64 (gt (wtS p (gO xs) k).1 j))) ⟨w.heap.size + 1, k, none⟩ ⟨wr.heap.size, 3, none⟩ (.int .i64 ((wtS p (gO xs) k).2.length : Int)) (fun e => by injection e with e2 _; omega)).trans ((HN5.out.get 0 rfl).cell 3 rfl)
          have y4 := (World.cell?_setCell_other (w4.setCell ⟨wr.heap.size, 0, none⟩ (.int .i64 (gt (wtS p (gO xs) k).1 j))) ⟨w.heap.size + 1, k, none⟩ ⟨wr.heap.size, 4, none⟩ (.int .i64 ((wtS p (gO xs) k).2.length : Int)) (fun e => by injection e with e2 _; omega)).trans ((HN5.out.get 0 rfl).cell 4 rfl)
          have y5 := (World.cell?_setCell_other (w4.setCell ⟨wr.heap.size, 0, none⟩ (.int .i64 (gt (wtS p (gO xs) k).1 j))) ⟨w.heap.size + 1, k, none⟩ ⟨wr.heap.size, 5, none⟩ (.int .i64 ((wtS p (gO xs) k).2.length : Int)) (fun e => by injection e with e2 _; omega)).trans ((HN5.out.get 0 rfl).cell 5 rfl)
          have y6 := (World.cell?_setCell_other (w4.setCell ⟨wr.heap.size, 0, none⟩ (.int .i64 (gt (wtS p (gO xs) k).1 j))) ⟨w.heap.size + 1, k, none⟩ ⟨wr.heap.size, 6, none⟩ (.int .i64 ((wtS p (gO xs) k).2.length : Int)) (fun e => by injection e with e2 _; omega)).trans ((HN5.out.get 0 rfl).cell 6 rfl)
          have zY : Y.heap.size = (w4.setCell ⟨wr.heap.size, 0, none⟩ (.int .i64 (gt (wtS p (gO xs) k).1 j))).heap.size := by rw [hY]; simp
          rw [← hY] at P6 W6 B6 y0 y1 y2 y3 y4 y5 y6
          have HY := hide hY
          have HP6 := hide P6
          have HW6 := hide W6
          have HB6 := hide B6
          have HZY := hide zY
          clear hY P6 W6 B6 zY
          go_upto_region 13 with fail
          rw [← HY.out]
          clear HY pk pf pj n0 nf
          have hZY := HZY.out
          have l8 := Hlk.out.2
          have hY2 : w.heap.size + 2 ≤ Y.heap.size := by omega
          have hYr : wr.heap.size + 1 ≤ Y.heap.size := by omega
          clear hZY
          have HX2 : Hid (Below Y.heap.size Y (Y.alloc (.cells #[.int .i64 (gt (wtS p (gO xs) k).1 j), .int .i64 (gO xs k).2.1, .int .i64 (gO xs k).2.2.1, .slice (la1 (2 * k)) (gO xs k).2.2.2.1.length (lc1 (2 * k)), .int .i64 (gO xs k).2.2.2.2.1, .int .i64 (gO xs k).2.2.2.2.2.1, .slice (la1 (2 * k + 1)) (gO xs k).2.2.2.2.2.2.length (lc1 (2 * k + 1))] 57))) := (Below.refl _ _).alloc (Nat.le_refl _) _
          have HOW2 := hide (HW6.out.below HX2.out).own
          have HNW : Hid (∀ q y, (v7 ((gt (wtS p (gO xs) k).1 j), (gO xs k).2) (la1 (2 * k)) (lc1 (2 * k)) (la1 (2 * k + 1)) (lc1 (2 * k + 1)))[q]? = some y → (Y.alloc (.cells #[.int .i64 (gt (wtS p (gO xs) k).1 j), .int .i64 (gO xs k).2.1, .int .i64 (gO xs k).2.2.1, .slice (la1 (2 * k)) (gO xs k).2.2.2.1.length (lc1 (2 * k)), .int .i64 (gO xs k).2.2.2.2.1, .int .i64 (gO xs k).2.2.2.2.2.1, .slice (la1 (2 * k + 1)) (gO xs k).2.2.2.2.2.2.length (lc1 (2 * k + 1))] 57)).cell? ((Addr.mk Y.heap.size 0 none).add q) = some y) := World.news_of_block (t := 57) (fr := (0, 0)) (heap_alloc_new Y _)
          go_wp2_with (first
            | (at_builtin; go_loud (refine wpList_append_lies _ rfl _ _ 30 rfl B 57 i0 (.agg #[.int .i64 0, .int .i64 0, .int .i64 0, .slice none 0 0, .int .i64 0, .int .i64 0, .slice none 0 0]) 7 88 Try.underlying30 hi hz0 hz1 hz2 rfl (by decide) (Value.slice ra (wtS p (gO xs) k).2.length rc) _ _ rfl HOW2.out ⟨Y.heap.size, 0, none⟩ 1 1 (v7 ((gt (wtS p (gO xs) k).1 j), (gO xs k).2) (la1 (2 * k)) (lc1 (2 * k)) (la1 (2 * k + 1)) (lc1 (2 * k + 1))) rfl rfl HNW.out (v7_one _ _ _ _ _) (by omega) (by unfold maxLen; omega) (by omega) (by simp; omega) (Y.heap.size + 1) (by simp) ?_))
            | go_in)
          intro g2 cp2 w6 hown6 hg6 hat6 hlt6
          rw [← HUW.out] at hown6
          have zx2 : (Y.alloc (.cells #[.int .i64 (gt (wtS p (gO xs) k).1 j), .int .i64 (gO xs k).2.1, .int .i64 (gO xs k).2.2.1, .slice (la1 (2 * k)) (gO xs k).2.2.2.1.length (lc1 (2 * k)), .int .i64 (gO xs k).2.2.2.2.1, .int .i64 (gO xs k).2.2.2.2.2.1, .slice (la1 (2 * k + 1)) (gO xs k).2.2.2.2.2.2.length (lc1 (2 * k + 1))] 57)).heap.size = Y.heap.size + 1 := by simp
          have hB7 := HB6.out.trans (HX2.out.mono HB6.out.size)
          have HW7 := hide (HW6.out.push HX2.out hlt HGO.out (HOS.out _ hB7) (HCO.out.ge) HCO.out.ap (by omega) hg6 (hat6.imp id (fun e => by rw [e]; simp)) hown6)
          have HP7 := hide ((HP6.out.below HX2.out).of_block (hg6.block _ (by omega) (fun e => Hne.out _ e.symm rfl)) hg6.size)
          have HB7 := hide (hB7.grown hg6 (by omega) (fun q e => HW6.out.ge e))
          have HZ7 : Hid (w.heap.size + 2 ≤ w6.heap.size) := by show _ ≤ _; have := hg6.size; omega
          have HN7 : Hid (∀ b, (Value.slice (some ⟨g2, 0, none⟩) ((wtS p (gO xs) k).2.length + 1) cp2).ownBlock = some b → b ≠ w.heap.size + 1) := fun b e => by
            have e1 : g2 = b := by simpa [Value.ownBlock] using e
            rcases hat6 with hat | hat
            · exact Hne.out b (by rw [hat, e1])
            · omega
          clear hB7 hown6 hg6 hat6 hlt6 zx2 y0 y1 y2 y3 y4 y5 y6
          go_wp2
          go_roundw
          case rel => exact ⟨k + 1, _, _, by omega, rfl, by go_num, HB7.out, HZ7.out, HW7.out, HP7.out, HN7.out⟩
          case measure => simp [intOf]; omega
    · obtain rfl : k = n := by omega
      clear hW hP hne
      go_wp2
      go_ret
      exact ⟨_, _, rfl, HW.out, HB.out⟩

end Go.Proofs.Ytipfaoecodclaaa
