import Derived.Test.YtcojgmecocjnkaaGreatG35
import Derived.Test.YtcojgmecocjnkaaGreatG24
import Derived.Test.YtcojgmecocjnkaaGreatG16
import Derived.Test.YtcojgmecocjnkaaGreatG29
import Derived.Test.YtcojgmecocjnkaaGreatG1
import Derived.Test.YtcojgmecocjnkaaGreatG11
import Derived.WalkKit
import Derived.ProofKit
import Derived.OpenShut
import Derived.ShutString
import Derived.ChangeOld
import Derived.Below
import Derived.WalkSpells
import Derived.Deep.QuietTactic
import Derived.BigQuiet
import Derived.Deep.RegionWith
import Derived.Deep.WholeRow
import Derived.Deep.DeepCutAuto
import Derived.Deep.RegionHeld2
import Derived.Deep.AppendLies
import Derived.Deep.RegionLaw
namespace Go.Proofs.YtcojgmecocjnkaaGreat
open Go.ChangeShapes Go.WideShapes Go.ChangeAt Go.RowKit

theorem two_step {w : World} {B T b m n : Nat} {ra : Option Addr} {ls : List (Int × Int)} {g : Int} (ho : OWd (InR B T) ra n ls w) (hm : m < n) (hra : ra = some ⟨b, 0, none⟩) :
    (w.cell? ⟨b, m * 2, none⟩ = some (.int .i64 (gw ls m).1) ∧ w.cell? ⟨b, m * 2 + 1, none⟩ = some (.int .i64 (gw ls m).2) ∧ w.frozen? ⟨b, m * 2, none⟩ = false ∧ w.frozen? ⟨b, m * 2 + 1, none⟩ = false ∧ b < w.heap.size) ∧
      OWd (InR B T) ra n (ls.set m (0, g)) ((w.setCell ⟨b, m * 2, none⟩ (.int .i64 0)).setCell ⟨b, m * 2 + 1, none⟩ (.int .i64 g)) ∧ OutS (InR B T) w ((w.setCell ⟨b, m * 2, none⟩ (.int .i64 0)).setCell ⟨b, m * 2 + 1, none⟩ (.int .i64 g)) := by
  obtain ⟨hl, hn, h⟩ := ho
  rcases h with h | ⟨b', e, hb, blk⟩
  · omega
  · rw [hra] at e
    injection e with e
    injection e with e
    subst e
    refine ⟨⟨?_, ?_, blk.2.2 _, blk.2.2 _, blk.1⟩, ⟨by simp [hl], hn, .inr ⟨b, hra, hb, blk_two blk (by omega)⟩⟩, ((OutS.refl _ _).setCell hb _).setCell hb _⟩
    · have h := blk.2.1 (m * 2) (by rw [length_flw]; omega)
      rw [(gt_flw ls m).1] at h
      exact h
    · have h := blk.2.1 (m * 2 + 1) (by rw [length_flw]; omega)
      rw [(gt_flw ls m).2] at h
      exact h

set_option maxRecDepth 100000 in
theorem hasWords_calls (a : Option Addr) (n c : Nat) (f k : Int) (w : World) (hn : n ≤ maxLen) :
    Calls Tryz.prog 165 #[.agg #[.slice a n c], .int .i64 f, .int .i64 k] w fun e w' => e = .returned (.bool (hasW n f k)) ∧ Below w.heap.size w w' := by
  unfold maxLen at hn
  have HB := hide ((Below.refl w.heap.size w).alloc (Nat.le_refl _) (.cells #[.slice a n c] 46))
  cases h0 : up f (n : Int) with
  | false =>
    have HR : Hid (hasW n f k = false) := by show _ = _; unfold hasW; rw [h0]; rfl
    go_enter Tryz.func165, Tryz.ntmps165
    go_wp2_with (go_at_call 92; refine (isUpTo_calls _ _ _).mono ?_; rintro e w' ⟨rfl, rfl⟩)
    go_ret
    exact ⟨ret_bool HR.out.symm, HB.out⟩
  | true =>
    obtain ⟨h1, h2⟩ := up_iff.1 h0
    have HR : Hid (hasW n f k = up k ((n : Int) - f)) := by show _ = _; unfold hasW; rw [h0]; rfl
    go_enter Tryz.func165, Tryz.ntmps165
    go_wp2_with (go_at_call 92; refine (isUpTo_calls _ _ _).mono ?_; rintro e w' ⟨rfl, rfl⟩)
    go_ret
    exact ⟨ret_bool HR.out.symm, HB.out⟩

set_option maxRecDepth 100000 in
set_option maxHeartbeats 2000000 in
theorem implRetagWords_calls (a : Option Addr) (n c : Nat) (ls : List (Int × Int)) (p k g : Int) (w : World) (hn : n ≤ maxLen) (hs : Swd w a n ls) :
    Calls Tryz.prog 195 #[.agg #[.slice a n c], .int .i64 p, .int .i64 k, .int .i64 g] w fun e w' => ∃ ra rn rc, e = .returned (.agg #[.int .i64 (rtC ls p k g), .slice ra rn rc]) ∧ OWd (InR w.heap.size w'.heap.size) ra rn (rtL ls p k g) w' ∧ Below w.heap.size w w' := by
  have M0 := ((Mm.start w).alloc1 (.slice a n c) 46).alloc2 (.int .i64 0) (.slice none 0 0) 251
  try simp only [World.size_alloc] at M0
  have hlen := hs.1
  go_enter Tryz.func195, Tryz.ntmps195
  go_wp2_with fail
  refine (implMemoryFault_calls a n c ls 6 _ hn (hs.below M0.bel (Nat.le_refl _))).mono ?_
  rintro e w1 ⟨rfl, g1⟩
  have M1 := M0.below g1
  clear M0 g1
  by_cases hf : mfC 6 ls = 0
  rotate_left
  · obtain ⟨HC, HX⟩ : Hid (rtC ls p k g = mfC 6 ls) ∧ Hid (rtL ls p k g = []) := rtC_fault hf
    have hne : (mfC 6 ls != 0) = true := by simpa using hf
    have c0 := M1.cell 0 rfl
    have c1 := M1.cell 1 rfl
    have f0 := M1.fz 0 rfl
    have f1 := M1.fz 1 rfl
    have HB := hide M1.bel
    clear M1 hf
    go_wp2
    refine bodyPost_ret (v := .agg #[.int .i64 (mfC 6 ls), .slice none 0 0]) (by simp [results, Tryz.results195, go_sem, c0, c1]) rfl ⟨_, _, _, by rw [HC.out], by rw [HX.out]; exact OWd.nil _ _ _, ?_⟩
    exact (HB.out.setCell (by simp) _).setCell (by simp) _
  have hne : (mfC 6 ls != 0) = false := by simp [hf]
  have hle := mfC_len hf
  have q0 := M1.cell 2 rfl
  go_wp2_with fail
  refine (hasWords_calls a n c p k _ hn).mono ?_
  rintro e w2 ⟨rfl, g2⟩
  have M2 := M1.below g2
  have hs2 := hs.below M2.bel (Nat.le_refl _)
  clear M1 g2 q0
  cases h1 : hasW n p k with
  | false =>
    obtain ⟨HC, HX⟩ : Hid (rtC ls p k g = 3) ∧ Hid (rtL ls p k g = []) := rtC_out hf (by rw [hlen, h1]; rfl)
    have c0 := M2.cell 0 rfl
    have c1 := M2.cell 1 rfl
    have f0 := M2.fz 0 rfl
    have f1 := M2.fz 1 rfl
    have HB := hide M2.bel
    clear M2 hf hne
    go_wp2
    refine bodyPost_ret (v := .agg #[.int .i64 3, .slice none 0 0]) (by simp [results, Tryz.results195, go_sem, c0, c1]) rfl ⟨_, _, _, by rw [HC.out], by rw [HX.out]; exact OWd.nil _ _ _, ?_⟩
    exact (HB.out.setCell (by simp) _).setCell (by simp) _
  | true =>
    go_wp2_with fail
    refine (isUpTo_calls g 6 _).mono ?_
    rintro e w3 ⟨rfl, hw3⟩
    subst hw3
    cases h4 : up g 6 with
    | false =>
      obtain ⟨HC, HX⟩ : Hid (rtC ls p k g = 3) ∧ Hid (rtL ls p k g = []) := rtC_out hf (by rw [h4]; simp)
      have c0 := M2.cell 0 rfl
      have c1 := M2.cell 1 rfl
      have f0 := M2.fz 0 rfl
      have f1 := M2.fz 1 rfl
      have HB := hide M2.bel
      clear M2 hf hne
      go_wp2
      refine bodyPost_ret (v := .agg #[.int .i64 3, .slice none 0 0]) (by simp [results, Tryz.results195, go_sem, c0, c1]) rfl ⟨_, _, _, by rw [HC.out], by rw [HX.out]; exact OWd.nil _ _ _, ?_⟩
      exact (HB.out.setCell (by simp) _).setCell (by simp) _
    | true =>
      obtain ⟨HC, HX⟩ : Hid (rtC ls p k g = 0) ∧ Hid (rtL ls p k g = rtK ls p.toNat g k.toNat) := rtC_ok hf (by rw [hlen, h1, h4]; rfl)
      obtain ⟨h2, h3⟩ : (0 ≤ p ∧ p ≤ (n : Int)) ∧ (0 ≤ k ∧ k ≤ (n : Int) - p) := by unfold hasW at h1; rw [Bool.and_eq_true] at h1; exact ⟨up_iff.1 h1.1, up_iff.1 h1.2⟩
      obtain ⟨f, rfl⟩ : ∃ j : Nat, p = (j : Int) := ⟨p.toNat, by omega⟩
      obtain ⟨m, rfl⟩ : ∃ j : Nat, k = (j : Int) := ⟨k.toNat, by omega⟩
      have hfm : f + m ≤ n := by omega
      rw [Int.toNat_natCast, Int.toNat_natCast] at HX
      have q3 := M2.cell 2 rfl
      have z2 := M2.lt 0 rfl
      clear hf hne h1 h2 h3
      go_wp2_with fail
      refine (copiedMemory_O a n c ls _ (by omega) hs2).mono ?_
      rintro e w4 ⟨ra, rc, rfl, ow, g4⟩
      have z4 := g4.size
      have M4 := (M2.below g4).alloc1 (.slice ra n rc) 46
      have ow4 : OWd (InR (w.heap.size + 2) w4.heap.size) ra n ls (w4.alloc (.cells #[.slice ra n rc] 46)) := (OWd.loc.alloc ow _).mono (fun k hk => ⟨by have := hk.1; omega, hk.2⟩)
      clear M2 g4 ow q3 hs2
      have HM := hide M4
      have HO := hide ow4
      clear M4 ow4
      go_wp2
      go_loopw [32] (fun i wr => ∃ j : Nat, j ≤ m ∧ i = .int .i64 j ∧ OWd (InR (w.heap.size + 2) w4.heap.size) ra n (rtK ls f g j) wr ∧ Mm w wr [(w4.heap.size, 0, .slice ra n rc), (w.heap.size + 1, 0, .int .i64 0), (w.heap.size + 1, 1, .slice none 0 0), (w.heap.size, 0, .slice a n c)] []) (fun i _ => m - (intOf i).toNat)
      case atStart => exact ⟨0, Nat.zero_le _, rfl, HO.out, HM.out⟩
      case round =>
        obtain ⟨j, hj, rfl, how, M⟩ := hrel
        have v0 := M.cell 0 rfl
        by_cases hlt : j < m
        · obtain ⟨b, rfl, hbS⟩ := owd_some how (by omega)
          obtain ⟨⟨r0, r1, e0, e1, hb⟩, hnew, hstep⟩ := two_step (g := g) how (show f + j < n by omega) rfl
          obtain ⟨q, hq⟩ : ∃ q : Nat, q = f + j := ⟨_, rfl⟩
          rw [← hq] at r0 r1 e0 e1 hnew hstep
          have hqi : (f : Int) + (j : Int) = (q : Int) := by omega
          have hqn : q < n := by omega
          have hM' := M.out hstep (by omega) (by simp) (by simp)
          have HW := hide hnew
          have HM1 := hide hM'
          have HQ := hide hq
          clear how M hnew hstep hM' hq
          go_wp2
          go_roundw
          case rel =>
            refine ⟨j + 1, by omega, by go_num, ?_, HM1.out⟩
            show OWd _ _ _ ((rtK ls f g j).set (f + j) (0, g)) _
            rw [← HQ.out]
            exact HW.out
          case measure => simp [intOf]; omega
        · have e : j = m := by omega
          subst e
          have c0 := M.cell 1 rfl
          have c1 := M.cell 2 rfl
          have f0 := M.fz 1 rfl
          have f1 := M.fz 2 rfl
          have HB := hide M.bel
          have HO5 := hide how
          have zz := M.lt 0 rfl
          clear M how
          go_wp2
          refine bodyPost_ret (v := .agg #[.int .i64 0, .slice ra n rc]) (by simp [results, Tryz.results195, go_sem, c0, c1]) rfl ⟨_, _, _, by rw [HC.out], ?_, (HB.out.setCell (by simp) _).setCell (by simp) _⟩
          rw [HX.out]
          exact (OWd.loc.setC (OWd.loc.setC HO5.out (fun h => by have h1 : w.heap.size + 2 ≤ w.heap.size + 1 := h.1; omega) _) (fun h => by have h1 : w.heap.size + 2 ≤ w.heap.size + 1 := h.1; omega) _).mono (fun k hk => ⟨by have := hk.1; omega, by have := hk.2; simp; omega⟩)

/-- the memory of a system of our own behind a pointer is another one, in new blocks. -/
theorem YM.newW {P o : Nat} {S : Nat → Prop} {A : SA} {D : SD} {X : World} (h : YM P o S A D X) {b e : Nat} (hs : ∀ k, S k → k < b) (hP : P < b) {ra : Option Addr} {rn rc : Nat} {ws : List (Int × Int)} (hn : rn = A.wn) (hw : OWd (InR b e) ra rn ws X) :
    YM P o (fun k => S k ∨ (b ≤ k ∧ k < e)) { A with wa := ra, wn := rn, wc := rc } { D with ws := ws } (X.setCell ⟨P, o + 3, none⟩ (.slice ra rn rc)) := by
  obtain ⟨Q, q1, q2, q3, q4, q5, q6⟩ := h.y
  have c3 := h.cs.cell 3 rfl
  have hne : ∀ i k, Q i k → k ≠ P := fun i k e e2 => h.ns (e2 ▸ q1 _ _ e)
  have hk : ∀ j k, Q j k → k < X.heap.size → (X.setCell ⟨P, o + 3, none⟩ (.slice ra rn rc)).heap[k]? = X.heap[k]? := fun j k e _ => Below.heap_setCell _ _ _ _ (hne j k e)
  refine ⟨?_, fun j => by simpa using h.fz j, fun e => ?_, by simpa using h.lt, ?_⟩
  · have ot : ∀ {i : Nat} {v : Value}, i ≠ 3 → X.cell? ⟨P, o + i, none⟩ = some v → (X.setCell ⟨P, o + 3, none⟩ (.slice ra rn rc)).cell? ⟨P, o + i, none⟩ = some v := fun {i v} hi hv => by
      rw [World.cell?_setCell_other _ _ _ _ (fun e => by injection e with _ e2; omega)]
      exact hv
    intro i hi
    simp only [List.length_cons, List.length_nil] at hi
    rcases (by omega : i = 0 ∨ i = 1 ∨ i = 2 ∨ i = 3 ∨ i = 4 ∨ i = 5 ∨ i = 6 ∨ i = 7 ∨ i = 8 ∨ i = 9 ∨ i = 10) with rfl | rfl | rfl | rfl | rfl | rfl | rfl | rfl | rfl | rfl | rfl
    · exact ot (by decide) (h.cs.cell 0 rfl)
    · exact ot (by decide) (h.cs.cell 1 rfl)
    · exact ot (by decide) (h.cs.cell 2 rfl)
    · exact World.cell?_setCell_same _ _ _ c3
    · exact ot (by decide) (h.cs.cell 4 rfl)
    · exact ot (by decide) (h.cs.cell 5 rfl)
    · exact ot (by decide) (h.cs.cell 6 rfl)
    · exact ot (by decide) (h.cs.cell 7 rfl)
    · exact ot (by decide) (h.cs.cell 8 rfl)
    · exact ot (by decide) (h.cs.cell 9 rfl)
    · exact ot (by decide) (h.cs.cell 10 rfl)
  · rcases e with e | e
    · exact h.ns e
    · omega
  · refine ⟨fun i k => if i = 1 then (b ≤ k ∧ k < e) else Q i k, fun i k e => ?_, fun i j k hij e e2 => ?_, ?_, q4, ?_, ?_⟩
    · simp only at e
      split at e
      · exact .inr e
      · exact .inl (q1 _ _ e)
    · simp only at e e2
      split at e
      · rw [if_neg (by omega)] at e2
        have := hs k (q1 _ _ e2)
        omega
      · split at e2
        · have := hs k (q1 _ _ e)
          omega
        · exact q2 i j k hij e e2
    · unfold szY at q3 ⊢
      simp only
      omega
    · exact ⟨OT.loc X _ (fun k e hl => hk 0 k e hl) q5.t, OWd.loc X _ (fun k e hl => Below.heap_setCell _ _ _ _ (fun e2 => by have : k = P := e2; have := e.1; omega)) hw, OX.loc X _ (fun k e hl => hk 2 k e hl) q5.x, OL.loc X _ (fun k e hl => hk 3 k e hl) q5.l, OS.loc X _ (fun k e hl => hk 4 k e hl) q5.o, OWd.loc X _ (fun k e hl => hk 5 k e hl) q5.g⟩
    · exact ⟨RW.loc X _ (fun k e hl => hk 4 k e hl) q6.1, RLn.loc X _ (fun k e hl => hk 3 k e hl) q6.2.1, RSl.loc X _ (fun k e hl => hk 0 k e hl) q6.2.2⟩

theorem fieldIR (c v : Value) (w : World) : (Instr.field 225 (.agg #[c, v]) 1).run Tryz.prog w = .ok v w := by kernel_rfl
theorem fieldMR (c v : Value) (w : World) : (Instr.field 251 (.agg #[c, v]) 1).run Tryz.prog w = .ok (.agg #[v]) w := by kernel_rfl

set_option maxRecDepth 100000 in
set_option maxHeartbeats 1000000 in
theorem activeMayWrite_calls (P : Nat) (A : SA) (D : SD) (k : Nat) (t : Int) (w : World) (c0 : w.cell? ⟨P, 0, none⟩ = some (.slice A.a A.n A.c)) (c1 : w.cell? ⟨P, 1, none⟩ = some (.slice A.ta A.tn A.tc)) (c2 : w.cell? ⟨P, 2, none⟩ = some (.slice A.da A.dn A.dc)) (c5 : w.cell? ⟨P, 5, none⟩ = some (.int .i64 (k : Int))) (hl : P < w.heap.size) (hrt : RT w A.a A.n D.ss A.ta A.tn D.ts A.da A.dn D.ds) (hac : D.ac = (k : Int)) :
    Calls Tryz.prog 194 #[.pointer (some ⟨P, 0, none⟩), .int .i64 t] w fun e w' => e = .returned (.bool (mayW D t)) ∧ Below w.heap.size w w' := by
  have HC := hide (implPermOf_calls A.a A.n A.c D.ss A.ta A.tn A.tc D.ts A.da A.dn A.dc D.ds (k : Int) t w.drew (hrt.below (Below.refl _ _).drew (Nat.le_refl _)))
  have hm : mayW D t = (pmV D.ss D.ts D.ds (k : Int) t == 7) := by unfold mayW; rw [hac]
  rw [hm]
  have fd := fieldIR
  clear hm hrt
  rcases pmV_in D.ss D.ts D.ds (k : Int) t with hv | hv | hv
  all_goals (
    have HV := hide hv
    have HS0 : Hid (w.drew.cell? ⟨P, 0, none⟩ = some (.slice A.a A.n A.c) ∧ w.drew.cell? ⟨P, 1, none⟩ = some (.slice A.ta A.tn A.tc) ∧ w.drew.cell? ⟨P, 2, none⟩ = some (.slice A.da A.dn A.dc) ∧ w.drew.cell? ⟨P, 5, none⟩ = some (.int .i64 (k : Int)) ∧ Below w.heap.size w w.drew) := ⟨c0, c1, c2, c5, (Below.refl _ _).drew⟩
    clear hv
    go_enter Tryz.func194, Tryz.ntmps194
    go_wp2_with fail
    go_region_held2 (fun W => W.cell? ⟨P, 0, none⟩ = some (.slice A.a A.n A.c) ∧ W.cell? ⟨P, 1, none⟩ = some (.slice A.ta A.tn A.tc) ∧ W.cell? ⟨P, 2, none⟩ = some (.slice A.da A.dn A.dc) ∧ W.cell? ⟨P, 5, none⟩ = some (.int .i64 (k : Int)) ∧ Below w.heap.size w W)
      (first | with_reducible exact HS0.out | with_reducible assumption)
      (first | (go_at_call 164; refine HC.out.mono ?_; rintro e wa ⟨rfl, ga⟩; rw [HV.out]; have ha := q4_below (W := w) hl hl hl hl HS0.out ga; clear ga))
    all_goals (
      go_wp2
      go_ret
      exact ⟨ret_bool (by rw [HV.out]; rfl), q4_bel ha⟩))

/-- what retagForActive does. -/
def RtP (P : Nat) (S : Nat → Prop) (D : SD) (f n t : Int) (w : World) (e : Ending) (w' : World) : Prop :=
  (rsB D f n t = true ∧ e = .returned (.tuple #[]) ∧ (∃ B, YM P 0 (fun q => S q ∨ (w.heap.size ≤ q ∧ q < w'.heap.size)) B (rtD D f n t) w') ∧ OutS (fun q => S q ∨ q = P) w w') ∨
    (rsB D f n t = false ∧ (∃ t pv, e = .panicked [{ v := .iface t pv, recovered := false }]) ∧ Below w.heap.size w w')

set_option maxRecDepth 100000 in
set_option maxHeartbeats 4000000 in
theorem retagFor_calls (P : Nat) (S : Nat → Prop) (A : SA) (D : SD) (k : Nat) (f n t : Int) (w : World) (hy : YM P 0 S A D w) (H : SysR A D k) (hcap : A.wn ≤ A.wc) (hS : ∀ q, S q → q < w.heap.size) :
    Calls Tryz.prog 137 #[.pointer (some ⟨P, 0, none⟩), .int .i64 f, .int .i64 n, .int .i64 t] w (RtP P S D f n t w) := by
  have hr := hy.y.oy.rs
  obtain ⟨k0, k1, k2, k3, k4, k5, k6, k7⟩ := hr.len
  have x0 := hy.cs.cell 0 rfl
  have x1 := hy.cs.cell 1 rfl
  have x2 := hy.cs.cell 2 rfl
  have x3 := hy.cs.cell 3 rfl
  have x5 := hy.cs.cell 5 rfl
  simp only [Nat.zero_add] at x0 x1 x2 x3 x5
  rw [H.ac] at x5
  have hPl := hy.lt
  have hw32 : A.wn ≤ 32 := by have := mfC_len H.mf; omega
  have HY := hide hy
  have HW := hide (hasWords_calls A.wa A.wn A.wc f n w hr.wm)
  have hrt := hr.rt
  have hac := H.ac
  cases h8 : inW n with
  | false =>
    have hno : rsB D f n t = false := by unfold rsB; rw [h8]; rfl
    have HNo := hide hno
    by_cases n1 : 1 ≤ n
    · have n2 : ¬ n ≤ 8 := fun h => by unfold inW at h8; simp [n1, h] at h8
      clear hno hy hr H hrt h8
      go_enter Tryz.func137, Tryz.ntmps137
      go_wp2_with (go_at_call 191; fail)
      refine (insist_no _).mono ?_
      rintro e w' ⟨⟨t, pv, rfl⟩, hw'⟩
      rw [hw']
      exact ⟨rfl, .inr ⟨HNo.out, ⟨t, pv, rfl⟩, Below.refl _ _⟩⟩
    · clear hno hy hr H hrt h8
      go_enter Tryz.func137, Tryz.ntmps137
      go_wp2_with (go_at_call 191; fail)
      refine (insist_no _).mono ?_
      rintro e w' ⟨⟨t, pv, rfl⟩, hw'⟩
      rw [hw']
      exact ⟨rfl, .inr ⟨HNo.out, ⟨t, pv, rfl⟩, Below.refl _ _⟩⟩
  | true =>
  have u2 : 1 ≤ n ∧ n ≤ 8 := by
    unfold inW at h8
    rw [Bool.and_eq_true] at h8
    exact ⟨of_decide_eq_true h8.1, of_decide_eq_true h8.2⟩
  obtain ⟨n1, n2⟩ := u2
  cases hw : hasW A.wn f n with
  | false =>
    have HNo : Hid (rsB D f n t = false) := by show _ = _; unfold rsB; rw [h8, k3, hw]; rfl
    clear hy hr H hrt
    go_enter Tryz.func137, Tryz.ntmps137
    go_wp2_with (first | (go_at_call 165; fail) | (go_at_call 191; fail))
    refine HW.out.mono ?_
    rintro e w1 ⟨rfl, g1⟩
    rw [hw]
    go_wp2_with (go_at_call 191; fail)
    refine (insist_no _).mono ?_
    rintro e w' ⟨⟨t, pv, rfl⟩, hw'⟩
    rw [hw']
    exact ⟨rfl, .inr ⟨HNo.out, ⟨t, pv, rfl⟩, g1⟩⟩
  | true =>
  obtain ⟨v0, v1⟩ : up f (A.wn : Int) = true ∧ up n ((A.wn : Int) - f) = true := by unfold hasW at hw; rwa [Bool.and_eq_true] at hw
  have u0 := up_iff.1 v0
  have u1 := up_iff.1 v1
  obtain ⟨fN, rfl⟩ : ∃ j : Nat, f = (j : Int) := ⟨f.toNat, by omega⟩
  obtain ⟨nN, rfl⟩ : ∃ j : Nat, n = (j : Int) := ⟨n.toNat, by omega⟩
  have hfn : fN + nN ≤ A.wn := by omega
  have hn8 : nN ≤ 8 := by omega
  obtain ⟨bw, ow, hwa, hbw, hcw⟩ := hr.ws.2 (by omega)
  have hrW := hr.ws
  have HH := hide H
  have HMf := hide H.mf
  have hrm := hr.wm
  clear hy hr H v0 v1 u0 u1
  have HWA := hide hwa
  clear hwa
  go_enter Tryz.func137, Tryz.ntmps137
  go_wp2_with (first | (go_at_call 165; fail) | (go_at_call 191; fail))
  refine HW.out.mono ?_
  rintro e w1 ⟨rfl, g1⟩
  rw [hw]
  have y0 := (g1.cell (p := ⟨P, 0, none⟩) hPl).trans x0
  have y1 := (g1.cell (p := ⟨P, 1, none⟩) hPl).trans x1
  have y2 := (g1.cell (p := ⟨P, 2, none⟩) hPl).trans x2
  have y5 := (g1.cell (p := ⟨P, 5, none⟩) hPl).trans x5
  have HC := hide (activeMayWrite_calls P A D k t w1 y0 y1 y2 y5 (Nat.lt_of_lt_of_le hPl g1.size) (hrt.below g1 (Nat.le_refl _)) hac)
  clear y0 y1 y2 y5
  go_wp2_with (first | (go_at_call 191; refine (insist_yes _).mono ?_; rintro e w' ⟨rfl, hw'⟩; rw [hw']; clear hw' w') | (go_at_call 194; fail))
  refine HC.out.mono ?_
  rintro e w2 ⟨rfl, g2⟩
  have B2 := g1.trans (g2.mono g1.size)
  clear g1 g2 HC HW
  cases hm : mayW D t with
  | false =>
    have HNo : Hid (rsB D (fN : Int) (nN : Int) t = false) := by show _ = _; unfold rsB; rw [hm, Bool.and_false, Bool.false_and]
    go_wp2_with (go_at_call 191; fail)
    refine (insist_no _).mono ?_
    rintro e w' ⟨⟨t, pv, rfl⟩, hw'⟩
    rw [hw']
    exact ⟨rfl, .inr ⟨HNo.out, ⟨t, pv, rfl⟩, B2⟩⟩
  | true =>
  have HB : Hid (rsB D (fN : Int) (nN : Int) t = (List.range nN).all (fun i => mayW D (gw D.ws (fN + i)).2)) := by
    show _ = _
    unfold rsB
    rw [h8, k3, hw, hm]
    simp only [Int.toNat_natCast, Bool.and_self, Bool.true_and]
  have ht6 : 0 ≤ t ∧ t ≤ 6 := by
    have h := may_tag hm
    unfold hasT at h
    rw [Bool.and_eq_true] at h
    have a := of_decide_eq_true h.1
    have b := of_decide_eq_true h.2
    have := HH.out.t6
    omega
  have HRt := hide (rtC_ok (mf_six HMf.out (by have := HH.out.t6; omega)) (f := (fN : Int)) (k := (nN : Int)) (g := t) (by rw [k3, hw]; exact up_iff.2 ht6))
  have z3 := (B2.cell (p := ⟨P, 3, none⟩) hPl).trans x3
  rw [HWA.out] at z3
  have HX3 := hide x3
  clear x3
  have i1 : (0 : Int) ≤ (fN : Int) := by omega
  have i2 : (fN : Int) ≤ (fN : Int) + (nN : Int) := by omega
  have i3 : (fN : Int) + (nN : Int) ≤ (A.wc : Int) := by omega
  have i4 : (nN : Int) ≤ 8 := by omega
  have i5 : (fN : Int) + (nN : Int) ≤ 32 := by omega
  have HB2 := hide B2
  clear B2
  go_wp2_with (go_at_call 191; refine (insist_yes _).mono ?_; rintro e w' ⟨rfl, hw'⟩; rw [hw']; clear hw' w')
  simp only [Nat.add_sub_cancel_left]
  go_loopw [41] (fun i wr => ∃ m : Nat, m ≤ nN ∧ i = .int .i64 m ∧ Below w.heap.size w wr ∧ ∀ j, j < m → mayW D (gw D.ws (fN + j)).2 = true) (fun i _ => nN - (intOf i).toNat)
  case atStart => exact ⟨0, Nat.zero_le _, rfl, HB2.out, fun j hj => by omega⟩
  case round =>
    obtain ⟨m, m2, rfl, hbel, hall⟩ := hrel
    have HA : Hid (∀ j, j < m → mayW D (gw D.ws (fN + j)).2 = true) := hall
    clear hall z3
    have yl := Nat.lt_of_lt_of_le hPl hbel.size
    by_cases hlt : m < nN
    · have j1 : (m : Int) < (nN : Int) := by omega
      have j2 : (0 : Int) ≤ (m : Int) := by omega
      have ct0 := (hbel.cell (p := ⟨bw, ow + ((fN + m) * 2), none⟩) hbw).trans (hcw ((fN + m) * 2) (by omega))
      have ct1 := (hbel.cell (p := ⟨bw, ow + ((fN + m) * 2 + 1), none⟩) hbw).trans (hcw ((fN + m) * 2 + 1) (by omega))
      rw [(gt_flw D.ws (fN + m)).1, show ow + (fN + m) * 2 = ow + fN * 2 + m * 2 by omega] at ct0
      rw [(gt_flw D.ws (fN + m)).2, show ow + ((fN + m) * 2 + 1) = ow + fN * 2 + m * 2 + 1 by omega] at ct1
      have al := hbel.alloc hbel.size (.cells #[.int .i64 (gw D.ws (fN + m)).1, .int .i64 (gw D.ws (fN + m)).2] 129)
      have y0 := (al.cell (p := ⟨P, 0, none⟩) hPl).trans x0
      have y1 := (al.cell (p := ⟨P, 1, none⟩) hPl).trans x1
      have y2 := (al.cell (p := ⟨P, 2, none⟩) hPl).trans x2
      have y5 := (al.cell (p := ⟨P, 5, none⟩) hPl).trans x5
      have HM := hide (activeMayWrite_calls P A D k (gw D.ws (fN + m)).2 _ y0 y1 y2 y5 (Nat.lt_of_lt_of_le hPl al.size) (hrt.below al (Nat.le_refl _)) hac)
      have HAL := hide al
      clear y0 y1 y2 y5 al
      go_wp2_with (first | (go_at_call 194; fail) | (go_at_call 191; fail))
      refine HM.out.mono ?_
      rintro e w3 ⟨rfl, g3⟩
      have HB3 := hide (HAL.out.trans (g3.mono HAL.out.size))
      cases hmm : mayW D (gw D.ws (fN + m)).2 with
      | false =>
        have HNo : Hid (rsB D (fN : Int) (nN : Int) t = false) := by
          show _ = _
          rw [HB.out, List.all_eq_false]
          exact ⟨m, List.mem_range.2 hlt, by rw [hmm]; simp⟩
        clear g3 hbel HAL HM
        go_wp2_with (go_at_call 191; fail)
        refine (insist_no _).mono ?_
        rintro e w' ⟨⟨t, pv, rfl⟩, hw'⟩
        rw [hw']
        exact ⟨rfl, .inr ⟨HNo.out, ⟨t, pv, rfl⟩, HB3.out⟩⟩
      | true =>
        have HMM := hide hmm
        clear g3 hbel HAL HM hmm
        go_wp2_with (go_at_call 191; refine (insist_yes _).mono ?_; rintro e w' ⟨rfl, hw'⟩; rw [hw']; clear hw' w')
        go_roundw
        case rel => exact ⟨m + 1, by omega, by go_num, HB3.out, fun j hj => by (by_cases e : j < m); exact HA.out j e; (rw [show j = m by omega]; exact HMM.out)⟩
        case measure => simp [intOf]; omega
    · obtain rfl : m = nN := by omega
      have hyes : rsB D (fN : Int) (m : Int) t = true := by
        rw [HB.out, List.all_eq_true]
        intro i hi
        exact HA.out i (List.mem_range.1 hi)
      have HR := hide (rs_yes hyes)
      have HYes := hide hyes
      have j1 : ¬ ((m : Int) < (m : Int)) := by omega
      have y3 := (hbel.cell (p := ⟨P, 3, none⟩) hPl).trans HX3.out
      have HC2 := hide (implRetagWords_calls A.wa A.wn A.wc D.ws (fN : Int) (m : Int) t wr hrm (hrW.below hbel (Nat.le_refl _)))
      have HBL := hide hbel
      have fd := fieldMR
      clear hyes HA
      go_wp2_with (go_at_call 195; fail)
      refine HC2.out.mono ?_
      rintro e w3 ⟨ra, rn, rc, rfl, how, g3⟩
      rw [HRt.out.2] at how
      obtain rfl : rn = A.wn := by have := how.1; rw [length_rtK] at this; omega
      simp only [Int.toNat_natCast] at how
      have B3 := HBL.out.trans (g3.mono HBL.out.size)
      have y3 := (B3.cell (p := ⟨P, 3, none⟩) hPl).trans HX3.out
      have f3 := (HY.out.below B3).fz 3
      have HF := hide ((HY.out.below B3).newW (b := wr.heap.size) (e := w3.heap.size) (fun q hq => Nat.lt_of_lt_of_le (hS q hq) HBL.out.size) yl (rc := rc) rfl how)
      have HU := hide (((OutS.of_below (S := fun q => S q ∨ q = P) B3).setCell (p := ⟨P, 0 + 3, none⟩) (by exact .inr rfl) (.slice ra A.wn rc)))
      simp only [Nat.zero_add] at HF HU
      have zB := HBL.out.size
      clear how g3 B3
      go_wp2
      refine bodyPost_end (v := .tuple #[]) (by simp [results, Tryz.results137, go_sem]) rfl ?_
      refine Or.inl ⟨HYes.out, rfl, ⟨{ A with wa := ra, wn := A.wn, wc := rc }, ?_⟩, HU.out⟩
      rw [HR.out.1]
      simp only [Int.toNat_natCast]
      exact HF.out.mono (fun q e => by rcases e with e | e; exact .inl e; exact .inr ⟨by omega, by simpa using e.2⟩) (fun e => by rcases e with e | e; exact HY.out.ns e; omega)

theorem retagForActive_yes (P : Nat) (S : Nat → Prop) (A : SA) (D : SD) (k : Nat) (f n t : Int) (w : World) (hy : YM P 0 S A D w) (H : SysR A D k) (hc : A.wn ≤ A.wc) (hS : ∀ q, S q → q < w.heap.size) (ho : rsB D f n t = true) :
    Calls Tryz.prog 137 #[.pointer (some ⟨P, 0, none⟩), .int .i64 f, .int .i64 n, .int .i64 t] w fun e w' => e = .returned (.tuple #[]) ∧ (∃ B, YM P 0 (fun q => S q ∨ (w.heap.size ≤ q ∧ q < w'.heap.size)) B (rtD D f n t) w') ∧ OutS (fun q => S q ∨ q = P) w w' :=
  (retagFor_calls P S A D k f n t w hy H hc hS).mono (fun _ _ h => by rcases h with h | h; exact h.2; exact absurd (ho.symm.trans h.1) (by simp))

theorem retagForActive_no (P : Nat) (S : Nat → Prop) (A : SA) (D : SD) (k : Nat) (f n t : Int) (w : World) (hy : YM P 0 S A D w) (H : SysR A D k) (hc : A.wn ≤ A.wc) (hS : ∀ q, S q → q < w.heap.size) (ho : rsB D f n t = false) :
    Calls Tryz.prog 137 #[.pointer (some ⟨P, 0, none⟩), .int .i64 f, .int .i64 n, .int .i64 t] w fun e w' => (∃ t pv, e = .panicked [{ v := .iface t pv, recovered := false }]) ∧ Below w.heap.size w w' :=
  (retagFor_calls P S A D k f n t w hy H hc hS).mono (fun _ _ h => by rcases h with h | h; exact absurd (ho.symm.trans h.1) (by simp); exact h.2)

end Go.Proofs.YtcojgmecocjnkaaGreat
