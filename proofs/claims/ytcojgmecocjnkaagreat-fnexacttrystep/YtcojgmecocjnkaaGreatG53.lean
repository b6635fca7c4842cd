import Derived.Test.YtcojgmecocjnkaaGreatG52
import Derived.Test.YtcojgmecocjnkaaGreatG16
import Derived.StillTailTactics
import Derived.WalkKit
import Derived.ProofKit
import Derived.OpenShut
import Derived.ShutString
import Derived.ChangeOld
import Derived.Below
import Derived.WalkSpells
import Derived.Deep.QuietTactic
import Derived.BigQuiet
import Derived.Deep.RegionWith
import Derived.Deep.WholeRow
import Derived.Deep.DeepCutAuto
import Derived.Deep.RegionHeld2
import Derived.Deep.AppendLies
import Derived.Deep.RegionLaw
namespace Go.Proofs.YtcojgmecocjnkaaGreat
open Go.ChangeShapes Go.WideShapes Go.ChangeAt Go.RowKit

set_option maxRecDepth 100000 in
theorem hasWords_calls (a : Option Addr) (n c : Nat) (f k : Int) (w : World) (hn : n ≤ maxLen) :
    Calls Tryz.prog 165 #[.agg #[.slice a n c], .int .i64 f, .int .i64 k] w fun e w' => e = .returned (.bool (hasW n f k)) ∧ Below w.heap.size w w' := by
  unfold maxLen at hn
  have HB := hide ((Below.refl w.heap.size w).alloc (Nat.le_refl _) (.cells #[.slice a n c] 46))
  cases h0 : up f (n : Int) with
  | false =>
    have HR : Hid (hasW n f k = false) := by show _ = _; unfold hasW; rw [h0]; rfl
    go_enter Tryz.func165, Tryz.ntmps165
    go_wp2_with (go_at_call 92; refine (isUpTo_calls _ _ _).mono ?_; rintro e w' ⟨rfl, rfl⟩)
    go_ret
    exact ⟨ret_bool HR.out.symm, HB.out⟩
  | true =>
    obtain ⟨h1, h2⟩ := up_iff.1 h0
    have HR : Hid (hasW n f k = up k ((n : Int) - f)) := by show _ = _; unfold hasW; rw [h0]; rfl
    go_enter Tryz.func165, Tryz.ntmps165
    go_wp2_with (go_at_call 92; refine (isUpTo_calls _ _ _).mono ?_; rintro e w' ⟨rfl, rfl⟩)
    go_ret
    exact ⟨ret_bool HR.out.symm, HB.out⟩

set_option maxRecDepth 100000 in
set_option maxHeartbeats 2000000 in
theorem askWord_calls (P : Nat) (S : Nat → Prop) (A : SA) (D : SD) (ms cl p bit : Int) (w : World) (h : MC P S A D ms cl w) (hf : LB D.ls) (hb : bit = 1 ∨ bit = 2 ∨ bit = 4) :
    Calls Tryz.prog 103 #[.pointer (some ⟨P, 0, none⟩), .int .i64 p, .int .i64 bit] w fun e w' => e = .returned (.int .i64 (plK D p bit)) ∧ MC P S A D (msX (plK D p bit) (plT D p) ms) cl w' ∧ OutS (fun q => q = P) w w' := by
  have hr := h.y.y.oy.rs
  have hl := hr.len.2.2.2.1
  have x3 := h.y.cs.cell 3 rfl
  simp only [Nat.zero_add] at x3
  have hPl := h.y.lt
  have HM := hide h
  have HW := hide (hasWords_calls A.wa A.wn A.wc p 1 w hr.wm)
  cases hu : up p ((A.wn : Int) - 1) with
  | false =>
    have hK : plK D p bit = 3 := by unfold plK; rw [hl, if_neg (by rw [hu]; simp)]
    rw [hK]
    have hw : hasW A.wn p 1 = false := by rw [hasW_one]; exact hu
    clear h hr hK hl
    go_enter Tryz.func103, Tryz.ntmps103
    go_wp2_with fail
    refine HW.out.mono ?_
    rintro e w1 ⟨rfl, g1⟩
    rw [hw]
    have HF := hide (HM.out.below g1)
    have HU := hide (OutS.of_below (S := fun q => q = P) g1)
    clear g1
    go_wp2
    go_ret
    exact ⟨rfl, HF.out, HU.out⟩
  | true =>
    have hux := up_iff.1 hu
    obtain ⟨j, rfl⟩ : ∃ j : Nat, p = (j : Int) := ⟨p.toNat, by omega⟩
    have hK : plK D (j : Int) bit = askK D (gw D.ws j).2 bit := by unfold plK; rw [hl, if_pos hu]; rfl
    have hT : plT D (j : Int) = (gw D.ws j).2 := by unfold plT; rw [hl, if_pos hu]; rfl
    rw [hK, hT]
    have hw : hasW A.wn (j : Int) 1 = true := by rw [hasW_one]; exact hu
    obtain ⟨bw, ow, hwa, hbw, hcw⟩ := hr.ws.2 (by omega)
    have cw := hcw (j * 2 + 1) (by omega)
    rw [(gt_flw D.ws j).2, ← Nat.add_assoc] at cw
    have i0 : (0 : Int) ≤ (j : Int) := by omega
    have i1 : (j : Int) < (A.wn : Int) := by omega
    have HWA := hide hwa
    clear h hr hK hT hl hcw hwa hux
    go_enter Tryz.func103, Tryz.ntmps103
    go_wp2_with fail
    refine HW.out.mono ?_
    rintro e w1 ⟨rfl, g1⟩
    rw [hw]
    have M1 := HM.out.below g1
    have y3 := (g1.cell (p := ⟨P, 3, none⟩) hPl).trans x3
    rw [HWA.out] at y3
    have y4 := (g1.cell (p := ⟨bw, ow + j * 2 + 1, none⟩) hbw).trans cw
    have HA := hide (ask_calls P S A D ms cl (gw D.ws j).2 bit w1 M1 hf hb)
    have HG := hide g1
    clear M1 x3 cw g1
    go_wp2_with fail
    refine HA.out.mono ?_
    rintro e w2 ⟨rfl, hm2, ho2⟩
    go_wp2
    go_ret
    exact ⟨rfl, hm2, (OutS.of_below HG.out).trans ho2⟩

/-- a register of a context is written. -/
theorem YM.reg {P o : Nat} {S : Nat → Prop} {A : SA} {D : SD} {w : World} (h : YM P o S A D w) {k N b lc : Nat} (hk : k < A.xn) (h8 : (gx D.cs k).1.length = 8) (ea : A.xa = some ⟨N, 0, none⟩) (hc : w.cell? ⟨N, k * 3, none⟩ = some (.slice (some ⟨b, 0, none⟩) 8 lc)) {j : Nat} (hj : j < 8) (v : Int) :
    YM P o S A { D with cs := D.cs.set k ((gx D.cs k).1.set j v, (gx D.cs k).2.1, (gx D.cs k).2.2) } (w.setCell ⟨b, j, none⟩ (.int .i64 v)) ∧ S b := by
  obtain ⟨N', b', lc', ea', sN, sb, ne, nP, bP, c0, c1, c2, fz, blk, f1, f2, f3⟩ := h.ctx hk (by omega)
  obtain rfl : N = N' := by have := ea.symm.trans ea'; simpa using this
  obtain rfl : b = b' := by have := hc.symm.trans c0; simp at this; exact this.1
  exact ⟨f3 j v (by omega), sb⟩

/-- what an action is told of. -/
structure AcH (A : SA) (D : SD) (k ia ib : Nat) (im : Int) : Prop where
  ac : D.ac = (k : Int)
  hk : k < A.xn
  l8 : (gx D.cs k).1.length = 8
  rg : ∀ j, j < 8 → 0 ≤ gt (gx D.cs k).1 j ∧ gt (gx D.cs k).1 j ≤ 65535
  pc : 0 ≤ (gx D.cs k).2.1 ∧ (gx D.cs k).2.1 ≤ 65535
  hia : ia < 8
  hib : ib < 8
  him : 0 ≤ im ∧ im ≤ 65535
  fc : LB D.ls
  hl : k < D.cs.length

/-- a context is laid. -/
def seX (D : SD) (k : Nat) (r : List Int) (p : Int) (h : Bool) : SD := { D with cs := D.cs.set k (r, p, h) }

theorem nx_se {D : SD} {k : Nat} {r : List Int} {p : Int} {h : Bool} (hl : k < D.cs.length) : nxD (seX D k r p h) k = seX D k r (wrp (p + 1)) h := by
  unfold nxD seX
  simp only [gx_set _ hl, if_pos, List.set_set]

theorem AcH.se {A : SA} {D : SD} {k ia ib : Nat} {im : Int} (H : AcH A D k ia ib im) {r : List Int} {p : Int} {h : Bool} : (gx (seX D k r p h).cs k) = (r, p, h) ∧ (seX D k r p h).ac = (k : Int) := ⟨by unfold seX; simp [gx_set _ H.hl], H.ac⟩

/-- onward, of a context that was laid. -/
theorem onward_se (P : Nat) (S : Nat → Prop) (A : SA) (D : SD) (k ia ib : Nat) (im kd : Int) (H : AcH A D k ia ib im) (r : List Int) (p : Int) (h : Bool) (w : World) (hr : r.length = 8) (hp : 0 ≤ p ∧ p ≤ 65535) (hy : YM P 0 S A (seX D k r p h) w) :
    Calls Tryz.prog 218 #[.pointer (some ⟨P, 0, none⟩), .int .i64 kd] w fun e w' => e = .returned (.int .i64 kd) ∧ YM P 0 S A (seX D k r (wrp (p + 1)) h) w' ∧ OutS S w w' := by
  obtain ⟨e1, e2⟩ := H.se (r := r) (p := p) (h := h)
  have := onward_calls P S A (seX D k r p h) k kd w hy e2 H.hk (by rw [e1]; exact hr) (by rw [e1]; exact hp)
  rw [nx_se H.hl] at this
  exact this

theorem c3_set {X : World} {A0 A1 A2 : Addr} {v0 v1 v2 : Value} (h : X.cell? A0 = some v0 ∧ X.cell? A1 = some v1 ∧ X.cell? A2 = some v2) {p : Addr} (n0 : A0.block ≠ p.block) (n1 : A1.block ≠ p.block) (n2 : A2.block ≠ p.block) (y : Value) : (X.setCell p y).cell? A0 = some v0 ∧ (X.setCell p y).cell? A1 = some v1 ∧ (X.setCell p y).cell? A2 = some v2 :=
  ⟨(World.cell?_setCell_other _ _ _ _ (fun e => n0 (by rw [e]))).trans h.1, (World.cell?_setCell_other _ _ _ _ (fun e => n1 (by rw [e]))).trans h.2.1, (World.cell?_setCell_other _ _ _ _ (fun e => n2 (by rw [e]))).trans h.2.2⟩

/-- what an action gives. -/
def AcP (P : Nat) (S : Nat → Prop) (E : SD) (kd ms cl : Int) (w : World) (e : Ending) (w' : World) : Prop :=
  e = .returned (.int .i64 kd) ∧ (∃ B, MC P (fun q => S q ∨ (w.heap.size ≤ q ∧ q < w'.heap.size)) B E ms cl w') ∧ OutS (fun q => S q ∨ q = P) w w'

theorem AcP.mk {P : Nat} {S : Nat → Prop} {A : SA} {D E : SD} {kd ms cl : Int} {w w' : World} (h : MC P S A D ms cl w) (hy : YM P 0 S A E w') (ho : OutS S w w') : AcP P S E kd ms cl w (.returned (.int .i64 kd)) w' :=
  ⟨rfl, ⟨A, (h.out hy ho).y.mono (fun _ e => .inl e) (fun e => by rcases e with e | e; exact h.y.ns e; have := h.y.lt; omega), (h.out hy ho).m, (h.out hy ho).c⟩, ho.mono (fun _ e => .inl e)⟩

set_option maxRecDepth 100000 in
theorem refuse_calls (P : Nat) (S : Nat → Prop) (A : SA) (D : SD) (ms cl op im : Int) (ia ib : Nat) (w : World) (h : MC P S A D ms cl w) :
    Calls Tryz.prog 177 #[.pointer (some ⟨P, 0, none⟩), .agg #[.int .i64 op, .int .i64 (ia : Int), .int .i64 (ib : Int), .int .i64 im]] w (AcP P S D 3 ms cl w) := by
  have HB := hide ((Below.refl w.heap.size w).alloc (Nat.le_refl _) (.cells #[.int .i64 op, .int .i64 (ia : Int), .int .i64 (ib : Int), .int .i64 im] 126))
  go_enter Tryz.func177, Tryz.ntmps177
  go_wp2
  refine bodyPost_ret (v := .int .i64 3) (by simp [results, Tryz.results177, go_sem]) rfl ?_
  exact AcP.mk h (h.below HB.out).y (OutS.of_below HB.out)

set_option maxRecDepth 100000 in
set_option maxHeartbeats 2000000 in
theorem halt_calls (P : Nat) (S : Nat → Prop) (A : SA) (D : SD) (k ia ib : Nat) (ms cl op im : Int) (w : World) (h : MC P S A D ms cl w) (H : AcH A D k ia ib im) :
    Calls Tryz.prog 168 #[.pointer (some ⟨P, 0, none⟩), .agg #[.int .i64 op, .int .i64 (ia : Int), .int .i64 (ib : Int), .int .i64 im]] w (AcP P S (seX D k (gx D.cs k).1 (gx D.cs k).2.1 true) 1 ms cl w) := by
  have h8 := H.l8
  obtain ⟨N, _, _, ea, _, _, _, _, _, _, _, _, _, _, _, _, _⟩ := h.y.ctx H.hk (by omega)
  have HB := hide ((Below.refl w.heap.size w).alloc (Nat.le_refl _) (.cells #[.int .i64 op, .int .i64 (ia : Int), .int .i64 (ib : Int), .int .i64 im] 126))
  have HC := hide (context_calls P S A D k N _ (h.below HB.out).y H.ac H.hk ea)
  have HM := hide h
  have HH := hide H
  have HEA := hide ea
  clear h H ea
  go_enter Tryz.func168, Tryz.ntmps168
  go_wp2_with fail
  refine HC.out.mono ?_
  rintro e w1 ⟨rfl, g1⟩
  have B1 := HB.out.trans (g1.mono (by simp))
  obtain ⟨N', b, lc, ea', sN, sb, ne, nP, bP, c0, c1, c2, fz, blk, f1, f2, f3⟩ := (HM.out.below B1).y.ctx HH.out.hk (by omega)
  obtain rfl : N = N' := by have := HEA.out.symm.trans ea'; simpa using this
  have q2 := fz (k * 3 + 2)
  have HF := hide (f2 true)
  have HU := hide ((OutS.of_below (S := S) B1).setCell (p := ⟨N, k * 3 + 2, none⟩) (by exact sN) (.bool true))
  clear f1 f2 f3 fz blk c0 c1 g1 B1 ea' HC HB
  go_wp2
  refine bodyPost_ret (v := .int .i64 1) (by simp [results, Tryz.results168, go_sem]) rfl ?_
  exact AcP.mk HM.out HF.out HU.out

theorem se_same {D : SD} {k : Nat} (hl : k < D.cs.length) : seX D k (gx D.cs k).1 (gx D.cs k).2.1 (gx D.cs k).2.2 = D := by
  unfold seX
  have : D.cs.set k ((gx D.cs k).1, (gx D.cs k).2.1, (gx D.cs k).2.2) = D.cs := by
    apply List.ext_getElem
    · simp
    · intro i h1 h2
      by_cases e : k = i
      · subst e; simp [gx, hl]
      · simp [e]
  rw [this]

theorem YM.pcs {P o : Nat} {S : Nat → Prop} {A : SA} {D : SD} {w : World} (h : YM P o S A D w) {k N : Nat} (hk : k < A.xn) (h8 : (gx D.cs k).1.length = 8) (ea : A.xa = some ⟨N, 0, none⟩) (v : Int) :
    YM P o S A (seX D k (gx D.cs k).1 v (gx D.cs k).2.2) (w.setCell ⟨N, k * 3 + 1, none⟩ (.int .i64 v)) := by
  obtain ⟨N', b', lc', ea', sN, sb, ne, nP, bP, c0, c1, c2, fz, blk, f1, f2, f3⟩ := h.ctx hk (by omega)
  obtain rfl : N = N' := by have := ea.symm.trans ea'; simpa using this
  exact f1 v

set_option maxRecDepth 100000 in
set_option maxHeartbeats 2000000 in
theorem copyOver_calls (P : Nat) (S : Nat → Prop) (A : SA) (D : SD) (k ia ib : Nat) (ms cl im : Int) (w : World) (h : MC P S A D ms cl w) (H : AcH A D k ia ib im) :
    Calls Tryz.prog 176 #[.pointer (some ⟨P, 0, none⟩), .agg #[.int .i64 10, .int .i64 (ia : Int), .int .i64 (ib : Int), .int .i64 im]] w (AcP P S (seX D k ((gx D.cs k).1.set ia (gt (gx D.cs k).1 ib)) (wrp ((gx D.cs k).2.1 + 1)) (gx D.cs k).2.2) 1 (ms) (cl) w) := by
  have h8 := H.l8
  have hia := H.hia
  have hib := H.hib
  have hk := H.hk
  have hpc := H.pc
  have a0 : (0 : Int) ≤ (ia : Int) := by omega
  have a1 : (ia : Int) < 8 := by omega
  have b0' : (0 : Int) ≤ (ib : Int) := by omega
  have b1' : (ib : Int) < 8 := by omega
  obtain ⟨W, hW⟩ : ∃ x, x = w.alloc (.cells #[.int .i64 10, .int .i64 (ia : Int), .int .i64 (ib : Int), .int .i64 im] 126) := ⟨_, rfl⟩
  have BW : Below w.heap.size w W := by rw [hW]; exact (Below.refl _ _).alloc (Nat.le_refl _) _
  have zW : W.heap.size = w.heap.size + 1 := by rw [hW]; simp
  have hPl := h.y.lt
  have lI : w.heap.size < W.heap.size := by omega
  have i0 : W.cell? ⟨w.heap.size, 0, none⟩ = some (.int .i64 10) := by rw [hW]; simp
  have i1 : W.cell? ⟨w.heap.size, 1, none⟩ = some (.int .i64 (ia : Int)) := by rw [hW]; simp
  have i2 : W.cell? ⟨w.heap.size, 2, none⟩ = some (.int .i64 (ib : Int)) := by rw [hW]; simp
  have i3 : W.cell? ⟨w.heap.size, 3, none⟩ = some (.int .i64 im) := by rw [hW]; simp
  have MW := h.below BW
  obtain ⟨N, b, lc, ea, sN, sb, ne, nP, bP, c0, c1, c2, fz, blk, f1, f2, f3⟩ := MW.y.ctx hk (by omega)
  rw [h8] at c0
  have lN := World.block_lt_of_cell? _ _ c0
  have lb : b < W.heap.size := blk.1
  have HM := hide h
  have HMW := hide MW
  have HH := hide H
  have HW := hide hW
  have HEA := hide ea
  have HC := hide (context_calls P S A D k N W MW.y H.ac hk ea)
  have rA := blk.2.1 ia (by omega)
  have rB := blk.2.1 ib (by omega)
  have qA := blk.2.2 ia
  have q1 := fz (k * 3 + 1)
  clear h H MW ea hW f1 f2 f3 blk fz
  go_enter Tryz.func176, Tryz.ntmps176
  go_wp2_with fail
  rw [← HW.out]
  refine HC.out.mono ?_
  rintro e w1 ⟨rfl, g1⟩
  have B1 := BW.trans (g1.mono (by omega))
  have j0 := (g1.cell (p := ⟨w.heap.size, 0, none⟩) lI).trans i0
  have j1 := (g1.cell (p := ⟨w.heap.size, 1, none⟩) lI).trans i1
  have j2 := (g1.cell (p := ⟨w.heap.size, 2, none⟩) lI).trans i2
  have j3 := (g1.cell (p := ⟨w.heap.size, 3, none⟩) lI).trans i3
  have d0 := (g1.cell (p := ⟨N, k * 3, none⟩) lN).trans c0
  have d1 := (g1.cell (p := ⟨N, k * 3 + 1, none⟩) lN).trans c1
  have eA := (g1.cell (p := ⟨b, ia, none⟩) lb).trans rA
  have eB := (g1.cell (p := ⟨b, ib, none⟩) lb).trans rB
  have gA := (g1.frozen (p := ⟨b, ia, none⟩) lb).trans qA
  have gq := (g1.frozen (p := ⟨N, k * 3 + 1, none⟩) lN).trans q1
  have Y1 := (HMW.out.below g1).y
  clear i0 i1 i2 i3 c0 c1 c2 rA rB qA q1 HC g1 HW
  have HO := hide ((OutS.of_below (S := S) B1.drew).setCell (p := ⟨b, ia, none⟩) (by exact sb) (.int .i64 (gt (gx D.cs k).1 ib)))
  have HYR := hide ((Y1.below (Below.refl _ _).drew).reg hk h8 HEA.out d0 hia (gt (gx D.cs k).1 ib)).1
  clear Y1
  go_wp2_with fail
  go_still_tail 9, (by kernel_rfl)
  have hyw : { heap := w1.heap, tape := w1.tape, drawn := w1.drawn + 1, os := w1.os, output := w1.output } = w1.drew := rfl
  try rw [hyw]
  clear hyw
  go_wp2_with fail
  refine (onward_se P S A D k ia ib im 1 HH.out ((gx D.cs k).1.set ia (gt (gx D.cs k).1 ib)) ((gx D.cs k).2.1) ((gx D.cs k).2.2) _ (by simp; exact h8) (hpc) HYR.out).mono ?_
  rintro e w3 ⟨rfl, hy3, ho3⟩
  have HY3 := hide hy3
  have HO3 := hide (HO.out.trans ho3)
  clear hy3 ho3
  go_wp2
  refine bodyPost_ret (v := .int .i64 1) (by simp [results, Tryz.results176, go_sem]) rfl ?_
  exact AcP.mk HM.out HY3.out HO3.out

set_option maxRecDepth 100000 in
set_option maxHeartbeats 2000000 in
theorem add_calls (P : Nat) (S : Nat → Prop) (A : SA) (D : SD) (k ia ib : Nat) (ms cl im : Int) (w : World) (h : MC P S A D ms cl w) (H : AcH A D k ia ib im) :
    Calls Tryz.prog 170 #[.pointer (some ⟨P, 0, none⟩), .agg #[.int .i64 2, .int .i64 (ia : Int), .int .i64 (ib : Int), .int .i64 im]] w (AcP P S (seX D k ((gx D.cs k).1.set ia (wrp (gt (gx D.cs k).1 ia + gt (gx D.cs k).1 ib))) (wrp ((gx D.cs k).2.1 + 1)) (gx D.cs k).2.2) 1 (ms) (cl) w) := by
  have h8 := H.l8
  have hia := H.hia
  have hib := H.hib
  have hk := H.hk
  have hpc := H.pc
  have a0 : (0 : Int) ≤ (ia : Int) := by omega
  have a1 : (ia : Int) < 8 := by omega
  have b0' : (0 : Int) ≤ (ib : Int) := by omega
  have b1' : (ib : Int) < 8 := by omega
  obtain ⟨W, hW⟩ : ∃ x, x = w.alloc (.cells #[.int .i64 2, .int .i64 (ia : Int), .int .i64 (ib : Int), .int .i64 im] 126) := ⟨_, rfl⟩
  have BW : Below w.heap.size w W := by rw [hW]; exact (Below.refl _ _).alloc (Nat.le_refl _) _
  have zW : W.heap.size = w.heap.size + 1 := by rw [hW]; simp
  have hPl := h.y.lt
  have lI : w.heap.size < W.heap.size := by omega
  have i0 : W.cell? ⟨w.heap.size, 0, none⟩ = some (.int .i64 2) := by rw [hW]; simp
  have i1 : W.cell? ⟨w.heap.size, 1, none⟩ = some (.int .i64 (ia : Int)) := by rw [hW]; simp
  have i2 : W.cell? ⟨w.heap.size, 2, none⟩ = some (.int .i64 (ib : Int)) := by rw [hW]; simp
  have i3 : W.cell? ⟨w.heap.size, 3, none⟩ = some (.int .i64 im) := by rw [hW]; simp
  have MW := h.below BW
  obtain ⟨N, b, lc, ea, sN, sb, ne, nP, bP, c0, c1, c2, fz, blk, f1, f2, f3⟩ := MW.y.ctx hk (by omega)
  rw [h8] at c0
  have lN := World.block_lt_of_cell? _ _ c0
  have lb : b < W.heap.size := blk.1
  have HM := hide h
  have HMW := hide MW
  have HH := hide H
  have HW := hide hW
  have HEA := hide ea
  have HC := hide (context_calls P S A D k N W MW.y H.ac hk ea)
  have rA := blk.2.1 ia (by omega)
  have rB := blk.2.1 ib (by omega)
  have qA := blk.2.2 ia
  have q1 := fz (k * 3 + 1)
  clear h H MW ea hW f1 f2 f3 blk fz
  go_enter Tryz.func170, Tryz.ntmps170
  go_wp2_with fail
  rw [← HW.out]
  refine HC.out.mono ?_
  rintro e w1 ⟨rfl, g1⟩
  have B1 := BW.trans (g1.mono (by omega))
  have j0 := (g1.cell (p := ⟨w.heap.size, 0, none⟩) lI).trans i0
  have j1 := (g1.cell (p := ⟨w.heap.size, 1, none⟩) lI).trans i1
  have j2 := (g1.cell (p := ⟨w.heap.size, 2, none⟩) lI).trans i2
  have j3 := (g1.cell (p := ⟨w.heap.size, 3, none⟩) lI).trans i3
  have d0 := (g1.cell (p := ⟨N, k * 3, none⟩) lN).trans c0
  have d1 := (g1.cell (p := ⟨N, k * 3 + 1, none⟩) lN).trans c1
  have eA := (g1.cell (p := ⟨b, ia, none⟩) lb).trans rA
  have eB := (g1.cell (p := ⟨b, ib, none⟩) lb).trans rB
  have gA := (g1.frozen (p := ⟨b, ia, none⟩) lb).trans qA
  have gq := (g1.frozen (p := ⟨N, k * 3 + 1, none⟩) lN).trans q1
  have Y1 := (HMW.out.below g1).y
  clear i0 i1 i2 i3 c0 c1 c2 rA rB qA q1 HC g1 HW
  have ga := HH.out.rg ia hia
  have gb := HH.out.rg ib hib
  have hneg : IntKind.i64.wrap (-gt (gx D.cs k).1 ib) = -gt (gx D.cs k).1 ib := IntWalk.i64_in _ (by omega)
  have hwp : IntKind.i64.wrap (gt (gx D.cs k).1 ia + gt (gx D.cs k).1 ib) = gt (gx D.cs k).1 ia + gt (gx D.cs k).1 ib := IntWalk.i64_in _ (by omega)
  have HO := hide ((OutS.of_below (S := S) B1.drew).setCell (p := ⟨b, ia, none⟩) (by exact sb) (.int .i64 (wrp (gt (gx D.cs k).1 ia + gt (gx D.cs k).1 ib))))
  have HYR := hide ((Y1.below (Below.refl _ _).drew).reg hk h8 HEA.out d0 hia (wrp (gt (gx D.cs k).1 ia + gt (gx D.cs k).1 ib))).1
  clear Y1
  go_wp2_with fail
  refine wp_region_still_tail 12 (by kernel_rfl) (by kernel_rfl) ?_
  simp only [List.take_succ_cons, List.take_zero, List.drop_succ_cons, List.drop_zero]
  repeat still_step
  still_call (wrapped_calls _ _)
  repeat still_step
  refine wpStill_nil ?_
  have hyw : { heap := w1.heap, tape := w1.tape, drawn := w1.drawn + 1, os := w1.os, output := w1.output } = w1.drew := rfl
  try rw [hyw]
  clear hyw
  go_wp2_with fail
  refine (onward_se P S A D k ia ib im 1 HH.out ((gx D.cs k).1.set ia (wrp (gt (gx D.cs k).1 ia + gt (gx D.cs k).1 ib))) ((gx D.cs k).2.1) ((gx D.cs k).2.2) _ (by simp; exact h8) (hpc) HYR.out).mono ?_
  rintro e w3 ⟨rfl, hy3, ho3⟩
  have HY3 := hide hy3
  have HO3 := hide (HO.out.trans ho3)
  clear hy3 ho3
  go_wp2
  refine bodyPost_ret (v := .int .i64 1) (by simp [results, Tryz.results170, go_sem]) rfl ?_
  exact AcP.mk HM.out HY3.out HO3.out

set_option maxRecDepth 100000 in
set_option maxHeartbeats 2000000 in
theorem sub_calls (P : Nat) (S : Nat → Prop) (A : SA) (D : SD) (k ia ib : Nat) (ms cl im : Int) (w : World) (h : MC P S A D ms cl w) (H : AcH A D k ia ib im) :
    Calls Tryz.prog 170 #[.pointer (some ⟨P, 0, none⟩), .agg #[.int .i64 3, .int .i64 (ia : Int), .int .i64 (ib : Int), .int .i64 im]] w (AcP P S (seX D k ((gx D.cs k).1.set ia (wrp (gt (gx D.cs k).1 ia + -gt (gx D.cs k).1 ib))) (wrp ((gx D.cs k).2.1 + 1)) (gx D.cs k).2.2) 1 (ms) (cl) w) := by
  have h8 := H.l8
  have hia := H.hia
  have hib := H.hib
  have hk := H.hk
  have hpc := H.pc
  have a0 : (0 : Int) ≤ (ia : Int) := by omega
  have a1 : (ia : Int) < 8 := by omega
  have b0' : (0 : Int) ≤ (ib : Int) := by omega
  have b1' : (ib : Int) < 8 := by omega
  obtain ⟨W, hW⟩ : ∃ x, x = w.alloc (.cells #[.int .i64 3, .int .i64 (ia : Int), .int .i64 (ib : Int), .int .i64 im] 126) := ⟨_, rfl⟩
  have BW : Below w.heap.size w W := by rw [hW]; exact (Below.refl _ _).alloc (Nat.le_refl _) _
  have zW : W.heap.size = w.heap.size + 1 := by rw [hW]; simp
  have hPl := h.y.lt
  have lI : w.heap.size < W.heap.size := by omega
  have i0 : W.cell? ⟨w.heap.size, 0, none⟩ = some (.int .i64 3) := by rw [hW]; simp
  have i1 : W.cell? ⟨w.heap.size, 1, none⟩ = some (.int .i64 (ia : Int)) := by rw [hW]; simp
  have i2 : W.cell? ⟨w.heap.size, 2, none⟩ = some (.int .i64 (ib : Int)) := by rw [hW]; simp
  have i3 : W.cell? ⟨w.heap.size, 3, none⟩ = some (.int .i64 im) := by rw [hW]; simp
  have MW := h.below BW
  obtain ⟨N, b, lc, ea, sN, sb, ne, nP, bP, c0, c1, c2, fz, blk, f1, f2, f3⟩ := MW.y.ctx hk (by omega)
  rw [h8] at c0
  have lN := World.block_lt_of_cell? _ _ c0
  have lb : b < W.heap.size := blk.1
  have HM := hide h
  have HMW := hide MW
  have HH := hide H
  have HW := hide hW
  have HEA := hide ea
  have HC := hide (context_calls P S A D k N W MW.y H.ac hk ea)
  have rA := blk.2.1 ia (by omega)
  have rB := blk.2.1 ib (by omega)
  have qA := blk.2.2 ia
  have q1 := fz (k * 3 + 1)
  clear h H MW ea hW f1 f2 f3 blk fz
  go_enter Tryz.func170, Tryz.ntmps170
  go_wp2_with fail
  rw [← HW.out]
  refine HC.out.mono ?_
  rintro e w1 ⟨rfl, g1⟩
  have B1 := BW.trans (g1.mono (by omega))
  have j0 := (g1.cell (p := ⟨w.heap.size, 0, none⟩) lI).trans i0
  have j1 := (g1.cell (p := ⟨w.heap.size, 1, none⟩) lI).trans i1
  have j2 := (g1.cell (p := ⟨w.heap.size, 2, none⟩) lI).trans i2
  have j3 := (g1.cell (p := ⟨w.heap.size, 3, none⟩) lI).trans i3
  have d0 := (g1.cell (p := ⟨N, k * 3, none⟩) lN).trans c0
  have d1 := (g1.cell (p := ⟨N, k * 3 + 1, none⟩) lN).trans c1
  have eA := (g1.cell (p := ⟨b, ia, none⟩) lb).trans rA
  have eB := (g1.cell (p := ⟨b, ib, none⟩) lb).trans rB
  have gA := (g1.frozen (p := ⟨b, ia, none⟩) lb).trans qA
  have gq := (g1.frozen (p := ⟨N, k * 3 + 1, none⟩) lN).trans q1
  have Y1 := (HMW.out.below g1).y
  clear i0 i1 i2 i3 c0 c1 c2 rA rB qA q1 HC g1 HW
  have ga := HH.out.rg ia hia
  have gb := HH.out.rg ib hib
  have hneg : IntKind.i64.wrap (-gt (gx D.cs k).1 ib) = -gt (gx D.cs k).1 ib := IntWalk.i64_in _ (by omega)
  have hwp : IntKind.i64.wrap (gt (gx D.cs k).1 ia + -gt (gx D.cs k).1 ib) = gt (gx D.cs k).1 ia + -gt (gx D.cs k).1 ib := IntWalk.i64_in _ (by omega)
  have HO := hide ((OutS.of_below (S := S) B1.drew).setCell (p := ⟨b, ia, none⟩) (by exact sb) (.int .i64 (wrp (gt (gx D.cs k).1 ia + -gt (gx D.cs k).1 ib))))
  have HYR := hide ((Y1.below (Below.refl _ _).drew).reg hk h8 HEA.out d0 hia (wrp (gt (gx D.cs k).1 ia + -gt (gx D.cs k).1 ib))).1
  clear Y1
  go_wp2_with fail
  refine wp_region_still_tail 12 (by kernel_rfl) (by kernel_rfl) ?_
  simp only [List.take_succ_cons, List.take_zero, List.drop_succ_cons, List.drop_zero]
  repeat still_step
  still_call (wrapped_calls _ _)
  repeat still_step
  refine wpStill_nil ?_
  have hyw : { heap := w1.heap, tape := w1.tape, drawn := w1.drawn + 1, os := w1.os, output := w1.output } = w1.drew := rfl
  try rw [hyw]
  clear hyw
  go_wp2_with fail
  refine (onward_se P S A D k ia ib im 1 HH.out ((gx D.cs k).1.set ia (wrp (gt (gx D.cs k).1 ia + -gt (gx D.cs k).1 ib))) ((gx D.cs k).2.1) ((gx D.cs k).2.2) _ (by simp; exact h8) (hpc) HYR.out).mono ?_
  rintro e w3 ⟨rfl, hy3, ho3⟩
  have HY3 := hide hy3
  have HO3 := hide (HO.out.trans ho3)
  clear hy3 ho3
  go_wp2
  refine bodyPost_ret (v := .int .i64 1) (by simp [results, Tryz.results170, go_sem]) rfl ?_
  exact AcP.mk HM.out HY3.out HO3.out

set_option maxRecDepth 100000 in
set_option maxHeartbeats 2000000 in
theorem jump_calls (P : Nat) (S : Nat → Prop) (A : SA) (D : SD) (k ia ib : Nat) (ms cl im : Int) (w : World) (h : MC P S A D ms cl w) (H : AcH A D k ia ib im) :
    Calls Tryz.prog 173 #[.pointer (some ⟨P, 0, none⟩), .agg #[.int .i64 6, .int .i64 (ia : Int), .int .i64 (ib : Int), .int .i64 im]] w (AcP P S (seX D k (gx D.cs k).1 im (gx D.cs k).2.2) 1 (ms) (cl) w) := by
  have h8 := H.l8
  have hia := H.hia
  have hib := H.hib
  have hk := H.hk
  have hpc := H.pc
  have a0 : (0 : Int) ≤ (ia : Int) := by omega
  have a1 : (ia : Int) < 8 := by omega
  have b0' : (0 : Int) ≤ (ib : Int) := by omega
  have b1' : (ib : Int) < 8 := by omega
  obtain ⟨W, hW⟩ : ∃ x, x = w.alloc (.cells #[.int .i64 6, .int .i64 (ia : Int), .int .i64 (ib : Int), .int .i64 im] 126) := ⟨_, rfl⟩
  have BW : Below w.heap.size w W := by rw [hW]; exact (Below.refl _ _).alloc (Nat.le_refl _) _
  have zW : W.heap.size = w.heap.size + 1 := by rw [hW]; simp
  have hPl := h.y.lt
  have lI : w.heap.size < W.heap.size := by omega
  have i0 : W.cell? ⟨w.heap.size, 0, none⟩ = some (.int .i64 6) := by rw [hW]; simp
  have i1 : W.cell? ⟨w.heap.size, 1, none⟩ = some (.int .i64 (ia : Int)) := by rw [hW]; simp
  have i2 : W.cell? ⟨w.heap.size, 2, none⟩ = some (.int .i64 (ib : Int)) := by rw [hW]; simp
  have i3 : W.cell? ⟨w.heap.size, 3, none⟩ = some (.int .i64 im) := by rw [hW]; simp
  have MW := h.below BW
  obtain ⟨N, b, lc, ea, sN, sb, ne, nP, bP, c0, c1, c2, fz, blk, f1, f2, f3⟩ := MW.y.ctx hk (by omega)
  rw [h8] at c0
  have lN := World.block_lt_of_cell? _ _ c0
  have lb : b < W.heap.size := blk.1
  have HM := hide h
  have HMW := hide MW
  have HH := hide H
  have HW := hide hW
  have HEA := hide ea
  have HC := hide (context_calls P S A D k N W MW.y H.ac hk ea)
  have rA := blk.2.1 ia (by omega)
  have rB := blk.2.1 ib (by omega)
  have qA := blk.2.2 ia
  have q1 := fz (k * 3 + 1)
  clear h H MW ea hW f1 f2 f3 blk fz
  go_enter Tryz.func173, Tryz.ntmps173
  go_wp2_with fail
  rw [← HW.out]
  refine HC.out.mono ?_
  rintro e w1 ⟨rfl, g1⟩
  have B1 := BW.trans (g1.mono (by omega))
  have j0 := (g1.cell (p := ⟨w.heap.size, 0, none⟩) lI).trans i0
  have j1 := (g1.cell (p := ⟨w.heap.size, 1, none⟩) lI).trans i1
  have j2 := (g1.cell (p := ⟨w.heap.size, 2, none⟩) lI).trans i2
  have j3 := (g1.cell (p := ⟨w.heap.size, 3, none⟩) lI).trans i3
  have d0 := (g1.cell (p := ⟨N, k * 3, none⟩) lN).trans c0
  have d1 := (g1.cell (p := ⟨N, k * 3 + 1, none⟩) lN).trans c1
  have eA := (g1.cell (p := ⟨b, ia, none⟩) lb).trans rA
  have eB := (g1.cell (p := ⟨b, ib, none⟩) lb).trans rB
  have gA := (g1.frozen (p := ⟨b, ia, none⟩) lb).trans qA
  have gq := (g1.frozen (p := ⟨N, k * 3 + 1, none⟩) lN).trans q1
  have Y1 := (HMW.out.below g1).y
  clear i0 i1 i2 i3 c0 c1 c2 rA rB qA q1 HC g1 HW
  have HF := hide (Y1.pcs hk h8 HEA.out im)
  have HU := hide ((OutS.of_below (S := S) B1).setCell (p := ⟨N, k * 3 + 1, none⟩) (by exact sN) (.int .i64 im))
  clear Y1
  go_wp2
  refine bodyPost_ret (v := .int .i64 1) (by simp [results, Tryz.results173, go_sem]) rfl ?_
  exact AcP.mk HM.out HF.out HU.out

set_option maxRecDepth 100000 in
set_option maxHeartbeats 2000000 in
theorem zero0_calls (P : Nat) (S : Nat → Prop) (A : SA) (D : SD) (k ia ib : Nat) (ms cl im : Int) (w : World) (h : MC P S A D ms cl w) (H : AcH A D k ia ib im) (hz : gt (gx D.cs k).1 ia = 0) :
    Calls Tryz.prog 173 #[.pointer (some ⟨P, 0, none⟩), .agg #[.int .i64 7, .int .i64 (ia : Int), .int .i64 (ib : Int), .int .i64 im]] w (AcP P S (seX D k (gx D.cs k).1 im (gx D.cs k).2.2) 1 (ms) (cl) w) := by
  have h8 := H.l8
  have hia := H.hia
  have hib := H.hib
  have hk := H.hk
  have hpc := H.pc
  have a0 : (0 : Int) ≤ (ia : Int) := by omega
  have a1 : (ia : Int) < 8 := by omega
  have b0' : (0 : Int) ≤ (ib : Int) := by omega
  have b1' : (ib : Int) < 8 := by omega
  obtain ⟨W, hW⟩ : ∃ x, x = w.alloc (.cells #[.int .i64 7, .int .i64 (ia : Int), .int .i64 (ib : Int), .int .i64 im] 126) := ⟨_, rfl⟩
  have BW : Below w.heap.size w W := by rw [hW]; exact (Below.refl _ _).alloc (Nat.le_refl _) _
  have zW : W.heap.size = w.heap.size + 1 := by rw [hW]; simp
  have hPl := h.y.lt
  have lI : w.heap.size < W.heap.size := by omega
  have i0 : W.cell? ⟨w.heap.size, 0, none⟩ = some (.int .i64 7) := by rw [hW]; simp
  have i1 : W.cell? ⟨w.heap.size, 1, none⟩ = some (.int .i64 (ia : Int)) := by rw [hW]; simp
  have i2 : W.cell? ⟨w.heap.size, 2, none⟩ = some (.int .i64 (ib : Int)) := by rw [hW]; simp
  have i3 : W.cell? ⟨w.heap.size, 3, none⟩ = some (.int .i64 im) := by rw [hW]; simp
  have MW := h.below BW
  obtain ⟨N, b, lc, ea, sN, sb, ne, nP, bP, c0, c1, c2, fz, blk, f1, f2, f3⟩ := MW.y.ctx hk (by omega)
  rw [h8] at c0
  have lN := World.block_lt_of_cell? _ _ c0
  have lb : b < W.heap.size := blk.1
  have HM := hide h
  have HMW := hide MW
  have HH := hide H
  have HW := hide hW
  have HEA := hide ea
  have HC := hide (context_calls P S A D k N W MW.y H.ac hk ea)
  have rA := blk.2.1 ia (by omega)
  have rB := blk.2.1 ib (by omega)
  have qA := blk.2.2 ia
  have q1 := fz (k * 3 + 1)
  clear h H MW ea hW f1 f2 f3 blk fz
  go_enter Tryz.func173, Tryz.ntmps173
  go_wp2_with fail
  rw [← HW.out]
  refine HC.out.mono ?_
  rintro e w1 ⟨rfl, g1⟩
  have B1 := BW.trans (g1.mono (by omega))
  have j0 := (g1.cell (p := ⟨w.heap.size, 0, none⟩) lI).trans i0
  have j1 := (g1.cell (p := ⟨w.heap.size, 1, none⟩) lI).trans i1
  have j2 := (g1.cell (p := ⟨w.heap.size, 2, none⟩) lI).trans i2
  have j3 := (g1.cell (p := ⟨w.heap.size, 3, none⟩) lI).trans i3
  have d0 := (g1.cell (p := ⟨N, k * 3, none⟩) lN).trans c0
  have d1 := (g1.cell (p := ⟨N, k * 3 + 1, none⟩) lN).trans c1
  have eA := (g1.cell (p := ⟨b, ia, none⟩) lb).trans rA
  have eB := (g1.cell (p := ⟨b, ib, none⟩) lb).trans rB
  have gA := (g1.frozen (p := ⟨b, ia, none⟩) lb).trans qA
  have gq := (g1.frozen (p := ⟨N, k * 3 + 1, none⟩) lN).trans q1
  have Y1 := (HMW.out.below g1).y
  clear i0 i1 i2 i3 c0 c1 c2 rA rB qA q1 HC g1 HW
  rw [hz] at eA
  have HPC := hide fun (u : World) (hb : Below w.heap.size w u) (hc : Below w1.heap.size w1 u) => And.intro ((Y1.below hc).pcs hk h8 HEA.out im) ((OutS.of_below (S := S) hb).setCell (p := ⟨N, k * 3 + 1, none⟩) (by exact sN) (.int .i64 im))
  clear Y1
  go_wp2_with fail
  go_quiet (fail)
  go_wp2
  have HX := HPC.out (w1.drewN nq) (bdrewN B1 nq) (bdrewN (Below.refl _ _) nq)
  refine bodyPost_ret (v := .int .i64 1) (by simp [results, Tryz.results173, go_sem]) rfl ?_
  exact AcP.mk HM.out HX.1 HX.2

set_option maxRecDepth 100000 in
set_option maxHeartbeats 2000000 in
theorem zero1_calls (P : Nat) (S : Nat → Prop) (A : SA) (D : SD) (k ia ib : Nat) (ms cl im : Int) (w : World) (h : MC P S A D ms cl w) (H : AcH A D k ia ib im) (hz : gt (gx D.cs k).1 ia ≠ 0) :
    Calls Tryz.prog 173 #[.pointer (some ⟨P, 0, none⟩), .agg #[.int .i64 7, .int .i64 (ia : Int), .int .i64 (ib : Int), .int .i64 im]] w (AcP P S (seX D k (gx D.cs k).1 (wrp ((gx D.cs k).2.1 + 1)) (gx D.cs k).2.2) 1 (ms) (cl) w) := by
  have h8 := H.l8
  have hia := H.hia
  have hib := H.hib
  have hk := H.hk
  have hpc := H.pc
  have a0 : (0 : Int) ≤ (ia : Int) := by omega
  have a1 : (ia : Int) < 8 := by omega
  have b0' : (0 : Int) ≤ (ib : Int) := by omega
  have b1' : (ib : Int) < 8 := by omega
  obtain ⟨W, hW⟩ : ∃ x, x = w.alloc (.cells #[.int .i64 7, .int .i64 (ia : Int), .int .i64 (ib : Int), .int .i64 im] 126) := ⟨_, rfl⟩
  have BW : Below w.heap.size w W := by rw [hW]; exact (Below.refl _ _).alloc (Nat.le_refl _) _
  have zW : W.heap.size = w.heap.size + 1 := by rw [hW]; simp
  have hPl := h.y.lt
  have lI : w.heap.size < W.heap.size := by omega
  have i0 : W.cell? ⟨w.heap.size, 0, none⟩ = some (.int .i64 7) := by rw [hW]; simp
  have i1 : W.cell? ⟨w.heap.size, 1, none⟩ = some (.int .i64 (ia : Int)) := by rw [hW]; simp
  have i2 : W.cell? ⟨w.heap.size, 2, none⟩ = some (.int .i64 (ib : Int)) := by rw [hW]; simp
  have i3 : W.cell? ⟨w.heap.size, 3, none⟩ = some (.int .i64 im) := by rw [hW]; simp
  have MW := h.below BW
  obtain ⟨N, b, lc, ea, sN, sb, ne, nP, bP, c0, c1, c2, fz, blk, f1, f2, f3⟩ := MW.y.ctx hk (by omega)
  rw [h8] at c0
  have lN := World.block_lt_of_cell? _ _ c0
  have lb : b < W.heap.size := blk.1
  have HM := hide h
  have HMW := hide MW
  have HH := hide H
  have HW := hide hW
  have HEA := hide ea
  have HC := hide (context_calls P S A D k N W MW.y H.ac hk ea)
  have rA := blk.2.1 ia (by omega)
  have rB := blk.2.1 ib (by omega)
  have qA := blk.2.2 ia
  have q1 := fz (k * 3 + 1)
  clear h H MW ea hW f1 f2 f3 blk fz
  go_enter Tryz.func173, Tryz.ntmps173
  go_wp2_with fail
  rw [← HW.out]
  refine HC.out.mono ?_
  rintro e w1 ⟨rfl, g1⟩
  have B1 := BW.trans (g1.mono (by omega))
  have j0 := (g1.cell (p := ⟨w.heap.size, 0, none⟩) lI).trans i0
  have j1 := (g1.cell (p := ⟨w.heap.size, 1, none⟩) lI).trans i1
  have j2 := (g1.cell (p := ⟨w.heap.size, 2, none⟩) lI).trans i2
  have j3 := (g1.cell (p := ⟨w.heap.size, 3, none⟩) lI).trans i3
  have d0 := (g1.cell (p := ⟨N, k * 3, none⟩) lN).trans c0
  have d1 := (g1.cell (p := ⟨N, k * 3 + 1, none⟩) lN).trans c1
  have eA := (g1.cell (p := ⟨b, ia, none⟩) lb).trans rA
  have eB := (g1.cell (p := ⟨b, ib, none⟩) lb).trans rB
  have gA := (g1.frozen (p := ⟨b, ia, none⟩) lb).trans qA
  have gq := (g1.frozen (p := ⟨N, k * 3 + 1, none⟩) lN).trans q1
  have Y1 := (HMW.out.below g1).y
  clear i0 i1 i2 i3 c0 c1 c2 rA rB qA q1 HC g1 HW
  have hz1 : (gt (gx D.cs k).1 ia == 0) = false := by simpa using hz
  have hz2 : (gt (gx D.cs k).1 ia != 0) = true := by simpa using hz
  have HPC := hide fun (u : World) (hc : Below w1.heap.size w1 u) => Y1.below hc
  clear Y1
  go_wp2_with fail
  go_quiet (fail)
  have HYR : Hid (YM P 0 S A (seX D k (gx D.cs k).1 (gx D.cs k).2.1 (gx D.cs k).2.2) (w1.drewN nq)) := by
    show YM P 0 S A (seX D k (gx D.cs k).1 (gx D.cs k).2.1 (gx D.cs k).2.2) (w1.drewN nq)
    rw [se_same HH.out.hl]
    exact HPC.out _ (bdrewN (Below.refl _ _) nq)
  have HO := hide (OutS.of_below (S := S) (bdrewN B1 nq))
  go_wp2_with fail
  refine (onward_se P S A D k ia ib im 1 HH.out ((gx D.cs k).1) ((gx D.cs k).2.1) ((gx D.cs k).2.2) _ (h8) (hpc) HYR.out).mono ?_
  rintro e w3 ⟨rfl, hy3, ho3⟩
  have HY3 := hide hy3
  have HO3 := hide (HO.out.trans ho3)
  clear hy3 ho3
  go_wp2
  refine bodyPost_ret (v := .int .i64 1) (by simp [results, Tryz.results173, go_sem]) rfl ?_
  exact AcP.mk HM.out HY3.out HO3.out

end Go.Proofs.YtcojgmecocjnkaaGreat
