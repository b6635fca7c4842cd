import Derived.Test.YtcojgmecocjnkaaGreatG46
import Derived.Test.YtcojgmecocjnkaaGreatG16
import Derived.Test.YtcojgmecocjnkaaGreatG54
import Derived.WalkKit
import Derived.ProofKit
import Derived.OpenShut
import Derived.ShutString
import Derived.ChangeOld
import Derived.Below
import Derived.WalkSpells
import Derived.Deep.QuietTactic
import Derived.BigQuiet
import Derived.Deep.RegionWith
import Derived.Deep.WholeRow
import Derived.Deep.DeepCutAuto
import Derived.Deep.RegionHeld2
import Derived.Deep.AppendLies
import Derived.Deep.RegionLaw
namespace Go.Proofs.YtcojgmecocjnkaaGreat
open Go.ChangeShapes Go.WideShapes Go.ChangeAt Go.RowKit

theorem Mm.alloc5 {w u : World} {cs : List (Nat × Nat × Value)} {fs : List (Nat × Nat × (World → Prop))} (h : Mm w u cs fs) (v0 v1 v2 v3 v4 : Value) (t : TypeId) : Mm w (u.alloc (.cells #[v0, v1, v2, v3, v4] t)) ((u.heap.size, 0, v0) :: (u.heap.size, 1, v1) :: (u.heap.size, 2, v2) :: (u.heap.size, 3, v3) :: (u.heap.size, 4, v4) :: cs) fs :=
  (((((h.below ((Below.refl _ _).alloc (Nat.le_refl _) (.cells #[v0, v1, v2, v3, v4] t))).cons (by simp) (by simp)).cons (by simp) (by simp)).cons (by simp) (by simp)).cons (by simp) (by simp)).cons (by simp) (by simp)

theorem below_set5 {B : Nat} {w u : World} (h : Below B w u) {P : Nat} (hP : B ≤ P) (v0 v1 v2 v3 v4 : Value) :
    Below B w (((((u.setCell ⟨P, 0, none⟩ v0).setCell ⟨P, 1, none⟩ v1).setCell ⟨P, 2, none⟩ v2).setCell ⟨P, 3, none⟩ v3).setCell ⟨P, 4, none⟩ v4) :=
  ((((h.setCell (by exact hP) v0).setCell (by exact hP) v1).setCell (by exact hP) v2).setCell (by exact hP) v3).setCell (by exact hP) v4

theorem up_true {v m : Int} (h : up v m = true) : 0 ≤ v ∧ v ≤ m := by
  unfold up at h
  simpa using h

theorem u16_in {n : Int} (h : 0 ≤ n ∧ n ≤ 65535) : IntKind.u16.wrap n = n := by
  unfold IntKind.wrap
  have e : (2 ^ IntKind.u16.bits : Int) = 65536 := by decide
  have s : IntKind.u16.signed = false := by decide
  simp only [e, s, Bool.false_and]
  show n % 65536 = n
  omega

theorem w64_in {n : Int} (h : -9223372036854775808 ≤ n ∧ n ≤ 9223372036854775807) : wrap64 n = n := by
  unfold wrap64
  omega

theorem quo_in {x m : Int} (h0 : 0 ≤ x) (h1 : x ≤ 65535) (hm : 1 ≤ m) : IntKind.u16.wrap (x.tdiv m) = x / m := by
  rw [Int.tdiv_eq_ediv_of_nonneg h0]
  have := Int.ediv_nonneg h0 (show 0 ≤ m by omega)
  have : x / m ≤ x := Int.ediv_le_self m h0
  exact u16_in (by omega)

theorem rem_in {x m : Int} (h0 : 0 ≤ x) : x.tmod m = x % m := Int.tmod_eq_emod_of_nonneg h0

set_option maxRecDepth 100000 in
theorem unpack_calls (x : Int) (w : World) (h0 : 0 ≤ x) (h1 : x ≤ 65535) :
    Calls Tryz.prog 167 #[.int .u16 x] w fun e w' => e = .returned (.agg #[.int .i64 (x / 4096), .int .i64 (x / 512 % 8), .int .i64 (x / 64 % 8), .int .i64 (x % 64)]) ∧ Below w.heap.size w w' := by
  have HB := hide fun o1 => (Below.refl w.heap.size w).alloc (Nat.le_refl _) o1
  have e1 := hide (quo_in (m := 4096) h0 h1 (by omega))
  have e2 := hide (quo_in (m := 512) h0 h1 (by omega))
  have e3 := hide (quo_in (m := 64) h0 h1 (by omega))
  have r2 := hide (rem_in (x := x / 512) (m := 8) (by omega))
  have r3 := hide (rem_in (x := x / 64) (m := 8) (by omega))
  have v1 := hide (w64_in (n := x / 4096) (by omega))
  have v2 := hide (w64_in (n := x / 512 % 8) (by omega))
  have v3 := hide (w64_in (n := x / 64 % 8) (by omega))
  go_enter Tryz.func167, Tryz.ntmps167
  go_wp2
  rw [e1.out, e2.out, e3.out, r2.out, r3.out, v1.out, v2.out, v3.out]
  exact bodyPost_ret (v := .agg #[.int .i64 (x / 4096), .int .i64 (x / 512 % 8), .int .i64 (x / 64 % 8), .int .i64 (x % 64)]) (by simp [results, Tryz.results167, go_sem]) rfl ⟨rfl, HB.out _⟩

/-- DecodeWord's code, and a part of what it gives beside it. -/
def dwC (x : Int) : Int := if up x 65535 = true then 0 else 3

def dwV (x v : Int) : Int := if up x 65535 = true then v else 0

set_option maxRecDepth 100000 in
theorem implDecodeWord_calls (x : Int) (w : World) :
    Calls Tryz.prog 104 #[.int .i64 x] w fun e w' => e = .returned (.agg #[.int .i64 (dwC x), .int .i64 (dwV x (x / 4096)), .int .i64 (dwV x (x / 512 % 8)), .int .i64 (dwV x (x / 64 % 8)), .int .i64 (dwV x (x % 64))]) ∧ Below w.heap.size w w' := by
  have M0 := (Mm.start w).alloc5 (.int .i64 0) (.int .i64 0) (.int .i64 0) (.int .i64 0) (.int .i64 0) 159
  cases h : up x 65535 with
  | false =>
    have HC : Hid (dwC x = 3) := if_neg (by rw [h]; simp)
    have HV : Hid (∀ v, dwV x v = 0) := fun v => if_neg (by rw [h]; simp)
    have HB := hide fun o1 => (Below.refl w.heap.size w).alloc (Nat.le_refl _) o1
    clear M0
    go_enter Tryz.func104, Tryz.ntmps104
    go_wp2_with (go_at_call 92; refine (isUpTo_calls _ _ _).mono ?_; rintro e w' ⟨rfl, rfl⟩)
    exact bodyPost_ret (v := .agg #[.int .i64 3, .int .i64 0, .int .i64 0, .int .i64 0, .int .i64 0]) (by simp [results, Tryz.results104, go_sem]) rfl ⟨by rw [HC.out, HV.out, HV.out, HV.out, HV.out], HB.out _⟩
  | true =>
    obtain ⟨h0, h1⟩ := up_true h
    have HC : Hid (dwC x = 0) := if_pos h
    have HV : Hid (∀ v, dwV x v = v) := fun v => if_pos h
    have ec : IntKind.u16.wrap x = x := u16_in ⟨h0, h1⟩
    go_enter Tryz.func104, Tryz.ntmps104
    go_wp2_with (go_at_call 92; refine (isUpTo_calls _ _ _).mono ?_; rintro e w' ⟨rfl, rfl⟩)
    refine (unpack_calls x _ h0 h1).mono ?_
    rintro e w1 ⟨rfl, g1⟩
    have M1 := M0.below g1
    have c0 := M1.cell 0 rfl
    have c1 := M1.cell 1 rfl
    have c2 := M1.cell 2 rfl
    have c3 := M1.cell 3 rfl
    have c4 := M1.cell 4 rfl
    have f0 := M1.fz 0 rfl
    have f1 := M1.fz 1 rfl
    have f2 := M1.fz 2 rfl
    have f3 := M1.fz 3 rfl
    have f4 := M1.fz 4 rfl
    have HB := hide M1.bel
    clear M0 M1 g1
    go_wp2
    exact bodyPost_ret (v := .agg #[.int .i64 0, .int .i64 (x / 4096), .int .i64 (x / 512 % 8), .int .i64 (x / 64 % 8), .int .i64 (x % 64)]) (by simp [results, Tryz.results104, go_sem, c0, c1, c2, c3, c4]) rfl ⟨by rw [HC.out, HV.out, HV.out, HV.out, HV.out], below_set5 HB.out (by omega) _ _ _ _ _⟩

set_option maxRecDepth 100000 in
set_option maxHeartbeats 4000000 in
theorem step_halted (P : Nat) (S : Nat → Prop) (A : SA) (D : SD) (k : Nat) (m0 : Int) (w : World) (h : MC P S A D m0 0 w) (H : SysR A D k) (hS : ∀ q, S q → q < w.heap.size) (hh : (gx D.cs k).2.2 = true) :
    Calls Tryz.prog 44 #[.pointer (some ⟨P, 0, none⟩)] w (AcP P S D 5 m0 0 w) := by
  have hk : k < A.xn := by have := H.hk; have := H.xd; omega
  obtain ⟨h8, hrg, hp0, hp1⟩ := H.cx k H.hk
  have hPl := h.y.lt
  obtain ⟨N, b, lc, ea, sN, sb, ne, nP, bP, c0, c1, c2, fz, blk, f1, f2, f3⟩ := h.y.ctx hk (by omega)
  have lN := World.block_lt_of_cell? _ _ c0
  have HC := hide (context_calls P S A D k N w h.y H.ac hk ea)
  have HM := hide h
  have HH := hide H
  have hfc := H.fc
  clear h H ea f1 f2 f3 fz blk
  rw [hh] at c2
  go_enter Tryz.func44, Tryz.ntmps44
  go_wp2_with fail
  refine HC.out.mono ?_
  rintro e w1 ⟨rfl, g1⟩
  have d1 := (g1.cell (p := ⟨N, k * 3 + 1, none⟩) lN).trans c1
  have d2 := (g1.cell (p := ⟨N, k * 3 + 2, none⟩) lN).trans c2
  clear c0 c1 c2 HC
  have HMM := hide (HM.out.below g1)
  have HU := hide (OutS.of_below (S := fun q => S q ∨ q = P) g1)
  have _ := hS
  clear g1
  go_wp2
  refine bodyPost_ret (v := .int .i64 5) (by simp [results, Tryz.results44, go_sem]) rfl ?_
  exact AcP.same HM.out HMM.out HU.out

set_option maxRecDepth 100000 in
set_option maxHeartbeats 4000000 in
theorem step_denied (P : Nat) (S : Nat → Prop) (A : SA) (D : SD) (k : Nat) (m0 : Int) (w : World) (h : MC P S A D m0 0 w) (H : SysR A D k) (hS : ∀ q, S q → q < w.heap.size) (hh : (gx D.cs k).2.2 = false) (h0 : plK D (gx D.cs k).2.1 4 ≠ 1) :
    Calls Tryz.prog 44 #[.pointer (some ⟨P, 0, none⟩)] w (AcP P S D (plK D (gx D.cs k).2.1 4) (msX (plK D (gx D.cs k).2.1 4) (plT D (gx D.cs k).2.1) m0) 0 w) := by
  have hk : k < A.xn := by have := H.hk; have := H.xd; omega
  obtain ⟨h8, hrg, hp0, hp1⟩ := H.cx k H.hk
  have hPl := h.y.lt
  obtain ⟨N, b, lc, ea, sN, sb, ne, nP, bP, c0, c1, c2, fz, blk, f1, f2, f3⟩ := h.y.ctx hk (by omega)
  have lN := World.block_lt_of_cell? _ _ c0
  have HC := hide (context_calls P S A D k N w h.y H.ac hk ea)
  have HM := hide h
  have HH := hide H
  have hfc := H.fc
  clear h H ea f1 f2 f3 fz blk
  rw [hh] at c2
  go_enter Tryz.func44, Tryz.ntmps44
  go_wp2_with fail
  refine HC.out.mono ?_
  rintro e w1 ⟨rfl, g1⟩
  have d1 := (g1.cell (p := ⟨N, k * 3 + 1, none⟩) lN).trans c1
  have d2 := (g1.cell (p := ⟨N, k * 3 + 2, none⟩) lN).trans c2
  clear c0 c1 c2 HC
  have HA := hide (askWord_calls P S A D m0 0 (gx D.cs k).2.1 4 w1 (HM.out.below g1) hfc (by omega))
  go_wp2_with fail
  refine HA.out.mono ?_
  rintro e w2 ⟨rfl, hm2, ho2⟩
  obtain ⟨kd, hkd⟩ : ∃ y, y = plK D (gx D.cs k).2.1 4 := ⟨_, rfl⟩
  rw [← hkd] at h0 hm2 ⊢
  have HKD := hide hkd
  clear hkd
  have hne : (kd != 1) = true := by simpa using h0
  have HM2 := hide hm2
  have HO2 := hide ((OutS.of_below (S := fun q => S q ∨ q = P) g1).trans (ho2.mono (fun q e => .inr e)))
  have _ := hS
  clear hm2 ho2 g1 HA
  go_wp2
  refine bodyPost_ret (v := .int .i64 kd) (by simp [results, Tryz.results44, go_sem]) rfl ?_
  rw [← HKD.out]
  exact AcP.same HM.out HM2.out HO2.out

set_option maxRecDepth 100000 in
set_option maxHeartbeats 4000000 in
theorem step_done (P : Nat) (S : Nat → Prop) (A : SA) (D : SD) (k : Nat) (m0 : Int) (w : World) (h : MC P S A D m0 0 w) (H : SysR A D k) (hS : ∀ q, S q → q < w.heap.size) (hh : (gx D.cs k).2.2 = false) (h0 : plK D (gx D.cs k).2.1 4 = 1) (x : Int) (ia ib : Nat) (hx : x = wdX D k) (hia : ia = iaX D k) (hib : ib = ibX D k) (f : FuncId) (E : SD) (kd ms cl : Int) (hcf : ∀ (args : Array Value) (W : World), Sem.run Tryz.prog (callFunc f args) W = .ok (.enter f args) W)
    (hao : ∀ W : World, Calls Tryz.prog 105 #[.int .i64 (x / 4096)] W fun e w' => e = .returned (.func (.func f) #[] #[]) ∧ Below W.heap.size W w')
    (hact : ∀ W : World, MC P S A D m0 0 W → (∀ q, S q → q < W.heap.size) → Calls Tryz.prog f #[.pointer (some ⟨P, 0, none⟩), .agg #[.int .i64 (x / 4096), .int .i64 (ia : Int), .int .i64 (ib : Int), .int .i64 (x % 64)]] W (AcP P S E kd ms cl W)) :
    Calls Tryz.prog 44 #[.pointer (some ⟨P, 0, none⟩)] w (AcP P S E kd ms cl w) := by
  have hk : k < A.xn := by have := H.hk; have := H.xd; omega
  obtain ⟨h8, hrg, hp0, hp1⟩ := H.cx k H.hk
  have hPl := h.y.lt
  obtain ⟨N, b, lc, ea, sN, sb, ne, nP, bP, c0, c1, c2, fz, blk, f1, f2, f3⟩ := h.y.ctx hk (by omega)
  have lN := World.block_lt_of_cell? _ _ c0
  have HC := hide (context_calls P S A D k N w h.y H.ac hk ea)
  have HM := hide h
  have HH := hide H
  have hfc := H.fc
  clear h H ea f1 f2 f3 fz blk
  rw [hh] at c2
  go_enter Tryz.func44, Tryz.ntmps44
  go_wp2_with fail
  refine HC.out.mono ?_
  rintro e w1 ⟨rfl, g1⟩
  have d1 := (g1.cell (p := ⟨N, k * 3 + 1, none⟩) lN).trans c1
  have d2 := (g1.cell (p := ⟨N, k * 3 + 2, none⟩) lN).trans c2
  clear c0 c1 c2 HC
  have hpw := plK_one h0
  obtain ⟨pcN, hpc⟩ : ∃ j : Nat, (gx D.cs k).2.1 = (j : Int) := ⟨(gx D.cs k).2.1.toNat, by omega⟩
  have hlw := HM.out.y.y.oy.rs.len.2.2.2.1
  have hpn : pcN < A.wn := by omega
  have hxw : (gw D.ws pcN).1 = x := by rw [hx]; unfold wdX; rw [hpc]; rfl
  have wx := mf_val HH.out.mf (m := pcN) (by omega)
  rw [hxw] at wx
  have via : x / 512 % 8 = (ia : Int) := by rw [hia]; unfold iaX; rw [← hx]; omega
  have vib : x / 64 % 8 = (ib : Int) := by rw [hib]; unfold ibX; rw [← hx]; omega
  have hup : up x 65535 = true := up_iff.2 wx
  have HV : Hid (dwC x = 0 ∧ dwV x (x / 4096) = x / 4096 ∧ dwV x (x / 512 % 8) = (ia : Int) ∧ dwV x (x / 64 % 8) = (ib : Int) ∧ dwV x (x % 64) = x % 64) := ⟨if_pos hup, if_pos hup, (if_pos hup).trans via, (if_pos hup).trans vib, if_pos hup⟩
  have HPC := hide hpc
  have HXW := hide hxw
  have HAO := hide hao
  have HACT := hide hact
  clear hpw hpc hlw hx hxw hia hib via vib hup hao hact
  have HA := hide (askWord_calls P S A D m0 0 (gx D.cs k).2.1 4 w1 (HM.out.below g1) hfc (by omega))
  go_wp2_with fail
  refine HA.out.mono ?_
  rintro e w2 ⟨rfl, hm2, ho2⟩
  rw [h0] at hm2 ⊢
  have hm2 : MC P S A D m0 0 w2 := hm2
  have HM2 := hide hm2
  have z1 := g1.size
  have z2 := ho2.size
  have e1 := (World.cell?_of_block (a := ⟨N, k * 3 + 1, none⟩) (ho2.block N (by omega) nP)).trans d1
  rw [HPC.out] at e1
  obtain ⟨bw, ew, sw, nwP, lw2, r0, r1, rf, _⟩ := hm2.y.word hpn
  rw [HXW.out] at r0
  have y3 := hm2.y.cs.cell 3 rfl
  simp only [Nat.zero_add] at y3
  rw [ew] at y3
  have HO2 := hide ((OutS.of_below (S := fun q => S q ∨ q = P) g1).trans (ho2.mono (fun q e => .inr e)))
  have lt0 : P < w2.heap.size := by omega
  have lt1 : N < w2.heap.size := by omega
  have j0 : (0 : Int) ≤ (pcN : Int) := by omega
  have j1 : (pcN : Int) < (A.wn : Int) := by omega
  have fdI : ∀ (c a1 a2 a3 a4 : Value) (u : World), (Instr.field 159 (.agg #[c, a1, a2, a3, a4]) 1).run Tryz.prog u = .ok (.agg #[a1, a2, a3, a4]) u := fun _ _ _ _ _ _ => rfl
  have HS0 : Hid (w2.drew.cell? ⟨P, 3, none⟩ = some (.slice (some ⟨bw, 0, none⟩) A.wn A.wc) ∧ w2.drew.cell? ⟨N, k * 3 + 1, none⟩ = some (.int .i64 (pcN : Int)) ∧ w2.drew.cell? ⟨bw, pcN * 2, none⟩ = some (.int .i64 x) ∧ Below w2.heap.size w2 w2.drew) := ⟨y3, e1, r0, (Below.refl _ _).drew⟩
  clear hm2 ho2 g1 HA d1 d2 y3 e1 r0 r1 rf
  go_wp2_with fail
  go_cut [5] (fun v wd => ∃ I, v = .pointer (some ⟨I, 0, none⟩) ∧ w2.heap.size ≤ I ∧ I < wd.heap.size ∧ (wd.cell? ⟨I, 0, none⟩ = some (.int .i64 (x / 4096)) ∧ wd.cell? ⟨I, 1, none⟩ = some (.int .i64 (ia : Int)) ∧ wd.cell? ⟨I, 2, none⟩ = some (.int .i64 (ib : Int)) ∧ wd.cell? ⟨I, 3, none⟩ = some (.int .i64 (x % 64))) ∧ Below w2.heap.size w2 wd)
  case first =>
    go_region_held2 (fun X => X.cell? ⟨P, 3, none⟩ = some (.slice (some ⟨bw, 0, none⟩) A.wn A.wc) ∧ X.cell? ⟨N, k * 3 + 1, none⟩ = some (.int .i64 (pcN : Int)) ∧ X.cell? ⟨bw, pcN * 2, none⟩ = some (.int .i64 x) ∧ Below w2.heap.size w2 X)
     (first | with_reducible exact HS0.out | (repeat (first | with_reducible assumption | with_reducible refine q3_allocd lt0 lt1 lw2 ?_ _ | with_reducible refine q3_alloc lt0 lt1 lw2 ?_ _ | with_reducible refine q3_set lt0 lt1 lw2 ?_ ?_ _ | (show (_ : Nat) ≤ _; exact Nat.le_refl _) | (show (_ : Nat) ≤ _; dsimp only; omega))))
     (first
      | (go_at_call 104; refine (implDecodeWord_calls x _).mono ?_; rintro e ws ⟨rfl, gs⟩; rw [HV.out.1, HV.out.2.1, HV.out.2.2.1, HV.out.2.2.2.1, HV.out.2.2.2.2]; have hss := q3_below lt0 lt1 lw2 (by with_reducible assumption) gs; have hzs := gs.size; have hws := (q3_bel hss).size; obtain ⟨bcs, bfs⟩ := bcellQ gs; (try simp only [World.size_alloc, World.size_drew] at hzs bcs bfs); (try have hts := Nat.lt_of_succ_le hzs); clear gs))
    all_goals go_wp2_with fail
    all_goals go_meet
    all_goals (
      refine ⟨_, rfl, ?lo, ?hi, ⟨?c0, ?c1, ?c2, ?c3⟩, ?b⟩
      case b => exact q3_bel (by with_reducible assumption)
      case lo => first | exact Nat.le_refl _ | omega
      case hi => first | (simp; done) | (simp; omega)
      case c0 => first | (go_simp; done) | (with_reducible refine set4_at0 _ _ _ _ _ _ ?_; go_simp; done)
      case c1 => first | (go_simp; done) | (with_reducible refine set4_at1 _ _ _ _ _ _ ?_; go_simp; done)
      case c2 => first | (go_simp; done) | (with_reducible refine set4_at2 _ _ _ _ _ _ ?_; go_simp; done)
      case c3 => first | (go_simp; done) | (with_reducible refine set4_at3 _ _ _ _ _ _ ?_; go_simp; done))
  case rest =>
  obtain ⟨I, rfl, iL, iH, hI, gd⟩ := hcut
  obtain ⟨w3, rfl⟩ : ∃ y, y = wc := ⟨wc, rfl⟩
  have z3 := gd.size
  have M3 := HM2.out.below gd
  have HI0 : Hid (w3.drew.cell? ⟨I, 0, none⟩ = some (.int .i64 (x / 4096)) ∧ w3.drew.cell? ⟨I, 1, none⟩ = some (.int .i64 (ia : Int)) ∧ w3.drew.cell? ⟨I, 2, none⟩ = some (.int .i64 (ib : Int)) ∧ w3.drew.cell? ⟨I, 3, none⟩ = some (.int .i64 (x % 64))) := hI
  have HB3 := hide gd
  have HM3 := hide M3
  clear hI gd M3 HS0
  have nI : ¬ S I := fun e => by have := hS I e; omega
  have nIP : I ≠ P := by omega
  go_wp2_with fail
  go_region_held2 (fun X => X.cell? ⟨I, 0, none⟩ = some (.int .i64 (x / 4096)) ∧ X.cell? ⟨I, 1, none⟩ = some (.int .i64 (ia : Int)) ∧ X.cell? ⟨I, 2, none⟩ = some (.int .i64 (ib : Int)) ∧ X.cell? ⟨I, 3, none⟩ = some (.int .i64 (x % 64)))
    (first | with_reducible exact HI0.out | with_reducible assumption)
    (first
      | (go_at_call 105; refine (HAO.out _).mono ?_; rintro e w4 ⟨rfl, g4⟩; have hs4 : w4.cell? ⟨I, 0, none⟩ = some (.int .i64 (x / 4096)) ∧ w4.cell? ⟨I, 1, none⟩ = some (.int .i64 (ia : Int)) ∧ w4.cell? ⟨I, 2, none⟩ = some (.int .i64 (ib : Int)) ∧ w4.cell? ⟨I, 3, none⟩ = some (.int .i64 (x % 64)) := ⟨(g4.cell (p := ⟨I, 0, none⟩) iH).trans HI0.out.1, (g4.cell (p := ⟨I, 1, none⟩) iH).trans HI0.out.2.1, (g4.cell (p := ⟨I, 2, none⟩) iH).trans HI0.out.2.2.1, (g4.cell (p := ⟨I, 3, none⟩) iH).trans HI0.out.2.2.2⟩; have HG4 := hide ((Below.refl w3.heap.size w3).drew.trans g4); clear g4)
      | (go_simp; refine (HACT.out _ (HM3.out.below HG4.out) (fun q e => by have := hS q e; have := HG4.out.size; omega)).mono ?_; rintro e w5 ⟨rfl, ⟨B5, hm5⟩, ho5⟩; have bI := ho5.block I (by have := HG4.out.size; omega) (fun e => by rcases e with e | e; exact nI e; exact nIP e); have hs5 : w5.cell? ⟨I, 0, none⟩ = some (.int .i64 (x / 4096)) ∧ w5.cell? ⟨I, 1, none⟩ = some (.int .i64 (ia : Int)) ∧ w5.cell? ⟨I, 2, none⟩ = some (.int .i64 (ib : Int)) ∧ w5.cell? ⟨I, 3, none⟩ = some (.int .i64 (x % 64)) := ⟨(World.cell?_of_block (a := ⟨I, 0, none⟩) bI).trans hs4.1, (World.cell?_of_block (a := ⟨I, 1, none⟩) bI).trans hs4.2.1, (World.cell?_of_block (a := ⟨I, 2, none⟩) bI).trans hs4.2.2.1, (World.cell?_of_block (a := ⟨I, 3, none⟩) bI).trans hs4.2.2.2⟩; have HM5 := hide hm5; have HO5 := hide ho5; clear hm5 ho5 bI))
  all_goals (
    have z4 := HG4.out.size
    go_wp2
    refine bodyPost_ret (v := .int .i64 kd) (by simp [results, Tryz.results44, go_sem]) rfl ?_
    refine ⟨rfl, ⟨B5, HM5.out.y.mono (fun q e => ?_) (fun e => by rcases e with e | e; exact HM.out.y.ns e; omega), HM5.out.m, HM5.out.c⟩, ((HO2.out.trans (OutS.of_below HB3.out)).trans (OutS.of_below HG4.out)).trans HO5.out⟩
    rcases e with e | e
    · exact .inl e
    · exact .inr ⟨by have := e.1; omega, e.2⟩)

end Go.Proofs.YtcojgmecocjnkaaGreat
