import Derived.Test.YtcojgmecocjnkaaGreatG12
import Derived.Test.YtcojgmecocjnkaaGreatG44
import Derived.Test.YtcojgmecocjnkaaGreatG1
import Derived.WalkKit
import Derived.ProofKit
import Derived.OpenShut
import Derived.ShutString
import Derived.ChangeOld
import Derived.Below
import Derived.WalkSpells
import Derived.Deep.QuietTactic
import Derived.BigQuiet
import Derived.Deep.RegionWith
import Derived.Deep.WholeRow
import Derived.Deep.DeepCutAuto
import Derived.Deep.RegionHeld2
import Derived.Deep.AppendLies
import Derived.Deep.RegionLaw
namespace Go.Proofs.YtcojgmecocjnkaaGreat
open Go.ChangeShapes Go.WideShapes Go.ChangeAt Go.RowKit
def aiC (ls : List (Int × Int × Int)) (d t : Int) : Int := if atK ls d t < 0 then 4 else 0

def aiV (ls : List (Int × Int × Int)) (d t b : Int) : Int := if atK ls d t < 0 then 0 else (g3 ls (atK ls d t).toNat).2.2 / b % 2

set_option maxRecDepth 100000 in
set_option maxHeartbeats 1000000 in
theorem allowedIn_calls (a : Option Addr) (n c : Nat) (ls : List (Int × Int × Int)) (d t b : Int) (w : World) (hn : n ≤ maxLen) (hs : Sln w a n ls) (hp : ∀ j, j < ls.length → 0 ≤ (g3 ls j).2.2 ∧ (g3 ls j).2.2 ≤ 7) (hb : b = 1 ∨ b = 2 ∨ b = 4) :
    Calls Tryz.prog 217 #[.slice a n c, .int .i64 d, .int .i64 t, .int .i64 b] w fun e w' => e = .returned (.agg #[.int .i64 (aiC ls d t), .int .i64 (aiV ls d t b)]) ∧ Below w.heap.size w w' := by
  have M0 := (Mm.start w).alloc2 (.int .i64 0) (.int .i64 0) 225
  try simp only [World.size_alloc] at M0
  have hlen := hs.1
  have hl := atK_lt ls d t
  go_enter Tryz.func217, Tryz.ntmps217
  go_wp2_with fail
  refine (placeOf_calls a n c ls d t _ hn (hs.below M0.bel (Nat.le_refl _))).mono ?_
  rintro e w2 ⟨rfl, g2⟩
  have M2 := M0.below g2
  have d0 := M2.cell 0 rfl
  have d1 := M2.cell 1 rfl
  have e0 := M2.fz 0 rfl
  have e1 := M2.fz 1 rfl
  have HB2 := hide M2.bel
  by_cases hat : atK ls d t < 0
  · have HC : Hid (aiC ls d t = 4) := if_pos hat
    have HV : Hid (aiV ls d t b = 0) := if_pos hat
    clear M0 M2 g2 hp hb
    go_wp2
    refine bodyPost_ret (v := .agg #[.int .i64 4, .int .i64 0]) (by simp [results, Tryz.results217, go_sem, d0, d1]) rfl ⟨by rw [HC.out, HV.out], ?_⟩
    exact (HB2.out.setCell (by simp) _).setCell (by simp) _
  · obtain ⟨j, hj⟩ : ∃ j : Nat, atK ls d t = (j : Int) := ⟨(atK ls d t).toNat, by omega⟩
    have hjn : j < n := by omega
    have HC : Hid (aiC ls d t = 0) := if_neg hat
    have HV : Hid (aiV ls d t b = (g3 ls j).2.2 / b % 2) := by show aiV _ _ _ _ = _; unfold aiV; rw [if_neg hat, hj]; simp
    have hok := hp j (by omega)
    rw [hj]
    obtain ⟨_, hs'⟩ := hs
    obtain ⟨bk, off, rfl, hbk, hc⟩ := hs' (by omega)
    obtain ⟨_, _, r2⟩ := cells3 hc hjn
    have p2 := (M2.bel.cell (p := ⟨bk, off + j * 3 + 2, none⟩) hbk).trans r2
    generalize (g3 ls j).2.2 = pv at *
    clear M0 M2 g2 hc r2 hat hl hj hp
    rcases hb with rfl | rfl | rfl
    · have HV1 : Hid (aiV ls d t 1 = pv % 2) := by show _ = _; rw [HV.out, Int.ediv_one]
      go_wp2
      refine bodyPost_ret (v := .agg #[.int .i64 0, .int .i64 (pv % 2)]) (by simp [results, Tryz.results217, go_sem, d0, d1]) rfl ⟨by rw [HC.out, HV1.out], ?_⟩
      exact (HB2.out.setCell (by simp) _).setCell (by simp) _
    · go_wp2
      refine bodyPost_ret (v := .agg #[.int .i64 0, .int .i64 (pv / 2 % 2)]) (by simp [results, Tryz.results217, go_sem, d0, d1]) rfl ⟨by rw [HC.out, HV.out], ?_⟩
      exact (HB2.out.setCell (by simp) _).setCell (by simp) _
    · go_wp2
      refine bodyPost_ret (v := .agg #[.int .i64 0, .int .i64 (pv / 4 % 2)]) (by simp [results, Tryz.results217, go_sem, d0, d1]) rfl ⟨by rw [HC.out, HV.out], ?_⟩
      exact (HB2.out.setCell (by simp) _).setCell (by simp) _

theorem u16_wrp (v : Int) : wrap64 (IntKind.u16.wrap v) = wrp v := by
  have h : IntKind.u16.wrap v = v % 65536 := rfl
  rw [h]
  unfold wrap64 wrp
  omega

set_option maxRecDepth 100000 in
theorem wrapped_calls (v : Int) (w : World) : Calls Tryz.prog 219 #[.int .i64 v] w fun e w' => e = .returned (.int .i64 (wrp v)) ∧ w' = w := by
  have H := hide (u16_wrp v)
  go_enter Tryz.func219, Tryz.ntmps219
  go_wp2
  go_ret
  exact ⟨ret_int H.out, rfl⟩

set_option maxRecDepth 100000 in
set_option maxHeartbeats 1000000 in
theorem context_calls (P : Nat) (S : Nat → Prop) (A : SA) (D : SD) (k N : Nat) (w : World) (hy : YM P 0 S A D w) (hac : D.ac = (k : Int)) (hk : k < A.xn) (ea : A.xa = some ⟨N, 0, none⟩) :
    Calls Tryz.prog 102 #[.pointer (some ⟨P, 0, none⟩)] w fun e w' => e = .returned (.pointer (some ⟨N, k * 3, none⟩)) ∧ Below w.heap.size w w' := by
  have x4 := hy.cs.cell 4 rfl
  have x5 := hy.cs.cell 5 rfl
  simp only [Nat.zero_add] at x4 x5
  rw [ea] at x4
  rw [hac] at x5
  have k0 : (0 : Int) ≤ (k : Int) := by omega
  have k1 : (k : Int) < (A.xn : Int) := by omega
  clear hy hac ea
  go_enter Tryz.func102, Tryz.ntmps102
  go_wp2_with fail
  go_quiet (fail)
  go_wp2
  go_ret
  exact ⟨by simp, bdrewN (Below.refl _ _) _⟩

set_option maxRecDepth 100000 in
set_option maxHeartbeats 1000000 in
theorem onward_calls (P : Nat) (S : Nat → Prop) (A : SA) (D : SD) (k : Nat) (kd : Int) (w : World) (hy : YM P 0 S A D w) (hac : D.ac = (k : Int)) (hk : k < A.xn) (h8 : (gx D.cs k).1.length = 8) (hp : 0 ≤ (gx D.cs k).2.1 ∧ (gx D.cs k).2.1 ≤ 65535) :
    Calls Tryz.prog 218 #[.pointer (some ⟨P, 0, none⟩), .int .i64 kd] w fun e w' => e = .returned (.int .i64 kd) ∧ YM P 0 S A (nxD D k) w' ∧ OutS S w w' := by
  obtain ⟨N, _, _, ea, _, _, _, _, _, _, _, _, _, _, _, _, _⟩ := hy.ctx hk (by omega)
  have HC := hide (context_calls P S A D k N w hy hac hk ea)
  have HY := hide hy
  have HEA := hide ea
  clear hy hac ea
  go_enter Tryz.func218, Tryz.ntmps218
  go_wp2_with fail
  refine HC.out.mono ?_
  rintro e w1 ⟨rfl, g1⟩
  obtain ⟨N', b, lc, ea', sN, sb, ne, nP, bP, c0, c1, c2, fz, blk, f1, f2, f3⟩ := (HY.out.below g1).ctx hk (by omega)
  obtain rfl : N = N' := by have := HEA.out.symm.trans ea'; simpa using this
  have q1 := fz (k * 3 + 1)
  have HF := hide (f1 (wrp ((gx D.cs k).2.1 + 1)))
  have HU := hide ((OutS.of_below (S := S) g1).setCell (p := ⟨N, k * 3 + 1, none⟩) (by exact sN) (.int .i64 (wrp ((gx D.cs k).2.1 + 1))))
  have hwp : IntKind.i64.wrap ((gx D.cs k).2.1 + 1) = (gx D.cs k).2.1 + 1 := IntWalk.i64_in _ (by omega)
  clear f1 f2 f3 fz blk c0 c2 g1 ea' HC
  go_wp2_with (go_at_call 219; fail)
  refine (wrapped_calls _ _).mono ?_
  rintro e w' ⟨rfl, hw'⟩
  rw [hw']
  clear hw' w'
  go_wp2
  go_ret
  exact ⟨rfl, HF.out, HU.out⟩

/-- what a machine holds: the system, and which tag was missed, which call was made. -/
structure MC (P : Nat) (S : Nat → Prop) (A : SA) (D : SD) (ms cl : Int) (w : World) : Prop where
  y : YM P 0 S A D w
  m : w.cell? ⟨P, 11, none⟩ = some (.int .i64 ms)
  c : w.cell? ⟨P, 12, none⟩ = some (.int .i64 cl)

theorem MC.below {P : Nat} {S : Nat → Prop} {A : SA} {D : SD} {ms cl : Int} {w w' : World} (h : MC P S A D ms cl w) (hb : Below w.heap.size w w') : MC P S A D ms cl w' :=
  ⟨h.y.below hb, (hb.cell (p := ⟨P, 11, none⟩) h.y.lt).trans h.m, (hb.cell (p := ⟨P, 12, none⟩) h.y.lt).trans h.c⟩

/-- what lies in the system's own blocks was turned: the rest of the machine is as it was. -/
theorem MC.out {P : Nat} {S : Nat → Prop} {A B : SA} {D E : SD} {ms cl : Int} {w w' : World} (h : MC P S A D ms cl w) (hy : YM P 0 S B E w') (ho : OutS S w w') : MC P S B E ms cl w' :=
  ⟨hy, (World.cell?_of_block (a := ⟨P, 11, none⟩) (ho.block P h.y.lt h.y.ns)).trans h.m, (World.cell?_of_block (a := ⟨P, 12, none⟩) (ho.block P h.y.lt h.y.ns)).trans h.c⟩

theorem YM.late {P o : Nat} {S : Nat → Prop} {A : SA} {D : SD} {w : World} (h : YM P o S A D w) {q : Nat} (hq : o + 11 ≤ q) (v : Value) : YM P o S A D (w.setCell ⟨P, q, none⟩ v) :=
  ⟨fun i hi => by
    rw [World.cell?_setCell_other _ _ _ _ (fun e => by injection e with _ e2; simp only [List.length_cons, List.length_nil] at hi; omega)]
    exact h.cs i hi, fun j => by simpa using h.fz j, h.ns, by simpa using h.lt, OYR.loc.setC h.y (by exact h.ns) v⟩

/-- the tag that was missed is written. -/
theorem MC.miss {P : Nat} {S : Nat → Prop} {A : SA} {D : SD} {ms cl : Int} {w : World} (h : MC P S A D ms cl w) (t : Int) : MC P S A D t cl (w.setCell ⟨P, 11, none⟩ (.int .i64 t)) :=
  ⟨h.y.late (by omega) _, World.cell?_setCell_same _ _ _ h.m, (World.cell?_setCell_other _ _ _ _ (fun e => by injection e with _ e2; omega)).trans h.c⟩

/-- the call that was made is written. -/
theorem MC.call {P : Nat} {S : Nat → Prop} {A : SA} {D : SD} {ms cl : Int} {w : World} (h : MC P S A D ms cl w) (t : Int) : MC P S A D ms t (w.setCell ⟨P, 12, none⟩ (.int .i64 t)) :=
  ⟨h.y.late (by omega) _, (World.cell?_setCell_other _ _ _ _ (fun e => by injection e with _ e2; omega)).trans h.m, World.cell?_setCell_same _ _ _ h.c⟩

theorem set2_at0 (X : World) (P : Nat) (v0 v1 : Value) (h : ∃ u, X.cell? ⟨P, 0, none⟩ = some u) : ((X.setCell ⟨P, 0, none⟩ v0).setCell ⟨P, 1, none⟩ v1).cell? ⟨P, 0, none⟩ = some v0 := by
  obtain ⟨u, h⟩ := h
  rw [World.cell?_setCell_other _ _ _ _ (fun e => by injection e with _ e2; omega)]
  exact World.cell?_setCell_same _ _ _ h

theorem set2_at1 (X : World) (P : Nat) (v0 v1 : Value) (h : ∃ u, X.cell? ⟨P, 1, none⟩ = some u) : ((X.setCell ⟨P, 0, none⟩ v0).setCell ⟨P, 1, none⟩ v1).cell? ⟨P, 1, none⟩ = some v1 := by
  obtain ⟨u, h⟩ := h
  exact World.cell?_setCell_same _ _ _ ((World.cell?_setCell_other _ _ _ _ (fun e => by injection e with _ e2; omega)).trans h)

/-- the tag that is missed behind an asking. -/
def msX (k t ms : Int) : Int := if k = 2 then t else ms

theorem ask_al {D : SD} {tag bit : Int} :
    (askK D tag bit = 2 ∧ aiC D.ls D.ac tag = 4 ∧ aiV D.ls D.ac tag bit = 0) ∨ (askK D tag bit = 3 ∧ aiC D.ls D.ac tag = 0 ∧ aiV D.ls D.ac tag bit = 0) ∨ (askK D tag bit = 1 ∧ aiC D.ls D.ac tag = 0 ∧ aiV D.ls D.ac tag bit = 1) := by
  by_cases h1 : atK D.ls D.ac tag < 0
  · exact .inl ⟨if_pos h1, if_pos h1, if_pos h1⟩
  · have e1 : aiC D.ls D.ac tag = 0 := if_neg h1
    have e2 : aiV D.ls D.ac tag bit = (g3 D.ls (atK D.ls D.ac tag).toNat).2.2 / bit % 2 := if_neg h1
    by_cases h2 : (g3 D.ls (atK D.ls D.ac tag).toNat).2.2 / bit % 2 = 0
    · exact .inr (.inl ⟨by unfold askK; rw [if_neg h1, if_pos h2], e1, e2.trans h2⟩)
    · exact .inr (.inr ⟨by unfold askK; rw [if_neg h1, if_neg h2], e1, by rw [e2]; omega⟩)

set_option maxRecDepth 100000 in
set_option maxHeartbeats 4000000 in
theorem ask_calls (P : Nat) (S : Nat → Prop) (A : SA) (D : SD) (ms cl tag bit : Int) (w : World) (h : MC P S A D ms cl w) (hf : LB D.ls) (hb : bit = 1 ∨ bit = 2 ∨ bit = 4) :
    Calls Tryz.prog 166 #[.pointer (some ⟨P, 0, none⟩), .int .i64 tag, .int .i64 bit] w fun e w' => e = .returned (.int .i64 (askK D tag bit)) ∧ MC P S A D (msX (askK D tag bit) tag ms) cl w' ∧ OutS (fun q => q = P) w w' := by
  have hr := h.y.y.oy.rs
  have x5 := h.y.cs.cell 5 rfl
  have x7 := h.y.cs.cell 7 rfl
  simp only [Nat.zero_add] at x5 x7
  have hPl := h.y.lt
  have HM := hide h
  have HL := hide hr.ls
  have hlm := hr.lm
  obtain ⟨ac, hac⟩ : ∃ y, y = D.ac := ⟨_, rfl⟩
  have HA := ask_al (D := D) (tag := tag) (bit := bit)
  rw [← hac] at HA
  rw [← hac] at x5
  have HP := hide fun (j : Nat) (hj : j < D.ls.length) => perm_in hf hj
  have HBt := hide hb
  clear h hr hac hf hb
  rcases HA with ⟨hk, hc, hv⟩ | ⟨hk, hc, hv⟩ | ⟨hk, hc, hv⟩
  all_goals rw [hk]
  all_goals have HV := hide (And.intro hc hv)
  all_goals clear hk hc hv
  all_goals have HS0 : Hid (w.drew.cell? ⟨P, 5, none⟩ = some (.int .i64 ac) ∧ w.drew.cell? ⟨P, 7, none⟩ = some (.slice A.la A.ln A.lc) ∧ Below w.heap.size w w.drew) := ⟨x5, x7, (Below.refl _ _).drew⟩
  all_goals clear x5 x7
  all_goals go_enter Tryz.func166, Tryz.ntmps166
  all_goals go_wp2_with fail
  · go_cut [7] (fun v wd => ∃ I, v = .pointer (some ⟨I, 0, none⟩) ∧ w.heap.size ≤ I ∧ wd.cell? ⟨I, 0, none⟩ = some (.int .i64 4) ∧ wd.cell? ⟨I, 1, none⟩ = some (.int .i64 0) ∧ Below w.heap.size w wd)
    case first =>
      go_region_held2 (fun X => X.cell? ⟨P, 5, none⟩ = some (.int .i64 ac) ∧ X.cell? ⟨P, 7, none⟩ = some (.slice A.la A.ln A.lc) ∧ Below w.heap.size w X)
        (first | with_reducible exact HS0.out | (repeat (first | with_reducible assumption | with_reducible refine q2_allocd hPl hPl ?_ _ | with_reducible refine q2_alloc hPl hPl ?_ _ | with_reducible refine q2_set hPl hPl ?_ ?_ _ | (show (_ : Nat) ≤ _; exact Nat.le_refl _) | (show (_ : Nat) ≤ _; dsimp only; omega))))
        (first
          | (go_at_call 217; refine (allowedIn_calls A.la A.ln A.lc D.ls ac tag bit _ hlm (HL.out.below (q2_bel (by with_reducible assumption)) (Nat.le_refl _)) HP.out HBt.out).mono ?_; rintro e ws ⟨rfl, gs⟩; rw [HV.out.1, HV.out.2]; have hss := q2_below hPl hPl (by with_reducible assumption) gs; have hzs := gs.size; have hws := (q2_bel hss).size; obtain ⟨bcs, bfs⟩ := bcellQ gs; (try simp only [World.size_alloc, World.size_drew] at hzs bcs bfs); (try have hts := Nat.lt_of_succ_le hzs); clear gs))
      all_goals go_wp2_with fail
      all_goals go_meet
      all_goals (
        refine ⟨_, rfl, ?lo, ?c0, ?c1, ?b⟩
        case b => exact q2_bel (by with_reducible assumption)
        case lo => first | exact Nat.le_refl _ | omega
        case c0 => first | (go_simp; done) | (with_reducible refine set2_at0 _ _ _ _ ?_; go_simp; done)
        case c1 => first | (go_simp; done) | (with_reducible refine set2_at1 _ _ _ _ ?_; go_simp; done))
    case rest =>
    obtain ⟨I, rfl, iL, i0, i1, gd⟩ := hcut
    obtain ⟨w1, rfl⟩ : ∃ x, x = wc := ⟨wc, rfl⟩
    have M1 := HM.out.below gd
    have p11 := M1.m
    have f11 := M1.y.fz 11
    have HF := hide (M1.miss tag)
    have HU := hide ((OutS.of_below (S := fun q => q = P) gd).setCell (p := ⟨P, 11, none⟩) rfl (.int .i64 tag))
    clear M1 gd HS0
    go_wp2
    go_ret
    exact ⟨rfl, HF.out, HU.out⟩
  · go_cut [7] (fun v wd => ∃ I, v = .pointer (some ⟨I, 0, none⟩) ∧ w.heap.size ≤ I ∧ wd.cell? ⟨I, 0, none⟩ = some (.int .i64 0) ∧ wd.cell? ⟨I, 1, none⟩ = some (.int .i64 0) ∧ Below w.heap.size w wd)
    case first =>
      go_region_held2 (fun X => X.cell? ⟨P, 5, none⟩ = some (.int .i64 ac) ∧ X.cell? ⟨P, 7, none⟩ = some (.slice A.la A.ln A.lc) ∧ Below w.heap.size w X)
        (first | with_reducible exact HS0.out | (repeat (first | with_reducible assumption | with_reducible refine q2_allocd hPl hPl ?_ _ | with_reducible refine q2_alloc hPl hPl ?_ _ | with_reducible refine q2_set hPl hPl ?_ ?_ _ | (show (_ : Nat) ≤ _; exact Nat.le_refl _) | (show (_ : Nat) ≤ _; dsimp only; omega))))
        (first
          | (go_at_call 217; refine (allowedIn_calls A.la A.ln A.lc D.ls ac tag bit _ hlm (HL.out.below (q2_bel (by with_reducible assumption)) (Nat.le_refl _)) HP.out HBt.out).mono ?_; rintro e ws ⟨rfl, gs⟩; rw [HV.out.1, HV.out.2]; have hss := q2_below hPl hPl (by with_reducible assumption) gs; have hzs := gs.size; have hws := (q2_bel hss).size; obtain ⟨bcs, bfs⟩ := bcellQ gs; (try simp only [World.size_alloc, World.size_drew] at hzs bcs bfs); (try have hts := Nat.lt_of_succ_le hzs); clear gs))
      all_goals go_wp2_with fail
      all_goals go_meet
      all_goals (
        refine ⟨_, rfl, ?lo, ?c0, ?c1, ?b⟩
        case b => exact q2_bel (by with_reducible assumption)
        case lo => first | exact Nat.le_refl _ | omega
        case c0 => first | (go_simp; done) | (with_reducible refine set2_at0 _ _ _ _ ?_; go_simp; done)
        case c1 => first | (go_simp; done) | (with_reducible refine set2_at1 _ _ _ _ ?_; go_simp; done))
    case rest =>
    obtain ⟨I, rfl, iL, i0, i1, gd⟩ := hcut
    obtain ⟨w1, rfl⟩ : ∃ x, x = wc := ⟨wc, rfl⟩
    have HF := hide (HM.out.below gd)
    have HU := hide (OutS.of_below (S := fun q => q = P) gd)
    clear gd HS0
    go_wp2
    go_ret
    exact ⟨rfl, HF.out, HU.out⟩
  · go_cut [7] (fun v wd => ∃ I, v = .pointer (some ⟨I, 0, none⟩) ∧ w.heap.size ≤ I ∧ wd.cell? ⟨I, 0, none⟩ = some (.int .i64 0) ∧ wd.cell? ⟨I, 1, none⟩ = some (.int .i64 1) ∧ Below w.heap.size w wd)
    case first =>
      go_region_held2 (fun X => X.cell? ⟨P, 5, none⟩ = some (.int .i64 ac) ∧ X.cell? ⟨P, 7, none⟩ = some (.slice A.la A.ln A.lc) ∧ Below w.heap.size w X)
        (first | with_reducible exact HS0.out | (repeat (first | with_reducible assumption | with_reducible refine q2_allocd hPl hPl ?_ _ | with_reducible refine q2_alloc hPl hPl ?_ _ | with_reducible refine q2_set hPl hPl ?_ ?_ _ | (show (_ : Nat) ≤ _; exact Nat.le_refl _) | (show (_ : Nat) ≤ _; dsimp only; omega))))
        (first
          | (go_at_call 217; refine (allowedIn_calls A.la A.ln A.lc D.ls ac tag bit _ hlm (HL.out.below (q2_bel (by with_reducible assumption)) (Nat.le_refl _)) HP.out HBt.out).mono ?_; rintro e ws ⟨rfl, gs⟩; rw [HV.out.1, HV.out.2]; have hss := q2_below hPl hPl (by with_reducible assumption) gs; have hzs := gs.size; have hws := (q2_bel hss).size; obtain ⟨bcs, bfs⟩ := bcellQ gs; (try simp only [World.size_alloc, World.size_drew] at hzs bcs bfs); (try have hts := Nat.lt_of_succ_le hzs); clear gs))
      all_goals go_wp2_with fail
      all_goals go_meet
      all_goals (
        refine ⟨_, rfl, ?lo, ?c0, ?c1, ?b⟩
        case b => exact q2_bel (by with_reducible assumption)
        case lo => first | exact Nat.le_refl _ | omega
        case c0 => first | (go_simp; done) | (with_reducible refine set2_at0 _ _ _ _ ?_; go_simp; done)
        case c1 => first | (go_simp; done) | (with_reducible refine set2_at1 _ _ _ _ ?_; go_simp; done))
    case rest =>
    obtain ⟨I, rfl, iL, i0, i1, gd⟩ := hcut
    obtain ⟨w1, rfl⟩ : ∃ x, x = wc := ⟨wc, rfl⟩
    have HF := hide (HM.out.below gd)
    have HU := hide (OutS.of_below (S := fun q => q = P) gd)
    clear gd HS0
    go_wp2
    go_ret
    exact ⟨rfl, HF.out, HU.out⟩

end Go.Proofs.YtcojgmecocjnkaaGreat
