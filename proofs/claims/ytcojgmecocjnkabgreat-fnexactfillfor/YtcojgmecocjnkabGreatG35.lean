import Derived.Test.YtcojgmecocjnkabGreatG27
import Derived.Test.YtcojgmecocjnkabGreatG11
import Derived.Test.YtcojgmecocjnkabGreatG17
import Derived.WalkKit
import Derived.ProofKit
import Derived.OpenShut
import Derived.ShutString
import Derived.ChangeOld
import Derived.Below
import Derived.WalkSpells
import Derived.Deep.QuietTactic
import Derived.BigQuiet
import Derived.Deep.RegionWith
import Derived.Deep.WholeRow
import Derived.Deep.DeepCutAuto
import Derived.Deep.RegionHeld2
import Derived.Deep.AppendLies
import Derived.Deep.RegionLaw
namespace Go.Proofs.YtcojgmecocjnkabGreat
open Go.ChangeShapes Go.WideShapes Go.ChangeAt Go.RowKit

theorem flw_setW (x y : Int) : ∀ (ls : List (Int × Int)) (k : Nat), flw (ls.set k (x, y)) = ((flw ls).set (k * 2) x).set (k * 2 + 1) y
  | [], k => by simp [flw]
  | l :: r, 0 => by simp [flw]
  | l :: r, k + 1 => by
    have e0 : (k + 1) * 2 = k * 2 + 1 + 1 := by omega
    rw [e0]
    simp [flw, flw_setW x y r k]

theorem gt_setW (zs : List Int) (k i : Nat) (v : Int) (hk : k < zs.length) : gt (zs.set k v) i = if i = k then v else gt zs i := by
  by_cases e : i = k
  · subst e; rw [if_pos rfl]; simp [gt, hk]
  · rw [if_neg e]; simp [gt, Ne.symm e]

theorem Blk.put {w : World} {b k : Nat} {zs : List Int} {v : Int} (h : Blk w b zs) (hk : k < zs.length) : Blk (w.setCell ⟨b, k, none⟩ (.int .i64 v)) b (zs.set k v) := by
  obtain ⟨h1, h2, h3⟩ := h
  refine ⟨by simpa [World.setCell] using h1, fun j hj => ?_, fun j => by simpa using h3 j⟩
  rw [List.length_set] at hj
  rw [gt_setW zs k j v hk]
  by_cases e : j = k
  · subst e; rw [if_pos rfl]; exact World.cell?_setCell_same _ _ _ (h2 j hj)
  · rw [if_neg e, World.cell?_setCell_other _ _ _ _ (fun h => e (by injection h with _ h2; exact h2.symm))]; exact h2 j hj

theorem blk_one {w : World} {b k : Nat} {ls : List (Int × Int)} {v : Int} (h : Blk w b (flw ls)) (hk : k < ls.length) : Blk (w.setCell ⟨b, k * 2, none⟩ (.int .i64 v)) b (flw (ls.set k (v, (gw ls k).2))) := by
  have h1 := h.put (v := v) (k := k * 2) (by rw [length_flw]; omega)
  rw [flw_setW]
  have e : ((flw ls).set (k * 2) v).set (k * 2 + 1) (gw ls k).2 = (flw ls).set (k * 2) v := by
    rw [List.set_comm _ _ (by omega), ← (gt_flw ls k).2]
    congr 1
    apply List.ext_getElem (by simp)
    intro i hi1 hi2
    by_cases e2 : i = k * 2 + 1
    · subst e2
      rw [List.getElem_set_self]
      simp [gt, hi2]
    · rw [List.getElem_set_ne (fun h => e2 h.symm)]
  rw [e]
  exact h1

theorem blk_two {w : World} {b k : Nat} {ls : List (Int × Int)} {x y : Int} (h : Blk w b (flw ls)) (hk : k < ls.length) : Blk ((w.setCell ⟨b, k * 2, none⟩ (.int .i64 x)).setCell ⟨b, k * 2 + 1, none⟩ (.int .i64 y)) b (flw (ls.set k (x, y))) := by
  rw [flw_setW]
  exact (h.put (k := k * 2) (by rw [length_flw]; omega)).put (k := k * 2 + 1) (by rw [List.length_set, length_flw]; omega)

theorem owd_some {S : Nat → Prop} {ra : Option Addr} {n : Nat} {ls : List (Int × Int)} {w : World} (h : OWd S ra n ls w) (hn : 0 < n) : ∃ b, ra = some ⟨b, 0, none⟩ ∧ S b := by
  rcases h.2.2 with h | ⟨b, e, hb, _⟩
  · omega
  · exact ⟨b, e, hb⟩

set_option maxRecDepth 100000 in
theorem l6Range3_w (P : Nat) (a : Option Addr) (n c : Nat) (f k : Int) (w : World) (hn : n ≤ 32) (hp : w.cell? ⟨P, 3, none⟩ = some (.slice a n c)) :
    Calls Tryz.prog 195 #[.pointer (some ⟨P, 3, none⟩), .int .i64 f, .int .i64 k] w fun e w' => e = .returned (.bool (hasW n f k)) ∧ w' = w := by
  cases h0 : up f 32 with
  | false =>
    have HR : Hid (hasW n f k = false) := by
      show _ = _
      rw [Bool.eq_false_iff] at h0 ⊢
      intro h
      unfold hasW at h
      rw [Bool.and_eq_true] at h
      have := up_iff.1 h.1
      exact h0 (up_iff.2 ⟨this.1, by omega⟩)
    go_enter Tryz.func195, Tryz.ntmps195
    go_wp2_with (go_at_call 68; refine (inUp_calls _ _ _).mono ?_; rintro e w' ⟨rfl, rfl⟩)
    go_ret
    exact ⟨ret_bool HR.out.symm, rfl⟩
  | true =>
    obtain ⟨a1, a2⟩ := up_iff.1 h0
    cases h1 : up k 32 with
    | false =>
      have HR : Hid (hasW n f k = false) := by
        show _ = _
        rw [Bool.eq_false_iff] at h1 ⊢
        intro h
        unfold hasW at h
        rw [Bool.and_eq_true] at h
        have := up_iff.1 h.1
        have := up_iff.1 h.2
        exact h1 (up_iff.2 ⟨this.1, by omega⟩)
      go_enter Tryz.func195, Tryz.ntmps195
      go_wp2_with (go_at_call 68; refine (inUp_calls _ _ _).mono ?_; rintro e w' ⟨rfl, rfl⟩)
      go_ret
      exact ⟨ret_bool HR.out.symm, rfl⟩
    | true =>
      obtain ⟨b1, b2⟩ := up_iff.1 h1
      have HR : Hid (hasW n f k = decide (f + k ≤ (n : Int))) := by
        show _ = _
        rw [Bool.eq_iff_iff]
        simp [hasW, up]
        omega
      go_enter Tryz.func195, Tryz.ntmps195
      go_wp2_with (go_at_call 68; refine (inUp_calls _ _ _).mono ?_; rintro e w' ⟨rfl, rfl⟩)
      go_ret
      exact ⟨ret_bool HR.out.symm, rfl⟩

/-- may the Active domain write a tag. -/
def mayW (D : SD) (t : Int) : Bool := pmV D.ss D.ts D.ds D.ac t == 7

/-- 1 to 8. -/
def inW (n : Int) : Bool := decide (1 ≤ n) && decide (n ≤ (8 : Int))

def rsB (D : SD) (f n t : Int) : Bool := ((inW n && hasW D.ws.length f n) && mayW D t) && (List.range n.toNat).all (fun i => mayW D (gw D.ws (f.toNat + i)).2)

def rtD (D : SD) (f n t : Int) : SD := if rsB D f n t = true then { D with ws := rtK D.ws f.toNat t n.toNat } else D
def rtS (D : SD) (f n t : Int) : Int := if rsB D f n t = true then 0 else 1
def rsS (D : SD) (f n t : Int) : Int := if sysF D = 0 then rtS D f n t else 0
def rsD (D : SD) (f n t : Int) : SD := if sysF D = 0 then rtD D f n t else zeroD

theorem rsD_bad {D : SD} {f n t : Int} (h : sysF D ≠ 0) : rsD D f n t = zeroD := if_neg h
theorem rsD_ok {D : SD} {f n t : Int} (h : sysF D = 0) : rsD D f n t = rtD D f n t := if_pos h

theorem rs_no {D : SD} {f n t : Int} (h : rsB D f n t = false) : rtD D f n t = D ∧ rtS D f n t = 1 := by
  have h' : ¬ rsB D f n t = true := by rw [h]; simp
  exact ⟨if_neg h', if_neg h'⟩

theorem rs_yes {D : SD} {f n t : Int} (h : rsB D f n t = true) : rtD D f n t = { D with ws := rtK D.ws f.toNat t n.toNat } ∧ rtS D f n t = 0 := ⟨if_pos h, if_pos h⟩

theorem mf_tag {t : Int} {ls : List (Int × Int)} (h : mfC t ls = 0) {m : Nat} (hm : m < ls.length) : 0 ≤ (gw ls m).2 ∧ (gw ls m).2 ≤ t := by
  have hl := mfC_len h
  unfold mfC at h
  by_cases h1 : up t 6 = false
  · rw [if_pos h1] at h; omega
  · rw [if_neg h1, if_neg (by omega)] at h
    by_cases h2 : ls.all (okW t) = true
    · rw [List.all_eq_true] at h2
      have := h2 _ (gw_mem hm)
      unfold okW at this
      rw [Bool.and_eq_true] at this
      exact up_iff.1 this.2
    · rw [if_neg h2] at h; omega

theorem mf_six {t : Int} {ls : List (Int × Int)} (h : mfC t ls = 0) (h6 : t ≤ 6) : mfC 6 ls = 0 := by
  have hl := mfC_len h
  have h0 := h
  unfold mfC at h
  by_cases h1 : up t 6 = false
  · rw [if_pos h1] at h; omega
  · rw [if_neg h1, if_neg (by omega)] at h
    by_cases h2 : ls.all (okW t) = true
    · rw [List.all_eq_true] at h2
      refine mfC_ok (by decide) (by omega) (fun j hj => ?_)
      have := h2 _ (gw_mem hj)
      unfold okW at this ⊢
      rw [Bool.and_eq_true] at this ⊢
      have h3 := up_iff.1 this.2
      exact ⟨this.1, up_iff.2 ⟨h3.1, by omega⟩⟩
    · rw [if_neg h2] at h; omega

theorem pmV_in (ss : List (Int × List Int)) (ts ds : List Int) (d t : Int) : pmV ss ts ds d t = 0 ∨ pmV ss ts ds d t = 5 ∨ pmV ss ts ds d t = 7 := by
  unfold pmV permV
  split
  · split
    · exact .inl rfl
    · split
      · exact .inr (.inr rfl)
      · split
        · exact .inr (.inl rfl)
        · exact .inl rfl
  · exact .inl rfl

/-- who may write a tag: it is one. -/
theorem may_tag {D : SD} {t : Int} (h : mayW D t = true) : hasT D.ts.length t = true := by
  unfold mayW at h
  rw [beq_iff_eq] at h
  unfold pmV at h
  by_cases h1 : pmC D.ss D.ts D.ds D.ac t = 0
  · rw [if_pos h1] at h
    by_cases h2 : t = 0
    · rw [if_pos h2] at h; omega
    · unfold pmC at h1
      by_cases h3 : tabF D.ss D.ts D.ds = 0
      · rw [if_pos h3] at h1
        by_cases h4 : inC D.ds D.ac = 0
        · rw [if_pos h4, if_neg h2] at h1
          by_cases h5 : 0 ≤ t - 1 ∧ t - 1 < (D.ts.length : Int)
          · unfold hasT
            rw [Bool.and_eq_true]
            exact ⟨by simp; omega, by simp; omega⟩
          · rw [inC_no h5] at h1; omega
        · rw [if_neg h4] at h1; omega
      · rw [if_neg h3] at h1; exact absurd h1 h3
  · rw [if_neg h1] at h; omega

theorem OYR.setWs {S : Nat → Prop} {A : SA} {D : SD} {w w' : World} {Q : Nat → Nat → Prop} (q1 : ∀ i k, Q i k → S k) (q2 : ∀ i j k, i ≠ j → Q i k → ¬ Q j k) (q3 : szY A D ≤ 1048576) (q4 : A.ln ≤ A.lc) (q5 : OYb Q A D w) (q6 : RwY Q A D w)
    {ws : List (Int × Int)} (hx : OWd (Q 1) A.wa A.wn ws w') (ho : OutS (Q 1) w w') : OYR S A { D with ws := ws } w' := by
  have hk : ∀ j k, j ≠ 1 → Q j k → k < w.heap.size → w'.heap[k]? = w.heap[k]? := fun j k hj e hl => ho.block k hl (q2 j 1 k hj e)
  refine ⟨Q, q1, q2, q3, q4, ⟨OT.loc w w' (fun k e hl => hk 0 k (by decide) e hl) q5.t, hx, OX.loc w w' (fun k e hl => hk 2 k (by decide) e hl) q5.x, OL.loc w w' (fun k e hl => hk 3 k (by decide) e hl) q5.l, OS.loc w w' (fun k e hl => hk 4 k (by decide) e hl) q5.o, OWd.loc w w' (fun k e hl => hk 5 k (by decide) e hl) q5.g⟩, RwY.keep (fun j k hj e hl => hk j k (by omega) e hl) q6⟩

theorem two_stepS {w : World} {S' : Nat → Prop} {b m n : Nat} {ra : Option Addr} {ls : List (Int × Int)} {g : Int} (ho : OWd S' ra n ls w) (hm : m < n) (hra : ra = some ⟨b, 0, none⟩) :
    (w.cell? ⟨b, m * 2, none⟩ = some (.int .i64 (gw ls m).1) ∧ w.cell? ⟨b, m * 2 + 1, none⟩ = some (.int .i64 (gw ls m).2) ∧ w.frozen? ⟨b, m * 2, none⟩ = false ∧ w.frozen? ⟨b, m * 2 + 1, none⟩ = false ∧ b < w.heap.size) ∧
      OWd S' ra n (ls.set m (0, g)) ((w.setCell ⟨b, m * 2, none⟩ (.int .i64 0)).setCell ⟨b, m * 2 + 1, none⟩ (.int .i64 g)) ∧ OutS S' w ((w.setCell ⟨b, m * 2, none⟩ (.int .i64 0)).setCell ⟨b, m * 2 + 1, none⟩ (.int .i64 g)) := by
  obtain ⟨hl, hn, h⟩ := ho
  rcases h with h | ⟨b', e, hb, blk⟩
  · omega
  · rw [hra] at e
    injection e with e
    injection e with e
    subst e
    refine ⟨⟨?_, ?_, blk.2.2 _, blk.2.2 _, blk.1⟩, ⟨by simp [hl], hn, .inr ⟨b, hra, hb, blk_two blk (by omega)⟩⟩, ((OutS.refl _ _).setCell hb _).setCell hb _⟩
    · have h := blk.2.1 (m * 2) (by rw [length_flw]; omega)
      rw [(gt_flw ls m).1] at h
      exact h
    · have h := blk.2.1 (m * 2 + 1) (by rw [length_flw]; omega)
      rw [(gt_flw ls m).2] at h
      exact h

set_option maxRecDepth 100000 in
set_option maxHeartbeats 1000000 in
theorem l6Retag3_O (V : Nat) (ra : Option Addr) (n rc : Nat) (ls : List (Int × Int)) (f k : Nat) (g : Int) (S' : Nat → Prop) (w : World) (hp : w.cell? ⟨V, 3, none⟩ = some (.slice ra n rc)) (ho : OWd S' ra n ls w) (hV : ¬ S' V) (hfk : f + k ≤ n) :
    Calls Tryz.prog 197 #[.pointer (some ⟨V, 3, none⟩), .int .i64 f, .int .i64 k, .int .i64 g] w fun e w' => e = .returned (.tuple #[]) ∧ OWd S' ra n (rtK ls f g k) w' ∧ OutS S' w w' := by
  have hn := ho.2.1
  have hVl := World.block_lt_of_cell? _ _ hp
  have HP := hide hp
  have HO := hide ho
  clear hp ho
  go_enter Tryz.func197, Tryz.ntmps197
  go_wp2
  go_loopw [8] (fun i wr => ∃ m : Nat, f ≤ m ∧ m ≤ f + k ∧ i = .int .i64 m ∧ OWd S' ra n (rtK ls f g (m - f)) wr ∧ OutS S' w wr) (fun i _ => f + k - (intOf i).toNat)
  case atStart => exact ⟨f, Nat.le_refl _, by omega, rfl, by rw [Nat.sub_self]; exact HO.out, OutS.refl _ _⟩
  case round =>
    obtain ⟨m, hm1, hm2, rfl, how, hout⟩ := hrel
    by_cases hlt : m < f + k
    · obtain ⟨b, rfl, hbS⟩ := owd_some how (by omega)
      obtain ⟨⟨r0, r1, e0, e1, hb⟩, hnew, hstep⟩ := two_stepS (g := g) how (show m < n by omega) rfl
      have q0 : wr.cell? ⟨V, 3, none⟩ = some (.slice (some ⟨b, 0, none⟩) n rc) := (World.cell?_of_block (a := ⟨V, 3, none⟩) (hout.block V hVl hV)).trans HP.out
      have HW := hide hnew
      have HS := hide (hout.trans hstep)
      have i1 : (m : Int) < (f : Int) + (k : Int) := by omega
      clear how hout hnew hstep
      go_wp2
      go_roundw
      case rel =>
        refine ⟨m + 1, by omega, by omega, by go_num, ?_, HS.out⟩
        have e : m + 1 - f = (m - f) + 1 := by omega
        have e2 : f + (m - f) = m := by omega
        rw [e]
        show OWd _ _ _ ((rtK ls f g (m - f)).set (f + (m - f)) (0, g)) _
        rw [e2]
        exact HW.out
      case measure => simp [intOf]; omega
    · have e : m = f + k := by omega
      subst e
      have e : f + k - f = k := by omega
      rw [e] at how
      have i1 : ¬ ((f : Int) + (k : Int) < (f : Int) + (k : Int)) := by omega
      have HOW := hide how
      have HOU := hide hout
      clear how hout
      go_wp2
      exact bodyPost_end (v := .tuple #[]) (by simp [results, Tryz.results197, go_sem]) rfl ⟨rfl, HOW.out, HOU.out⟩

theorem inOne_is (v m : Int) (b : Bool) (w : World) (h : (decide (1 ≤ v) && decide (v ≤ m)) = b) : Calls Tryz.prog 68 #[.int .i64 v, .int .i64 1, .int .i64 m] w fun e w' => e = .returned (.bool b) ∧ w' = w := h ▸ inOne_calls v m w

theorem l6Range3_is (P : Nat) (a : Option Addr) (n c : Nat) (f k : Int) (b : Bool) (w : World) (hn : n ≤ 32) (hp : w.cell? ⟨P, 3, none⟩ = some (.slice a n c)) (h : hasW n f k = b) :
    Calls Tryz.prog 195 #[.pointer (some ⟨P, 3, none⟩), .int .i64 f, .int .i64 k] w fun e w' => e = .returned (.bool b) ∧ w' = w := h ▸ l6Range3_w P a n c f k w hn hp

theorem l3PermY (P : Nat) (A : SA) (D : SD) (k : Nat) (t : Int) (w : World) (c0 : w.cell? ⟨P, 0, none⟩ = some (.slice A.a A.n A.c)) (c1 : w.cell? ⟨P, 1, none⟩ = some (.slice A.ta A.tn A.tc)) (c2 : w.cell? ⟨P, 2, none⟩ = some (.slice A.da A.dn A.dc)) (hl : P < w.heap.size) (hrt : RT w A.a A.n D.ss A.ta A.tn D.ts A.da A.dn D.ds) (H : SysR A D k) (ht : 0 ≤ t ∧ t ≤ (A.tn : Int)) :
    Calls Tryz.prog 62 #[.pointer (some ⟨P, 0, none⟩), .int .i64 (k : Int), .int .i64 t] w fun e w' => e = .returned (.int .i64 (pmV D.ss D.ts D.ds (k : Int) t)) ∧ Below w.heap.size w w' := by
  have l1 := hrt.2.2.2.1.1
  have l2 := hrt.2.2.2.2.2.1
  have hk := H.hk
  by_cases h0 : t = 0
  · subst h0
    rw [(pm_own H.tf (inC_yes (l := D.ds) (j := k) (by omega))).2]
    exact l3Perm0_calls P _ w
  · obtain ⟨j, rfl⟩ : ∃ j : Nat, t = (j : Int) + 1 := ⟨(t - 1).toNat, by omega⟩
    have e : (j : Int) + 1 - 1 = (j : Int) := by omega
    rw [(pm_yes H.tf (inC_yes (l := D.ds) (j := k) (by omega)) h0 (by rw [e]; exact inC_yes (by omega))).2, e, inL_yes (by omega), inL_yes (by omega)]
    have := H.t6
    have := H.d4
    exact l3Perm_calls P A.a A.n A.c D.ss A.ta A.tn A.tc D.ts A.da A.dn A.dc D.ds k j w H.good (by omega) (by omega) hl c0 c1 c2 hrt H.st H.sd hk (by omega)

set_option maxRecDepth 100000 in
set_option maxHeartbeats 1000000 in
theorem l8May_calls (P : Nat) (A : SA) (D : SD) (k : Nat) (t : Int) (w : World) (c0 : w.cell? ⟨P, 0, none⟩ = some (.slice A.a A.n A.c)) (c1 : w.cell? ⟨P, 1, none⟩ = some (.slice A.ta A.tn A.tc)) (c2 : w.cell? ⟨P, 2, none⟩ = some (.slice A.da A.dn A.dc)) (c5 : w.cell? ⟨P, 5, none⟩ = some (.int .i64 (k : Int))) (hl : P < w.heap.size) (hrt : RT w A.a A.n D.ss A.ta A.tn D.ts A.da A.dn D.ds) (H : SysR A D k) (ht : 0 ≤ t ∧ t ≤ (A.tn : Int)) :
    Calls Tryz.prog 196 #[.pointer (some ⟨P, 0, none⟩), .int .i64 t] w fun e w' => e = .returned (.bool (mayW D t)) ∧ Below w.heap.size w w' := by
  have HC := hide (l3PermY P A D k t w.drew c0 c1 c2 hl (hrt.below (Below.refl _ _).drew (Nat.le_refl _)) H ht)
  have hm : mayW D t = (pmV D.ss D.ts D.ds (k : Int) t == 7) := by unfold mayW; rw [H.ac]
  rw [hm]
  clear hm hrt H
  rcases pmV_in D.ss D.ts D.ds (k : Int) t with hv | hv | hv
  all_goals (
    have HV := hide hv
    have HS0 : Hid (w.drew.cell? ⟨P, 5, none⟩ = some (.int .i64 (k : Int)) ∧ Below w.heap.size w w.drew) := ⟨c5, (Below.refl _ _).drew⟩
    clear hv
    go_enter Tryz.func196, Tryz.ntmps196
    go_wp2_with fail
    go_region_held2 (fun W => W.cell? ⟨P, 5, none⟩ = some (.int .i64 (k : Int)) ∧ Below w.heap.size w W)
      (first | with_reducible exact HS0.out | with_reducible assumption)
      (first | (go_at_call 62; refine HC.out.mono ?_; rintro e wa ⟨rfl, ga⟩; rw [HV.out]; have ha : wa.cell? ⟨P, 5, none⟩ = some (.int .i64 (k : Int)) ∧ Below w.heap.size w wa := ⟨(ga.cell (p := ⟨P, 5, none⟩) hl).trans c5, (Below.refl _ _).drew.trans ga⟩; clear ga))
    all_goals (
      go_wp2
      go_ret
      exact ⟨ret_bool (by rw [HV.out]; rfl), ha.2⟩))

end Go.Proofs.YtcojgmecocjnkabGreat
