import Derived.Test.YtcojgmecocjnkaaGreatG27
import Derived.Test.YtcojgmecocjnkaaGreatG11
import Derived.Test.YtcojgmecocjnkaaGreatG17
import Derived.WalkKit
import Derived.ProofKit
import Derived.OpenShut
import Derived.ShutString
import Derived.ChangeOld
import Derived.Below
import Derived.WalkSpells
import Derived.Deep.QuietTactic
import Derived.BigQuiet
import Derived.Deep.RegionWith
import Derived.Deep.WholeRow
import Derived.Deep.DeepCutAuto
import Derived.Deep.RegionHeld2
import Derived.Deep.AppendLies
import Derived.Deep.RegionLaw
namespace Go.Proofs.YtcojgmecocjnkaaGreat
open Go.ChangeShapes Go.WideShapes Go.ChangeAt Go.RowKit

theorem flw_setW (x y : Int) : ∀ (ls : List (Int × Int)) (k : Nat), flw (ls.set k (x, y)) = ((flw ls).set (k * 2) x).set (k * 2 + 1) y
  | [], k => by simp [flw]
  | l :: r, 0 => by simp [flw]
  | l :: r, k + 1 => by
    have e0 : (k + 1) * 2 = k * 2 + 1 + 1 := by omega
    rw [e0]
    simp [flw, flw_setW x y r k]

theorem gt_setW (zs : List Int) (k i : Nat) (v : Int) (hk : k < zs.length) : gt (zs.set k v) i = if i = k then v else gt zs i := by
  by_cases e : i = k
  · subst e; rw [if_pos rfl]; simp [gt, hk]
  · rw [if_neg e]; simp [gt, Ne.symm e]

theorem Blk.put {w : World} {b k : Nat} {zs : List Int} {v : Int} (h : Blk w b zs) (hk : k < zs.length) : Blk (w.setCell ⟨b, k, none⟩ (.int .i64 v)) b (zs.set k v) := by
  obtain ⟨h1, h2, h3⟩ := h
  refine ⟨by simpa [World.setCell] using h1, fun j hj => ?_, fun j => by simpa using h3 j⟩
  rw [List.length_set] at hj
  rw [gt_setW zs k j v hk]
  by_cases e : j = k
  · subst e; rw [if_pos rfl]; exact World.cell?_setCell_same _ _ _ (h2 j hj)
  · rw [if_neg e, World.cell?_setCell_other _ _ _ _ (fun h => e (by injection h with _ h2; exact h2.symm))]; exact h2 j hj

theorem blk_one {w : World} {b k : Nat} {ls : List (Int × Int)} {v : Int} (h : Blk w b (flw ls)) (hk : k < ls.length) : Blk (w.setCell ⟨b, k * 2, none⟩ (.int .i64 v)) b (flw (ls.set k (v, (gw ls k).2))) := by
  have h1 := h.put (v := v) (k := k * 2) (by rw [length_flw]; omega)
  rw [flw_setW]
  have e : ((flw ls).set (k * 2) v).set (k * 2 + 1) (gw ls k).2 = (flw ls).set (k * 2) v := by
    rw [List.set_comm _ _ (by omega), ← (gt_flw ls k).2]
    congr 1
    apply List.ext_getElem (by simp)
    intro i hi1 hi2
    by_cases e2 : i = k * 2 + 1
    · subst e2
      rw [List.getElem_set_self]
      simp [gt, hi2]
    · rw [List.getElem_set_ne (fun h => e2 h.symm)]
  rw [e]
  exact h1

theorem blk_two {w : World} {b k : Nat} {ls : List (Int × Int)} {x y : Int} (h : Blk w b (flw ls)) (hk : k < ls.length) : Blk ((w.setCell ⟨b, k * 2, none⟩ (.int .i64 x)).setCell ⟨b, k * 2 + 1, none⟩ (.int .i64 y)) b (flw (ls.set k (x, y))) := by
  rw [flw_setW]
  exact (h.put (k := k * 2) (by rw [length_flw]; omega)).put (k := k * 2 + 1) (by rw [List.length_set, length_flw]; omega)

theorem owd_some {S : Nat → Prop} {ra : Option Addr} {n : Nat} {ls : List (Int × Int)} {w : World} (h : OWd S ra n ls w) (hn : 0 < n) : ∃ b, ra = some ⟨b, 0, none⟩ ∧ S b := by
  rcases h.2.2 with h | ⟨b, e, hb, _⟩
  · omega
  · exact ⟨b, e, hb⟩

set_option maxRecDepth 100000 in
theorem l6Range3_w (P : Nat) (a : Option Addr) (n c : Nat) (f k : Int) (w : World) (hn : n ≤ 32) (hp : w.cell? ⟨P, 3, none⟩ = some (.slice a n c)) :
    Calls Tryz.prog 133 #[.pointer (some ⟨P, 3, none⟩), .int .i64 f, .int .i64 k] w fun e w' => e = .returned (.bool (hasW n f k)) ∧ w' = w := by
  cases h0 : up f 32 with
  | false =>
    have HR : Hid (hasW n f k = false) := by
      show _ = _
      rw [Bool.eq_false_iff] at h0 ⊢
      intro h
      unfold hasW at h
      rw [Bool.and_eq_true] at h
      have := up_iff.1 h.1
      exact h0 (up_iff.2 ⟨this.1, by omega⟩)
    go_enter Tryz.func133, Tryz.ntmps133
    go_wp2_with (go_at_call 132; refine (inUp_calls _ _ _).mono ?_; rintro e w' ⟨rfl, rfl⟩)
    go_ret
    exact ⟨ret_bool HR.out.symm, rfl⟩
  | true =>
    obtain ⟨a1, a2⟩ := up_iff.1 h0
    cases h1 : up k 32 with
    | false =>
      have HR : Hid (hasW n f k = false) := by
        show _ = _
        rw [Bool.eq_false_iff] at h1 ⊢
        intro h
        unfold hasW at h
        rw [Bool.and_eq_true] at h
        have := up_iff.1 h.1
        have := up_iff.1 h.2
        exact h1 (up_iff.2 ⟨this.1, by omega⟩)
      go_enter Tryz.func133, Tryz.ntmps133
      go_wp2_with (go_at_call 132; refine (inUp_calls _ _ _).mono ?_; rintro e w' ⟨rfl, rfl⟩)
      go_ret
      exact ⟨ret_bool HR.out.symm, rfl⟩
    | true =>
      obtain ⟨b1, b2⟩ := up_iff.1 h1
      have HR : Hid (hasW n f k = decide (f + k ≤ (n : Int))) := by
        show _ = _
        rw [Bool.eq_iff_iff]
        simp [hasW, up]
        omega
      go_enter Tryz.func133, Tryz.ntmps133
      go_wp2_with (go_at_call 132; refine (inUp_calls _ _ _).mono ?_; rintro e w' ⟨rfl, rfl⟩)
      go_ret
      exact ⟨ret_bool HR.out.symm, rfl⟩

/-- may the Active domain write a tag. -/
def mayW (D : SD) (t : Int) : Bool := pmV D.ss D.ts D.ds D.ac t == 7

/-- 1 to 8. -/
def inW (n : Int) : Bool := decide (1 ≤ n) && decide (n ≤ (8 : Int))

def rsB (D : SD) (f n t : Int) : Bool := ((inW n && hasW D.ws.length f n) && mayW D t) && (List.range n.toNat).all (fun i => mayW D (gw D.ws (f.toNat + i)).2)

def rtD (D : SD) (f n t : Int) : SD := if rsB D f n t = true then { D with ws := rtK D.ws f.toNat t n.toNat } else D
def rtS (D : SD) (f n t : Int) : Int := if rsB D f n t = true then 0 else 1
def rsS (D : SD) (f n t : Int) : Int := if sysF D = 0 then rtS D f n t else 0
def rsD (D : SD) (f n t : Int) : SD := if sysF D = 0 then rtD D f n t else zeroD

theorem rsD_bad {D : SD} {f n t : Int} (h : sysF D ≠ 0) : rsD D f n t = zeroD := if_neg h
theorem rsD_ok {D : SD} {f n t : Int} (h : sysF D = 0) : rsD D f n t = rtD D f n t := if_pos h

theorem rs_no {D : SD} {f n t : Int} (h : rsB D f n t = false) : rtD D f n t = D ∧ rtS D f n t = 1 := by
  have h' : ¬ rsB D f n t = true := by rw [h]; simp
  exact ⟨if_neg h', if_neg h'⟩

theorem rs_yes {D : SD} {f n t : Int} (h : rsB D f n t = true) : rtD D f n t = { D with ws := rtK D.ws f.toNat t n.toNat } ∧ rtS D f n t = 0 := ⟨if_pos h, if_pos h⟩

theorem mf_tag {t : Int} {ls : List (Int × Int)} (h : mfC t ls = 0) {m : Nat} (hm : m < ls.length) : 0 ≤ (gw ls m).2 ∧ (gw ls m).2 ≤ t := by
  have hl := mfC_len h
  unfold mfC at h
  by_cases h1 : up t 6 = false
  · rw [if_pos h1] at h; omega
  · rw [if_neg h1, if_neg (by omega)] at h
    by_cases h2 : ls.all (okW t) = true
    · rw [List.all_eq_true] at h2
      have := h2 _ (gw_mem hm)
      unfold okW at this
      rw [Bool.and_eq_true] at this
      exact up_iff.1 this.2
    · rw [if_neg h2] at h; omega

theorem mf_six {t : Int} {ls : List (Int × Int)} (h : mfC t ls = 0) (h6 : t ≤ 6) : mfC 6 ls = 0 := by
  have hl := mfC_len h
  have h0 := h
  unfold mfC at h
  by_cases h1 : up t 6 = false
  · rw [if_pos h1] at h; omega
  · rw [if_neg h1, if_neg (by omega)] at h
    by_cases h2 : ls.all (okW t) = true
    · rw [List.all_eq_true] at h2
      refine mfC_ok (by decide) (by omega) (fun j hj => ?_)
      have := h2 _ (gw_mem hj)
      unfold okW at this ⊢
      rw [Bool.and_eq_true] at this ⊢
      have h3 := up_iff.1 this.2
      exact ⟨this.1, up_iff.2 ⟨h3.1, by omega⟩⟩
    · rw [if_neg h2] at h; omega

theorem pmV_in (ss : List (Int × List Int)) (ts ds : List Int) (d t : Int) : pmV ss ts ds d t = 0 ∨ pmV ss ts ds d t = 5 ∨ pmV ss ts ds d t = 7 := by
  unfold pmV permV
  split
  · split
    · exact .inl rfl
    · split
      · exact .inr (.inr rfl)
      · split
        · exact .inr (.inl rfl)
        · exact .inl rfl
  · exact .inl rfl

/-- who may write a tag: it is one. -/
theorem may_tag {D : SD} {t : Int} (h : mayW D t = true) : hasT D.ts.length t = true := by
  unfold mayW at h
  rw [beq_iff_eq] at h
  unfold pmV at h
  by_cases h1 : pmC D.ss D.ts D.ds D.ac t = 0
  · rw [if_pos h1] at h
    by_cases h2 : t = 0
    · rw [if_pos h2] at h; omega
    · unfold pmC at h1
      by_cases h3 : tabF D.ss D.ts D.ds = 0
      · rw [if_pos h3] at h1
        by_cases h4 : inC D.ds D.ac = 0
        · rw [if_pos h4, if_neg h2] at h1
          by_cases h5 : 0 ≤ t - 1 ∧ t - 1 < (D.ts.length : Int)
          · unfold hasT
            rw [Bool.and_eq_true]
            exact ⟨by simp; omega, by simp; omega⟩
          · rw [inC_no h5] at h1; omega
        · rw [if_neg h4] at h1; omega
      · rw [if_neg h3] at h1; exact absurd h1 h3
  · rw [if_neg h1] at h; omega

theorem OYR.setWs {S : Nat → Prop} {A : SA} {D : SD} {w w' : World} {Q : Nat → Nat → Prop} (q1 : ∀ i k, Q i k → S k) (q2 : ∀ i j k, i ≠ j → Q i k → ¬ Q j k) (q3 : szY A D ≤ 1048576) (q4 : A.ln ≤ A.lc) (q5 : OYb Q A D w) (q6 : RwY Q A D w)
    {ws : List (Int × Int)} (hx : OWd (Q 1) A.wa A.wn ws w') (ho : OutS (Q 1) w w') : OYR S A { D with ws := ws } w' := by
  have hk : ∀ j k, j ≠ 1 → Q j k → k < w.heap.size → w'.heap[k]? = w.heap[k]? := fun j k hj e hl => ho.block k hl (q2 j 1 k hj e)
  refine ⟨Q, q1, q2, q3, q4, ⟨OT.loc w w' (fun k e hl => hk 0 k (by decide) e hl) q5.t, hx, OX.loc w w' (fun k e hl => hk 2 k (by decide) e hl) q5.x, OL.loc w w' (fun k e hl => hk 3 k (by decide) e hl) q5.l, OS.loc w w' (fun k e hl => hk 4 k (by decide) e hl) q5.o, OWd.loc w w' (fun k e hl => hk 5 k (by decide) e hl) q5.g⟩, RwY.keep (fun j k hj e hl => hk j k (by omega) e hl) q6⟩

theorem two_stepS {w : World} {S' : Nat → Prop} {b m n : Nat} {ra : Option Addr} {ls : List (Int × Int)} {g : Int} (ho : OWd S' ra n ls w) (hm : m < n) (hra : ra = some ⟨b, 0, none⟩) :
    (w.cell? ⟨b, m * 2, none⟩ = some (.int .i64 (gw ls m).1) ∧ w.cell? ⟨b, m * 2 + 1, none⟩ = some (.int .i64 (gw ls m).2) ∧ w.frozen? ⟨b, m * 2, none⟩ = false ∧ w.frozen? ⟨b, m * 2 + 1, none⟩ = false ∧ b < w.heap.size) ∧
      OWd S' ra n (ls.set m (0, g)) ((w.setCell ⟨b, m * 2, none⟩ (.int .i64 0)).setCell ⟨b, m * 2 + 1, none⟩ (.int .i64 g)) ∧ OutS S' w ((w.setCell ⟨b, m * 2, none⟩ (.int .i64 0)).setCell ⟨b, m * 2 + 1, none⟩ (.int .i64 g)) := by
  obtain ⟨hl, hn, h⟩ := ho
  rcases h with h | ⟨b', e, hb, blk⟩
  · omega
  · rw [hra] at e
    injection e with e
    injection e with e
    subst e
    refine ⟨⟨?_, ?_, blk.2.2 _, blk.2.2 _, blk.1⟩, ⟨by simp [hl], hn, .inr ⟨b, hra, hb, blk_two blk (by omega)⟩⟩, ((OutS.refl _ _).setCell hb _).setCell hb _⟩
    · have h := blk.2.1 (m * 2) (by rw [length_flw]; omega)
      rw [(gt_flw ls m).1] at h
      exact h
    · have h := blk.2.1 (m * 2 + 1) (by rw [length_flw]; omega)
      rw [(gt_flw ls m).2] at h
      exact h

set_option maxRecDepth 100000 in
set_option maxHeartbeats 1000000 in
theorem l6Retag3_O (V : Nat) (ra : Option Addr) (n rc : Nat) (ls : List (Int × Int)) (f k : Nat) (g : Int) (S' : Nat → Prop) (w : World) (hp : w.cell? ⟨V, 3, none⟩ = some (.slice ra n rc)) (ho : OWd S' ra n ls w) (hV : ¬ S' V) (hfk : f + k ≤ n) :
    Calls Tryz.prog 135 #[.pointer (some ⟨V, 3, none⟩), .int .i64 f, .int .i64 k, .int .i64 g] w fun e w' => e = .returned (.tuple #[]) ∧ OWd S' ra n (rtK ls f g k) w' ∧ OutS S' w w' := by
  have hn := ho.2.1
  have hVl := World.block_lt_of_cell? _ _ hp
  have HP := hide hp
  have HO := hide ho
  clear hp ho
  go_enter Tryz.func135, Tryz.ntmps135
  go_wp2
  go_loopw [8] (fun i wr => ∃ m : Nat, f ≤ m ∧ m ≤ f + k ∧ i = .int .i64 m ∧ OWd S' ra n (rtK ls f g (m - f)) wr ∧ OutS S' w wr) (fun i _ => f + k - (intOf i).toNat)
  case atStart => exact ⟨f, Nat.le_refl _, by omega, rfl, by rw [Nat.sub_self]; exact HO.out, OutS.refl _ _⟩
  case round =>
    obtain ⟨m, hm1, hm2, rfl, how, hout⟩ := hrel
    by_cases hlt : m < f + k
    · obtain ⟨b, rfl, hbS⟩ := owd_some how (by omega)
      obtain ⟨⟨r0, r1, e0, e1, hb⟩, hnew, hstep⟩ := two_stepS (g := g) how (show m < n by omega) rfl
      have q0 : wr.cell? ⟨V, 3, none⟩ = some (.slice (some ⟨b, 0, none⟩) n rc) := (World.cell?_of_block (a := ⟨V, 3, none⟩) (hout.block V hVl hV)).trans HP.out
      have HW := hide hnew
      have HS := hide (hout.trans hstep)
      have i1 : (m : Int) < (f : Int) + (k : Int) := by omega
      clear how hout hnew hstep
      go_wp2
      go_roundw
      case rel =>
        refine ⟨m + 1, by omega, by omega, by go_num, ?_, HS.out⟩
        have e : m + 1 - f = (m - f) + 1 := by omega
        have e2 : f + (m - f) = m := by omega
        rw [e]
        show OWd _ _ _ ((rtK ls f g (m - f)).set (f + (m - f)) (0, g)) _
        rw [e2]
        exact HW.out
      case measure => simp [intOf]; omega
    · have e : m = f + k := by omega
      subst e
      have e : f + k - f = k := by omega
      rw [e] at how
      have i1 : ¬ ((f : Int) + (k : Int) < (f : Int) + (k : Int)) := by omega
      have HOW := hide how
      have HOU := hide hout
      clear how hout
      go_wp2
      exact bodyPost_end (v := .tuple #[]) (by simp [results, Tryz.results135, go_sem]) rfl ⟨rfl, HOW.out, HOU.out⟩

theorem inOne_is (v m : Int) (b : Bool) (w : World) (h : (decide (1 ≤ v) && decide (v ≤ m)) = b) : Calls Tryz.prog 132 #[.int .i64 v, .int .i64 1, .int .i64 m] w fun e w' => e = .returned (.bool b) ∧ w' = w := h ▸ inOne_calls v m w

theorem l6Range3_is (P : Nat) (a : Option Addr) (n c : Nat) (f k : Int) (b : Bool) (w : World) (hn : n ≤ 32) (hp : w.cell? ⟨P, 3, none⟩ = some (.slice a n c)) (h : hasW n f k = b) :
    Calls Tryz.prog 133 #[.pointer (some ⟨P, 3, none⟩), .int .i64 f, .int .i64 k] w fun e w' => e = .returned (.bool b) ∧ w' = w := h ▸ l6Range3_w P a n c f k w hn hp

theorem l3PermY (P : Nat) (A : SA) (D : SD) (k : Nat) (t : Int) (w : World) (c0 : w.cell? ⟨P, 0, none⟩ = some (.slice A.a A.n A.c)) (c1 : w.cell? ⟨P, 1, none⟩ = some (.slice A.ta A.tn A.tc)) (c2 : w.cell? ⟨P, 2, none⟩ = some (.slice A.da A.dn A.dc)) (hl : P < w.heap.size) (hrt : RT w A.a A.n D.ss A.ta A.tn D.ts A.da A.dn D.ds) (H : SysR A D k) (ht : 0 ≤ t ∧ t ≤ (A.tn : Int)) :
    Calls Tryz.prog 151 #[.pointer (some ⟨P, 0, none⟩), .int .i64 (k : Int), .int .i64 t] w fun e w' => e = .returned (.int .i64 (pmV D.ss D.ts D.ds (k : Int) t)) ∧ Below w.heap.size w w' := by
  have l1 := hrt.2.2.2.1.1
  have l2 := hrt.2.2.2.2.2.1
  have hk := H.hk
  by_cases h0 : t = 0
  · subst h0
    rw [(pm_own H.tf (inC_yes (l := D.ds) (j := k) (by omega))).2]
    exact l3Perm0_calls P _ w
  · obtain ⟨j, rfl⟩ : ∃ j : Nat, t = (j : Int) + 1 := ⟨(t - 1).toNat, by omega⟩
    have e : (j : Int) + 1 - 1 = (j : Int) := by omega
    rw [(pm_yes H.tf (inC_yes (l := D.ds) (j := k) (by omega)) h0 (by rw [e]; exact inC_yes (by omega))).2, e, inL_yes (by omega), inL_yes (by omega)]
    have := H.t6
    have := H.d4
    exact l3Perm_calls P A.a A.n A.c D.ss A.ta A.tn A.tc D.ts A.da A.dn A.dc D.ds k j w H.good (by omega) (by omega) hl c0 c1 c2 hrt H.st H.sd hk (by omega)

set_option maxRecDepth 100000 in
set_option maxHeartbeats 1000000 in
theorem l8May_calls (P : Nat) (A : SA) (D : SD) (k : Nat) (t : Int) (w : World) (c0 : w.cell? ⟨P, 0, none⟩ = some (.slice A.a A.n A.c)) (c1 : w.cell? ⟨P, 1, none⟩ = some (.slice A.ta A.tn A.tc)) (c2 : w.cell? ⟨P, 2, none⟩ = some (.slice A.da A.dn A.dc)) (c5 : w.cell? ⟨P, 5, none⟩ = some (.int .i64 (k : Int))) (hl : P < w.heap.size) (hrt : RT w A.a A.n D.ss A.ta A.tn D.ts A.da A.dn D.ds) (H : SysR A D k) (ht : 0 ≤ t ∧ t ≤ (A.tn : Int)) :
    Calls Tryz.prog 134 #[.pointer (some ⟨P, 0, none⟩), .int .i64 t] w fun e w' => e = .returned (.bool (mayW D t)) ∧ Below w.heap.size w w' := by
  have HC := hide (l3PermY P A D k t w.drew c0 c1 c2 hl (hrt.below (Below.refl _ _).drew (Nat.le_refl _)) H ht)
  have hm : mayW D t = (pmV D.ss D.ts D.ds (k : Int) t == 7) := by unfold mayW; rw [H.ac]
  rw [hm]
  clear hm hrt H
  rcases pmV_in D.ss D.ts D.ds (k : Int) t with hv | hv | hv
  all_goals (
    have HV := hide hv
    have HS0 : Hid (w.drew.cell? ⟨P, 5, none⟩ = some (.int .i64 (k : Int)) ∧ Below w.heap.size w w.drew) := ⟨c5, (Below.refl _ _).drew⟩
    clear hv
    go_enter Tryz.func134, Tryz.ntmps134
    go_wp2_with fail
    go_region_held2 (fun W => W.cell? ⟨P, 5, none⟩ = some (.int .i64 (k : Int)) ∧ Below w.heap.size w W)
      (first | with_reducible exact HS0.out | with_reducible assumption)
      (first | (go_at_call 151; refine HC.out.mono ?_; rintro e wa ⟨rfl, ga⟩; rw [HV.out]; have ha : wa.cell? ⟨P, 5, none⟩ = some (.int .i64 (k : Int)) ∧ Below w.heap.size w wa := ⟨(ga.cell (p := ⟨P, 5, none⟩) hl).trans c5, (Below.refl _ _).drew.trans ga⟩; clear ga))
    all_goals (
      go_wp2
      go_ret
      exact ⟨ret_bool (by rw [HV.out]; rfl), ha.2⟩))

set_option maxRecDepth 100000 in
set_option maxHeartbeats 4000000 in
theorem l8Retag_gen (P : Nat) (S : Nat → Prop) (A : SA) (D : SD) (k : Nat) (f n t : Int) (w : World) (hy : YM P 0 S A D w) (H : SysR A D k) (hS : ∀ q, S q → q < w.heap.size) :
    Calls Tryz.prog 62 #[.pointer (some ⟨P, 0, none⟩), .int .i64 f, .int .i64 n, .int .i64 t] w fun e w' => e = .returned (.int .i64 (rtS D f n t)) ∧ (∃ B, YM P 0 (fun q => S q ∨ (w.heap.size ≤ q ∧ q < w'.heap.size)) B (rtD D f n t) w') ∧ OutS (fun q => S q ∨ q = P) w w' := by
  have hr := hy.y.oy.rs
  have _ := hS
  obtain ⟨k0, k1, k2, k3, k4, k5, k6, k7⟩ := hr.len
  have x0 := hy.cs.cell 0 rfl
  have x1 := hy.cs.cell 1 rfl
  have x2 := hy.cs.cell 2 rfl
  have x3 := hy.cs.cell 3 rfl
  have x5 := hy.cs.cell 5 rfl
  simp only [Nat.zero_add] at x0 x1 x2 x3 x5
  rw [H.ac] at x5
  have hPl := hy.lt
  have hw32 : A.wn ≤ 32 := by have := mfC_len H.mf; omega
  have HY := hide hy
  have HN : Hid (rsB D f n t = false → rtS D f n t = 1 ∧ ∀ w', Below w.heap.size w w' → (∃ B, YM P 0 (fun q => S q ∨ (w.heap.size ≤ q ∧ q < w'.heap.size)) B (rtD D f n t) w') ∧ OutS (fun q => S q ∨ q = P) w w') := fun h =>
    ⟨(rs_no h).2, fun w' hb => ⟨⟨A, by rw [(rs_no h).1]; exact (HY.out.below hb).mono (fun _ e => .inl e) (fun e => by rcases e with e | e; exact HY.out.ns e; omega)⟩, OutS.of_below hb⟩⟩
  cases h8 : inW n with
  | false =>
    have h8' : (decide (1 ≤ n) && decide (n ≤ (8 : Int))) = false := h8
    have hno : rsB D f n t = false := by unfold rsB; rw [h8]; rfl
    have HNo := hide (HN.out hno)
    clear HN hno hy hr H
    go_enter Tryz.func62, Tryz.ntmps62
    go_wp2_with (first | (go_at_call 132; with_reducible refine (inOne_is _ _ _ _ h8').mono ?_; rintro e w' ⟨rfl, hw'⟩; rw [hw']; clear hw' w'))
    go_ret
    exact ⟨ret_int HNo.out.1.symm, HNo.out.2 _ (Below.refl _ _)⟩
  | true =>
  have h8' : (decide (1 ≤ n) && decide (n ≤ (8 : Int))) = true := h8
  cases hw : hasW A.wn f n with
  | false =>
    have hno : rsB D f n t = false := by unfold rsB; rw [h8, k3, hw]; rfl
    have HNo := hide (HN.out hno)
    clear HN hno hy hr H
    go_enter Tryz.func62, Tryz.ntmps62
    go_wp2_with (first | (go_at_call 132; with_reducible refine (inOne_is _ _ _ _ h8').mono ?_; rintro e w' ⟨rfl, hw'⟩; rw [hw']; clear hw' w') | (go_at_call 133; with_reducible refine (l6Range3_is P A.wa A.wn A.wc _ _ _ _ hw32 x3 hw).mono ?_; rintro e w' ⟨rfl, hw'⟩; rw [hw']; clear hw' w'))
    go_ret
    exact ⟨ret_int HNo.out.1.symm, HNo.out.2 _ (Below.refl _ _)⟩
  | true =>
  cases ht : hasT A.tn t with
  | false =>
    have hno : rsB D f n t = false := by
      have hm : mayW D t = false := by
        cases hm : mayW D t with
        | false => rfl
        | true => rw [← ht, ← k1]; exact (may_tag hm).symm
      unfold rsB
      rw [hm, Bool.and_false, Bool.false_and]
    have HNo := hide (HN.out hno)
    clear HN hno hy hr H
    go_enter Tryz.func62, Tryz.ntmps62
    go_wp2_with (first | (go_at_call 132; with_reducible refine (inOne_is _ _ _ _ h8').mono ?_; rintro e w' ⟨rfl, hw'⟩; rw [hw']; clear hw' w') | (go_at_call 133; with_reducible refine (l6Range3_is P A.wa A.wn A.wc _ _ _ _ hw32 x3 hw).mono ?_; rintro e w' ⟨rfl, hw'⟩; rw [hw']; clear hw' w') | (go_at_call 76; with_reducible refine (hasTag_is P A.ta A.tn A.tc _ _ _ x1 ht).mono ?_; rintro e w' ⟨rfl, hw'⟩; rw [hw']; clear hw' w'))
    go_ret
    exact ⟨ret_int HNo.out.1.symm, HNo.out.2 _ (Below.refl _ _)⟩
  | true =>
  have ht2 : 0 ≤ t ∧ t ≤ (A.tn : Int) := by
    unfold hasT at ht
    rw [Bool.and_eq_true] at ht
    have a := of_decide_eq_true ht.1
    have b := of_decide_eq_true ht.2
    omega
  have hrt := hr.rt
  cases hm : mayW D t with
  | false =>
    have hno : rsB D f n t = false := by unfold rsB; rw [hm, Bool.and_false, Bool.false_and]
    have HNo := hide (HN.out hno)
    have HC := hide (l8May_calls P A D k t w x0 x1 x2 x5 hPl hrt H ht2)
    clear HN hno hy hr H hrt
    go_enter Tryz.func62, Tryz.ntmps62
    go_wp2_with (first | (go_at_call 132; with_reducible refine (inOne_is _ _ _ _ h8').mono ?_; rintro e w' ⟨rfl, hw'⟩; rw [hw']; clear hw' w') | (go_at_call 133; with_reducible refine (l6Range3_is P A.wa A.wn A.wc _ _ _ _ hw32 x3 hw).mono ?_; rintro e w' ⟨rfl, hw'⟩; rw [hw']; clear hw' w') | (go_at_call 76; with_reducible refine (hasTag_is P A.ta A.tn A.tc _ _ _ x1 ht).mono ?_; rintro e w' ⟨rfl, hw'⟩; rw [hw']; clear hw' w') | (go_at_call 134; fail))
    refine HC.out.mono ?_
    rintro e w1 ⟨rfl, g1⟩
    rw [hm]
    go_wp2
    go_ret
    exact ⟨ret_int HNo.out.1.symm, HNo.out.2 _ g1⟩
  | true =>
  obtain ⟨w0, w1'⟩ : up f (A.wn : Int) = true ∧ up n ((A.wn : Int) - f) = true := by unfold hasW at hw; rwa [Bool.and_eq_true] at hw
  have u0 := up_iff.1 w0
  have u1 := up_iff.1 w1'
  have u2 : 1 ≤ n ∧ n ≤ 8 := by
    rw [Bool.and_eq_true] at h8'
    exact ⟨of_decide_eq_true h8'.1, of_decide_eq_true h8'.2⟩
  obtain ⟨fN, rfl⟩ : ∃ j : Nat, f = (j : Int) := ⟨f.toNat, by omega⟩
  obtain ⟨nN, rfl⟩ : ∃ j : Nat, n = (j : Int) := ⟨n.toNat, by omega⟩
  have hfn : fN + nN ≤ A.wn := by omega
  have hn8 : nN ≤ 8 := by omega
  have HB : Hid (rsB D (fN : Int) (nN : Int) t = (List.range nN).all (fun i => mayW D (gw D.ws (fN + i)).2)) := by
    show _ = _
    unfold rsB
    rw [h8, k3, hw, hm]
    simp only [Int.toNat_natCast, Bool.and_self, Bool.true_and]
  have HTag : Hid (∀ m, m < A.wn → 0 ≤ (gw D.ws m).2 ∧ (gw D.ws m).2 ≤ (A.tn : Int)) := fun m hm' => by
    have := mf_tag H.mf (m := m) (by omega)
    rw [k1] at this
    exact this
  obtain ⟨bw, ow, hwa, hbw, hcw⟩ := hr.ws.2 (by omega)
  have HC := hide (l8May_calls P A D k t w x0 x1 x2 x5 hPl hrt H ht2)
  have HH := hide H
  have hf32 : (fN : Int) + (nN : Int) ≤ 32 := by omega
  clear hy hr H w0 w1' u0 u1 u2
  go_enter Tryz.func62, Tryz.ntmps62
  go_wp2_with (first | (go_at_call 132; with_reducible refine (inOne_is _ _ _ _ h8').mono ?_; rintro e w' ⟨rfl, hw'⟩; rw [hw']; clear hw' w') | (go_at_call 133; with_reducible refine (l6Range3_is P A.wa A.wn A.wc _ _ _ _ hw32 x3 hw).mono ?_; rintro e w' ⟨rfl, hw'⟩; rw [hw']; clear hw' w') | (go_at_call 76; with_reducible refine (hasTag_is P A.ta A.tn A.tc _ _ _ x1 ht).mono ?_; rintro e w' ⟨rfl, hw'⟩; rw [hw']; clear hw' w') | (go_at_call 134; fail))
  refine HC.out.mono ?_
  rintro e w1 ⟨rfl, g1⟩
  rw [hm]
  have HG := hide g1
  clear g1 HC
  go_wp2
  go_loopw [9] (fun i wr => ∃ m : Nat, fN ≤ m ∧ m ≤ fN + nN ∧ i = .int .i64 m ∧ Below w.heap.size w wr ∧ ∀ j, j < m - fN → mayW D (gw D.ws (fN + j)).2 = true) (fun i _ => fN + nN - (intOf i).toNat)
  case atStart => exact ⟨fN, Nat.le_refl _, by omega, rfl, HG.out, fun j hj => by omega⟩
  case round =>
    obtain ⟨m, m1, m2, rfl, hbel, hall⟩ := hrel
    have HA : Hid (∀ j, j < m - fN → mayW D (gw D.ws (fN + j)).2 = true) := hall
    clear hall
    have y0 := (hbel.cell (p := ⟨P, 0, none⟩) hPl).trans x0
    have y1 := (hbel.cell (p := ⟨P, 1, none⟩) hPl).trans x1
    have y2 := (hbel.cell (p := ⟨P, 2, none⟩) hPl).trans x2
    have y3 := (hbel.cell (p := ⟨P, 3, none⟩) hPl).trans x3
    have y5 := (hbel.cell (p := ⟨P, 5, none⟩) hPl).trans x5
    have yl := Nat.lt_of_lt_of_le hPl hbel.size
    by_cases hlt : m < fN + nN
    · have i1 : (m : Int) < (fN : Int) + (nN : Int) := by omega
      have i2 : (m : Int) < (A.wn : Int) := by omega
      have i3 : (0 : Int) ≤ (m : Int) := by omega
      have ct := (hbel.cell (p := ⟨bw, ow + (m * 2 + 1), none⟩) hbw).trans (hcw (m * 2 + 1) (by omega))
      rw [(gt_flw D.ws m).2, ← Nat.add_assoc] at ct
      have y3' := y3
      rw [hwa] at y3'
      have HM := hide (l8May_calls P A D k (gw D.ws m).2 wr y0 y1 y2 y5 yl (hrt.below hbel (Nat.le_refl _)) HH.out (HTag.out m (by omega)))
      clear y3
      go_wp2_with fail
      refine HM.out.mono ?_
      rintro e w2 ⟨rfl, g2⟩
      have HB2 := hide (hbel.trans (g2.mono hbel.size))
      cases hmm : mayW D (gw D.ws m).2 with
      | false =>
        have hno : rsB D (fN : Int) (nN : Int) t = false := by
          rw [HB.out, List.all_eq_false]
          refine ⟨m - fN, List.mem_range.2 (by omega), ?_⟩
          rw [show fN + (m - fN) = m by omega, hmm]
          simp
        have HNo := hide (HN.out hno)
        clear HN hno g2 hbel y0 y1 y2 y3' y5
        go_wp2
        go_ret
        exact ⟨ret_int HNo.out.1.symm, HNo.out.2 _ HB2.out⟩
      | true =>
        have HMM := hide hmm
        clear g2 hbel hmm y0 y1 y2 y3' y5
        go_wp2
        go_roundw
        case rel => exact ⟨m + 1, by omega, by omega, by go_num, HB2.out, fun j hj => by (by_cases e : j < m - fN); exact HA.out j e; (rw [show fN + j = m by omega]; exact HMM.out)⟩
        case measure => simp [intOf]; omega
    · obtain rfl : m = fN + nN := by omega
      have hyes : rsB D (fN : Int) (nN : Int) t = true := by
        rw [HB.out, List.all_eq_true]
        intro i hi
        exact HA.out i (by have := List.mem_range.1 hi; omega)
      have HR := hide (rs_yes hyes)
      have i1 : ¬ ((fN : Int) + (nN : Int) < (fN : Int) + (nN : Int)) := by omega
      have Y := HY.out.below hbel
      obtain ⟨Q, q1, q2, q3, q4, q5, q6⟩ := Y.y
      have nQ : ¬ Q 1 P := fun e => Y.ns (q1 _ _ e)
      have HC2 := hide (l6Retag3_O P A.wa A.wn A.wc D.ws fN nN t (Q 1) wr y3 q5.m nQ hfn)
      have HYr := hide Y
      have HBL := hide hbel
      clear y0 y1 y2 y5 Y hyes HN HA
      go_wp2_with fail
      refine HC2.out.mono ?_
      rintro e w2 ⟨rfl, how, hou⟩
      have z2 := hou.size
      have pb := hou.block P yl nQ
      have HF : Hid (YM P 0 S A { D with ws := rtK D.ws fN t nN } w2) := ⟨fun i hi => (World.cell?_of_block (a := ⟨P, 0 + i, none⟩) pb).trans (HYr.out.cs i hi), fun j => (World.frozen?_of_block (a := ⟨P, j, none⟩) pb).trans (HYr.out.fz j), HYr.out.ns, Nat.lt_of_lt_of_le HYr.out.lt z2, OYR.setWs q1 q2 q3 q4 q5 q6 how hou⟩
      have HU := hide ((OutS.of_below (S := fun q => S q ∨ q = P) HBL.out).trans (hou.mono (fun q e => .inl (q1 _ _ e))))
      clear hou how pb
      go_wp2
      go_ret
      refine ⟨ret_int HR.out.2.symm, ⟨A, ?_⟩, HU.out⟩
      rw [HR.out.1]
      simp only [Int.toNat_natCast]
      exact HF.out.mono (fun _ e => .inl e) (fun e => by rcases e with e | e; exact HY.out.ns e; omega)

end Go.Proofs.YtcojgmecocjnkaaGreat
