import Derived.Test.YtnlkigjgloeonaaSnQ
import Derived.WalkKit
import Derived.ProofKit
import Derived.OpenShut
import Derived.ShutString
import Derived.ChangeOld
import Derived.Below
import Derived.WalkSpells
import Derived.Deep.QuietTactic
import Derived.BigQuiet
import Derived.Deep.RegionWith
import Derived.Deep.WholeRow
import Derived.Deep.DeepCutAuto
import Derived.Deep.RegionHeld2
import Derived.Deep.AppendLies
import Derived.Deep.RegionLaw
namespace Go.Proofs.Ytnlkigjgloeonaa
open Go.ChangeShapes Go.WideShapes Go.ChangeAt Go.RowKit

set_option maxRecDepth 100000 in
theorem sameLabels_calls (a b : Option Addr) (la ca lb cb : Nat) (xs ys : List Int) (w : World) (hla : la ≤ maxLen) (hlb : lb ≤ maxLen) (hx : Sl w a la xs) (hy : Sl w b lb ys) :
    Calls Try.prog 22 #[.agg #[.slice a la ca], .agg #[.slice b lb cb]] w fun e w' => e = .returned (.bool (decide (xs = ys))) ∧ Below w.heap.size w w' := by
  have HX := hide fun o1 o2 => hx.below (((Below.refl w.heap.size w).alloc (Nat.le_refl _) o1).alloc (by simp) o2) (Nat.le_refl _)
  have HY := hide fun o1 o2 => hy.below (((Below.refl w.heap.size w).alloc (Nat.le_refl _) o1).alloc (by simp) o2) (Nat.le_refl _)
  have HB := hide fun o1 o2 => ((Below.refl w.heap.size w).alloc (Nat.le_refl _) o1).alloc (by simp) o2
  go_enter Try.func22, Try.ntmps22
  go_wp2_with fail
  refine (slicesEqual_calls a b la ca lb cb xs ys _ hla hlb (HX.out _ _) (HY.out _ _)).mono ?_
  rintro e w1 ⟨rfl, g1⟩
  have HE := hide ((HB.out (.cells #[.slice a la ca] 56) (.cells #[.slice b lb cb] 56)).trans (g1.mono (HB.out _ _).size))
  clear g1
  go_wp2
  go_ret
  exact ⟨rfl, HE.out⟩

set_option maxRecDepth 100000 in
set_option maxHeartbeats 1000000 in
theorem equalLb_calls (a b : Option Addr) (n m ca cb : Nat) (cs ds : List (List Int)) (w : World) (hn : n ≤ maxLen) (hm : m ≤ maxLen) (hx : Slb w a n cs) (hy : Slb w b m ds) :
    Calls Try.prog 21 #[.slice a n ca, .slice b m cb, .func (.func 22) #[] #[]] w fun e w' => e = .returned (.bool (decide (cs = ds))) ∧ Below w.heap.size w w' := by
  unfold maxLen at hn hm
  obtain ⟨hxl, hx⟩ := hx
  obtain ⟨hyl, hy⟩ := hy
  by_cases hne : n = m
  · subst hne
    have hnn : ((n : Int) != (n : Int)) = false := by simp
    go_enter Try.func21, Try.ntmps21
    go_wp2
    go_loopw [17] (fun i wr => ∃ k : Nat, k ≤ n ∧ i = .int .i64 k ∧ Below w.heap.size w wr ∧ ∀ j, j < k → gL cs j = gL ds j) (fun i _ => n - (intOf i).toNat)
    case atStart => exact ⟨0, Nat.zero_le _, rfl, Below.refl _ _, fun j hj => by omega⟩
    case round =>
      obtain ⟨k, hk, rfl, hbel, hall⟩ := hrel
      have Hall := hide hall
      clear hall
      by_cases hlt : k < n
      · obtain ⟨b1, o1, rfl, hb1, hc1⟩ := hx (by omega)
        obtain ⟨b2, o2, rfl, hb2, hc2⟩ := hy (by omega)
        obtain ⟨la, lc, p0, pl, psl⟩ := hc1 k hlt
        obtain ⟨ma, mc, q0, ql, qsl⟩ := hc2 k hlt
        have hp0 := (hbel.cell (p := ⟨b1, o1 + k, none⟩) hb1).trans p0
        have hb2' : b2 < wr.heap.size := by have := hbel.size; omega
        have hq0 : (wr.alloc (.cells #[.slice la (gL cs k).length lc] 56)).cell? ⟨b2, o2 + k, none⟩ = some (.slice ma (gL ds k).length mc) := (World.cell?_alloc_past _ _ _ hb2').trans ((hbel.cell (p := ⟨b2, o2 + k, none⟩) hb2).trans q0)
        have al := ((Below.refl wr.heap.size wr).alloc (Nat.le_refl _) (.cells #[.slice la (gL cs k).length lc] 56)).alloc (by simp) (.cells #[.slice ma (gL ds k).length mc] 56)
        have HP := hide ((psl.below hbel (Nat.le_refl _)).below al (Nat.le_refl _))
        have HQ := hide ((qsl.below hbel (Nat.le_refl _)).below al (Nat.le_refl _))
        have HB := hide (hbel.trans (al.mono hbel.size))
        clear p0 q0 psl qsl al
        have HC := hide fun (X : World) (h1 : Sl X la (gL cs k).length (gL cs k)) (h2 : Sl X ma (gL ds k).length (gL ds k)) => sameLabels_calls la ma (gL cs k).length lc (gL ds k).length mc (gL cs k) (gL ds k) X pl ql h1 h2
        by_cases hs : gL cs k = gL ds k
        · have He := hide hs
          have hd : decide (gL cs k = gL ds k) = true := by simpa using hs
          rw [hd] at HC
          clear hs hd
          go_wp2_with fail
          refine (HC.out _ HP.out HQ.out).mono ?_
          rintro e w1 ⟨rfl, g1⟩
          have HE := hide (HB.out.trans (g1.mono HB.out.size))
          clear g1
          go_wp2
          go_roundw
          case rel => exact ⟨k + 1, by omega, by go_num, HE.out, fun j hj => by (by_cases e : j = k); (subst e; exact He.out); exact Hall.out j (by omega)⟩
          case measure => simp [intOf]; omega
        · have He : Hid (cs ≠ ds) := fun e => hs (by rw [e])
          have hd : decide (gL cs k = gL ds k) = false := by simpa using hs
          rw [hd] at HC
          clear hs hd
          go_wp2_with fail
          refine (HC.out _ HP.out HQ.out).mono ?_
          rintro e w1 ⟨rfl, g1⟩
          have HE := hide (HB.out.trans (g1.mono HB.out.size))
          clear g1
          go_wp2
          go_ret
          exact ⟨ret_bool (by simp; exact He.out), HE.out⟩
      · go_wp2
        go_ret
        exact ⟨ret_bool (by simp; exact gL_ext (by omega) (fun j hj => Hall.out j (by omega))), hbel⟩
  · have hnn : ((n : Int) != (m : Int)) = true := by simp; omega
    go_enter Try.func21, Try.ntmps21
    go_wp2
    go_ret
    exact ⟨ret_bool (by simp; intro e; rw [e] at hxl; omega), Below.refl _ _⟩


set_option maxRecDepth 100000 in
set_option maxHeartbeats 2000000 in
theorem implSameSeen_calls (A : NA) (D : ND) (B : NA) (E : ND) (w : World) (hr : RN w A D) (hs : RN w B E) :
    Calls Try.prog 7 #[.agg #[.slice A.wa A.wn A.wc, .slice A.xa A.xn A.xc, .slice A.la A.ln A.lc, .slice A.oa A.on A.oc], .agg #[.slice B.wa B.wn B.wc, .slice B.xa B.xn B.xc, .slice B.la B.ln B.lc, .slice B.oa B.on B.oc]] w fun e w' => e = .returned (.bool (snB D E)) ∧ Below w.heap.size w w' := by
  have M0 := ((Mm.start w).allocC [.slice A.wa A.wn A.wc, .slice A.xa A.xn A.xc, .slice A.la A.ln A.lc, .slice A.oa A.on A.oc] 34).allocC [.slice B.wa B.wn B.wc, .slice B.xa B.xn B.xc, .slice B.la B.ln B.lc, .slice B.oa B.on B.oc] 34
  simp only [World.size_alloc] at M0
  have hr0 := hr.below M0.bel (Nat.le_refl _)
  have hs0 := hs.below M0.bel (Nat.le_refl _)
  have c0 := (M0.get 1 rfl).cell 0 rfl
  have d0 := (M0.get 0 rfl).cell 0 rfl
  go_enter Try.func7, Try.ntmps7
  go_wp2_with fail
  refine (implEqualW_calls A.wa B.wa A.wn A.wc B.wn B.wc D.ws E.ws _ hr0.wm hs0.wm hr0.ws hs0.ws).mono ?_
  rintro e w1 ⟨rfl, g1⟩
  have M1 := M0.below g1
  have hr1 := hr0.below g1 (Nat.le_refl _)
  have hs1 := hs0.below g1 (Nat.le_refl _)
  clear M0 g1 hr0 hs0 c0 d0
  cases h1 : decide (D.ws = E.ws) with
  | false =>
    have HR := hide (snB_w (D := D) (E := E) (of_decide_eq_false h1))
    have HB := hide M1.bel
    clear M1 hr1 hs1 h1
    go_wp2
    go_ret
    exact ⟨ret_bool HR.out.symm, HB.out⟩
  | true =>
  have H1 := hide (of_decide_eq_true h1)
  have c1 := (M1.get 1 rfl).cell 1 rfl
  have d1 := (M1.get 0 rfl).cell 1 rfl
  clear h1
  go_wp2_with fail
  refine (equalCx_calls A.xa B.xa A.xn B.xn A.xc B.xc D.cs E.cs _ hr1.xm hs1.xm hr1.xs hs1.xs).mono ?_
  rintro e w2 ⟨rfl, g2⟩
  have M2 := M1.below g2
  have hr2 := hr1.below g2 (Nat.le_refl _)
  have hs2 := hs1.below g2 (Nat.le_refl _)
  clear M1 g2 hr1 hs1 c1 d1
  cases h2 : decide (D.cs = E.cs) with
  | false =>
    have HR := hide (snB_x (D := D) (E := E) (of_decide_eq_false h2))
    have HB := hide M2.bel
    clear M2 hr2 hs2 h2
    go_wp2
    go_ret
    exact ⟨ret_bool HR.out.symm, HB.out⟩
  | true =>
  have H2 := hide (of_decide_eq_true h2)
  have c2 := (M2.get 1 rfl).cell 2 rfl
  have d2 := (M2.get 0 rfl).cell 2 rfl
  clear h2
  go_wp2_with fail
  refine (equalLb_calls A.la B.la A.ln B.ln A.lc B.lc D.ls E.ls _ hr2.lm hs2.lm hr2.ls hs2.ls).mono ?_
  rintro e w3 ⟨rfl, g3⟩
  have M3 := M2.below g3
  have hr3 := hr2.below g3 (Nat.le_refl _)
  have hs3 := hs2.below g3 (Nat.le_refl _)
  clear M2 g3 hr2 hs2 c2 d2
  cases h3 : decide (D.ls = E.ls) with
  | false =>
    have HR := hide (snB_l (D := D) (E := E) (of_decide_eq_false h3))
    have HB := hide M3.bel
    clear M3 hr3 hs3 h3
    go_wp2
    go_ret
    exact ⟨ret_bool HR.out.symm, HB.out⟩
  | true =>
  have H3 := hide (of_decide_eq_true h3)
  have c3 := (M3.get 1 rfl).cell 3 rfl
  have d3 := (M3.get 0 rfl).cell 3 rfl
  clear h3
  go_wp2_with fail
  refine (slicesEqual_calls A.oa B.oa A.on A.oc B.on B.oc D.os E.os _ hr3.om hs3.om hr3.os hs3.os).mono ?_
  rintro e w4 ⟨rfl, g4⟩
  have HR := hide (snB_o H1.out H2.out H3.out)
  have HB := hide (M3.below g4).bel
  clear M3 g4 hr3 hs3 c3 d3
  go_wp2
  go_ret
  exact ⟨ret_bool HR.out.symm, HB.out⟩

end Go.Proofs.Ytnlkigjgloeonaa
