import Derived.Test.YtcojgmecocjnkabArchA
import Derived.WalkKit
import Derived.ProofKit
import Derived.OpenShut
import Derived.ShutString
import Derived.ChangeOld
import Derived.Below
import Derived.WalkSpells
import Derived.Deep.QuietTactic
import Derived.BigQuiet
import Derived.Deep.RegionWith
import Derived.Deep.WholeRow
import Derived.Deep.DeepCutAuto
import Derived.Deep.RegionHeld2
import Derived.Deep.AppendLies
import Derived.Deep.RegionLaw
namespace Go.Proofs.Ytcojgmecocjnkab
open Go.ChangeShapes Go.WideShapes Go.ChangeAt Go.RowKit

set_option maxRecDepth 100000 in
set_option maxHeartbeats 1000000 in
theorem equalCx_calls (a b : Option Addr) (n m ca cb : Nat) (cs ds : List (List Int × Int × Bool)) (w : World) (hn : n ≤ maxLen) (hm : m ≤ maxLen) (hx : Scx w a n cs) (hy : Scx w b m ds) :
    Calls Try.prog 27 #[.slice a n ca, .slice b m cb, .func (.func 28) #[] #[]] w fun e w' => e = .returned (.bool (decide (cs = ds))) ∧ Below w.heap.size w w' := by
  unfold maxLen at hn hm
  obtain ⟨hxl, hx⟩ := hx
  obtain ⟨hyl, hy⟩ := hy
  by_cases hne : n = m
  · subst hne
    have hnn : ((n : Int) != (n : Int)) = false := by simp
    go_enter Try.func27, Try.ntmps27
    go_wp2
    go_loopw [17] (fun i wr => ∃ k : Nat, k ≤ n ∧ i = .int .i64 k ∧ Below w.heap.size w wr ∧ ∀ j, j < k → gx cs j = gx ds j) (fun i _ => n - (intOf i).toNat)
    case atStart => exact ⟨0, Nat.zero_le _, rfl, Below.refl _ _, fun j hj => by omega⟩
    case round =>
      obtain ⟨k, hk, rfl, hbel, hall⟩ := hrel
      have Hall := hide hall
      clear hall
      by_cases hlt : k < n
      · obtain ⟨b1, o1, rfl, hb1, hc1⟩ := hx (by omega)
        obtain ⟨b2, o2, rfl, hb2, hc2⟩ := hy (by omega)
        obtain ⟨la, ll, lc, p0, p1, p2, pl, psl⟩ := hc1 k hlt
        obtain ⟨ma, ml, mc, q0, q1, q2, ql, qsl⟩ := hc2 k hlt
        have hp0 := (hbel.cell (p := ⟨b1, o1 + k * 3, none⟩) hb1).trans p0
        have hp1 := (hbel.cell (p := ⟨b1, o1 + k * 3 + 1, none⟩) hb1).trans p1
        have hp2 := (hbel.cell (p := ⟨b1, o1 + k * 3 + 2, none⟩) hb1).trans p2
        have hb2' : b2 < wr.heap.size := by have := hbel.size; omega
        have hq0 : (wr.alloc (.cells #[.slice la ll lc, .int .i64 (gx cs k).2.1, .bool (gx cs k).2.2] 69)).cell? ⟨b2, o2 + k * 3, none⟩ = some (.slice ma ml mc) := (World.cell?_alloc_past _ _ _ hb2').trans ((hbel.cell (p := ⟨b2, o2 + k * 3, none⟩) hb2).trans q0)
        have hq1 : (wr.alloc (.cells #[.slice la ll lc, .int .i64 (gx cs k).2.1, .bool (gx cs k).2.2] 69)).cell? ⟨b2, o2 + k * 3 + 1, none⟩ = some (.int .i64 (gx ds k).2.1) := (World.cell?_alloc_past _ _ _ hb2').trans ((hbel.cell (p := ⟨b2, o2 + k * 3 + 1, none⟩) hb2).trans q1)
        have hq2 : (wr.alloc (.cells #[.slice la ll lc, .int .i64 (gx cs k).2.1, .bool (gx cs k).2.2] 69)).cell? ⟨b2, o2 + k * 3 + 2, none⟩ = some (.bool (gx ds k).2.2) := (World.cell?_alloc_past _ _ _ hb2').trans ((hbel.cell (p := ⟨b2, o2 + k * 3 + 2, none⟩) hb2).trans q2)
        have al := ((Below.refl wr.heap.size wr).alloc (Nat.le_refl _) (.cells #[.slice la ll lc, .int .i64 (gx cs k).2.1, .bool (gx cs k).2.2] 69)).alloc (by simp) (.cells #[.slice ma ml mc, .int .i64 (gx ds k).2.1, .bool (gx ds k).2.2] 69)
        have HP := hide ((psl.below hbel (Nat.le_refl _)).below al (Nat.le_refl _))
        have HQ := hide ((qsl.below hbel (Nat.le_refl _)).below al (Nat.le_refl _))
        have HB := hide (hbel.trans (al.mono hbel.size))
        clear p0 p1 p2 q0 q1 q2 psl qsl al
        have hsx := sameX_iff (x := gx cs k) (y := gx ds k)
        have HC := hide fun (X : World) (h1 : Sl X la ll (gx cs k).1) (h2 : Sl X ma ml (gx ds k).1) => implSameContexts_calls la ll lc (gx cs k).2.1 (gx cs k).2.2 (gx cs k).1 ma ml mc (gx ds k).2.1 (gx ds k).2.2 (gx ds k).1 X pl h1 ql h2
        rw [hsx] at HC
        clear hsx
        by_cases hs : gx cs k = gx ds k
        · have He := hide hs
          have hd : decide (gx cs k = gx ds k) = true := by simpa using hs
          rw [hd] at HC
          clear hs hd
          go_wp2_with fail
          refine (HC.out _ HP.out HQ.out).mono ?_
          rintro e w1 ⟨rfl, g1⟩
          have HE := hide (HB.out.trans (g1.mono HB.out.size))
          clear g1
          go_wp2
          go_roundw
          case rel => exact ⟨k + 1, by omega, by go_num, HE.out, fun j hj => by (by_cases e : j = k); (subst e; exact He.out); exact Hall.out j (by omega)⟩
          case measure => simp [intOf]; omega
        · have He : Hid (cs ≠ ds) := fun e => hs (by rw [e])
          have hd : decide (gx cs k = gx ds k) = false := by simpa using hs
          rw [hd] at HC
          clear hs hd
          go_wp2_with fail
          refine (HC.out _ HP.out HQ.out).mono ?_
          rintro e w1 ⟨rfl, g1⟩
          have HE := hide (HB.out.trans (g1.mono HB.out.size))
          clear g1
          go_wp2
          go_ret
          exact ⟨ret_bool (by simp; exact He.out), HE.out⟩
      · go_wp2
        go_ret
        exact ⟨ret_bool (by simp; exact gx_ext (by omega) (fun j hj => Hall.out j (by omega))), hbel⟩
  · have hnn : ((n : Int) != (m : Int)) = true := by simp; omega
    go_enter Try.func27, Try.ntmps27
    go_wp2
    go_ret
    exact ⟨ret_bool (by simp; intro e; rw [e] at hxl; omega), Below.refl _ _⟩

set_option maxRecDepth 100000 in
set_option maxHeartbeats 1000000 in
theorem sameTables_calls (A : SA) (D : SD) (B : SA) (E : SD) (w : World) (hr : RT w A.a A.n D.ss A.ta A.tn D.ts A.da A.dn D.ds) (hs : RT w B.a B.n E.ss B.ta B.tn E.ts B.da B.dn E.ds) :
    Calls Try.prog 25 #[.agg #[.slice A.a A.n A.c, .slice A.ta A.tn A.tc, .slice A.da A.dn A.dc], .agg #[.slice B.a B.n B.c, .slice B.ta B.tn B.tc, .slice B.da B.dn B.dc]] w fun e w' => e = .returned (.bool (tabB D E)) ∧ Below w.heap.size w w' := by
  have M0 := ((Mm.start w).alloc3 (.slice A.a A.n A.c) (.slice A.ta A.tn A.tc) (.slice A.da A.dn A.dc) 44).alloc3 (.slice B.a B.n B.c) (.slice B.ta B.tn B.tc) (.slice B.da B.dn B.dc) 44
  simp only [World.size_alloc] at M0
  have hr0 := hr.below M0.bel (Nat.le_refl _)
  have hs0 := hs.below M0.bel (Nat.le_refl _)
  go_enter Try.func25, Try.ntmps25
  go_wp2_with fail
  refine (implSameRegistries_calls A.a A.n A.c D.ss B.a B.n B.c E.ss _ hr0.1 hr0.2.1 hs0.1 hs0.2.1).mono ?_
  rintro e w1 ⟨rfl, g1⟩
  have M1 := M0.below g1
  have hr1 := hr0.below g1 (Nat.le_refl _)
  have hs1 := hs0.below g1 (Nat.le_refl _)
  clear M0 g1 hr0 hs0
  cases h1 : decide (D.ss = E.ss) with
  | false =>
    have HR : Hid (tabB D E = false) := by show _ = _; unfold tabB; rw [h1]; simp
    have HB := hide M1.bel
    clear M1 h1 hr1 hs1
    go_wp2
    go_ret
    exact ⟨ret_bool HR.out.symm, HB.out⟩
  | true =>
  have c1 := M1.cell 4 rfl
  have d1 := M1.cell 1 rfl
  go_wp2_with fail
  refine (slicesEqual_calls A.ta B.ta A.tn A.tc B.tn B.tc D.ts E.ts _ hr1.2.2.1 hs1.2.2.1 hr1.2.2.2.1 hs1.2.2.2.1).mono ?_
  rintro e w2 ⟨rfl, g2⟩
  have M2 := M1.below g2
  have hr2 := hr1.below g2 (Nat.le_refl _)
  have hs2 := hs1.below g2 (Nat.le_refl _)
  clear M1 g2 hr1 hs1 c1 d1
  cases h2 : decide (D.ts = E.ts) with
  | false =>
    have HR : Hid (tabB D E = false) := by show _ = _; unfold tabB; rw [h2]; simp
    have HB := hide M2.bel
    clear M2 h1 h2 hr2 hs2
    go_wp2
    go_ret
    exact ⟨ret_bool HR.out.symm, HB.out⟩
  | true =>
  have c2 := M2.cell 5 rfl
  have d2 := M2.cell 2 rfl
  go_wp2_with fail
  refine (slicesEqual_calls A.da B.da A.dn A.dc B.dn B.dc D.ds E.ds _ hr2.2.2.2.2.1 hs2.2.2.2.2.1 hr2.2.2.2.2.2 hs2.2.2.2.2.2).mono ?_
  rintro e w3 ⟨rfl, g3⟩
  have HR : Hid (tabB D E = decide (D.ds = E.ds)) := by show _ = _; unfold tabB; rw [h1, h2]; simp
  have HB := hide (M2.below g3).bel
  clear M2 g3 h1 h2 hr2 hs2 c2 d2
  go_wp2
  go_ret
  exact ⟨ret_bool HR.out.symm, HB.out⟩

set_option maxRecDepth 100000 in
set_option maxHeartbeats 2000000 in
theorem implSameArchs_calls (A : SA) (D : SD) (B : SA) (E : SD) (w : World) (hr : RS w A D) (_ : A.ln ≤ A.lc) (hs : RS w B E) (_ : B.ln ≤ B.lc) :
    Calls Try.prog 7 #[.agg #[.slice A.a A.n A.c, .slice A.ta A.tn A.tc, .slice A.da A.dn A.dc, .slice A.wa A.wn A.wc, .slice A.xa A.xn A.xc, .int .i64 D.ac, .int .i64 D.cz, .slice A.la A.ln A.lc, .int .i64 D.dv, .slice A.oa A.on A.oc, .slice A.ga A.gn A.gc], .agg #[.slice B.a B.n B.c, .slice B.ta B.tn B.tc, .slice B.da B.dn B.dc, .slice B.wa B.wn B.wc, .slice B.xa B.xn B.xc, .int .i64 E.ac, .int .i64 E.cz, .slice B.la B.ln B.lc, .int .i64 E.dv, .slice B.oa B.on B.oc, .slice B.ga B.gn B.gc]] w fun e w' => e = .returned (.bool (archB D E)) ∧ Below w.heap.size w w' := by
  have M0 := ((Mm.start w).allocC [.slice A.a A.n A.c, .slice A.ta A.tn A.tc, .slice A.da A.dn A.dc, .slice A.wa A.wn A.wc, .slice A.xa A.xn A.xc, .int .i64 D.ac, .int .i64 D.cz, .slice A.la A.ln A.lc, .int .i64 D.dv, .slice A.oa A.on A.oc, .slice A.ga A.gn A.gc] 54).allocC [.slice B.a B.n B.c, .slice B.ta B.tn B.tc, .slice B.da B.dn B.dc, .slice B.wa B.wn B.wc, .slice B.xa B.xn B.xc, .int .i64 E.ac, .int .i64 E.cz, .slice B.la B.ln B.lc, .int .i64 E.dv, .slice B.oa B.on B.oc, .slice B.ga B.gn B.gc] 54
  simp only [World.size_alloc] at M0
  have hr0 := hr.below M0.bel (Nat.le_refl _)
  have hs0 := hs.below M0.bel (Nat.le_refl _)
  go_enter Try.func7, Try.ntmps7
  go_wp2_with fail
  refine (sameTables_calls A D B E _ hr0.rt hs0.rt).mono ?_
  rintro e w1 ⟨rfl, g1⟩
  have M1 := M0.below g1
  have hr1 := hr0.below g1 (Nat.le_refl _)
  have hs1 := hs0.below g1 (Nat.le_refl _)
  clear M0 g1 hr0 hs0
  cases h1 : tabB D E with
  | false =>
    have HR : Hid (archB D E = false) := by show _ = _; unfold archB; rw [h1]; simp
    have HB := hide M1.bel
    clear M1 hr1 hs1 h1
    go_wp2
    go_ret
    exact ⟨ret_bool HR.out.symm, HB.out⟩
  | true =>
  have c3 := (M1.get 1 rfl).cell 3 rfl
  have d3 := (M1.get 0 rfl).cell 3 rfl
  go_wp2_with fail
  refine (implSameMemories_calls A.wa A.wn A.wc D.ws B.wa B.wn B.wc E.ws _ hr1.wm hr1.ws hs1.wm hs1.ws).mono ?_
  rintro e w2 ⟨rfl, g2⟩
  have M2 := M1.below g2
  have hr2 := hr1.below g2 (Nat.le_refl _)
  have hs2 := hs1.below g2 (Nat.le_refl _)
  clear M1 g2 hr1 hs1 c3 d3
  cases h2 : decide (D.ws = E.ws) with
  | false =>
    have HR : Hid (archB D E = false) := by show _ = _; unfold archB; rw [h2]; simp
    have HB := hide M2.bel
    clear M2 hr2 hs2 h1 h2
    go_wp2
    go_ret
    exact ⟨ret_bool HR.out.symm, HB.out⟩
  | true =>
  have c4 := (M2.get 1 rfl).cell 4 rfl
  have d4 := (M2.get 0 rfl).cell 4 rfl
  go_wp2_with fail
  refine (equalCx_calls A.xa B.xa A.xn B.xn A.xc B.xc D.cs E.cs _ hr2.xm hs2.xm hr2.xs hs2.xs).mono ?_
  rintro e w3 ⟨rfl, g3⟩
  have M3 := M2.below g3
  have hr3 := hr2.below g3 (Nat.le_refl _)
  have hs3 := hs2.below g3 (Nat.le_refl _)
  clear M2 g3 hr2 hs2 c4 d4
  cases h3 : decide (D.cs = E.cs) with
  | false =>
    have HR : Hid (archB D E = false) := by show _ = _; unfold archB; rw [h3]; simp
    have HB := hide M3.bel
    clear M3 hr3 hs3 h1 h2 h3
    go_wp2
    go_ret
    exact ⟨ret_bool HR.out.symm, HB.out⟩
  | true =>
  have c5 := (M3.get 1 rfl).cell 5 rfl
  have d5 := (M3.get 0 rfl).cell 5 rfl
  have c8 := (M3.get 1 rfl).cell 8 rfl
  have d8 := (M3.get 0 rfl).cell 8 rfl
  have c9 := (M3.get 1 rfl).cell 9 rfl
  have d9 := (M3.get 0 rfl).cell 9 rfl
  by_cases h4 : D.ac = E.ac
  rotate_left
  · have HR : Hid (archB D E = false) := by show _ = _; unfold archB; simp [h4]
    have HB := hide M3.bel
    have e4 : (D.ac == E.ac) = false := by simpa using h4
    clear M3 hr3 hs3 h1 h2 h3 h4
    go_wp2
    go_ret
    exact ⟨ret_bool HR.out.symm, HB.out⟩
  have e4 : (D.ac == E.ac) = true := by simpa using h4
  by_cases h5 : D.dv = E.dv
  rotate_left
  · have HR : Hid (archB D E = false) := by show _ = _; unfold archB; simp [h5]
    have HB := hide M3.bel
    have e5 : (D.dv == E.dv) = false := by simpa using h5
    clear M3 hr3 hs3 h1 h2 h3 h4 h5
    go_wp2
    go_ret
    exact ⟨ret_bool HR.out.symm, HB.out⟩
  have e5 : (D.dv == E.dv) = true := by simpa using h5
  have H4 := hide h4
  have H5 := hide h5
  clear h4 h5
  go_wp2_with fail
  refine (slicesEqual_calls A.oa B.oa A.on A.oc B.on B.oc D.os E.os _ hr3.om hs3.om hr3.os hs3.os).mono ?_
  rintro e w4 ⟨rfl, g4⟩
  have M4 := M3.below g4
  have hr4 := hr3.below g4 (Nat.le_refl _)
  have hs4 := hs3.below g4 (Nat.le_refl _)
  clear M3 g4 hr3 hs3 c5 d5 c8 d8 c9 d9
  cases h6 : decide (D.os = E.os) with
  | false =>
    have HR : Hid (archB D E = false) := by show _ = _; unfold archB; rw [h6]; simp
    have HB := hide M4.bel
    clear M4 hr4 hs4 h1 h2 h3 h6
    go_wp2
    go_ret
    exact ⟨ret_bool HR.out.symm, HB.out⟩
  | true =>
  have c10 := (M4.get 1 rfl).cell 10 rfl
  have d10 := (M4.get 0 rfl).cell 10 rfl
  go_wp2_with fail
  refine (implEqualG_calls A.ga B.ga A.gn A.gc B.gn B.gc D.gs E.gs _ hr4.gm hs4.gm hr4.gs hs4.gs).mono ?_
  rintro e w5 ⟨rfl, g5⟩
  have HR : Hid (archB D E = decide (D.gs = E.gs)) := by show _ = _; unfold archB; rw [h1, h2, h3, h6, H4.out, H5.out]; simp
  have HB := hide (M4.below g5).bel
  clear M4 g5 h1 h2 h3 h6 hr4 hs4 c10 d10
  go_wp2
  go_ret
  exact ⟨ret_bool HR.out.symm, HB.out⟩

set_option maxRecDepth 100000 in
set_option maxHeartbeats 2000000 in
theorem specSameArchs_calls (A : SA) (D : SD) (B : SA) (E : SD) (w : World) (hr : RS w A D) (_ : A.ln ≤ A.lc) (hs : RS w B E) (_ : B.ln ≤ B.lc) :
    Calls Try.prog 5 #[.agg #[.slice A.a A.n A.c, .slice A.ta A.tn A.tc, .slice A.da A.dn A.dc, .slice A.wa A.wn A.wc, .slice A.xa A.xn A.xc, .int .i64 D.ac, .int .i64 D.cz, .slice A.la A.ln A.lc, .int .i64 D.dv, .slice A.oa A.on A.oc, .slice A.ga A.gn A.gc], .agg #[.slice B.a B.n B.c, .slice B.ta B.tn B.tc, .slice B.da B.dn B.dc, .slice B.wa B.wn B.wc, .slice B.xa B.xn B.xc, .int .i64 E.ac, .int .i64 E.cz, .slice B.la B.ln B.lc, .int .i64 E.dv, .slice B.oa B.on B.oc, .slice B.ga B.gn B.gc]] w fun e w' => e = .returned (.bool (archB D E)) ∧ Below w.heap.size w w' := by
  obtain ⟨za, zn, zc, zta, ztn, ztc, zda, zdn, zdc, zwa, zwn, zwc, zxa, zxn, zxc, zla, zln, zlc, zoa, zon, zoc, zga, zgn, zgc⟩ := A
  obtain ⟨ya, yn, yc, yta, ytn, ytc, yda, ydn, ydc, ywa, ywn, ywc, yxa, yxn, yxc, yla, yln, ylc, yoa, yon, yoc, yga, ygn, ygc⟩ := B
  have M0 := ((Mm.start w).allocC [.slice za zn zc, .slice zta ztn ztc, .slice zda zdn zdc, .slice zwa zwn zwc, .slice zxa zxn zxc, .int .i64 D.ac, .int .i64 D.cz, .slice zla zln zlc, .int .i64 D.dv, .slice zoa zon zoc, .slice zga zgn zgc] 54).allocC [.slice ya yn yc, .slice yta ytn ytc, .slice yda ydn ydc, .slice ywa ywn ywc, .slice yxa yxn yxc, .int .i64 E.ac, .int .i64 E.cz, .slice yla yln ylc, .int .i64 E.dv, .slice yoa yon yoc, .slice yga ygn ygc] 54
  simp only [World.size_alloc] at M0
  have hr0 := hr.below M0.bel (Nat.le_refl _)
  have hs0 := hs.below M0.bel (Nat.le_refl _)
  go_enter Try.func5, Try.ntmps5
  go_wp2_with fail
  refine (l9SameTables_calls _ _ ⟨za, zn, zc, zta, ztn, ztc, zda, zdn, zdc, zwa, zwn, zwc, zxa, zxn, zxc, zla, zln, zlc, zoa, zon, zoc, zga, zgn, zgc⟩ D ⟨ya, yn, yc, yta, ytn, ytc, yda, ydn, ydc, ywa, ywn, ywc, yxa, yxn, yxc, yla, yln, ylc, yoa, yon, yoc, yga, ygn, ygc⟩ E _ hr0.rt hs0.rt ((M0.get 1 rfl).cell 0 rfl) ((M0.get 1 rfl).cell 1 rfl) ((M0.get 1 rfl).cell 2 rfl) ((M0.get 0 rfl).cell 0 rfl) ((M0.get 0 rfl).cell 1 rfl) ((M0.get 0 rfl).cell 2 rfl)).mono ?_
  rintro e w1 ⟨rfl, g1⟩
  have M1 := M0.below g1
  have hr1 := hr0.below g1 (Nat.le_refl _)
  have hs1 := hs0.below g1 (Nat.le_refl _)
  clear M0 g1 hr0 hs0
  cases h1 : tabB D E with
  | false =>
    have HR : Hid (archB D E = false) := by show _ = _; unfold archB; rw [h1]; simp
    have HB := hide M1.bel
    clear M1 hr1 hs1 h1
    go_wp2
    go_ret
    exact ⟨ret_bool HR.out.symm, HB.out⟩
  | true =>
  have c3 := (M1.get 1 rfl).cell 3 rfl
  have d3 := (M1.get 0 rfl).cell 3 rfl
  go_wp2_with fail
  refine (specSameMemories_calls zwa zwn zwc D.ws ywa ywn ywc E.ws _ hr1.wm hr1.ws hs1.wm hs1.ws).mono ?_
  rintro e w2 ⟨rfl, g2⟩
  have M2 := M1.below g2
  have hr2 := hr1.below g2 (Nat.le_refl _)
  have hs2 := hs1.below g2 (Nat.le_refl _)
  clear M1 g2 hr1 hs1 c3 d3
  cases h2 : decide (D.ws = E.ws) with
  | false =>
    have HR : Hid (archB D E = false) := by show _ = _; unfold archB; rw [h2]; simp
    have HB := hide M2.bel
    clear M2 hr2 hs2 h1 h2
    go_wp2
    go_ret
    exact ⟨ret_bool HR.out.symm, HB.out⟩
  | true =>
  have c4 := (M2.get 1 rfl).cell 4 rfl
  have d4 := (M2.get 0 rfl).cell 4 rfl
  have c5 := (M2.get 1 rfl).cell 5 rfl
  have d5 := (M2.get 0 rfl).cell 5 rfl
  have c8 := (M2.get 1 rfl).cell 8 rfl
  have d8 := (M2.get 0 rfl).cell 8 rfl
  have c10 := (M2.get 1 rfl).cell 10 rfl
  have d10 := (M2.get 0 rfl).cell 10 rfl
  obtain ⟨xl1, hx⟩ := hr.xs
  obtain ⟨xl2, hx2⟩ := hs.xs
  obtain ⟨gl1, hg⟩ := hr.gs
  obtain ⟨gl2, hg2⟩ := hs.gs
  have xm := hr.xm
  have gm := hr.gm
  have om := hr.om
  have om2 := hs.om
  have OS1 := hide hr.os
  have OS2 := hide hs.os
  unfold maxLen at xm gm
  dsimp only at xl1 xl2 hx hx2 gl1 gl2 hg hg2 xm gm om om2 OS1 OS2
  have HB2 := hide M2.bel
  have HM2 := hide M2
  have H1 := hide h1
  have H2 := hide h2
  clear hr2 hs2 M2 h1 h2 hr hs
  by_cases hxn : zxn = yxn
  rotate_left
  · have HR : Hid (archB D E = false) := by
      have : D.cs ≠ E.cs := fun e => hxn (by rw [← xl1, ← xl2, e])
      show _ = _; unfold archB; simp [this]
    have e1 : ((zxn : Int) != (yxn : Int)) = true := by simp; omega
    clear hx hx2 hg hg2 HM2
    go_wp2
    go_ret
    exact ⟨ret_bool HR.out.symm, HB2.out⟩
  subst hxn
  have e1 : ((zxn : Int) != (zxn : Int)) = false := by simp
  by_cases hac : D.ac = E.ac
  rotate_left
  · have HR : Hid (archB D E = false) := by
      show _ = _; unfold archB; simp [hac]
    have e2 : (D.ac != E.ac) = true := by simpa using hac
    clear hx hx2 hg hg2 HM2
    go_wp2
    go_ret
    exact ⟨ret_bool HR.out.symm, HB2.out⟩
  have e2 : (D.ac != E.ac) = false := by simpa using hac
  have Hac := hide hac
  clear hac
  by_cases hdv : D.dv = E.dv
  rotate_left
  · have HR : Hid (archB D E = false) := by
      show _ = _; unfold archB; simp [hdv]
    have e3 : (D.dv != E.dv) = true := by simpa using hdv
    clear hx hx2 hg hg2 HM2
    go_wp2
    go_ret
    exact ⟨ret_bool HR.out.symm, HB2.out⟩
  have e3 : (D.dv != E.dv) = false := by simpa using hdv
  have Hdv := hide hdv
  clear hdv
  by_cases hgn : zgn = ygn
  rotate_left
  · have HR : Hid (archB D E = false) := by
      have : D.gs ≠ E.gs := fun e => hgn (by rw [← gl1, ← gl2, e])
      show _ = _; unfold archB; simp [this]
    have e4 : ((zgn : Int) != (ygn : Int)) = true := by simp; omega
    clear hx hx2 hg hg2 HM2
    go_wp2
    go_ret
    exact ⟨ret_bool HR.out.symm, HB2.out⟩
  subst hgn
  have e4 : ((zgn : Int) != (zgn : Int)) = false := by simp
  have HXL : Hid (D.cs.length = zxn ∧ E.cs.length = zxn ∧ D.gs.length = zgn ∧ E.gs.length = zgn) := ⟨xl1, xl2, gl1, gl2⟩
  clear xl1 xl2 gl1 gl2
  go_wp2
  clear e1 e2 e3 e4 c4 c5 c8 c10 d4 d5 d8 d10
  go_loopw [5] (fun i wr => ∃ k : Nat, k ≤ zxn ∧ i = .int .i64 k ∧ Mm w wr [] [(w.heap.size + 1, w.heap.size + 1 + 1, Cs (w.heap.size + 1) [.slice ya yn yc, .slice yta ytn ytc, .slice yda ydn ydc, .slice ywa ywn ywc, .slice yxa zxn yxc, .int .i64 E.ac, .int .i64 E.cz, .slice yla yln ylc, .int .i64 E.dv, .slice yoa yon yoc, .slice yga zgn ygc]), (w.heap.size, w.heap.size + 1, Cs w.heap.size [.slice za zn zc, .slice zta ztn ztc, .slice zda zdn zdc, .slice zwa zwn zwc, .slice zxa zxn zxc, .int .i64 D.ac, .int .i64 D.cz, .slice zla zln zlc, .int .i64 D.dv, .slice zoa zon zoc, .slice zga zgn zgc])] ∧ ∀ j, j < k → gx D.cs j = gx E.cs j) (fun i _ => zxn - (intOf i).toNat)
  case atStart => exact ⟨0, Nat.zero_le _, rfl, HM2.out, fun j hj => by omega⟩
  case round =>
    clear HM2 HB2
    obtain ⟨k, hk, rfl, M, hall⟩ := hrel
    have Hall := hide hall
    have c4 := (M.get 1 rfl).cell 4 rfl
    have d4 := (M.get 0 rfl).cell 4 rfl
    have hbel := M.bel
    have HM := hide M
    have l0 : w.heap.size < wr.heap.size := World.block_lt_of_cell? _ _ c4
    have l1 : w.heap.size + 1 < wr.heap.size := World.block_lt_of_cell? _ _ d4
    clear hall M
    by_cases hlt : k < zxn
    · obtain ⟨b1, o1, rfl, hb1, hc1⟩ := hx (by omega)
      obtain ⟨b2, o2, rfl, hb2, hc2⟩ := hx2 (by omega)
      obtain ⟨la, ll, lc, p0, p1, p2, pl, psl⟩ := hc1 k hlt
      obtain ⟨ma, ml, mc, q0, q1, q2, ql, qsl⟩ := hc2 k hlt
      have hp0 := (hbel.cell (p := ⟨b1, o1 + k * 3, none⟩) hb1).trans p0
      have hp1 := (hbel.cell (p := ⟨b1, o1 + k * 3 + 1, none⟩) hb1).trans p1
      have hp2 := (hbel.cell (p := ⟨b1, o1 + k * 3 + 2, none⟩) hb1).trans p2
      have hq0 := (hbel.cell (p := ⟨b2, o2 + k * 3, none⟩) hb2).trans q0
      have hq1 := (hbel.cell (p := ⟨b2, o2 + k * 3 + 1, none⟩) hb2).trans q1
      have hq2 := (hbel.cell (p := ⟨b2, o2 + k * 3 + 2, none⟩) hb2).trans q2
      have hki : (k : Int) < (zxn : Int) := by omega
      have hki0 : (0 : Int) ≤ (k : Int) := by omega
      have PS := psl.below hbel (Nat.le_refl _)
      have QS := qsl.below hbel (Nat.le_refl _)
      have r1 : b1 < wr.heap.size := by have := hbel.size; omega
      have r2 : b2 < wr.heap.size := by have := hbel.size; omega
      have HC := hide fun (X : World) (hX : Below wr.heap.size wr X) => l7SameContext_calls b1 b2 (o1 + k * 3) (o2 + k * 3) la ll lc (gx D.cs k).2.1 (gx D.cs k).2.2 (gx D.cs k).1 ma ml mc (gx E.cs k).2.1 (gx E.cs k).2.2 (gx E.cs k).1 X pl (PS.below hX (Nat.le_refl _)) ql (QS.below hX (Nat.le_refl _)) ((hX.cell (p := ⟨b1, o1 + k * 3, none⟩) r1).trans hp0) ((hX.cell (p := ⟨b1, o1 + k * 3 + 1, none⟩) r1).trans hp1) ((hX.cell (p := ⟨b1, o1 + k * 3 + 2, none⟩) r1).trans hp2) ((hX.cell (p := ⟨b2, o2 + k * 3, none⟩) r2).trans hq0) ((hX.cell (p := ⟨b2, o2 + k * 3 + 1, none⟩) r2).trans hq1) ((hX.cell (p := ⟨b2, o2 + k * 3 + 2, none⟩) r2).trans hq2)
      have hsx := sameX_iff (x := gx D.cs k) (y := gx E.cs k)
      rw [hsx] at HC
      have HS0 : Hid (wr.drew.cell? ⟨w.heap.size, 4, none⟩ = some (.slice (some ⟨b1, o1, none⟩) zxn zxc) ∧ wr.drew.cell? ⟨w.heap.size + 1, 4, none⟩ = some (.slice (some ⟨b2, o2, none⟩) zxn yxc) ∧ Below wr.heap.size wr wr.drew) := ⟨c4, d4, (Below.refl _ _).drew⟩
      clear hsx hc1 hc2 p0 p1 p2 q0 q1 q2 psl qsl PS QS hp0 hp1 hp2 hq0 hq1 hq2 hg hg2
      by_cases hs : gx D.cs k = gx E.cs k
      · have He := hide hs
        have hd : decide (gx D.cs k = gx E.cs k) = true := by simpa using hs
        rw [hd] at HC
        clear hs hd
        go_wp2_with fail
        go_region_held2 (fun X => X.cell? ⟨w.heap.size, 4, none⟩ = some (.slice (some ⟨b1, o1, none⟩) zxn zxc) ∧ X.cell? ⟨w.heap.size + 1, 4, none⟩ = some (.slice (some ⟨b2, o2, none⟩) zxn yxc) ∧ Below wr.heap.size wr X)
          (first | with_reducible exact HS0.out | (repeat (first | with_reducible assumption)))
          (first
            | (go_at_call 17; refine (HC.out _ (q2_bel (by with_reducible assumption))).mono ?_; rintro e ws ⟨rfl, gs⟩; have hss := q2_below l0 l1 (by with_reducible assumption) gs; clear gs))
        all_goals (have HBX := hide (q2_bel (by with_reducible assumption)); clear HS0 HC)
        all_goals (
          go_wp2
          go_roundw
          case rel => exact ⟨k + 1, by omega, by go_num, HM.out.below HBX.out, fun j hj => by (by_cases e : j = k); (subst e; exact He.out); exact Hall.out j (by omega)⟩
          case measure => simp [intOf]; omega)
      · have HR : Hid (archB D E = false) := by
          have : D.cs ≠ E.cs := fun e => hs (by rw [e])
          show _ = _; unfold archB; simp [this]
        have hd : decide (gx D.cs k = gx E.cs k) = false := by simpa using hs
        rw [hd] at HC
        clear hs hd
        go_wp2_with fail
        go_region_held2 (fun X => X.cell? ⟨w.heap.size, 4, none⟩ = some (.slice (some ⟨b1, o1, none⟩) zxn zxc) ∧ X.cell? ⟨w.heap.size + 1, 4, none⟩ = some (.slice (some ⟨b2, o2, none⟩) zxn yxc) ∧ Below wr.heap.size wr X)
          (first | with_reducible exact HS0.out | (repeat (first | with_reducible assumption)))
          (first
            | (go_at_call 17; refine (HC.out _ (q2_bel (by with_reducible assumption))).mono ?_; rintro e ws ⟨rfl, gs⟩; have hss := q2_below l0 l1 (by with_reducible assumption) gs; clear gs))
        all_goals (have HBX := hide (q2_bel (by with_reducible assumption)); clear HS0 HC)
        all_goals (
          go_wp2
          go_ret
          exact ⟨ret_bool HR.out.symm, hbel.trans (HBX.out.mono hbel.size)⟩)
    · have HE : Hid (D.cs = E.cs) := gx_ext (by have := HXL.out; omega) (fun i hi => Hall.out i (by have := HXL.out; omega))
      clear Hall hx hx2 hbel
      go_wp2
      clear c4 d4
      go_loopw [6] (fun i wr => ∃ k : Nat, k ≤ zgn ∧ i = .int .i64 k ∧ Mm w wr [] [(w.heap.size + 1, w.heap.size + 1 + 1, Cs (w.heap.size + 1) [.slice ya yn yc, .slice yta ytn ytc, .slice yda ydn ydc, .slice ywa ywn ywc, .slice yxa zxn yxc, .int .i64 E.ac, .int .i64 E.cz, .slice yla yln ylc, .int .i64 E.dv, .slice yoa yon yoc, .slice yga zgn ygc]), (w.heap.size, w.heap.size + 1, Cs w.heap.size [.slice za zn zc, .slice zta ztn ztc, .slice zda zdn zdc, .slice zwa zwn zwc, .slice zxa zxn zxc, .int .i64 D.ac, .int .i64 D.cz, .slice zla zln zlc, .int .i64 D.dv, .slice zoa zon zoc, .slice zga zgn zgc])] ∧ ∀ j, j < k → gw D.gs j = gw E.gs j) (fun i _ => zgn - (intOf i).toNat)
      case atStart => exact ⟨0, Nat.zero_le _, rfl, HM.out, fun j hj => by omega⟩
      case round =>
        clear HM
        obtain ⟨m, hm, rfl, M, hall⟩ := hrel
        have Hall := hide hall
        have c10 := (M.get 1 rfl).cell 10 rfl
        have d10 := (M.get 0 rfl).cell 10 rfl
        have hbel := M.bel
        have HM := hide M
        have c9 := (M.get 1 rfl).cell 9 rfl
        have d9 := (M.get 0 rfl).cell 9 rfl
        clear hall M
        by_cases hlt : m < zgn
        · obtain ⟨b1, o1, rfl, hb1, hc1⟩ := hg (by omega)
          obtain ⟨b2, o2, rfl, hb2, hc2⟩ := hg2 (by omega)
          obtain ⟨p0, p1⟩ := cellsw hc1 hlt
          obtain ⟨r0, r1⟩ := cellsw hc2 hlt
          have hp0 := (hbel.cell (p := ⟨b1, o1 + m * 2, none⟩) hb1).trans p0
          have hp1 := (hbel.cell (p := ⟨b1, o1 + m * 2 + 1, none⟩) hb1).trans p1
          have hq0 := (hbel.cell (p := ⟨b2, o2 + m * 2, none⟩) hb2).trans r0
          have hq1 := (hbel.cell (p := ⟨b2, o2 + m * 2 + 1, none⟩) hb2).trans r1
          have hki : (m : Int) < (zgn : Int) := by omega
          clear p0 p1 r0 r1 hc1 hc2 c9 d9
          by_cases he : gw D.gs m = gw E.gs m
          · rw [← he] at hq0 hq1
            have He := hide he
            clear he
            go_wp2_with fail
            go_quiet (fail)
            go_wp2
            go_roundw
            case rel => exact ⟨m + 1, by omega, by go_num, HM.out.below (bdrewN (Below.refl _ _) _), fun j hj => by (by_cases e : j = m); (subst e; exact He.out); exact Hall.out j (by omega)⟩
            case measure => simp [intOf]; omega
          · have HR : Hid (archB D E = false) := by
              have : D.gs ≠ E.gs := fun e => he (by rw [e])
              show _ = _; unfold archB; simp [this]
            by_cases h1 : (gw D.gs m).1 = (gw E.gs m).1
            · have h2 : ¬ (gw D.gs m).2 = (gw E.gs m).2 := fun h => he (Prod.ext h1 h)
              clear he
              go_wp2_with fail
              go_quiet (fail)
              go_wp2
              go_ret
              exact ⟨ret_bool HR.out.symm, bdrewN hbel _⟩
            · clear he
              go_wp2_with fail
              go_quiet (fail)
              go_wp2
              go_ret
              exact ⟨ret_bool HR.out.symm, bdrewN hbel _⟩
        · have HR : Hid (archB D E = decide (D.os = E.os)) := by
            have e2 : D.gs = E.gs := gw_ext (by have := HXL.out; omega) (fun i hi => Hall.out i (by have := HXL.out; omega))
            show _ = _; unfold archB; rw [H1.out, H2.out, HE.out, Hac.out, Hdv.out, e2]; simp
          have HO := hide (l9Out_calls zoa yoa zon zoc yon yoc D.os E.os wr om om2 (OS1.out.below hbel (Nat.le_refl _)) (OS2.out.below hbel (Nat.le_refl _)))
          have HB := hide hbel
          clear Hall hg hg2 hbel HM
          go_wp2_with fail
          refine HO.out.mono ?_
          rintro e w3 ⟨rfl, g3⟩
          have HB3 := hide (HB.out.trans (g3.mono HB.out.size))
          clear g3
          go_wp2
          go_ret
          exact ⟨ret_bool HR.out.symm, HB3.out⟩

end Go.Proofs.Ytcojgmecocjnkab
