import Derived.Test.YtnlkigjgloeonaaGreatK5
import Derived.Test.YtnlkigjgloeonaaGreatK7
import Derived.Test.YtnlkigjgloeonaaGreatK8
import Derived.Test.YtnlkigjgloeonaaGreatK3
import Derived.Test.YtnlkigjgloeonaaGreatSpec3
import Derived.Test.YtnlkigjgloeonaaGreatPermI
import Derived.WalkKit
import Derived.ProofKit
import Derived.OpenShut
import Derived.ShutString
import Derived.ChangeOld
import Derived.Below
import Derived.WalkSpells
import Derived.Deep.QuietTactic
import Derived.BigQuiet
import Derived.Deep.RegionWith
import Derived.Deep.WholeRow
import Derived.Deep.DeepCutAuto
import Derived.Deep.RegionHeld2
import Derived.Deep.AppendLies
import Derived.Deep.RegionLaw
namespace Go.Proofs.YtnlkigjgloeonaaGreat
open Go.ChangeShapes Go.WideShapes Go.ChangeAt Go.RowKit

/-- the label of a domain. -/
def dmQ (D : SD) (i : Nat) : List Int := atL D.ss (gt D.ds i)
/-- does nobody own anything, and is the label a thing's. -/
def iqB (D : SD) (z : List Int) : Bool := (decide (sysF D = 0) && (decide (fault z = 0) && thing0 z)) && (List.range D.ds.length).all (fun i => !has (dmQ D i) 0)

theorem iqB_sys {D : SD} {z : List Int} (h : sysF D ≠ 0) : iqB D z = false := by unfold iqB; rw [decide_eq_false h]; rfl
theorem iqB_lab {D : SD} {z : List Int} (h : fault z ≠ 0) : iqB D z = false := by unfold iqB; rw [decide_eq_false h]; simp
theorem iqB_thing {D : SD} {z : List Int} (h : thing0 z = false) : iqB D z = false := by unfold iqB; rw [h]; simp
theorem iqB_owns {D : SD} {z : List Int} {k : Nat} (hk : k < D.ds.length) (h : has (dmQ D k) 0 = true) : iqB D z = false := by
  have : (List.range D.ds.length).all (fun i => !has (dmQ D i) 0) = false := by
    rw [List.all_eq_false]
    exact ⟨k, List.mem_range.2 hk, by simp [h]⟩
  unfold iqB
  rw [this]; simp
theorem iqB_yes {D : SD} {z : List Int} (h1 : sysF D = 0) (h2 : fault z = 0) (h3 : thing0 z = true) (h : ∀ j, j < D.ds.length → has (dmQ D j) 0 = false) : iqB D z = true := by
  have : (List.range D.ds.length).all (fun i => !has (dmQ D i) 0) = true := by
    rw [List.all_eq_true]
    intro i hi
    simp [h i (List.mem_range.1 hi)]
  unfold iqB
  rw [this, decide_eq_true h1, decide_eq_true h2, h3]; rfl

/-- what is known of a right system's tables and contexts. -/
theorem sysF_tab {D : SD} (h : sysF D = 0) : tabF D.ss D.ts D.ds = 0 ∧ Good D.ss ∧ allS D.ss D.ds = true ∧ allS D.ss D.ts = true ∧ D.cs.length = D.ds.length ∧ 0 < D.ds.length ∧ D.ds.length ≤ 4 := by
  obtain ⟨h1, _⟩ := sysF_inv h
  obtain ⟨hr, _, h2, h3, _⟩ := tabF_zero h1
  obtain ⟨h4, h5, h6, _⟩ := sysF_ctx h
  exact ⟨h1, good_of hr, h3, h2, h4, h5, h6⟩

theorem dmQ_ok {D : SD} (h : sysF D = 0) {k : Nat} (hk : k < D.ds.length) : fault (dmQ D k) = 0 ∧ tgC D.ss D.ts D.ds D.ds (k : Int) = 0 ∧ tgL D.ss D.ts D.ds D.ds (k : Int) = dmQ D k := by
  obtain ⟨h1, h2, h3, _⟩ := sysF_tab h
  have e : inC D.ds (k : Int) = 0 := by unfold inC; rw [if_pos (by omega)]
  exact ⟨atL_right h2 h3 hk, by rw [tgC_ok h1, e], by rw [tgL_ok h1]; unfold inL; rw [if_pos e]; simp [dmQ]⟩

set_option maxRecDepth 100000 in
theorem l1OwnsO_calls (p o : Nat) (a : Option Addr) (len cap : Nat) (zs : List Int) (w : World) (hl : len ≤ maxLen) (_hp : p < w.heap.size) (hpc : w.cell? ⟨p, o, none⟩ = some (.slice a len cap)) (hs : Sl w a len zs) :
    Calls Tryz.prog 54 #[.pointer (some ⟨p, o, none⟩)] w fun e w' => e = .returned (.bool (has zs 0)) ∧ Below w.heap.size w w' := by
  unfold maxLen at hl
  obtain ⟨hlen, hs⟩ := hs
  go_enter Tryz.func54, Tryz.ntmps54
  go_wp2
  go_loop [3] (fun i => ∃ k : Nat, k ≤ len ∧ i = .int .i64 k ∧ ∀ j, j < k → gt zs j ≠ 0) (fun i => len - (intOf i).toNat)
  case atStart => exact ⟨0, Nat.zero_le _, rfl, fun j hj => by omega⟩
  case round =>
    obtain ⟨k, hk, rfl, hall⟩ := hrel
    have Hall : Hid (∀ j, j < k → gt zs j ≠ 0) := hall
    clear hall
    by_cases hlt : k < len
    · obtain ⟨b, off, rfl, hb, hc⟩ := hs (by omega)
      have hck := hc k hlt
      by_cases he : gt zs k = 0
      · have hq : (gt zs k == 0) = true := by simp [he]
        have He := hide he
        clear he
        go_wp2
        go_ret
        exact ⟨ret_bool (has_yes (k := k) (by omega) He.out).symm, Below.refl _ _⟩
      · have hq : (gt zs k == 0) = false := by simp [he]
        have He := hide he
        clear he
        go_wp2
        go_round
        case rel => exact ⟨k + 1, by omega, by go_num, fun j hj => by (by_cases e : j = k); (subst e; exact He.out); exact Hall.out j (by omega)⟩
        case measure => simp [intOf]; omega
    · go_wp2
      go_ret
      exact ⟨ret_bool (has_no (fun j hj => Hall.out j (by omega))).symm, Below.refl _ _⟩

set_option maxRecDepth 100000 in
set_option maxHeartbeats 4000000 in
theorem specIsQuiet_calls (A : SA) (D : SD) (la : Option Addr) (ll lc : Nat) (zl : List Int) (w : World) (hr : RS w A D) (_hk : A.ln ≤ A.lc) (hml : ll ≤ maxLen) (hsl : Sl w la ll zl) :
    Calls Tryz.prog 18 #[.agg #[.slice A.a A.n A.c, .slice A.ta A.tn A.tc, .slice A.da A.dn A.dc, .slice A.wa A.wn A.wc, .slice A.xa A.xn A.xc, .int .i64 D.ac, .int .i64 D.cz, .slice A.la A.ln A.lc, .int .i64 D.dv, .slice A.oa A.on A.oc, .slice A.ga A.gn A.gc], .agg #[.slice la ll lc]] w fun e w' => e = .returned (.bool (iqB D zl)) ∧ Below w.heap.size w w' := by
  have M0 := ((Mm.start w).allocC [.slice A.a A.n A.c, .slice A.ta A.tn A.tc, .slice A.da A.dn A.dc, .slice A.wa A.wn A.wc, .slice A.xa A.xn A.xc, .int .i64 D.ac, .int .i64 D.cz, .slice A.la A.ln A.lc, .int .i64 D.dv, .slice A.oa A.on A.oc, .slice A.ga A.gn A.gc] 62).allocC [.slice la ll lc] 64
  simp only [World.size_alloc] at M0
  have HM0 := hide M0
  have HSL := hide hsl
  have HR := hide hr
  have HF : Hid (Calls Tryz.prog 26 #[.pointer (some ⟨w.heap.size, 0, none⟩)] ((w.alloc (.cells #[.slice A.a A.n A.c, .slice A.ta A.tn A.tc, .slice A.da A.dn A.dc, .slice A.wa A.wn A.wc, .slice A.xa A.xn A.xc, .int .i64 D.ac, .int .i64 D.cz, .slice A.la A.ln A.lc, .int .i64 D.dv, .slice A.oa A.on A.oc, .slice A.ga A.gn A.gc] 62)).alloc (.cells #[.slice la ll lc] 64)) fun e w' => e = .returned (.int .i64 (sysF D)) ∧ Below ((w.alloc (.cells #[.slice A.a A.n A.c, .slice A.ta A.tn A.tc, .slice A.da A.dn A.dc, .slice A.wa A.wn A.wc, .slice A.xa A.xn A.xc, .int .i64 D.ac, .int .i64 D.cz, .slice A.la A.ln A.lc, .int .i64 D.dv, .slice A.oa A.on A.oc, .slice A.ga A.gn A.gc] 62)).alloc (.cells #[.slice la ll lc] 64)).heap.size ((w.alloc (.cells #[.slice A.a A.n A.c, .slice A.ta A.tn A.tc, .slice A.da A.dn A.dc, .slice A.wa A.wn A.wc, .slice A.xa A.xn A.xc, .int .i64 D.ac, .int .i64 D.cz, .slice A.la A.ln A.lc, .int .i64 D.dv, .slice A.oa A.on A.oc, .slice A.ga A.gn A.gc] 62)).alloc (.cells #[.slice la ll lc] 64)) w') := l7Fault_calls w.heap.size A D _ (M0.get 1 rfl) (hr.below M0.bel (Nat.le_refl _))
  clear M0 hsl hr
  by_cases h1 : sysF D = 0
  rotate_left
  · have HV := hide (iqB_sys (z := zl) h1)
    have e1 : (sysF D != 0) = true := by simpa using h1
    clear h1
    go_enter Tryz.func18, Tryz.ntmps18
    go_wp2_with fail
    refine HF.out.mono ?_
    rintro e w1 ⟨rfl, g1⟩
    have HB := hide (HM0.out.below g1).bel
    clear g1
    go_wp2
    go_ret
    exact ⟨ret_bool HV.out.symm, HB.out⟩
  have e1 : (sysF D != 0) = false := by simp [h1]
  have H1 := hide h1
  clear h1
  have HLF : Hid (∀ W, Below w.heap.size w W → w.heap.size + 1 < W.heap.size → W.cell? ⟨w.heap.size + 1, 0, none⟩ = some (.slice la ll lc) → Calls Tryz.prog 27 #[.pointer (some ⟨w.heap.size + 1, 0, none⟩)] W fun e w' => e = .returned (.int .i64 (fault zl)) ∧ Below W.heap.size W w') := fun W hW hp hc => l1FaultO_calls (w.heap.size + 1) 0 la ll lc zl W hml hp hc (HSL.out.below hW (Nat.le_refl _))
  by_cases h2 : fault zl = 0
  rotate_left
  · have HV := hide (iqB_lab (D := D) h2)
    have e2 : (fault zl != 0) = true := by simpa using h2
    clear h2
    go_enter Tryz.func18, Tryz.ntmps18
    go_wp2_with fail
    refine HF.out.mono ?_
    rintro e w1 ⟨rfl, g1⟩
    have HM1 := hide (HM0.out.below g1)
    have z1 : w.heap.size + 2 ≤ w1.heap.size := by have := g1.size; simpa using this
    clear g1
    go_wp2_with fail
    refine (HLF.out _ HM1.out.bel (by omega) ((HM1.out.get 0 rfl).cell 0 rfl)).mono ?_
    rintro e w2 ⟨rfl, g2⟩
    have HB := hide (HM1.out.below g2).bel
    clear g2
    go_wp2
    go_ret
    exact ⟨ret_bool HV.out.symm, HB.out⟩
  have e2 : (fault zl != 0) = false := by simp [h2]
  have H2 := hide h2
  clear h2
  have HTH : Hid (∀ b, thing0 zl = b → ∀ W, Below w.heap.size w W → W.cell? ⟨w.heap.size + 1, 0, none⟩ = some (.slice la ll lc) → Calls Tryz.prog 53 #[.pointer (some ⟨w.heap.size + 1, 0, none⟩)] W fun e w' => e = .returned (.bool b) ∧ w' = W) := fun b hb W hW hc => hb ▸ l1ThingO_calls (w.heap.size + 1) 0 la ll lc zl W hml hc (HSL.out.below hW (Nat.le_refl _))
  by_cases h3 : thing0 zl = true
  rotate_left
  · replace h3 : thing0 zl = false := by simpa using h3
    have HV := hide (iqB_thing (D := D) h3)
    have H3 := hide h3
    clear h3
    go_enter Tryz.func18, Tryz.ntmps18
    go_wp2_with fail
    refine HF.out.mono ?_
    rintro e w1 ⟨rfl, g1⟩
    have HM1 := hide (HM0.out.below g1)
    have z1 : w.heap.size + 2 ≤ w1.heap.size := by have := g1.size; simpa using this
    clear g1
    go_wp2_with fail
    refine (HLF.out _ HM1.out.bel (by omega) ((HM1.out.get 0 rfl).cell 0 rfl)).mono ?_
    rintro e w2 ⟨rfl, g2⟩
    have HM2 := hide (HM1.out.below g2)
    clear g2
    go_wp2_with fail
    refine (HTH.out _ H3.out _ HM2.out.bel ((HM2.out.get 0 rfl).cell 0 rfl)).mono ?_
    rintro e w3 ⟨rfl, rfl⟩
    go_wp2
    go_ret
    exact ⟨ret_bool HV.out.symm, HM2.out.bel⟩
  have H3 := hide h3
  clear h3
  obtain ⟨_, good, sd, _, hcd, hd0, hd4⟩ := sysF_tab H1.out
  have hxn := HR.out.xs.1
  have HG := hide good
  have HSD := hide sd
  have hdn : D.ds.length = A.dn := HR.out.rt.2.2.2.2.2.1
  clear good sd
  go_enter Tryz.func18, Tryz.ntmps18
  go_wp2_with fail
  refine HF.out.mono ?_
  rintro e w1 ⟨rfl, g1⟩
  have HM1 := hide (HM0.out.below g1)
  have z1 : w.heap.size + 2 ≤ w1.heap.size := by have := g1.size; simpa using this
  clear g1
  go_wp2_with fail
  refine (HLF.out _ HM1.out.bel (by omega) ((HM1.out.get 0 rfl).cell 0 rfl)).mono ?_
  rintro e w2 ⟨rfl, g2⟩
  have HM2 := hide (HM1.out.below g2)
  clear g2
  go_wp2_with fail
  refine (HTH.out _ H3.out _ HM2.out.bel ((HM2.out.get 0 rfl).cell 0 rfl)).mono ?_
  rintro e w3 ⟨rfl, rfl⟩
  clear e1 e2
  go_wp2
  go_loopw [5] (fun i wr => ∃ k : Nat, k ≤ A.xn ∧ i = .int .i64 (k : Int) ∧ Mm w wr [] [(w.heap.size + 1, w.heap.size + 1 + 1, Cs (w.heap.size + 1) [.slice la ll lc]), (w.heap.size, w.heap.size + 1, Cs w.heap.size [.slice A.a A.n A.c, .slice A.ta A.tn A.tc, .slice A.da A.dn A.dc, .slice A.wa A.wn A.wc, .slice A.xa A.xn A.xc, .int .i64 D.ac, .int .i64 D.cz, .slice A.la A.ln A.lc, .int .i64 D.dv, .slice A.oa A.on A.oc, .slice A.ga A.gn A.gc])] ∧ ∀ j, j < k → has (dmQ D j) 0 = false) (fun i _ => A.xn - (intOf i).toNat)
  case atStart => exact ⟨0, Nat.zero_le _, rfl, HM2.out, fun j hj => by omega⟩
  case round =>
    clear HM2
    obtain ⟨k, hk, rfl, M, hall⟩ := hrel
    have Hall := hide hall
    have HM := hide M
    have p4 := (M.get 1 rfl).cell 4 rfl
    clear hall M
    by_cases hlt : k < A.xn
    · have hkd : k < A.dn := by omega
      have i1 : (k : Int) < (A.xn : Int) := by omega
      have hrt := (HR.out.below HM.out.bel (Nat.le_refl _)).rt
      have HD : Hid (Calls Tryz.prog 55 #[.pointer (some ⟨w.heap.size, 0, none⟩), .int .i64 (k : Int)] wr fun e w' => ∃ b o la ll lc, e = .returned (.pointer (some ⟨b, o, none⟩)) ∧ b < wr.heap.size ∧ wr.cell? ⟨b, o, none⟩ = some (.slice la ll lc) ∧ ll ≤ 4 ∧ Sl wr la ll (dmQ D k) ∧ Below wr.heap.size wr w') := l3Domain_calls w.heap.size A.a A.n A.c D.ss A.da A.dn A.dc D.ds k wr HG.out (by omega) ((HM.out.get 1 rfl).cell 0 rfl) ((HM.out.get 1 rfl).cell 2 rfl) hrt.2.1 hrt.2.2.2.2.2 HSD.out hkd
      clear hrt
      go_wp2_with fail
      refine HD.out.mono ?_
      rintro e w4 ⟨b, q, ka, kl, kc, rfl, hb, hc, h4, hs, g4⟩
      have HM4 := hide (HM.out.below g4)
      have HC4 := hide ((g4.cell (p := ⟨b, q, none⟩) hb).trans hc)
      have hb4 : b < w4.heap.size := by have := g4.size; omega
      have HS4 := hide (hs.below g4 (Nat.le_refl _))
      clear g4 hs hc
      go_wp2_with fail
      refine (l1OwnsO_calls b q ka kl kc (dmQ D k) _ (by unfold maxLen; omega) hb4 HC4.out HS4.out).mono ?_
      rintro e w5 ⟨rfl, g5⟩
      have HM5 := hide (HM4.out.below g5)
      clear g5
      by_cases hh : has (dmQ D k) 0 = true
      · have HV := hide (iqB_owns (z := zl) (by omega : k < D.ds.length) hh)
        rw [hh]
        clear hh
        go_wp2
        go_ret
        exact ⟨ret_bool HV.out.symm, HM5.out.bel⟩
      · have HH : Hid (has (dmQ D k) 0 = false) := by show _ = _; simpa using hh
        rw [HH.out]
        clear hh
        go_wp2
        go_roundw
        case rel => exact ⟨k + 1, by omega, by go_num, HM5.out, fun j hj => by
          by_cases e : j = k
          · rw [e]; exact HH.out
          · exact Hall.out j (by omega)⟩
        case measure => simp [intOf]; omega
    · have HV := hide (iqB_yes H1.out H2.out H3.out (fun j hj => Hall.out j (by omega)))
      go_wp2
      go_ret
      exact ⟨ret_bool HV.out.symm, HM.out.bel⟩

set_option maxRecDepth 100000 in
theorem implOwnsAny_calls (a : Option Addr) (len cap : Nat) (zs : List Int) (w : World) (hl : len ≤ maxLen) (hs : Sl w a len zs) :
    Calls Tryz.prog 57 #[.agg #[.slice a len cap]] w fun e w' => e = .returned (.bool (ownsB zs)) ∧ Below w.heap.size w w' := by
  have hb0 := fun o => (Below.refl w.heap.size w).alloc (Nat.le_refl _) o
  cases hf : (fault zs == 0) with
  | true =>
    have e : ownsB zs = has zs 0 := by unfold ownsB; rw [hf]; rfl
    rw [e]
    clear e
    go_enter Tryz.func57, Tryz.ntmps57
    go_wp2_with fail
    refine (implLabelFault_calls a len cap zs _ hl (hs.below (hb0 _) (Nat.le_refl _))).mono ?_
    rintro e w1 ⟨rfl, hb⟩
    have h1 : Below w.heap.size w w1 := (hb0 _).trans (hb.mono (by simp))
    have c1 : w1.cell? ⟨w.heap.size, 0, none⟩ = some (.slice a len cap) := (hb.cell (p := ⟨w.heap.size, 0, none⟩) (by simp)).trans (by go_simp)
    clear hb hb0
    go_wp2_with fail
    refine (hasLevel_calls a len cap zs 0 _ hl (hs.below h1 (Nat.le_refl _))).mono ?_
    rintro e w2 ⟨rfl, hb⟩
    go_wp2
    go_ret
    exact ⟨rfl, h1.trans (hb.mono h1.size)⟩
  | false =>
    have e : ownsB zs = false := by unfold ownsB; rw [hf]; rfl
    rw [e]
    clear e
    go_enter Tryz.func57, Tryz.ntmps57
    go_wp2_with fail
    refine (implLabelFault_calls a len cap zs _ hl (hs.below (hb0 _) (Nat.le_refl _))).mono ?_
    rintro e w1 ⟨rfl, hb⟩
    go_wp2
    go_ret
    exact ⟨rfl, (hb0 _).trans (hb.mono (by simp))⟩

theorem thingBQ {zs : List Int} (h : fault zs = 0) : thingB zs = thing0 zs := by unfold thingB thing0; rw [h]; rfl

set_option maxRecDepth 100000 in
set_option maxHeartbeats 4000000 in
theorem implIsQuiet_calls (A : SA) (D : SD) (la : Option Addr) (ll lc : Nat) (zl : List Int) (w : World) (hr : RS w A D) (_hk : A.ln ≤ A.lc) (hml : ll ≤ maxLen) (hsl : Sl w la ll zl) :
    Calls Tryz.prog 19 #[.agg #[.slice A.a A.n A.c, .slice A.ta A.tn A.tc, .slice A.da A.dn A.dc, .slice A.wa A.wn A.wc, .slice A.xa A.xn A.xc, .int .i64 D.ac, .int .i64 D.cz, .slice A.la A.ln A.lc, .int .i64 D.dv, .slice A.oa A.on A.oc, .slice A.ga A.gn A.gc], .agg #[.slice la ll lc]] w fun e w' => e = .returned (.bool (iqB D zl)) ∧ Below w.heap.size w w' := by
  have M0 := ((Mm.start w).allocC [.slice A.a A.n A.c, .slice A.ta A.tn A.tc, .slice A.da A.dn A.dc, .slice A.wa A.wn A.wc, .slice A.xa A.xn A.xc, .int .i64 D.ac, .int .i64 D.cz, .slice A.la A.ln A.lc, .int .i64 D.dv, .slice A.oa A.on A.oc, .slice A.ga A.gn A.gc] 62).allocC [.slice la ll lc] 64
  simp only [World.size_alloc] at M0
  have HM0 := hide M0
  have HSL := hide hsl
  have HR := hide hr
  have HF : Hid (∀ W, Below w.heap.size w W → Calls Tryz.prog 35 #[.agg #[.slice A.a A.n A.c, .slice A.ta A.tn A.tc, .slice A.da A.dn A.dc, .slice A.wa A.wn A.wc, .slice A.xa A.xn A.xc, .int .i64 D.ac, .int .i64 D.cz, .slice A.la A.ln A.lc, .int .i64 D.dv, .slice A.oa A.on A.oc, .slice A.ga A.gn A.gc]] W fun e w' => e = .returned (.int .i64 (sysF D)) ∧ Below W.heap.size W w') := fun W hW => implSystemFault_calls A D W (hr.below hW (Nat.le_refl _)) _hk
  clear M0 hsl hr
  by_cases h1 : sysF D = 0
  rotate_left
  · have HV := hide (iqB_sys (z := zl) h1)
    have e1 : (sysF D != 0) = true := by simpa using h1
    clear h1
    go_enter Tryz.func19, Tryz.ntmps19
    go_wp2_with fail
    refine (HF.out _ HM0.out.bel).mono ?_
    rintro e w1 ⟨rfl, g1⟩
    have HB := hide (HM0.out.below g1).bel
    clear g1
    go_wp2
    go_ret
    exact ⟨ret_bool HV.out.symm, HB.out⟩
  have e1 : (sysF D != 0) = false := by simp [h1]
  have H1 := hide h1
  clear h1
  have HTH : Hid (∀ b, thingB zl = b → ∀ W, Below w.heap.size w W → Calls Tryz.prog 56 #[.agg #[.slice la ll lc]] W fun e w' => e = .returned (.bool b) ∧ Below W.heap.size W w') := fun b hb W hW => hb ▸ isThing_calls la ll lc zl W hml (HSL.out.below hW (Nat.le_refl _))
  by_cases h3 : thingB zl = true
  rotate_left
  · replace h3 : thingB zl = false := by simpa using h3
    have HV : Hid (iqB D zl = false) := by
      show _ = _
      by_cases h2 : fault zl = 0
      · exact iqB_thing (by rw [← thingBQ h2]; exact h3)
      · exact iqB_lab h2
    have H3 := hide h3
    clear h3
    go_enter Tryz.func19, Tryz.ntmps19
    go_wp2_with fail
    refine (HF.out _ HM0.out.bel).mono ?_
    rintro e w1 ⟨rfl, g1⟩
    have HM1 := hide (HM0.out.below g1)
    have c1 := ((HM1.out.get 0 rfl).cell 0 rfl)
    clear g1
    go_wp2_with fail
    refine (HTH.out _ H3.out _ HM1.out.bel).mono ?_
    rintro e w2 ⟨rfl, g2⟩
    have HB := hide (HM1.out.below g2).bel
    clear g2 c1
    go_wp2
    go_ret
    exact ⟨ret_bool HV.out.symm, HB.out⟩
  have h2 : fault zl = 0 := by
    unfold thingB at h3
    simp only [Bool.and_eq_true, beq_iff_eq] at h3
    exact h3.1.1
  have HT0 : Hid (thing0 zl = true) := by show _ = _; rw [← thingBQ h2]; exact h3
  have H2 := hide h2
  have H3 := hide h3
  clear h2 h3
  obtain ⟨_, _, _, _, hcd, hd0, hd4⟩ := sysF_tab H1.out
  have hxn := HR.out.xs.1
  have hdn : D.ds.length = A.dn := HR.out.rt.2.2.2.2.2.1
  have fd := field1
  go_enter Tryz.func19, Tryz.ntmps19
  go_wp2_with fail
  refine (HF.out _ HM0.out.bel).mono ?_
  rintro e w1 ⟨rfl, g1⟩
  have HM1 := hide (HM0.out.below g1)
  have c1 := ((HM1.out.get 0 rfl).cell 0 rfl)
  clear g1
  go_wp2_with fail
  refine (HTH.out _ H3.out _ HM1.out.bel).mono ?_
  rintro e w2 ⟨rfl, g2⟩
  have HM2 := hide (HM1.out.below g2)
  have p4 := (HM2.out.get 1 rfl).cell 4 rfl
  clear g2 c1 e1
  go_wp2
  clear p4
  go_loopw [17] (fun i wr => ∃ k : Nat, k ≤ A.xn ∧ i = .int .i64 (k : Int) ∧ Mm w wr [] [(w.heap.size + 1, w.heap.size + 1 + 1, Cs (w.heap.size + 1) [.slice la ll lc]), (w.heap.size, w.heap.size + 1, Cs w.heap.size [.slice A.a A.n A.c, .slice A.ta A.tn A.tc, .slice A.da A.dn A.dc, .slice A.wa A.wn A.wc, .slice A.xa A.xn A.xc, .int .i64 D.ac, .int .i64 D.cz, .slice A.la A.ln A.lc, .int .i64 D.dv, .slice A.oa A.on A.oc, .slice A.ga A.gn A.gc])] ∧ ∀ j, j < k → has (dmQ D j) 0 = false) (fun i _ => A.xn - (intOf i).toNat)
  case atStart => exact ⟨0, Nat.zero_le _, rfl, HM2.out, fun j hj => by omega⟩
  case round =>
    clear HM2
    obtain ⟨k, hk, rfl, M, hall⟩ := hrel
    have Hall := hide hall
    have HM := hide M
    have p0 := (M.get 1 rfl).cell 0 rfl
    have p1 := (M.get 1 rfl).cell 1 rfl
    have p2 := (M.get 1 rfl).cell 2 rfl
    clear hall M
    by_cases hlt : k < A.xn
    · have hkd : k < A.dn := by omega
      have i1 : (k : Int) < (A.xn : Int) := by omega
      obtain ⟨f0, f1, f2⟩ := dmQ_ok H1.out (by omega : k < D.ds.length)
      have HD : Hid (Calls Tryz.prog 58 #[.agg #[.slice A.a A.n A.c, .slice A.ta A.tn A.tc, .slice A.da A.dn A.dc], .int .i64 (k : Int)] wr fun e w' => ∃ ra rn rc, e = .returned (.agg #[.int .i64 0, .slice ra rn rc]) ∧ OS (InR wr.heap.size w'.heap.size) ra rn (dmQ D k) w' ∧ Below wr.heap.size wr w') := by
        have h := implDomainLabel_calls A.a A.n A.c D.ss A.ta A.tn A.tc D.ts A.da A.dn A.dc D.ds (k : Int) wr (HR.out.below HM.out.bel (Nat.le_refl _)).rt
        rw [f1, f2] at h
        exact h
      have HO : Hid (ownsB (dmQ D k) = has (dmQ D k) 0) := by show _ = _; unfold ownsB; rw [f0]; rfl
      clear f0 f1 f2
      go_wp2_with fail
      refine HD.out.mono ?_
      rintro e w4 ⟨ra, rn, rc, rfl, os, g4⟩
      have HM4 := hide (HM.out.below g4)
      have HS4 := hide os.sl
      have hrn := os.2.1
      clear g4 os p0 p1 p2
      go_wp2_with fail
      refine (implOwnsAny_calls ra rn rc (dmQ D k) _ (by unfold maxLen; omega) HS4.out).mono ?_
      rintro e w5 ⟨rfl, g5⟩
      rw [HO.out]
      have HM5 := hide (HM4.out.below g5)
      clear g5
      by_cases hh : has (dmQ D k) 0 = true
      · have HV := hide (iqB_owns (z := zl) (by omega : k < D.ds.length) hh)
        rw [hh]
        clear hh
        go_wp2
        go_ret
        exact ⟨ret_bool HV.out.symm, HM5.out.bel⟩
      · have HH : Hid (has (dmQ D k) 0 = false) := by show _ = _; simpa using hh
        rw [HH.out]
        clear hh
        go_wp2
        go_roundw
        case rel => exact ⟨k + 1, by omega, by go_num, HM5.out, fun j hj => by
          by_cases e : j = k
          · rw [e]; exact HH.out
          · exact Hall.out j (by omega)⟩
        case measure => simp [intOf]; omega
    · have HV := hide (iqB_yes H1.out H2.out HT0.out (fun j hj => Hall.out j (by omega)))
      go_wp2
      go_ret
      exact ⟨ret_bool HV.out.symm, HM.out.bel⟩

end Go.Proofs.YtnlkigjgloeonaaGreat
