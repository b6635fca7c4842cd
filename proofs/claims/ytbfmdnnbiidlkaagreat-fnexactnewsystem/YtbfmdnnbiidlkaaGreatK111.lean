import Derived.Test.YtbfmdnnbiidlkaaGreatK27
import Derived.Test.YtbfmdnnbiidlkaaGreatK25
import Derived.Test.YtbfmdnnbiidlkaaGreatK16
import Derived.Test.YtbfmdnnbiidlkaaGreatK110
import Derived.Test.YtbfmdnnbiidlkaaGreatK1
import Derived.Test.YtbfmdnnbiidlkaaGreatK8
import Derived.WalkKit
import Derived.ProofKit
import Derived.OpenShut
import Derived.ShutString
import Derived.ChangeOld
import Derived.Below
import Derived.WalkSpells
import Derived.Deep.QuietTactic
import Derived.BigQuiet
import Derived.Deep.RegionWith
import Derived.Deep.WholeRow
import Derived.Deep.DeepCutAuto
import Derived.Deep.RegionHeld2
import Derived.Deep.AppendLies
import Derived.Deep.RegionLaw
namespace Go.Proofs.YtbfmdnnbiidlkaaGreat
open Go.ChangeShapes Go.WideShapes Go.ChangeAt Go.RowKit

def csN (n : Nat) : List (List Int × Int × Bool) := List.replicate n (List.replicate 8 0, 0, false)

def nsD (ss : List (Int × List Int)) (ts ds : List Int) (ws : List (Int × Int)) (dv cz : Int) (gs : List (Int × Int)) : SD := ⟨ss, ts, ds, ws, csN ds.length, 0, cz, [], dv, [], gs⟩
def nsC (ss : List (Int × List Int)) (ts ds : List Int) (ws : List (Int × Int)) (dv cz : Int) (gs : List (Int × Int)) : Int := if tabF ss ts ds = 0 then (if up cz 6 = true then sysF (nsD ss ts ds ws dv cz gs) else 3) else tabF ss ts ds
def nsR (ss : List (Int × List Int)) (ts ds : List Int) (ws : List (Int × Int)) (dv cz : Int) (gs : List (Int × Int)) : SD := if nsC ss ts ds ws dv cz gs = 0 then nsD ss ts ds ws dv cz gs else zeroD

theorem length_csN (n : Nat) : (csN n).length = n := List.length_replicate ..
theorem gx_csN {n k : Nat} (h : k < n) : gx (csN n) k = (List.replicate 8 0, 0, false) := by
  unfold gx csN
  rw [List.getD_eq_getElem?_getD, List.getElem?_replicate, if_pos h]; rfl
theorem lenX_csN {n : Nat} (h : n ≤ 4) : lenX (csN n) ≤ 32 := by
  have : n = 0 ∨ n = 1 ∨ n = 2 ∨ n = 3 ∨ n = 4 := by omega
  rcases this with rfl | rfl | rfl | rfl | rfl <;> decide

theorem ns_f {ss : List (Int × List Int)} {ts ds : List Int} {ws : List (Int × Int)} {dv cz : Int} {gs : List (Int × Int)} (h : tabF ss ts ds ≠ 0) : nsC ss ts ds ws dv cz gs = tabF ss ts ds ∧ nsR ss ts ds ws dv cz gs = zeroD := by
  have e : nsC ss ts ds ws dv cz gs = tabF ss ts ds := if_neg h
  exact ⟨e, if_neg (by rw [e]; exact h)⟩
theorem ns_z {ss : List (Int × List Int)} {ts ds : List Int} {ws : List (Int × Int)} {dv cz : Int} {gs : List (Int × Int)} (h : tabF ss ts ds = 0) (hz : up cz 6 = false) : nsC ss ts ds ws dv cz gs = 3 ∧ nsR ss ts ds ws dv cz gs = zeroD := by
  have e : nsC ss ts ds ws dv cz gs = 3 := by unfold nsC; rw [if_pos h, if_neg (by simp [hz])]
  exact ⟨e, if_neg (by rw [e]; decide)⟩
theorem ns_c {ss : List (Int × List Int)} {ts ds : List Int} {ws : List (Int × Int)} {dv cz : Int} {gs : List (Int × Int)} (h : tabF ss ts ds = 0) (hz : up cz 6 = true) : nsC ss ts ds ws dv cz gs = sysF (nsD ss ts ds ws dv cz gs) := by unfold nsC; rw [if_pos h, if_pos hz]
theorem ns_b {ss : List (Int × List Int)} {ts ds : List Int} {ws : List (Int × Int)} {dv cz : Int} {gs : List (Int × Int)} (h : tabF ss ts ds = 0) (hz : up cz 6 = true) (hs : sysF (nsD ss ts ds ws dv cz gs) ≠ 0) : nsC ss ts ds ws dv cz gs = sysF (nsD ss ts ds ws dv cz gs) ∧ nsR ss ts ds ws dv cz gs = zeroD :=
  ⟨ns_c h hz, if_neg (by rw [ns_c h hz]; exact hs)⟩
theorem ns_y {ss : List (Int × List Int)} {ts ds : List Int} {ws : List (Int × Int)} {dv cz : Int} {gs : List (Int × Int)} (h : tabF ss ts ds = 0) (hz : up cz 6 = true) (hs : sysF (nsD ss ts ds ws dv cz gs) = 0) : nsC ss ts ds ws dv cz gs = 0 ∧ nsR ss ts ds ws dv cz gs = nsD ss ts ds ws dv cz gs :=
  ⟨(ns_c h hz).trans hs, if_pos ((ns_c h hz).trans hs)⟩

theorem made8 (u : World) : (Instr.makeSlice 25 (.int .i64 8) (.int .i64 8)).run Tryz.prog u = .ok (.slice (some ⟨u.heap.size, 0, none⟩) 8 8) (u.alloc (.cells (madeCells #[.int .i64 0] 8) 2)) := by
  obtain ⟨i0, hi, hz0, hz1, hz2⟩ := info_parts info2
  have h := run_make (P := Tryz.prog) u 25 2 i0 (.int .i64 0) Tryz.underlying25 hi hz0 .i64 .i64 (8 : Int) (8 : Int) (by omega) (Int.le_refl _) (by rw [hz2]; omega) (by omega)
  simpa [hz1, Value.cells] using h

theorem made8_os (u : World) (N : Nat) (hN : u.heap.size = N) (S : Nat → Prop) (hS : S N) : OS S (some ⟨N, 0, none⟩) 8 (List.replicate 8 0) (u.alloc (.cells (madeCells #[.int .i64 0] 8) 2)) := by
  subst hN
  refine OS.ofBlk ⟨by simp, fun i hi => ?_, fun i => by simp⟩ hS rfl (by omega)
  rw [World.cell?_alloc_new, ← Array.getElem?_toList, toList_madeCells_one, List.getElem?_replicate]
  have hi8 : i < 8 := by simpa using hi
  rw [if_pos hi8]
  have : gt (List.replicate 8 0) i = 0 := by unfold gt; rw [List.getD_eq_getElem?_getD, List.getElem?_replicate, if_pos hi8]; rfl
  rw [this]

theorem fieldKR (c a p h : Value) (w : World) : (Instr.field 177 (.agg #[c, a, p, h]) 1).run Tryz.prog w = .ok (.agg #[a, p, h]) w := by kernel_rfl

set_option maxRecDepth 100000 in
theorem newContext0 (x : List Int × Int × Bool) (hx : x = (List.replicate 8 0, 0, false)) (w : World) :
    Calls Tryz.prog 107 #[.int .i64 0] w fun e w' => ∃ a c, e = .returned (.agg #[.int .i64 0, .slice a x.1.length c, .int .i64 x.2.1, .bool x.2.2]) ∧ OS (InR w.heap.size w'.heap.size) a x.1.length x.1 w' ∧ Below w.heap.size w w' := by
  subst hx
  have hmk := made8
  have hup : up 0 65535 = true := by decide
  go_enter Tryz.func107, Tryz.ntmps107
  go_wp2_with fail
  refine (isUpTo_calls 0 65535 _).mono ?_
  rintro e w1 ⟨rfl, rfl⟩
  rw [hup]
  go_wp2
  refine bodyPost_ret (v := .agg #[.int .i64 0, .slice (some ⟨w.heap.size + 1, 0, none⟩) 8 8, .int .i64 0, .bool false]) (by simp [results, Tryz.results107, go_sem]) rfl ⟨some ⟨w.heap.size + 1, 0, none⟩, 8, rfl, ?_, ((Below.refl _ _).alloc (Nat.le_refl _) _).alloc (by simp) _⟩
  exact made8_os _ _ (by simp) _ ⟨by omega, by simp⟩

set_option maxRecDepth 100000 in
set_option maxHeartbeats 8000000 in
theorem newContexts_calls (n : Nat) (w : World) (hn : n ≤ 4) :
    Calls Tryz.prog 53 #[.int .i64 (n : Int)] w fun e w' => ∃ a c, e = .returned (.slice a n c) ∧ OX (InR w.heap.size w'.heap.size) a n (csN n) w' ∧ Below w.heap.size w w' := by
  obtain ⟨ix, hix, hzx0, hzx1, hzx2⟩ := info_parts infoContext
  have hmk : (Instr.makeSlice 41 (.int .i64 0) (.int .i64 (n : Int))).run Tryz.prog w = .ok (.slice (some ⟨w.heap.size, 0, none⟩) 0 n) (w.alloc (.cells (madeCells #[.slice none 0 0, .int .i64 0, .bool false] (n * 3)) 101)) := by
    have h := run_make (P := Tryz.prog) w 41 101 ix (.agg #[.slice none 0 0, .int .i64 0, .bool false]) Tryz.underlying41 hix hzx0 .i64 .i64 0 (n : Int) (by omega) (by omega) (by rw [hzx2]; omega) (by omega)
    simpa [hzx1, Value.cells] using h
  have hown0 := World.ownsRow_made (base := w.heap.size) (e := 101) (size := 3) w (madeCells #[.slice none 0 0, .int .i64 0, .bool false] (n * 3)) n (by simp) (by unfold maxLen; omega) (by rw [size_madeCells])
  have HO0 := hide hown0
  have HM0 := hide ((Mm.start w).below ((Below.refl _ _).alloc (Nat.le_refl _) (.cells (madeCells #[.slice none 0 0, .int .i64 0, .bool false] (n * 3)) 101)))
  clear hown0
  go_enter Tryz.func53, Tryz.ntmps53
  go_wp2
  go_loopw [7, 3] (fun i v wr => ∃ k : Nat, k ≤ n ∧ i = .int .i64 k ∧ X7r w w.heap.size [] (csN n) k v wr) (fun i _ _ => n - (intOf i).toNat)
  case atStart => exact ⟨0, Nat.zero_le _, rfl, _, _, _, _, CX.start (csN n) HO0.out, HM0.out, by simp⟩
  case round =>
    clear HO0 HM0 hmk
    obtain ⟨k, hkn, rfl, la, lc, lb, xs, hcp, M, hB⟩ := hrel
    have HX := hide hcp
    have HM := hide M
    clear hcp M
    by_cases hlt : k < n
    · have hgx := gx_csN hlt
      go_wp2_with fail
      refine (newContext0 (gx (csN n) k) hgx _).mono ?_
      rintro e wc ⟨rb, rd, rfl, os, gw⟩
      have HO := hide os
      have HC := hide gw
      have HW2 := hide (owns_out HX.out.own gw)
      have hS1 : wr.heap.size ≤ wc.heap.size := gw.size
      have HN := hide (three_new (W := wc.alloc (.cells #[.slice rb (gx (csN n) k).1.length rd, .int .i64 (gx (csN n) k).2.1, .bool (gx (csN n) k).2.2] 101)) (B := wc.heap.size) (u := .slice rb (gx (csN n) k).1.length rd) (v := .int .i64 (gx (csN n) k).2.1) (x := .bool (gx (csN n) k).2.2) (by simp) (by simp) (by simp))
      have hfk := fieldKR
      clear os gw hgx
      go_wp2_with (first
        | (at_builtin; refine wpList_append_lies _ rfl _ _ 41 rfl w.heap.size 101 ix (.agg #[.slice none 0 0, .int .i64 0, .bool false]) 3 40 Tryz.underlying41 hix hzx0 hzx1 hzx2 rfl (by decide) u3 k xs rfl (HW2.out.alloc _) ⟨wc.heap.size, 0, none⟩ 1 1 [.slice rb (gx (csN n) k).1.length rd, .int .i64 (gx (csN n) k).2.1, .bool (gx (csN n) k).2.2] rfl rfl HN.out (by simp [Value.oneCell']) (by omega) (by unfold maxLen; omega) (by omega) (by simp; omega) (wc.heap.size + 1) (by simp) ?_)
        | go_in)
      intro g cp w3 hown1 hgrow hat _
      obtain ⟨la', lc', lb', hst⟩ := HX.out.step (HC.out.trans (((Below.refl _ _).alloc (Nat.le_refl _) _).mono HC.out.size)) rfl hB ((OS.loc.alloc HO.out _).mono (fun q hq => ⟨hq.1, Nat.lt_of_lt_of_le hq.2 (by simp)⟩)) hgrow (by rw [World.size_alloc]; exact hat) hown1
      have MG := HM.out.grown (HC.out.trans (((Below.refl _ _).alloc (Nat.le_refl _) _).mono HC.out.size)) hgrow (B := w.heap.size) (by omega) hB (fun q e => (HX.out.own.lt q e).1) (by simp) (by simp)
      have HMG := hide MG
      have HST2 := hide hst
      have hz3 := hgrow.size
      clear hown1 hgrow hat MG hst HX HM HO HC HW2 HN hfk
      go_wp2
      go_roundw
      case rel => exact ⟨k + 1, by omega, by go_num, _, _, _, _, HST2.out, HMG.out, by simp at hz3; omega⟩
      case measure => simp [intOf]; omega
    · have ek : n = k := by omega
      subst ek
      have hlx := lenX_csN hn
      obtain ⟨ya2, yc2, rfl, ox⟩ := HX.out.ox (length_csN n) (by omega)
      have HB := hide HM.out.bel
      have HOX := hide ox
      clear HX HM hlt ox
      go_wp2
      go_ret
      exact ⟨_, _, rfl, HOX.out, HB.out⟩

theorem Cs.set11 {P : Nat} {u0 u1 u2 u3 u4 u5 u6 u7 u8 u9 u10 : Value} {w : World} (h : Cs P [u0, u1, u2, u3, u4, u5, u6, u7, u8, u9, u10] w) (v0 v1 v2 v3 v4 v5 v6 v7 v8 v9 v10 : Value) : Cs P [v0, v1, v2, v3, v4, v5, v6, v7, v8, v9, v10] (((((((((((w.setCell ⟨P, 0, none⟩ (v0)).setCell ⟨P, 1, none⟩ (v1)).setCell ⟨P, 2, none⟩ (v2)).setCell ⟨P, 3, none⟩ (v3)).setCell ⟨P, 4, none⟩ (v4)).setCell ⟨P, 5, none⟩ (v5)).setCell ⟨P, 6, none⟩ (v6)).setCell ⟨P, 7, none⟩ (v7)).setCell ⟨P, 8, none⟩ (v8)).setCell ⟨P, 9, none⟩ (v9)).setCell ⟨P, 10, none⟩ (v10)) := by
  have h0 := h.set 0 (by simp) v0
  simp only [List.set] at h0
  have h1 := h0.set 1 (by simp) v1
  simp only [List.set] at h1
  have h2 := h1.set 2 (by simp) v2
  simp only [List.set] at h2
  have h3 := h2.set 3 (by simp) v3
  simp only [List.set] at h3
  have h4 := h3.set 4 (by simp) v4
  simp only [List.set] at h4
  have h5 := h4.set 5 (by simp) v5
  simp only [List.set] at h5
  have h6 := h5.set 6 (by simp) v6
  simp only [List.set] at h6
  have h7 := h6.set 7 (by simp) v7
  simp only [List.set] at h7
  have h8 := h7.set 8 (by simp) v8
  simp only [List.set] at h8
  have h9 := h8.set 9 (by simp) v9
  simp only [List.set] at h9
  have h10 := h9.set 10 (by simp) v10
  simp only [List.set] at h10
  exact h10

set_option maxRecDepth 100000 in
set_option maxHeartbeats 8000000 in
theorem implNewSystem_calls (a : Option Addr) (n ca : Nat) (ss : List (Int × List Int)) (ta : Option Addr) (tn tc : Nat) (ts : List Int) (da : Option Addr) (dn dc : Nat) (ds : List Int) (wa : Option Addr) (wn vc : Nat) (ws : List (Int × Int)) (dv cz : Int) (ga : Option Addr) (gn kc : Nat) (gs : List (Int × Int)) (w : World) (hrt : RT w a n ss ta tn ts da dn ds) (hwn : wn ≤ 1048576) (hws : Swd w wa wn ws) (hgn : gn ≤ 1048576) (hgs : Swd w ga gn gs) :
    Calls Tryz.prog 14 #[.agg #[.slice a n ca, .slice ta tn tc, .slice da dn dc], .slice wa wn vc, .int .i64 dv, .int .i64 cz, .slice ga gn kc] w fun e w' => ∃ B : SA, e = .returned (.agg #[.int .i64 (nsC ss ts ds ws dv cz gs), .slice B.a B.n B.c, .slice B.ta B.tn B.tc, .slice B.da B.dn B.dc, .slice B.wa B.wn B.wc, .slice B.xa B.xn B.xc, .int .i64 (nsR ss ts ds ws dv cz gs).ac, .int .i64 (nsR ss ts ds ws dv cz gs).cz, .slice B.la B.ln B.lc, .int .i64 (nsR ss ts ds ws dv cz gs).dv, .slice B.oa B.on B.oc, .slice B.ga B.gn B.gc]) ∧ OY (InR w.heap.size w'.heap.size) B (nsR ss ts ds ws dv cz gs) w' ∧ Below w.heap.size w w' := by
  have M0 := ((Mm.start w).alloc3 (.slice a n ca) (.slice ta tn tc) (.slice da dn dc) 37).allocC [.int .i64 0, .slice none 0 0, .slice none 0 0, .slice none 0 0, .slice none 0 0, .slice none 0 0, .int .i64 0, .int .i64 0, .slice none 0 0, .int .i64 0, .slice none 0 0, .slice none 0 0] 49
  simp only [World.size_alloc] at M0
  have hdl : ds.length = dn := hrt.2.2.2.2.2.1
  go_enter Tryz.func14, Tryz.ntmps14
  go_wp2_with fail
  refine (implTablesFault_calls a n ca ss ta tn tc ts da dn dc ds _ (hrt.below M0.bel (Nat.le_refl _))).mono ?_
  rintro e w1 ⟨rfl, g1⟩
  have z1 : w.heap.size + 2 ≤ w1.heap.size := by have := g1.size; simpa using this
  have M1 := M0.below g1
  clear g1 M0
  by_cases hf : tabF ss ts ds = 0
  rotate_left
  · have HC := hide (ns_f (ws := ws) (dv := dv) (cz := cz) (gs := gs) hf)
    have hne : (tabF ss ts ds != 0) = true := by simpa using hf
    clear hf
    have c0_ := (M1.get 0 rfl).cell 0 rfl
    have f0_ := (M1.get 0 rfl).fz 0 (by simp)
    have c1_ := (M1.get 0 rfl).cell 1 rfl
    have f1_ := (M1.get 0 rfl).fz 1 (by simp)
    have c2_ := (M1.get 0 rfl).cell 2 rfl
    have f2_ := (M1.get 0 rfl).fz 2 (by simp)
    have c3_ := (M1.get 0 rfl).cell 3 rfl
    have f3_ := (M1.get 0 rfl).fz 3 (by simp)
    have c4_ := (M1.get 0 rfl).cell 4 rfl
    have f4_ := (M1.get 0 rfl).fz 4 (by simp)
    have c5_ := (M1.get 0 rfl).cell 5 rfl
    have f5_ := (M1.get 0 rfl).fz 5 (by simp)
    have c6_ := (M1.get 0 rfl).cell 6 rfl
    have f6_ := (M1.get 0 rfl).fz 6 (by simp)
    have c7_ := (M1.get 0 rfl).cell 7 rfl
    have f7_ := (M1.get 0 rfl).fz 7 (by simp)
    have c8_ := (M1.get 0 rfl).cell 8 rfl
    have f8_ := (M1.get 0 rfl).fz 8 (by simp)
    have c9_ := (M1.get 0 rfl).cell 9 rfl
    have f9_ := (M1.get 0 rfl).fz 9 (by simp)
    have c10_ := (M1.get 0 rfl).cell 10 rfl
    have f10_ := (M1.get 0 rfl).fz 10 (by simp)
    have c11_ := (M1.get 0 rfl).cell 11 rfl
    have f11_ := (M1.get 0 rfl).fz 11 (by simp)
    have HB := hide (below_set12 M1.bel (P := w.heap.size + 1) (by omega) (.int .i64 (tabF ss ts ds)) (.slice none 0 0) (.slice none 0 0) (.slice none 0 0) (.slice none 0 0) (.slice none 0 0) (.int .i64 0) (.int .i64 0) (.slice none 0 0) (.int .i64 0) (.slice none 0 0) (.slice none 0 0))
    clear M1
    go_wp2
    have r0 := set12_at0 _ _ (.int .i64 (tabF ss ts ds)) (.slice none 0 0) (.slice none 0 0) (.slice none 0 0) (.slice none 0 0) (.slice none 0 0) (.int .i64 0) (.int .i64 0) (.slice none 0 0) (.int .i64 0) (.slice none 0 0) (.slice none 0 0) ⟨_, c0_⟩
    have r1 := set12_at1 _ _ (.int .i64 (tabF ss ts ds)) (.slice none 0 0) (.slice none 0 0) (.slice none 0 0) (.slice none 0 0) (.slice none 0 0) (.int .i64 0) (.int .i64 0) (.slice none 0 0) (.int .i64 0) (.slice none 0 0) (.slice none 0 0) ⟨_, c1_⟩
    have r2 := set12_at2 _ _ (.int .i64 (tabF ss ts ds)) (.slice none 0 0) (.slice none 0 0) (.slice none 0 0) (.slice none 0 0) (.slice none 0 0) (.int .i64 0) (.int .i64 0) (.slice none 0 0) (.int .i64 0) (.slice none 0 0) (.slice none 0 0) ⟨_, c2_⟩
    have r3 := set12_at3 _ _ (.int .i64 (tabF ss ts ds)) (.slice none 0 0) (.slice none 0 0) (.slice none 0 0) (.slice none 0 0) (.slice none 0 0) (.int .i64 0) (.int .i64 0) (.slice none 0 0) (.int .i64 0) (.slice none 0 0) (.slice none 0 0) ⟨_, c3_⟩
    have r4 := set12_at4 _ _ (.int .i64 (tabF ss ts ds)) (.slice none 0 0) (.slice none 0 0) (.slice none 0 0) (.slice none 0 0) (.slice none 0 0) (.int .i64 0) (.int .i64 0) (.slice none 0 0) (.int .i64 0) (.slice none 0 0) (.slice none 0 0) ⟨_, c4_⟩
    have r5 := set12_at5 _ _ (.int .i64 (tabF ss ts ds)) (.slice none 0 0) (.slice none 0 0) (.slice none 0 0) (.slice none 0 0) (.slice none 0 0) (.int .i64 0) (.int .i64 0) (.slice none 0 0) (.int .i64 0) (.slice none 0 0) (.slice none 0 0) ⟨_, c5_⟩
    have r6 := set12_at6 _ _ (.int .i64 (tabF ss ts ds)) (.slice none 0 0) (.slice none 0 0) (.slice none 0 0) (.slice none 0 0) (.slice none 0 0) (.int .i64 0) (.int .i64 0) (.slice none 0 0) (.int .i64 0) (.slice none 0 0) (.slice none 0 0) ⟨_, c6_⟩
    have r7 := set12_at7 _ _ (.int .i64 (tabF ss ts ds)) (.slice none 0 0) (.slice none 0 0) (.slice none 0 0) (.slice none 0 0) (.slice none 0 0) (.int .i64 0) (.int .i64 0) (.slice none 0 0) (.int .i64 0) (.slice none 0 0) (.slice none 0 0) ⟨_, c7_⟩
    have r8 := set12_at8 _ _ (.int .i64 (tabF ss ts ds)) (.slice none 0 0) (.slice none 0 0) (.slice none 0 0) (.slice none 0 0) (.slice none 0 0) (.int .i64 0) (.int .i64 0) (.slice none 0 0) (.int .i64 0) (.slice none 0 0) (.slice none 0 0) ⟨_, c8_⟩
    have r9 := set12_at9 _ _ (.int .i64 (tabF ss ts ds)) (.slice none 0 0) (.slice none 0 0) (.slice none 0 0) (.slice none 0 0) (.slice none 0 0) (.int .i64 0) (.int .i64 0) (.slice none 0 0) (.int .i64 0) (.slice none 0 0) (.slice none 0 0) ⟨_, c9_⟩
    have r10 := set12_at10 _ _ (.int .i64 (tabF ss ts ds)) (.slice none 0 0) (.slice none 0 0) (.slice none 0 0) (.slice none 0 0) (.slice none 0 0) (.int .i64 0) (.int .i64 0) (.slice none 0 0) (.int .i64 0) (.slice none 0 0) (.slice none 0 0) ⟨_, c10_⟩
    have r11 := set12_at11 _ _ (.int .i64 (tabF ss ts ds)) (.slice none 0 0) (.slice none 0 0) (.slice none 0 0) (.slice none 0 0) (.slice none 0 0) (.int .i64 0) (.int .i64 0) (.slice none 0 0) (.int .i64 0) (.slice none 0 0) (.slice none 0 0) ⟨_, c11_⟩
    refine bodyPost_ret (v := .agg #[.int .i64 (tabF ss ts ds), .slice none 0 0, .slice none 0 0, .slice none 0 0, .slice none 0 0, .slice none 0 0, .int .i64 0, .int .i64 0, .slice none 0 0, .int .i64 0, .slice none 0 0, .slice none 0 0]) (by simp [results, Tryz.results14, go_sem, r0, r1, r2, r3, r4, r5, r6, r7, r8, r9, r10, r11]) rfl ⟨zeroA, ?_, ?_, HB.out⟩
    · rw [HC.out.1, HC.out.2]; rfl
    · rw [HC.out.2]; exact OY.zero _ _
  have hne : (tabF ss ts ds != 0) = false := by simp [hf]
  have hd4 := (many_len (tabF_zero hf).2.1).2
  rw [hdl] at hd4
  have Hf := hide hf
  clear hf
  go_wp2_with fail
  refine (isUpTo_calls cz 6 _).mono ?_
  rintro e w' ⟨rfl, hw'⟩
  rw [hw']
  clear hw' w'
  cases hz : up cz 6 with
  | false =>
    have HC := hide (ns_z (ws := ws) (dv := dv) (gs := gs) Hf.out hz)
    clear hz
    have c0_ := (M1.get 0 rfl).cell 0 rfl
    have f0_ := (M1.get 0 rfl).fz 0 (by simp)
    have c1_ := (M1.get 0 rfl).cell 1 rfl
    have f1_ := (M1.get 0 rfl).fz 1 (by simp)
    have c2_ := (M1.get 0 rfl).cell 2 rfl
    have f2_ := (M1.get 0 rfl).fz 2 (by simp)
    have c3_ := (M1.get 0 rfl).cell 3 rfl
    have f3_ := (M1.get 0 rfl).fz 3 (by simp)
    have c4_ := (M1.get 0 rfl).cell 4 rfl
    have f4_ := (M1.get 0 rfl).fz 4 (by simp)
    have c5_ := (M1.get 0 rfl).cell 5 rfl
    have f5_ := (M1.get 0 rfl).fz 5 (by simp)
    have c6_ := (M1.get 0 rfl).cell 6 rfl
    have f6_ := (M1.get 0 rfl).fz 6 (by simp)
    have c7_ := (M1.get 0 rfl).cell 7 rfl
    have f7_ := (M1.get 0 rfl).fz 7 (by simp)
    have c8_ := (M1.get 0 rfl).cell 8 rfl
    have f8_ := (M1.get 0 rfl).fz 8 (by simp)
    have c9_ := (M1.get 0 rfl).cell 9 rfl
    have f9_ := (M1.get 0 rfl).fz 9 (by simp)
    have c10_ := (M1.get 0 rfl).cell 10 rfl
    have f10_ := (M1.get 0 rfl).fz 10 (by simp)
    have c11_ := (M1.get 0 rfl).cell 11 rfl
    have f11_ := (M1.get 0 rfl).fz 11 (by simp)
    have HB := hide (below_set12 M1.bel (P := w.heap.size + 1) (by omega) (.int .i64 3) (.slice none 0 0) (.slice none 0 0) (.slice none 0 0) (.slice none 0 0) (.slice none 0 0) (.int .i64 0) (.int .i64 0) (.slice none 0 0) (.int .i64 0) (.slice none 0 0) (.slice none 0 0))
    clear M1
    go_wp2
    have r0 := set12_at0 _ _ (.int .i64 3) (.slice none 0 0) (.slice none 0 0) (.slice none 0 0) (.slice none 0 0) (.slice none 0 0) (.int .i64 0) (.int .i64 0) (.slice none 0 0) (.int .i64 0) (.slice none 0 0) (.slice none 0 0) ⟨_, c0_⟩
    have r1 := set12_at1 _ _ (.int .i64 3) (.slice none 0 0) (.slice none 0 0) (.slice none 0 0) (.slice none 0 0) (.slice none 0 0) (.int .i64 0) (.int .i64 0) (.slice none 0 0) (.int .i64 0) (.slice none 0 0) (.slice none 0 0) ⟨_, c1_⟩
    have r2 := set12_at2 _ _ (.int .i64 3) (.slice none 0 0) (.slice none 0 0) (.slice none 0 0) (.slice none 0 0) (.slice none 0 0) (.int .i64 0) (.int .i64 0) (.slice none 0 0) (.int .i64 0) (.slice none 0 0) (.slice none 0 0) ⟨_, c2_⟩
    have r3 := set12_at3 _ _ (.int .i64 3) (.slice none 0 0) (.slice none 0 0) (.slice none 0 0) (.slice none 0 0) (.slice none 0 0) (.int .i64 0) (.int .i64 0) (.slice none 0 0) (.int .i64 0) (.slice none 0 0) (.slice none 0 0) ⟨_, c3_⟩
    have r4 := set12_at4 _ _ (.int .i64 3) (.slice none 0 0) (.slice none 0 0) (.slice none 0 0) (.slice none 0 0) (.slice none 0 0) (.int .i64 0) (.int .i64 0) (.slice none 0 0) (.int .i64 0) (.slice none 0 0) (.slice none 0 0) ⟨_, c4_⟩
    have r5 := set12_at5 _ _ (.int .i64 3) (.slice none 0 0) (.slice none 0 0) (.slice none 0 0) (.slice none 0 0) (.slice none 0 0) (.int .i64 0) (.int .i64 0) (.slice none 0 0) (.int .i64 0) (.slice none 0 0) (.slice none 0 0) ⟨_, c5_⟩
    have r6 := set12_at6 _ _ (.int .i64 3) (.slice none 0 0) (.slice none 0 0) (.slice none 0 0) (.slice none 0 0) (.slice none 0 0) (.int .i64 0) (.int .i64 0) (.slice none 0 0) (.int .i64 0) (.slice none 0 0) (.slice none 0 0) ⟨_, c6_⟩
    have r7 := set12_at7 _ _ (.int .i64 3) (.slice none 0 0) (.slice none 0 0) (.slice none 0 0) (.slice none 0 0) (.slice none 0 0) (.int .i64 0) (.int .i64 0) (.slice none 0 0) (.int .i64 0) (.slice none 0 0) (.slice none 0 0) ⟨_, c7_⟩
    have r8 := set12_at8 _ _ (.int .i64 3) (.slice none 0 0) (.slice none 0 0) (.slice none 0 0) (.slice none 0 0) (.slice none 0 0) (.int .i64 0) (.int .i64 0) (.slice none 0 0) (.int .i64 0) (.slice none 0 0) (.slice none 0 0) ⟨_, c8_⟩
    have r9 := set12_at9 _ _ (.int .i64 3) (.slice none 0 0) (.slice none 0 0) (.slice none 0 0) (.slice none 0 0) (.slice none 0 0) (.int .i64 0) (.int .i64 0) (.slice none 0 0) (.int .i64 0) (.slice none 0 0) (.slice none 0 0) ⟨_, c9_⟩
    have r10 := set12_at10 _ _ (.int .i64 3) (.slice none 0 0) (.slice none 0 0) (.slice none 0 0) (.slice none 0 0) (.slice none 0 0) (.int .i64 0) (.int .i64 0) (.slice none 0 0) (.int .i64 0) (.slice none 0 0) (.slice none 0 0) ⟨_, c10_⟩
    have r11 := set12_at11 _ _ (.int .i64 3) (.slice none 0 0) (.slice none 0 0) (.slice none 0 0) (.slice none 0 0) (.slice none 0 0) (.int .i64 0) (.int .i64 0) (.slice none 0 0) (.int .i64 0) (.slice none 0 0) (.slice none 0 0) ⟨_, c11_⟩
    refine bodyPost_ret (v := .agg #[.int .i64 3, .slice none 0 0, .slice none 0 0, .slice none 0 0, .slice none 0 0, .slice none 0 0, .int .i64 0, .int .i64 0, .slice none 0 0, .int .i64 0, .slice none 0 0, .slice none 0 0]) (by simp [results, Tryz.results14, go_sem, r0, r1, r2, r3, r4, r5, r6, r7, r8, r9, r10, r11]) rfl ⟨zeroA, ?_, ?_, HB.out⟩
    · rw [HC.out.1, HC.out.2]; rfl
    · rw [HC.out.2]; exact OY.zero _ _
  | true =>
  have Hz := hide hz
  clear hz
  have q0 := M1.cell 0 rfl
  have q1 := M1.cell 1 rfl
  have q2 := M1.cell 2 rfl
  have lt0 := M1.lt 0 rfl
  have lt1 := M1.lt 1 rfl
  have lt2 := M1.lt 2 rfl
  go_upto_region 6 with fail
  go_cut [12] (fun v wd => ∃ P xa xc, v = .pointer (some ⟨P, 0, none⟩) ∧ w1.heap.size ≤ P ∧ Cs P [.slice a n ca, .slice ta tn tc, .slice da dn dc, .slice wa wn vc, .slice xa dn xc, .int .i64 0, .int .i64 cz, .slice none 0 0, .int .i64 dv, .slice none 0 0, .slice ga gn kc] wd ∧ Scx wd xa dn (csN dn) ∧ Below w1.heap.size w1 wd)
  case first =>
    have HS0 : Hid (w1.drew.cell? ⟨w.heap.size, 0, none⟩ = some (.slice a n ca) ∧ w1.drew.cell? ⟨w.heap.size, 1, none⟩ = some (.slice ta tn tc) ∧ w1.drew.cell? ⟨w.heap.size, 2, none⟩ = some (.slice da dn dc) ∧ Below w1.heap.size w1 w1.drew) := ⟨q0, q1, q2, (Below.refl _ _).drew⟩
    clear M1 q0 q1 q2
    go_region_held2 (fun w' => w'.cell? ⟨w.heap.size, 0, none⟩ = some (.slice a n ca) ∧ w'.cell? ⟨w.heap.size, 1, none⟩ = some (.slice ta tn tc) ∧ w'.cell? ⟨w.heap.size, 2, none⟩ = some (.slice da dn dc) ∧ Below w1.heap.size w1 w')
      (first | with_reducible exact HS0.out | (repeat (first | with_reducible assumption | with_reducible refine q3_allocd lt0 lt1 lt2 ?_ _ | with_reducible refine q3_alloc lt0 lt1 lt2 ?_ _ | with_reducible refine q3_set lt0 lt1 lt2 ?_ ?_ _ | (show (_ : Nat) ≤ _; exact Nat.le_refl _) | (show (_ : Nat) ≤ _; dsimp only; omega))))
      (first | (go_at_call 53; refine (newContexts_calls dn _ (by omega)).mono ?_; rintro e ws' ⟨xa, xc, rfl, os, gs'⟩; have hss := q3_below lt0 lt1 lt2 (by with_reducible assumption) gs'; have hzs := gs'.size; have hws' := (q3_bel hss).size; (try simp only [World.size_alloc, World.size_drew] at hzs os); obtain ⟨bcs, bfs⟩ := bcellQ gs'; (try simp only [World.size_alloc, World.size_drew] at bcs bfs); (try have hcz : Cs w1.heap.size [.slice none 0 0, .slice none 0 0, .slice none 0 0, .slice none 0 0, .slice none 0 0, .int .i64 0, .int .i64 0, .slice none 0 0, .int .i64 0, .slice none 0 0, .slice none 0 0] ws' := Cs.loc.below gs' (Cs.loc.below (Below.refl _ _).drew (Cs.alloc w1 [.slice none 0 0, .slice none 0 0, .slice none 0 0, .slice none 0 0, .slice none 0 0, .int .i64 0, .int .i64 0, .slice none 0 0, .int .i64 0, .slice none 0 0, .slice none 0 0] 47))); clear gs'))
    all_goals go_wp2_with fail
    all_goals go_meet
    all_goals (
      refine ⟨_, xa, xc, rfl, ?lowP, ?cs, ?sc, ?b⟩
      case lowP => first | exact Nat.le_refl _ | omega
      case b => exact q3_bel (by with_reducible assumption)
      case cs => first | (with_reducible exact Cs.alloc _ [.slice a n ca, .slice ta tn tc, .slice da dn dc, .slice wa wn vc, .slice xa dn xc, .int .i64 0, .int .i64 cz, .slice none 0 0, .int .i64 dv, .slice none 0 0, .slice ga gn kc] _) | (with_reducible exact hcz.set11 (.slice a n ca) (.slice ta tn tc) (.slice da dn dc) (.slice wa wn vc) (.slice xa dn xc) (.int .i64 0) (.int .i64 cz) (.slice none 0 0) (.int .i64 dv) (.slice none 0 0) (.slice ga gn kc))
      case sc => first | (with_reducible exact (OX.loc.alloc os _).scx) | (exact (loc_set11 OX.loc os (P := w1.heap.size) (fun h => by have := h.1; omega) (.slice a n ca) (.slice ta tn tc) (.slice da dn dc) (.slice wa wn vc) (.slice xa dn xc) (.int .i64 0) (.int .i64 cz) (.slice none 0 0) (.int .i64 dv) (.slice none 0 0) (.slice ga gn kc)).scx))
  case rest =>
  obtain ⟨P, xa, xc, rfl, gP, csP, hsx, g2⟩ := hcut
  obtain ⟨w2, rfl⟩ : ∃ x, x = wc := ⟨wc, rfl⟩
  have z2 := g2.size
  have lP := csP.1
  have cc0 := csP.cell 0 rfl
  have cc1 := csP.cell 1 rfl
  have cc2 := csP.cell 2 rfl
  have cc3 := csP.cell 3 rfl
  have cc4 := csP.cell 4 rfl
  have cc5 := csP.cell 5 rfl
  have cc6 := csP.cell 6 rfl
  have cc7 := csP.cell 7 rfl
  have cc8 := csP.cell 8 rfl
  have cc9 := csP.cell 9 rfl
  have cc10 := csP.cell 10 rfl
  have M2 := (M1.below g2).fact Cs.loc csP
  have hr : RS w2 ⟨a, n, ca, ta, tn, tc, da, dn, dc, wa, wn, vc, xa, dn, xc, none, 0, 0, none, 0, 0, ga, gn, kc⟩ (nsD ss ts ds ws dv cz gs) := ⟨hrt.below M2.bel (Nat.le_refl _), Nat.le_trans hwn (by unfold maxLen; omega), hws.below M2.bel (Nat.le_refl _), (by unfold maxLen; show dn ≤ _; omega), (by show Scx w2 xa dn (csN ds.length); rw [hdl]; exact hsx), Nat.zero_le _, ⟨rfl, fun h => absurd h (by simp)⟩, Nat.zero_le _, ⟨rfl, fun h => absurd h (by simp)⟩, Nat.le_trans hgn (by unfold maxLen; omega), hgs.below M2.bel (Nat.le_refl _)⟩
  have hc : Calls Tryz.prog 54 #[.agg #[.slice a n ca, .slice ta tn tc, .slice da dn dc, .slice wa wn vc, .slice xa dn xc, .int .i64 0, .int .i64 cz, .slice none 0 0, .int .i64 dv, .slice none 0 0, .slice ga gn kc]] w2 (fun e w' => e = .returned (.int .i64 (sysF (nsD ss ts ds ws dv cz gs))) ∧ Below w2.heap.size w2 w') := implSystemFault_calls ⟨a, n, ca, ta, tn, tc, da, dn, dc, wa, wn, vc, xa, dn, xc, none, 0, 0, none, 0, 0, ga, gn, kc⟩ (nsD ss ts ds ws dv cz gs) w2 hr (Nat.le_refl _)
  clear M1 g2 hsx csP q0 q1 q2 lt0 lt1 lt2
  go_wp2_with fail
  refine hc.mono ?_
  rintro e w3 ⟨rfl, g3⟩
  have z3 := g3.size
  have M3 := M2.below g3
  clear hc M2 cc0 cc1 cc2 cc3 cc4 cc5 cc6 cc7 cc8 cc9 cc10
  by_cases hs : sysF (nsD ss ts ds ws dv cz gs) = 0
  rotate_left
  · have HC := hide (ns_b Hf.out Hz.out hs)
    have hns : (sysF (nsD ss ts ds ws dv cz gs) != 0) = true := by simpa using hs
    clear hs
    have c0_ := (M3.get 1 rfl).cell 0 rfl
    have f0_ := (M3.get 1 rfl).fz 0 (by simp)
    have c1_ := (M3.get 1 rfl).cell 1 rfl
    have f1_ := (M3.get 1 rfl).fz 1 (by simp)
    have c2_ := (M3.get 1 rfl).cell 2 rfl
    have f2_ := (M3.get 1 rfl).fz 2 (by simp)
    have c3_ := (M3.get 1 rfl).cell 3 rfl
    have f3_ := (M3.get 1 rfl).fz 3 (by simp)
    have c4_ := (M3.get 1 rfl).cell 4 rfl
    have f4_ := (M3.get 1 rfl).fz 4 (by simp)
    have c5_ := (M3.get 1 rfl).cell 5 rfl
    have f5_ := (M3.get 1 rfl).fz 5 (by simp)
    have c6_ := (M3.get 1 rfl).cell 6 rfl
    have f6_ := (M3.get 1 rfl).fz 6 (by simp)
    have c7_ := (M3.get 1 rfl).cell 7 rfl
    have f7_ := (M3.get 1 rfl).fz 7 (by simp)
    have c8_ := (M3.get 1 rfl).cell 8 rfl
    have f8_ := (M3.get 1 rfl).fz 8 (by simp)
    have c9_ := (M3.get 1 rfl).cell 9 rfl
    have f9_ := (M3.get 1 rfl).fz 9 (by simp)
    have c10_ := (M3.get 1 rfl).cell 10 rfl
    have f10_ := (M3.get 1 rfl).fz 10 (by simp)
    have c11_ := (M3.get 1 rfl).cell 11 rfl
    have f11_ := (M3.get 1 rfl).fz 11 (by simp)
    have HB := hide (below_set12 M3.bel (P := w.heap.size + 1) (by omega) (.int .i64 (sysF (nsD ss ts ds ws dv cz gs))) (.slice none 0 0) (.slice none 0 0) (.slice none 0 0) (.slice none 0 0) (.slice none 0 0) (.int .i64 0) (.int .i64 0) (.slice none 0 0) (.int .i64 0) (.slice none 0 0) (.slice none 0 0))
    clear M3
    go_wp2
    have r0 := set12_at0 _ _ (.int .i64 (sysF (nsD ss ts ds ws dv cz gs))) (.slice none 0 0) (.slice none 0 0) (.slice none 0 0) (.slice none 0 0) (.slice none 0 0) (.int .i64 0) (.int .i64 0) (.slice none 0 0) (.int .i64 0) (.slice none 0 0) (.slice none 0 0) ⟨_, c0_⟩
    have r1 := set12_at1 _ _ (.int .i64 (sysF (nsD ss ts ds ws dv cz gs))) (.slice none 0 0) (.slice none 0 0) (.slice none 0 0) (.slice none 0 0) (.slice none 0 0) (.int .i64 0) (.int .i64 0) (.slice none 0 0) (.int .i64 0) (.slice none 0 0) (.slice none 0 0) ⟨_, c1_⟩
    have r2 := set12_at2 _ _ (.int .i64 (sysF (nsD ss ts ds ws dv cz gs))) (.slice none 0 0) (.slice none 0 0) (.slice none 0 0) (.slice none 0 0) (.slice none 0 0) (.int .i64 0) (.int .i64 0) (.slice none 0 0) (.int .i64 0) (.slice none 0 0) (.slice none 0 0) ⟨_, c2_⟩
    have r3 := set12_at3 _ _ (.int .i64 (sysF (nsD ss ts ds ws dv cz gs))) (.slice none 0 0) (.slice none 0 0) (.slice none 0 0) (.slice none 0 0) (.slice none 0 0) (.int .i64 0) (.int .i64 0) (.slice none 0 0) (.int .i64 0) (.slice none 0 0) (.slice none 0 0) ⟨_, c3_⟩
    have r4 := set12_at4 _ _ (.int .i64 (sysF (nsD ss ts ds ws dv cz gs))) (.slice none 0 0) (.slice none 0 0) (.slice none 0 0) (.slice none 0 0) (.slice none 0 0) (.int .i64 0) (.int .i64 0) (.slice none 0 0) (.int .i64 0) (.slice none 0 0) (.slice none 0 0) ⟨_, c4_⟩
    have r5 := set12_at5 _ _ (.int .i64 (sysF (nsD ss ts ds ws dv cz gs))) (.slice none 0 0) (.slice none 0 0) (.slice none 0 0) (.slice none 0 0) (.slice none 0 0) (.int .i64 0) (.int .i64 0) (.slice none 0 0) (.int .i64 0) (.slice none 0 0) (.slice none 0 0) ⟨_, c5_⟩
    have r6 := set12_at6 _ _ (.int .i64 (sysF (nsD ss ts ds ws dv cz gs))) (.slice none 0 0) (.slice none 0 0) (.slice none 0 0) (.slice none 0 0) (.slice none 0 0) (.int .i64 0) (.int .i64 0) (.slice none 0 0) (.int .i64 0) (.slice none 0 0) (.slice none 0 0) ⟨_, c6_⟩
    have r7 := set12_at7 _ _ (.int .i64 (sysF (nsD ss ts ds ws dv cz gs))) (.slice none 0 0) (.slice none 0 0) (.slice none 0 0) (.slice none 0 0) (.slice none 0 0) (.int .i64 0) (.int .i64 0) (.slice none 0 0) (.int .i64 0) (.slice none 0 0) (.slice none 0 0) ⟨_, c7_⟩
    have r8 := set12_at8 _ _ (.int .i64 (sysF (nsD ss ts ds ws dv cz gs))) (.slice none 0 0) (.slice none 0 0) (.slice none 0 0) (.slice none 0 0) (.slice none 0 0) (.int .i64 0) (.int .i64 0) (.slice none 0 0) (.int .i64 0) (.slice none 0 0) (.slice none 0 0) ⟨_, c8_⟩
    have r9 := set12_at9 _ _ (.int .i64 (sysF (nsD ss ts ds ws dv cz gs))) (.slice none 0 0) (.slice none 0 0) (.slice none 0 0) (.slice none 0 0) (.slice none 0 0) (.int .i64 0) (.int .i64 0) (.slice none 0 0) (.int .i64 0) (.slice none 0 0) (.slice none 0 0) ⟨_, c9_⟩
    have r10 := set12_at10 _ _ (.int .i64 (sysF (nsD ss ts ds ws dv cz gs))) (.slice none 0 0) (.slice none 0 0) (.slice none 0 0) (.slice none 0 0) (.slice none 0 0) (.int .i64 0) (.int .i64 0) (.slice none 0 0) (.int .i64 0) (.slice none 0 0) (.slice none 0 0) ⟨_, c10_⟩
    have r11 := set12_at11 _ _ (.int .i64 (sysF (nsD ss ts ds ws dv cz gs))) (.slice none 0 0) (.slice none 0 0) (.slice none 0 0) (.slice none 0 0) (.slice none 0 0) (.int .i64 0) (.int .i64 0) (.slice none 0 0) (.int .i64 0) (.slice none 0 0) (.slice none 0 0) ⟨_, c11_⟩
    refine bodyPost_ret (v := .agg #[.int .i64 (sysF (nsD ss ts ds ws dv cz gs)), .slice none 0 0, .slice none 0 0, .slice none 0 0, .slice none 0 0, .slice none 0 0, .int .i64 0, .int .i64 0, .slice none 0 0, .int .i64 0, .slice none 0 0, .slice none 0 0]) (by simp [results, Tryz.results14, go_sem, r0, r1, r2, r3, r4, r5, r6, r7, r8, r9, r10, r11]) rfl ⟨zeroA, ?_, ?_, HB.out⟩
    · rw [HC.out.1, HC.out.2]; rfl
    · rw [HC.out.2]; exact OY.zero _ _
  have HC := hide (ns_y Hf.out Hz.out hs)
  have hns : (sysF (nsD ss ts ds ws dv cz gs) != 0) = false := by simp [hs]
  have hsz : szY ⟨a, n, ca, ta, tn, tc, da, dn, dc, wa, wn, vc, xa, dn, xc, none, 0, 0, none, 0, 0, ga, gn, kc⟩ (nsD ss ts ds ws dv cz gs) ≤ 1048576 := by obtain ⟨k, H⟩ := hr.right hs; have := H.tiny hr; omega
  have hc : Calls Tryz.prog 55 #[.agg #[.slice a n ca, .slice ta tn tc, .slice da dn dc, .slice wa wn vc, .slice xa dn xc, .int .i64 0, .int .i64 cz, .slice none 0 0, .int .i64 dv, .slice none 0 0, .slice ga gn kc]] w3 (fun e w' => ∃ B : SA, e = .returned (.agg #[.slice B.a B.n B.c, .slice B.ta B.tn B.tc, .slice B.da B.dn B.dc, .slice B.wa B.wn B.wc, .slice B.xa B.xn B.xc, .int .i64 (nsD ss ts ds ws dv cz gs).ac, .int .i64 (nsD ss ts ds ws dv cz gs).cz, .slice B.la B.ln B.lc, .int .i64 (nsD ss ts ds ws dv cz gs).dv, .slice B.oa B.on B.oc, .slice B.ga B.gn B.gc]) ∧ OYR (InR w3.heap.size w'.heap.size) B (nsD ss ts ds ws dv cz gs) w' ∧ Below w3.heap.size w3 w') := copiedSystem_O ⟨a, n, ca, ta, tn, tc, da, dn, dc, wa, wn, vc, xa, dn, xc, none, 0, 0, none, 0, 0, ga, gn, kc⟩ (nsD ss ts ds ws dv cz gs) w3 hsz (hr.below g3 (Nat.le_refl _))
  have cc0 := (M3.get 0 rfl).cell 0 rfl
  have cc1 := (M3.get 0 rfl).cell 1 rfl
  have cc2 := (M3.get 0 rfl).cell 2 rfl
  have cc3 := (M3.get 0 rfl).cell 3 rfl
  have cc4 := (M3.get 0 rfl).cell 4 rfl
  have cc5 := (M3.get 0 rfl).cell 5 rfl
  have cc6 := (M3.get 0 rfl).cell 6 rfl
  have cc7 := (M3.get 0 rfl).cell 7 rfl
  have cc8 := (M3.get 0 rfl).cell 8 rfl
  have cc9 := (M3.get 0 rfl).cell 9 rfl
  have cc10 := (M3.get 0 rfl).cell 10 rfl
  have Hs := hide hs
  clear hs g3
  go_wp2_with fail
  refine hc.mono ?_
  rintro e w4 ⟨B, rfl, oy, g4⟩
  have z4 := g4.size
  have M4 := (M3.below g4).fact OY.loc oy.oy
  clear hc M3 g4 oy cc0 cc1 cc2 cc3 cc4 cc5 cc6 cc7 cc8 cc9 cc10
  have c0_ := (M4.get 2 rfl).cell 0 rfl
  have f0_ := (M4.get 2 rfl).fz 0 (by simp)
  have c1_ := (M4.get 2 rfl).cell 1 rfl
  have f1_ := (M4.get 2 rfl).fz 1 (by simp)
  have c2_ := (M4.get 2 rfl).cell 2 rfl
  have f2_ := (M4.get 2 rfl).fz 2 (by simp)
  have c3_ := (M4.get 2 rfl).cell 3 rfl
  have f3_ := (M4.get 2 rfl).fz 3 (by simp)
  have c4_ := (M4.get 2 rfl).cell 4 rfl
  have f4_ := (M4.get 2 rfl).fz 4 (by simp)
  have c5_ := (M4.get 2 rfl).cell 5 rfl
  have f5_ := (M4.get 2 rfl).fz 5 (by simp)
  have c6_ := (M4.get 2 rfl).cell 6 rfl
  have f6_ := (M4.get 2 rfl).fz 6 (by simp)
  have c7_ := (M4.get 2 rfl).cell 7 rfl
  have f7_ := (M4.get 2 rfl).fz 7 (by simp)
  have c8_ := (M4.get 2 rfl).cell 8 rfl
  have f8_ := (M4.get 2 rfl).fz 8 (by simp)
  have c9_ := (M4.get 2 rfl).cell 9 rfl
  have f9_ := (M4.get 2 rfl).fz 9 (by simp)
  have c10_ := (M4.get 2 rfl).cell 10 rfl
  have f10_ := (M4.get 2 rfl).fz 10 (by simp)
  have c11_ := (M4.get 2 rfl).cell 11 rfl
  have f11_ := (M4.get 2 rfl).fz 11 (by simp)
  have HB := hide (below_set12 M4.bel (P := w.heap.size + 1) (by omega) (.int .i64 0) (.slice B.a B.n B.c) (.slice B.ta B.tn B.tc) (.slice B.da B.dn B.dc) (.slice B.wa B.wn B.wc) (.slice B.xa B.xn B.xc) (.int .i64 (nsD ss ts ds ws dv cz gs).ac) (.int .i64 (nsD ss ts ds ws dv cz gs).cz) (.slice B.la B.ln B.lc) (.int .i64 (nsD ss ts ds ws dv cz gs).dv) (.slice B.oa B.on B.oc) (.slice B.ga B.gn B.gc))
  have HO := hide (loc_set12 OY.loc (M4.get 0 rfl) (P := w.heap.size + 1) (fun h => by have := h.1; omega) (.int .i64 0) (.slice B.a B.n B.c) (.slice B.ta B.tn B.tc) (.slice B.da B.dn B.dc) (.slice B.wa B.wn B.wc) (.slice B.xa B.xn B.xc) (.int .i64 (nsD ss ts ds ws dv cz gs).ac) (.int .i64 (nsD ss ts ds ws dv cz gs).cz) (.slice B.la B.ln B.lc) (.int .i64 (nsD ss ts ds ws dv cz gs).dv) (.slice B.oa B.on B.oc) (.slice B.ga B.gn B.gc))
  clear M4
  go_wp2
  have r0 := set12_at0 _ _ (.int .i64 0) (.slice B.a B.n B.c) (.slice B.ta B.tn B.tc) (.slice B.da B.dn B.dc) (.slice B.wa B.wn B.wc) (.slice B.xa B.xn B.xc) (.int .i64 (nsD ss ts ds ws dv cz gs).ac) (.int .i64 (nsD ss ts ds ws dv cz gs).cz) (.slice B.la B.ln B.lc) (.int .i64 (nsD ss ts ds ws dv cz gs).dv) (.slice B.oa B.on B.oc) (.slice B.ga B.gn B.gc) ⟨_, c0_⟩
  have r1 := set12_at1 _ _ (.int .i64 0) (.slice B.a B.n B.c) (.slice B.ta B.tn B.tc) (.slice B.da B.dn B.dc) (.slice B.wa B.wn B.wc) (.slice B.xa B.xn B.xc) (.int .i64 (nsD ss ts ds ws dv cz gs).ac) (.int .i64 (nsD ss ts ds ws dv cz gs).cz) (.slice B.la B.ln B.lc) (.int .i64 (nsD ss ts ds ws dv cz gs).dv) (.slice B.oa B.on B.oc) (.slice B.ga B.gn B.gc) ⟨_, c1_⟩
  have r2 := set12_at2 _ _ (.int .i64 0) (.slice B.a B.n B.c) (.slice B.ta B.tn B.tc) (.slice B.da B.dn B.dc) (.slice B.wa B.wn B.wc) (.slice B.xa B.xn B.xc) (.int .i64 (nsD ss ts ds ws dv cz gs).ac) (.int .i64 (nsD ss ts ds ws dv cz gs).cz) (.slice B.la B.ln B.lc) (.int .i64 (nsD ss ts ds ws dv cz gs).dv) (.slice B.oa B.on B.oc) (.slice B.ga B.gn B.gc) ⟨_, c2_⟩
  have r3 := set12_at3 _ _ (.int .i64 0) (.slice B.a B.n B.c) (.slice B.ta B.tn B.tc) (.slice B.da B.dn B.dc) (.slice B.wa B.wn B.wc) (.slice B.xa B.xn B.xc) (.int .i64 (nsD ss ts ds ws dv cz gs).ac) (.int .i64 (nsD ss ts ds ws dv cz gs).cz) (.slice B.la B.ln B.lc) (.int .i64 (nsD ss ts ds ws dv cz gs).dv) (.slice B.oa B.on B.oc) (.slice B.ga B.gn B.gc) ⟨_, c3_⟩
  have r4 := set12_at4 _ _ (.int .i64 0) (.slice B.a B.n B.c) (.slice B.ta B.tn B.tc) (.slice B.da B.dn B.dc) (.slice B.wa B.wn B.wc) (.slice B.xa B.xn B.xc) (.int .i64 (nsD ss ts ds ws dv cz gs).ac) (.int .i64 (nsD ss ts ds ws dv cz gs).cz) (.slice B.la B.ln B.lc) (.int .i64 (nsD ss ts ds ws dv cz gs).dv) (.slice B.oa B.on B.oc) (.slice B.ga B.gn B.gc) ⟨_, c4_⟩
  have r5 := set12_at5 _ _ (.int .i64 0) (.slice B.a B.n B.c) (.slice B.ta B.tn B.tc) (.slice B.da B.dn B.dc) (.slice B.wa B.wn B.wc) (.slice B.xa B.xn B.xc) (.int .i64 (nsD ss ts ds ws dv cz gs).ac) (.int .i64 (nsD ss ts ds ws dv cz gs).cz) (.slice B.la B.ln B.lc) (.int .i64 (nsD ss ts ds ws dv cz gs).dv) (.slice B.oa B.on B.oc) (.slice B.ga B.gn B.gc) ⟨_, c5_⟩
  have r6 := set12_at6 _ _ (.int .i64 0) (.slice B.a B.n B.c) (.slice B.ta B.tn B.tc) (.slice B.da B.dn B.dc) (.slice B.wa B.wn B.wc) (.slice B.xa B.xn B.xc) (.int .i64 (nsD ss ts ds ws dv cz gs).ac) (.int .i64 (nsD ss ts ds ws dv cz gs).cz) (.slice B.la B.ln B.lc) (.int .i64 (nsD ss ts ds ws dv cz gs).dv) (.slice B.oa B.on B.oc) (.slice B.ga B.gn B.gc) ⟨_, c6_⟩
  have r7 := set12_at7 _ _ (.int .i64 0) (.slice B.a B.n B.c) (.slice B.ta B.tn B.tc) (.slice B.da B.dn B.dc) (.slice B.wa B.wn B.wc) (.slice B.xa B.xn B.xc) (.int .i64 (nsD ss ts ds ws dv cz gs).ac) (.int .i64 (nsD ss ts ds ws dv cz gs).cz) (.slice B.la B.ln B.lc) (.int .i64 (nsD ss ts ds ws dv cz gs).dv) (.slice B.oa B.on B.oc) (.slice B.ga B.gn B.gc) ⟨_, c7_⟩
  have r8 := set12_at8 _ _ (.int .i64 0) (.slice B.a B.n B.c) (.slice B.ta B.tn B.tc) (.slice B.da B.dn B.dc) (.slice B.wa B.wn B.wc) (.slice B.xa B.xn B.xc) (.int .i64 (nsD ss ts ds ws dv cz gs).ac) (.int .i64 (nsD ss ts ds ws dv cz gs).cz) (.slice B.la B.ln B.lc) (.int .i64 (nsD ss ts ds ws dv cz gs).dv) (.slice B.oa B.on B.oc) (.slice B.ga B.gn B.gc) ⟨_, c8_⟩
  have r9 := set12_at9 _ _ (.int .i64 0) (.slice B.a B.n B.c) (.slice B.ta B.tn B.tc) (.slice B.da B.dn B.dc) (.slice B.wa B.wn B.wc) (.slice B.xa B.xn B.xc) (.int .i64 (nsD ss ts ds ws dv cz gs).ac) (.int .i64 (nsD ss ts ds ws dv cz gs).cz) (.slice B.la B.ln B.lc) (.int .i64 (nsD ss ts ds ws dv cz gs).dv) (.slice B.oa B.on B.oc) (.slice B.ga B.gn B.gc) ⟨_, c9_⟩
  have r10 := set12_at10 _ _ (.int .i64 0) (.slice B.a B.n B.c) (.slice B.ta B.tn B.tc) (.slice B.da B.dn B.dc) (.slice B.wa B.wn B.wc) (.slice B.xa B.xn B.xc) (.int .i64 (nsD ss ts ds ws dv cz gs).ac) (.int .i64 (nsD ss ts ds ws dv cz gs).cz) (.slice B.la B.ln B.lc) (.int .i64 (nsD ss ts ds ws dv cz gs).dv) (.slice B.oa B.on B.oc) (.slice B.ga B.gn B.gc) ⟨_, c10_⟩
  have r11 := set12_at11 _ _ (.int .i64 0) (.slice B.a B.n B.c) (.slice B.ta B.tn B.tc) (.slice B.da B.dn B.dc) (.slice B.wa B.wn B.wc) (.slice B.xa B.xn B.xc) (.int .i64 (nsD ss ts ds ws dv cz gs).ac) (.int .i64 (nsD ss ts ds ws dv cz gs).cz) (.slice B.la B.ln B.lc) (.int .i64 (nsD ss ts ds ws dv cz gs).dv) (.slice B.oa B.on B.oc) (.slice B.ga B.gn B.gc) ⟨_, c11_⟩
  refine bodyPost_ret (v := .agg #[.int .i64 0, .slice B.a B.n B.c, .slice B.ta B.tn B.tc, .slice B.da B.dn B.dc, .slice B.wa B.wn B.wc, .slice B.xa B.xn B.xc, .int .i64 (nsD ss ts ds ws dv cz gs).ac, .int .i64 (nsD ss ts ds ws dv cz gs).cz, .slice B.la B.ln B.lc, .int .i64 (nsD ss ts ds ws dv cz gs).dv, .slice B.oa B.on B.oc, .slice B.ga B.gn B.gc]) (by simp [results, Tryz.results14, go_sem, r0, r1, r2, r3, r4, r5, r6, r7, r8, r9, r10, r11]) rfl ⟨B, ?_, ?_, HB.out⟩
  · rw [HC.out.1, HC.out.2]
  · rw [HC.out.2]; exact OY.mono HO.out (fun k hk => ⟨by have := hk.1; omega, by have := hk.2; simp only [World.size_setCell]; omega⟩)

end Go.Proofs.YtbfmdnnbiidlkaaGreat
