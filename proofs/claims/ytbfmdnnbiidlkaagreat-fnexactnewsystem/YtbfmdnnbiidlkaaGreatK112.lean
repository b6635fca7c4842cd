import Derived.Test.YtbfmdnnbiidlkaaGreatK111
import Derived.Test.YtbfmdnnbiidlkaaGreatK110
import Derived.Test.YtbfmdnnbiidlkaaGreatK8
import Derived.Test.YtbfmdnnbiidlkaaGreatK34
import Derived.Test.YtbfmdnnbiidlkaaGreatK17
import Derived.WalkKit
import Derived.ProofKit
import Derived.OpenShut
import Derived.ShutString
import Derived.ChangeOld
import Derived.Below
import Derived.WalkSpells
import Derived.Deep.QuietTactic
import Derived.BigQuiet
import Derived.Deep.RegionWith
import Derived.Deep.WholeRow
import Derived.Deep.DeepCutAuto
import Derived.Deep.RegionHeld2
import Derived.Deep.AppendLies
import Derived.Deep.RegionLaw
namespace Go.Proofs.YtbfmdnnbiidlkaaGreat
open Go.ChangeShapes Go.WideShapes Go.ChangeAt Go.RowKit

theorem Swd.news {w w' : World} {a : Option Addr} {n : Nat} {ls : List (Int × Int)} (hs : Swd w a n ls) {B : Nat} (hb : Below B w w') (hB : w.heap.size ≤ B) : (∀ ad, a = some ad → ∀ j u, (vsw ls)[j]? = some u → w'.cell? (ad.add j) = some u) ∧ (a = none → n = 0) := by
  have h := hs.below hb hB
  refine ⟨fun ad e j u hj => ?_, fun e => ?_⟩
  · by_cases hp : 0 < n
    · obtain ⟨b, off, h2, _, hc⟩ := h.2 hp
      rw [h2] at e
      injection e with e
      subst e
      exact news_swd h.1 hc j u hj
    · have h0 : ls = [] := List.length_eq_zero_iff.1 (by have := h.1; omega)
      rw [h0] at hj
      simp [vsw, flw] at hj
  · by_cases hp : 0 < n
    · obtain ⟨b, off, h2, _, hc⟩ := h.2 hp
      rw [e] at h2
      cases h2
    · omega

set_option maxRecDepth 100000 in
set_option maxHeartbeats 8000000 in
theorem specNewSystem_calls (a : Option Addr) (n ca : Nat) (ss : List (Int × List Int)) (ta : Option Addr) (tn tc : Nat) (ts : List Int) (da : Option Addr) (dn dc : Nat) (ds : List Int) (wa : Option Addr) (wn vc : Nat) (ws : List (Int × Int)) (dv cz : Int) (ga : Option Addr) (gn kc : Nat) (gs : List (Int × Int)) (w : World) (hrt : RT w a n ss ta tn ts da dn ds) (hwn : wn ≤ 1048576) (hws : Swd w wa wn ws) (hgn : gn ≤ 1048576) (hgs : Swd w ga gn gs) :
    Calls Tryz.prog 10 #[.agg #[.slice a n ca, .slice ta tn tc, .slice da dn dc], .slice wa wn vc, .int .i64 dv, .int .i64 cz, .slice ga gn kc] w fun e w' => ∃ B : SA, e = .returned (.agg #[.int .i64 (nsC ss ts ds ws dv cz gs), .slice B.a B.n B.c, .slice B.ta B.tn B.tc, .slice B.da B.dn B.dc, .slice B.wa B.wn B.wc, .slice B.xa B.xn B.xc, .int .i64 (nsR ss ts ds ws dv cz gs).ac, .int .i64 (nsR ss ts ds ws dv cz gs).cz, .slice B.la B.ln B.lc, .int .i64 (nsR ss ts ds ws dv cz gs).dv, .slice B.oa B.on B.oc, .slice B.ga B.gn B.gc]) ∧ OY (InR w.heap.size w'.heap.size) B (nsR ss ts ds ws dv cz gs) w' ∧ Below w.heap.size w w' := by
  have M0 := ((Mm.start w).allocC [.slice a n ca, .slice ta tn tc, .slice da dn dc] 37).allocC [.int .i64 0, .slice none 0 0, .slice none 0 0, .slice none 0 0, .slice none 0 0, .slice none 0 0, .int .i64 0, .int .i64 0, .slice none 0 0, .int .i64 0, .slice none 0 0, .slice none 0 0] 49
  simp only [World.size_alloc] at M0
  have hdl : ds.length = dn := hrt.2.2.2.2.2.1
  have hsl : ss.length = n := hrt.2.1.1
  obtain ⟨ix, hix, hzx0, hzx1, hzx2⟩ := info_parts infoContext
  obtain ⟨ig, hig, hzg0, hzg1, hzg2⟩ := info_parts infoGate2
  obtain ⟨iw, hiw, hzw0, hzw1, hzw2⟩ := info_parts infoWord
  go_enter Tryz.func10, Tryz.ntmps10
  go_wp2_with fail
  refine (l3Fault_calls w.heap.size a n ca ss ta tn tc ts da dn dc ds _ (by simp; omega) ((M0.get 1 rfl).cell 0 rfl) ((M0.get 1 rfl).cell 1 rfl) ((M0.get 1 rfl).cell 2 rfl) (hrt.below M0.bel (Nat.le_refl _))).mono ?_
  rintro e w1 ⟨rfl, g1⟩
  have z1 : w.heap.size + 2 ≤ w1.heap.size := by have := g1.size; simpa using this
  have M1 := M0.below g1
  clear g1 M0
  by_cases hf : tabF ss ts ds = 0
  rotate_left
  · have HC := hide (ns_f (ws := ws) (dv := dv) (cz := cz) (gs := gs) hf)
    have hne : (tabF ss ts ds != 0) = true := by simpa using hf
    clear hf
    have c0_ := (M1.get 0 rfl).cell 0 rfl
    have f0_ := (M1.get 0 rfl).fz 0 (by simp)
    have c1_ := (M1.get 0 rfl).cell 1 rfl
    have f1_ := (M1.get 0 rfl).fz 1 (by simp)
    have c2_ := (M1.get 0 rfl).cell 2 rfl
    have f2_ := (M1.get 0 rfl).fz 2 (by simp)
    have c3_ := (M1.get 0 rfl).cell 3 rfl
    have f3_ := (M1.get 0 rfl).fz 3 (by simp)
    have c4_ := (M1.get 0 rfl).cell 4 rfl
    have f4_ := (M1.get 0 rfl).fz 4 (by simp)
    have c5_ := (M1.get 0 rfl).cell 5 rfl
    have f5_ := (M1.get 0 rfl).fz 5 (by simp)
    have c6_ := (M1.get 0 rfl).cell 6 rfl
    have f6_ := (M1.get 0 rfl).fz 6 (by simp)
    have c7_ := (M1.get 0 rfl).cell 7 rfl
    have f7_ := (M1.get 0 rfl).fz 7 (by simp)
    have c8_ := (M1.get 0 rfl).cell 8 rfl
    have f8_ := (M1.get 0 rfl).fz 8 (by simp)
    have c9_ := (M1.get 0 rfl).cell 9 rfl
    have f9_ := (M1.get 0 rfl).fz 9 (by simp)
    have c10_ := (M1.get 0 rfl).cell 10 rfl
    have f10_ := (M1.get 0 rfl).fz 10 (by simp)
    have c11_ := (M1.get 0 rfl).cell 11 rfl
    have f11_ := (M1.get 0 rfl).fz 11 (by simp)
    have HB := hide (below_set12 M1.bel (P := w.heap.size + 1) (by omega) (.int .i64 (tabF ss ts ds)) (.slice none 0 0) (.slice none 0 0) (.slice none 0 0) (.slice none 0 0) (.slice none 0 0) (.int .i64 0) (.int .i64 0) (.slice none 0 0) (.int .i64 0) (.slice none 0 0) (.slice none 0 0))
    clear M1
    go_wp2
    have r0 := set12_at0 _ _ (.int .i64 (tabF ss ts ds)) (.slice none 0 0) (.slice none 0 0) (.slice none 0 0) (.slice none 0 0) (.slice none 0 0) (.int .i64 0) (.int .i64 0) (.slice none 0 0) (.int .i64 0) (.slice none 0 0) (.slice none 0 0) ⟨_, c0_⟩
    have r1 := set12_at1 _ _ (.int .i64 (tabF ss ts ds)) (.slice none 0 0) (.slice none 0 0) (.slice none 0 0) (.slice none 0 0) (.slice none 0 0) (.int .i64 0) (.int .i64 0) (.slice none 0 0) (.int .i64 0) (.slice none 0 0) (.slice none 0 0) ⟨_, c1_⟩
    have r2 := set12_at2 _ _ (.int .i64 (tabF ss ts ds)) (.slice none 0 0) (.slice none 0 0) (.slice none 0 0) (.slice none 0 0) (.slice none 0 0) (.int .i64 0) (.int .i64 0) (.slice none 0 0) (.int .i64 0) (.slice none 0 0) (.slice none 0 0) ⟨_, c2_⟩
    have r3 := set12_at3 _ _ (.int .i64 (tabF ss ts ds)) (.slice none 0 0) (.slice none 0 0) (.slice none 0 0) (.slice none 0 0) (.slice none 0 0) (.int .i64 0) (.int .i64 0) (.slice none 0 0) (.int .i64 0) (.slice none 0 0) (.slice none 0 0) ⟨_, c3_⟩
    have r4 := set12_at4 _ _ (.int .i64 (tabF ss ts ds)) (.slice none 0 0) (.slice none 0 0) (.slice none 0 0) (.slice none 0 0) (.slice none 0 0) (.int .i64 0) (.int .i64 0) (.slice none 0 0) (.int .i64 0) (.slice none 0 0) (.slice none 0 0) ⟨_, c4_⟩
    have r5 := set12_at5 _ _ (.int .i64 (tabF ss ts ds)) (.slice none 0 0) (.slice none 0 0) (.slice none 0 0) (.slice none 0 0) (.slice none 0 0) (.int .i64 0) (.int .i64 0) (.slice none 0 0) (.int .i64 0) (.slice none 0 0) (.slice none 0 0) ⟨_, c5_⟩
    have r6 := set12_at6 _ _ (.int .i64 (tabF ss ts ds)) (.slice none 0 0) (.slice none 0 0) (.slice none 0 0) (.slice none 0 0) (.slice none 0 0) (.int .i64 0) (.int .i64 0) (.slice none 0 0) (.int .i64 0) (.slice none 0 0) (.slice none 0 0) ⟨_, c6_⟩
    have r7 := set12_at7 _ _ (.int .i64 (tabF ss ts ds)) (.slice none 0 0) (.slice none 0 0) (.slice none 0 0) (.slice none 0 0) (.slice none 0 0) (.int .i64 0) (.int .i64 0) (.slice none 0 0) (.int .i64 0) (.slice none 0 0) (.slice none 0 0) ⟨_, c7_⟩
    have r8 := set12_at8 _ _ (.int .i64 (tabF ss ts ds)) (.slice none 0 0) (.slice none 0 0) (.slice none 0 0) (.slice none 0 0) (.slice none 0 0) (.int .i64 0) (.int .i64 0) (.slice none 0 0) (.int .i64 0) (.slice none 0 0) (.slice none 0 0) ⟨_, c8_⟩
    have r9 := set12_at9 _ _ (.int .i64 (tabF ss ts ds)) (.slice none 0 0) (.slice none 0 0) (.slice none 0 0) (.slice none 0 0) (.slice none 0 0) (.int .i64 0) (.int .i64 0) (.slice none 0 0) (.int .i64 0) (.slice none 0 0) (.slice none 0 0) ⟨_, c9_⟩
    have r10 := set12_at10 _ _ (.int .i64 (tabF ss ts ds)) (.slice none 0 0) (.slice none 0 0) (.slice none 0 0) (.slice none 0 0) (.slice none 0 0) (.int .i64 0) (.int .i64 0) (.slice none 0 0) (.int .i64 0) (.slice none 0 0) (.slice none 0 0) ⟨_, c10_⟩
    have r11 := set12_at11 _ _ (.int .i64 (tabF ss ts ds)) (.slice none 0 0) (.slice none 0 0) (.slice none 0 0) (.slice none 0 0) (.slice none 0 0) (.int .i64 0) (.int .i64 0) (.slice none 0 0) (.int .i64 0) (.slice none 0 0) (.slice none 0 0) ⟨_, c11_⟩
    refine bodyPost_ret (v := .agg #[.int .i64 (tabF ss ts ds), .slice none 0 0, .slice none 0 0, .slice none 0 0, .slice none 0 0, .slice none 0 0, .int .i64 0, .int .i64 0, .slice none 0 0, .int .i64 0, .slice none 0 0, .slice none 0 0]) (by simp [results, Tryz.results10, go_sem, r0, r1, r2, r3, r4, r5, r6, r7, r8, r9, r10, r11]) rfl ⟨zeroA, ?_, ?_, HB.out⟩
    · rw [HC.out.1, HC.out.2]; rfl
    · rw [HC.out.2]; exact OY.zero _ _
  have hne : (tabF ss ts ds != 0) = false := by simp [hf]
  have hd4 := (many_len (tabF_zero hf).2.1).2
  have ht6 := (many_len (tabF_zero hf).2.1).1
  have hgood := (tabF_zero hf).1
  rw [hdl] at hd4
  have Hf := hide hf
  clear hf
  go_wp2_with fail
  refine (inUp_calls cz 6 _).mono ?_
  rintro e w' ⟨rfl, hw'⟩
  rw [hw']
  clear hw' w'
  cases hz : up cz 6 with
  | false =>
    have HC := hide (ns_z (ws := ws) (dv := dv) (gs := gs) Hf.out hz)
    clear hz
    have c0_ := (M1.get 0 rfl).cell 0 rfl
    have f0_ := (M1.get 0 rfl).fz 0 (by simp)
    have c1_ := (M1.get 0 rfl).cell 1 rfl
    have f1_ := (M1.get 0 rfl).fz 1 (by simp)
    have c2_ := (M1.get 0 rfl).cell 2 rfl
    have f2_ := (M1.get 0 rfl).fz 2 (by simp)
    have c3_ := (M1.get 0 rfl).cell 3 rfl
    have f3_ := (M1.get 0 rfl).fz 3 (by simp)
    have c4_ := (M1.get 0 rfl).cell 4 rfl
    have f4_ := (M1.get 0 rfl).fz 4 (by simp)
    have c5_ := (M1.get 0 rfl).cell 5 rfl
    have f5_ := (M1.get 0 rfl).fz 5 (by simp)
    have c6_ := (M1.get 0 rfl).cell 6 rfl
    have f6_ := (M1.get 0 rfl).fz 6 (by simp)
    have c7_ := (M1.get 0 rfl).cell 7 rfl
    have f7_ := (M1.get 0 rfl).fz 7 (by simp)
    have c8_ := (M1.get 0 rfl).cell 8 rfl
    have f8_ := (M1.get 0 rfl).fz 8 (by simp)
    have c9_ := (M1.get 0 rfl).cell 9 rfl
    have f9_ := (M1.get 0 rfl).fz 9 (by simp)
    have c10_ := (M1.get 0 rfl).cell 10 rfl
    have f10_ := (M1.get 0 rfl).fz 10 (by simp)
    have c11_ := (M1.get 0 rfl).cell 11 rfl
    have f11_ := (M1.get 0 rfl).fz 11 (by simp)
    have HB := hide (below_set12 M1.bel (P := w.heap.size + 1) (by omega) (.int .i64 3) (.slice none 0 0) (.slice none 0 0) (.slice none 0 0) (.slice none 0 0) (.slice none 0 0) (.int .i64 0) (.int .i64 0) (.slice none 0 0) (.int .i64 0) (.slice none 0 0) (.slice none 0 0))
    clear M1
    go_wp2
    have r0 := set12_at0 _ _ (.int .i64 3) (.slice none 0 0) (.slice none 0 0) (.slice none 0 0) (.slice none 0 0) (.slice none 0 0) (.int .i64 0) (.int .i64 0) (.slice none 0 0) (.int .i64 0) (.slice none 0 0) (.slice none 0 0) ⟨_, c0_⟩
    have r1 := set12_at1 _ _ (.int .i64 3) (.slice none 0 0) (.slice none 0 0) (.slice none 0 0) (.slice none 0 0) (.slice none 0 0) (.int .i64 0) (.int .i64 0) (.slice none 0 0) (.int .i64 0) (.slice none 0 0) (.slice none 0 0) ⟨_, c1_⟩
    have r2 := set12_at2 _ _ (.int .i64 3) (.slice none 0 0) (.slice none 0 0) (.slice none 0 0) (.slice none 0 0) (.slice none 0 0) (.int .i64 0) (.int .i64 0) (.slice none 0 0) (.int .i64 0) (.slice none 0 0) (.slice none 0 0) ⟨_, c2_⟩
    have r3 := set12_at3 _ _ (.int .i64 3) (.slice none 0 0) (.slice none 0 0) (.slice none 0 0) (.slice none 0 0) (.slice none 0 0) (.int .i64 0) (.int .i64 0) (.slice none 0 0) (.int .i64 0) (.slice none 0 0) (.slice none 0 0) ⟨_, c3_⟩
    have r4 := set12_at4 _ _ (.int .i64 3) (.slice none 0 0) (.slice none 0 0) (.slice none 0 0) (.slice none 0 0) (.slice none 0 0) (.int .i64 0) (.int .i64 0) (.slice none 0 0) (.int .i64 0) (.slice none 0 0) (.slice none 0 0) ⟨_, c4_⟩
    have r5 := set12_at5 _ _ (.int .i64 3) (.slice none 0 0) (.slice none 0 0) (.slice none 0 0) (.slice none 0 0) (.slice none 0 0) (.int .i64 0) (.int .i64 0) (.slice none 0 0) (.int .i64 0) (.slice none 0 0) (.slice none 0 0) ⟨_, c5_⟩
    have r6 := set12_at6 _ _ (.int .i64 3) (.slice none 0 0) (.slice none 0 0) (.slice none 0 0) (.slice none 0 0) (.slice none 0 0) (.int .i64 0) (.int .i64 0) (.slice none 0 0) (.int .i64 0) (.slice none 0 0) (.slice none 0 0) ⟨_, c6_⟩
    have r7 := set12_at7 _ _ (.int .i64 3) (.slice none 0 0) (.slice none 0 0) (.slice none 0 0) (.slice none 0 0) (.slice none 0 0) (.int .i64 0) (.int .i64 0) (.slice none 0 0) (.int .i64 0) (.slice none 0 0) (.slice none 0 0) ⟨_, c7_⟩
    have r8 := set12_at8 _ _ (.int .i64 3) (.slice none 0 0) (.slice none 0 0) (.slice none 0 0) (.slice none 0 0) (.slice none 0 0) (.int .i64 0) (.int .i64 0) (.slice none 0 0) (.int .i64 0) (.slice none 0 0) (.slice none 0 0) ⟨_, c8_⟩
    have r9 := set12_at9 _ _ (.int .i64 3) (.slice none 0 0) (.slice none 0 0) (.slice none 0 0) (.slice none 0 0) (.slice none 0 0) (.int .i64 0) (.int .i64 0) (.slice none 0 0) (.int .i64 0) (.slice none 0 0) (.slice none 0 0) ⟨_, c9_⟩
    have r10 := set12_at10 _ _ (.int .i64 3) (.slice none 0 0) (.slice none 0 0) (.slice none 0 0) (.slice none 0 0) (.slice none 0 0) (.int .i64 0) (.int .i64 0) (.slice none 0 0) (.int .i64 0) (.slice none 0 0) (.slice none 0 0) ⟨_, c10_⟩
    have r11 := set12_at11 _ _ (.int .i64 3) (.slice none 0 0) (.slice none 0 0) (.slice none 0 0) (.slice none 0 0) (.slice none 0 0) (.int .i64 0) (.int .i64 0) (.slice none 0 0) (.int .i64 0) (.slice none 0 0) (.slice none 0 0) ⟨_, c11_⟩
    refine bodyPost_ret (v := .agg #[.int .i64 3, .slice none 0 0, .slice none 0 0, .slice none 0 0, .slice none 0 0, .slice none 0 0, .int .i64 0, .int .i64 0, .slice none 0 0, .int .i64 0, .slice none 0 0, .slice none 0 0]) (by simp [results, Tryz.results10, go_sem, r0, r1, r2, r3, r4, r5, r6, r7, r8, r9, r10, r11]) rfl ⟨zeroA, ?_, ?_, HB.out⟩
    · rw [HC.out.1, HC.out.2]; rfl
    · rw [HC.out.2]; exact OY.zero _ _
  | true =>
  have Hz := hide hz
  clear hz
  have q0 := (M1.get 1 rfl).cell 0 rfl
  have q1 := (M1.get 1 rfl).cell 1 rfl
  have q2 := (M1.get 1 rfl).cell 2 rfl
  have hd4i : (dn : Int) ≤ 4 := by omega
  go_wp2_with fail
  refine (l3Copy_R a n ca ss ta tn tc ts da dn dc ds _ (by have := good_sum (good_of hgood); omega) (by have := hrt.2.2.2.1.1; omega) (by omega) (hrt.below M1.bel (Nat.le_refl _))).mono ?_
  rintro e w2 ⟨ra, rc, xa, xc, ya, yc, rfl, o1, g2⟩
  have z2 := g2.size
  have N2 := (M1.below g2).fact OTK.loc (o1.k.otk (Nat.le_refl _))
  clear o1 g2 M1 q0 q1 q2 hgood
  have HOw := hide (World.ownsRow_lit (base := w2.heap.size) (e := 107) (size := 2) w2 #[] 0 (by simp) (Nat.zero_le _) rfl)
  have HBw := hide (N2.bel.alloc (o := .cells #[] 107) N2.bel.size)
  have HNw := hide (hws.news HBw.out (Nat.le_refl _))
  have HLw : Hid ((vsw ws).length = wn * 2) := by show _ = _; rw [length_vsw, hws.1]
  have HM1w : Hid (0 + wn ≤ maxLen) := by show _ ≤ _; unfold maxLen; omega
  have HM2w : Hid ((0 + wn) * 16 ≤ 140737488355328) := by show _ ≤ _; omega
  have HBSw : Hid (w2.heap.size ≤ (w2.alloc (.cells #[] 107)).heap.size) := by show _ ≤ _; simp
  have HMw := hide N2
  clear N2
  go_wp2_with (first
    | (at_builtin; refine wpList_append_any _ rfl _ _ 38 rfl w2.heap.size 107 iw (.agg #[.int .i64 0, .int .i64 0]) 2 16 Tryz.underlying38 hiw hzw0 hzw1 hzw2 rfl (by decide) _ 0 [] rfl HOw.out wa wn vc (vsw ws) rfl HLw.out HNw.out.1 HNw.out.2 ints_onew HM1w.out HM2w.out HBSw.out ?_)
    | go_in)
  intro v' w3 hown' hgrow
  have hown2 : w3.ownsRow w2.heap.size 107 2 v' wn (vsw ws) := by simpa using hown'
  obtain ⟨ma, mc, rfl, owd⟩ := own_owd (by omega) hws.1 hown2
  have zzw := hgrow.size
  simp only [World.size_alloc] at zzw
  have N3 := (HMw.out.grown ((Below.refl _ _).alloc (Nat.le_refl _) (.cells #[] 107)) hgrow (B := w2.heap.size) (by have := HMw.out.bel.size; omega) (Nat.le_refl _) (fun q e => by simp [Value.ownBlock] at e; omega) (by simp) (by simp <;> omega)).fact OWd.loc owd
  clear hown' hown2 hgrow owd HOw HBw HNw HLw HM1w HM2w HBSw HMw
  have HOg := hide (World.ownsRow_lit (base := w3.heap.size) (e := 111) (size := 2) w3 #[] 0 (by simp) (Nat.zero_le _) rfl)
  have HBg := hide (N3.bel.alloc (o := .cells #[] 111) N3.bel.size)
  have HNg := hide (hgs.news HBg.out (Nat.le_refl _))
  have HLg : Hid ((vsw gs).length = gn * 2) := by show _ = _; rw [length_vsw, hgs.1]
  have HM1g : Hid (0 + gn ≤ maxLen) := by show _ ≤ _; unfold maxLen; omega
  have HM2g : Hid ((0 + gn) * 16 ≤ 140737488355328) := by show _ ≤ _; omega
  have HBSg : Hid (w3.heap.size ≤ (w3.alloc (.cells #[] 111)).heap.size) := by show _ ≤ _; simp
  have HMg := hide N3
  clear N3
  go_wp2_with (first
    | (at_builtin; refine wpList_append_any _ rfl _ _ 45 rfl w3.heap.size 111 ig (.agg #[.int .i64 0, .int .i64 0]) 2 16 Tryz.underlying45 hig hzg0 hzg1 hzg2 rfl (by decide) _ 0 [] rfl HOg.out ga gn kc (vsw gs) rfl HLg.out HNg.out.1 HNg.out.2 ints_onew HM1g.out HM2g.out HBSg.out ?_)
    | go_in)
  intro v' w4 hown' hgrow
  have hown2 : w4.ownsRow w3.heap.size 111 2 v' gn (vsw gs) := by simpa using hown'
  obtain ⟨ga2, gc2, rfl, owd⟩ := own_owd (by omega) hgs.1 hown2
  have zzg := hgrow.size
  simp only [World.size_alloc] at zzg
  have N4 := (HMg.out.grown ((Below.refl _ _).alloc (Nat.le_refl _) (.cells #[] 111)) hgrow (B := w3.heap.size) (by have := HMg.out.bel.size; omega) (Nat.le_refl _) (fun q e => by simp [Value.ownBlock] at e; omega) (by simp) (by simp <;> omega)).fact OWd.loc owd
  clear hown' hown2 hgrow owd HOg HBg HNg HLg HM1g HM2g HBSg HMg
  obtain ⟨u, hu⟩ : ∃ y, y = w4.alloc (.cells #[.slice ra n rc, .slice xa tn xc, .slice ya dn yc, .slice ma wn mc, .slice none 0 0, .int .i64 0, .int .i64 cz, .slice none 0 0, .int .i64 dv, .slice none 0 0, .slice ga2 gn gc2] 47) := ⟨_, rfl⟩
  have N5 := N4.allocC [.slice ra n rc, .slice xa tn xc, .slice ya dn yc, .slice ma wn mc, .slice none 0 0, .int .i64 0, .int .i64 cz, .slice none 0 0, .int .i64 dv, .slice none 0 0, .slice ga2 gn gc2] 47
  rw [← hu] at N5
  have zu : u.heap.size = w4.heap.size + 1 := by rw [hu]; simp
  have HN5 := hide N5
  have Hu := hide hu
  clear N5 N4 hu
  go_upto_region 7 with fail
  rw [← Hu.out]
  clear Hu
  go_wp2
  go_loopw [13] (fun i wr => ∃ k : Nat, k ≤ dn ∧ i = .int .i64 k ∧ L7r w u.heap.size (fun v => [(w4.heap.size, w4.heap.size + 1, Cs w4.heap.size [.slice ra n rc, .slice xa tn xc, .slice ya dn yc, .slice ma wn mc, v, .int .i64 0, .int .i64 cz, .slice none 0 0, .int .i64 dv, .slice none 0 0, .slice ga2 gn gc2]), (w3.heap.size, w4.heap.size, OWd (InR w3.heap.size w4.heap.size) ga2 gn gs), (w2.heap.size, w3.heap.size, OWd (InR w2.heap.size w3.heap.size) ma wn ws), (w1.heap.size, w2.heap.size, OTK (InR w1.heap.size w2.heap.size) ra n rc ss xa tn ts ya dn ds), (w.heap.size + 1, w.heap.size + 1 + 1, Cs (w.heap.size + 1) [.int .i64 0, .slice none 0 0, .slice none 0 0, .slice none 0 0, .slice none 0 0, .slice none 0 0, .int .i64 0, .int .i64 0, .slice none 0 0, .int .i64 0, .slice none 0 0, .slice none 0 0]), (w.heap.size, w.heap.size + 1, Cs w.heap.size [.slice a n ca, .slice ta tn tc, .slice da dn dc])]) (csN dn) k wr) (fun i _ => dn - (intOf i).toNat)
  case atStart => exact ⟨0, Nat.zero_le _, rfl, _, _, _, _, _, CX.start (csN dn) (World.ownsRow_nil _ _ _ _), HN5.out, Nat.le_refl _⟩
  case round =>
    clear HN5
    obtain ⟨k, hkn, rfl, v, la, lc, lb, xs, hx, M, hB⟩ := hrel
    have d2 := (M.get 5 rfl).cell 2 rfl
    have o4 := (M.get 0 rfl).cell 4 rfl
    have p4 := (M.get 0 rfl).fz 4 (by simp)
    have HX := hide hx
    have HM := hide M
    have l2 : w4.heap.size < wr.heap.size := by omega
    clear hx M
    by_cases hlt : k < dn
    · have hgx := gx_csN hlt
      have hzl : (gx (csN dn) k).1.length = 8 := by rw [hgx]; rfl
      have hki : (k : Int) < (dn : Int) := by omega
      have hmk := made8
      have HC : Hid (Below wr.heap.size wr (wr.drew.alloc (.cells (madeCells #[.int .i64 0] 8) 2))) := (Below.refl wr.heap.size wr).drew.alloc (by simp) _
      have HO : Hid (OS (InR wr.heap.size (wr.drew.alloc (.cells (madeCells #[.int .i64 0] 8) 2)).heap.size) (some ⟨wr.heap.size, 0, none⟩) 8 (gx (csN dn) k).1 (wr.drew.alloc (.cells (madeCells #[.int .i64 0] 8) 2))) := by rw [hgx]; exact made8_os _ _ (by simp) _ ⟨by omega, by simp⟩
      have HW := hide (owns_out HX.out.own HC.out)
      have HG1 : Hid ((gx (csN dn) k).2.1 = 0 ∧ (gx (csN dn) k).2.2 = false) := by rw [hgx]; exact ⟨rfl, rfl⟩
      have hst0 := fun (w1 : World) (g cp : Nat) (hg : ((wr.drew.alloc (.cells (madeCells #[.int .i64 0] 8) 2)).alloc (.cells #[.slice (some ⟨wr.heap.size, 0, none⟩) 8 8, .int .i64 0, .bool false] 101)).grownBy w1 v.ownBlock) (hat : v.ownBlock = some g ∨ g = ((wr.drew.alloc (.cells (madeCells #[.int .i64 0] 8) 2)).alloc (.cells #[.slice (some ⟨wr.heap.size, 0, none⟩) 8 8, .int .i64 0, .bool false] 101)).heap.size) (hown : w1.ownsRow u.heap.size 101 3 (.slice (some ⟨g, 0, none⟩) (k + 1) cp) (k + 1) (xs ++ [.slice (some ⟨wr.heap.size, 0, none⟩) 8 8, .int .i64 0, .bool false])) => HX.out.step (rc := 8) (HC.out.trans (((Below.refl _ _).alloc (Nat.le_refl _) (.cells #[.slice (some ⟨wr.heap.size, 0, none⟩) 8 8, .int .i64 0, .bool false] 101)).mono HC.out.size)) hzl hB ((OS.loc.alloc HO.out _).mono (fun q hq => ⟨hq.1, Nat.lt_of_lt_of_le hq.2 (by simp)⟩)) hg hat (by rw [HG1.out.1, HG1.out.2]; exact hown)
      have HST0 := hide hst0
      clear hgx hst0
      go_wp2_with fail
      go_region_law (first
        | (refine step_append_lies _ rfl _ _ 41 rfl u.heap.size 101 ix (.agg #[.slice none 0 0, .int .i64 0, .bool false]) 3 40 Tryz.underlying41 hix hzx0 hzx1 hzx2 rfl (by decide) v k xs rfl (HW.out.alloc _) ⟨wr.heap.size + 1, 0, none⟩ 1 1 [.slice (some ⟨wr.heap.size, 0, none⟩) 8 8, .int .i64 0, .bool false] rfl rfl (three_new (by go_simp) (by go_simp) (by go_simp)) (by simp [Value.oneCell']) (by omega) (by unfold maxLen; omega) (by omega) (by simp; omega) (wr.heap.size + 1 + 1) (by simp) ?_; intro g cp w5 hown1 hgrow hat hlt1; have HST := hide (HST0.out w5 g cp hgrow (by simpa using hat) hown1); have MG := HM.out.grown (HC.out.trans (((Below.refl _ _).alloc (Nat.le_refl _) _).mono HC.out.size)) hgrow (B := u.heap.size) (by omega) hB (fun q e => (HX.out.own.lt q e).1) (by simp) (by simp <;> omega); have s4 := (MG.get 0 rfl).cell 4 rfl; have t4 := (MG.get 0 rfl).fz 4 (by simp); have HMG := hide MG; have hz3 := hgrow.size; clear hown1 hgrow hat MG))
      all_goals (
        obtain ⟨la', lc', lb', hst⟩ := HST.out
        have HST2 := hide (hst.setC (P := w4.heap.size) (o := 4) (by omega) (.slice (some ⟨g, 0, none⟩) (k + 1) cp))
        have MP := HMG.out.put 0 rfl 4 (by simp) (.slice (some ⟨g, 0, none⟩) (k + 1) cp) (by omega) (by simp) (by simp <;> omega)
        simp only [List.set] at MP
        have HMP := hide MP
        clear hst MP HST
        go_wp2
        go_roundw
        case rel => exact ⟨k + 1, by omega, by go_num, _, _, _, _, _, HST2.out, HMP.out, by simp; simp at hz3; omega⟩
        case measure => simp [intOf]; omega)
    · have ek : dn = k := by omega
      subst ek
      have hlx := lenX_csN (show dn ≤ 4 by omega)
      obtain ⟨ya2, yc2, rfl, ox⟩ := HX.out.ox (length_csN dn) (by omega)
      have M5 := HM.out.fact OX.loc ox
      have eD : Hid (nsD ss ts ds ws dv cz gs = (⟨ss, ts, ds, ws, csN dn, 0, cz, [], dv, [], gs⟩ : SD)) := by show _ = _; unfold nsD; rw [hdl]
      have HRS : RS wr (⟨ra, n, rc, xa, tn, xc, ya, dn, yc, ma, wn, mc, ya2, dn, yc2, none, 0, 0, none, 0, 0, ga2, gn, gc2⟩ : SA) (⟨ss, ts, ds, ws, csN dn, 0, cz, [], dv, [], gs⟩ : SD) := ⟨(M5.get 4 rfl).1.rt, by show wn ≤ maxLen; unfold maxLen; omega, (M5.get 3 rfl).swd, by show dn ≤ maxLen; unfold maxLen; omega, (M5.get 0 rfl).scx, by show 0 ≤ maxLen; omega, ⟨rfl, fun h => absurd h (Nat.lt_irrefl 0)⟩, by show 0 ≤ maxLen; omega, ⟨rfl, fun h => absurd h (Nat.lt_irrefl 0)⟩, by show gn ≤ maxLen; unfold maxLen; omega, (M5.get 2 rfl).swd⟩
      have HR := hide HRS
      have HF7 := hide (l7Fault_calls w4.heap.size (⟨ra, n, rc, xa, tn, xc, ya, dn, yc, ma, wn, mc, ya2, dn, yc2, none, 0, 0, none, 0, 0, ga2, gn, gc2⟩ : SA) (⟨ss, ts, ds, ws, csN dn, 0, cz, [], dv, [], gs⟩ : SD) wr (M5.get 1 rfl) HRS)
      clear HX HM hlt o4 p4 HRS ox
      go_wp2_with fail
      refine HF7.out.mono ?_
      rintro e w6 ⟨rfl, g6⟩
      have z6 := g6.size
      have M6 := M5.below g6
      obtain ⟨cd, ecd⟩ : ∃ y, y = sysF (⟨ss, ts, ds, ws, csN dn, 0, cz, [], dv, [], gs⟩ : SD) := ⟨_, rfl⟩
      rw [← ecd]
      have ECD := hide ecd
      clear g6 M5 d2 HF7 ecd
      by_cases hs : cd = 0
      rotate_left
      · have HC : Hid (nsC ss ts ds ws dv cz gs = cd ∧ nsR ss ts ds ws dv cz gs = zeroD) := by
          show _ ∧ _
          rw [ECD.out, ← eD.out]
          exact ns_b Hf.out Hz.out (by rw [eD.out, ← ECD.out]; exact hs)
        have hne2 : (cd != 0) = true := by simpa using hs
        clear hs
        have c0_ := (M6.get 5 rfl).cell 0 rfl
        have f0_ := (M6.get 5 rfl).fz 0 (by simp)
        have c1_ := (M6.get 5 rfl).cell 1 rfl
        have f1_ := (M6.get 5 rfl).fz 1 (by simp)
        have c2_ := (M6.get 5 rfl).cell 2 rfl
        have f2_ := (M6.get 5 rfl).fz 2 (by simp)
        have c3_ := (M6.get 5 rfl).cell 3 rfl
        have f3_ := (M6.get 5 rfl).fz 3 (by simp)
        have c4_ := (M6.get 5 rfl).cell 4 rfl
        have f4_ := (M6.get 5 rfl).fz 4 (by simp)
        have c5_ := (M6.get 5 rfl).cell 5 rfl
        have f5_ := (M6.get 5 rfl).fz 5 (by simp)
        have c6_ := (M6.get 5 rfl).cell 6 rfl
        have f6_ := (M6.get 5 rfl).fz 6 (by simp)
        have c7_ := (M6.get 5 rfl).cell 7 rfl
        have f7_ := (M6.get 5 rfl).fz 7 (by simp)
        have c8_ := (M6.get 5 rfl).cell 8 rfl
        have f8_ := (M6.get 5 rfl).fz 8 (by simp)
        have c9_ := (M6.get 5 rfl).cell 9 rfl
        have f9_ := (M6.get 5 rfl).fz 9 (by simp)
        have c10_ := (M6.get 5 rfl).cell 10 rfl
        have f10_ := (M6.get 5 rfl).fz 10 (by simp)
        have c11_ := (M6.get 5 rfl).cell 11 rfl
        have f11_ := (M6.get 5 rfl).fz 11 (by simp)
        have HB := hide (below_set12 M6.bel (P := w.heap.size + 1) (by omega) (.int .i64 cd) (.slice none 0 0) (.slice none 0 0) (.slice none 0 0) (.slice none 0 0) (.slice none 0 0) (.int .i64 0) (.int .i64 0) (.slice none 0 0) (.int .i64 0) (.slice none 0 0) (.slice none 0 0))
        clear M6
        go_wp2
        have r0 := set12_at0 _ _ (.int .i64 cd) (.slice none 0 0) (.slice none 0 0) (.slice none 0 0) (.slice none 0 0) (.slice none 0 0) (.int .i64 0) (.int .i64 0) (.slice none 0 0) (.int .i64 0) (.slice none 0 0) (.slice none 0 0) ⟨_, c0_⟩
        have r1 := set12_at1 _ _ (.int .i64 cd) (.slice none 0 0) (.slice none 0 0) (.slice none 0 0) (.slice none 0 0) (.slice none 0 0) (.int .i64 0) (.int .i64 0) (.slice none 0 0) (.int .i64 0) (.slice none 0 0) (.slice none 0 0) ⟨_, c1_⟩
        have r2 := set12_at2 _ _ (.int .i64 cd) (.slice none 0 0) (.slice none 0 0) (.slice none 0 0) (.slice none 0 0) (.slice none 0 0) (.int .i64 0) (.int .i64 0) (.slice none 0 0) (.int .i64 0) (.slice none 0 0) (.slice none 0 0) ⟨_, c2_⟩
        have r3 := set12_at3 _ _ (.int .i64 cd) (.slice none 0 0) (.slice none 0 0) (.slice none 0 0) (.slice none 0 0) (.slice none 0 0) (.int .i64 0) (.int .i64 0) (.slice none 0 0) (.int .i64 0) (.slice none 0 0) (.slice none 0 0) ⟨_, c3_⟩
        have r4 := set12_at4 _ _ (.int .i64 cd) (.slice none 0 0) (.slice none 0 0) (.slice none 0 0) (.slice none 0 0) (.slice none 0 0) (.int .i64 0) (.int .i64 0) (.slice none 0 0) (.int .i64 0) (.slice none 0 0) (.slice none 0 0) ⟨_, c4_⟩
        have r5 := set12_at5 _ _ (.int .i64 cd) (.slice none 0 0) (.slice none 0 0) (.slice none 0 0) (.slice none 0 0) (.slice none 0 0) (.int .i64 0) (.int .i64 0) (.slice none 0 0) (.int .i64 0) (.slice none 0 0) (.slice none 0 0) ⟨_, c5_⟩
        have r6 := set12_at6 _ _ (.int .i64 cd) (.slice none 0 0) (.slice none 0 0) (.slice none 0 0) (.slice none 0 0) (.slice none 0 0) (.int .i64 0) (.int .i64 0) (.slice none 0 0) (.int .i64 0) (.slice none 0 0) (.slice none 0 0) ⟨_, c6_⟩
        have r7 := set12_at7 _ _ (.int .i64 cd) (.slice none 0 0) (.slice none 0 0) (.slice none 0 0) (.slice none 0 0) (.slice none 0 0) (.int .i64 0) (.int .i64 0) (.slice none 0 0) (.int .i64 0) (.slice none 0 0) (.slice none 0 0) ⟨_, c7_⟩
        have r8 := set12_at8 _ _ (.int .i64 cd) (.slice none 0 0) (.slice none 0 0) (.slice none 0 0) (.slice none 0 0) (.slice none 0 0) (.int .i64 0) (.int .i64 0) (.slice none 0 0) (.int .i64 0) (.slice none 0 0) (.slice none 0 0) ⟨_, c8_⟩
        have r9 := set12_at9 _ _ (.int .i64 cd) (.slice none 0 0) (.slice none 0 0) (.slice none 0 0) (.slice none 0 0) (.slice none 0 0) (.int .i64 0) (.int .i64 0) (.slice none 0 0) (.int .i64 0) (.slice none 0 0) (.slice none 0 0) ⟨_, c9_⟩
        have r10 := set12_at10 _ _ (.int .i64 cd) (.slice none 0 0) (.slice none 0 0) (.slice none 0 0) (.slice none 0 0) (.slice none 0 0) (.int .i64 0) (.int .i64 0) (.slice none 0 0) (.int .i64 0) (.slice none 0 0) (.slice none 0 0) ⟨_, c10_⟩
        have r11 := set12_at11 _ _ (.int .i64 cd) (.slice none 0 0) (.slice none 0 0) (.slice none 0 0) (.slice none 0 0) (.slice none 0 0) (.int .i64 0) (.int .i64 0) (.slice none 0 0) (.int .i64 0) (.slice none 0 0) (.slice none 0 0) ⟨_, c11_⟩
        refine bodyPost_ret (v := .agg #[.int .i64 cd, .slice none 0 0, .slice none 0 0, .slice none 0 0, .slice none 0 0, .slice none 0 0, .int .i64 0, .int .i64 0, .slice none 0 0, .int .i64 0, .slice none 0 0, .slice none 0 0]) (by simp [results, Tryz.results10, go_sem, r0, r1, r2, r3, r4, r5, r6, r7, r8, r9, r10, r11]) rfl ⟨zeroA, ?_, ?_, HB.out⟩
        · rw [HC.out.1, HC.out.2]; rfl
        · rw [HC.out.2]; exact OY.zero _ _
      subst hs
      have hne2 : ((0 : Int) != 0) = false := by decide
      have HC : Hid (nsC ss ts ds ws dv cz gs = 0 ∧ nsR ss ts ds ws dv cz gs = (⟨ss, ts, ds, ws, csN dn, 0, cz, [], dv, [], gs⟩ : SD)) := by
        show _ ∧ _
        rw [← eD.out]
        exact ns_y Hf.out Hz.out (by rw [eD.out, ← ECD.out])
      have hsz : szY (⟨ra, n, rc, xa, tn, xc, ya, dn, yc, ma, wn, mc, ya2, dn, yc2, none, 0, 0, none, 0, 0, ga2, gn, gc2⟩ : SA) (⟨ss, ts, ds, ws, csN dn, 0, cz, [], dv, [], gs⟩ : SD) ≤ 1048576 := by
        obtain ⟨k', H'⟩ := HR.out.right ECD.out.symm
        have := H'.tiny HR.out
        omega
      have HOY : OY (InR w1.heap.size wr.heap.size) (⟨ra, n, rc, xa, tn, xc, ya, dn, yc, ma, wn, mc, ya2, dn, yc2, none, 0, 0, none, 0, 0, ga2, gn, gc2⟩ : SA) (⟨ss, ts, ds, ws, csN dn, 0, cz, [], dv, [], gs⟩ : SD) w6 := by
        refine ⟨fun i => if i = 0 then InR w1.heap.size w2.heap.size else if i = 1 then InR w2.heap.size w3.heap.size else if i = 2 then InR u.heap.size wr.heap.size else if i = 5 then InR w3.heap.size w4.heap.size else fun _ => False, fun i q hq => ?_, fun i j q hij h1 h2 => ?_, hsz, Nat.le_refl 0, ⟨(M6.get 4 rfl).1, M6.get 3 rfl, M6.get 0 rfl, OL.nil _ _ _, ⟨rfl, by show 0 ≤ _; omega, .inl rfl⟩, M6.get 2 rfl⟩⟩
        · dsimp only at hq
          (repeat (split at hq; (have e1 := hq.1; have e2 := hq.2; exact ⟨by omega, by omega⟩)))
          exact hq.elim
        · dsimp only at h1 h2
          (repeat (split at h1; (have e1 := h1.1; have e2 := h1.2; (repeat (split at h2; first | omega | (have e3 := h2.1; have e4 := h2.2; omega))); exact h2)))
          exact h1
      have N6 := M6.fact OY.loc HOY
      clear M6 HOY hsz HR ECD eD
      have e0_ := (N6.get 2 rfl).cell 0 rfl
      have e1_ := (N6.get 2 rfl).cell 1 rfl
      have e2_ := (N6.get 2 rfl).cell 2 rfl
      have e3_ := (N6.get 2 rfl).cell 3 rfl
      have e4_ := (N6.get 2 rfl).cell 4 rfl
      have e5_ := (N6.get 2 rfl).cell 5 rfl
      have e6_ := (N6.get 2 rfl).cell 6 rfl
      have e7_ := (N6.get 2 rfl).cell 7 rfl
      have e8_ := (N6.get 2 rfl).cell 8 rfl
      have e9_ := (N6.get 2 rfl).cell 9 rfl
      have e10_ := (N6.get 2 rfl).cell 10 rfl
      have c0_ := (N6.get 6 rfl).cell 0 rfl
      have f0_ := (N6.get 6 rfl).fz 0 (by simp)
      have c1_ := (N6.get 6 rfl).cell 1 rfl
      have f1_ := (N6.get 6 rfl).fz 1 (by simp)
      have c2_ := (N6.get 6 rfl).cell 2 rfl
      have f2_ := (N6.get 6 rfl).fz 2 (by simp)
      have c3_ := (N6.get 6 rfl).cell 3 rfl
      have f3_ := (N6.get 6 rfl).fz 3 (by simp)
      have c4_ := (N6.get 6 rfl).cell 4 rfl
      have f4_ := (N6.get 6 rfl).fz 4 (by simp)
      have c5_ := (N6.get 6 rfl).cell 5 rfl
      have f5_ := (N6.get 6 rfl).fz 5 (by simp)
      have c6_ := (N6.get 6 rfl).cell 6 rfl
      have f6_ := (N6.get 6 rfl).fz 6 (by simp)
      have c7_ := (N6.get 6 rfl).cell 7 rfl
      have f7_ := (N6.get 6 rfl).fz 7 (by simp)
      have c8_ := (N6.get 6 rfl).cell 8 rfl
      have f8_ := (N6.get 6 rfl).fz 8 (by simp)
      have c9_ := (N6.get 6 rfl).cell 9 rfl
      have f9_ := (N6.get 6 rfl).fz 9 (by simp)
      have c10_ := (N6.get 6 rfl).cell 10 rfl
      have f10_ := (N6.get 6 rfl).fz 10 (by simp)
      have c11_ := (N6.get 6 rfl).cell 11 rfl
      have f11_ := (N6.get 6 rfl).fz 11 (by simp)
      have HB := hide (below_set12 N6.bel (P := w.heap.size + 1) (by omega) (.int .i64 0) (.slice ra n rc) (.slice xa tn xc) (.slice ya dn yc) (.slice ma wn mc) (.slice ya2 dn yc2) (.int .i64 0) (.int .i64 cz) (.slice none 0 0) (.int .i64 dv) (.slice none 0 0) (.slice ga2 gn gc2))
      have HO := hide (loc_set12 OY.loc (N6.get 0 rfl) (P := w.heap.size + 1) (fun h => by have := h.1; omega) (.int .i64 0) (.slice ra n rc) (.slice xa tn xc) (.slice ya dn yc) (.slice ma wn mc) (.slice ya2 dn yc2) (.int .i64 0) (.int .i64 cz) (.slice none 0 0) (.int .i64 dv) (.slice none 0 0) (.slice ga2 gn gc2))
      clear N6
      go_wp2
      have r0 := set12_at0 _ _ (.int .i64 0) (.slice ra n rc) (.slice xa tn xc) (.slice ya dn yc) (.slice ma wn mc) (.slice ya2 dn yc2) (.int .i64 0) (.int .i64 cz) (.slice none 0 0) (.int .i64 dv) (.slice none 0 0) (.slice ga2 gn gc2) ⟨_, c0_⟩
      have r1 := set12_at1 _ _ (.int .i64 0) (.slice ra n rc) (.slice xa tn xc) (.slice ya dn yc) (.slice ma wn mc) (.slice ya2 dn yc2) (.int .i64 0) (.int .i64 cz) (.slice none 0 0) (.int .i64 dv) (.slice none 0 0) (.slice ga2 gn gc2) ⟨_, c1_⟩
      have r2 := set12_at2 _ _ (.int .i64 0) (.slice ra n rc) (.slice xa tn xc) (.slice ya dn yc) (.slice ma wn mc) (.slice ya2 dn yc2) (.int .i64 0) (.int .i64 cz) (.slice none 0 0) (.int .i64 dv) (.slice none 0 0) (.slice ga2 gn gc2) ⟨_, c2_⟩
      have r3 := set12_at3 _ _ (.int .i64 0) (.slice ra n rc) (.slice xa tn xc) (.slice ya dn yc) (.slice ma wn mc) (.slice ya2 dn yc2) (.int .i64 0) (.int .i64 cz) (.slice none 0 0) (.int .i64 dv) (.slice none 0 0) (.slice ga2 gn gc2) ⟨_, c3_⟩
      have r4 := set12_at4 _ _ (.int .i64 0) (.slice ra n rc) (.slice xa tn xc) (.slice ya dn yc) (.slice ma wn mc) (.slice ya2 dn yc2) (.int .i64 0) (.int .i64 cz) (.slice none 0 0) (.int .i64 dv) (.slice none 0 0) (.slice ga2 gn gc2) ⟨_, c4_⟩
      have r5 := set12_at5 _ _ (.int .i64 0) (.slice ra n rc) (.slice xa tn xc) (.slice ya dn yc) (.slice ma wn mc) (.slice ya2 dn yc2) (.int .i64 0) (.int .i64 cz) (.slice none 0 0) (.int .i64 dv) (.slice none 0 0) (.slice ga2 gn gc2) ⟨_, c5_⟩
      have r6 := set12_at6 _ _ (.int .i64 0) (.slice ra n rc) (.slice xa tn xc) (.slice ya dn yc) (.slice ma wn mc) (.slice ya2 dn yc2) (.int .i64 0) (.int .i64 cz) (.slice none 0 0) (.int .i64 dv) (.slice none 0 0) (.slice ga2 gn gc2) ⟨_, c6_⟩
      have r7 := set12_at7 _ _ (.int .i64 0) (.slice ra n rc) (.slice xa tn xc) (.slice ya dn yc) (.slice ma wn mc) (.slice ya2 dn yc2) (.int .i64 0) (.int .i64 cz) (.slice none 0 0) (.int .i64 dv) (.slice none 0 0) (.slice ga2 gn gc2) ⟨_, c7_⟩
      have r8 := set12_at8 _ _ (.int .i64 0) (.slice ra n rc) (.slice xa tn xc) (.slice ya dn yc) (.slice ma wn mc) (.slice ya2 dn yc2) (.int .i64 0) (.int .i64 cz) (.slice none 0 0) (.int .i64 dv) (.slice none 0 0) (.slice ga2 gn gc2) ⟨_, c8_⟩
      have r9 := set12_at9 _ _ (.int .i64 0) (.slice ra n rc) (.slice xa tn xc) (.slice ya dn yc) (.slice ma wn mc) (.slice ya2 dn yc2) (.int .i64 0) (.int .i64 cz) (.slice none 0 0) (.int .i64 dv) (.slice none 0 0) (.slice ga2 gn gc2) ⟨_, c9_⟩
      have r10 := set12_at10 _ _ (.int .i64 0) (.slice ra n rc) (.slice xa tn xc) (.slice ya dn yc) (.slice ma wn mc) (.slice ya2 dn yc2) (.int .i64 0) (.int .i64 cz) (.slice none 0 0) (.int .i64 dv) (.slice none 0 0) (.slice ga2 gn gc2) ⟨_, c10_⟩
      have r11 := set12_at11 _ _ (.int .i64 0) (.slice ra n rc) (.slice xa tn xc) (.slice ya dn yc) (.slice ma wn mc) (.slice ya2 dn yc2) (.int .i64 0) (.int .i64 cz) (.slice none 0 0) (.int .i64 dv) (.slice none 0 0) (.slice ga2 gn gc2) ⟨_, c11_⟩
      refine bodyPost_ret (v := .agg #[.int .i64 0, .slice ra n rc, .slice xa tn xc, .slice ya dn yc, .slice ma wn mc, .slice ya2 dn yc2, .int .i64 0, .int .i64 cz, .slice none 0 0, .int .i64 dv, .slice none 0 0, .slice ga2 gn gc2]) (by simp [results, Tryz.results10, go_sem, r0, r1, r2, r3, r4, r5, r6, r7, r8, r9, r10, r11]) rfl ⟨(⟨ra, n, rc, xa, tn, xc, ya, dn, yc, ma, wn, mc, ya2, dn, yc2, none, 0, 0, none, 0, 0, ga2, gn, gc2⟩ : SA), ?_, ?_, HB.out⟩
      · rw [HC.out.1, HC.out.2]
      · rw [HC.out.2]; exact HO.out.mono (fun q hq => ⟨by have := hq.1; omega, by have := hq.2; simp; omega⟩)

end Go.Proofs.YtbfmdnnbiidlkaaGreat
