import Derived.Test.YtpgpoeljbppggaaDoorAsD
import Derived.Deep.AppendLies
import Derived.WalkKit
import Derived.ProofKit
import Derived.OpenShut
import Derived.ShutString
import Derived.ChangeOld
import Derived.Below
import Derived.WalkSpells
import Derived.Deep.QuietTactic
import Derived.BigQuiet
import Derived.Deep.RegionWith
import Derived.Deep.WholeRow
import Derived.Deep.DeepCutAuto
import Derived.Deep.RegionHeld2
import Derived.Deep.AppendLies
import Derived.Deep.RegionLaw
namespace Go.Proofs.YtpgpoeljbppggaaDoor
open Go.ChangeShapes Go.WideShapes Go.ChangeAt Go.RowKit

theorem psAll (ps : List ByteArray) : ∃ (o a b i : Int) (B : Bool), psV ps = .tuple #[.agg #[.int .i64 o, .int .i64 a, .int .i64 b, .int .i64 i], .bool B] ∧ (B = true → psI ps = (0, o, a, b, i) ∧ ifC o a b i = 0) ∧ (B = false → (psI ps).1 = 5) := by
  rcases psBoth ps with ⟨hv, hi⟩ | ⟨o, a, b, i, hv, hi⟩
  · exact ⟨0, 0, 0, 0, false, hv, fun h => by contradiction, fun _ => by rw [hi]⟩
  · refine ⟨o, a, b, i, _, hv, fun h => ?_, fun h => ?_⟩
    · have hc : ifC o a b i = 0 := by simpa using h
      exact ⟨by rw [hi, if_pos hc], hc⟩
    · have hc : ifC o a b i ≠ 0 := by simpa using h
      rw [hi, if_neg hc]

set_option maxRecDepth 100000 in
set_option maxHeartbeats 4000000 in
theorem specAssemble_calls (a : Option Addr) (n c : Nat) (ls : List ByteArray) (w : World) (hs : Sts w a n ls) (hz : ∀ j, j < n → (ls.getD j ⟨#[]⟩).size ≤ 1048576) (hn : n ≤ 1048576) :
    Calls Tryd.prog 17 #[.slice a n c] w fun e w' => ∃ ra rn rc, e = .returned (.agg #[.int .i64 (asmC ls), .slice ra rn rc]) ∧ OS (InR w.heap.size w'.heap.size) ra rn (asmL ls) w' ∧ Below w.heap.size w w' := by
  have M0 := (Mm.start w).allocC [.int .i64 0, .slice none 0 0] 42
  have hlen := hs.1
  by_cases h32 : 32 < n
  · have g0 : (n : Int) > 32 := by omega
    have HC := hide (asmC_many (ls := ls) (by omega))
    have HN : Hid (asmL ls = []) := asmL_no (by rw [HC.out]; decide)
    have HB := hide M0.bel
    clear h32 M0
    go_enter Tryd.func17, Tryd.ntmps17
    go_wp2
    refine bodyPost_ret (v := .agg #[.int .i64 2, .slice none 0 0]) (by simp [results, Tryd.results17, go_sem]) rfl ⟨none, 0, 0, by rw [HC.out], ?_, (Below.refl _ _).alloc (Nat.le_refl _) _⟩
    rw [HN.out]
    exact osNil _ _
  have H32 := hide h32
  have g0 : ¬ ((n : Int) > 32) := by omega
  clear h32
  obtain ⟨i0, hi, hz0, hz1, hz2⟩ := info_parts info2
  obtain ⟨u, hu⟩ : ∃ y, y = (w.alloc (.cells #[.int .i64 0, .slice none 0 0] 42)).alloc (.cells #[.int .i64 0, .slice none 0 0] 42) := ⟨_, rfl⟩
  have N2 := M0.allocC [.int .i64 0, .slice none 0 0] 42
  rw [← hu] at N2
  have za : (w.alloc (.cells #[.int .i64 0, .slice none 0 0] 42)).heap.size = w.heap.size + 1 := by simp
  rw [za] at N2
  have zu : u.heap.size = w.heap.size + 2 := by rw [hu]; simp
  have HN2 := hide N2
  have Hu := hide hu
  clear N2 M0 hu
  go_enter Tryd.func17, Tryd.ntmps17
  go_upto_region 4 with fail
  rw [← Hu.out]
  clear Hu
  go_wp2
  go_loopw [4] (fun q wr => ∃ (k : Nat) (v : Value), k ≤ n ∧ q = .int .i64 k ∧ (∀ j, j < k → (lnR ls j).1 = 0) ∧ wr.ownsRow (w.heap.size + 2) 2 1 v k ((asmW ls k).map (Value.int .i64)) ∧ Mm w wr [] [(w.heap.size + 1, w.heap.size + 1 + 1, Cs (w.heap.size + 1) [.int .i64 0, v]), (w.heap.size, w.heap.size + 1, Cs w.heap.size [.int .i64 0, .slice none 0 0])] ∧ w.heap.size + 2 ≤ wr.heap.size) (fun q _ => n - (intOf q).toNat)
  case atStart => exact ⟨0, _, Nat.zero_le _, rfl, fun j hj => by omega, World.ownsRow_nil _ _ _ _, HN2.out, by omega⟩
  case round =>
    clear HN2
    obtain ⟨k, v, hkn, rfl, hgood, own, M, hB⟩ := hrel
    have o1 := (M.get 0 rfl).cell 1 rfl
    have o0 := (M.get 0 rfl).cell 0 rfl
    have p1 := (M.get 0 rfl).fz 1 (by simp)
    have p0 := (M.get 0 rfl).fz 0 (by simp)
    by_cases hlt : k < n
    · obtain ⟨b, rfl, hb, hc⟩ := hs.2 (by omega)
      have cl := (M.bel.cell (p := ⟨b, k, none⟩) hb).trans (hc k hlt)
      have hsz := hz k hlt
      obtain ⟨L, hL⟩ : ∃ L, L = ls.getD k ⟨#[]⟩ := ⟨_, rfl⟩
      have hv0 : lnR ls k = psI (cuts L 0) := by rw [hL]; rfl
      rw [← hL] at cl hsz
      clear hL
      have k0 : (0 : Int) ≤ (k : Int) := by omega
      have k1 : (k : Int) < (n : Int) := by omega
      have hbs := M.bel.size
      have HGO := hide hgood
      have HMW := hide M
      have HOW := hide own
      have HV0 := hide hv0
      obtain ⟨o, q1, q2, q3, B, hps, hB1, hB0⟩ := psAll (cuts L 0)
      have HB1 := hide hB1
      have HB0 := hide hB0
      clear hc hgood own M hv0 hB1 hB0
      clear o1 o0 p1 p0
      go_wp2_with fail
      refine (l5Cut_calls L _ hsz).mono ?_
      rintro e w1 ⟨ra, rn, rc, rfl, hst, g1⟩
      have z1 := g1.size
      go_wp2_with fail
      refine (l5Parse_calls ra rn rc _ _ hst).mono ?_
      rintro e w2 ⟨rfl, g2⟩
      have z2 := g2.size
      rw [hps]
      have hbx : Below wr.heap.size wr (w2.alloc (.cells #[.int .i64 o, .int .i64 q1, .int .i64 q2, .int .i64 q3] 26)) := (g1.trans (g2.mono z1)).alloc (by omega) _
      have MW := HMW.out.below (g1.trans (g2.mono z1))
      have M2 := MW.allocC [.int .i64 o, .int .i64 q1, .int .i64 q2, .int .i64 q3] 26
      have HBX := hide hbx
      clear hst hps g1 g2 hbx cl MW
      cases B
      · have HE5 : Hid ((lnR ls k).1 = 5) := by show _ = _; rw [HV0.out]; exact HB0.out rfl
        have HC : Hid (asmC ls = 5) := asmC_bad (k := k) (by have := H32.out; omega) (by omega) (by rw [HE5.out]; decide)
        have HN : Hid (asmL ls = []) := asmL_no (by rw [HC.out]; decide)
        have r0 := (M2.get 2 rfl).cell 0 rfl
        have r1 := (M2.get 2 rfl).cell 1 rfl
        have f0 := (M2.get 2 rfl).fz 0 (by simp)
        have f1 := (M2.get 2 rfl).fz 1 (by simp)
        have HB := hide M2.bel
        clear M2
        go_wp2
        refine bodyPost_ret (v := .agg #[.int .i64 5, .slice none 0 0]) (by simp [results, Tryd.results17, go_sem, r0, r1]) rfl ⟨none, 0, 0, by rw [HC.out], ?_, (HB.out.setCell (by simp) _).setCell (by simp) _⟩
        rw [HN.out]
        exact osNil _ _
      · obtain ⟨hpi, hif⟩ := HB1.out rfl
        have hlr : lnR ls k = (0, o, q1, q2, q3) := by rw [HV0.out, hpi]
        have HGE : Hid (∀ j, j < k + 1 → (lnR ls j).1 = 0) := by
          intro j hj
          by_cases hjk : j = k
          · rw [hjk, hlr]
          · exact HGO.out j (by omega)
        obtain ⟨E, hE⟩ : ∃ E, E = encI o q1 q2 q3 := ⟨_, rfl⟩
        have HN : Hid ((asmW ls (k + 1)).map (Value.int .i64) = (asmW ls k).map (Value.int .i64) ++ [.int .i64 E]) := by
          show _ = _
          rw [asmW_succ, List.map_append, hlr, hE]
          rfl
        have HENC : ∀ X : World, X.cell? ⟨w2.heap.size, 0, none⟩ = some (.int .i64 o) → X.cell? ⟨w2.heap.size, 1, none⟩ = some (.int .i64 q1) → X.cell? ⟨w2.heap.size, 2, none⟩ = some (.int .i64 q2) → X.cell? ⟨w2.heap.size, 3, none⟩ = some (.int .i64 q3) → Calls Tryd.prog 44 #[.pointer (some ⟨w2.heap.size, 0, none⟩)] X fun e w' => e = .returned (.int .i64 E) ∧ w' = X.drew := fun X x0 x1 x2 x3 => by rw [hE]; exact l5Encode_calls _ o q1 q2 q3 X hif x0 x1 x2 x3
        have HM2 := hide M2
        clear hpi hlr hE hif M2
        go_wp2_with fail
        obtain ⟨X, hX⟩ : ∃ X, X = w2.alloc (.cells #[.int .i64 o, .int .i64 q1, .int .i64 q2, .int .i64 q3] 26) := ⟨_, rfl⟩
        have zX : X.heap.size = w2.heap.size + 1 := by rw [hX]; simp
        have M2 := HM2.out
        rw [← hX] at M2 ⊢
        have c0 := (M2.get 0 rfl).cell 0 rfl
        have c1 := (M2.get 0 rfl).cell 1 rfl
        have c2 := (M2.get 0 rfl).cell 2 rfl
        have c3 := (M2.get 0 rfl).cell 3 rfl
        have o0 := (M2.get 1 rfl).cell 0 rfl
        have o1 := (M2.get 1 rfl).cell 1 rfl
        have p0 := (M2.get 1 rfl).fz 0 (by simp)
        have p1 := (M2.get 1 rfl).fz 1 (by simp)
        have hBX := HBX.out
        rw [← hX] at hBX
        have HC1 : Hid (Below wr.heap.size wr (X.drew.drew.alloc (.cells #[.int .i64 E] 2))) := (hBX.drew.drew).alloc (by simp; omega) _
        have l0 : w.heap.size + 1 < X.heap.size := by omega
        clear M2 HM2 HBX hBX hX zX
        go_region_law (first
          | (go_simp; go_at_call 44; refine (HENC _ (by simpa using c0) (by simpa using c1) (by simpa using c2) (by simpa using c3)).mono ?_; rintro e w4 ⟨rfl, rfl⟩)
          | (go_loud (refine step_append_lies _ rfl _ _ 40 rfl (w.heap.size + 2) 2 i0 (.int .i64 0) 1 8 Tryd.underlying40 hi hz0 hz1 hz2 rfl (by decide) v _ _ rfl (ownR_below HOW.out HC1.out) ⟨X.heap.size, 0, none⟩ 1 1 [.int .i64 E] rfl rfl (one_new (by go_simp)) (by simp [Value.oneCell']) (by omega) (by unfold maxLen; omega) (by omega) (by simp; omega) (X.heap.size + 1) (by simp) ?_); intro g cp w5 hown1 hgrow hat hlt1; have MG := HMW.out.grownN HC1.out hgrow (B := w.heap.size + 2) (by omega) hB (fun q e => (HOW.out.lt q e).1) (by simp) (by simp <;> omega); have s1 := (MG.get 0 rfl).cell 1 rfl; have x1 := (MG.get 0 rfl).fz 1 (by simp); have HMG := hide MG; have HO5 := hide hown1; have hz3 := hgrow.size; clear hown1 hgrow hat MG))
        all_goals (
          have MP := HMG.out.put 0 rfl 1 (by simp) (.slice (some ⟨g, 0, none⟩) (k + 1) cp) (by omega) (by simp) (by simp <;> omega)
          simp only [List.set] at MP
          have HMP := hide MP
          have HOW2 := hide (ownR_set HO5.out (P := w.heap.size + 1) (o := 1) (by omega) (.slice (some ⟨g, 0, none⟩) (k + 1) cp))
          clear MP HMG HO5
          go_wp2
          go_roundw
          case rel => exact ⟨k + 1, _, by omega, by go_num, HGE.out, by rw [HN.out]; exact HOW2.out, HMP.out, by simp; simp at hz3; omega⟩
          case measure => simp [intOf]; omega)
    · obtain rfl : k = n := by omega
      have hge : ¬ ((k : Int) < (k : Int)) := by omega
      have HC : Hid (asmC ls = 0) := asmC_ok (by have := H32.out; omega) (fun j hj => hgood j (by omega))
      have HN : Hid (asmL ls = asmW ls k) := by show _ = _; rw [asmL_ok HC.out, hlen]
      obtain ⟨ra, rc, rfl, fr⟩ := owns_osl (by omega) own
      have M5 := M.fact OS.loc (OS.ofOSl fr)
      have c0_ := (M5.get 2 rfl).cell 0 rfl
      have c1_ := (M5.get 2 rfl).cell 1 rfl
      have f0_ := (M5.get 2 rfl).fz 0 (by simp)
      have f1_ := (M5.get 2 rfl).fz 1 (by simp)
      have HB := hide M5.bel
      have HO := hide (M5.get 0 rfl)
      clear M M5 own fr hlt hgood
      go_wp2
      refine bodyPost_ret (v := .agg #[.int .i64 0, .slice ra k rc]) (by simp [results, Tryd.results17, go_sem, c0_, c1_]) rfl ⟨ra, k, ⟨rc, by rw [HC.out]⟩, ?_, (HB.out.setCell (by simp <;> omega) _).setCell (by simp <;> omega) _⟩
      rw [HN.out]
      exact (OS.loc.setC (OS.loc.setC HO.out (fun h => by have := h.1; simp at this; omega) _) (fun h => by have := h.1; simp at this; omega) _).mono (fun q e => ⟨by have := e.1; omega, by have := e.2; simp; omega⟩)

end Go.Proofs.YtpgpoeljbppggaaDoor
