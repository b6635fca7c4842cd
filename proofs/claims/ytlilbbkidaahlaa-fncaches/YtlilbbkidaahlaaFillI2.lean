import Derived.Test.YtlilbbkidaahlaaFillP
import Derived.Test.YtlilbbkidaahlaaFlushI
import Derived.WalkKit
import Derived.ProofKit
import Derived.OpenShut
import Derived.ShutString
import Derived.ChangeOld
import Derived.Below
import Derived.WalkSpells
import Derived.Deep.QuietTactic
import Derived.BigQuiet
import Derived.Deep.RegionWith
import Derived.Deep.WholeRow
import Derived.Deep.DeepCutAuto
import Derived.Deep.RegionHeld2
import Derived.Deep.AppendLies
import Derived.Deep.RegionLaw
namespace Go.Proofs.Ytlilbbkidaahlaa
open Go.ChangeShapes Go.WideShapes Go.ChangeAt Go.RowKit

/-- what 'flushed' leaves, behind a cut. -/
def FF (w1 : World) (T : TypeId) (ks : List (Int × Int × Int)) (v : Value) (wd : World) : Prop := ∃ ra rc, v = .slice ra ks.length rc ∧ wd.ownsRow w1.heap.size T 3 v ks.length (vs3 ks) ∧ Below w1.heap.size w1 wd

theorem FF.mk {w1 wd : World} {T : TypeId} {ks : List (Int × Int × Int)} {ra : Option Addr} {rc : Nat} (ho : wd.ownsRow w1.heap.size T 3 (.slice ra ks.length rc) ks.length (vs3 ks)) (hb : Below w1.heap.size w1 wd) : FF w1 T ks (.slice ra ks.length rc) wd := ⟨ra, rc, rfl, ho, hb⟩

theorem Mm.belowB {w X w1 : World} {cs : List (Nat × Nat × Value)} {B0 : Nat} (M : Mm w X cs []) (g : Below B0 X w1) (hB : w.heap.size ≤ B0) (hc : ∀ c ∈ cs, c.1 < B0) : Mm w w1 cs [] :=
  ⟨M.bel.trans (g.mono hB), fun c k => ⟨by have := (M.cells c k).1; have := g.size; omega, (World.cell?_of_block (a := ⟨c.1, c.2.1, none⟩) (g.block c.1 (hc c k))).trans (M.cells c k).2.1, (World.frozen?_of_block (a := ⟨c.1, c.2.1, none⟩) (g.block c.1 (hc c k))).trans (M.cells c k).2.2⟩, fun f hf => by cases hf⟩

set_option maxRecDepth 100000 in
set_option maxHeartbeats 4000000 in
theorem implFillCacheC_calls (s : Int) (a : Option Addr) (n c : Nat) (ls : List (Int × Int × Int)) (d t q p : Int) (w : World) (hn : n ≤ maxLen) (hnc : n ≤ c) (hs : Sln w a n ls) :
    Calls Try.prog 6 #[.agg #[.int .i64 s, .slice a n c], .agg #[.int .i64 d, .int .i64 t, .int .i64 q], .int .i64 p] w fun e w' => ∃ ra rn rc, e = .returned (.agg #[.int .i64 (fiC s ls (d, t, q) p), .int .i64 (cV (fiC s ls (d, t, q) p) ((fiL s ls (d, t, q) p).length : Int)), .int .i64 (cV (fiC s ls (d, t, q) p) s), .slice ra rn rc]) ∧ rn ≤ rc ∧
      OL (InR w.heap.size w'.heap.size) ra rn (cL (fiC s ls (d, t, q) p) (fiL s ls (d, t, q) p)) w' ∧ Below w.heap.size w w' := by
  have M0 := (((Mm.start w).alloc2 (.int .i64 s) (.slice a n c) 26).alloc3 (.int .i64 d) (.int .i64 t) (.int .i64 q) 28).alloc4 (.int .i64 0) (.int .i64 0) (.int .i64 0) (.slice none 0 0) 32
  try simp only [World.size_alloc] at M0
  have hb2 := M0.bel
  have hlen := hs.1
  go_enter Try.func6, Try.ntmps6
  go_wp2_with fail
  refine (implCacheFault_calls s a n c ls _ hn hnc (hs.below hb2 (Nat.le_refl _))).mono ?_
  rintro e w1 ⟨rfl, g1⟩
  have M1 := M0.below g1
  have hs1 := hs.below M1.bel (Nat.le_refl _)
  clear M0 g1 hb2
  by_cases hf : faultC s ls = 0
  rotate_left
  · have HC := hide (fiC_fault (x := (d, t, q)) (p := p) hf)
    have hne : (faultC s ls != 0) = true := by simpa using hf
    have hf' : fiC s ls (d, t, q) p ≠ 0 := by rw [HC.out]; exact hf
    have HV := hide fun x => cV_no (n := x) hf'
    have HL := hide (cL_no (ls := fiL s ls (d, t, q) p) hf')
    clear hf'
    clear hf
    have c0 := M1.cell 0 rfl
    have c1 := M1.cell 1 rfl
    have c2 := M1.cell 2 rfl
    have c3 := M1.cell 3 rfl
    have f0 := M1.fz 0 rfl
    have f1 := M1.fz 1 rfl
    have f2 := M1.fz 2 rfl
    have f3 := M1.fz 3 rfl
    have HB := hide M1.bel
    clear M1
    go_wp2
    refine bodyPost_ret (v := .agg #[.int .i64 (faultC s ls), .int .i64 0, .int .i64 0, .slice none 0 0]) (by simp [results, Try.results6, go_sem, c0, c1, c2, c3]) rfl ⟨_, _, _, by rw [HV.out, HV.out, HC.out], Nat.le_refl _, ?_, ?_⟩
    · rw [HL.out]; exact OL.nil _ _ _
    · exact below_set4 HB.out (by omega) _ _ _ _
  have y0 := M1.cell 4 rfl
  have y1 := M1.cell 5 rfl
  have y2 := M1.cell 6 rfl
  cases hok : okL (d, t, q) with
  | false =>
    have HC := hide (fiC_bad (x := (d, t, q)) (p := p) hf (.inl hok))
    have hne : (faultC s ls != 0) = false := by simp [hf]
    have hf' : fiC s ls (d, t, q) p ≠ 0 := by rw [HC.out]; omega
    have HV := hide fun x => cV_no (n := x) hf'
    have HL := hide (cL_no (ls := fiL s ls (d, t, q) p) hf')
    clear hf'
    clear hf
    go_wp2_with fail
    refine (isInBounds_calls d t q _).mono ?_
    rintro e w2 ⟨rfl, g2⟩
    rw [hok]
    have M2 := M1.below g2
    have c0 := M2.cell 0 rfl
    have c1 := M2.cell 1 rfl
    have c2 := M2.cell 2 rfl
    have c3 := M2.cell 3 rfl
    have f0 := M2.fz 0 rfl
    have f1 := M2.fz 1 rfl
    have f2 := M2.fz 2 rfl
    have f3 := M2.fz 3 rfl
    have HB := hide M2.bel
    clear M1 M2 g2 y0 y1 y2
    go_wp2
    refine bodyPost_ret (v := .agg #[.int .i64 3, .int .i64 0, .int .i64 0, .slice none 0 0]) (by simp [results, Try.results6, go_sem, c0, c1, c2, c3]) rfl ⟨_, _, _, by rw [HV.out, HV.out, HC.out], Nat.le_refl _, ?_, ?_⟩
    · rw [HL.out]; exact OL.nil _ _ _
    · exact below_set4 HB.out (by omega) _ _ _ _
  | true =>
    by_cases hp : p < 0
    · have HC := hide (fiC_bad (x := (d, t, q)) (p := p) hf (.inr hp))
      have hne : (faultC s ls != 0) = false := by simp [hf]
      have hf' : fiC s ls (d, t, q) p ≠ 0 := by rw [HC.out]; omega
      have HV := hide fun x => cV_no (n := x) hf'
      have HL := hide (cL_no (ls := fiL s ls (d, t, q) p) hf')
      clear hf'
      clear hf
      go_wp2_with fail
      refine (isInBounds_calls d t q _).mono ?_
      rintro e w2 ⟨rfl, g2⟩
      rw [hok]
      have M2 := M1.below g2
      have c0 := M2.cell 0 rfl
      have c1 := M2.cell 1 rfl
      have c2 := M2.cell 2 rfl
      have c3 := M2.cell 3 rfl
      have f0 := M2.fz 0 rfl
      have f1 := M2.fz 1 rfl
      have f2 := M2.fz 2 rfl
      have f3 := M2.fz 3 rfl
      have HB := hide M2.bel
      clear M1 M2 g2 y0 y1 y2
      go_wp2
      refine bodyPost_ret (v := .agg #[.int .i64 3, .int .i64 0, .int .i64 0, .slice none 0 0]) (by simp [results, Try.results6, go_sem, c0, c1, c2, c3]) rfl ⟨_, _, _, by rw [HV.out, HV.out, HC.out], Nat.le_refl _, ?_, ?_⟩
      · rw [HL.out]; exact OL.nil _ _ _
      · exact below_set4 HB.out (by omega) _ _ _ _
    · have hp0 : 0 ≤ p := by omega
      have HF := hide (fiC_ok (x := (d, t, q)) hf hok hp0)
      have HV := hide fun x => cV_ok (n := x) HF.out
      have HL := hide (cL_ok (ls := fiL s ls (d, t, q) p) HF.out)
      have hne : (faultC s ls != 0) = false := by simp [hf]
      have hinv := faultC_inv hf
      have hn6 : n ≤ 6 := by omega
      have hns : (n : Int) ≤ s := by omega
      have hfl := length_fiL (s := s) (ls := ls) (d, t, q) p (by omega)
      have hnn := okL_nonneg hok
      have HDL := hide (flL_dropL (fun j hj => (hinv.2.2.2 j hj).2) hnn.1 hnn.2)
      clear hf hinv hnn
      go_wp2_with fail
      refine (isInBounds_calls d t q _).mono ?_
      rintro e w2 ⟨rfl, g2⟩
      rw [hok]
      have M2 := M1.below g2
      have q0 := M2.cell 7 rfl
      have hs2 := hs1.below g2 (Nat.le_refl _)
      have z1 := M2.bel.size
      have zP := M2.lt 0 rfl
      clear g2 y0 y1 y2 M1 hs1
      by_cases hs0 : s = 0
      · have hse : (s == 0) = true := by simpa using hs0
        have HE := hide (fiL_zero (s := s) (ls := ls) (x := (d, t, q)) (p := p) hs0)
        clear hs0
        go_wp2_with fail
        refine (remembered_calls s none 0 0 _).mono ?_
        rintro e w3 ⟨rfl, g3⟩
        have M3 := M2.below g3
        have c0 := M3.cell 0 rfl
        have c1 := M3.cell 1 rfl
        have c2 := M3.cell 2 rfl
        have c3 := M3.cell 3 rfl
        have f0 := M3.fz 0 rfl
        have f1 := M3.fz 1 rfl
        have f2 := M3.fz 2 rfl
        have f3 := M3.fz 3 rfl
        have HB := hide M3.bel

        clear M2 M3 g3 q0
        go_wp2
        refine bodyPost_ret (v := .agg #[.int .i64 0, .int .i64 0, .int .i64 s, .slice none 0 0]) (by simp [results, Try.results6, go_sem, c0, c1, c2, c3]) rfl ⟨_, _, _, by rw [HV.out, HV.out, HF.out, HE.out]; rfl, Nat.le_refl _, ?_, ?_⟩
        · rw [HL.out, HE.out]; exact OL.nil _ _ _
        · exact below_set4 HB.out (by omega) _ _ _ _
      · have hse : (s == 0) = false := by simpa using hs0
        have q1 := M2.cell 8 rfl
        have y0 := M2.cell 4 rfl
        have y1 := M2.cell 5 rfl
        have y2 := M2.cell 6 rfl
        have HM := hide M2
        have HS := hide hs2
        have HS0 := hide hs0
        clear M2 hs2 hs0
        go_upto_region 8 with fail
        go_cut [8] (fun v wd => FF w2 28 (dropL ls d t) v wd)
        case first =>
          go_region_with (first
            | (go_at_call 22; refine (withoutPerm_calls d t q _).mono ?_; rintro e wa ⟨rfl, ga⟩; have ha : Below w2.heap.size w2 wa := ((Below.refl w2.heap.size w2).drew).trans ga; have qa := (HM.out.below ha).cell 8 rfl; clear ga)
            | (go_at_call 21; refine (flushed_calls a n c ls d t _ (by omega) ?_).mono ?_; exact HS.out.below ha (Nat.le_refl _); rintro e wb ⟨v, rfl, ho, gb⟩; rw [HDL.out] at ho; obtain ⟨ra, rc, rfl, _⟩ := own_ol (by have := length_dropL ls d t; omega) rfl ho; have hF := FF.mk (own_mono ho ha.size) (ha.trans (gb.mono ha.size)); clear ho gb))
          all_goals go_wp2_with fail
          all_goals go_meet
          all_goals exact hF
        case rest =>
          obtain ⟨ra, rc, rfl, ho, gc⟩ := hcut
          obtain ⟨w3, rfl⟩ : ∃ x, x = wc := ⟨wc, rfl⟩
          obtain ⟨i0, hi0, hz0, hz1, hz2⟩ := info_parts infoLine
          have M3 := HM.out.below gc
          have z3 := gc.size
          have hkl := length_dropL ls d t
          have q0 := M3.cell 7 rfl
          have y0 := M3.cell 4 rfl
          have y1 := M3.cell 5 rfl
          have y2 := M3.cell 6 rfl
          clear gc
          by_cases hful : s ≤ ((dropL ls d t).length : Int)
          · have HE := hide (fiL_full (p := p) (x := (d, t, q)) HS0.out rfl hful)
            have heq : (((dropL ls d t).length : Int) == s) = true := by simp; omega
            have hel := length_evL (dropL ls d t) p
            have hsl := own_sln ho rfl
            clear hful ho
            go_wp2_with fail
            refine (evicted_calls ra (dropL ls d t).length rc (dropL ls d t) p _ (by omega) hp0 hsl).mono ?_
            rintro e w4 ⟨v, rfl, ho4, g4⟩
            obtain ⟨ea, ec, rfl, _⟩ := own_ol (by omega) rfl ho4
            have M := M3.below g4
            have z4 := g4.size
            have ho := own_mono ho4 z3
            have HK : Hid ((evL (dropL ls d t) p).length + 0 = (evL (dropL ls d t) p).length) := by show _ = _; omega
            clear M3 g4 ho4 hsl q0 y0 y1 y2
            have q0 := M.cell 7 rfl
            have y0 := M.cell 4 rfl
            have y1 := M.cell 5 rfl
            have y2 := M.cell 6 rfl
            have HX := hide M
            have HO := hide (own_drew (own_below ho ((Below.refl _ _).alloc (Nat.le_refl _) (.cells #[.int .i64 d, .int .i64 t, .int .i64 q] 28))))
            have HO0 := hide ho
            have hNX : w.heap.size < w4.heap.size := by omega
            clear M ho
            go_wp2_with fail
            go_region_law (first
              | (refine step_append_lies _ rfl _ _ 24 rfl w2.heap.size 28 i0 (.agg #[.int .i64 0, .int .i64 0, .int .i64 0]) 3 24 Try.underlying24 hi0 hz0 hz1 hz2 rfl (by decide) _ (evL (dropL ls d t) p).length (vs3 (evL (dropL ls d t) p)) rfl HO.out ⟨w4.heap.size, 0, none⟩ 1 1 (vs3 [(d, t, q)]) rfl rfl (three_new (by go_simp) (by go_simp) (by go_simp)) ints_one (by omega) (by unfold maxLen; omega) (by omega) (by simp; omega) (w4.heap.size + 1) (by simp) ?_; intro g cp w5 hown5 hgrow5 hat5 hlt5; have hcp5 := (own_room hown5).1; have G5 : Below w2.heap.size w4 w5 := (((Below.refl w2.heap.size w4).alloc (by omega) _).drew).grown hgrow5 (by simp; omega) (fun k hk => (HO0.out.lt k hk).1); have M5 := HX.out.belowB G5 z1 (by simp; omega); have q0' := M5.cell 7 rfl; have z5 := G5.size; have hol : OL (InR w2.heap.size w5.heap.size) (some ⟨g, 0, none⟩) ((evL (dropL ls d t) p).length + 1) (evL (dropL ls d t) p ++ [(d, t, q)]) w5 := (by rw [← vs3_append] at hown5; obtain ⟨ya, yc, hy, ho⟩ := own_ol (by omega) (by rw [List.length_append]; rfl) hown5; simp only [Value.slice.injEq, true_and] at hy; obtain ⟨rfl, _⟩ := hy; exact ho); clear hown5 hgrow5 hat5 hlt5 G5)
              | (go_simp; go_at_call 20; refine (remembered_calls s (some ⟨g, 0, none⟩) ((evL (dropL ls d t) p).length + 1) cp _).mono ?_; rintro e w6 ⟨rfl, gb⟩; have M6 := M5.below gb; have z6 := gb.size; have ol6 := OL.loc.below gb hol; clear gb M5 hol; have r0 := M6.cell 0 rfl; have r1 := M6.cell 1 rfl; have r2 := M6.cell 2 rfl; have r3 := M6.cell 3 rfl; have e0 := M6.fz 0 rfl; have e1 := M6.fz 1 rfl; have e2 := M6.fz 2 rfl; have e3 := M6.fz 3 rfl))
            all_goals (
              have HB := hide M6.bel
              have HL2 : Hid ((fiL s ls (d, t, q) p).length = (evL (dropL ls d t) p).length + 1) := by show _ = _; rw [HE.out, List.length_append]; rfl
              have HL3 : Hid (((fiL s ls (d, t, q) p).length : Int) = ((evL (dropL ls d t) p).length : Int) + 1) := by show _ = _; rw [HL2.out]; omega
              clear M6
              go_wp2
              refine bodyPost_ret (v := .agg #[.int .i64 0, .int .i64 (((evL (dropL ls d t) p).length : Int) + 1), .int .i64 s, .slice (some ⟨g, 0, none⟩) ((evL (dropL ls d t) p).length + 1) cp]) (by simp [results, Try.results6, go_sem, r0, r1, r2, r3]) rfl ⟨some ⟨g, 0, none⟩, _, cp, by rw [HV.out, HV.out, HF.out, HL3.out], hcp5, ?_, below_set4 HB.out (by omega) _ _ _ _⟩
              rw [HL.out, HE.out]
              exact (OL.set4 ol6 (fun e => by have := e.1; omega) _ _ _ _).mono (fun k hk => ⟨by have := hk.1; omega, by have := hk.2; simp; omega⟩))
          · have HE := hide (fiL_room (p := p) (x := (d, t, q)) HS0.out rfl hful)
            have heq : (((dropL ls d t).length : Int) == s) = false := by simp; omega
            have M := M3
            clear hful M3 q0 y0 y1 y2
            have q0 := M.cell 7 rfl
            have y0 := M.cell 4 rfl
            have y1 := M.cell 5 rfl
            have y2 := M.cell 6 rfl
            have HX := hide M
            have HO := hide (own_drew (own_below ho ((Below.refl _ _).alloc (Nat.le_refl _) (.cells #[.int .i64 d, .int .i64 t, .int .i64 q] 28))))
            have HO0 := hide ho
            have hNX : w.heap.size < w3.heap.size := by omega
            clear M ho
            go_wp2_with fail
            go_region_law (first
              | (refine step_append_lies _ rfl _ _ 24 rfl w2.heap.size 28 i0 (.agg #[.int .i64 0, .int .i64 0, .int .i64 0]) 3 24 Try.underlying24 hi0 hz0 hz1 hz2 rfl (by decide) _ (dropL ls d t).length (vs3 (dropL ls d t)) rfl HO.out ⟨w3.heap.size, 0, none⟩ 1 1 (vs3 [(d, t, q)]) rfl rfl (three_new (by go_simp) (by go_simp) (by go_simp)) ints_one (by omega) (by unfold maxLen; omega) (by omega) (by simp; omega) (w3.heap.size + 1) (by simp) ?_; intro g cp w5 hown5 hgrow5 hat5 hlt5; have hcp5 := (own_room hown5).1; have G5 : Below w2.heap.size w3 w5 := (((Below.refl w2.heap.size w3).alloc (by omega) _).drew).grown hgrow5 (by simp; omega) (fun k hk => (HO0.out.lt k hk).1); have M5 := HX.out.belowB G5 z1 (by simp; omega); have q0' := M5.cell 7 rfl; have z5 := G5.size; have hol : OL (InR w2.heap.size w5.heap.size) (some ⟨g, 0, none⟩) ((dropL ls d t).length + 1) (dropL ls d t ++ [(d, t, q)]) w5 := (by rw [← vs3_append] at hown5; obtain ⟨ya, yc, hy, ho⟩ := own_ol (by omega) (by rw [List.length_append]; rfl) hown5; simp only [Value.slice.injEq, true_and] at hy; obtain ⟨rfl, _⟩ := hy; exact ho); clear hown5 hgrow5 hat5 hlt5 G5)
              | (go_simp; go_at_call 20; refine (remembered_calls s (some ⟨g, 0, none⟩) ((dropL ls d t).length + 1) cp _).mono ?_; rintro e w6 ⟨rfl, gb⟩; have M6 := M5.below gb; have z6 := gb.size; have ol6 := OL.loc.below gb hol; clear gb M5 hol; have r0 := M6.cell 0 rfl; have r1 := M6.cell 1 rfl; have r2 := M6.cell 2 rfl; have r3 := M6.cell 3 rfl; have e0 := M6.fz 0 rfl; have e1 := M6.fz 1 rfl; have e2 := M6.fz 2 rfl; have e3 := M6.fz 3 rfl))
            all_goals (
              have HB := hide M6.bel
              have HL2 : Hid ((fiL s ls (d, t, q) p).length = (dropL ls d t).length + 1) := by show _ = _; rw [HE.out, List.length_append]; rfl
              have HL3 : Hid (((fiL s ls (d, t, q) p).length : Int) = ((dropL ls d t).length : Int) + 1) := by show _ = _; rw [HL2.out]; omega
              clear M6
              go_wp2
              refine bodyPost_ret (v := .agg #[.int .i64 0, .int .i64 (((dropL ls d t).length : Int) + 1), .int .i64 s, .slice (some ⟨g, 0, none⟩) ((dropL ls d t).length + 1) cp]) (by simp [results, Try.results6, go_sem, r0, r1, r2, r3]) rfl ⟨some ⟨g, 0, none⟩, _, cp, by rw [HV.out, HV.out, HF.out, HL3.out], hcp5, ?_, below_set4 HB.out (by omega) _ _ _ _⟩
              rw [HL.out, HE.out]
              exact (OL.set4 ol6 (fun e => by have := e.1; omega) _ _ _ _).mono (fun k hk => ⟨by have := hk.1; omega, by have := hk.2; simp; omega⟩))

end Go.Proofs.Ytlilbbkidaahlaa
