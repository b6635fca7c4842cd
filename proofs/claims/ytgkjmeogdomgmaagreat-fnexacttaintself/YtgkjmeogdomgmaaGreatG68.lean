import Derived.Test.YtgkjmeogdomgmaaGreatG25
import Derived.Test.YtgkjmeogdomgmaaGreatG7
import Derived.Test.YtgkjmeogdomgmaaGreatG60
import Derived.Test.YtgkjmeogdomgmaaGreatG9
import Derived.Test.YtgkjmeogdomgmaaGreatG8
import Derived.Deep.AppendLies
import Derived.WalkKit
import Derived.ProofKit
import Derived.OpenShut
import Derived.ShutString
import Derived.ChangeOld
import Derived.Below
import Derived.WalkSpells
import Derived.Deep.QuietTactic
import Derived.BigQuiet
import Derived.Deep.RegionWith
import Derived.Deep.WholeRow
import Derived.Deep.DeepCutAuto
import Derived.Deep.RegionHeld2
import Derived.Deep.AppendLies
import Derived.Deep.RegionLaw
namespace Go.Proofs.YtgkjmeogdomgmaaGreat
open Go.ChangeShapes Go.WideShapes Go.ChangeAt Go.RowKit

def Led3 (w0 : Nat) (mo : Option Nat) (ss : List (Int × List Int)) (xa : Option Addr) (xn xc : Nat) (ts : List Int) (ya : Option Addr) (yn yc : Nat) (ds : List Int) (w : World) : Prop :=
  ∃ M X1 X2 X3, mo = some M ∧ w0 ≤ M ∧ M < X1 ∧ X1 ≤ X2 ∧ X2 ≤ X3 ∧ X3 ≤ w.heap.size ∧ w.ownsMap Tryz.prog 239 Rst M ss.length (bk ss ss.length) ∧ RW (InR X1 X2) xa xn xc ts w ∧ RW (InR X2 X3) ya yn yc ds w

theorem Led3.below {w0 : Nat} {mo : Option Nat} {ss : List (Int × List Int)} {xa ya : Option Addr} {xn xc yn yc : Nat} {ts ds : List Int} {w w' : World} (h : Led3 w0 mo ss xa xn xc ts ya yn yc ds w) (hb : Below w.heap.size w w') : Led3 w0 mo ss xa xn xc ts ya yn yc ds w' := by
  obtain ⟨M, X1, X2, X3, h1, h2, h3, h4, h5, h6, h7, h8, h9⟩ := h
  exact ⟨M, X1, X2, X3, h1, h2, h3, h4, h5, by have := hb.size; omega, ownsMap_below h7 hb (Nat.le_refl _), RW.loc.below hb h8, RW.loc.below hb h9⟩

theorem Led3.mono {w0 w1 : Nat} {mo : Option Nat} {ss : List (Int × List Int)} {xa ya : Option Addr} {xn xc yn yc : Nat} {ts ds : List Int} {w : World} (h : Led3 w0 mo ss xa xn xc ts ya yn yc ds w) (hb : w1 ≤ w0) : Led3 w1 mo ss xa xn xc ts ya yn yc ds w := by
  obtain ⟨M, X1, X2, X3, h1, h2, h⟩ := h
  exact ⟨M, X1, X2, X3, h1, by omega, h⟩

theorem Led3.setCell {w0 : Nat} {mo : Option Nat} {ss : List (Int × List Int)} {xa ya : Option Addr} {xn xc yn yc : Nat} {ts ds : List Int} {w : World} (h : Led3 w0 mo ss xa xn xc ts ya yn yc ds w) {p : Addr} (hp : p.block < w0) (v : Value) : Led3 w0 mo ss xa xn xc ts ya yn yc ds (w.setCell p v) := by
  obtain ⟨M, X1, X2, X3, h1, h2, h3, h4, h5, h6, h7, h8, h9⟩ := h
  exact ⟨M, X1, X2, X3, h1, h2, h3, h4, h5, by simpa using h6, h7.setCell (by omega) v, RW.loc.setC h8 (fun e => by have := e.1; omega) v, RW.loc.setC h9 (fun e => by have := e.1; omega) v⟩

/-- what 'openTables' answers, with the room of its lists. -/
def OT3 (ss : List (Int × List Int)) (ts ds : List Int) (w : World) (e : Ending) (w' : World) : Prop :=
  ∃ sz mo xa xn xc ya yn yc, e = .returned (.tuple #[.agg #[.int .i64 sz, .map mo, .slice xa xn xc, .slice ya yn yc], .int .i64 (tabF ss ts ds)]) ∧ Below w.heap.size w w' ∧
    (tabF ss ts ds = 0 → sz = (ss.length : Int) ∧ (xn ≤ xc ∧ yn ≤ yc) ∧ Led3 w.heap.size mo ss xa xn xc ts ya yn yc ds w')

theorem OT3.mk {ss : List (Int × List Int)} {ts ds : List Int} {w w' : World} {e : Ending} (sz : Int) (mo : Option Nat) (xa : Option Addr) (xn xc : Nat) (ya : Option Addr) (yn yc : Nat) (he : e = .returned (.tuple #[.agg #[.int .i64 sz, .map mo, .slice xa xn xc, .slice ya yn yc], .int .i64 (tabF ss ts ds)])) (hb : Below w.heap.size w w')
    (h : tabF ss ts ds = 0 → sz = (ss.length : Int) ∧ (xn ≤ xc ∧ yn ≤ yc) ∧ Led3 w.heap.size mo ss xa xn xc ts ya yn yc ds w') : OT3 ss ts ds w e w' := ⟨sz, mo, xa, xn, xc, ya, yn, yc, he, hb, h⟩

set_option maxRecDepth 100000 in
set_option maxHeartbeats 4000000 in
theorem openTables_R (a : Option Addr) (n c : Nat) (ss : List (Int × List Int)) (ta : Option Addr) (tn tc : Nat) (ts : List Int) (da : Option Addr) (dn dc : Nat) (ds : List Int) (w : World) (hx : RT w a n ss ta tn ts da dn ds) :
    Calls Tryz.prog 112 #[.agg #[.slice a n c, .slice ta tn tc, .slice da dn dc]] w (OT3 ss ts ds w) := by
  have M0 := ((Mm.start w).alloc3 (.slice a n c) (.slice ta tn tc) (.slice da dn dc) 43).alloc4 (.int .i64 0) (.map none) (.slice none 0 0) (.slice none 0 0) 176
  simp only [World.size_alloc] at M0
  have hx0 := hx.below M0.bel (Nat.le_refl _)
  obtain rfl : n = ss.length := hx.2.1.1.symm
  have htl := hx.2.2.2.1.1
  have hdl := hx.2.2.2.2.2.1
  obtain ⟨hn, _, htm, _, hdm, _⟩ := hx
  obtain ⟨_, hss, _, hts, _, hds⟩ := hx0
  by_cases hr : faultR ss = 0
  · have er : (faultR ss != 0) = false := by simp [hr]
    have Hr := hide hr
    clear hr
    by_cases hmany : manyB ts ds = true
    · have HF := hide (tabF_many Hr.out hmany)
      by_cases h6 : 6 < tn
      · go_enter Tryz.func112, Tryz.ntmps112
        go_wp2_with fail
        refine (openRegistry_calls a _ c ss _ hn hss).mono ?_
        rintro e w1 ⟨sz, mo, rfl, g1, _⟩
        have M1 := (M0.below g1).alloc2 (.int .i64 sz) (.map mo) 174
        have t1 := M1.cell 7 rfl
        have r0 := M1.cell 2 rfl
        have r1 := M1.cell 3 rfl
        have r2 := M1.cell 4 rfl
        have r3 := M1.cell 5 rfl
        have f0 := M1.fz 2 rfl
        have f1 := M1.fz 3 rfl
        have f2 := M1.fz 4 rfl
        have f3 := M1.fz 5 rfl
        have HB := hide M1.bel
        clear M0 M1 g1 hss hts hds
        go_wp2
        refine bodyPost_ret (v := .tuple #[.agg #[.int .i64 0, .map none, .slice none 0 0, .slice none 0 0], .int .i64 2]) (by simp [results, Tryz.results112, go_sem, r0, r1, r2, r3]) rfl (OT3.mk 0 none none 0 0 none 0 0 (by rw [HF.out]) ?_ (fun h => absurd (HF.out.symm.trans h) (by decide)))
        exact (((HB.out.setCell (by simp) _).setCell (by simp) _).setCell (by simp) _).setCell (by simp) _
      · have h4 : 4 < dn := by
          unfold manyB at hmany
          simp at hmany
          omega
        go_enter Tryz.func112, Tryz.ntmps112
        go_wp2_with fail
        refine (openRegistry_calls a _ c ss _ hn hss).mono ?_
        rintro e w1 ⟨sz, mo, rfl, g1, _⟩
        have M1 := (M0.below g1).alloc2 (.int .i64 sz) (.map mo) 174
        have t1 := M1.cell 7 rfl
        have t2 := M1.cell 8 rfl
        have r0 := M1.cell 2 rfl
        have r1 := M1.cell 3 rfl
        have r2 := M1.cell 4 rfl
        have r3 := M1.cell 5 rfl
        have f0 := M1.fz 2 rfl
        have f1 := M1.fz 3 rfl
        have f2 := M1.fz 4 rfl
        have f3 := M1.fz 5 rfl
        have HB := hide M1.bel
        clear M0 M1 g1 hss hts hds
        go_wp2
        refine bodyPost_ret (v := .tuple #[.agg #[.int .i64 0, .map none, .slice none 0 0, .slice none 0 0], .int .i64 2]) (by simp [results, Tryz.results112, go_sem, r0, r1, r2, r3]) rfl (OT3.mk 0 none none 0 0 none 0 0 (by rw [HF.out]) ?_ (fun h => absurd (HF.out.symm.trans h) (by decide)))
        exact (((HB.out.setCell (by simp) _).setCell (by simp) _).setCell (by simp) _).setCell (by simp) _
    · have hmf : manyB ts ds = false := by simpa using hmany
      have HF := hide (tabF_led Hr.out hmf)
      have hs6 : ¬ (6 < tn) ∧ ¬ (4 < dn) := by
        unfold manyB at hmf
        simp at hmf
        omega
      obtain ⟨h6, h4⟩ := hs6
      clear hmany hmf
      go_enter Tryz.func112, Tryz.ntmps112
      go_wp2_with fail
      refine (openRegistry_calls a _ c ss _ hn hss).mono ?_
      rintro e w1 ⟨sz, mo, rfl, g1, hown⟩
      obtain ⟨rfl, M, rfl, hM, hown⟩ := hown Hr.out
      simp only [World.size_alloc] at hM
      have M1 := (M0.below g1).alloc2 (.int .i64 (ss.length : Int)) (.map (some M)) 174
      have al := (Below.refl w1.heap.size w1).alloc (Nat.le_refl _) (.cells #[.int .i64 (ss.length : Int), .map (some M)] 174)
      have s1 := (hts.below g1 (Nat.le_refl _)).below al (Nat.le_refl _)
      have s2 := (hds.below g1 (Nat.le_refl _)).below al (Nat.le_refl _)
      have hown1 := ownsMap_below hown al (Nat.le_refl _)
      have q0 := M1.cell 0 rfl
      have q1 := M1.cell 1 rfl
      have q2 := M1.cell 7 rfl
      have q3 := M1.cell 8 rfl
      have lt0 := M1.lt 0 rfl
      have lt2 := M1.lt 7 rfl
      have ltR := M1.lt 2 rfl
      have hMlt : M < w1.heap.size := hown.lt
      clear g1 al hown hss hts hds M0
      go_upto_region 6 with fail
      generalize hW : (w1.alloc (.cells #[.int .i64 (ss.length : Int), .map (some M)] 174)) = W at M1 s1 s2 hown1 q0 q1 q2 q3 lt0 lt2 ltR ⊢
      have HWs : Hid (W.heap.size = w1.heap.size + 1) := by show _ = _; rw [← hW]; simp
      clear hW
      go_cut [6] (fun v6 wd => ∃ P xa xc ya yc X1 X2 X3, v6 = .pointer (some ⟨P, 0, none⟩) ∧ wd.cell? ⟨P, 0, none⟩ = some (.int .i64 (ss.length : Int)) ∧ wd.cell? ⟨P, 1, none⟩ = some (.map (some M)) ∧ wd.cell? ⟨P, 2, none⟩ = some (.slice xa tn xc) ∧ wd.cell? ⟨P, 3, none⟩ = some (.slice ya dn yc) ∧
        (∀ j, wd.frozen? ⟨P, j, none⟩ = false) ∧ (W.heap.size ≤ X1 ∧ X1 ≤ X2 ∧ X2 ≤ X3 ∧ X3 ≤ wd.heap.size ∧ tn ≤ xc ∧ dn ≤ yc) ∧ RW (InR X1 X2) xa tn xc ts wd ∧ RW (InR X2 X3) ya dn yc ds wd ∧ Below W.heap.size W wd)
      case first =>
        have HS0 : Hid (W.drew.cell? ⟨w1.heap.size, 0, none⟩ = some (.int .i64 (ss.length : Int)) ∧ W.drew.cell? ⟨w1.heap.size, 1, none⟩ = some (.map (some M)) ∧ W.drew.cell? ⟨w.heap.size, 1, none⟩ = some (.slice ta tn tc) ∧ W.drew.cell? ⟨w.heap.size, 2, none⟩ = some (.slice da dn dc) ∧ Below W.heap.size W W.drew) := ⟨q0, q1, q2, q3, (Below.refl _ _).drew⟩
        have HS1 := hide s1
        have HS2 := hide s2
        clear M1 s1 s2 hown1
        go_region_held2 (fun w' => w'.cell? ⟨w1.heap.size, 0, none⟩ = some (.int .i64 (ss.length : Int)) ∧ w'.cell? ⟨w1.heap.size, 1, none⟩ = some (.map (some M)) ∧ w'.cell? ⟨w.heap.size, 1, none⟩ = some (.slice ta tn tc) ∧ w'.cell? ⟨w.heap.size, 2, none⟩ = some (.slice da dn dc) ∧ Below W.heap.size W w')
          (first | with_reducible exact HS0.out | (repeat (first | with_reducible assumption | with_reducible refine q4_allocd lt0 lt0 lt2 lt2 ?_ _ | with_reducible refine q4_alloc lt0 lt0 lt2 lt2 ?_ _ | with_reducible refine q4_set lt0 lt0 lt2 lt2 ?_ ?_ _ | (show (_ : Nat) ≤ _; exact Nat.le_refl _) | (show (_ : Nat) ≤ _; dsimp only; omega))))
          (first
            | (go_at_call_of 142 (Value.slice ta tn tc); refine (clone_R ta tn tc ts _ (by omega) ?_).mono ?_; exact HS1.out.below (q4_bel (by with_reducible assumption)) (Nat.le_refl _); rintro e wa ⟨xa, xc, rfl, kx, ox, ga⟩; have hsa := q4_below lt0 lt0 lt2 lt2 (by with_reducible assumption) ga; have hza := ga.size; have hwa := (q4_bel hsa).size; (try simp only [World.size_alloc, World.size_drew] at hza ox); (try have hqa := Nat.lt_of_succ_le hza); obtain ⟨bca, bfa⟩ := bcellQ ga; (try simp only [World.size_alloc, World.size_drew] at bca bfa); clear ga)
            | (go_at_call_of 142 (Value.slice da dn dc); refine (clone_R da dn dc ds _ (by omega) ?_).mono ?_; exact HS2.out.below (q4_bel (by with_reducible assumption)) (Nat.le_refl _); rintro e wb ⟨ya, yc, rfl, ky, oy, gb⟩; have hsb := q4_below lt0 lt0 lt2 lt2 (by with_reducible assumption) gb; have ox := Loc.belowA RW.loc ox gb (by first | exact Below.refl _ _ | exact (Below.refl _ _).alloc (Nat.le_refl _) _); have hzb := gb.size; have hwb := (q4_bel hsb).size; (try simp only [World.size_alloc] at hzb oy); (try have hqb := Nat.lt_of_succ_le hzb); (try have hrb := Nat.lt_of_lt_of_le hqa hzb); obtain ⟨bcb, bfb⟩ := bcellQ gb; (try simp only [World.size_alloc] at bcb bfb); clear gb))
        all_goals go_wp2_with fail
        all_goals go_meet
        all_goals (
          refine ⟨_, xa, xc, ya, yc, W.heap.size, wa.heap.size, wb.heap.size, rfl, ?c0, ?c1, ?c2, ?c3, fun j => ?fz, ⟨Nat.le_refl _, hwa, ?s1, ?s2, kx, ky⟩, ?ox, ?oy, ?bel⟩
          case c0 => first | (go_simp; done) | (with_reducible refine set4_at0 _ _ _ _ _ _ ?_; go_simp; done)
          case c1 => first | (go_simp; done) | (with_reducible refine set4_at1 _ _ _ _ _ _ ?_; go_simp; done)
          case c2 => first | (go_simp; done) | (with_reducible refine set4_at2 _ _ _ _ _ _ ?_; go_simp; done)
          case c3 => first | (go_simp; done) | (with_reducible refine set4_at3 _ _ _ _ _ _ ?_; go_simp; done)
          case fz => go_simp
          case s1 => omega
          case s2 => first | omega | (simp; done) | (simp; omega)
          case ox => first | with_reducible exact RW.allocR ox (by omega) _ | with_reducible exact RW.set4R ox (by omega) (by omega) _ _ _ _
          case oy => first | with_reducible exact RW.allocR oy (by omega) _ | with_reducible exact RW.set4R oy (by omega) (by omega) _ _ _ _
          case bel => exact q4_bel (by with_reducible assumption))
      case rest =>
        obtain ⟨P, xa, xc, ya, yc, X1, X2, X3, rfl, c0, c1, c2, c3, cf, ⟨k1, k2, k3, k4, kx, ky⟩, ox, oy, hWc⟩ := hcut
        obtain ⟨wq, rfl⟩ : ∃ x, x = wc := ⟨wc, rfl⟩
        have lP : P < wq.heap.size := World.block_lt_of_cell? _ _ c0
        have M2 := M1.below hWc
        have hown2 := ownsMap_below hown1 hWc (Nat.le_refl _)
        have bkq : Bk wq.drew P M (ss.length : Int) ss.length (bk ss ss.length) := ⟨lP, c0, c1, cf, hown2⟩
        have HQ := hide bkq
        have HX := hide (RW.loc.below (Below.refl wq.heap.size wq).drew ox)
        have HY := hide (RW.loc.below (Below.refl wq.heap.size wq).drew oy)
        have HM2 := hide M2
        have kW := HWs.out
        have r0 := M2.cell 2 rfl
        have r1 := M2.cell 3 rfl
        have r2 := M2.cell 4 rfl
        have r3 := M2.cell 5 rfl
        have f0 := M2.fz 2 rfl
        have f1 := M2.fz 3 rfl
        have f2 := M2.fz 4 rfl
        have f3 := M2.fz 5 rfl
        clear M1 M2 hown1 hown2 bkq ox oy hWc s1 s2 q0 q1 q2 q3 HWs
        go_wp2_with fail
        go_region_with (first
          | (go_at_call 143; refine (fault_calls P M _ ss _ xa ya tn xc dn yc ts ds _ HQ.out (good_of Hr.out) (rep_bk Hr.out) c2 c3 HX.out.1.sl HY.out.1.sl (by omega) (by omega)).mono ?_; rintro e w3 ⟨rfl, g3⟩; have h3 : Below wq.heap.size wq w3 := ((Below.refl wq.heap.size wq).drew).trans g3; have d0 := (h3.cell (p := ⟨P, 0, none⟩) lP).trans c0; have d1 := (h3.cell (p := ⟨P, 1, none⟩) lP).trans c1; have d2 := (h3.cell (p := ⟨P, 2, none⟩) lP).trans c2; have d3 := (h3.cell (p := ⟨P, 3, none⟩) lP).trans c3; have M3 := HM2.out.below h3; have u0 := M3.cell 2 rfl; have u1 := M3.cell 3 rfl; have u2 := M3.cell 4 rfl; have u3 := M3.cell 5 rfl; have v0 := M3.fz 2 rfl; have v1 := M3.fz 3 rfl; have v2 := M3.fz 4 rfl; have v3 := M3.fz 5 rfl; have HB3 := hide M3.bel; have HL : Hid (Led3 (w.heap.size + 1 + 1) (some M) ss xa tn xc ts ya dn yc ds w3) := ⟨M, X1, X2, X3, rfl, by omega, by omega, k2, k3, by have := h3.size; omega, ownsMap_below HQ.out.own g3 (Nat.le_refl _), RW.loc.below g3 HX.out, RW.loc.below g3 HY.out⟩; clear g3 h3 M3))
        all_goals go_wp2
        all_goals refine bodyPost_ret (v := .tuple #[.agg #[.int .i64 (ss.length : Int), .map (some M), .slice xa tn xc, .slice ya dn yc], .int .i64 (ledF ss ts ds)]) (by simp [results, Tryz.results112, go_sem, u0, u1, u2, u3]) rfl (OT3.mk (ss.length : Int) (some M) xa tn xc ya dn yc (by rw [HF.out]) ?_ (fun _ => ⟨rfl, ⟨kx, ky⟩, ?_⟩))
        all_goals first | exact (((HB3.out.setCell (by simp) _).setCell (by simp) _).setCell (by simp) _).setCell (by simp) _ | exact ((((HL.out.setCell (by simp) _).setCell (by simp) _).setCell (by simp) _).setCell (by simp) _).mono (by omega)
  · have er : (faultR ss != 0) = true := by simp [hr]
    have HF := hide (tabF_bad (ts := ts) (ds := ds) hr)
    have Hr := hide hr
    clear hr
    go_enter Tryz.func112, Tryz.ntmps112
    go_wp2_with fail
    refine (openRegistry_calls a _ c ss _ hn hss).mono ?_
    rintro e w1 ⟨sz, mo, rfl, g1, _⟩
    have M1 := (M0.below g1).alloc2 (.int .i64 sz) (.map mo) 174
    have r0 := M1.cell 2 rfl
    have r1 := M1.cell 3 rfl
    have r2 := M1.cell 4 rfl
    have r3 := M1.cell 5 rfl
    have f0 := M1.fz 2 rfl
    have f1 := M1.fz 3 rfl
    have f2 := M1.fz 4 rfl
    have f3 := M1.fz 5 rfl
    have HB := hide M1.bel
    clear M0 M1 g1 hss hts hds
    go_wp2
    refine bodyPost_ret (v := .tuple #[.agg #[.int .i64 0, .map none, .slice none 0 0, .slice none 0 0], .int .i64 (faultR ss)]) (by simp [results, Tryz.results112, go_sem, r0, r1, r2, r3]) rfl (OT3.mk 0 none none 0 0 none 0 0 (by rw [HF.out]) ?_ (fun h => absurd (HF.out.symm.trans h) Hr.out))
    exact (((HB.out.setCell (by simp) _).setCell (by simp) _).setCell (by simp) _).setCell (by simp) _

def otF (ss : List (Int × List Int)) (ts ds zs : List Int) : Int := if tabF ss ts ds = 0 then fault zs else tabF ss ts ds

theorem things_one {zs : List Int} (h : fault zs = 0) : thingsB [zs] = thing0 zs := by
  simp [thingsB, thingB, thing0, h]

theorem lbs_one {w : World} {b : Nat} {la : Option Addr} {ll lc : Nat} {zs : List Int} (hc : w.cell? ⟨b, 0, none⟩ = some (.slice la ll lc)) (hl : ll ≤ maxLen) (hs : Sl w la ll zs) : Lbs w (some ⟨b, 0, none⟩) 1 [zs] :=
  ⟨rfl, fun _ => ⟨b, 0, rfl, World.block_lt_of_cell? _ _ hc, fun i hi => by
    obtain rfl : i = 0 := by omega
    exact ⟨la, ll, lc, hc, hl, hs⟩⟩⟩

/-- what 'openTablesFor' answers. -/
def OTF (ss : List (Int × List Int)) (ts ds zs : List Int) (w : World) (e : Ending) (w' : World) : Prop :=
  ∃ sz mo xa xn xc ya yn yc, e = .returned (.tuple #[.agg #[.int .i64 sz, .map mo, .slice xa xn xc, .slice ya yn yc], .int .i64 (otF ss ts ds zs)]) ∧ Below w.heap.size w w' ∧
    (tabF ss ts ds = 0 → sz = (ss.length : Int) ∧ Led3 w.heap.size mo ss xa xn xc ts ya yn yc ds w')

theorem OTF.mk {ss : List (Int × List Int)} {ts ds zs : List Int} {w w' : World} {e : Ending} (sz : Int) (mo : Option Nat) (xa : Option Addr) (xn xc : Nat) (ya : Option Addr) (yn yc : Nat) (he : e = .returned (.tuple #[.agg #[.int .i64 sz, .map mo, .slice xa xn xc, .slice ya yn yc], .int .i64 (otF ss ts ds zs)])) (hb : Below w.heap.size w w')
    (h : tabF ss ts ds = 0 → sz = (ss.length : Int) ∧ Led3 w.heap.size mo ss xa xn xc ts ya yn yc ds w') : OTF ss ts ds zs w e w' := ⟨sz, mo, xa, xn, xc, ya, yn, yc, he, hb, h⟩

theorem OT.ofS {S1 S2 S3 S : Nat → Prop} {a : Option Addr} {n : Nat} {ss : List (Int × List Int)} {ta : Option Addr} {tn : Nat} {ts : List Int} {da : Option Addr} {dn : Nat} {ds : List Int} {w : World} (o1 : OR S1 a n ss w) (o2 : OS S2 ta tn ts w) (o3 : OS S3 da dn ds w) (h1 : ∀ k, S1 k → S k) (h2 : ∀ k, S2 k → S k) (h3 : ∀ k, S3 k → S k) (h12 : ∀ k, S1 k → ¬ S2 k) (h13 : ∀ k, S1 k → ¬ S3 k) (h23 : ∀ k, S2 k → ¬ S3 k) : OT S a n ss ta tn ts da dn ds w :=
  ⟨S1, S2, S3, h1, h2, h3, h12, h13, h23, o1, o2, o3⟩



theorem rep_look {ss : List (Int × List Int)} (g : Good ss) {D : DataW Unit} (r : Rep ss D) {zs : List Int} (hz : fault zs = 0) :
    (at2 ss zs = -1 ∧ Go.Maps.has D (kl zs) = false ∧ D.atKey (kl zs) (st 0 0) = st 0 0) ∨ ∃ j, j < ss.length ∧ at2 ss zs = (j : Int) ∧ Go.Maps.has D (kl zs) = true ∧ D.atKey (kl zs) (st 0 0) = st (j : Int) (gc ss j) := by
  rcases at2_cases ss zs with ⟨h1, h2⟩ | ⟨j, hj, h1, h2⟩
  · have hf : Go.Maps.has D (kl zs) = false := by
      cases hx : Go.Maps.has D (kl zs)
      · rfl
      · obtain ⟨j, hj, hp, e⟩ := (r.keys _).1 hx
        have e2 := kl_inj hz (g.right j hj hp) e
        have := h2 j hj
        simp [hit, hp, e2] at this
    exact .inl ⟨h1, hf, Go.Maps.atKey_of_not_has hf _⟩
  · have hh : 0 < gc ss j ∧ gl ss j = zs := by simpa [hit] using h2
    have hv := r.vals j hj hh.1 (st 0 0)
    rw [hh.2] at hv
    exact .inr ⟨j, hj, h1, (r.keys _).2 ⟨j, hj, hh.1, by rw [hh.2]⟩, hv⟩

def etV (ss : List (Int × List Int)) (zs : List Int) : Int := if etC ss zs = 0 then (enQ ss zs : Int) else 0

/-- P's cells from the third on are as they were. -/
def KP (P : Nat) (w w' : World) : Prop := ∀ j, (2 ≤ j → w'.cell? ⟨P, j, none⟩ = w.cell? ⟨P, j, none⟩) ∧ w'.frozen? ⟨P, j, none⟩ = w.frozen? ⟨P, j, none⟩

theorem KP.of_block {P : Nat} {w w' : World} (h : w'.heap[P]? = w.heap[P]?) : KP P w w' := fun j => ⟨fun _ => World.cell?_of_block (a := ⟨P, j, none⟩) h, World.frozen?_of_block (a := ⟨P, j, none⟩) h⟩

theorem KP.trans {P : Nat} {w u v : World} (h : KP P w u) (k : KP P u v) : KP P w v := fun j => ⟨fun hj => ((k j).1 hj).trans ((h j).1 hj), (k j).2.trans (h j).2⟩

theorem KP.set0 {P : Nat} {w u : World} (h : KP P w u) (v : Value) : KP P w (u.setCell ⟨P, 0, none⟩ v) := fun j => ⟨fun hj => (World.cell?_setCell_other _ _ _ _ (fun e => by injection e with _ e2; omega)).trans ((h j).1 hj), by rw [World.frozen?_setCell]; exact (h j).2⟩

/-- blocks but M and P are as they were, and so are P's cells from the third on. -/
def OutP (P M : Nat) (w w' : World) : Prop := OutS (fun k => k = M ∨ k = P) w w' ∧ KP P w w'

theorem OutP.of_below {P M : Nat} {w w' : World} (h : Below w.heap.size w w') (hP : P < w.heap.size) : OutP P M w w' := ⟨OutS.of_below h, KP.of_block (h.block P hP)⟩

theorem OutP.drew {P M : Nat} {w w' : World} (h : OutP P M w w') : OutP P M w w'.drew := ⟨h.1.trans (OutS.of_below (Below.refl _ _).drew), fun j => h.2 j⟩

/-- what 'enter' answers. -/
def EN (P M n : Nat) (ss : List (Int × List Int)) (zs : List Int) (w : World) (e : Ending) (w' : World) : Prop :=
  e = .returned (.tuple #[.int .i64 (etV ss zs), .int .i64 (etC ss zs)]) ∧ OutP P M w w' ∧ (etC ss zs = 0 → ∃ D', Bk w' P M ((enS ss zs).length : Int) (n + 1) D' ∧ Rep (enS ss zs) D')

/-- what stands when a label's place is known: the mark in block w.heap.size, its standing in the block behind. -/
structure EnU (P M n : Nat) (ss : List (Int × List Int)) (zs : List Int) (D : DataW Unit) (c : Int) (w U : World) : Prop where
  bk : Bk U P M (ss.length : Int) n D
  bel : Below w.heap.size w U
  lt : w.heap.size + 1 < U.heap.size
  k : ∀ i, i < 4 → U.cell? ⟨w.heap.size, i, none⟩ = some (.int .i64 (gt zs i))
  z0 : U.cell? ⟨w.heap.size + 1, 0, none⟩ = some (.int .i64 (enQ ss zs : Int))
  z1 : U.cell? ⟨w.heap.size + 1, 1, none⟩ = some (.int .i64 c)
  f : ∀ i, U.frozen? ⟨w.heap.size + 1, i, none⟩ = false

theorem EnU.count {P M n : Nat} {ss : List (Int × List Int)} {zs : List Int} {D : DataW Unit} {c : Int} {w U : World} (h : EnU P M n ss zs D c w U) (hP : P < w.heap.size) (hM : M < w.heap.size) (c' : Int) : EnU P M n ss zs D c' w (U.setCell ⟨w.heap.size + 1, 1, none⟩ (.int .i64 c')) := by
  have hg := setC1_grown U (w.heap.size + 1) 1 (.int .i64 c')
  refine ⟨h.bk.keep hg (by omega) (by omega), h.bel.setCell (by show w.heap.size ≤ w.heap.size + 1; omega) _, by simpa using h.lt, fun i hi => ?_, ?_, World.cell?_setCell_same _ _ _ h.z1, fun i => by simpa using h.f i⟩
  · rw [World.cell?_setCell_other _ _ _ _ (fun e => by injection e with e1 _; omega)]; exact h.k i hi
  · rw [World.cell?_setCell_other _ _ _ _ (fun e => by injection e with _ e2; omega)]; exact h.z0

theorem EnU.place {P M n : Nat} {ss : List (Int × List Int)} {zs : List Int} {D : DataW Unit} {w U : World} (hb : Bk U P M (ss.length : Int) n D) (hbel : Below w.heap.size w U) (hlt : w.heap.size + 1 < U.heap.size) (hk : ∀ i, i < 4 → U.cell? ⟨w.heap.size, i, none⟩ = some (.int .i64 (gt zs i)))
    {x c : Int} (z0 : U.cell? ⟨w.heap.size + 1, 0, none⟩ = some (.int .i64 x)) (z1 : U.cell? ⟨w.heap.size + 1, 1, none⟩ = some (.int .i64 c)) (hf : ∀ i, U.frozen? ⟨w.heap.size + 1, i, none⟩ = false) (hP : P < w.heap.size) (hM : M < w.heap.size) {q : Nat} (hq : enQ ss zs = q) : EnU P M n ss zs D c w (U.setCell ⟨w.heap.size + 1, 0, none⟩ (.int .i64 (q : Int))) := by
  have hg := setC1_grown U (w.heap.size + 1) 0 (.int .i64 (q : Int))
  refine ⟨hb.keep hg (by omega) (by omega), hbel.setCell (by show w.heap.size ≤ w.heap.size + 1; omega) _, by simpa using hlt, fun i hi => ?_, ?_, ?_, fun i => by simpa using hf i⟩
  · rw [World.cell?_setCell_other _ _ _ _ (fun e => by injection e with e1 _; omega)]; exact hk i hi
  · rw [hq]; exact World.cell?_setCell_same _ _ _ z0
  · rw [World.cell?_setCell_other _ _ _ _ (fun e => by injection e with _ e2; omega)]; exact z1

set_option maxRecDepth 100000 in
set_option maxHeartbeats 2000000 in
theorem enter_calls (P M n : Nat) (ss : List (Int × List Int)) (zs : List Int) (D : DataW Unit) (w : World) (hb : Bk w P M (ss.length : Int) n D) (hn : n ≤ 100) (good : Good ss) (rep : Rep ss D) (hz : fault zs = 0) :
    Calls Tryz.prog 177 #[.pointer (some ⟨P, 0, none⟩), .agg (ints4 zs)] w (EN P M n ss zs w) := by
  have few := good.few
  have hP0 := hb.lt
  have hM0 := hb.own.lt
  have M1 := (Mm.start w).alloc4 (.int .i64 (gt zs 0)) (.int .i64 (gt zs 1)) (.int .i64 (gt zs 2)) (.int .i64 (gt zs 3)) 239
  have al := (Below.refl w.heap.size w).alloc (Nat.le_refl _) (.cells #[.int .i64 (gt zs 0), .int .i64 (gt zs 1), .int .i64 (gt zs 2), .int .i64 (gt zs 3)] 239)
  have hbW := hb.below al
  have b1 := hbW.c1
  have k0 := M1.cell 0 rfl
  have k1 := M1.cell 1 rfl
  have k2 := M1.cell 2 rfl
  have k3 := M1.cell 3 rfl
  have hsW : (w.alloc (.cells #[.int .i64 (gt zs 0), .int .i64 (gt zs 1), .int .i64 (gt zs 2), .int .i64 (gt zs 3)] 239)).heap.size = w.heap.size + 1 := by simp
  have HSW := hide hsW
  have Hz := hide hz
  clear al M1 hsW
  unfold ints4
  go_enter Tryz.func177, Tryz.ntmps177
  go_upto_region 1 with fail
  have hWb : Below w.heap.size w (w.alloc (.cells #[.int .i64 (gt zs 0), .int .i64 (gt zs 1), .int .i64 (gt zs 2), .int .i64 (gt zs 3)] 239)) := (Below.refl w.heap.size w).alloc (Nat.le_refl _) _
  generalize hW : (w.alloc (.cells #[.int .i64 (gt zs 0), .int .i64 (gt zs 1), .int .i64 (gt zs 2), .int .i64 (gt zs 3)] 239)) = W at hbW b1 k0 k1 k2 k3 HSW hWb ⊢
  clear hW
  obtain ⟨lp, lc, hat, hlook⟩ := look_run hbW.own Hz.out
  have L1 := hlook W.drew hbW.own.drew
  have L2 := hlook ((W.alloc (.cells #[.int .i64 0, .int .i64 0] 247)).drew) (hbW.own.alloc _).drew
  unfold ints4 at L1 L2
  have nP := World.new_ne W ⟨P, 1, none⟩ b1
  have nK := World.new_ne W ⟨w.heap.size, 0, none⟩ k0
  clear hlook
  go_cut [6, 7] (fun v f wc => v = .pointer (some ⟨W.heap.size, 0, none⟩) ∧ f = .bool (Go.Maps.has D (kl zs)) ∧ wc = (W.alloc (.cells #[.int .i64 lp, .int .i64 lc] 247)).drew)
  case first =>
    go_region_held2 (fun w' => w'.cell? ⟨P, 1, none⟩ = some (.map (some M)) ∧ w'.cell? ⟨w.heap.size, 0, none⟩ = some (.int .i64 (gt zs 0)) ∧ w'.cell? ⟨w.heap.size, 1, none⟩ = some (.int .i64 (gt zs 1)) ∧ w'.cell? ⟨w.heap.size, 2, none⟩ = some (.int .i64 (gt zs 2)) ∧ w'.cell? ⟨w.heap.size, 3, none⟩ = some (.int .i64 (gt zs 3)))
      (go_keep) (fail)
    all_goals go_wp2_with fail
    all_goals go_meet
    all_goals exact ⟨rfl, rfl, rfl⟩
  case rest =>
    obtain ⟨rfl, rfl, rfl⟩ := hcut
    rw [HSW.out]
    clear L1 L2 nP nK
    have al : Below W.heap.size W (W.alloc (.cells #[.int .i64 lp, .int .i64 lc] 247)).drew := ((Below.refl _ _).alloc (Nat.le_refl _) _).drew
    have BU := hbW.below al
    have hwU := hWb.trans (al.mono hWb.size)
    have hk : ∀ i, i < 4 → (W.alloc (.cells #[.int .i64 lp, .int .i64 lc] 247)).drew.cell? ⟨w.heap.size, i, none⟩ = some (.int .i64 (gt zs i)) := fun i hi => by
      refine (al.cell (p := ⟨w.heap.size, i, none⟩) (by have := HSW.out; show w.heap.size < _; omega)).trans ?_
      obtain rfl | rfl | rfl | rfl : i = 0 ∨ i = 1 ∨ i = 2 ∨ i = 3 := by omega
      · exact k0
      · exact k1
      · exact k2
      · exact k3
    have z0 : (W.alloc (.cells #[.int .i64 lp, .int .i64 lc] 247)).drew.cell? ⟨w.heap.size + 1, 0, none⟩ = some (.int .i64 lp) := by rw [← HSW.out]; go_simp
    have z1 : (W.alloc (.cells #[.int .i64 lp, .int .i64 lc] 247)).drew.cell? ⟨w.heap.size + 1, 1, none⟩ = some (.int .i64 lc) := by rw [← HSW.out]; go_simp
    have zf : ∀ i, (W.alloc (.cells #[.int .i64 lp, .int .i64 lc] 247)).drew.frozen? ⟨w.heap.size + 1, i, none⟩ = false := fun i => by rw [← HSW.out]; go_simp
    have hlU : w.heap.size + 1 < (W.alloc (.cells #[.int .i64 lp, .int .i64 lc] 247)).drew.heap.size := by have := HSW.out; simp; omega
    generalize hUe : (W.alloc (.cells #[.int .i64 lp, .int .i64 lc] 247)).drew = U at BU hwU hk z0 z1 zf hlU ⊢
    clear hUe al k0 k1 k2 k3 b1 hbW hWb
    rcases rep_look good rep Hz.out with ⟨ha, hh, hv⟩ | ⟨j, hj, ha, hh, hv⟩
    · obtain ⟨rfl, rfl⟩ := st_inj (hat.symm.trans hv)
      rw [hh]
      have HQ : Hid (enQ ss zs = fe ss) := if_pos (by omega)
      have HN : Hid (enN ss zs = 0) := if_pos (by omega)
      clear hat hv hh
      go_wp2_with fail
      refine (firstEmpty_calls P M n ss D _ BU good rep).mono ?_
      rintro e w3 ⟨rfl, g3⟩
      have hsz3 := g3.size
      have y0 := (g3.cell (p := ⟨w.heap.size + 1, 0, none⟩) hlU).trans z0
      have yf := (g3.frozen (p := ⟨w.heap.size + 1, 0, none⟩) hlU).trans (zf 0)
      have hU : EnU P M n ss zs D (enN ss zs) w (w3.setCell ⟨w.heap.size + 1, 0, none⟩ (.int .i64 (fe ss : Int))) := by
        rw [HN.out]
        exact EnU.place (BU.below g3) (hwU.trans (g3.mono hwU.size)) (by omega) (fun i hi => (g3.cell (p := ⟨w.heap.size, i, none⟩) (by show w.heap.size < _; omega)).trans (hk i hi)) y0 ((g3.cell (p := ⟨w.heap.size + 1, 1, none⟩) hlU).trans z1) (fun i => (g3.frozen (p := ⟨w.heap.size + 1, i, none⟩) hlU).trans (zf i)) hP0 hM0 HQ.out
      clear g3 BU hwU hk z0 z1 zf hlU hsz3
      go_upto_region 4 with fail
      generalize hVe : (w3.setCell ⟨w.heap.size + 1, 0, none⟩ (.int .i64 (fe ss : Int))) = V at hU ⊢
      clear hVe y0 yf
      have d0 := hU.z0
      have d1 := hU.z1
      have df0 := hU.f 0
      have df1 := hU.f 1
      have hund : undef = Value.tuple #[] := rfl
      by_cases h10 : enQ ss zs = 10
      · have e10 : ((enQ ss zs : Int) == 10) = true := by simp; omega
        have HC : Hid (etC ss zs = 7) := if_pos (.inl h10)
        have HO := hide (OutP.of_below (P := P) (M := M) hU.bel hP0)
        clear hU
        go_wp2
        refine bodyPost_ret (v := .tuple #[.int .i64 0, .int .i64 7]) (by simp [results, Tryz.results177, go_sem]) rfl ⟨by rw [HC.out]; unfold etV; rw [if_neg (by rw [HC.out]; decide)], HO.out, fun h => absurd (HC.out.symm.trans h) (by decide)⟩
      · have e10 : ((enQ ss zs : Int) == 10) = false := by simp; omega
        by_cases h99 : enN ss zs = 99
        · have e99 : (enN ss zs == 99) = true := by simp [h99]
          have HC : Hid (etC ss zs = 7) := if_pos (.inr h99)
          have HO := hide (OutP.of_below (P := P) (M := M) hU.bel hP0)
          clear hU
          go_wp2
          refine bodyPost_ret (v := .tuple #[.int .i64 0, .int .i64 7]) (by simp [results, Tryz.results177, go_sem]) rfl ⟨by rw [HC.out]; unfold etV; rw [if_neg (by rw [HC.out]; decide)], HO.out, fun h => absurd (HC.out.symm.trans h) (by decide)⟩
        · have e99 : (enN ss zs == 99) = false := by simp [h99]
          have HC : Hid (etC ss zs = 0) := if_neg (fun e => by rcases e with e | e; exact h10 e; exact h99 e)
          have hU2 := hU.count hP0 hM0 (enN ss zs + 1)
          have en0 := (en_facts good (zs := zs)).2.1
          have en9 := (en_facts good (zs := zs)).2.2.1
          have enL := (en_facts good (zs := zs)).1
          clear hU
          go_upto_region 7 with fail
          generalize hXe : (V.setCell ⟨w.heap.size + 1, 1, none⟩ (.int .i64 (enN ss zs + 1))) = X at hU2 ⊢
          clear hXe d0 d1 df0 df1
          have neM := hU2.bk.ne
          obtain ⟨w4, hup, own4, gr4⟩ := (hU2.bk.own.drew).update lawK Tryz.underlying172 (by unfold maxLen; omega) (key_mk Hz.out) (Rst_mk (enQ ss zs : Int) (enN ss zs + 1))
          have kP := hU2.bk.lt
          have hlX := hU2.lt
          have blkM : ∀ k, k < X.heap.size → k ≠ M → w4.heap[k]? = X.heap[k]? := fun k hk hne => gr4.block k hk (fun e => hne (by injection e))
          have HSa : Hid (X.drew.cell? ⟨P, 1, none⟩ = some (.map (some M)) ∧ X.drew.cell? ⟨w.heap.size, 0, none⟩ = some (.int .i64 (gt zs 0)) ∧ X.drew.cell? ⟨w.heap.size, 1, none⟩ = some (.int .i64 (gt zs 1)) ∧ X.drew.cell? ⟨w.heap.size, 2, none⟩ = some (.int .i64 (gt zs 2)) ∧ X.drew.cell? ⟨w.heap.size, 3, none⟩ = some (.int .i64 (gt zs 3)) ∧ X.drew.cell? ⟨w.heap.size + 1, 0, none⟩ = some (.int .i64 (enQ ss zs : Int)) ∧ X.drew.cell? ⟨w.heap.size + 1, 1, none⟩ = some (.int .i64 (enN ss zs + 1))) := ⟨hU2.bk.c1, hU2.k 0 (by omega), hU2.k 1 (by omega), hU2.k 2 (by omega), hU2.k 3 (by omega), hU2.z0, hU2.z1⟩
          have kb : ∀ k o, k < X.heap.size → k ≠ M → w4.cell? ⟨k, o, none⟩ = X.cell? ⟨k, o, none⟩ := fun k o hk hne => World.cell?_of_block (a := ⟨k, o, none⟩) (blkM k hk hne)
          have HSb : Hid (w4.cell? ⟨P, 1, none⟩ = some (.map (some M)) ∧ w4.cell? ⟨w.heap.size, 0, none⟩ = some (.int .i64 (gt zs 0)) ∧ w4.cell? ⟨w.heap.size, 1, none⟩ = some (.int .i64 (gt zs 1)) ∧ w4.cell? ⟨w.heap.size, 2, none⟩ = some (.int .i64 (gt zs 2)) ∧ w4.cell? ⟨w.heap.size, 3, none⟩ = some (.int .i64 (gt zs 3)) ∧ w4.cell? ⟨w.heap.size + 1, 0, none⟩ = some (.int .i64 (enQ ss zs : Int)) ∧ w4.cell? ⟨w.heap.size + 1, 1, none⟩ = some (.int .i64 (enN ss zs + 1))) := ⟨(kb P 1 kP neM.symm).trans hU2.bk.c1, (kb _ 0 (by omega) (by omega)).trans (hU2.k 0 (by omega)), (kb _ 1 (by omega) (by omega)).trans (hU2.k 1 (by omega)), (kb _ 2 (by omega) (by omega)).trans (hU2.k 2 (by omega)), (kb _ 3 (by omega) (by omega)).trans (hU2.k 3 (by omega)), (kb _ 0 (by omega) (by omega)).trans hU2.z0, (kb _ 1 (by omega) (by omega)).trans hU2.z1⟩
          have x0 := (kb P 0 kP neM.symm).trans hU2.bk.c0
          have xf : ∀ j, w4.frozen? ⟨P, j, none⟩ = false := fun j => (World.frozen?_of_block (a := ⟨P, j, none⟩) (blkM P kP neM.symm)).trans (hU2.bk.f j)
          have xf0 := xf 0
          have x1 := HSb.out.2.2.2.2.2.1
          have hl4 := gr4.size
          simp only [World.size_drew] at hl4
          have HL : Hid (((enS ss zs).length : Int) = max (ss.length : Int) ((enQ ss zs : Int) + 1)) := by
            show ((enS ss zs).length : Int) = _
            unfold enS
            rw [length_layS _ enL]
            omega
          have hg5 := setC1_grown w4 P 0 (.int .i64 (max (ss.length : Int) ((enQ ss zs : Int) + 1)))
          have HBk : Hid (Bk (w4.setCell ⟨P, 0, none⟩ (.int .i64 (max (ss.length : Int) ((enQ ss zs : Int) + 1)))) P M ((enS ss zs).length : Int) (n + 1) (D.put (kl zs) (st (enQ ss zs : Int) (enN ss zs + 1)))) := by
            show Bk _ _ _ _ _ _
            rw [HL.out]
            refine ⟨by simp; omega, World.cell?_setCell_same _ _ _ x0, ?_, fun j => by simpa using xf j, own4.kept hg5 (fun e => neM (by injection e))⟩
            rw [World.cell?_setCell_other _ _ _ _ (fun e => by injection e with _ e2; omega)]
            exact HSb.out.1
          have HO : Hid (OutP P M w (w4.setCell ⟨P, 0, none⟩ (.int .i64 (max (ss.length : Int) ((enQ ss zs : Int) + 1))))) := ⟨OutS.setCell ((OutS.of_below hU2.bel).trans ⟨gr4.os, gr4.tape, gr4.output, gr4.size, fun k hk hn => blkM k hk (fun e => hn (.inl e))⟩) (.inr rfl) _, ((KP.of_block (hU2.bel.block P hP0)).trans (KP.of_block (blkM P kP neM.symm))).set0 _⟩
          have HR := hide (rep_enter good rep hb.own.isMap (zs := zs) Hz.out)
          have HV : Hid (etV ss zs = (enQ ss zs : Int)) := if_pos HC.out
          unfold ints4 at hup
          have HU := hide hU2
          clear own4 gr4 blkM kb hU2 hg5 xf
          go_cut [] (fun wd => wd = w4)
          case first =>
            go_region_held2 (fun w' => w'.cell? ⟨P, 1, none⟩ = some (.map (some M)) ∧ w'.cell? ⟨w.heap.size, 0, none⟩ = some (.int .i64 (gt zs 0)) ∧ w'.cell? ⟨w.heap.size, 1, none⟩ = some (.int .i64 (gt zs 1)) ∧ w'.cell? ⟨w.heap.size, 2, none⟩ = some (.int .i64 (gt zs 2)) ∧ w'.cell? ⟨w.heap.size, 3, none⟩ = some (.int .i64 (gt zs 3)) ∧ w'.cell? ⟨w.heap.size + 1, 0, none⟩ = some (.int .i64 (enQ ss zs : Int)) ∧ w'.cell? ⟨w.heap.size + 1, 1, none⟩ = some (.int .i64 (enN ss zs + 1)))
              (first | with_reducible exact HSa.out | with_reducible exact HSb.out | with_reducible assumption) (fail)
            all_goals go_wp2_with fail
            all_goals go_meet
            all_goals exact rfl
          case rest =>
            subst hcut
            clear hup HSa HSb
            go_wp2_with fail
            go_region
            all_goals go_wp2
            all_goals first
              | (have em : max (ss.length : Int) ((enQ ss zs : Int) + 1) = (enQ ss zs : Int) + 1 := (by omega)
                 rw [em] at HBk HO
                 refine bodyPost_ret (v := .tuple #[.int .i64 (enQ ss zs : Int), .int .i64 0]) (by simp [results, Tryz.results177, go_sem]) rfl ⟨by rw [HV.out, HC.out], HO.out.drew, fun _ => ⟨_, HBk.out.below (Below.refl _ _).drew, HR.out⟩⟩)
              | (have em : max (ss.length : Int) ((enQ ss zs : Int) + 1) = (ss.length : Int) := (by omega)
                 rw [em] at HBk HO
                 refine bodyPost_ret (v := .tuple #[.int .i64 (enQ ss zs : Int), .int .i64 0]) (by simp [results, Tryz.results177, go_sem]) rfl ⟨by rw [HV.out, HC.out], HO.out.drew, fun _ => ⟨_, HBk.out.below (Below.refl _ _).drew, HR.out⟩⟩)
    · obtain ⟨rfl, rfl⟩ := st_inj (hat.symm.trans hv)
      rw [hh]
      have hU : EnU P M n ss zs D (enN ss zs) w U := by
        have e1 : enQ ss zs = j := by unfold enQ; rw [if_neg (by omega), ha]; omega
        have e2 : enN ss zs = gc ss j := by unfold enN; rw [if_neg (by omega), ha]; rfl
        rw [e2]
        exact ⟨BU, hwU, hlU, hk, by rw [e1]; exact z0, z1, zf⟩
      clear hat hv hh BU hwU hk z0 z1 zf hlU
      go_upto_region 4 with fail
      have d0 := hU.z0
      have d1 := hU.z1
      have df0 := hU.f 0
      have df1 := hU.f 1
      have hund : undef = Value.tuple #[] := rfl
      by_cases h10 : enQ ss zs = 10
      · have e10 : ((enQ ss zs : Int) == 10) = true := by simp; omega
        have HC : Hid (etC ss zs = 7) := if_pos (.inl h10)
        have HO := hide (OutP.of_below (P := P) (M := M) hU.bel hP0)
        clear hU
        go_wp2
        refine bodyPost_ret (v := .tuple #[.int .i64 0, .int .i64 7]) (by simp [results, Tryz.results177, go_sem]) rfl ⟨by rw [HC.out]; unfold etV; rw [if_neg (by rw [HC.out]; decide)], HO.out, fun h => absurd (HC.out.symm.trans h) (by decide)⟩
      · have e10 : ((enQ ss zs : Int) == 10) = false := by simp; omega
        by_cases h99 : enN ss zs = 99
        · have e99 : (enN ss zs == 99) = true := by simp [h99]
          have HC : Hid (etC ss zs = 7) := if_pos (.inr h99)
          have HO := hide (OutP.of_below (P := P) (M := M) hU.bel hP0)
          clear hU
          go_wp2
          refine bodyPost_ret (v := .tuple #[.int .i64 0, .int .i64 7]) (by simp [results, Tryz.results177, go_sem]) rfl ⟨by rw [HC.out]; unfold etV; rw [if_neg (by rw [HC.out]; decide)], HO.out, fun h => absurd (HC.out.symm.trans h) (by decide)⟩
        · have e99 : (enN ss zs == 99) = false := by simp [h99]
          have HC : Hid (etC ss zs = 0) := if_neg (fun e => by rcases e with e | e; exact h10 e; exact h99 e)
          have hU2 := hU.count hP0 hM0 (enN ss zs + 1)
          have en0 := (en_facts good (zs := zs)).2.1
          have en9 := (en_facts good (zs := zs)).2.2.1
          have enL := (en_facts good (zs := zs)).1
          clear hU
          go_upto_region 7 with fail
          generalize hXe : (U.setCell ⟨w.heap.size + 1, 1, none⟩ (.int .i64 (enN ss zs + 1))) = X at hU2 ⊢
          clear hXe d0 d1 df0 df1
          have neM := hU2.bk.ne
          obtain ⟨w4, hup, own4, gr4⟩ := (hU2.bk.own.drew).update lawK Tryz.underlying172 (by unfold maxLen; omega) (key_mk Hz.out) (Rst_mk (enQ ss zs : Int) (enN ss zs + 1))
          have kP := hU2.bk.lt
          have hlX := hU2.lt
          have blkM : ∀ k, k < X.heap.size → k ≠ M → w4.heap[k]? = X.heap[k]? := fun k hk hne => gr4.block k hk (fun e => hne (by injection e))
          have HSa : Hid (X.drew.cell? ⟨P, 1, none⟩ = some (.map (some M)) ∧ X.drew.cell? ⟨w.heap.size, 0, none⟩ = some (.int .i64 (gt zs 0)) ∧ X.drew.cell? ⟨w.heap.size, 1, none⟩ = some (.int .i64 (gt zs 1)) ∧ X.drew.cell? ⟨w.heap.size, 2, none⟩ = some (.int .i64 (gt zs 2)) ∧ X.drew.cell? ⟨w.heap.size, 3, none⟩ = some (.int .i64 (gt zs 3)) ∧ X.drew.cell? ⟨w.heap.size + 1, 0, none⟩ = some (.int .i64 (enQ ss zs : Int)) ∧ X.drew.cell? ⟨w.heap.size + 1, 1, none⟩ = some (.int .i64 (enN ss zs + 1))) := ⟨hU2.bk.c1, hU2.k 0 (by omega), hU2.k 1 (by omega), hU2.k 2 (by omega), hU2.k 3 (by omega), hU2.z0, hU2.z1⟩
          have kb : ∀ k o, k < X.heap.size → k ≠ M → w4.cell? ⟨k, o, none⟩ = X.cell? ⟨k, o, none⟩ := fun k o hk hne => World.cell?_of_block (a := ⟨k, o, none⟩) (blkM k hk hne)
          have HSb : Hid (w4.cell? ⟨P, 1, none⟩ = some (.map (some M)) ∧ w4.cell? ⟨w.heap.size, 0, none⟩ = some (.int .i64 (gt zs 0)) ∧ w4.cell? ⟨w.heap.size, 1, none⟩ = some (.int .i64 (gt zs 1)) ∧ w4.cell? ⟨w.heap.size, 2, none⟩ = some (.int .i64 (gt zs 2)) ∧ w4.cell? ⟨w.heap.size, 3, none⟩ = some (.int .i64 (gt zs 3)) ∧ w4.cell? ⟨w.heap.size + 1, 0, none⟩ = some (.int .i64 (enQ ss zs : Int)) ∧ w4.cell? ⟨w.heap.size + 1, 1, none⟩ = some (.int .i64 (enN ss zs + 1))) := ⟨(kb P 1 kP neM.symm).trans hU2.bk.c1, (kb _ 0 (by omega) (by omega)).trans (hU2.k 0 (by omega)), (kb _ 1 (by omega) (by omega)).trans (hU2.k 1 (by omega)), (kb _ 2 (by omega) (by omega)).trans (hU2.k 2 (by omega)), (kb _ 3 (by omega) (by omega)).trans (hU2.k 3 (by omega)), (kb _ 0 (by omega) (by omega)).trans hU2.z0, (kb _ 1 (by omega) (by omega)).trans hU2.z1⟩
          have x0 := (kb P 0 kP neM.symm).trans hU2.bk.c0
          have xf : ∀ j, w4.frozen? ⟨P, j, none⟩ = false := fun j => (World.frozen?_of_block (a := ⟨P, j, none⟩) (blkM P kP neM.symm)).trans (hU2.bk.f j)
          have xf0 := xf 0
          have x1 := HSb.out.2.2.2.2.2.1
          have hl4 := gr4.size
          simp only [World.size_drew] at hl4
          have HL : Hid (((enS ss zs).length : Int) = max (ss.length : Int) ((enQ ss zs : Int) + 1)) := by
            show ((enS ss zs).length : Int) = _
            unfold enS
            rw [length_layS _ enL]
            omega
          have hg5 := setC1_grown w4 P 0 (.int .i64 (max (ss.length : Int) ((enQ ss zs : Int) + 1)))
          have HBk : Hid (Bk (w4.setCell ⟨P, 0, none⟩ (.int .i64 (max (ss.length : Int) ((enQ ss zs : Int) + 1)))) P M ((enS ss zs).length : Int) (n + 1) (D.put (kl zs) (st (enQ ss zs : Int) (enN ss zs + 1)))) := by
            show Bk _ _ _ _ _ _
            rw [HL.out]
            refine ⟨by simp; omega, World.cell?_setCell_same _ _ _ x0, ?_, fun j => by simpa using xf j, own4.kept hg5 (fun e => neM (by injection e))⟩
            rw [World.cell?_setCell_other _ _ _ _ (fun e => by injection e with _ e2; omega)]
            exact HSb.out.1
          have HO : Hid (OutP P M w (w4.setCell ⟨P, 0, none⟩ (.int .i64 (max (ss.length : Int) ((enQ ss zs : Int) + 1))))) := ⟨OutS.setCell ((OutS.of_below hU2.bel).trans ⟨gr4.os, gr4.tape, gr4.output, gr4.size, fun k hk hn => blkM k hk (fun e => hn (.inl e))⟩) (.inr rfl) _, ((KP.of_block (hU2.bel.block P hP0)).trans (KP.of_block (blkM P kP neM.symm))).set0 _⟩
          have HR := hide (rep_enter good rep hb.own.isMap (zs := zs) Hz.out)
          have HV : Hid (etV ss zs = (enQ ss zs : Int)) := if_pos HC.out
          unfold ints4 at hup
          have HU := hide hU2
          clear own4 gr4 blkM kb hU2 hg5 xf
          go_cut [] (fun wd => wd = w4)
          case first =>
            go_region_held2 (fun w' => w'.cell? ⟨P, 1, none⟩ = some (.map (some M)) ∧ w'.cell? ⟨w.heap.size, 0, none⟩ = some (.int .i64 (gt zs 0)) ∧ w'.cell? ⟨w.heap.size, 1, none⟩ = some (.int .i64 (gt zs 1)) ∧ w'.cell? ⟨w.heap.size, 2, none⟩ = some (.int .i64 (gt zs 2)) ∧ w'.cell? ⟨w.heap.size, 3, none⟩ = some (.int .i64 (gt zs 3)) ∧ w'.cell? ⟨w.heap.size + 1, 0, none⟩ = some (.int .i64 (enQ ss zs : Int)) ∧ w'.cell? ⟨w.heap.size + 1, 1, none⟩ = some (.int .i64 (enN ss zs + 1)))
              (first | with_reducible exact HSa.out | with_reducible exact HSb.out | with_reducible assumption) (fail)
            all_goals go_wp2_with fail
            all_goals go_meet
            all_goals exact rfl
          case rest =>
            subst hcut
            clear hup HSa HSb
            go_wp2_with fail
            go_region
            all_goals go_wp2
            all_goals first
              | (have em : max (ss.length : Int) ((enQ ss zs : Int) + 1) = (enQ ss zs : Int) + 1 := (by omega)
                 rw [em] at HBk HO
                 refine bodyPost_ret (v := .tuple #[.int .i64 (enQ ss zs : Int), .int .i64 0]) (by simp [results, Tryz.results177, go_sem]) rfl ⟨by rw [HV.out, HC.out], HO.out.drew, fun _ => ⟨_, HBk.out.below (Below.refl _ _).drew, HR.out⟩⟩)
              | (have em : max (ss.length : Int) ((enQ ss zs : Int) + 1) = (ss.length : Int) := (by omega)
                 rw [em] at HBk HO
                 refine bodyPost_ret (v := .tuple #[.int .i64 (enQ ss zs : Int), .int .i64 0]) (by simp [results, Tryz.results177, go_sem]) rfl ⟨by rw [HV.out, HC.out], HO.out.drew, fun _ => ⟨_, HBk.out.below (Below.refl _ _).drew, HR.out⟩⟩)

theorem Bk.keepG {w w' : World} {P M n : Nat} {sz : Int} {D : DataW Unit} (h : Bk w P M sz n D) {row : Option Nat} (hg : w.grownBy w' row) (h1 : some P ≠ row) (h2 : some M ≠ row) : Bk w' P M sz n D := by
  cases row with
  | some r => exact h.keep hg (fun e => h1 (by rw [e])) (fun e => h2 (by rw [e]))
  | none => exact h.below ⟨hg.os, hg.tape, hg.output, hg.size, fun k hk => hg.block k hk (by simp)⟩

end Go.Proofs.YtgkjmeogdomgmaaGreat
