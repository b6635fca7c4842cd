import Derived.Test.YtnlkigjgloeonaaGreatCounted
import Derived.Test.YtnlkigjgloeonaaGreatClone
import Derived.Test.YtnlkigjgloeonaaGreatOpen
import Derived.Test.YtnlkigjgloeonaaGreatQs
import Derived.WalkKit
import Derived.ProofKit
import Derived.OpenShut
import Derived.ShutString
import Derived.ChangeOld
import Derived.Below
import Derived.WalkSpells
import Derived.Deep.QuietTactic
import Derived.BigQuiet
import Derived.Deep.RegionWith
import Derived.Deep.WholeRow
import Derived.Deep.DeepCutAuto
import Derived.Deep.RegionHeld2
import Derived.Deep.AppendLies
import Derived.Deep.RegionLaw
namespace Go.Proofs.YtnlkigjgloeonaaGreat
open Go.ChangeShapes Go.WideShapes Go.ChangeAt Go.RowKit

/-- how tables read. -/
def RT (w : World) (a : Option Addr) (n : Nat) (ss : List (Int × List Int)) (ta : Option Addr) (tn : Nat) (ts : List Int) (da : Option Addr) (dn : Nat) (ds : List Int) : Prop :=
  n ≤ maxLen ∧ Sls w a n ss ∧ tn ≤ maxLen ∧ Sl w ta tn ts ∧ dn ≤ maxLen ∧ Sl w da dn ds

theorem RT.below {w w' : World} {a : Option Addr} {n : Nat} {ss : List (Int × List Int)} {ta : Option Addr} {tn : Nat} {ts : List Int} {da : Option Addr} {dn : Nat} {ds : List Int} (h : RT w a n ss ta tn ts da dn ds) {B : Nat} (hb : Below B w w') (hB : w.heap.size ≤ B) : RT w' a n ss ta tn ts da dn ds :=
  ⟨h.1, h.2.1.below hb hB, h.2.2.1, h.2.2.2.1.below hb hB, h.2.2.2.2.1, h.2.2.2.2.2.below hb hB⟩

/-- what a ledger's cells lead to: the book's map, the tags, the domains, each in blocks of their own. -/
def Led (w0 : Nat) (mo : Option Nat) (ss : List (Int × List Int)) (xa : Option Addr) (xn : Nat) (ts : List Int) (ya : Option Addr) (yn : Nat) (ds : List Int) (w : World) : Prop :=
  ∃ M X1 X2 X3, mo = some M ∧ w0 ≤ M ∧ M < X1 ∧ X1 ≤ X2 ∧ X2 ≤ X3 ∧ X3 ≤ w.heap.size ∧ w.ownsMap Tryz.prog 232 Rst M ss.length (bk ss ss.length) ∧ OS (InR X1 X2) xa xn ts w ∧ OS (InR X2 X3) ya yn ds w

theorem Led.below {w0 : Nat} {mo : Option Nat} {ss : List (Int × List Int)} {xa ya : Option Addr} {xn yn : Nat} {ts ds : List Int} {w w' : World} (h : Led w0 mo ss xa xn ts ya yn ds w) (hb : Below w.heap.size w w') : Led w0 mo ss xa xn ts ya yn ds w' := by
  obtain ⟨M, X1, X2, X3, h1, h2, h3, h4, h5, h6, h7, h8, h9⟩ := h
  exact ⟨M, X1, X2, X3, h1, h2, h3, h4, h5, by have := hb.size; omega, ownsMap_below h7 hb (Nat.le_refl _), OS.loc.below hb h8, OS.loc.below hb h9⟩

theorem Led.mono {w0 w1 : Nat} {mo : Option Nat} {ss : List (Int × List Int)} {xa ya : Option Addr} {xn yn : Nat} {ts ds : List Int} {w : World} (h : Led w0 mo ss xa xn ts ya yn ds w) (hb : w1 ≤ w0) : Led w1 mo ss xa xn ts ya yn ds w := by
  obtain ⟨M, X1, X2, X3, h1, h2, h⟩ := h
  exact ⟨M, X1, X2, X3, h1, by omega, h⟩

theorem Led.setCell {w0 : Nat} {mo : Option Nat} {ss : List (Int × List Int)} {xa ya : Option Addr} {xn yn : Nat} {ts ds : List Int} {w : World} (h : Led w0 mo ss xa xn ts ya yn ds w) {p : Addr} (hp : p.block < w0) (v : Value) : Led w0 mo ss xa xn ts ya yn ds (w.setCell p v) := by
  obtain ⟨M, X1, X2, X3, h1, h2, h3, h4, h5, h6, h7, h8, h9⟩ := h
  exact ⟨M, X1, X2, X3, h1, h2, h3, h4, h5, by simpa using h6, h7.setCell (by omega) v, OS.loc.setC h8 (fun e => by have := e.1; omega) v, OS.loc.setC h9 (fun e => by have := e.1; omega) v⟩

theorem tabF_bad {ss : List (Int × List Int)} {ts ds : List Int} (h : faultR ss ≠ 0) : tabF ss ts ds = faultR ss := if_neg h

theorem tabF_many {ss : List (Int × List Int)} {ts ds : List Int} (h : faultR ss = 0) (hm : manyB ts ds = true) : tabF ss ts ds = 2 := by
  unfold tabF
  rw [if_pos h, if_pos hm]

theorem tabF_led {ss : List (Int × List Int)} {ts ds : List Int} (h : faultR ss = 0) (hm : manyB ts ds = false) : tabF ss ts ds = ledF ss ts ds := by
  unfold tabF
  rw [if_pos h, if_neg (by rw [hm]; simp)]

theorem OS.allocR {B T B' : Nat} {a : Option Addr} {n : Nat} {rs : List Int} {w : World} (h : OS (InR B T) a n rs w) (hB : B' ≤ B) (o : Obj) : OS (InR B' T) a n rs (w.alloc o) := OS.mono (OS.loc.alloc h o) (fun k hk => ⟨by have := hk.1; omega, hk.2⟩)

theorem OS.set4R {B T B' P : Nat} {a : Option Addr} {n : Nat} {rs : List Int} {w : World} (h : OS (InR B T) a n rs w) (hB : B' ≤ B) (hP : P < B ∨ T ≤ P) (v0 v1 v2 v3 : Value) :
    OS (InR B' T) a n rs ((((w.setCell ⟨P, 0, none⟩ v0).setCell ⟨P, 1, none⟩ v1).setCell ⟨P, 2, none⟩ v2).setCell ⟨P, 3, none⟩ v3) := by
  have hn : ¬ InR B T P := fun e => by have h1 := e.1; have h2 := e.2; omega
  exact OS.mono (OS.loc.setC (OS.loc.setC (OS.loc.setC (OS.loc.setC h hn _) hn _) hn _) hn _) (fun k hk => ⟨by have := hk.1; omega, hk.2⟩)

/-- what 'openTables' answers. -/
def OT1 (ss : List (Int × List Int)) (ts ds : List Int) (w : World) (e : Ending) (w' : World) : Prop :=
  ∃ sz mo xa xn xc ya yn yc, e = .returned (.tuple #[.agg #[.int .i64 sz, .map mo, .slice xa xn xc, .slice ya yn yc], .int .i64 (tabF ss ts ds)]) ∧ Below w.heap.size w w' ∧
    (tabF ss ts ds = 0 → sz = (ss.length : Int) ∧ Led w.heap.size mo ss xa xn ts ya yn ds w')

theorem OT1.mk {ss : List (Int × List Int)} {ts ds : List Int} {w w' : World} {e : Ending} (sz : Int) (mo : Option Nat) (xa : Option Addr) (xn xc : Nat) (ya : Option Addr) (yn yc : Nat) (he : e = .returned (.tuple #[.agg #[.int .i64 sz, .map mo, .slice xa xn xc, .slice ya yn yc], .int .i64 (tabF ss ts ds)])) (hb : Below w.heap.size w w')
    (h : tabF ss ts ds = 0 → sz = (ss.length : Int) ∧ Led w.heap.size mo ss xa xn ts ya yn ds w') : OT1 ss ts ds w e w' := ⟨sz, mo, xa, xn, xc, ya, yn, yc, he, hb, h⟩

set_option maxRecDepth 100000 in
set_option maxHeartbeats 4000000 in
theorem openTables_calls (a : Option Addr) (n c : Nat) (ss : List (Int × List Int)) (ta : Option Addr) (tn tc : Nat) (ts : List Int) (da : Option Addr) (dn dc : Nat) (ds : List Int) (w : World) (hx : RT w a n ss ta tn ts da dn ds) :
    Calls Tryz.prog 89 #[.agg #[.slice a n c, .slice ta tn tc, .slice da dn dc]] w (OT1 ss ts ds w) := by
  have M0 := ((Mm.start w).alloc3 (.slice a n c) (.slice ta tn tc) (.slice da dn dc) 54).alloc4 (.int .i64 0) (.map none) (.slice none 0 0) (.slice none 0 0) 154
  simp only [World.size_alloc] at M0
  have hx0 := hx.below M0.bel (Nat.le_refl _)
  obtain rfl : n = ss.length := hx.2.1.1.symm
  have htl := hx.2.2.2.1.1
  have hdl := hx.2.2.2.2.2.1
  obtain ⟨hn, _, htm, _, hdm, _⟩ := hx
  obtain ⟨_, hss, _, hts, _, hds⟩ := hx0
  by_cases hr : faultR ss = 0
  · have er : (faultR ss != 0) = false := by simp [hr]
    have Hr := hide hr
    clear hr
    by_cases hmany : manyB ts ds = true
    · have HF := hide (tabF_many Hr.out hmany)
      by_cases h6 : 6 < tn
      · go_enter Tryz.func89, Tryz.ntmps89
        go_wp2_with fail
        refine (openRegistry_calls a _ c ss _ hn hss).mono ?_
        rintro e w1 ⟨sz, mo, rfl, g1, _⟩
        have M1 := (M0.below g1).alloc2 (.int .i64 sz) (.map mo) 152
        have t1 := M1.cell 7 rfl
        have r0 := M1.cell 2 rfl
        have r1 := M1.cell 3 rfl
        have r2 := M1.cell 4 rfl
        have r3 := M1.cell 5 rfl
        have f0 := M1.fz 2 rfl
        have f1 := M1.fz 3 rfl
        have f2 := M1.fz 4 rfl
        have f3 := M1.fz 5 rfl
        have HB := hide M1.bel
        clear M0 M1 g1 hss hts hds
        go_wp2
        refine bodyPost_ret (v := .tuple #[.agg #[.int .i64 0, .map none, .slice none 0 0, .slice none 0 0], .int .i64 2]) (by simp [results, Tryz.results89, go_sem, r0, r1, r2, r3]) rfl (OT1.mk 0 none none 0 0 none 0 0 (by rw [HF.out]) ?_ (fun h => absurd (HF.out.symm.trans h) (by decide)))
        exact (((HB.out.setCell (by simp) _).setCell (by simp) _).setCell (by simp) _).setCell (by simp) _
      · have h4 : 4 < dn := by
          unfold manyB at hmany
          simp at hmany
          omega
        go_enter Tryz.func89, Tryz.ntmps89
        go_wp2_with fail
        refine (openRegistry_calls a _ c ss _ hn hss).mono ?_
        rintro e w1 ⟨sz, mo, rfl, g1, _⟩
        have M1 := (M0.below g1).alloc2 (.int .i64 sz) (.map mo) 152
        have t1 := M1.cell 7 rfl
        have t2 := M1.cell 8 rfl
        have r0 := M1.cell 2 rfl
        have r1 := M1.cell 3 rfl
        have r2 := M1.cell 4 rfl
        have r3 := M1.cell 5 rfl
        have f0 := M1.fz 2 rfl
        have f1 := M1.fz 3 rfl
        have f2 := M1.fz 4 rfl
        have f3 := M1.fz 5 rfl
        have HB := hide M1.bel
        clear M0 M1 g1 hss hts hds
        go_wp2
        refine bodyPost_ret (v := .tuple #[.agg #[.int .i64 0, .map none, .slice none 0 0, .slice none 0 0], .int .i64 2]) (by simp [results, Tryz.results89, go_sem, r0, r1, r2, r3]) rfl (OT1.mk 0 none none 0 0 none 0 0 (by rw [HF.out]) ?_ (fun h => absurd (HF.out.symm.trans h) (by decide)))
        exact (((HB.out.setCell (by simp) _).setCell (by simp) _).setCell (by simp) _).setCell (by simp) _
    · have hmf : manyB ts ds = false := by simpa using hmany
      have HF := hide (tabF_led Hr.out hmf)
      have hs6 : ¬ (6 < tn) ∧ ¬ (4 < dn) := by
        unfold manyB at hmf
        simp at hmf
        omega
      obtain ⟨h6, h4⟩ := hs6
      clear hmany hmf
      go_enter Tryz.func89, Tryz.ntmps89
      go_wp2_with fail
      refine (openRegistry_calls a _ c ss _ hn hss).mono ?_
      rintro e w1 ⟨sz, mo, rfl, g1, hown⟩
      obtain ⟨rfl, M, rfl, hM, hown⟩ := hown Hr.out
      simp only [World.size_alloc] at hM
      have M1 := (M0.below g1).alloc2 (.int .i64 (ss.length : Int)) (.map (some M)) 152
      have al := (Below.refl w1.heap.size w1).alloc (Nat.le_refl _) (.cells #[.int .i64 (ss.length : Int), .map (some M)] 152)
      have s1 := (hts.below g1 (Nat.le_refl _)).below al (Nat.le_refl _)
      have s2 := (hds.below g1 (Nat.le_refl _)).below al (Nat.le_refl _)
      have hown1 := ownsMap_below hown al (Nat.le_refl _)
      have q0 := M1.cell 0 rfl
      have q1 := M1.cell 1 rfl
      have q2 := M1.cell 7 rfl
      have q3 := M1.cell 8 rfl
      have lt0 := M1.lt 0 rfl
      have lt2 := M1.lt 7 rfl
      have ltR := M1.lt 2 rfl
      have hMlt : M < w1.heap.size := hown.lt
      clear g1 al hown hss hts hds M0
      go_upto_region 6 with fail
      generalize hW : (w1.alloc (.cells #[.int .i64 (ss.length : Int), .map (some M)] 152)) = W at M1 s1 s2 hown1 q0 q1 q2 q3 lt0 lt2 ltR ⊢
      have HWs : Hid (W.heap.size = w1.heap.size + 1) := by show _ = _; rw [← hW]; simp
      clear hW
      go_cut [6] (fun v6 wd => ∃ P xa xc ya yc X1 X2 X3, v6 = .pointer (some ⟨P, 0, none⟩) ∧ wd.cell? ⟨P, 0, none⟩ = some (.int .i64 (ss.length : Int)) ∧ wd.cell? ⟨P, 1, none⟩ = some (.map (some M)) ∧ wd.cell? ⟨P, 2, none⟩ = some (.slice xa tn xc) ∧ wd.cell? ⟨P, 3, none⟩ = some (.slice ya dn yc) ∧
        (∀ j, wd.frozen? ⟨P, j, none⟩ = false) ∧ (W.heap.size ≤ X1 ∧ X1 ≤ X2 ∧ X2 ≤ X3 ∧ X3 ≤ wd.heap.size) ∧ OS (InR X1 X2) xa tn ts wd ∧ OS (InR X2 X3) ya dn ds wd ∧ Below W.heap.size W wd)
      case first =>
        have HS0 : Hid (W.drew.cell? ⟨w1.heap.size, 0, none⟩ = some (.int .i64 (ss.length : Int)) ∧ W.drew.cell? ⟨w1.heap.size, 1, none⟩ = some (.map (some M)) ∧ W.drew.cell? ⟨w.heap.size, 1, none⟩ = some (.slice ta tn tc) ∧ W.drew.cell? ⟨w.heap.size, 2, none⟩ = some (.slice da dn dc) ∧ Below W.heap.size W W.drew) := ⟨q0, q1, q2, q3, (Below.refl _ _).drew⟩
        have HS1 := hide s1
        have HS2 := hide s2
        clear M1 s1 s2 hown1
        go_region_held2 (fun w' => w'.cell? ⟨w1.heap.size, 0, none⟩ = some (.int .i64 (ss.length : Int)) ∧ w'.cell? ⟨w1.heap.size, 1, none⟩ = some (.map (some M)) ∧ w'.cell? ⟨w.heap.size, 1, none⟩ = some (.slice ta tn tc) ∧ w'.cell? ⟨w.heap.size, 2, none⟩ = some (.slice da dn dc) ∧ Below W.heap.size W w')
          (first | with_reducible exact HS0.out | (repeat (first | with_reducible assumption | with_reducible refine q4_allocd lt0 lt0 lt2 lt2 ?_ _ | with_reducible refine q4_alloc lt0 lt0 lt2 lt2 ?_ _ | with_reducible refine q4_set lt0 lt0 lt2 lt2 ?_ ?_ _ | (show (_ : Nat) ≤ _; exact Nat.le_refl _) | (show (_ : Nat) ≤ _; dsimp only; omega))))
          (first
            | (go_at_call_of 96 (Value.slice ta tn tc); refine (clone_calls ta tn tc ts _ (by omega) ?_).mono ?_; exact HS1.out.below (q4_bel (by with_reducible assumption)) (Nat.le_refl _); rintro e wa ⟨xa, xc, rfl, ox, ga⟩; have hsa := q4_below lt0 lt0 lt2 lt2 (by with_reducible assumption) ga; have hza := ga.size; have hwa := (q4_bel hsa).size; (try simp only [World.size_alloc, World.size_drew] at hza ox); (try have hqa := Nat.lt_of_succ_le hza); obtain ⟨bca, bfa⟩ := bcellQ ga; (try simp only [World.size_alloc, World.size_drew] at bca bfa); clear ga)
            | (go_at_call_of 96 (Value.slice da dn dc); refine (clone_calls da dn dc ds _ (by omega) ?_).mono ?_; exact HS2.out.below (q4_bel (by with_reducible assumption)) (Nat.le_refl _); rintro e wb ⟨ya, yc, rfl, oy, gb⟩; have hsb := q4_below lt0 lt0 lt2 lt2 (by with_reducible assumption) gb; have ox := Loc.belowA OS.loc ox gb (by first | exact Below.refl _ _ | exact (Below.refl _ _).alloc (Nat.le_refl _) _); have hzb := gb.size; have hwb := (q4_bel hsb).size; (try simp only [World.size_alloc] at hzb oy); (try have hqb := Nat.lt_of_succ_le hzb); (try have hrb := Nat.lt_of_lt_of_le hqa hzb); obtain ⟨bcb, bfb⟩ := bcellQ gb; (try simp only [World.size_alloc] at bcb bfb); clear gb))
        all_goals go_wp2_with fail
        all_goals go_meet
        all_goals (
          refine ⟨_, xa, xc, ya, yc, W.heap.size, wa.heap.size, wb.heap.size, rfl, ?c0, ?c1, ?c2, ?c3, fun j => ?fz, ⟨Nat.le_refl _, hwa, ?s1, ?s2⟩, ?ox, ?oy, ?bel⟩
          case c0 => first | (go_simp; done) | (with_reducible refine set4_at0 _ _ _ _ _ _ ?_; go_simp; done)
          case c1 => first | (go_simp; done) | (with_reducible refine set4_at1 _ _ _ _ _ _ ?_; go_simp; done)
          case c2 => first | (go_simp; done) | (with_reducible refine set4_at2 _ _ _ _ _ _ ?_; go_simp; done)
          case c3 => first | (go_simp; done) | (with_reducible refine set4_at3 _ _ _ _ _ _ ?_; go_simp; done)
          case fz => go_simp
          case s1 => omega
          case s2 => first | omega | (simp; done) | (simp; omega)
          case ox => first | with_reducible exact OS.allocR ox (by omega) _ | with_reducible exact OS.set4R ox (by omega) (by omega) _ _ _ _
          case oy => first | with_reducible exact OS.allocR oy (by omega) _ | with_reducible exact OS.set4R oy (by omega) (by omega) _ _ _ _
          case bel => exact q4_bel (by with_reducible assumption))
      case rest =>
        obtain ⟨P, xa, xc, ya, yc, X1, X2, X3, rfl, c0, c1, c2, c3, cf, ⟨k1, k2, k3, k4⟩, ox, oy, hWc⟩ := hcut
        obtain ⟨wq, rfl⟩ : ∃ x, x = wc := ⟨wc, rfl⟩
        have lP : P < wq.heap.size := World.block_lt_of_cell? _ _ c0
        have M2 := M1.below hWc
        have hown2 := ownsMap_below hown1 hWc (Nat.le_refl _)
        have bkq : Bk wq.drew P M (ss.length : Int) ss.length (bk ss ss.length) := ⟨lP, c0, c1, cf, hown2⟩
        have HQ := hide bkq
        have HX := hide (OS.loc.below (Below.refl wq.heap.size wq).drew ox)
        have HY := hide (OS.loc.below (Below.refl wq.heap.size wq).drew oy)
        have HM2 := hide M2
        have kW := HWs.out
        have r0 := M2.cell 2 rfl
        have r1 := M2.cell 3 rfl
        have r2 := M2.cell 4 rfl
        have r3 := M2.cell 5 rfl
        have f0 := M2.fz 2 rfl
        have f1 := M2.fz 3 rfl
        have f2 := M2.fz 4 rfl
        have f3 := M2.fz 5 rfl
        clear M1 M2 hown1 hown2 bkq ox oy hWc s1 s2 q0 q1 q2 q3 HWs
        go_wp2_with fail
        go_region_with (first
          | (go_at_call 132; refine (fault_calls P M _ ss _ xa ya tn xc dn yc ts ds _ HQ.out (good_of Hr.out) (rep_bk Hr.out) c2 c3 HX.out.sl HY.out.sl (by omega) (by omega)).mono ?_; rintro e w3 ⟨rfl, g3⟩; have h3 : Below wq.heap.size wq w3 := ((Below.refl wq.heap.size wq).drew).trans g3; have d0 := (h3.cell (p := ⟨P, 0, none⟩) lP).trans c0; have d1 := (h3.cell (p := ⟨P, 1, none⟩) lP).trans c1; have d2 := (h3.cell (p := ⟨P, 2, none⟩) lP).trans c2; have d3 := (h3.cell (p := ⟨P, 3, none⟩) lP).trans c3; have M3 := HM2.out.below h3; have u0 := M3.cell 2 rfl; have u1 := M3.cell 3 rfl; have u2 := M3.cell 4 rfl; have u3 := M3.cell 5 rfl; have v0 := M3.fz 2 rfl; have v1 := M3.fz 3 rfl; have v2 := M3.fz 4 rfl; have v3 := M3.fz 5 rfl; have HB3 := hide M3.bel; have HL : Hid (Led (w.heap.size + 1 + 1) (some M) ss xa tn ts ya dn ds w3) := ⟨M, X1, X2, X3, rfl, by omega, by omega, k2, k3, by have := h3.size; omega, ownsMap_below HQ.out.own g3 (Nat.le_refl _), OS.loc.below g3 HX.out, OS.loc.below g3 HY.out⟩; clear g3 h3 M3))
        all_goals go_wp2
        all_goals refine bodyPost_ret (v := .tuple #[.agg #[.int .i64 (ss.length : Int), .map (some M), .slice xa tn xc, .slice ya dn yc], .int .i64 (ledF ss ts ds)]) (by simp [results, Tryz.results89, go_sem, u0, u1, u2, u3]) rfl (OT1.mk (ss.length : Int) (some M) xa tn xc ya dn yc (by rw [HF.out]) ?_ (fun _ => ⟨rfl, ?_⟩))
        all_goals first | exact (((HB3.out.setCell (by simp) _).setCell (by simp) _).setCell (by simp) _).setCell (by simp) _ | exact ((((HL.out.setCell (by simp) _).setCell (by simp) _).setCell (by simp) _).setCell (by simp) _).mono (by omega)
  · have er : (faultR ss != 0) = true := by simp [hr]
    have HF := hide (tabF_bad (ts := ts) (ds := ds) hr)
    have Hr := hide hr
    clear hr
    go_enter Tryz.func89, Tryz.ntmps89
    go_wp2_with fail
    refine (openRegistry_calls a _ c ss _ hn hss).mono ?_
    rintro e w1 ⟨sz, mo, rfl, g1, _⟩
    have M1 := (M0.below g1).alloc2 (.int .i64 sz) (.map mo) 152
    have r0 := M1.cell 2 rfl
    have r1 := M1.cell 3 rfl
    have r2 := M1.cell 4 rfl
    have r3 := M1.cell 5 rfl
    have f0 := M1.fz 2 rfl
    have f1 := M1.fz 3 rfl
    have f2 := M1.fz 4 rfl
    have f3 := M1.fz 5 rfl
    have HB := hide M1.bel
    clear M0 M1 g1 hss hts hds
    go_wp2
    refine bodyPost_ret (v := .tuple #[.agg #[.int .i64 0, .map none, .slice none 0 0, .slice none 0 0], .int .i64 (faultR ss)]) (by simp [results, Tryz.results89, go_sem, r0, r1, r2, r3]) rfl (OT1.mk 0 none none 0 0 none 0 0 (by rw [HF.out]) ?_ (fun h => absurd (HF.out.symm.trans h) Hr.out))
    exact (((HB.out.setCell (by simp) _).setCell (by simp) _).setCell (by simp) _).setCell (by simp) _

end Go.Proofs.YtnlkigjgloeonaaGreat
