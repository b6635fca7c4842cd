import Derived.Test.YtnlkigjgloeonaaGreatSpec3
import Derived.Test.YtnlkigjgloeonaaGreatOpenTab
import Derived.WalkKit
import Derived.ProofKit
import Derived.OpenShut
import Derived.ShutString
import Derived.ChangeOld
import Derived.Below
import Derived.WalkSpells
import Derived.Deep.QuietTactic
import Derived.BigQuiet
import Derived.Deep.RegionWith
import Derived.Deep.WholeRow
import Derived.Deep.DeepCutAuto
import Derived.Deep.RegionHeld2
import Derived.Deep.AppendLies
import Derived.Deep.RegionLaw
namespace Go.Proofs.YtnlkigjgloeonaaGreat
open Go.ChangeShapes Go.WideShapes Go.ChangeAt Go.RowKit

set_option maxRecDepth 100000 in
set_option maxHeartbeats 2000000 in
theorem l3Fault_calls (p : Nat) (a : Option Addr) (n ca : Nat) (ss : List (Int × List Int)) (ta : Option Addr) (tl tc : Nat) (ts : List Int) (da : Option Addr) (dl dc : Nat) (ds : List Int) (w : World) (hp : p < w.heap.size)
    (hpc : w.cell? ⟨p, 0, none⟩ = some (.slice a n ca)) (hpt : w.cell? ⟨p, 1, none⟩ = some (.slice ta tl tc)) (hpd : w.cell? ⟨p, 2, none⟩ = some (.slice da dl dc)) (hrt : RT w a n ss ta tl ts da dl ds) :
    Calls Tryz.prog 63 #[.pointer (some ⟨p, 0, none⟩)] w fun e w' => e = .returned (.int .i64 (tabF ss ts ds)) ∧ Below w.heap.size w w' := by
  obtain ⟨hn, hx, htm, ht, hdm, hd⟩ := hrt
  have hlen := hx.1
  have htl := ht.1
  have hdl := hd.1
  by_cases hr : faultR ss = 0
  · have er : (faultR ss != 0) = false := by simp [hr]
    have good := good_of hr
    have few := good.few
    have Hr := hide hr
    clear hr
    by_cases hmany : manyB ts ds = true
    · have HF := hide (tabF_many Hr.out hmany)
      by_cases h6 : 6 < tl
      · go_enter Tryz.func63, Tryz.ntmps63
        go_wp2_with fail
        refine (l2Fault_calls p a n ca ss _ hn hp hpc hx).mono ?_
        rintro e w1 ⟨rfl, g1⟩
        have pc1 := (g1.cell (p := ⟨p, 0, none⟩) hp).trans hpc
        have pt1 := (g1.cell (p := ⟨p, 1, none⟩) hp).trans hpt
        have pd1 := (g1.cell (p := ⟨p, 2, none⟩) hp).trans hpd
        have lp1 : p < w1.heap.size := by have := g1.size; omega
        have hx1 := hx.below g1 (Nat.le_refl _)
        have ht1 := ht.below g1 (Nat.le_refl _)
        have hd1 := hd.below g1 (Nat.le_refl _)
        clear pc1 pd1 hx1 ht1 hd1
        have HE := hide g1
        clear g1
        go_wp2
        go_ret
        exact ⟨ret_int HF.out.symm, HE.out⟩
      · have h4 : 4 < dl := by
          unfold manyB at hmany
          simp at hmany
          omega
        go_enter Tryz.func63, Tryz.ntmps63
        go_wp2_with fail
        refine (l2Fault_calls p a n ca ss _ hn hp hpc hx).mono ?_
        rintro e w1 ⟨rfl, g1⟩
        have pc1 := (g1.cell (p := ⟨p, 0, none⟩) hp).trans hpc
        have pt1 := (g1.cell (p := ⟨p, 1, none⟩) hp).trans hpt
        have pd1 := (g1.cell (p := ⟨p, 2, none⟩) hp).trans hpd
        have lp1 : p < w1.heap.size := by have := g1.size; omega
        have hx1 := hx.below g1 (Nat.le_refl _)
        have ht1 := ht.below g1 (Nat.le_refl _)
        have hd1 := hd.below g1 (Nat.le_refl _)
        clear pc1 hx1 ht1 hd1
        have HE := hide g1
        clear g1
        go_wp2
        go_ret
        exact ⟨ret_int HF.out.symm, HE.out⟩
    · have hm : manyB ts ds = false := by simpa using hmany
      have hs6 : ¬ (6 < tl) ∧ ¬ (4 < dl) := by
        unfold manyB at hm
        simp at hm
        omega
      obtain ⟨h6, h4⟩ := hs6
      cases h1 : allS ss ts with
      | false =>
        have HF : Hid (tabF ss ts ds = 4) := by show _ = _; rw [tabF_led Hr.out hm]; simp [ledF, h1]
        go_enter Tryz.func63, Tryz.ntmps63
        go_wp2_with fail
        refine (l2Fault_calls p a n ca ss _ hn hp hpc hx).mono ?_
        rintro e w1 ⟨rfl, g1⟩
        have pc1 := (g1.cell (p := ⟨p, 0, none⟩) hp).trans hpc
        have pt1 := (g1.cell (p := ⟨p, 1, none⟩) hp).trans hpt
        have pd1 := (g1.cell (p := ⟨p, 2, none⟩) hp).trans hpd
        have lp1 : p < w1.heap.size := by have := g1.size; omega
        have hx1 := hx.below g1 (Nat.le_refl _)
        have ht1 := ht.below g1 (Nat.le_refl _)
        have hd1 := hd.below g1 (Nat.le_refl _)
        go_wp2_with fail
        refine (l3Slots_calls p a n ca ss ta tl tc ts _ good (by omega) lp1 pc1 hx1 ht1).mono ?_
        rintro e w2 ⟨rfl, g2⟩
        rw [h1]
        have g02 := g1.trans (g2.mono g1.size)
        have pc2 := (g02.cell (p := ⟨p, 0, none⟩) hp).trans hpc
        have pt2 := (g02.cell (p := ⟨p, 1, none⟩) hp).trans hpt
        have pd2 := (g02.cell (p := ⟨p, 2, none⟩) hp).trans hpd
        have lp2 : p < w2.heap.size := by have := g02.size; omega
        clear g1 g2 pc1 pt1 pd1 lp1 hx1 ht1 hd1
        clear pc2 pt2 pd2
        have HE := hide g02
        clear g02
        go_wp2
        go_ret
        exact ⟨ret_int HF.out.symm, HE.out⟩
      | true =>
        cases h2 : allS ss ds with
        | false =>
          have HF : Hid (tabF ss ts ds = 4) := by show _ = _; rw [tabF_led Hr.out hm]; simp [ledF, h2]
          go_enter Tryz.func63, Tryz.ntmps63
          go_wp2_with fail
          refine (l2Fault_calls p a n ca ss _ hn hp hpc hx).mono ?_
          rintro e w1 ⟨rfl, g1⟩
          have pc1 := (g1.cell (p := ⟨p, 0, none⟩) hp).trans hpc
          have pt1 := (g1.cell (p := ⟨p, 1, none⟩) hp).trans hpt
          have pd1 := (g1.cell (p := ⟨p, 2, none⟩) hp).trans hpd
          have lp1 : p < w1.heap.size := by have := g1.size; omega
          have hx1 := hx.below g1 (Nat.le_refl _)
          have ht1 := ht.below g1 (Nat.le_refl _)
          have hd1 := hd.below g1 (Nat.le_refl _)
          go_wp2_with fail
          refine (l3Slots_calls p a n ca ss ta tl tc ts _ good (by omega) lp1 pc1 hx1 ht1).mono ?_
          rintro e w2 ⟨rfl, g2⟩
          rw [h1]
          have g02 := g1.trans (g2.mono g1.size)
          have pc2 := (g02.cell (p := ⟨p, 0, none⟩) hp).trans hpc
          have pt2 := (g02.cell (p := ⟨p, 1, none⟩) hp).trans hpt
          have pd2 := (g02.cell (p := ⟨p, 2, none⟩) hp).trans hpd
          have lp2 : p < w2.heap.size := by have := g02.size; omega
          clear g1 g2 pc1 pt1 pd1 lp1 hx1 ht1 hd1
          go_wp2_with fail
          refine (l3Slots_calls p a n ca ss da dl dc ds _ good (by omega) lp2 pc2 (hx.below g02 (Nat.le_refl _)) (hd.below g02 (Nat.le_refl _))).mono ?_
          rintro e w3 ⟨rfl, g3⟩
          rw [h2]
          have g03 := g02.trans (g3.mono g02.size)
          have pc3 := (g03.cell (p := ⟨p, 0, none⟩) hp).trans hpc
          have pt3 := (g03.cell (p := ⟨p, 1, none⟩) hp).trans hpt
          have pd3 := (g03.cell (p := ⟨p, 2, none⟩) hp).trans hpd
          have lp3 : p < w3.heap.size := by have := g03.size; omega
          clear g3 g02 pc2 pt2 pd2 lp2
          clear pc3 pt3 pd3
          have HE := hide g03
          clear g03
          go_wp2
          go_ret
          exact ⟨ret_int HF.out.symm, HE.out⟩
        | true =>
          cases h3 : (thingsB (labs ss ts) && lowsB (labs ss ds)) with
          | false =>
            have HF : Hid (tabF ss ts ds = 1) := by show _ = _; rw [tabF_led Hr.out hm]; unfold ledF; rw [h1, h2, h3]; rfl
            go_enter Tryz.func63, Tryz.ntmps63
            go_wp2_with fail
            refine (l2Fault_calls p a n ca ss _ hn hp hpc hx).mono ?_
            rintro e w1 ⟨rfl, g1⟩
            have pc1 := (g1.cell (p := ⟨p, 0, none⟩) hp).trans hpc
            have pt1 := (g1.cell (p := ⟨p, 1, none⟩) hp).trans hpt
            have pd1 := (g1.cell (p := ⟨p, 2, none⟩) hp).trans hpd
            have lp1 : p < w1.heap.size := by have := g1.size; omega
            have hx1 := hx.below g1 (Nat.le_refl _)
            have ht1 := ht.below g1 (Nat.le_refl _)
            have hd1 := hd.below g1 (Nat.le_refl _)
            go_wp2_with fail
            refine (l3Slots_calls p a n ca ss ta tl tc ts _ good (by omega) lp1 pc1 hx1 ht1).mono ?_
            rintro e w2 ⟨rfl, g2⟩
            rw [h1]
            have g02 := g1.trans (g2.mono g1.size)
            have pc2 := (g02.cell (p := ⟨p, 0, none⟩) hp).trans hpc
            have pt2 := (g02.cell (p := ⟨p, 1, none⟩) hp).trans hpt
            have pd2 := (g02.cell (p := ⟨p, 2, none⟩) hp).trans hpd
            have lp2 : p < w2.heap.size := by have := g02.size; omega
            clear g1 g2 pc1 pt1 pd1 lp1 hx1 ht1 hd1
            go_wp2_with fail
            refine (l3Slots_calls p a n ca ss da dl dc ds _ good (by omega) lp2 pc2 (hx.below g02 (Nat.le_refl _)) (hd.below g02 (Nat.le_refl _))).mono ?_
            rintro e w3 ⟨rfl, g3⟩
            rw [h2]
            have g03 := g02.trans (g3.mono g02.size)
            have pc3 := (g03.cell (p := ⟨p, 0, none⟩) hp).trans hpc
            have pt3 := (g03.cell (p := ⟨p, 1, none⟩) hp).trans hpt
            have pd3 := (g03.cell (p := ⟨p, 2, none⟩) hp).trans hpd
            have lp3 : p < w3.heap.size := by have := g03.size; omega
            clear g3 g02 pc2 pt2 pd2 lp2
            go_wp2_with fail
            refine (l3Labels_calls p a n ca ss ta da tl tc dl dc ts ds _ good (by omega) (by omega) lp3 pc3 pt3 pd3 (hx.below g03 (Nat.le_refl _)) (ht.below g03 (Nat.le_refl _)) (hd.below g03 (Nat.le_refl _)) h1 h2).mono ?_
            rintro e w4 ⟨rfl, g4⟩
            rw [h3]
            have g04 := g03.trans (g4.mono g03.size)
            clear g4 g03 pc3 pt3 pd3 lp3
            have HE := hide g04
            clear g04
            go_wp2
            go_ret
            exact ⟨ret_int HF.out.symm, HE.out⟩
          | true =>
            go_enter Tryz.func63, Tryz.ntmps63
            go_wp2_with fail
            refine (l2Fault_calls p a n ca ss _ hn hp hpc hx).mono ?_
            rintro e w1 ⟨rfl, g1⟩
            have pc1 := (g1.cell (p := ⟨p, 0, none⟩) hp).trans hpc
            have pt1 := (g1.cell (p := ⟨p, 1, none⟩) hp).trans hpt
            have pd1 := (g1.cell (p := ⟨p, 2, none⟩) hp).trans hpd
            have lp1 : p < w1.heap.size := by have := g1.size; omega
            have hx1 := hx.below g1 (Nat.le_refl _)
            have ht1 := ht.below g1 (Nat.le_refl _)
            have hd1 := hd.below g1 (Nat.le_refl _)
            go_wp2_with fail
            refine (l3Slots_calls p a n ca ss ta tl tc ts _ good (by omega) lp1 pc1 hx1 ht1).mono ?_
            rintro e w2 ⟨rfl, g2⟩
            rw [h1]
            have g02 := g1.trans (g2.mono g1.size)
            have pc2 := (g02.cell (p := ⟨p, 0, none⟩) hp).trans hpc
            have pt2 := (g02.cell (p := ⟨p, 1, none⟩) hp).trans hpt
            have pd2 := (g02.cell (p := ⟨p, 2, none⟩) hp).trans hpd
            have lp2 : p < w2.heap.size := by have := g02.size; omega
            clear g1 g2 pc1 pt1 pd1 lp1 hx1 ht1 hd1
            go_wp2_with fail
            refine (l3Slots_calls p a n ca ss da dl dc ds _ good (by omega) lp2 pc2 (hx.below g02 (Nat.le_refl _)) (hd.below g02 (Nat.le_refl _))).mono ?_
            rintro e w3 ⟨rfl, g3⟩
            rw [h2]
            have g03 := g02.trans (g3.mono g02.size)
            have pc3 := (g03.cell (p := ⟨p, 0, none⟩) hp).trans hpc
            have pt3 := (g03.cell (p := ⟨p, 1, none⟩) hp).trans hpt
            have pd3 := (g03.cell (p := ⟨p, 2, none⟩) hp).trans hpd
            have lp3 : p < w3.heap.size := by have := g03.size; omega
            clear g3 g02 pc2 pt2 pd2 lp2
            go_wp2_with fail
            refine (l3Labels_calls p a n ca ss ta da tl tc dl dc ts ds _ good (by omega) (by omega) lp3 pc3 pt3 pd3 (hx.below g03 (Nat.le_refl _)) (ht.below g03 (Nat.le_refl _)) (hd.below g03 (Nat.le_refl _)) h1 h2).mono ?_
            rintro e w4 ⟨rfl, g4⟩
            rw [h3]
            have g04 := g03.trans (g4.mono g03.size)
            clear g4 g03 pc3 pt3 pd3 lp3
            have pc4 := (g04.cell (p := ⟨p, 0, none⟩) hp).trans hpc
            have HB4 := hide g04
            clear g04
            go_wp2
            clear pc4
            go_loopw [4] (fun i wr => ∃ k : Nat, k ≤ n ∧ i = .int .i64 k ∧ Below w.heap.size w wr ∧ ∀ j, j < k → gc ss j = cnt ts j + cnt ds j) (fun i _ => n - (intOf i).toNat)
            case atStart => exact ⟨0, Nat.zero_le _, rfl, HB4.out, fun j hj => by omega⟩
            case round =>
              clear HB4
              obtain ⟨k, hk, rfl, hbel, hall⟩ := hrel
              have Hall := hide hall
              clear hall
              have hpr := (hbel.cell (p := ⟨p, 0, none⟩) hp).trans hpc
              by_cases hlt : k < n
              · obtain ⟨b1, o1, rfl, hb1, hc1⟩ := hx.2 (by omega)
                have k0 := (hc1 k hlt).1
                have hck := (hbel.cell (p := ⟨b1, o1 + k * 2, none⟩) hb1).trans k0
                have hptr := (hbel.cell (p := ⟨p, 1, none⟩) hp).trans hpt
                have hpdr := (hbel.cell (p := ⟨p, 2, none⟩) hp).trans hpd
                have HT := hide (ht.below hbel (Nat.le_refl _))
                have HD := hide (hd.below hbel (Nat.le_refl _))
                have j0 : (0 : Int) ≤ (k : Int) := by omega
                have j1 : (k : Int) < (n : Int) := by omega
                have HS0 : Hid (wr.drew.cell? ⟨p, 0, none⟩ = some (.slice (some ⟨b1, o1, none⟩) n ca) ∧ wr.drew.cell? ⟨b1, o1 + k * 2, none⟩ = some (.int .i64 (gc ss k)) ∧ wr.drew.cell? ⟨p, 1, none⟩ = some (.slice ta tl tc) ∧ wr.drew.cell? ⟨p, 2, none⟩ = some (.slice da dl dc) ∧ Below wr.heap.size wr wr.drew) := ⟨hpr, hck, hptr, hpdr, (Below.refl _ _).drew⟩
                have ct1 := (cnt_le ts k).1
                have ct2 : cnt ts k ≤ 10 := by have := (cnt_le ts k).2; omega
                have cd1 := (cnt_le ds k).1
                have cd2 : cnt ds k ≤ 10 := by have := (cnt_le ds k).2; omega
                have ew : IntKind.i64.wrap (cnt ts k + cnt ds k) = cnt ts k + cnt ds k := IntWalk.i64_in _ (by omega)
                clear hc1 k0
                by_cases he : gc ss k = cnt ts k + cnt ds k
                · have ee : (gc ss k != cnt ts k + cnt ds k) = false := by simp [he]
                  have He := hide he
                  clear he
                  go_wp2_with fail
                  clear hpr hck hptr hpdr
                  go_region_held2 (fun w' => w'.cell? ⟨p, 0, none⟩ = some (.slice (some ⟨b1, o1, none⟩) n ca) ∧ w'.cell? ⟨b1, o1 + k * 2, none⟩ = some (.int .i64 (gc ss k)) ∧ w'.cell? ⟨p, 1, none⟩ = some (.slice ta tl tc) ∧ w'.cell? ⟨p, 2, none⟩ = some (.slice da dl dc) ∧ Below wr.heap.size wr w')
                    (first | with_reducible exact HS0.out | with_reducible assumption)
                    (first
                      | (go_at_call_of 117 (Value.slice ta tl tc); refine (l3Count_calls ta tl tc ts k _ (by omega) ?_).mono ?_; exact HT.out.below (q4_bel (by with_reducible assumption)) (Nat.le_refl _); rintro e v1 ⟨rfl, rfl⟩)
                      | (go_at_call_of 117 (Value.slice da dl dc); refine (l3Count_calls da dl dc ds k _ (by omega) ?_).mono ?_; exact HD.out.below (q4_bel (by with_reducible assumption)) (Nat.le_refl _); rintro e v2 ⟨rfl, rfl⟩; have hs1 := q4_bel (W := wr) (by with_reducible assumption)))
                  have HE := hide (hbel.trans (hs1.mono hbel.size))
                  clear hs1 HS0 HT HD hbel
                  go_wp2
                  go_roundw
                  case rel => exact ⟨k + 1, by omega, by go_num, HE.out, fun j hj => by (by_cases e : j = k); (subst e; exact He.out); exact Hall.out j (by omega)⟩
                  case measure => simp [intOf]; omega
                · have ee : (gc ss k != cnt ts k + cnt ds k) = true := by simp [he]
                  have HF : Hid (tabF ss ts ds = 8) := by
                    show tabF ss ts ds = 8
                    rw [tabF_led Hr.out hm]
                    have h5 : cntB ss ts ds = false := by
                      unfold cntB
                      rw [List.all_eq_false]
                      exact ⟨k, List.mem_range.2 (by omega), by simp; omega⟩
                    (unfold ledF; rw [h1, h2, h3, h5]; rfl)
                  clear he
                  go_wp2_with fail
                  clear hpr hck hptr hpdr
                  go_region_held2 (fun w' => w'.cell? ⟨p, 0, none⟩ = some (.slice (some ⟨b1, o1, none⟩) n ca) ∧ w'.cell? ⟨b1, o1 + k * 2, none⟩ = some (.int .i64 (gc ss k)) ∧ w'.cell? ⟨p, 1, none⟩ = some (.slice ta tl tc) ∧ w'.cell? ⟨p, 2, none⟩ = some (.slice da dl dc) ∧ Below wr.heap.size wr w')
                    (first | with_reducible exact HS0.out | with_reducible assumption)
                    (first
                      | (go_at_call_of 117 (Value.slice ta tl tc); refine (l3Count_calls ta tl tc ts k _ (by omega) ?_).mono ?_; exact HT.out.below (q4_bel (by with_reducible assumption)) (Nat.le_refl _); rintro e v1 ⟨rfl, rfl⟩)
                      | (go_at_call_of 117 (Value.slice da dl dc); refine (l3Count_calls da dl dc ds k _ (by omega) ?_).mono ?_; exact HD.out.below (q4_bel (by with_reducible assumption)) (Nat.le_refl _); rintro e v2 ⟨rfl, rfl⟩; have hs1 := q4_bel (W := wr) (by with_reducible assumption)))
                  have HE := hide (hbel.trans (hs1.mono hbel.size))
                  clear hs1 HS0 HT HD hbel
                  go_wp2
                  go_ret
                  exact ⟨ret_int HF.out.symm, HE.out⟩
              · have HF : Hid (tabF ss ts ds = 0) := by
                  show tabF ss ts ds = 0
                  rw [tabF_led Hr.out hm]
                  have h5 : cntB ss ts ds = true := by
                    unfold cntB
                    rw [List.all_eq_true]
                    intro i hi
                    simp only [decide_eq_true_eq]
                    exact Hall.out i (by have := List.mem_range.1 hi; omega)
                  (unfold ledF; rw [h1, h2, h3, h5]; rfl)
                go_wp2
                go_ret
                exact ⟨ret_int HF.out.symm, hbel⟩
  · have er : (faultR ss != 0) = true := by simp [hr]
    have HF := hide (tabF_bad (ts := ts) (ds := ds) hr)
    clear hr
    go_enter Tryz.func63, Tryz.ntmps63
    go_wp2_with fail
    refine (l2Fault_calls p a n ca ss _ hn hp hpc hx).mono ?_
    rintro e w1 ⟨rfl, g1⟩
    have HE := hide g1
    clear g1
    go_wp2
    go_ret
    exact ⟨ret_int HF.out.symm, HE.out⟩

end Go.Proofs.YtnlkigjgloeonaaGreat
