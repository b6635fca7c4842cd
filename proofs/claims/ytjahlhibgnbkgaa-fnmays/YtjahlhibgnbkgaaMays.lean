import Derived.Test.YtjahlhibgnbkgaaDrawM
import Derived.Test.YtjahlhibgnbkgaaBig
import Derived.Test.YtjahlhibgnbkgaaMays1
import Derived.WalkKit
import Derived.ProofKit
import Derived.OpenShut
import Derived.ShutString
import Derived.ChangeOld
import Derived.Below
import Derived.WalkSpells
import Derived.Deep.QuietTactic
import Derived.BigQuiet
import Derived.Deep.RegionWith
import Derived.Deep.WholeRow
import Derived.Deep.DeepCutAuto
import Derived.Deep.RegionHeld2
import Derived.Deep.AppendLies
import Derived.Deep.RegionLaw
namespace Go.Proofs.Ytjahlhibgnbkgaa
open Go.ChangeShapes Go.WideShapes Go.ChangeAt Go.RowKit

set_option maxRecDepth 100000 in
theorem drawCanObserve_calls (a : Option Addr) (len cap : Nat) (w : World) (hc : Cd w a len) :
    Calls Try.prog 26 #[.slice a len cap] w fun e w' => ∃ ra n rc xs rb m rd ys, e = .returned (.tuple #[.agg #[.slice ra n rc], .agg #[.slice rb m rd]]) ∧ Fr w' w.heap.size ra n xs ∧ Fr w' w.heap.size rb m ys ∧ Below w.heap.size w w' := by
  have hb0 := fun o1 o2 => ((Below.refl w.heap.size w).alloc (Nat.le_refl _) o1).alloc (by simp) o2
  go_enter Try.func26, Try.ntmps26
  go_wp2_with fail
  refine (l1Two_calls a len cap _ (hc.below (hb0 _ _))).mono ?_
  rintro e w1 ⟨ra, n, rc, xs, rb, m, rd, ys, rfl, sa, sb, hb⟩
  simp only [World.size_alloc] at sa sb
  have r0 : w1.cell? ⟨w.heap.size, 0, none⟩ = some (.slice none 0 0) := (hb.cell (p := ⟨w.heap.size, 0, none⟩) (by simp; omega)).trans (by go_simp)
  have r1 : w1.cell? ⟨w.heap.size + 1, 0, none⟩ = some (.slice none 0 0) := (hb.cell (p := ⟨w.heap.size + 1, 0, none⟩) (by simp)).trans (by go_simp)
  have f0 : w1.frozen? ⟨w.heap.size, 0, none⟩ = false := (hb.frozen (p := ⟨w.heap.size, 0, none⟩) (by simp; omega)).trans (by go_simp)
  have f1 : w1.frozen? ⟨w.heap.size + 1, 0, none⟩ = false := (hb.frozen (p := ⟨w.heap.size + 1, 0, none⟩) (by simp)).trans (by go_simp)
  have hbw : Below w.heap.size w w1 := (hb0 _ _).trans (hb.mono (by simp; omega))
  have HSA := hide sa
  have HSB := hide sb
  have HBW := hide hbw
  clear sa sb hb hbw hb0
  go_wp2
  refine bodyPost_ret (v := .tuple #[.agg #[.slice ra n rc], .agg #[.slice rb m rd]]) (by simp [results, Try.results26, go_sem, r0, r1]) rfl ⟨ra, n, rc, xs, rb, m, rd, ys, rfl, ?_, ?_, ?_⟩
  · exact ((HSA.out.setCell (by show w.heap.size < _; omega) _).setCell (by show w.heap.size + 1 < _; omega) _).lo (by omega)
  · exact ((HSB.out.setCell (by show w.heap.size < _; omega) _).setCell (by show w.heap.size + 1 < _; omega) _).lo (by omega)
  · exact (HBW.out.setCell (Nat.le_refl _) _).setCell (by show w.heap.size ≤ w.heap.size + 1; omega) _

/-- four cells of a world that later worlds keep: for a region's loads. -/
theorem held4 {W X Y : World} {A B C D : Addr} {a b c d : Value} (hA : A.block < W.heap.size) (hB : B.block < W.heap.size) (hC : C.block < W.heap.size) (hD : D.block < W.heap.size)
    (h : X.cell? A = some a ∧ X.cell? B = some b ∧ X.cell? C = some c ∧ X.cell? D = some d ∧ Below W.heap.size W X) (g : Below X.heap.size X Y) :
    Y.cell? A = some a ∧ Y.cell? B = some b ∧ Y.cell? C = some c ∧ Y.cell? D = some d ∧ Below W.heap.size W Y := by
  obtain ⟨h1, h2, h3, h4, hb⟩ := h
  have hz := hb.size
  exact ⟨(g.cell (by omega)).trans h1, (g.cell (by omega)).trans h2, (g.cell (by omega)).trans h3, (g.cell (by omega)).trans h4, hb.trans (g.mono hz)⟩

set_option maxRecDepth 100000 in
theorem mays_big (a : Option Addr) (len cap : Nat) (w : World) (hl : len ≤ maxLen) (hbig : 1048576 < len) :
    Calls Try.prog 5 #[.slice a len cap] w fun e w' => e = .returned (.bool true) ∧ Below w.heap.size w w' := by
  go_enter Try.func5, Try.ntmps5
  go_wp2_with fail
  refine (lwBig_calls a len cap _ hl).mono ?_
  rintro e w1 ⟨rfl, hw⟩
  obtain rfl : w = w1 := hw.symm
  clear hw
  rw [decide_eq_true (by omega)]
  go_wp2
  go_ret
  exact ⟨rfl, Below.refl _ _⟩

set_option maxRecDepth 100000 in
set_option maxHeartbeats 4000000 in
theorem mays_small (a : Option Addr) (len cap : Nat) (w : World) (hc : Cd w a len) :
    Calls Try.prog 5 #[.slice a len cap] w fun e w' => e = .returned (.bool true) ∧ Below w.heap.size w w' := by
  have hlm : len ≤ maxLen := by have := hc.1; unfold maxLen; omega
  have hlb : ¬ (1048576 < (len : Int)) := by have := hc.1; omega
  go_enter Try.func5, Try.ntmps5
  go_wp2_with fail
  refine (lwBig_calls a len cap _ hlm).mono ?_
  rintro e w0 ⟨rfl, hw⟩
  obtain rfl : w = w0 := hw.symm
  rw [decide_eq_false (by omega)]
  clear hw
  go_wp2_with fail
  refine (drawCanModify_calls a len cap _ hc).mono ?_
  rintro e w1 ⟨ra, n, rc, xs, rb, m, rd, ys, rfl, fa, fb, hb1⟩
  have ha1 := ((Below.refl w1.heap.size w1).alloc (Nat.le_refl _) (.cells #[.slice ra n rc] 26)).alloc (by simp) (.cells #[.slice rb m rd] 26)
  have hn : n ≤ maxLen := by have := fa.2.1; unfold maxLen; omega
  have hm : m ≤ maxLen := by have := fb.2.1; unfold maxLen; omega
  have SA := fa.sl.below ha1 (Nat.le_refl _)
  have SB := fb.sl.below ha1 (Nat.le_refl _)
  have M0 : Mem w1 ((w1.alloc (.cells #[.slice ra n rc] 26)).alloc (.cells #[.slice rb m rd] 26)) [(w1.heap.size + 1, 0, .slice rb m rd), (w1.heap.size, 0, .slice ra n rc)] [] := by
    have := ((Mem.start w1).alloc1 (.slice ra n rc) 26).alloc1 (.slice rb m rd) 26
    simpa only [World.size_alloc] using this
  have hcW := hc.below hb1
  clear ha1
  go_wp2_with fail
  refine (implCanObserve_calls ra rb n rc m rd xs ys _ hn hm SA SB).mono ?_
  rintro e w2 ⟨rfl, g2⟩
  have M2 := M0.below g2
  have a2 := M2.cell 1 rfl
  have b2 := M2.cell 0 rfl
  have SA2 := SA.below g2 (Nat.le_refl _)
  have SB2 := SB.below g2 (Nat.le_refl _)
  clear g2
  go_wp2_with fail
  refine (implCanModify_calls ra rb n rc m rd xs ys _ hn hm SA2 SB2).mono ?_
  rintro e w3 ⟨rfl, g3⟩
  have M3 := M2.below g3
  have a3 := M3.cell 1 rfl
  have b3 := M3.cell 0 rfl
  have SA3 := SA2.below g3 (Nat.le_refl _)
  have SB3 := SB2.below g3 (Nat.le_refl _)
  have hc3 := hcW.below M3.bel
  clear g3 a2 b2
  go_wp2_with fail
  refine (drawCanObserve_calls a len cap _ hc3).mono ?_
  rintro e w4 ⟨rp, i, rpc, zs, ro, k, roc, us, rfl, fc, fd, g4⟩
  have ha4 := ((Below.refl w4.heap.size w4).alloc (Nat.le_refl _) (.cells #[.slice rp i rpc] 26)).alloc (by simp) (.cells #[.slice ro k roc] 26)
  have M4 : Mem w1 ((w4.alloc (.cells #[.slice rp i rpc] 26)).alloc (.cells #[.slice ro k roc] 26)) [(w4.heap.size + 1, 0, .slice ro k roc), (w4.heap.size, 0, .slice rp i rpc), (w1.heap.size + 1, 0, .slice rb m rd), (w1.heap.size, 0, .slice ra n rc)] [] := by
    have := ((M3.below g4).alloc1 (.slice rp i rpc) 26).alloc1 (.slice ro k roc) 26
    simpa only [World.size_alloc] using this
  have a4 := M4.cell 3 rfl
  have b4 := M4.cell 2 rfl
  have SA4 := (SA3.below g4 (Nat.le_refl _)).below ha4 (Nat.le_refl _)
  have SB4 := (SB3.below g4 (Nat.le_refl _)).below ha4 (Nat.le_refl _)
  have SC4 := fc.sl.below ha4 (Nat.le_refl _)
  have SD4 := fd.sl.below ha4 (Nat.le_refl _)
  have hi : i ≤ maxLen := by have := fc.2.1; unfold maxLen; omega
  have hk : k ≤ maxLen := by have := fd.2.1; unfold maxLen; omega
  have hm4 : m ≤ 4 := fb.2.1
  have z1 : w1.heap.size < w4.heap.size := by have := M4.lt 3 rfl; have := (M3.below g4).lt 1 rfl; omega
  have z2 : w1.heap.size + 1 < w4.heap.size := (M3.below g4).lt 0 rfl
  clear g4 ha4 fc fd fa fb hc3 hcW M3 M2 M0 a3 b3 SA3 SB3 SA2 SB2 SA SB hc
  have eo : (obsB xs ys != obsB xs ys) = false := by simp
  have em : (modB xs ys != modB xs ys) = false := by simp
  have ec : (obsB zs us != obsB zs us) = false := by simp
  have c4 := M4.cell 1 rfl
  have d4 := M4.cell 0 rfl
  have lA := M4.lt 3 rfl
  have lB := M4.lt 2 rfl
  have lC := M4.lt 1 rfl
  have lD := M4.lt 0 rfl
  have hbM := M4.bel
  clear M4
  go_wp2_with fail
  generalize hW : ((w4.alloc (.cells #[.slice rp i rpc] 26)).alloc (.cells #[.slice ro k roc] 26)) = W at a4 b4 c4 d4 lA lB lC lD SA4 SB4 SC4 SD4 hbM ⊢
  clear hW
  have HS0 : Hid (W.drew.cell? ⟨w1.heap.size, 0, none⟩ = some (.slice ra n rc) ∧ W.drew.cell? ⟨w1.heap.size + 1, 0, none⟩ = some (.slice rb m rd) ∧ W.drew.cell? ⟨w4.heap.size, 0, none⟩ = some (.slice rp i rpc) ∧ W.drew.cell? ⟨w4.heap.size + 1, 0, none⟩ = some (.slice ro k roc) ∧ Below W.heap.size W W.drew) := ⟨a4, b4, c4, d4, (Below.refl _ _).drew⟩
  have HA := hide SA4
  have HB := hide SB4
  have HC := hide SC4
  have HD := hide SD4
  clear SA4 SB4 SC4 SD4
  go_region_held2 (fun w' => w'.cell? ⟨w1.heap.size, 0, none⟩ = some (.slice ra n rc) ∧ w'.cell? ⟨w1.heap.size + 1, 0, none⟩ = some (.slice rb m rd) ∧ w'.cell? ⟨w4.heap.size, 0, none⟩ = some (.slice rp i rpc) ∧ w'.cell? ⟨w4.heap.size + 1, 0, none⟩ = some (.slice ro k roc) ∧ Below W.heap.size W w')
    (first | with_reducible exact HS0.out | with_reducible assumption)
    (first
      | (go_at_call_of 27 (Value.slice ra n rc); refine (specCanObserve_calls ra rb n rc m rd xs ys _ hn hm ?_ ?_).mono ?_; exact HA.out.below (And.right (And.right (And.right (And.right (by with_reducible assumption))))) (Nat.le_refl _); exact HB.out.below (And.right (And.right (And.right (And.right (by with_reducible assumption))))) (Nat.le_refl _); rintro e v1 ⟨rfl, g1⟩; have hs1 := held4 (W := W) lA lB lC lD (by with_reducible assumption) g1; clear g1)
      | (go_at_call 28; refine (specCanModify_calls ra rb n rc m rd xs ys _ hn hm ?_ ?_).mono ?_; exact HA.out.below (And.right (And.right (And.right (And.right (by with_reducible assumption))))) (Nat.le_refl _); exact HB.out.below (And.right (And.right (And.right (And.right (by with_reducible assumption))))) (Nat.le_refl _); rintro e v2 ⟨rfl, g2⟩; have hs2 := held4 (W := W) lA lB lC lD (by with_reducible assumption) g2; clear g2)
      | (go_at_call 24; refine (implCanObserve_calls rp ro i rpc k roc zs us _ hi hk ?_ ?_).mono ?_; exact HC.out.below (And.right (And.right (And.right (And.right (by with_reducible assumption))))) (Nat.le_refl _); exact HD.out.below (And.right (And.right (And.right (And.right (by with_reducible assumption))))) (Nat.le_refl _); rintro e v3 ⟨rfl, g3⟩; have hs3 := held4 (W := W) lA lB lC lD (by with_reducible assumption) g3; clear g3)
      | (go_at_call_of 27 (Value.slice rp i rpc); refine (specCanObserve_calls rp ro i rpc k roc zs us _ hi hk ?_ ?_).mono ?_; exact HC.out.below (And.right (And.right (And.right (And.right (by with_reducible assumption))))) (Nat.le_refl _); exact HD.out.below (And.right (And.right (And.right (And.right (by with_reducible assumption))))) (Nat.le_refl _); rintro e v4 ⟨rfl, g4⟩; have hs4 := held4 (W := W) lA lB lC lD (by with_reducible assumption) g4; clear g4))
  have hs5 := hs4
  obtain ⟨A5, B5, _, _, hB5⟩ := hs5
  have SA5 := HA.out.below hB5 (Nat.le_refl _)
  have SB5 := HB.out.below hB5 (Nat.le_refl _)
  have M5 : Mem w v4 [(w1.heap.size + 1, 0, .slice rb m rd), (w1.heap.size, 0, .slice ra n rc)] [] :=
    ⟨(hb1.trans (hbM.mono hb1.size)).trans (hB5.mono (by have := hb1.size; have := hbM.size; omega)), by
      intro c hc'
      simp only [List.mem_cons, List.not_mem_nil, or_false] at hc'
      have := hB5.size
      rcases hc' with rfl | rfl
      · exact ⟨by show w1.heap.size + 1 < _; omega, B5⟩
      · exact ⟨by show w1.heap.size < _; omega, A5⟩, by simp⟩
  clear hs1 hs2 hs3 hs4 HS0 HA HB HC HD eo em ec a4 b4 c4 d4 lA lB lC lD hbM hB5 hb1
  by_cases hfa : fault xs = 0
  · have ea : (fault xs != 0) = false := by simp [hfa]
    by_cases hfb : fault ys = 0
    · have eb : (fault ys != 0) = false := by simp [hfb]
      have Ha := hide hfa
      have Hb := hide hfb
      clear hfa hfb
      go_wp2_with fail
      refine (implLabelFault_calls ra n rc xs _ hn SA5).mono ?_
      rintro e u1 ⟨rfl, g1⟩
      have N1 := M5.below g1
      have X1 := N1.cell 1 rfl
      have Y1 := N1.cell 0 rfl
      have SA6 := SA5.below g1 (Nat.le_refl _)
      have SB6 := SB5.below g1 (Nat.le_refl _)
      clear g1 SA5 SB5 M5 A5 B5
      go_wp2_with fail
      refine (implLabelFault_calls rb m rd ys _ hm SB6).mono ?_
      rintro e u2 ⟨rfl, g2⟩
      have N2 := N1.below g2
      have X2 := N2.cell 1 rfl
      have Y2 := N2.cell 0 rfl
      have SA7 := SA6.below g2 (Nat.le_refl _)
      have SB7 := SB6.below g2 (Nat.le_refl _)
      clear g2 SA6 SB6 N1 X1 Y1
      have hmy : ys.length = m := SB7.1
      have hme : m = 4 := by rw [← hmy]; exact fault_len Hb.out
      subst hme
      obtain ⟨bb, off, rfl, hbb, hcc⟩ := SB7.2 (by omega)
      have HY := hide SB7
      have HX := hide SA7
      clear SB7 SA7
      go_wp2
      go_loop [9, 10] (fun t j => ∃ q : Nat, q ≤ 4 ∧ j = .int .i64 q ∧ t = .bool (thingK ys q)) (fun _ j => 4 - (intOf j).toNat)
      case atStart => exact ⟨0, Nat.zero_le _, rfl, rfl⟩
      case round =>
        obtain ⟨q, hq, rfl, rfl⟩ := hrel
        by_cases hlt : q < 4
        · have hcq := hcc q hlt
          have hst := hide (thingK_succ ys q)
          cases ht : thingK ys q with
          | false =>
            have Hs : Hid (thingK ys (q + 1) = false) := hide (by rw [hst.out, ht]; rfl)
            clear hst
            go_wp2
            go_round
            case rel => exact ⟨q + 1, by omega, by go_num, by rw [Hs.out]⟩
            case measure => simp [intOf]; omega
          | true =>
            by_cases h0 : gt ys q = 0
            · have q0 : (gt ys q == 0) = true := by simp [h0]
              have Hs : Hid (thingK ys (q + 1) = false) := hide (by rw [hst.out, ht, q0]; rfl)
              have n0 : (gt ys q != 0) = false := by simp [h0]
              clear hst h0 q0
              go_wp2
              go_round
              case rel => exact ⟨q + 1, by omega, by go_num, by rw [Hs.out]⟩
              case measure => simp [intOf]; omega
            · have q0 : (gt ys q == 0) = false := by simp [h0]
              by_cases h5 : gt ys q = 5
              · have q5 : (gt ys q == 5) = true := by simp [h5]
                have Hs : Hid (thingK ys (q + 1) = false) := hide (by rw [hst.out, ht, q0, q5]; rfl)
                have n0 : (gt ys q != 0) = true := by simp [h0]
                have n5 : (gt ys q != 5) = false := by simp [h5]
                clear hst h0 h5 q0 q5
                go_wp2
                go_round
                case rel => exact ⟨q + 1, by omega, by go_num, by rw [Hs.out]⟩
                case measure => simp [intOf]; omega
              · have q5 : (gt ys q == 5) = false := by simp [h5]
                have Hs : Hid (thingK ys (q + 1) = true) := hide (by rw [hst.out, ht, q0, q5]; rfl)
                have n0 : (gt ys q != 0) = true := by simp [h0]
                have n5 : (gt ys q != 5) = true := by simp [h5]
                clear hst h0 h5 q0 q5
                go_wp2
                go_round
                case rel => exact ⟨q + 1, by omega, by go_num, by rw [Hs.out]⟩
                case measure => simp [intOf]; omega
        · have hq4 : q = 4 := by omega
          subst hq4
          have hth : thingK ys 4 = thing0 ys := by have := thingK_full ys; rw [hmy] at this; exact this
          have Hpl : Hid (ownsB xs = false → thing0 ys = true → obsB xs ys = isBelowB ys xs) := fun h1 h2 => obsB_plain Ha.out Hb.out h1 h2
          cases hM : modB xs ys with
          | true =>
            have hO := modB_obs hM
            have hBl := modB_below hM
            have hT := obsB_thing hO
            cases hOw : ownsB xs with
            | true =>
              have T2 := Below.refl u2.heap.size u2
              go_wp2_with fail
              refine (implIsBelow_calls ra (some ⟨bb, off, none⟩) n rc 4 rd xs ys _ hn hm (HX.out.below T2 (Nat.le_refl _)) (HY.out.below T2 (Nat.le_refl _))).mono ?_
              rintro e x3 ⟨rfl, g3⟩
              have N3 := N2.below g3
              have X3 := N3.cell 1 rfl
              have Y3 := N3.cell 0 rfl
              have T3 := T2.trans (g3.mono T2.size)
              clear g3 X2 Y2 N2 T2
              go_wp2_with fail
              refine (implOwnsAny_calls ra n rc xs _ hn (HX.out.below T3 (Nat.le_refl _))).mono ?_
              rintro e x4 ⟨rfl, g4⟩
              have N4 := N3.below g4
              have X4 := N4.cell 1 rfl
              have Y4 := N4.cell 0 rfl
              have T4 := T3.trans (g4.mono T3.size)
              clear g4 X3 Y3 N3 T3
              go_wp2
              go_ret
              exact ⟨rfl, N4.bel⟩
            | false =>
              have hyx : isBelowB ys xs = true := (Hpl.out hOw hT).symm.trans hO
              have T2 := Below.refl u2.heap.size u2
              go_wp2_with fail
              refine (implIsBelow_calls ra (some ⟨bb, off, none⟩) n rc 4 rd xs ys _ hn hm (HX.out.below T2 (Nat.le_refl _)) (HY.out.below T2 (Nat.le_refl _))).mono ?_
              rintro e x3 ⟨rfl, g3⟩
              have N3 := N2.below g3
              have X3 := N3.cell 1 rfl
              have Y3 := N3.cell 0 rfl
              have T3 := T2.trans (g3.mono T2.size)
              clear g3 X2 Y2 N2 T2
              go_wp2_with fail
              refine (implOwnsAny_calls ra n rc xs _ hn (HX.out.below T3 (Nat.le_refl _))).mono ?_
              rintro e x4 ⟨rfl, g4⟩
              have N4 := N3.below g4
              have X4 := N4.cell 1 rfl
              have Y4 := N4.cell 0 rfl
              have T4 := T3.trans (g4.mono T3.size)
              clear g4 X3 Y3 N3 T3
              go_wp2_with fail
              refine (implIsBelow_calls (some ⟨bb, off, none⟩) ra 4 rd n rc ys xs _ hm hn (HY.out.below T4 (Nat.le_refl _)) (HX.out.below T4 (Nat.le_refl _))).mono ?_
              rintro e x5 ⟨rfl, g5⟩
              have N5 := N4.below g5
              have X5 := N5.cell 1 rfl
              have Y5 := N5.cell 0 rfl
              have T5 := T4.trans (g5.mono T4.size)
              clear g5 X4 Y4 N4 T4
              go_wp2
              go_ret
              exact ⟨rfl, N5.bel⟩
          | false =>
            cases hO : obsB xs ys with
            | true =>
              have hT := obsB_thing hO
              cases hOw : ownsB xs with
              | true =>
                have T2 := Below.refl u2.heap.size u2
                go_wp2_with fail
                refine (implOwnsAny_calls ra n rc xs _ hn (HX.out.below T2 (Nat.le_refl _))).mono ?_
                rintro e x3 ⟨rfl, g3⟩
                have N3 := N2.below g3
                have X3 := N3.cell 1 rfl
                have Y3 := N3.cell 0 rfl
                have T3 := T2.trans (g3.mono T2.size)
                clear g3 X2 Y2 N2 T2
                go_wp2
                go_ret
                exact ⟨rfl, N3.bel⟩
              | false =>
                have hyx : isBelowB ys xs = true := (Hpl.out hOw hT).symm.trans hO
                have T2 := Below.refl u2.heap.size u2
                go_wp2_with fail
                refine (implOwnsAny_calls ra n rc xs _ hn (HX.out.below T2 (Nat.le_refl _))).mono ?_
                rintro e x3 ⟨rfl, g3⟩
                have N3 := N2.below g3
                have X3 := N3.cell 1 rfl
                have Y3 := N3.cell 0 rfl
                have T3 := T2.trans (g3.mono T2.size)
                clear g3 X2 Y2 N2 T2
                go_wp2_with fail
                refine (implIsBelow_calls (some ⟨bb, off, none⟩) ra 4 rd n rc ys xs _ hm hn (HY.out.below T3 (Nat.le_refl _)) (HX.out.below T3 (Nat.le_refl _))).mono ?_
                rintro e x4 ⟨rfl, g4⟩
                have N4 := N3.below g4
                have X4 := N4.cell 1 rfl
                have Y4 := N4.cell 0 rfl
                have T4 := T3.trans (g4.mono T3.size)
                clear g4 X3 Y3 N3 T3
                go_wp2
                go_ret
                exact ⟨rfl, N4.bel⟩
            | false =>
              cases hOw : ownsB xs with
              | true =>
                have T2 := Below.refl u2.heap.size u2
                go_wp2_with fail
                refine (implOwnsAny_calls ra n rc xs _ hn (HX.out.below T2 (Nat.le_refl _))).mono ?_
                rintro e x3 ⟨rfl, g3⟩
                have N3 := N2.below g3
                have X3 := N3.cell 1 rfl
                have Y3 := N3.cell 0 rfl
                have T3 := T2.trans (g3.mono T2.size)
                clear g3 X2 Y2 N2 T2
                go_wp2
                go_ret
                exact ⟨rfl, N3.bel⟩
              | false =>
                cases hT : thing0 ys with
                | true =>
                  have hyx : isBelowB ys xs = false := (Hpl.out hOw hT).symm.trans hO
                  have T2 := Below.refl u2.heap.size u2
                  go_wp2_with fail
                  refine (implOwnsAny_calls ra n rc xs _ hn (HX.out.below T2 (Nat.le_refl _))).mono ?_
                  rintro e x3 ⟨rfl, g3⟩
                  have N3 := N2.below g3
                  have X3 := N3.cell 1 rfl
                  have Y3 := N3.cell 0 rfl
                  have T3 := T2.trans (g3.mono T2.size)
                  clear g3 X2 Y2 N2 T2
                  go_wp2_with fail
                  refine (implIsBelow_calls (some ⟨bb, off, none⟩) ra 4 rd n rc ys xs _ hm hn (HY.out.below T3 (Nat.le_refl _)) (HX.out.below T3 (Nat.le_refl _))).mono ?_
                  rintro e x4 ⟨rfl, g4⟩
                  have N4 := N3.below g4
                  have X4 := N4.cell 1 rfl
                  have Y4 := N4.cell 0 rfl
                  have T4 := T3.trans (g4.mono T3.size)
                  clear g4 X3 Y3 N3 T3
                  go_wp2
                  go_ret
                  exact ⟨rfl, N4.bel⟩
                | false =>
                  have T2 := Below.refl u2.heap.size u2
                  go_wp2_with fail
                  refine (implOwnsAny_calls ra n rc xs _ hn (HX.out.below T2 (Nat.le_refl _))).mono ?_
                  rintro e x3 ⟨rfl, g3⟩
                  have N3 := N2.below g3
                  have X3 := N3.cell 1 rfl
                  have Y3 := N3.cell 0 rfl
                  have T3 := T2.trans (g3.mono T2.size)
                  clear g3 X2 Y2 N2 T2
                  go_wp2
                  go_ret
                  exact ⟨rfl, N3.bel⟩
    · have eb : (fault ys != 0) = true := by simp [hfb]
      have ho : obsB xs ys = false := by
        cases h : obsB xs ys
        · rfl
        · exact absurd (obsB_fault h).2 hfb
      have hmf : modB xs ys = false := by rw [modB_eq, ho]; rfl
      clear hfa hfb
      go_wp2_with fail
      refine (implLabelFault_calls ra n rc xs _ hn SA5).mono ?_
      rintro e u1 ⟨rfl, g1⟩
      have N1 := M5.below g1
      have Y1 := N1.cell 0 rfl
      have SB6 := SB5.below g1 (Nat.le_refl _)
      clear g1 SA5 SB5 M5 A5 B5
      go_wp2_with fail
      refine (implLabelFault_calls rb m rd ys _ hm SB6).mono ?_
      rintro e u2 ⟨rfl, g2⟩
      have N2 := N1.below g2
      clear g2 SB6 Y1
      go_wp2
      go_ret
      exact ⟨rfl, N2.bel⟩
  · have ea : (fault xs != 0) = true := by simp [hfa]
    have ho : obsB xs ys = false := by
      cases h : obsB xs ys
      · rfl
      · exact absurd (obsB_fault h).1 hfa
    have hmf : modB xs ys = false := by rw [modB_eq, ho]; rfl
    clear hfa
    go_wp2_with fail
    refine (implLabelFault_calls ra n rc xs _ hn SA5).mono ?_
    rintro e u1 ⟨rfl, g1⟩
    have N1 := M5.below g1
    clear g1 SA5 SB5 M5 A5 B5
    go_wp2
    go_ret
    exact ⟨rfl, N1.bel⟩

end Go.Proofs.Ytjahlhibgnbkgaa
