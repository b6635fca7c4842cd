import Derived.Test.YtpcdfeccmiiglaaL11BP
import Derived.WalkKit
import Derived.ProofKit
import Derived.OpenShut
import Derived.ShutString
import Derived.ChangeOld
import Derived.Below
import Derived.WalkSpells
import Derived.Deep.QuietTactic
import Derived.BigQuiet
import Derived.Deep.RegionWith
import Derived.Deep.WholeRow
import Derived.Deep.DeepCutAuto
import Derived.Deep.RegionHeld2
import Derived.Deep.AppendLies
import Derived.Deep.RegionLaw
namespace Go.Proofs.Ytpcdfeccmiiglaa
open Go.ChangeShapes Go.WideShapes Go.ChangeAt Go.RowKit

set_option maxRecDepth 100000 in
set_option maxHeartbeats 8000000 in
theorem l11Bent_calls (p : Nat) (a : Option Addr) (len cap t : Nat) (w : World) (ht : t ≤ 970000) (hs : Src w p a len cap t) : Calls Try.prog 36 #[.pointer (some ⟨p, 0, none⟩)] w (BentK p a len cap t w) := by
  have hp : p < w.heap.size := hs.1
  obtain ⟨i0, hi, hz0, hz1, hz2⟩ := info_parts infoObject
  have M0 := (Mo.start p w).alloc1 hp (.slice none 0 0) 26
  have s0 := hs.below ((Below.refl _ _).alloc (Nat.le_refl _) (.cells #[.slice none 0 0] 26))
  go_enter Try.func36, Try.ntmps36
  go_wp2_with fail
  refine (l11Draw_calls p a len cap t _ (by omega) s0).mono ?_
  rintro e w1 ⟨g, c, n, la, lc, L, f, t1, rfl, hn8, kd, kr, s1, ht1, o1⟩
  simp only [World.size_alloc] at kr
  have z1 := o1.size
  simp only [World.size_alloc] at z1
  have hp1 : p < w1.heap.size := by omega
  have al := (Below.refl w1.heap.size w1).alloc (Nat.le_refl _) (.cells #[.slice (some ⟨g, 0, none⟩) n c] 26)
  have M1 := (M0.next o1).alloc1 hp1 (.slice (some ⟨g, 0, none⟩) n c) 26
  have s1' := s1.below al
  have hn1 := kd.n1
  have kr1 := kr.keep (fun k _ hk _ => al.block k hk)
  have x1 := M1.cell 0 rfl
  have hn1i : (1 : Int) ≤ (n : Int) := by omega
  have hn8i : (n : Int) ≤ 200 := by omega
  have hn8o : n ≤ 1000 := by omega
  clear M0 s0 o1 s1 kr
  go_wp2_with fail
  refine (l1Next_calls p a len cap t1 (n : Int) _ hn1i hn8i (by omega) s1').mono ?_
  rintro e w2 ⟨i, rfl, i0', i1', s2, o2⟩
  obtain ⟨i, rfl⟩ : ∃ q : Nat, i = (q : Int) := ⟨i.toNat, by omega⟩
  have hin : i < n := by omega
  have M2 := M1.next o2
  have z2 := o2.size
  simp only [World.size_alloc] at z2
  have kr2 := kr1.keep (fun k hk1 hk2 hl => o2.block k hl (.inr (by omega)))
  clear M1 s1' kr1 x1 al o2
  go_wp2_with fail
  refine (l1Next_calls p a len cap (t1 + 1) 14 _ (by omega) (by omega) (by omega) s2).mono ?_
  rintro e w3 ⟨r, rfl, r0, r1, s3, o3⟩
  have M3 := M2.next o3
  have z3 := o3.size
  have kr3 := kr2.keep (fun k hk1 hk2 hl => o3.block k hl (.inr (by omega)))
  clear M2 s2 kr2 o3
  have x3 := M3.cell 0 rfl
  have v3 := M3.cell 1 rfl
  have xf := M3.fz 0 rfl
  have vf := M3.fz 1 rfl
  have HO := hide M3.out
  have HS := hide s3
  have HK := hide kr3
  have hw3 : p < w3.heap.size := by omega
  have hV : w1.heap.size < w3.heap.size := by omega
  have hR : w.heap.size < w3.heap.size := by omega
  have hpV : p + 1 ≤ w1.heap.size := hp1
  have hpR : p + 1 ≤ w.heap.size := hp
  have hg1 := kr3.hg.1
  have hg2 := kr3.hg.2
  have hgc := kr3.hn
  have hgs : g < w3.heap.size := by omega
  clear M3 s3 kr3 hs kd
  by_cases h0 : r = 0
  · have e0 : (r == 0) = true := by simp [h0]
    have HBa := hide (Src.drew (HS.out.below ((Below.refl w3.heap.size w3).alloc (Nat.le_refl _) (.cells #[.int .i64 (-1), .int .i64 0, .int .i64 5] 2))))
    have HOB := hide (Outside.drew (Outside.alloc p (p + 1) w3 (.cells #[.int .i64 (-1), .int .i64 0, .int .i64 5] 2)))
    have hgs2 : w3.heap.size < ((w3.alloc (.cells #[.int .i64 (-1), .int .i64 0, .int .i64 5] 2)).drew).heap.size := by simp
    have HG := hide hgs2
    have htt : t1 + 1 + 1 ≤ 1000000 := by omega
    obtain ⟨q0, q1, q2, q3, q4, q5, q6⟩ := HK.out.o7 hin
    clear hgs2
    go_wp2_with fail
    go_region_law (go_simp; go_at_call 67; refine (l1Pick_calls p a len cap (t1 + 1 + 1) w3.heap.size 3 3 [-1, 0, 5] _ (by decide) (by decide) htt HBa.out hw3 HG.out rfl ?_).mono ?_; exact lit3; rintro e w4 ⟨y, rfl, s4, o4⟩; have o34 : Outside p (p + 1) w3 w4 := Outside.trans HOB.out o4; have x4 := Outside.cell (q := ⟨w1.heap.size, 0, none⟩) o34 hV hpV x3; have HK4 := hide (HK.out.keep (fun k hk1 hk2 hl => o34.block k hl (.inr (by omega)))); have S4 := hide s4; have O4 := hide o34; have z4 := o34.size; have hf4 : w4.frozen? ⟨g, i * 7, none⟩ = false := HK4.out.fzg (i * 7); obtain ⟨c0, c1, c2, c3, c4, c5, c6⟩ := HK4.out.o7 hin; clear s4 o4 o34)
    all_goals (
      have v4 := O4.out.cell (q := ⟨w.heap.size, 0, none⟩) hR hpR v3
      have vf4 := O4.out.frozen (q := ⟨w.heap.size, 0, none⟩) hR hpR vf
      have xu : (w4.setCell ⟨g, i * 7, none⟩ (.int .i64 y)).cell? ⟨w1.heap.size, 0, none⟩ = some (.slice (some ⟨g, 0, none⟩) n c) := by
        rw [World.cell?_setCell_other _ _ _ _ (fun e => by injection e with e1; omega)]; exact x4
      have ru : (w4.setCell ⟨g, i * 7, none⟩ (.int .i64 y)).cell? ⟨w.heap.size, 0, none⟩ = some (.slice none 0 0) := by
        rw [World.cell?_setCell_other _ _ _ _ (fun e => by injection e with e1; omega)]; exact v4
      have rfu : (w4.setCell ⟨g, i * 7, none⟩ (.int .i64 y)).frozen? ⟨w.heap.size, 0, none⟩ = false := by
        rw [World.frozen?_setCell]; exact vf4
      have KU : Hid (SobS (InR (w.heap.size + 1) w1.heap.size) (some ⟨g, 0, none⟩) n (lsO (updO f i (y, (f i).2.1, (f i).2.2.1, (f i).2.2.2.1, (f i).2.2.2.2.1, (f i).2.2.2.2.2.1, (f i).2.2.2.2.2.2)) n) (w4.setCell ⟨g, i * 7, none⟩ (.int .i64 y))) := (HK4.out.putN hn8o hin (by decide : 0 < 7) y (y, (f i).2.1, (f i).2.2.1, (f i).2.2.2.1, (f i).2.2.2.2.1, (f i).2.2.2.2.2.1, (f i).2.2.2.2.2.2) (by intro k v hv; have hk : k < 7 := (by have := (List.getElem?_eq_some_iff.1 hv).1; simpa [v7] using this); rcases (by omega : k = 0 ∨ k = 1 ∨ k = 2 ∨ k = 3 ∨ k = 4 ∨ k = 5 ∨ k = 6) with rfl | rfl | rfl | rfl | rfl | rfl | rfl <;> exact hv) rfl rfl)
      have SU := hide (S4.out.setCell (q := ⟨g, i * 7, none⟩) (by show p < g; omega) (.int .i64 y))
      have OU := hide ((HO.out.trans O4.out).setNew (q := ⟨g, i * 7, none⟩) (by show w.heap.size ≤ g; omega) (.int .i64 y))
      have zu : w1.heap.size ≤ (w4.setCell ⟨g, i * 7, none⟩ (.int .i64 y)).heap.size := by simp; omega
      obtain ⟨U, hU⟩ : ∃ U, U = w4.setCell ⟨g, i * 7, none⟩ (.int .i64 y) := ⟨_, rfl⟩
      rw [← hU] at xu ru rfu KU SU OU zu
      have HU := hide hU
      clear hU x3 v3 xf vf x4 v4 vf4 c0 c1 c2 c3 c4 c5 c6 q0 q1 q2 q3 q4 q5 q6 HK4 S4 O4
      go_upto_region 16 with fail
      (try rw [← HU.out])
      clear HU
      go_wp2
      exact bodyPost_ret (v := .agg #[.slice (some ⟨g, 0, none⟩) n c]) (by simp [results, Try.results36, go_sem, ru]) rfl (BentK.fin hp (by exact KU.out) (by exact zu) hgc SU.out (by omega) OU.out))
  · have e0 : (r == 0) = false := by simp [h0]
    by_cases h1 : r = 1
    · have e1 : (r == 1) = true := by simp [h1]
      have HBa := hide (Src.drew (HS.out.below ((Below.refl w3.heap.size w3).alloc (Nat.le_refl _) (.cells #[.int .i64 0, .int .i64 1, .int .i64 99] 2))))
      have HOB := hide (Outside.drew (Outside.alloc p (p + 1) w3 (.cells #[.int .i64 0, .int .i64 1, .int .i64 99] 2)))
      have hgs2 : w3.heap.size < ((w3.alloc (.cells #[.int .i64 0, .int .i64 1, .int .i64 99] 2)).drew).heap.size := by simp
      have HG := hide hgs2
      have htt : t1 + 1 + 1 ≤ 1000000 := by omega
      obtain ⟨q0, q1, q2, q3, q4, q5, q6⟩ := HK.out.o7 hin
      clear hgs2
      go_wp2_with fail
      go_region_law (go_simp; go_at_call 67; refine (l1Pick_calls p a len cap (t1 + 1 + 1) w3.heap.size 3 3 [0, 1, 99] _ (by decide) (by decide) htt HBa.out hw3 HG.out rfl ?_).mono ?_; exact lit3; rintro e w4 ⟨y, rfl, s4, o4⟩; have o34 : Outside p (p + 1) w3 w4 := Outside.trans HOB.out o4; have x4 := Outside.cell (q := ⟨w1.heap.size, 0, none⟩) o34 hV hpV x3; have HK4 := hide (HK.out.keep (fun k hk1 hk2 hl => o34.block k hl (.inr (by omega)))); have S4 := hide s4; have O4 := hide o34; have z4 := o34.size; have hf4 : w4.frozen? ⟨g, i * 7 + 1, none⟩ = false := HK4.out.fzg (i * 7 + 1); obtain ⟨c0, c1, c2, c3, c4, c5, c6⟩ := HK4.out.o7 hin; clear s4 o4 o34)
      all_goals (
        have v4 := O4.out.cell (q := ⟨w.heap.size, 0, none⟩) hR hpR v3
        have vf4 := O4.out.frozen (q := ⟨w.heap.size, 0, none⟩) hR hpR vf
        have xu : (w4.setCell ⟨g, i * 7 + 1, none⟩ (.int .i64 y)).cell? ⟨w1.heap.size, 0, none⟩ = some (.slice (some ⟨g, 0, none⟩) n c) := by
          rw [World.cell?_setCell_other _ _ _ _ (fun e => by injection e with e1; omega)]; exact x4
        have ru : (w4.setCell ⟨g, i * 7 + 1, none⟩ (.int .i64 y)).cell? ⟨w.heap.size, 0, none⟩ = some (.slice none 0 0) := by
          rw [World.cell?_setCell_other _ _ _ _ (fun e => by injection e with e1; omega)]; exact v4
        have rfu : (w4.setCell ⟨g, i * 7 + 1, none⟩ (.int .i64 y)).frozen? ⟨w.heap.size, 0, none⟩ = false := by
          rw [World.frozen?_setCell]; exact vf4
        have KU : Hid (SobS (InR (w.heap.size + 1) w1.heap.size) (some ⟨g, 0, none⟩) n (lsO (updO f i ((f i).1, y, (f i).2.2.1, (f i).2.2.2.1, (f i).2.2.2.2.1, (f i).2.2.2.2.2.1, (f i).2.2.2.2.2.2)) n) (w4.setCell ⟨g, i * 7 + 1, none⟩ (.int .i64 y))) := (HK4.out.putN hn8o hin (by decide : 1 < 7) y ((f i).1, y, (f i).2.2.1, (f i).2.2.2.1, (f i).2.2.2.2.1, (f i).2.2.2.2.2.1, (f i).2.2.2.2.2.2) (by intro k v hv; have hk : k < 7 := (by have := (List.getElem?_eq_some_iff.1 hv).1; simpa [v7] using this); rcases (by omega : k = 0 ∨ k = 1 ∨ k = 2 ∨ k = 3 ∨ k = 4 ∨ k = 5 ∨ k = 6) with rfl | rfl | rfl | rfl | rfl | rfl | rfl <;> exact hv) rfl rfl)
        have SU := hide (S4.out.setCell (q := ⟨g, i * 7 + 1, none⟩) (by show p < g; omega) (.int .i64 y))
        have OU := hide ((HO.out.trans O4.out).setNew (q := ⟨g, i * 7 + 1, none⟩) (by show w.heap.size ≤ g; omega) (.int .i64 y))
        have zu : w1.heap.size ≤ (w4.setCell ⟨g, i * 7 + 1, none⟩ (.int .i64 y)).heap.size := by simp; omega
        obtain ⟨U, hU⟩ : ∃ U, U = w4.setCell ⟨g, i * 7 + 1, none⟩ (.int .i64 y) := ⟨_, rfl⟩
        rw [← hU] at xu ru rfu KU SU OU zu
        have HU := hide hU
        clear hU x3 v3 xf vf x4 v4 vf4 c0 c1 c2 c3 c4 c5 c6 q0 q1 q2 q3 q4 q5 q6 HK4 S4 O4
        go_upto_region 16 with fail
        (try rw [← HU.out])
        clear HU
        go_wp2
        exact bodyPost_ret (v := .agg #[.slice (some ⟨g, 0, none⟩) n c]) (by simp [results, Try.results36, go_sem, ru]) rfl (BentK.fin hp (by exact KU.out) (by exact zu) hgc SU.out (by omega) OU.out))
    · have e1 : (r == 1) = false := by simp [h1]
      by_cases h2 : r = 2
      · have e2 : (r == 2) = true := by simp [h2]
        have HBa := hide (Src.drew (HS.out.below ((Below.refl w3.heap.size w3).alloc (Nat.le_refl _) (.cells #[.int .i64 1, .int .i64 2, .int .i64 3] 2))))
        have HOB := hide (Outside.drew (Outside.alloc p (p + 1) w3 (.cells #[.int .i64 1, .int .i64 2, .int .i64 3] 2)))
        have hgs2 : w3.heap.size < ((w3.alloc (.cells #[.int .i64 1, .int .i64 2, .int .i64 3] 2)).drew).heap.size := by simp
        have HG := hide hgs2
        have htt : t1 + 1 + 1 ≤ 1000000 := by omega
        obtain ⟨q0, q1, q2, q3, q4, q5, q6⟩ := HK.out.o7 hin
        clear hgs2
        go_wp2_with fail
        go_region_law (go_simp; go_at_call 67; refine (l1Pick_calls p a len cap (t1 + 1 + 1) w3.heap.size 3 3 [1, 2, 3] _ (by decide) (by decide) htt HBa.out hw3 HG.out rfl ?_).mono ?_; exact lit3; rintro e w4 ⟨y, rfl, s4, o4⟩; have o34 : Outside p (p + 1) w3 w4 := Outside.trans HOB.out o4; have x4 := Outside.cell (q := ⟨w1.heap.size, 0, none⟩) o34 hV hpV x3; have HK4 := hide (HK.out.keep (fun k hk1 hk2 hl => o34.block k hl (.inr (by omega)))); have S4 := hide s4; have O4 := hide o34; have z4 := o34.size; have hf4 : w4.frozen? ⟨g, i * 7 + 2, none⟩ = false := HK4.out.fzg (i * 7 + 2); obtain ⟨c0, c1, c2, c3, c4, c5, c6⟩ := HK4.out.o7 hin; clear s4 o4 o34)
        all_goals (
          have v4 := O4.out.cell (q := ⟨w.heap.size, 0, none⟩) hR hpR v3
          have vf4 := O4.out.frozen (q := ⟨w.heap.size, 0, none⟩) hR hpR vf
          have xu : (w4.setCell ⟨g, i * 7 + 2, none⟩ (.int .i64 y)).cell? ⟨w1.heap.size, 0, none⟩ = some (.slice (some ⟨g, 0, none⟩) n c) := by
            rw [World.cell?_setCell_other _ _ _ _ (fun e => by injection e with e1; omega)]; exact x4
          have ru : (w4.setCell ⟨g, i * 7 + 2, none⟩ (.int .i64 y)).cell? ⟨w.heap.size, 0, none⟩ = some (.slice none 0 0) := by
            rw [World.cell?_setCell_other _ _ _ _ (fun e => by injection e with e1; omega)]; exact v4
          have rfu : (w4.setCell ⟨g, i * 7 + 2, none⟩ (.int .i64 y)).frozen? ⟨w.heap.size, 0, none⟩ = false := by
            rw [World.frozen?_setCell]; exact vf4
          have KU : Hid (SobS (InR (w.heap.size + 1) w1.heap.size) (some ⟨g, 0, none⟩) n (lsO (updO f i ((f i).1, (f i).2.1, y, (f i).2.2.2.1, (f i).2.2.2.2.1, (f i).2.2.2.2.2.1, (f i).2.2.2.2.2.2)) n) (w4.setCell ⟨g, i * 7 + 2, none⟩ (.int .i64 y))) := (HK4.out.putN hn8o hin (by decide : 2 < 7) y ((f i).1, (f i).2.1, y, (f i).2.2.2.1, (f i).2.2.2.2.1, (f i).2.2.2.2.2.1, (f i).2.2.2.2.2.2) (by intro k v hv; have hk : k < 7 := (by have := (List.getElem?_eq_some_iff.1 hv).1; simpa [v7] using this); rcases (by omega : k = 0 ∨ k = 1 ∨ k = 2 ∨ k = 3 ∨ k = 4 ∨ k = 5 ∨ k = 6) with rfl | rfl | rfl | rfl | rfl | rfl | rfl <;> exact hv) rfl rfl)
          have SU := hide (S4.out.setCell (q := ⟨g, i * 7 + 2, none⟩) (by show p < g; omega) (.int .i64 y))
          have OU := hide ((HO.out.trans O4.out).setNew (q := ⟨g, i * 7 + 2, none⟩) (by show w.heap.size ≤ g; omega) (.int .i64 y))
          have zu : w1.heap.size ≤ (w4.setCell ⟨g, i * 7 + 2, none⟩ (.int .i64 y)).heap.size := by simp; omega
          obtain ⟨U, hU⟩ : ∃ U, U = w4.setCell ⟨g, i * 7 + 2, none⟩ (.int .i64 y) := ⟨_, rfl⟩
          rw [← hU] at xu ru rfu KU SU OU zu
          have HU := hide hU
          clear hU x3 v3 xf vf x4 v4 vf4 c0 c1 c2 c3 c4 c5 c6 q0 q1 q2 q3 q4 q5 q6 HK4 S4 O4
          go_upto_region 16 with fail
          (try rw [← HU.out])
          clear HU
          go_wp2
          exact bodyPost_ret (v := .agg #[.slice (some ⟨g, 0, none⟩) n c]) (by simp [results, Try.results36, go_sem, ru]) rfl (BentK.fin hp (by exact KU.out) (by exact zu) hgc SU.out (by omega) OU.out))
      · have e2 : (r == 2) = false := by simp [h2]
        by_cases h3 : r = 3
        · have e3 : (r == 3) = true := by simp [h3]
          have HBa := hide (Src.drew (HS.out.below ((Below.refl w3.heap.size w3).alloc (Nat.le_refl _) (.cells #[.int .i64 0, .int .i64 100, .int .i64 201] 2))))
          have HOB := hide (Outside.drew (Outside.alloc p (p + 1) w3 (.cells #[.int .i64 0, .int .i64 100, .int .i64 201] 2)))
          have hgs2 : w3.heap.size < ((w3.alloc (.cells #[.int .i64 0, .int .i64 100, .int .i64 201] 2)).drew).heap.size := by simp
          have HG := hide hgs2
          have htt : t1 + 1 + 1 ≤ 1000000 := by omega
          obtain ⟨q0, q1, q2, q3, q4, q5, q6⟩ := HK.out.o7 hin
          clear hgs2
          go_wp2_with fail
          go_region_law (go_simp; go_at_call 67; refine (l1Pick_calls p a len cap (t1 + 1 + 1) w3.heap.size 3 3 [0, 100, 201] _ (by decide) (by decide) htt HBa.out hw3 HG.out rfl ?_).mono ?_; exact lit3; rintro e w4 ⟨y, rfl, s4, o4⟩; have o34 : Outside p (p + 1) w3 w4 := Outside.trans HOB.out o4; have x4 := Outside.cell (q := ⟨w1.heap.size, 0, none⟩) o34 hV hpV x3; have HK4 := hide (HK.out.keep (fun k hk1 hk2 hl => o34.block k hl (.inr (by omega)))); have S4 := hide s4; have O4 := hide o34; have z4 := o34.size; have hf4 : w4.frozen? ⟨g, i * 7 + 4, none⟩ = false := HK4.out.fzg (i * 7 + 4); obtain ⟨c0, c1, c2, c3, c4, c5, c6⟩ := HK4.out.o7 hin; clear s4 o4 o34)
          all_goals (
            have v4 := O4.out.cell (q := ⟨w.heap.size, 0, none⟩) hR hpR v3
            have vf4 := O4.out.frozen (q := ⟨w.heap.size, 0, none⟩) hR hpR vf
            have xu : (w4.setCell ⟨g, i * 7 + 4, none⟩ (.int .i64 y)).cell? ⟨w1.heap.size, 0, none⟩ = some (.slice (some ⟨g, 0, none⟩) n c) := by
              rw [World.cell?_setCell_other _ _ _ _ (fun e => by injection e with e1; omega)]; exact x4
            have ru : (w4.setCell ⟨g, i * 7 + 4, none⟩ (.int .i64 y)).cell? ⟨w.heap.size, 0, none⟩ = some (.slice none 0 0) := by
              rw [World.cell?_setCell_other _ _ _ _ (fun e => by injection e with e1; omega)]; exact v4
            have rfu : (w4.setCell ⟨g, i * 7 + 4, none⟩ (.int .i64 y)).frozen? ⟨w.heap.size, 0, none⟩ = false := by
              rw [World.frozen?_setCell]; exact vf4
            have KU : Hid (SobS (InR (w.heap.size + 1) w1.heap.size) (some ⟨g, 0, none⟩) n (lsO (updO f i ((f i).1, (f i).2.1, (f i).2.2.1, (f i).2.2.2.1, y, (f i).2.2.2.2.2.1, (f i).2.2.2.2.2.2)) n) (w4.setCell ⟨g, i * 7 + 4, none⟩ (.int .i64 y))) := (HK4.out.putN hn8o hin (by decide : 4 < 7) y ((f i).1, (f i).2.1, (f i).2.2.1, (f i).2.2.2.1, y, (f i).2.2.2.2.2.1, (f i).2.2.2.2.2.2) (by intro k v hv; have hk : k < 7 := (by have := (List.getElem?_eq_some_iff.1 hv).1; simpa [v7] using this); rcases (by omega : k = 0 ∨ k = 1 ∨ k = 2 ∨ k = 3 ∨ k = 4 ∨ k = 5 ∨ k = 6) with rfl | rfl | rfl | rfl | rfl | rfl | rfl <;> exact hv) rfl rfl)
            have SU := hide (S4.out.setCell (q := ⟨g, i * 7 + 4, none⟩) (by show p < g; omega) (.int .i64 y))
            have OU := hide ((HO.out.trans O4.out).setNew (q := ⟨g, i * 7 + 4, none⟩) (by show w.heap.size ≤ g; omega) (.int .i64 y))
            have zu : w1.heap.size ≤ (w4.setCell ⟨g, i * 7 + 4, none⟩ (.int .i64 y)).heap.size := by simp; omega
            obtain ⟨U, hU⟩ : ∃ U, U = w4.setCell ⟨g, i * 7 + 4, none⟩ (.int .i64 y) := ⟨_, rfl⟩
            rw [← hU] at xu ru rfu KU SU OU zu
            have HU := hide hU
            clear hU x3 v3 xf vf x4 v4 vf4 c0 c1 c2 c3 c4 c5 c6 q0 q1 q2 q3 q4 q5 q6 HK4 S4 O4
            go_upto_region 16 with fail
            (try rw [← HU.out])
            clear HU
            go_wp2
            exact bodyPost_ret (v := .agg #[.slice (some ⟨g, 0, none⟩) n c]) (by simp [results, Try.results36, go_sem, ru]) rfl (BentK.fin hp (by exact KU.out) (by exact zu) hgc SU.out (by omega) OU.out))
        · have e3 : (r == 3) = false := by simp [h3]
          by_cases h4 : r = 4
          · have e4 : (r == 4) = true := by simp [h4]
            have HBa := hide (Src.drew HS.out)
            have htt : t1 + 1 + 1 ≤ 990000 := by omega
            obtain ⟨q0, q1, q2, q3, q4, q5, q6⟩ := HK.out.o7 hin
            go_wp2_with fail
            go_region_law (go_simp; go_at_call 68; refine (l1Bent_calls p a len cap (t1 + 1 + 1) _ htt HBa.out).mono ?_; rintro e w4 ⟨ya, yn, yc, ys, t4, rfl, fr, s4, ht4, o4⟩; have o34 : Outside p (p + 1) w3 w4 := Outside.trans (Outside.drew (Outside.refl p (p + 1) w3)) o4; have x4 := Outside.cell (q := ⟨w1.heap.size, 0, none⟩) o34 hV hpV x3; have HK4 := hide (HK.out.keep (fun k hk1 hk2 hl => o34.block k hl (.inr (by omega)))); have S4 := hide s4; have O4 := hide o34; have z4 := o34.size; have hf4 : w4.frozen? ⟨g, i * 7 + 3, none⟩ = false := HK4.out.fzg (i * 7 + 3); have HF4 := hide (fr.frS); have hyn : yn ≤ 1048576 := (by have := fr.2.1; omega); obtain ⟨c0, c1, c2, c3, c4, c5, c6⟩ := HK4.out.o7 hin; clear s4 o4 o34 fr)
            all_goals (
              have hyl := HF4.out.1
              have v4 := O4.out.cell (q := ⟨w.heap.size, 0, none⟩) hR hpR v3
              have vf4 := O4.out.frozen (q := ⟨w.heap.size, 0, none⟩) hR hpR vf
              have xu : (w4.setCell ⟨g, i * 7 + 3, none⟩ (.slice ya yn yc)).cell? ⟨w1.heap.size, 0, none⟩ = some (.slice (some ⟨g, 0, none⟩) n c) := by
                rw [World.cell?_setCell_other _ _ _ _ (fun e => by injection e with e1; omega)]; exact x4
              have ru : (w4.setCell ⟨g, i * 7 + 3, none⟩ (.slice ya yn yc)).cell? ⟨w.heap.size, 0, none⟩ = some (.slice none 0 0) := by
                rw [World.cell?_setCell_other _ _ _ _ (fun e => by injection e with e1; omega)]; exact v4
              have rfu : (w4.setCell ⟨g, i * 7 + 3, none⟩ (.slice ya yn yc)).frozen? ⟨w.heap.size, 0, none⟩ = false := by
                rw [World.frozen?_setCell]; exact vf4
              have o2 := HK4.out.os (2 * i + 1) (by omega)
              rw [sbO_d] at o2
              have KU : Hid (SobS (InR (w.heap.size + 1) w4.heap.size) (some ⟨g, 0, none⟩) n (lsO (updO f i ((f i).1, (f i).2.1, (f i).2.2.1, ys, (f i).2.2.2.2.1, (f i).2.2.2.2.2.1, (f i).2.2.2.2.2.2)) n) (w4.setCell ⟨g, i * 7 + 3, none⟩ (.slice ya yn yc))) := (HK4.out.putS hn8o hin (by decide : 3 < 7) (.slice ya yn yc) ((f i).1, (f i).2.1, (f i).2.2.1, ys, (f i).2.2.2.2.1, (f i).2.2.2.2.2.1, (f i).2.2.2.2.2.2) (fun k hk => ⟨hk.1, by have := hk.2; omega⟩) (xa := ya) (xc := yc) (by rw [← hyl]; intro k v hv; have hk : k < 7 := (by have := (List.getElem?_eq_some_iff.1 hv).1; simpa [v7] using this); rcases (by omega : k = 0 ∨ k = 1 ∨ k = 2 ∨ k = 3 ∨ k = 4 ∨ k = 5 ∨ k = 6) with rfl | rfl | rfl | rfl | rfl | rfl | rfl <;> exact hv) (by show ys.length ≤ _; omega) (by show FrS _ ya ys.length ys w4; rw [hyl]; exact HF4.out.mono (fun k hk => ⟨⟨by have h1 := hk.1; simp only [World.size_drew] at h1; omega, hk.2⟩, by have h1 := hk.1; simp only [World.size_drew] at h1; omega⟩)) (by have := o2.2.1; omega) (o2.frS (fun k hk => ⟨⟨hk.1, by have := hk.2.1; omega⟩, hk.2.2⟩)))
              have SU := hide (S4.out.setCell (q := ⟨g, i * 7 + 3, none⟩) (by show p < g; omega) (.slice ya yn yc))
              have OU := hide ((HO.out.trans O4.out).setNew (q := ⟨g, i * 7 + 3, none⟩) (by show w.heap.size ≤ g; omega) (.slice ya yn yc))
              have zu : w4.heap.size ≤ (w4.setCell ⟨g, i * 7 + 3, none⟩ (.slice ya yn yc)).heap.size := by simp
              obtain ⟨U, hU⟩ : ∃ U, U = w4.setCell ⟨g, i * 7 + 3, none⟩ (.slice ya yn yc) := ⟨_, rfl⟩
              rw [← hU] at xu ru rfu KU SU OU zu
              have HU := hide hU
              clear hU x3 v3 xf vf x4 v4 vf4 c0 c1 c2 c3 c4 c5 c6 q0 q1 q2 q3 q4 q5 q6 HK4 S4 O4 o2 HF4
              go_upto_region 16 with fail
              (try rw [← HU.out])
              clear HU
              go_wp2
              exact bodyPost_ret (v := .agg #[.slice (some ⟨g, 0, none⟩) n c]) (by simp [results, Try.results36, go_sem, ru]) rfl (BentK.fin hp (by exact KU.out) (by exact zu) hgc SU.out (by omega) OU.out))
          · have e4 : (r == 4) = false := by simp [h4]
            by_cases h5 : r = 5
            · have e5 : (r == 5) = true := by simp [h5]
              have sA := HS.out.below ((Below.refl w3.heap.size w3).alloc (Nat.le_refl _) (.cells #[.int .i64 0, .int .i64 13] 2))
              go_wp2_with fail
              refine (l1PickM_calls p a len cap (t1 + 1 + 1) w3.heap.size 2 2 [0, 13] _ (by omega) (by omega) (by omega) sA hw3 (by simp) rfl lit2).mono ?_
              rintro e w4 ⟨j, hj, rfl, s4, o4⟩
              have o34 := (Outside.alloc p (p + 1) w3 (.cells #[.int .i64 0, .int .i64 13] 2)).trans o4
              obtain ⟨m, hm, hm13⟩ : ∃ m : Nat, gt [0, 13] j = (m : Int) ∧ m ≤ 13 := by
                rcases (by omega : j = 0 ∨ j = 1) with rfl | rfl
                · exact ⟨0, rfl, by omega⟩
                · exact ⟨13, rfl, by omega⟩
              rw [hm]
              have hmk : ∀ u : World, (Instr.makeSlice 24 (.int .i64 (m : Int)) (.int .i64 (m : Int))).run Try.prog u =
                  .ok (.slice (some ⟨u.heap.size, 0, none⟩) m m) (u.alloc (.cells (madeCells #[.int .i64 0, .int .i64 0, .int .i64 0, .slice none 0 0, .int .i64 0, .int .i64 0, .slice none 0 0] (m * 7)) 71)) := fun u => by
                have h := run_make (P := Try.prog) u 24 71 i0 (.agg #[.int .i64 0, .int .i64 0, .int .i64 0, .slice none 0 0, .int .i64 0, .int .i64 0, .slice none 0 0]) Try.underlying24 hi hz0 .i64 .i64 (m : Int) (m : Int) (by omega) (Int.le_refl _) (by rw [hz2]; omega) (by omega)
                simpa [hz1, Value.cells] using h
              have z4 := o34.size
              have x4 := o34.cell (q := ⟨w1.heap.size, 0, none⟩) hV hpV x3
              have xf4 := o34.frozen (q := ⟨w1.heap.size, 0, none⟩) hV hpV xf
              have v4 := o34.cell (q := ⟨w.heap.size, 0, none⟩) hR hpR v3
              have vf4 := o34.frozen (q := ⟨w.heap.size, 0, none⟩) hR hpR vf
              have k1 : w1.heap.size < w4.heap.size := by omega
              have k2 : w.heap.size < w4.heap.size := by omega
              have HKM : Hid (∀ x y : Value, SobS (InR (w.heap.size + 1) (((w4.setCell ⟨w1.heap.size, 0, none⟩ x).setCell ⟨w.heap.size, 0, none⟩ y).alloc (.cells (madeCells #[.int .i64 0, .int .i64 0, .int .i64 0, .slice none 0 0, .int .i64 0, .int .i64 0, .slice none 0 0] (m * 7)) 71)).heap.size) (some ⟨w4.heap.size, 0, none⟩) m (List.replicate m (0, 0, 0, [], 0, 0, [])) (((w4.setCell ⟨w1.heap.size, 0, none⟩ x).setCell ⟨w.heap.size, 0, none⟩ y).alloc (.cells (madeCells #[.int .i64 0, .int .i64 0, .int .i64 0, .slice none 0 0, .int .i64 0, .int .i64 0, .slice none 0 0] (m * 7)) 71))) := fun x y => by
                have h := made_sobS ((w4.setCell ⟨w1.heap.size, 0, none⟩ x).setCell ⟨w.heap.size, 0, none⟩ y) m 71 (InR (w.heap.size + 1) (((w4.setCell ⟨w1.heap.size, 0, none⟩ x).setCell ⟨w.heap.size, 0, none⟩ y).alloc (.cells (madeCells #[.int .i64 0, .int .i64 0, .int .i64 0, .slice none 0 0, .int .i64 0, .int .i64 0, .slice none 0 0] (m * 7)) 71)).heap.size) ⟨by simp; omega, by simp⟩ (by omega)
                rw [show ((w4.setCell ⟨w1.heap.size, 0, none⟩ x).setCell ⟨w.heap.size, 0, none⟩ y).heap.size = w4.heap.size from by simp] at h
                exact h
              have HS3 := hide fun x y o => ((s4.setCell (q := ⟨w1.heap.size, 0, none⟩) hp1 x).setCell (q := ⟨w.heap.size, 0, none⟩) hp y).below ((Below.refl _ _).alloc (Nat.le_refl _) o)
              have HO3 := hide fun x y o => (((HO.out.trans o34).setNew (q := ⟨w1.heap.size, 0, none⟩) (by show w.heap.size ≤ w1.heap.size; omega) x).setNew (q := ⟨w.heap.size, 0, none⟩) (Nat.le_refl _) y).trans (Outside.alloc p (p + 1) _ o)
              clear x3 xf v3 vf sA o4 s4 o34 h0 h1 h2 h3 h4 h5 r0 r1
              go_wp2
              refine bodyPost_ret (v := .agg #[.slice (some ⟨w4.heap.size, 0, none⟩) m m]) (by simp [results, Try.results36, go_sem, v4, k2]) rfl ?_
              exact ⟨_, _, _, _, t1 + 1 + 1 + 1, rfl, HKM.out _ _, Nat.le_refl _, HS3.out _ _ _, by omega, HO3.out _ _ _⟩
            · have e5 : (r == 5) = false := by simp [h5]
              have KU := hide (HK.out.sobS hn8o)
              clear h0 h1 h2 h3 h4 h5 r0 r1
              go_wp2
              exact bodyPost_ret (v := .agg #[.slice (some ⟨g, 0, none⟩) n c]) (by simp [results, Try.results36, go_sem, v3]) rfl (BentK.fin hp (by exact KU.out) (by omega) hgc HS.out (by omega) HO.out)
          

end Go.Proofs.Ytpcdfeccmiiglaa
