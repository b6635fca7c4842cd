import Derived.Test.YtnibngigbcakkaaGreatF41
import Derived.WalkKit
import Derived.ProofKit
import Derived.OpenShut
import Derived.ShutString
import Derived.ChangeOld
import Derived.Below
import Derived.WalkSpells
import Derived.Deep.QuietTactic
import Derived.BigQuiet
import Derived.Deep.RegionWith
import Derived.Deep.WholeRow
import Derived.Deep.DeepCutAuto
import Derived.Deep.RegionHeld2
import Derived.Deep.AppendLies
import Derived.Deep.RegionLaw
namespace Go.Proofs.YtnibngigbcakkaaGreat
open Go.ChangeShapes Go.WideShapes Go.ChangeAt Go.RowKit

set_option maxRecDepth 100000 in
set_option maxHeartbeats 8000000 in
theorem l3Bent_calls (p : Nat) (a : Option Addr) (len cap t : Nat) (w : World) (ht : t ≤ 970000) (hs : Src w p a len cap t) :
    Calls Tryz.prog 25 #[.pointer (some ⟨p, 0, none⟩)] w (BentT p a len cap t w) := by
  have hp : p < w.heap.size := hs.1
  have M0 := (Mo.start p w).alloc3 hp (.slice none 0 0) (.slice none 0 0) (.slice none 0 0) 40
  have s0 := hs.below ((Below.refl _ _).alloc (Nat.le_refl _) (.cells #[.slice none 0 0, .slice none 0 0, .slice none 0 0] 40))
  go_enter Tryz.func25, Tryz.ntmps25
  go_wp2_with fail
  refine (l3Draw_calls p a len cap t _ (by omega) s0).mono ?_
  rintro e w1 ⟨ra, n, rc, ss, ta, tn, tc, ts, da, dn, dc, ds, t1, rfl, htn, _, oo, s1, ht1, o1⟩
  simp only [World.size_alloc] at oo
  have z1 := o1.size
  simp only [World.size_alloc] at z1
  have hp1 : p < w1.heap.size := by omega
  have al := (Below.refl w1.heap.size w1).alloc (Nat.le_refl _) (.cells #[.slice ra n rc, .slice ta tn tc, .slice da dn dc] 40)
  have M1 := (M0.next o1).alloc3 hp1 (.slice ra n rc) (.slice ta tn tc) (.slice da dn dc) 40
  have s1' := s1.below al
  have oo1 := oo.keep (fun k _ hl => al.block k hl)
  have HF0 : Hid (∀ j, w1.frozen? ⟨w.heap.size, j, none⟩ = false) := fun j => (World.frozen?_of_block (a := ⟨w.heap.size, j, none⟩) (o1.block w.heap.size (by simp) (.inr hp))).trans (by simp)
  clear M0 s0 o1 s1 oo al
  go_wp2_with fail
  refine (l1Next_calls p a len cap t1 14 _ (by omega) (by omega) (by omega) s1').mono ?_
  rintro e w2 ⟨r, rfl, r0, r1, s2, o2⟩
  have M2 := M1.next o2
  have z2 := o2.size
  simp only [World.size_alloc] at z2
  have oo2 := oo1.keep (fun k hk hl => o2.block k hl (.inr (by have := hk.1; omega)))
  have HV2 : Hid (V6 w1.heap.size w.heap.size (.slice ra n rc) (.slice ta tn tc) (.slice da dn dc) w2) := by
    have b1 : ∀ j, (w1.alloc (.cells #[.slice ra n rc, .slice ta tn tc, .slice da dn dc] 40)).frozen? ⟨w1.heap.size, j, none⟩ = false := fun j => by simp
    have f1 := fun j => (World.frozen?_of_block (a := ⟨w1.heap.size, j, none⟩) (o2.block w1.heap.size (by simp) (.inr hp1))).trans (b1 j)
    refine ⟨M2.cell 0 rfl, M2.cell 1 rfl, M2.cell 2 rfl, f1, M2.cell 3 rfl, M2.cell 4 rfl, M2.cell 5 rfl, fun j => ?_⟩
    exact (World.frozen?_of_block (a := ⟨w.heap.size, j, none⟩) (o2.block w.heap.size (by simp; omega) (.inr hp))).trans ((World.frozen?_of_block (a := ⟨w.heap.size, j, none⟩) (Below.heap_alloc w1 _ w.heap.size (by omega))).trans (HF0.out j))
  have HO2 := hide M2.out
  have HS2 := hide s2
  have HT2 := hide oo2
  have hw2 : p < w2.heap.size := by omega
  have hVw : w1.heap.size < w2.heap.size := by omega
  have hRw : w.heap.size < w2.heap.size := by omega
  have hqr : w1.heap.size ≠ w.heap.size := by omega
  have hwV : w.heap.size + 1 ≤ w1.heap.size := by omega
  have Htn := hide htn
  clear M2 M1 s2 oo2 oo1 s1' o2 htn
  by_cases q0 : r = 0
  · have e0 : (r == 0) = true := by simp [q0]
    clear q0 r0 r1
    obtain ⟨S1, S2, S3, hs1, hs2, hs3, d12, d13, d23, oR, oW, oD⟩ := HT2.out
    have HR2 := hide oR
    have HW2 := hide oW
    have HD2 := hide oD
    have H1 := hide hs1
    have H2 := hide hs2
    have H3 := hide hs3
    have H12 := hide d12
    have H23 := hide d23
    have HBa := hide (Src.drew (HS2.out.below ((Below.refl w2.heap.size w2).alloc (Nat.le_refl _) (.cells #[.int .i64 0, .int .i64 7, .int .i64 (-1)] 2))))
    have HOB := hide (Outside.drew (Outside.alloc p (p + 1) w2 (.cells #[.int .i64 0, .int .i64 7, .int .i64 (-1)] 2)))
    have hgs2 : w2.heap.size < ((w2.alloc (.cells #[.int .i64 0, .int .i64 7, .int .i64 (-1)] 2)).drew).heap.size := by simp
    have HG := hide hgs2
    have htt : t1 + 1 ≤ 1000000 := by omega
    have x2 := HV2.out.q1
    have hpV : p + 1 ≤ w1.heap.size := hp1
    obtain ⟨i0, hi, hz0, hz1, hz2⟩ := info_parts infoInt3
    clear hgs2 oR oW oD hs1 hs2 hs3 d12 d13 d23
    go_wp2_with fail
    go_region_law (first
      | (refine step_append_lies _ rfl _ _ 38 rfl 0 2 i0 (.int .i64 0) 1 8 Tryz.underlying38 hi hz0 hz1 hz2 rfl (by decide) (.slice ta tn tc) tn (ts.map (Value.int .i64)) rfl (HW3.out.2.1.alloc _) ⟨w3.heap.size, 0, none⟩ 1 1 [.int .i64 y] rfl rfl (one_newB (by go_simp)) (by simp [Value.oneCell']) (by omega) (by unfold maxLen; have := Htn.out; omega) (by have := Htn.out; omega) (Nat.zero_le _) (w3.heap.size + 1) (by simp) ?_; intro g cp w5 hown5 hgrow hat hlt5; obtain ⟨tb, u5⟩ := tb_app H1.out H2.out H3.out H12.out H23.out HR3.out HW3.out HD3.out hgrow hat hown5 (by have := Htn.out; omega); have HTB := hide tb; have HU5 := hide u5; have V5 := V3.out.keep (bent_keep u5 hV3 (fun e => by have := (H2.out _ e).2; omega)) (bent_keep u5 hR3 (fun e => by have := (H2.out _ e).1; omega)); have gq1 := V5.q1; have gqf := V5.qf 1; have HV5 := hide V5; have HLT : Hid (w3.heap.size ≤ w5.heap.size) := (by have := u5.size; simp only [World.size_alloc] at this; show w3.heap.size ≤ w5.heap.size; omega); clear hown5 hgrow hat hlt5 tb u5 V5)
      | (go_simp; go_at_call 21; refine (l1Pick_calls p a len cap (t1 + 1) w2.heap.size 3 3 [0, 7, -1] _ (by decide) (by decide) htt HBa.out hw2 HG.out rfl ?_).mono ?_; exact lit3; rintro e w3 ⟨y, rfl, s3, o3⟩; have o23 : Outside p (p + 1) w2 w3 := Outside.trans HOB.out o3; have x3 := Outside.cell (q := ⟨w1.heap.size, 1, none⟩) o23 hVw hpV x2; have KP : Hid (∀ k, InR (w.heap.size + 1 + 1 + 1) w1.heap.size k → w3.heap[k]? = w2.heap[k]?) := (fun k hk => o23.block k (by have := hk.2; omega) (.inr (by have := hk.1; omega))); have HR3 := hide (OR.loc w2 w3 (fun k hk _ => KP.out k (H1.out k hk)) HR2.out); have HW3 := hide (RW.loc w2 w3 (fun k hk _ => KP.out k (H2.out k hk)) HW2.out); have HD3 := hide (OS.loc w2 w3 (fun k hk _ => KP.out k (H3.out k hk)) HD2.out); have V3 := hide (HV2.out.out o23 hp1 hp); have hV3 : w1.heap.size < w3.heap.size := (by have := o23.size; omega); have hR3 : w.heap.size < w3.heap.size := (by omega); have S3' := hide s3; have O3 := hide (HO2.out.trans o23); clear s3 o3 o23))
    all_goals (
      obtain ⟨s5, o5⟩ := bent_app (w := w) HU5.out (fun k hk => by have := (H2.out k hk).1; omega) (by omega) hp S3'.out O3.out
      have HV := hide (HV5.out.set1 hqr (.slice (some ⟨g, 0, none⟩) (tn + 1) cp))
      have HS5 := hide (s5.setCell (q := ⟨w1.heap.size, 1, none⟩) hp1 (.slice (some ⟨g, 0, none⟩) (tn + 1) cp))
      have HO5 := hide (o5.setNew (q := ⟨w1.heap.size, 1, none⟩) (by show w.heap.size ≤ w1.heap.size; omega) (.slice (some ⟨g, 0, none⟩) (tn + 1) cp))
      have HTB5 := hide (TbS.loc.setC HTB.out (q := ⟨w1.heap.size, 1, none⟩) (fun e => by rcases e with e | e; have := e.2; simp only at this; omega; have := e.1; simp only at this; omega) (.slice (some ⟨g, 0, none⟩) (tn + 1) cp))
      have HIN : Hid (∀ k, (InR (w.heap.size + 1 + 1 + 1) w1.heap.size k ∨ InR w3.heap.size w5.heap.size k) → w.heap.size + 1 ≤ k ∧ k < (w5.setCell ⟨w1.heap.size, 1, none⟩ (.slice (some ⟨g, 0, none⟩) (tn + 1) cp)).heap.size) := (fun k hk => by have := HLT.out; rcases hk with hk | hk; exact ⟨by have := hk.1; omega, by have := hk.2; simp; omega⟩; exact ⟨by have := hk.1; omega, by have := hk.2; simpa using this⟩)
      obtain ⟨X, hX⟩ : ∃ x, x = w5.setCell ⟨w1.heap.size, 1, none⟩ (.slice (some ⟨g, 0, none⟩) (tn + 1) cp) := ⟨_, rfl⟩
      rw [← hX] at HV HS5 HO5 HTB5 HIN ⊢
      clear s5 o5 x2 x3 gq1 gqf hX
      have q0 := HV.out.q0
      have q1 := HV.out.q1
      have q2 := HV.out.q2
      have d0 := HV.out.d0
      have d1 := HV.out.d1
      have d2 := HV.out.d2
      have f0 := HV.out.df 0
      have f1 := HV.out.df 1
      have f2 := HV.out.df 2
      go_wp2
      exact bodyPost_ret (v := .agg #[.slice ra n rc, .slice (some ⟨g, 0, none⟩) (tn + 1) cp, .slice da dn dc]) (by simp [results, Tryz.results25, go_sem, d0, d1, d2]) rfl (BentT.fin hp HTB5.out HIN.out HS5.out (by omega) HO5.out _ _ _))
  · have e0 : (r == 0) = false := by simp [q0]
    by_cases q1 : r = 1
    · have e1 : (r == 1) = true := by simp [q1]
      clear q0 q1 r0 r1
      have x0 := HV2.out.q0
      have xf := HV2.out.qf 0
      go_wp2_with fail
      refine (l2Bent_calls p a len cap (t1 + 1) _ (by omega) HS2.out).mono ?_
      rintro e w3 ⟨ra', n', rc', ss', t3, rfl, rg3, hn', s3, ht3, o3⟩
      have z3 := o3.size
      have V3 := HV2.out.out o3 hp1 hp
      have y0 := V3.q0
      have yf := V3.qf 0
      have oo3 := (HT2.out.keep (fun k hk hl => o3.block k hl (.inr (by have := hk.1; omega)))).tbS
      have HTB : Hid (TbS (fun k => InR (w.heap.size + 1 + 1 + 1) w1.heap.size k ∨ InR (w2.heap.size + 1) w3.heap.size k) ra' n' ss' ta tn ts da dn ds w3) := ⟨by omega, rg3.mono (fun k hk => .inr hk), oo3.2.2.1, oo3.2.2.2.1.mono (fun k hk => .inl hk), oo3.2.2.2.2.1, oo3.2.2.2.2.2.mono (fun k hk => .inl hk)⟩
      have HV := hide (V3.set0 hqr (.slice ra' n' rc'))
      have HS5 := hide (s3.setCell (q := ⟨w1.heap.size, 0, none⟩) hp1 (.slice ra' n' rc'))
      have HO5 := hide ((HO2.out.trans o3).setNew (q := ⟨w1.heap.size, 0, none⟩) (by show w.heap.size ≤ w1.heap.size; omega) (.slice ra' n' rc'))
      have HTB5 := hide (TbS.loc.setC HTB.out (q := ⟨w1.heap.size, 0, none⟩) (fun e => by rcases e with e | e; have := e.2; simp only at this; omega; have := e.1; simp only at this; omega) (.slice ra' n' rc'))
      have HIN : Hid (∀ k, (InR (w.heap.size + 1 + 1 + 1) w1.heap.size k ∨ InR (w2.heap.size + 1) w3.heap.size k) → w.heap.size + 1 ≤ k ∧ k < (w3.setCell ⟨w1.heap.size, 0, none⟩ (.slice ra' n' rc')).heap.size) := (fun k hk => by rcases hk with hk | hk; exact ⟨by have := hk.1; omega, by have := hk.2; simp; omega⟩; exact ⟨by have := hk.1; omega, by have := hk.2; simpa using this⟩)
      clear rg3 s3 o3 V3 oo3 x0 xf
      go_upto_region 14 with fail
      obtain ⟨X, hX⟩ : ∃ x, x = w3.setCell ⟨w1.heap.size, 0, none⟩ (.slice ra' n' rc') := ⟨_, rfl⟩
      rw [← hX] at HV HS5 HO5 HTB5 HIN ⊢
      clear y0 yf hX
      have q0 := HV.out.q0
      have q1 := HV.out.q1
      have q2 := HV.out.q2
      have d0 := HV.out.d0
      have d1 := HV.out.d1
      have d2 := HV.out.d2
      have f0 := HV.out.df 0
      have f1 := HV.out.df 1
      have f2 := HV.out.df 2
      go_wp2
      exact bodyPost_ret (v := .agg #[.slice ra' n' rc', .slice ta tn tc, .slice da dn dc]) (by simp [results, Tryz.results25, go_sem, d0, d1, d2]) rfl (BentT.fin hp HTB5.out HIN.out HS5.out (by omega) HO5.out _ _ _)
    · have e1 : (r == 1) = false := by simp [q1]
      by_cases q2 : r = 2
      · have e2 : (r == 2) = true := by simp [q2]
        clear q0 q1 q2 r0 r1
        have sA := HS2.out.below ((Below.refl w2.heap.size w2).alloc (Nat.le_refl _) (.cells #[.int .i64 4, .int .i64 5] 2))
        obtain ⟨i0, hi, hz0, hz1, hz2⟩ := info_parts infoInt3
        go_wp2_with fail
        refine (l1PickM_calls p a len cap (t1 + 1) w2.heap.size 2 2 [4, 5] _ (by omega) (by omega) (by omega) sA hw2 (by simp) rfl lit2).mono ?_
        rintro e w3 ⟨j, hj, rfl, s3, o3⟩
        have o23 := (Outside.alloc p (p + 1) w2 (.cells #[.int .i64 4, .int .i64 5] 2)).trans o3
        obtain ⟨m, hm, hm33⟩ : ∃ m : Nat, gt [4, 5] j = (m : Int) ∧ m ≤ 5 := by
          rcases (by omega : j = 0 ∨ j = 1) with rfl | rfl
          · exact ⟨4, rfl, by omega⟩
          · exact ⟨5, rfl, by omega⟩
        rw [hm]
        have hmk : ∀ u : World, (Instr.makeSlice 38 (.int .i64 (m : Int)) (.int .i64 (m : Int))).run Tryz.prog u =
            .ok (.slice (some ⟨u.heap.size, 0, none⟩) m m) (u.alloc (.cells (madeCells #[.int .i64 0] m) 2)) := fun u => by
          have h := run_make (P := Tryz.prog) u 38 2 i0 (.int .i64 0) Tryz.underlying38 hi hz0 .i64 .i64 (m : Int) (m : Int) (by omega) (Int.le_refl _) (by rw [hz2]; omega) (by omega)
          simpa [hz1, Value.cells] using h
        have z3 := o23.size
        have V3 := HV2.out.out o23 hp1 hp
        have y2 := V3.q2
        have yf := V3.qf 2
        have oo3 := (HT2.out.keep (fun k hk hl => o23.block k hl (.inr (by have := hk.1; omega)))).tbS
        have hVX : w1.heap.size < w3.heap.size := by omega
        clear sA
        go_upto_region 14 with fail
        obtain ⟨Y, hY⟩ : ∃ x, x = w3.setCell ⟨w1.heap.size, 2, none⟩ (.slice (some ⟨w3.heap.size, 0, none⟩) m m) := ⟨_, rfl⟩
        have hsY : Y.heap.size = w3.heap.size := by rw [hY]; simp
        have ooY : TbS (InR (w.heap.size + 1 + 1 + 1) w1.heap.size) ra n ss ta tn ts da dn ds Y := by rw [hY]; exact TbS.loc.setC oo3 (q := ⟨w1.heap.size, 2, none⟩) (fun e => by have := e.2; simp only at this; omega) _
        have VY : V6 w1.heap.size w.heap.size (.slice ra n rc) (.slice ta tn tc) (.slice (some ⟨w3.heap.size, 0, none⟩) m m) Y := by rw [hY]; exact V3.set2 hqr _
        have sY : Src Y p a len cap (t1 + 1 + 1) := by rw [hY]; exact s3.setCell (q := ⟨w1.heap.size, 2, none⟩) hp1 _
        have oY : Outside p (p + 1) w Y := by rw [hY]; exact (HO2.out.trans o23).setNew (q := ⟨w1.heap.size, 2, none⟩) (by show w.heap.size ≤ w1.heap.size; omega) _
        rw [← hY]
        have al := (Below.refl Y.heap.size Y).alloc (Nat.le_refl _) (.cells (madeCells #[.int .i64 0] m) 2)
        have ooX := TbS.loc.below al ooY
        have hmd := made_fr Y m 2 (fun k => InR (w.heap.size + 1 + 1 + 1) w1.heap.size k ∨ k = w3.heap.size) (.inr hsY)
        rw [hsY] at hmd
        have HTB5 : Hid (TbS (fun k => InR (w.heap.size + 1 + 1 + 1) w1.heap.size k ∨ k = w3.heap.size) ra n ss ta tn ts (some ⟨w3.heap.size, 0, none⟩) m (List.replicate m 0) (Y.alloc (.cells (madeCells #[.int .i64 0] m) 2))) := ⟨ooX.1, ooX.2.1.mono (fun k hk => .inl hk), ooX.2.2.1, ooX.2.2.2.1.mono (fun k hk => .inl hk), by omega, hmd⟩
        have HV := hide (VY.alloc (.cells (madeCells #[.int .i64 0] m) 2))
        have HS5 := hide (sY.below al)
        have HO5 := hide (oY.trans (Outside.of_below al))
        have HIN : Hid (∀ k, (InR (w.heap.size + 1 + 1 + 1) w1.heap.size k ∨ k = w3.heap.size) → w.heap.size + 1 ≤ k ∧ k < (Y.alloc (.cells (madeCells #[.int .i64 0] m) 2)).heap.size) := (fun k hk => by rcases hk with hk | hk; exact ⟨by have := hk.1; omega, by have := hk.2; simp; omega⟩; exact ⟨by omega, by simp; omega⟩)
        obtain ⟨X, hX⟩ : ∃ x, x = Y.alloc (.cells (madeCells #[.int .i64 0] m) 2) := ⟨_, rfl⟩
        rw [← hX] at HV HS5 HO5 HTB5 HIN ⊢
        clear s3 o3 o23 V3 oo3 y2 yf hmk hY hsY ooY VY sY oY al ooX hmd hX
        have q0 := HV.out.q0
        have q1 := HV.out.q1
        have q2 := HV.out.q2
        have d0 := HV.out.d0
        have d1 := HV.out.d1
        have d2 := HV.out.d2
        have f0 := HV.out.df 0
        have f1 := HV.out.df 1
        have f2 := HV.out.df 2
        go_wp2
        exact bodyPost_ret (v := .agg #[.slice ra n rc, .slice ta tn tc, .slice (some ⟨w3.heap.size, 0, none⟩) m m]) (by simp [results, Tryz.results25, go_sem, d0, d1, d2]) rfl (BentT.fin hp HTB5.out HIN.out HS5.out (by omega) HO5.out _ _ _)
      · have e2 : (r == 2) = false := by simp [q2]
        by_cases q3 : r = 3
        · have e3 : (r == 3) = true := by simp [q3]
          clear q0 q1 q2 q3 r0 r1
          have x0 := HV2.out.q0
          have HSa := hide (HS2.out.below (Below.refl _ _).drew)
          have HSb := hide (HS2.out.below (((Below.refl w2.heap.size w2).alloc (Nat.le_refl _) (.cells #[.int .i64 0, .int .i64 0, .slice none 0 0] 88)).drew))
          have HOa := hide (Outside.drew (Outside.refl p (p + 1) w2))
          have HOb := hide (Outside.drew (Outside.alloc p (p + 1) w2 (.cells #[.int .i64 0, .int .i64 0, .slice none 0 0] 88)))
          have HCa : Hid (Cs w2.heap.size [.int .i64 0, .int .i64 0, .slice none 0 0] (w2.alloc (.cells #[.int .i64 0, .int .i64 0, .slice none 0 0] 88)).drew) := Cs.loc.below (Below.refl _ _).drew (Cs.alloc w2 _ _)
          have HJ0 := hide (HV2.out.below (Below.refl _ _).drew).q0
          have HJ1 := hide (HV2.out.below (((Below.refl w2.heap.size w2).alloc (Nat.le_refl _) (.cells #[.int .i64 0, .int .i64 0, .slice none 0 0] 88)).drew)).q0
          have htt : t1 + 1 ≤ 990000 := by omega
          have hnn : n ≤ maxLen := HT2.out.rt.1
          go_upto_region 10 with fail
          go_cut [4] (fun v wd => ∃ (B t3 : Nat) (zs : List Int) (ea : Option Addr) (en ec : Nat), v = .pointer (some ⟨B, 0, none⟩) ∧ w1.heap.size < B ∧ wd.cell? ⟨B, 0, none⟩ = some (.int .i64 (elC ss zs)) ∧ wd.cell? ⟨B, 1, none⟩ = some (.int .i64 (elV ss zs)) ∧ wd.cell? ⟨B, 2, none⟩ = some (.slice ea en ec) ∧ t3 ≤ t1 + 1 + 10 ∧ ∃ c, CutB p a len cap t3 c w w1 w2 (.slice ra n rc) (.slice ta tn tc) (.slice da dn dc) ra n ss ta tn ts da dn ds tc ea en (elL ss zs) wd)
          case first =>
            go_region_held2 (fun W => W.cell? ⟨w1.heap.size, 0, none⟩ = some (.slice ra n rc))
             (first | with_reducible assumption | with_reducible exact HJ0.out | with_reducible exact HJ1.out | with_reducible exact HV1.out.q0 | with_reducible exact (HV1.out.alloc _).q0 | with_reducible exact HC2.out.v.q0 | with_reducible exact (HC2.out.alloc _).v.q0 | with_reducible exact (HC2.out.set3 (by omega) (by omega) (by omega) hp _ _ _).v.q0)
             (first
              | (go_at_call 48; refine (l1Bent_calls p a len cap (t1 + 1) _ htt ?_).mono ?_; (first | with_reducible exact HSa.out | with_reducible exact HSb.out); rintro e u1 ⟨la, ll, lc, zs, t3, rfl, fr, s1, ht3, o1⟩; have o1w : Outside p (p + 1) w2 u1 := (by first | with_reducible exact Outside.trans HOa.out o1 | with_reducible exact Outside.trans HOb.out o1); have V1 := HV2.out.out o1w hp1 hp; have y0 := V1.q0; have HV1 := hide V1; have HS1 := hide s1; have HO1 := hide (HO2.out.trans o1w); have HL1 := hide fr.frS.sl; have hll : ll ≤ maxLen := (by have := fr.2.1; unfold maxLen; omega); have HT1 := hide (HT2.out.keep (fun k hk hl => o1w.block k hl (.inr (by have := hk.1; omega)))); have zu1 := o1.size; (try simp only [World.size_drew, World.size_alloc] at zu1); (try (have K1 := Cs.loc.out (OutS.of_outside o1) (fun j hj e => by have := hj.1; have := e.2; omega) HCa.out; have s0 := K1.cell 0 rfl; have HK1 := hide K1; clear K1 s0)); have zw1 := o1w.size; clear V1 s1 o1 fr o1w)
              | (go_at_call 47; refine (specEnterLabel_calls ra n rc ss la ll lc zs _ hnn ?_ hll ?_).mono ?_; (first | exact HT1.out.rt.2.1 | exact HT1.out.rt.2.1.below ((Below.refl _ _).alloc (Nat.le_refl _) _) (Nat.le_refl _)); (first | exact HL1.out | exact HL1.out.below ((Below.refl _ _).alloc (Nat.le_refl _) _) (Nat.le_refl _)); rintro e u2 ⟨ea, en, ec, rfl, or2, g2⟩; have gw : Below u1.heap.size u1 u2 := (by first | exact g2 | exact ((Below.refl _ _).alloc (Nat.le_refl _) _).trans (g2.mono (by simp))); have zu2 := gw.size; have zg2 := g2.size; (try simp only [World.size_alloc] at zg2 or2); have HC2 : Hid (CutB p a len cap t3 _ w w1 w2 (.slice ra n rc) (.slice ta tn tc) (.slice da dn dc) ra n ss ta tn ts da dn ds tc ea en (elL ss zs) u2) := ⟨HV1.out.below gw, HT1.out.keep (fun k _ hl => gw.block k hl), or2, HS1.out.below gw, HO1.out.trans (Outside.of_below gw), ⟨by omega, by omega⟩⟩; (try (have K2 := Cs.loc.below gw HK1.out; have s0 := K2.cell 0 rfl; have s1 := K2.cell 1 rfl; have s2 := K2.cell 2 rfl; have r0 := K2.fz 0 (by simp); have r1 := K2.fz 1 (by simp); have r2 := K2.fz 2 (by simp); clear K2)); (try (have K3 : Cs u1.heap.size [.int .i64 0, .int .i64 0, .slice none 0 0] u2 := Cs.loc.below g2 (Cs.alloc u1 _ _); have s0 := K3.cell 0 rfl; have s1 := K3.cell 1 rfl; have s2 := K3.cell 2 rfl; have r0 := K3.fz 0 (by simp); have r1 := K3.fz 1 (by simp); have r2 := K3.fz 2 (by simp); clear K3)); clear or2 g2 gw))
            all_goals go_wp2_with fail
            all_goals go_meet
            all_goals (
              refine ⟨_, t3, zs, ea, en, ec, rfl, ?lt, ?c0, ?c1, ?c2, ht3, ?cb⟩
              case lt => omega
              case c0 => first | (with_reducible refine set3_at0 _ _ _ _ _ ?_; exact ⟨_, s0⟩) | (go_simp; done)
              case c1 => first | (with_reducible refine set3_at1 _ _ _ _ _ ?_; exact ⟨_, s1⟩) | (go_simp; done)
              case c2 => first | (with_reducible refine set3_at2 _ _ _ _ _ ?_; exact ⟨_, s2⟩) | (go_simp; done)
              case cb => first | (with_reducible exact ⟨_, HC2.out.alloc _⟩) | (with_reducible exact ⟨_, HC2.out.set3 (by omega) (by omega) (by omega) hp _ _ _⟩))
          case rest =>
            obtain ⟨B, t3, zs, ea, en, ec, rfl, hBq, c0, c1, c2, ht3, c, cb⟩ := hcut
            have hl := cb.l
            have HCB := hide cb
            have lB := World.block_lt_of_cell? _ _ c0
            by_cases hz : elC ss zs = 0
            · have ez : (elC ss zs == 0) = true := by simpa using hz
              have p0 := cb.v.q0
              have pf := cb.v.qf 0
              have HVY := hide (cb.v.set0 hqr (.slice ea en ec))
              clear hz cb x0
              go_upto_region 13 with fail
              obtain ⟨Y, hY⟩ : ∃ x, x = wc.setCell ⟨w1.heap.size, 0, none⟩ (.slice ea en ec) := ⟨_, rfl⟩
              have y1 : Y.cell? ⟨B, 1, none⟩ = some (.int .i64 (elV ss zs)) := by
                rw [hY, World.cell?_setCell_other _ _ _ _ (fun e => by injection e with e1 _; omega)]; exact c1
              have hsY : Y.heap.size = wc.heap.size := by rw [hY]; simp
              obtain ⟨S1, S2, S3, hs1, hs2, hs3, d12, d13, d23, oR, oW, oD⟩ := HCB.out.o
              have nQ : ∀ k, InR (w.heap.size + 1 + 1 + 1) w1.heap.size k → ¬ k = w1.heap.size := fun k hk e => by have := hk.2; omega
              have oWY : RW S2 ta tn tc ts Y := by rw [hY]; exact RW.loc.setC oW (q := ⟨w1.heap.size, 0, none⟩) (fun e => nQ _ (hs2 _ e) rfl) _
              have oDY : OS S3 da dn ds Y := by rw [hY]; exact OS.loc.setC oD (q := ⟨w1.heap.size, 0, none⟩) (fun e => nQ _ (hs3 _ e) rfl) _
              have oRY : OR (InR c wc.heap.size) ea en (elL ss zs) Y := by rw [hY]; exact OR.loc.setC HCB.out.r (q := ⟨w1.heap.size, 0, none⟩) (fun e => by have := e.1; simp only at this; omega) _
              have sY : Src Y p a len cap t3 := by rw [hY]; exact HCB.out.s.setCell (q := ⟨w1.heap.size, 0, none⟩) hp1 _
              have oY : Outside p (p + 1) w Y := by rw [hY]; exact HCB.out.u.setNew (q := ⟨w1.heap.size, 0, none⟩) (by show w.heap.size ≤ w1.heap.size; omega) _
              rw [← hY] at HVY ⊢
              have y0 := HVY.out.q1
              have yf := HVY.out.qf 1
              have HW3 := hide oWY
              have HD3 := hide oDY
              have HR3 := hide oRY
              have H2 := hide hs2
              have H3 := hide hs3
              have H23 := hide d23
              have HSY := hide sY
              have HOY := hide oY
              have HsY : Hid (wc.heap.size ≤ Y.heap.size ∧ Y.heap.size ≤ wc.heap.size) := ⟨by omega, by omega⟩
              obtain ⟨i0, hi, hz0, hz1, hz2⟩ := info_parts infoInt3
              clear oR oW oD hs1 hs2 hs3 d12 d13 d23 nQ oWY oDY oRY sY oY hY hsY c0 c1 c2 p0 pf
              go_upto_region 14 with (first
                | (at_builtin; refine wpList_append_lies _ rfl _ _ 38 rfl 0 2 i0 (.int .i64 0) 1 8 Tryz.underlying38 hi hz0 hz1 hz2 rfl (by decide) _ tn (ts.map (Value.int .i64)) rfl (HW3.out.2.1.alloc _) ⟨Y.heap.size, 0, none⟩ 1 1 [.int .i64 (elV ss zs)] rfl rfl (one_newB (by go_simp)) (by simp [Value.oneCell']) (by omega) (by unfold maxLen; have := Htn.out; omega) (by have := Htn.out; omega) (Nat.zero_le _) (Y.heap.size + 1) (by simp) ?_; intro g cp w5 hown5 hgrow hat hlt5; obtain ⟨tb, u5⟩ := tb_app (S := fun k => InR (w.heap.size + 1 + 1 + 1) w1.heap.size k ∨ InR c wc.heap.size k) (fun k hk => Or.inr hk) (fun k hk => Or.inl (H2.out k hk)) (fun k hk => Or.inl (H3.out k hk)) (fun k h1 h2 => by have := h1.1; have := (H2.out k h2).2; omega) H23.out HR3.out HW3.out HD3.out hgrow hat hown5 (by have := Htn.out; omega); have HTB := hide tb; have HU5 := hide u5; have V5 := HVY.out.keep (bent_keep u5 (by have := HsY.out; omega) (fun e => by have := (H2.out _ e).2; omega)) (bent_keep u5 (by have := HsY.out; omega) (fun e => by have := (H2.out _ e).1; omega)); have gq1 := V5.q1; have gqf := V5.qf 1; have HV5 := hide V5; have HLT : Hid (Y.heap.size ≤ w5.heap.size) := (by have := u5.size; simp only [World.size_alloc] at this; show Y.heap.size ≤ w5.heap.size; omega); clear hown5 hgrow hat hlt5 tb u5 V5)
                | go_in)
              obtain ⟨s5, o5⟩ := bent_app (w := w) HU5.out (fun k hk => by have := (H2.out k hk).1; omega) (by have := HsY.out; omega) hp HSY.out HOY.out
              have HV := hide (HV5.out.set1 hqr (.slice (some ⟨g, 0, none⟩) (tn + 1) cp))
              have HS5 := hide (s5.setCell (q := ⟨w1.heap.size, 1, none⟩) hp1 (.slice (some ⟨g, 0, none⟩) (tn + 1) cp))
              have HO5 := hide (o5.setNew (q := ⟨w1.heap.size, 1, none⟩) (by show w.heap.size ≤ w1.heap.size; omega) (.slice (some ⟨g, 0, none⟩) (tn + 1) cp))
              have HTB5 := hide (TbS.loc.setC HTB.out (q := ⟨w1.heap.size, 1, none⟩) (fun e => by have := HsY.out; rcases e with (e | e) | e; have := e.2; simp only at this; omega; have := e.1; simp only at this; omega; have := e.1; simp only at this; omega) (.slice (some ⟨g, 0, none⟩) (tn + 1) cp))
              have HIN : Hid (∀ k, ((InR (w.heap.size + 1 + 1 + 1) w1.heap.size k ∨ InR c wc.heap.size k) ∨ InR Y.heap.size w5.heap.size k) → w.heap.size + 1 ≤ k ∧ k < (w5.setCell ⟨w1.heap.size, 1, none⟩ (.slice (some ⟨g, 0, none⟩) (tn + 1) cp)).heap.size) := (fun k hk => by have := HLT.out; have := HsY.out; rcases hk with (hk | hk) | hk; exact ⟨by have := hk.1; omega, by have := hk.2; simp; omega⟩; exact ⟨by have := hk.1; omega, by have := hk.2; simp; omega⟩; exact ⟨by have := hk.1; omega, by have := hk.2; simpa using this⟩)
              obtain ⟨X, hX⟩ : ∃ x, x = w5.setCell ⟨w1.heap.size, 1, none⟩ (.slice (some ⟨g, 0, none⟩) (tn + 1) cp) := ⟨_, rfl⟩
              rw [← hX] at HV HS5 HO5 HTB5 HIN ⊢
              clear s5 o5 gq1 gqf hX y0 y1 yf
              have q0 := HV.out.q0
              have q1 := HV.out.q1
              have q2 := HV.out.q2
              have d0 := HV.out.d0
              have d1 := HV.out.d1
              have d2 := HV.out.d2
              have f0 := HV.out.df 0
              have f1 := HV.out.df 1
              have f2 := HV.out.df 2
              go_wp2
              exact bodyPost_ret (v := .agg #[.slice ea en ec, .slice (some ⟨g, 0, none⟩) (tn + 1) cp, .slice da dn dc]) (by simp [results, Tryz.results25, go_sem, d0, d1, d2]) rfl (BentT.fin hp HTB5.out HIN.out HS5.out (by omega) HO5.out _ _ _)
            · have ez : (elC ss zs == 0) = false := by simpa using hz
              have HV := hide cb.v
              clear hz cb x0
              have q0 := HV.out.q0
              have q1 := HV.out.q1
              have q2 := HV.out.q2
              have d0 := HV.out.d0
              have d1 := HV.out.d1
              have d2 := HV.out.d2
              have f0 := HV.out.df 0
              have f1 := HV.out.df 1
              have f2 := HV.out.df 2
              go_wp2
              exact bodyPost_ret (v := .agg #[.slice ra n rc, .slice ta tn tc, .slice da dn dc]) (by simp [results, Tryz.results25, go_sem, d0, d1, d2]) rfl (BentT.fin hp HCB.out.o.tbS (fun k hk => ⟨by have := hk.1; omega, by have := hk.2; omega⟩) HCB.out.s (by omega) HCB.out.u _ _ _)
        · have e3 : (r == 3) = false := by simp [q3]
          clear q0 q1 q2 q3 r0 r1
          have HV := HV2
          have q0 := HV.out.q0
          have q1 := HV.out.q1
          have q2 := HV.out.q2
          have d0 := HV.out.d0
          have d1 := HV.out.d1
          have d2 := HV.out.d2
          have f0 := HV.out.df 0
          have f1 := HV.out.df 1
          have f2 := HV.out.df 2
          go_wp2
          exact bodyPost_ret (v := .agg #[.slice ra n rc, .slice ta tn tc, .slice da dn dc]) (by simp [results, Tryz.results25, go_sem, d0, d1, d2]) rfl (BentT.fin hp HT2.out.tbS (fun k hk => ⟨by have := hk.1; omega, by have := hk.2; omega⟩) HS2.out (by omega) HO2.out _ _ _)

end Go.Proofs.YtnibngigbcakkaaGreat
