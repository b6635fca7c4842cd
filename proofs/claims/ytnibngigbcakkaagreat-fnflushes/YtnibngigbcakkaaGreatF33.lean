import Derived.Test.YtnibngigbcakkaaGreatF32
import Derived.WalkKit
import Derived.ProofKit
import Derived.OpenShut
import Derived.ShutString
import Derived.ChangeOld
import Derived.Below
import Derived.WalkSpells
import Derived.Deep.QuietTactic
import Derived.BigQuiet
import Derived.Deep.RegionWith
import Derived.Deep.WholeRow
import Derived.Deep.DeepCutAuto
import Derived.Deep.RegionHeld2
import Derived.Deep.AppendLies
import Derived.Deep.RegionLaw
namespace Go.Proofs.YtnibngigbcakkaaGreat
open Go.ChangeShapes Go.WideShapes Go.ChangeAt Go.RowKit

theorem Outside.trans' {p B : Nat} {w u v : World} (h : Outside p (p + 1) w u) (hb : Below B u v) (hB : w.heap.size ≤ B) : Outside p (p + 1) w v :=
  ⟨hb.os.trans h.os, hb.tape.trans h.tape, hb.output.trans h.output, Nat.le_trans h.size hb.size, fun k hk hn => (hb.block k (by omega)).trans (h.block k hk hn)⟩

theorem ORb.keep {S : Nat → Prop} {N n : Nat} {la : Nat → Option Addr} {lc lb : Nat → Nat} {fc : Nat → Int} {fl : Nat → List Int} {w w' : World} (h : ORb S N n la lc lb fc fl w) (hk : ∀ k, S k → k < w.heap.size → w'.heap[k]? = w.heap[k]?) (hz : w.heap.size ≤ w'.heap.size) : ORb S N n la lc lb fc fl w' := by
  have eN := hk N h.hS h.lt
  exact ⟨h.hS, by have := h.lt; omega, fun j => (World.frozen?_of_block (a := ⟨N, j, none⟩) eN).trans (h.fz j), fun i hi => (World.cell?_of_block (a := ⟨N, i * 2, none⟩) eN).trans (h.c0 i hi), fun i hi => (World.cell?_of_block (a := ⟨N, i * 2 + 1, none⟩) eN).trans (h.c1 i hi), fun i hi => OS.loc w w' (fun k e hl => hk k (e.1 ▸ h.lS i hi e.2) hl) (h.os i hi), h.lS, h.ne, h.ap⟩

theorem lit3 {wr : World} {t : TypeId} {x y z : Int} : ∀ i, i < 3 → (wr.alloc (.cells #[.int .i64 x, .int .i64 y, .int .i64 z] t)).cell? ⟨wr.heap.size, i, none⟩ = some (.int .i64 (gt [x, y, z] i)) := by
  intro i hi
  rw [World.cell?_alloc_new]
  rcases (by omega : i = 0 ∨ i = 1 ∨ i = 2) with rfl | rfl | rfl <;> rfl

theorem lit2 {wr : World} {t : TypeId} {x y : Int} : ∀ i, i < 2 → (wr.alloc (.cells #[.int .i64 x, .int .i64 y] t)).cell? ⟨wr.heap.size, i, none⟩ = some (.int .i64 (gt [x, y] i)) := by
  intro i hi
  rw [World.cell?_alloc_new]
  rcases (by omega : i = 0 ∨ i = 1) with rfl | rfl <;> rfl

theorem lit4 {wr : World} {t : TypeId} {x y z u : Int} : ∀ i, i < 4 → (wr.alloc (.cells #[.int .i64 x, .int .i64 y, .int .i64 z, .int .i64 u] t)).cell? ⟨wr.heap.size, i, none⟩ = some (.int .i64 (gt [x, y, z, u] i)) := by
  intro i hi
  rw [World.cell?_alloc_new]
  rcases (by omega : i = 0 ∨ i = 1 ∨ i = 2 ∨ i = 3) with rfl | rfl | rfl | rfl <;> rfl

theorem infoSlot3 : (Tryz.prog.info? 114).map (fun i => (i.zero, i.size, i.bytes)) = some (some (.agg #[.int .i64 0, .slice none 0 0]), 2, 32) := by kernel_rfl

theorem slot_new {W : World} {N : Nat} {x y : Value} (h0 : W.cell? ⟨N, 0, none⟩ = some x) (h1 : W.cell? ⟨N, 1, none⟩ = some y) : ∀ j u, [x, y][j]? = some u → W.cell? ((Addr.mk N 0 none).add j) = some u := by
  intro j u hj
  match j, hj with
  | 0, hj => simp at hj; subst hj; simpa [Addr.add] using h0
  | 1, hj => simp at hj; subst hj; simpa [Addr.add] using h1

/-- what l2Bent gives. -/
def BentR (p : Nat) (a : Option Addr) (len cap t : Nat) (w : World) (e : Ending) (w' : World) : Prop :=
  ∃ (ra : Option Addr) (n rc : Nat) (ss : List (Int × List Int)) (t' : Nat), e = .returned (.agg #[.slice ra n rc]) ∧ RgS (InR (w.heap.size + 1) w'.heap.size) ra n ss w' ∧ n ≤ 11 ∧ Src w' p a len cap t' ∧ t' ≤ t + 150 ∧ Outside p (p + 1) w w'

theorem BentR.mk {p : Nat} {a : Option Addr} {len cap t : Nat} {w w' : World} {ra : Option Addr} {n rc : Nat} {ss : List (Int × List Int)} {t' : Nat} (h1 : RgS (InR (w.heap.size + 1) w'.heap.size) ra n ss w') (h3 : n ≤ 11) (h5 : Src w' p a len cap t') (h6 : t' ≤ t + 150) (h7 : Outside p (p + 1) w w') :
    BentR p a len cap t w (.returned (.agg #[.slice ra n rc])) w' := ⟨ra, n, rc, ss, t', rfl, h1, h3, h5, h6, h7⟩

theorem RgS.setR {w u : World} {S : Nat → Prop} {ra : Option Addr} {n : Nat} {ss : List (Int × List Int)} (h : RgS S ra n ss u) (hS : ∀ k, S k → w.heap.size + 1 ≤ k ∧ k < u.heap.size) (y : Value) : RgS (InR (w.heap.size + 1) (u.setCell ⟨w.heap.size, 0, none⟩ y).heap.size) ra n ss (u.setCell ⟨w.heap.size, 0, none⟩ y) :=
  (RgS.loc.setC h (q := ⟨w.heap.size, 0, none⟩) (fun e => by have h1 : w.heap.size + 1 ≤ w.heap.size := (hS _ e).1; omega) y).mono (fun k hk => ⟨(hS k hk).1, by simpa using (hS k hk).2⟩)

set_option maxRecDepth 100000 in
set_option maxHeartbeats 8000000 in
theorem l2Bent_calls (p : Nat) (a : Option Addr) (len cap t : Nat) (w : World) (ht : t ≤ 980000) (hs : Src w p a len cap t) :
    Calls Tryz.prog 46 #[.pointer (some ⟨p, 0, none⟩)] w (BentR p a len cap t w) := by
  obtain ⟨i0, hi, hz0, hz1, hz2⟩ := info_parts infoSlot3
  have hp : p < w.heap.size := hs.1
  have hpn : p + 1 ≤ w.heap.size := hp
  have M0 := (Mo.start p w).alloc1 hp (.slice none 0 0) 37
  have s0 := hs.below ((Below.refl _ _).alloc (Nat.le_refl _) (.cells #[.slice none 0 0] 37))
  go_enter Tryz.func46, Tryz.ntmps46
  go_wp2_with fail
  refine (l2Draw_calls p a len cap t _ (by omega) s0).mono ?_
  rintro e w1 ⟨S, ra, n, rc, ss, t1, rfl, oo, hrow, hvT, hSS, hgood, s1, ht1, o1⟩
  simp only [World.size_alloc] at hrow hSS
  have z1 := o1.size
  simp only [World.size_alloc] at z1
  have hp1 : p < w1.heap.size := by omega
  have al := (Below.refl w1.heap.size w1).alloc (Nat.le_refl _) (.cells #[.slice ra n rc] 37)
  have M1 := (M0.next o1).alloc1 hp1 (.slice ra n rc) 37
  have s1' := s1.below al
  have oo1 := OR.loc.below al oo
  obtain ⟨ys, hrow⟩ := hrow
  have row1 := own_keepS hrow (fun g hg => al.block g (hrow.lt g hg).2)
  clear M0 s0 o1 s1 oo hrow
  go_wp2_with fail
  refine (l1Next_calls p a len cap t1 12 _ (by omega) (by omega) (by omega) s1').mono ?_
  rintro e w2 ⟨r, rfl, r0, r1, s2, o2⟩
  have M2 := M1.next o2
  have z2 := o2.size
  simp only [World.size_alloc] at z2
  have far2 : ∀ k, p < k → k < w1.heap.size + 1 → w2.heap[k]? = (w1.alloc (.cells #[.slice ra n rc] 37)).heap[k]? := fun k h1 h2 => o2.block k (by simpa using h2) (.inr h1)
  have oo2 := OR.loc _ w2 (fun k hk _ => far2 k (by have := (hSS k hk).1; omega) (by have := (hSS k hk).2; omega)) oo1
  have row2 := own_keepS row1 (fun g hg => far2 g (by have := (row1.lt g hg).1; omega) (by have := (row1.lt g hg).2; simpa using this))
  clear M1 s1' o2 oo1 row1 far2 al
  have hn10 : n ≤ 10 := by have h1 := hgood.few; have h2 := oo2.1; omega
  have hsn := oo2.1
  have x2 := M2.cell 0 rfl
  have xf := M2.fz 0 rfl
  have r2 := M2.cell 1 rfl
  have rf := M2.fz 1 rfl
  have HO2 := hide M2.out
  have HS2 := hide s2
  have HR2 := hide oo2
  have HW2 := hide row2
  have hw2 : p < w2.heap.size := by omega
  have hVw : w1.heap.size < w2.heap.size := by omega
  have hRw : w.heap.size < w2.heap.size := by omega
  have hpV : p + 1 ≤ w1.heap.size := hp1
  have hV : w1.heap.size ≠ w.heap.size := by omega
  have HSS : Hid (∀ k, S k → w.heap.size + 1 ≤ k ∧ k < w1.heap.size) := fun k hk => ⟨by have := (hSS k hk).1; omega, (hSS k hk).2⟩
  have HVT := hide hvT
  clear M2 s2 oo2 row2 hSS hgood hvT
  by_cases q0 : r = 0
  · have e0 : (r == 0) = true := by simp [q0]
    clear q0 r0 r1
    have HBa := hide (Src.drew (HS2.out.below ((Below.refl w2.heap.size w2).alloc (Nat.le_refl _) (.cells #[.int .i64 0, .int .i64 1, .int .i64 99, .int .i64 100] 2))))
    have HOB := hide (Outside.drew (Outside.alloc p (p + 1) w2 (.cells #[.int .i64 0, .int .i64 1, .int .i64 99, .int .i64 100] 2)))
    have hgs2 : w2.heap.size < ((w2.alloc (.cells #[.int .i64 0, .int .i64 1, .int .i64 99, .int .i64 100] 2)).drew).heap.size := by simp
    have HG := hide hgs2
    have htt : t1 + 1 ≤ 1000000 := by omega
    have htt2 : t1 + 1 + 1 ≤ 990000 := by omega
    clear hgs2
    go_wp2_with fail
    go_region_law (first
      | (refine step_append_lies _ rfl _ _ 35 rfl (w.heap.size + 1 + 1 + 1) 114 i0 (.agg #[.int .i64 0, .slice none 0 0]) 2 32 Tryz.underlying35 hi hz0 hz1 hz2 rfl (by decide) (.slice ra n rc) n ys rfl (HW4.out.alloc _) ⟨w4.heap.size, 0, none⟩ 1 1 [.int .i64 y, .slice la ll lc] rfl rfl (slot_new (by go_simp) (by go_simp)) (by simp [Value.oneCell']) (by omega) (by unfold maxLen; omega) (by omega) (by simp; omega) (w4.heap.size + 1) (by simp) ?_; intro g cp w5 hown5 hgrow hat hlt5; have gq : w5.cell? ⟨w1.heap.size, 0, none⟩ = some (.slice ra n rc) ∧ w5.frozen? ⟨w1.heap.size, 0, none⟩ = false := (far_qS HVT.out (Below.refl _ _) hgrow x4 xf4 hVS hV4); obtain ⟨gv1, gv2⟩ := gq; have gr : w5.cell? ⟨w.heap.size, 0, none⟩ = some (.slice none 0 0) ∧ w5.frozen? ⟨w.heap.size, 0, none⟩ = false := (far_qS HVT.out (Below.refl _ _) hgrow v4 vf4 hRS hR4); obtain ⟨gr1, gr2⟩ := gr; have HST := hide (OR.grow HR4.out HW4.out hgrow hown5 HF4.out hll4 (fun k hk e => by have h1 := (HSS.out k (HVT.out k e)).2; have h2 : w3.heap.size ≤ k := hk.1; omega)); have HGR := hide hgrow; have HAT := hide hat; have HO5 := hide hown5; clear hown5 hgrow hat hlt5)
      | (go_simp; go_at_call 21; refine (l1Pick_calls p a len cap (t1 + 1) w2.heap.size 4 4 [0, 1, 99, 100] _ (by decide) (by decide) htt HBa.out hw2 HG.out rfl ?_).mono ?_; exact lit4; rintro e w3 ⟨y, rfl, s3, o3⟩; have o23 : Outside p (p + 1) w2 w3 := Outside.trans HOB.out o3; have x3 := Outside.cell (q := ⟨w1.heap.size, 0, none⟩) o23 hVw hpV x2; have S3 := hide s3; have O3 := hide o23; have hz3 : w2.heap.size ≤ w3.heap.size := o23.size; clear s3 o3 o23)
      | (go_simp; go_at_call 48; refine (l1Bent_calls p a len cap (t1 + 1 + 1) _ htt2 S3.out).mono ?_; rintro e w4 ⟨la, ll, lc, zs, t4, rfl, fr4, s4, ht4, o4⟩; have o24 : Outside p (p + 1) w2 w4 := Outside.trans O3.out o4; have x4 := Outside.cell (q := ⟨w1.heap.size, 0, none⟩) o24 hVw hpV x2; have xf4 := Outside.frozen (q := ⟨w1.heap.size, 0, none⟩) o24 hVw hpV xf; have v4 := Outside.cell (q := ⟨w.heap.size, 0, none⟩) o24 hRw hpn r2; have vf4 := Outside.frozen (q := ⟨w.heap.size, 0, none⟩) o24 hRw hpn rf; have HR4 := hide (OR.loc _ w4 (fun k hk _ => o24.block k (by have := (HSS.out k hk).2; omega) (.inr (by have := (HSS.out k hk).1; omega))) HR2.out); have HW4 := hide (own_keepS HW2.out (fun g hg => o24.block g (HW2.out.lt g hg).2 (.inr (by have := (HW2.out.lt g hg).1; omega)))); have hll4 : ll ≤ 1048576 := (by have := fr4.2.1; omega); have HF4 := hide fr4.frS; have S4 := hide s4; have O4 := hide o24; have hz4 : w3.heap.size ≤ w4.heap.size := o4.size; have hVS : ¬ S w1.heap.size := (fun e => by have := (HSS.out _ e).2; omega); have hRS : ¬ S w.heap.size := (fun e => by have := (HSS.out _ e).1; omega); have hV4 : w1.heap.size < w4.heap.size := (by omega); have hR4 : w.heap.size < w4.heap.size := (by omega); clear s4 o4 o24 fr4))
    all_goals (
      have hgV : g ≠ w1.heap.size := fun e => by
        rcases HAT.out with h | h
        · exact hVS (e ▸ HVT.out g h)
        · (try simp at h); omega
      have hgR : g ≠ w.heap.size := fun e => by
        rcases HAT.out with h | h
        · exact hRS (e ▸ HVT.out g h)
        · (try simp at h); omega
      have zg := HGR.out.size
      simp only [World.size_alloc] at zg
      have B5 : Hid (Below (w.heap.size + 1) w4 w5) := (((Below.refl _ _).alloc (by omega) _).grown HGR.out (by simp; omega) (fun k hk => by have := (HW4.out.lt k hk).1; omega))
      have hgg := HO5.out.lt g rfl
      have S5 := hide (S4.out.belowB B5.out (by omega))
      have O5 : Hid (Outside p (p + 1) w w5) := (HO2.out.trans O4.out).trans' B5.out (by omega)
      have xu : (w5.setCell ⟨w1.heap.size, 0, none⟩ (.slice (some ⟨g, 0, none⟩) (n + 1) cp)).cell? ⟨w.heap.size, 0, none⟩ = some (.slice none 0 0) := by
        rw [World.cell?_setCell_other _ _ _ _ (fun e => hV (by injection e with e1))]; exact gr1
      clear x2 xf r2 rf x4 xf4 v4 vf4 HW2 HR2 HR4 HW4 HF4 HGR HO5 HAT
      go_wp2
      refine bodyPost_ret (v := .agg #[.slice (some ⟨g, 0, none⟩) (n + 1) cp]) (by simp [results, Tryz.results46, go_sem, gr1]) rfl (BentR.mk (RgS.setR (S := fun k => S k ∨ InR w3.heap.size w4.heap.size k ∨ k = g) (RgS.loc.setC HST.out (q := ⟨w1.heap.size, 0, none⟩) ?_ _) ?_ _) (by omega) ((S5.out.setCell (q := ⟨w1.heap.size, 0, none⟩) hp1 _).setCell (q := ⟨w.heap.size, 0, none⟩) hp _) (by omega) ((O5.out.setNew (q := ⟨w1.heap.size, 0, none⟩) (by show w.heap.size ≤ w1.heap.size; omega) _).setNew (q := ⟨w.heap.size, 0, none⟩) (Nat.le_refl _) _))
      · rintro (h | h | h)
        · exact hVS h
        · have h1 : w3.heap.size ≤ w1.heap.size := h.1; omega
        · exact hgV h.symm
      · rintro k (h | h | h)
        · exact ⟨(HSS.out k h).1, by have := (HSS.out k h).2; simp; omega⟩
        · exact ⟨by have := h.1; omega, by have := h.2; simp; omega⟩
        · exact ⟨by have := hgg.1; omega, by rw [h]; simpa using hgg.2⟩)
  · have e0 : (r == 0) = false := by simp [q0]
    by_cases q1 : r = 1
    · have e1 : (r == 1) = true := by simp [q1]
      clear q0 q1 r0 r1
      have sA := HS2.out.below ((Below.refl w2.heap.size w2).alloc (Nat.le_refl _) (.cells #[.int .i64 10, .int .i64 11] 2))
      go_wp2_with fail
      refine (l1PickM_calls p a len cap (t1 + 1) w2.heap.size 2 2 [10, 11] _ (by omega) (by omega) (by omega) sA hw2 (by simp) rfl lit2).mono ?_
      rintro e w3 ⟨j, hj, rfl, s3, o3⟩
      have o23 := (Outside.alloc p (p + 1) w2 (.cells #[.int .i64 10, .int .i64 11] 2)).trans o3
      obtain ⟨m, hm, hm33⟩ : ∃ m : Nat, gt [10, 11] j = (m : Int) ∧ m ≤ 11 := by
        rcases (by omega : j = 0 ∨ j = 1) with rfl | rfl
        · exact ⟨10, rfl, by omega⟩
        · exact ⟨11, rfl, by omega⟩
      rw [hm]
      have hmk : ∀ u : World, (Instr.makeSlice 35 (.int .i64 (m : Int)) (.int .i64 (m : Int))).run Tryz.prog u =
          .ok (.slice (some ⟨u.heap.size, 0, none⟩) m m) (u.alloc (.cells (madeCells #[.int .i64 0, .slice none 0 0] (m * 2)) 114)) := fun u => by
        have h := run_make (P := Tryz.prog) u 35 114 i0 (.agg #[.int .i64 0, .slice none 0 0]) Tryz.underlying35 hi hz0 .i64 .i64 (m : Int) (m : Int) (by omega) (Int.le_refl _) (by rw [hz2]; omega) (by omega)
        simpa [hz1, Value.cells] using h
      have z3 := o23.size
      have y3 := o23.cell (q := ⟨w1.heap.size, 0, none⟩) hVw hpV x2
      have yf := o23.frozen (q := ⟨w1.heap.size, 0, none⟩) hVw hpV xf
      have v3 := o23.cell (q := ⟨w.heap.size, 0, none⟩) hRw hpn r2
      have vf := o23.frozen (q := ⟨w.heap.size, 0, none⟩) hRw hpn rf
      have HK : Hid (∀ x y : Value, RgS (InR (w.heap.size + 1) (((w3.setCell ⟨w1.heap.size, 0, none⟩ x).setCell ⟨w.heap.size, 0, none⟩ y).alloc (.cells (madeCells #[.int .i64 0, .slice none 0 0] (m * 2)) 114)).heap.size) (some ⟨w3.heap.size, 0, none⟩) m (List.replicate m (0, [])) (((w3.setCell ⟨w1.heap.size, 0, none⟩ x).setCell ⟨w.heap.size, 0, none⟩ y).alloc (.cells (madeCells #[.int .i64 0, .slice none 0 0] (m * 2)) 114))) := fun x y => by
        have h := made_rg ((w3.setCell ⟨w1.heap.size, 0, none⟩ x).setCell ⟨w.heap.size, 0, none⟩ y) m 114 (InR (w.heap.size + 1) (((w3.setCell ⟨w1.heap.size, 0, none⟩ x).setCell ⟨w.heap.size, 0, none⟩ y).alloc (.cells (madeCells #[.int .i64 0, .slice none 0 0] (m * 2)) 114)).heap.size) ⟨by simp; omega, by simp⟩
        rw [show ((w3.setCell ⟨w1.heap.size, 0, none⟩ x).setCell ⟨w.heap.size, 0, none⟩ y).heap.size = w3.heap.size from by simp] at h
        exact h
      have HS3 := hide fun x y o => ((s3.setCell (q := ⟨w1.heap.size, 0, none⟩) hp1 x).setCell (q := ⟨w.heap.size, 0, none⟩) hp y).below ((Below.refl _ _).alloc (Nat.le_refl _) o)
      have HO3 := hide fun x y o => (((HO2.out.trans o23).setNew (q := ⟨w1.heap.size, 0, none⟩) (by show w.heap.size ≤ w1.heap.size; omega) x).setNew (q := ⟨w.heap.size, 0, none⟩) (Nat.le_refl _) y).trans (Outside.alloc p (p + 1) _ o)
      have k1 : w1.heap.size < w3.heap.size := by omega
      have k2 : w.heap.size < w3.heap.size := by omega
      clear x2 xf r2 rf sA o3 s3 o23
      go_wp2
      refine bodyPost_ret (v := .agg #[.slice (some ⟨w3.heap.size, 0, none⟩) m m]) (by simp [results, Tryz.results46, go_sem, v3, k2]) rfl ?_
      exact BentR.mk (HK.out _ _) hm33 (HS3.out _ _ _) (by omega) (HO3.out _ _ _)
    · have e1 : (r == 1) = false := by simp [q1]
      by_cases q2 : r = 2
      · have e2 : (r == 2) = true := by simp [q2]
        clear q0 q1 q2 r0 r1
        by_cases hn0 : 0 < n
        · have hn0' : (0 : Int) < (n : Int) := by omega
          obtain ⟨b, fa, fc, fb, rfl, hb⟩ := HR2.out.body hn0
          have HB2 := hide hb
          have hbS := hb.hS
          have hbV : b ≠ w1.heap.size := fun e => by have := (HSS.out b hbS).2; omega
          have hbR : b ≠ w.heap.size := fun e => by have := (HSS.out b hbS).1; omega
          have hb1 : w.heap.size + 1 ≤ b := (HSS.out b hbS).1
          have hpb : p < b := by omega
          clear hb
          have HBa := hide (Src.drew (HS2.out.below ((Below.refl w2.heap.size w2).alloc (Nat.le_refl _) (.cells #[.int .i64 0, .int .i64 99, .int .i64 (-1)] 2))))
          have HOB := hide (Outside.drew (Outside.alloc p (p + 1) w2 (.cells #[.int .i64 0, .int .i64 99, .int .i64 (-1)] 2)))
          have hgs2 : w2.heap.size < ((w2.alloc (.cells #[.int .i64 0, .int .i64 99, .int .i64 (-1)] 2)).drew).heap.size := by simp
          have HG := hide hgs2
          have htt : t1 + 1 ≤ 1000000 := by omega
          clear hgs2
          go_wp2_with fail
          go_region_with (go_at_call 21; refine (l1Pick_calls p a len cap (t1 + 1) w2.heap.size 3 3 [0, 99, -1] _ (by decide) (by decide) htt HBa.out hw2 HG.out rfl ?_).mono ?_; exact lit3; rintro e w3 ⟨y, rfl, s3, o3⟩; have o23 : Outside p (p + 1) w2 w3 := Outside.trans HOB.out o3; have x3 := Outside.cell (q := ⟨w1.heap.size, 0, none⟩) o23 hVw hpV x2; have HB3 : Hid (ORb S b n fa fc fb (gc ss) (gl ss) w3) := (HB2.out.keep (fun k hk hl => o23.block k hl (.inr (by have := (HSS.out k hk).1; omega))) o23.size); have S3 := hide s3; have O3 := hide o23; have hc3 : w3.cell? ⟨b, 0, none⟩ = some (.int .i64 (gc ss 0)) := (by have h := HB3.out.c0 0 hn0; simpa using h); have hf3 := HB3.out.fz 0; clear s3 o3 o23)
          all_goals (
            have v3 := O3.out.cell (q := ⟨w.heap.size, 0, none⟩) hRw hpn r2
            have vf := O3.out.frozen (q := ⟨w.heap.size, 0, none⟩) hRw hpn rf
            have xu : (w3.setCell ⟨b, 0, none⟩ (.int .i64 y)).cell? ⟨w1.heap.size, 0, none⟩ = some (.slice (some ⟨b, 0, none⟩) n rc) := by
              rw [World.cell?_setCell_other _ _ _ _ (fun e => hbV (by injection e with e1))]; exact x3
            have ru : (w3.setCell ⟨b, 0, none⟩ (.int .i64 y)).cell? ⟨w.heap.size, 0, none⟩ = some (.slice none 0 0) := by
              rw [World.cell?_setCell_other _ _ _ _ (fun e => hbR (by injection e with e1))]; exact v3
            have rfu : (w3.setCell ⟨b, 0, none⟩ (.int .i64 y)).frozen? ⟨w.heap.size, 0, none⟩ = false := by
              rw [World.frozen?_setCell]; exact vf
            have bu : Hid (RgS S (some ⟨b, 0, none⟩) n (ss.set 0 (y, gl ss 0)) (w3.setCell ⟨b, 0, none⟩ (.int .i64 y))) := by
              have h := HB3.out.setCount hn0 y
              have h2 := h.congr (fc' := gc (ss.set 0 (y, gl ss 0))) (fl' := gl (ss.set 0 (y, gl ss 0))) (fun i hi => by unfold upd gc; by_cases e : i = 0; (subst e; simp [show 0 < ss.length by omega]); (rw [if_neg e]; simp [Ne.symm e])) (fun i hi => by unfold gl; by_cases e : i = 0; (subst e; simp [show 0 < ss.length by omega]); simp [Ne.symm e])
              have hm := HR2.out.2.1
              have hls : lenSum (ss.set 0 (y, gl ss 0)) = lenSum ss := lenSum_congr _ _ (by simp) (fun j hj => by unfold gl; by_cases e : j = 0; (subst e; simp [show 0 < ss.length by omega]); simp [Ne.symm e])
              exact ((by simpa using h2 : ORb S b n fa fc fb (gc (ss.set 0 (y, gl ss 0))) (gl (ss.set 0 (y, gl ss 0))) (w3.setCell ⟨b, 0, none⟩ (.int .i64 y))).or (by simp [hsn]) (by rw [hls]; exact hm)).rgS
            have su := hide (S3.out.setCell (q := ⟨b, 0, none⟩) hpb (.int .i64 y))
            have ou := hide ((HO2.out.trans O3.out).setNew (q := ⟨b, 0, none⟩) (by show w.heap.size ≤ b; omega) (.int .i64 y))
            have z3 := O3.out.size
            clear x3 x2 xf r2 rf hc3 hf3 v3 vf
            go_wp2
            exact bodyPost_ret (v := .agg #[.slice (some ⟨b, 0, none⟩) n rc]) (by simp [results, Tryz.results46, go_sem, ru]) rfl (BentR.mk (RgS.setR bu.out (fun k hk => ⟨(HSS.out k hk).1, by have := (HSS.out k hk).2; simp; omega⟩) _) (by omega) (su.out.setCell (by exact hp) _) (by omega) (ou.out.setNew (Nat.le_refl _) _)))
        · have hn0' : ¬ (0 : Int) < (n : Int) := by omega
          go_wp2
          exact bodyPost_ret (v := .agg #[.slice ra n rc]) (by simp [results, Tryz.results46, go_sem, r2]) rfl (BentR.mk (RgS.setR HR2.out.rgS (fun k hk => ⟨(HSS.out k hk).1, by have := (HSS.out k hk).2; omega⟩) _) (by omega) (HS2.out.setCell (by exact hp) _) (by omega) (HO2.out.setNew (Nat.le_refl _) _))
      · have e2 : (r == 2) = false := by simp [q2]
        clear q0 q1 q2 r0 r1
        go_wp2
        exact bodyPost_ret (v := .agg #[.slice ra n rc]) (by simp [results, Tryz.results46, go_sem, r2]) rfl (BentR.mk (RgS.setR HR2.out.rgS (fun k hk => ⟨(HSS.out k hk).1, by have := (HSS.out k hk).2; omega⟩) _) (by omega) (HS2.out.setCell (by exact hp) _) (by omega) (HO2.out.setNew (Nat.le_refl _) _))

end Go.Proofs.YtnibngigbcakkaaGreat
