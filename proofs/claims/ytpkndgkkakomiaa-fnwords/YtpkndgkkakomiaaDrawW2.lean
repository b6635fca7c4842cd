import Derived.Test.YtpkndgkkakomiaaDrawW1
import Derived.WalkKit
import Derived.ProofKit
import Derived.OpenShut
import Derived.ShutString
import Derived.ChangeOld
import Derived.Below
import Derived.WalkSpells
import Derived.Deep.QuietTactic
import Derived.BigQuiet
import Derived.Deep.RegionWith
import Derived.Deep.WholeRow
import Derived.Deep.DeepCutAuto
import Derived.Deep.RegionHeld2
import Derived.Deep.AppendLies
import Derived.Deep.RegionLaw
namespace Go.Proofs.Ytpkndgkkakomiaa
open Go.ChangeShapes Go.WideShapes Go.ChangeAt Go.RowKit

theorem unflw : ∀ (n : Nat) (zs : List Int), zs.length = n * 2 → ∃ ls : List (Int × Int), ls.length = n ∧ flw ls = zs
  | 0, zs, h => ⟨[], rfl, (List.length_eq_zero_iff.1 (by omega)).symm⟩
  | n + 1, zs, h => by
    match zs, h with
    | x :: y :: r, h =>
      obtain ⟨ls, h1, h2⟩ := unflw n r (by simp at h; omega)
      exact ⟨(x, y) :: ls, by simp [h1], by simp [flw, h2]⟩
    | [x], h => simp at h; omega
    | [], h => simp at h

theorem made_blk (U : World) (m : Nat) (t : TypeId) : Blk (U.alloc (.cells (madeCells #[.int .i64 0, .int .i64 0] m) t)) U.heap.size (List.replicate m 0) := by
  refine ⟨by simp, fun i hi => ?_, fun i => by simp⟩
  simp at hi
  rw [World.cell?_alloc_new]
  have hz2 : [Value.int .i64 0, Value.int .i64 0][i % 2]?.getD default = .int .i64 0 := by
    rcases (by omega : i % 2 = 0 ∨ i % 2 = 1) with h | h <;> rw [h] <;> rfl
  simp [madeCells, hi, gt, hz2]

/-- what l6Bent gives. -/
def BentW (p : Nat) (a : Option Addr) (len cap t : Nat) (w : World) (e : Ending) (w' : World) : Prop :=
  ∃ (ra : Option Addr) (n rc : Nat) (ls : List (Int × Int)) (t' : Nat), e = .returned (.agg #[.slice ra n rc]) ∧ OWd (InR (w.heap.size + 1) w'.heap.size) ra n ls w' ∧ n ≤ 33 ∧ Src w' p a len cap t' ∧ t' ≤ t + 300 ∧ Outside p (p + 1) w w'

theorem BentW.mk {p : Nat} {a : Option Addr} {len cap t : Nat} {w w' : World} {ra : Option Addr} {n rc : Nat} {ls : List (Int × Int)} {t' : Nat} (h1 : OWd (InR (w.heap.size + 1) w'.heap.size) ra n ls w') (h3 : n ≤ 33) (h5 : Src w' p a len cap t') (h6 : t' ≤ t + 300) (h7 : Outside p (p + 1) w w') :
    BentW p a len cap t w (.returned (.agg #[.slice ra n rc])) w' := ⟨ra, n, rc, ls, t', rfl, h1, h3, h5, h6, h7⟩

theorem BentW.ofBlk {p : Nat} {a : Option Addr} {len cap t : Nat} {w w' : World} {b n rc : Nat} {zs : List Int} {t' : Nat} (h1 : Blk w' b zs) (hb : w.heap.size + 1 ≤ b) (hz : zs.length = n * 2) (h3 : n ≤ 33) (h5 : Src w' p a len cap t') (h6 : t' ≤ t + 300) (h7 : Outside p (p + 1) w w') :
    BentW p a len cap t w (.returned (.agg #[.slice (some ⟨b, 0, none⟩) n rc])) w' := by
  obtain ⟨ls, hl, rfl⟩ := unflw n zs hz
  exact BentW.mk (OWd.ofBlk h1 ⟨hb, h1.1⟩ hl (by omega)) h3 h5 h6 h7

theorem lit3 {wr : World} {t : TypeId} {x y z : Int} : ∀ i, i < 3 → (wr.alloc (.cells #[.int .i64 x, .int .i64 y, .int .i64 z] t)).cell? ⟨wr.heap.size, i, none⟩ = some (.int .i64 (gt [x, y, z] i)) := by
  intro i hi
  rw [World.cell?_alloc_new]
  rcases (by omega : i = 0 ∨ i = 1 ∨ i = 2) with rfl | rfl | rfl <;> rfl

theorem lit2 {wr : World} {t : TypeId} {x y : Int} : ∀ i, i < 2 → (wr.alloc (.cells #[.int .i64 x, .int .i64 y] t)).cell? ⟨wr.heap.size, i, none⟩ = some (.int .i64 (gt [x, y] i)) := by
  intro i hi
  rw [World.cell?_alloc_new]
  rcases (by omega : i = 0 ∨ i = 1) with rfl | rfl <;> rfl

set_option maxRecDepth 100000 in
set_option maxHeartbeats 8000000 in
theorem l6Bent_calls (p : Nat) (a : Option Addr) (len cap t : Nat) (w : World) (ht : t ≤ 980000) (hs : Src w p a len cap t) :
    Calls Try.prog 20 #[.pointer (some ⟨p, 0, none⟩)] w (BentW p a len cap t w) := by
  obtain ⟨iw, hi, hz0, hz1, hz2⟩ := info_parts infoWord
  have hp : p < w.heap.size := hs.1
  have hpn : p + 1 ≤ w.heap.size := hp
  have M0 := (Mo.start p w).alloc1 hp (.slice none 0 0) 26
  have s0 := hs.below ((Below.refl _ _).alloc (Nat.le_refl _) (.cells #[.slice none 0 0] 26))
  go_enter Try.func20, Try.ntmps20
  go_wp2_with fail
  refine (l6Draw_calls p a len cap t 3 _ (by omega) (by omega) (by omega) s0).mono ?_
  rintro e w1 ⟨ra, n, rc, ls, t1, rfl, ow, hn4, hn15, s1, ht1, o1⟩
  simp only [World.size_alloc] at ow
  have z1 := o1.size
  simp only [World.size_alloc] at z1
  have hp1 : p < w1.heap.size := by omega
  have M1 := ((M0.next o1).fact (by omega) OWd.loc ow).alloc1 hp1 (.slice ra n rc) 26
  have s1' := s1.below ((Below.refl _ _).alloc (Nat.le_refl _) (.cells #[.slice ra n rc] 26))
  clear M0 s0 o1 ow s1
  go_wp2_with fail
  refine (l1Next_calls p a len cap t1 12 _ (by omega) (by omega) (by omega) s1').mono ?_
  rintro e w2 ⟨r, rfl, r0, r1, s2, o2⟩
  have M2 := M1.next o2
  have z2 := o2.size
  simp only [World.size_alloc] at z2
  clear M1 s1' o2
  have hV : w1.heap.size ≠ w.heap.size := by omega
  obtain ⟨b, rfl, hbS⟩ := owd_some (M2.get 0 rfl) (by omega)
  have hb0 : w.heap.size + 1 + 2 ≤ b := hbS.1
  have hb1 : b < w1.heap.size := hbS.2
  have hlen := (M2.get 0 rfl).1
  have blk : Blk w2 b (flw ls) := by
    rcases (M2.get 0 rfl).2.2 with h | ⟨b', e, _, h⟩
    · omega
    · injection e with e; injection e with e; subst e; exact h
  have x2 := M2.cell 0 rfl
  have xf := M2.fz 0 rfl
  have r2 := M2.cell 1 rfl
  have rf := M2.fz 1 rfl
  have HO2 := hide M2.out
  have HS2 := hide s2
  have HB2 := hide blk
  have hbV : b ≠ w1.heap.size := by omega
  have hbR : b ≠ w.heap.size := by omega
  have hpb : p < b := by omega
  have hw2 : p < w2.heap.size := by omega
  have hVw : w1.heap.size < w2.heap.size := by omega
  have hRw : w.heap.size < w2.heap.size := by omega
  have hbw : b < w2.heap.size := by omega
  have hpV : p + 1 ≤ w1.heap.size := hp1
  clear M2 s2 hbS blk
  by_cases q0 : r = 0
  · have e0 : (r == 0) = true := by simp [q0]
    clear q0 r0 r1
    have HB := hide (Src.drew (HS2.out.below ((Below.refl w2.heap.size w2).alloc (Nat.le_refl _) (.cells #[.int .i64 (-1), .int .i64 65535, .int .i64 65536] 2))))
    have HOB := hide (Outside.drew (Outside.alloc p (p + 1) w2 (.cells #[.int .i64 (-1), .int .i64 65535, .int .i64 65536] 2)))
    have hgs2 : w2.heap.size < ((w2.alloc (.cells #[.int .i64 (-1), .int .i64 65535, .int .i64 65536] 2)).drew).heap.size := by simp
    have HG := hide hgs2
    have htt : t1 + 1 ≤ 1000000 := by omega
    have h1n : (1 : Int) < (n : Int) := by omega
    have h0n : (0 : Int) < (n : Int) := by omega
    clear hgs2
    go_wp2_with fail
    go_region_with (go_at_call 22; refine (l1Pick_calls p a len cap (t1 + 1) w2.heap.size 3 3 [-1, 65535, 65536] _ (by decide) (by decide) htt HB.out hw2 HG.out rfl ?_).mono ?_; exact lit3; rintro e w3 ⟨y, rfl, s3, o3⟩; have o23 : Outside p (p + 1) w2 w3 := Outside.trans HOB.out o3; have x3 := Outside.cell (q := ⟨w1.heap.size, 0, none⟩) o23 hVw hpV x2; have HB3 := hide (Blk.outside HB2.out o23 hpb); have S3 := hide s3; have O3 := hide o23; have hc3 := HB3.out.2.1 2 (by rw [length_flw]; omega); have hf3 := HB3.out.2.2 2; clear s3 o3 o23)
    all_goals (
      have v3 := O3.out.cell (q := ⟨w.heap.size, 0, none⟩) hRw hpn r2
      have vf := O3.out.frozen (q := ⟨w.heap.size, 0, none⟩) hRw hpn rf
      have xu : (w3.setCell ⟨b, 2, none⟩ (.int .i64 y)).cell? ⟨w1.heap.size, 0, none⟩ = some (.slice (some ⟨b, 0, none⟩) n rc) := by
        rw [World.cell?_setCell_other _ _ _ _ (fun e => hbV (by injection e with e1))]; exact x3
      have ru : (w3.setCell ⟨b, 2, none⟩ (.int .i64 y)).cell? ⟨w.heap.size, 0, none⟩ = some (.slice none 0 0) := by
        rw [World.cell?_setCell_other _ _ _ _ (fun e => hbR (by injection e with e1))]; exact v3
      have rfu : (w3.setCell ⟨b, 2, none⟩ (.int .i64 y)).frozen? ⟨w.heap.size, 0, none⟩ = false := by
        rw [World.frozen?_setCell]; exact vf
      have bu := hide (Blk.store (x := y) HB3.out (show 2 < (flw ls).length by rw [length_flw]; omega))
      have su := hide (S3.out.setCell (q := ⟨b, 2, none⟩) hpb (.int .i64 y))
      have ou := hide ((HO2.out.trans O3.out).setNew (q := ⟨b, 2, none⟩) (by show w.heap.size ≤ b; omega) (.int .i64 y))
      have hl2 : ((flw ls).set 2 y).length = n * 2 := by rw [List.length_set, length_flw, hlen]
      clear x3 x2 xf r2 rf hc3 hf3 v3 vf
      go_wp2
      exact bodyPost_ret (v := .agg #[.slice (some ⟨b, 0, none⟩) n rc]) (by simp [results, Try.results20, go_sem, ru]) rfl (BentW.ofBlk (bu.out.setCell (by simpa using Ne.symm hbR) _) (by omega) hl2 (by omega) (su.out.setCell (by exact hp) _) (by omega) (ou.out.setNew (Nat.le_refl _) _)))
  · have e0 : (r == 0) = false := by simp [q0]
    by_cases q1 : r = 1
    · have e1 : (r == 1) = true := by simp [q1]
      clear q0 q1 r0 r1
      have HB := hide (Src.drew (HS2.out.below ((Below.refl w2.heap.size w2).alloc (Nat.le_refl _) (.cells #[.int .i64 6, .int .i64 7, .int .i64 (-1)] 2))))
      have HOB := hide (Outside.drew (Outside.alloc p (p + 1) w2 (.cells #[.int .i64 6, .int .i64 7, .int .i64 (-1)] 2)))
      have hgs2 : w2.heap.size < ((w2.alloc (.cells #[.int .i64 6, .int .i64 7, .int .i64 (-1)] 2)).drew).heap.size := by simp
      have HG := hide hgs2
      have htt : t1 + 1 ≤ 1000000 := by omega
      have h1n : (1 : Int) < (n : Int) := by omega
      have h0n : (0 : Int) < (n : Int) := by omega
      clear hgs2
      go_wp2_with fail
      go_region_with (go_at_call 22; refine (l1Pick_calls p a len cap (t1 + 1) w2.heap.size 3 3 [6, 7, -1] _ (by decide) (by decide) htt HB.out hw2 HG.out rfl ?_).mono ?_; exact lit3; rintro e w3 ⟨y, rfl, s3, o3⟩; have o23 : Outside p (p + 1) w2 w3 := Outside.trans HOB.out o3; have x3 := Outside.cell (q := ⟨w1.heap.size, 0, none⟩) o23 hVw hpV x2; have HB3 := hide (Blk.outside HB2.out o23 hpb); have S3 := hide s3; have O3 := hide o23; have hc3 := HB3.out.2.1 1 (by rw [length_flw]; omega); have hf3 := HB3.out.2.2 1; clear s3 o3 o23)
      all_goals (
        have v3 := O3.out.cell (q := ⟨w.heap.size, 0, none⟩) hRw hpn r2
        have vf := O3.out.frozen (q := ⟨w.heap.size, 0, none⟩) hRw hpn rf
        have xu : (w3.setCell ⟨b, 1, none⟩ (.int .i64 y)).cell? ⟨w1.heap.size, 0, none⟩ = some (.slice (some ⟨b, 0, none⟩) n rc) := by
          rw [World.cell?_setCell_other _ _ _ _ (fun e => hbV (by injection e with e1))]; exact x3
        have ru : (w3.setCell ⟨b, 1, none⟩ (.int .i64 y)).cell? ⟨w.heap.size, 0, none⟩ = some (.slice none 0 0) := by
          rw [World.cell?_setCell_other _ _ _ _ (fun e => hbR (by injection e with e1))]; exact v3
        have rfu : (w3.setCell ⟨b, 1, none⟩ (.int .i64 y)).frozen? ⟨w.heap.size, 0, none⟩ = false := by
          rw [World.frozen?_setCell]; exact vf
        have bu := hide (Blk.store (x := y) HB3.out (show 1 < (flw ls).length by rw [length_flw]; omega))
        have su := hide (S3.out.setCell (q := ⟨b, 1, none⟩) hpb (.int .i64 y))
        have ou := hide ((HO2.out.trans O3.out).setNew (q := ⟨b, 1, none⟩) (by show w.heap.size ≤ b; omega) (.int .i64 y))
        have hl2 : ((flw ls).set 1 y).length = n * 2 := by rw [List.length_set, length_flw, hlen]
        clear x3 x2 xf r2 rf hc3 hf3 v3 vf
        go_wp2
        exact bodyPost_ret (v := .agg #[.slice (some ⟨b, 0, none⟩) n rc]) (by simp [results, Try.results20, go_sem, ru]) rfl (BentW.ofBlk (bu.out.setCell (by simpa using Ne.symm hbR) _) (by omega) hl2 (by omega) (su.out.setCell (by exact hp) _) (by omega) (ou.out.setNew (Nat.le_refl _) _)))
    · have e1 : (r == 1) = false := by simp [q1]
      by_cases q2 : r = 2
      · have e2 : (r == 2) = true := by simp [q2]
        clear q0 q1 q2 r0 r1
        have sA := HS2.out.below ((Below.refl w2.heap.size w2).alloc (Nat.le_refl _) (.cells #[.int .i64 32, .int .i64 33] 2))
        go_wp2_with fail
        refine (l1PickM_calls p a len cap (t1 + 1) w2.heap.size 2 2 [32, 33] _ (by omega) (by omega) (by omega) sA hw2 (by simp) rfl lit2).mono ?_
        rintro e w3 ⟨j, hj, rfl, s3, o3⟩
        have o23 := (Outside.alloc p (p + 1) w2 (.cells #[.int .i64 32, .int .i64 33] 2)).trans o3
        obtain ⟨m, hm, hm33⟩ : ∃ m : Nat, gt [32, 33] j = (m : Int) ∧ m ≤ 33 := by
          rcases (by omega : j = 0 ∨ j = 1) with rfl | rfl
          · exact ⟨32, rfl, by omega⟩
          · exact ⟨33, rfl, by omega⟩
        rw [hm]
        have hmk : ∀ u : World, (Instr.makeSlice 24 (.int .i64 (m : Int)) (.int .i64 (m : Int))).run Try.prog u =
            .ok (.slice (some ⟨u.heap.size, 0, none⟩) m m) (u.alloc (.cells (madeCells #[.int .i64 0, .int .i64 0] (m * 2)) 36)) := fun u => by
          have h := run_make (P := Try.prog) u 24 36 iw (.agg #[.int .i64 0, .int .i64 0]) Try.underlying24 hi hz0 .i64 .i64 (m : Int) (m : Int) (by omega) (Int.le_refl _) (by rw [hz2]; omega) (by omega)
          simpa [hz1, Value.cells] using h
        have z3 := o23.size
        have y3 := o23.cell (q := ⟨w1.heap.size, 0, none⟩) hVw hpV x2
        have yf := o23.frozen (q := ⟨w1.heap.size, 0, none⟩) hVw hpV xf
        have v3 := o23.cell (q := ⟨w.heap.size, 0, none⟩) hRw hpn r2
        have vf := o23.frozen (q := ⟨w.heap.size, 0, none⟩) hRw hpn rf
        have HK : Hid (∀ x y : Value, Blk (((w3.setCell ⟨w1.heap.size, 0, none⟩ x).setCell ⟨w.heap.size, 0, none⟩ y).alloc (.cells (madeCells #[.int .i64 0, .int .i64 0] (m * 2)) 36)) w3.heap.size (List.replicate (m * 2) 0)) := fun x y => by
          have h := made_blk ((w3.setCell ⟨w1.heap.size, 0, none⟩ x).setCell ⟨w.heap.size, 0, none⟩ y) (m * 2) 36
          rw [show ((w3.setCell ⟨w1.heap.size, 0, none⟩ x).setCell ⟨w.heap.size, 0, none⟩ y).heap.size = w3.heap.size from by simp] at h
          exact h
        have HS3 := hide fun x y o => ((s3.setCell (q := ⟨w1.heap.size, 0, none⟩) hp1 x).setCell (q := ⟨w.heap.size, 0, none⟩) hp y).below ((Below.refl _ _).alloc (Nat.le_refl _) o)
        have HO3 := hide fun x y o => (((HO2.out.trans o23).setNew (q := ⟨w1.heap.size, 0, none⟩) (by show w.heap.size ≤ w1.heap.size; omega) x).setNew (q := ⟨w.heap.size, 0, none⟩) (Nat.le_refl _) y).trans (Outside.alloc p (p + 1) _ o)
        have k1 : w1.heap.size < w3.heap.size := by omega
        have k2 : w.heap.size < w3.heap.size := by omega
        clear x2 xf r2 rf sA o3 s3 o23
        go_wp2
        refine bodyPost_ret (v := .agg #[.slice (some ⟨w3.heap.size, 0, none⟩) m m]) (by simp [results, Try.results20, go_sem, v3, k2]) rfl ?_
        exact BentW.ofBlk (HK.out _ _) (by omega) (by simp) hm33 (HS3.out _ _ _) (by omega) (HO3.out _ _ _)
      · have e2 : (r == 2) = false := by simp [q2]
        clear q0 q1 q2 r0 r1
        go_wp2
        exact bodyPost_ret (v := .agg #[.slice (some ⟨b, 0, none⟩) n rc]) (by simp [results, Try.results20, go_sem, r2]) rfl (BentW.ofBlk (HB2.out.setCell (by simpa using Ne.symm hbR) _) (by omega) (by rw [length_flw, hlen]) (by omega) (HS2.out.setCell (by exact hp) _) (by omega) (HO2.out.setNew (Nat.le_refl _) _))

end Go.Proofs.Ytpkndgkkakomiaa
