import Derived.Test.YtdcfdmcooonfkaaPaP
import Derived.Test.YtdcfdmcooonfkaaQs
import Derived.Test.YtdcfdmcooonfkaaSep
import Derived.WalkKit
import Derived.ProofKit
import Derived.OpenShut
import Derived.ShutString
import Derived.ChangeOld
import Derived.Below
import Derived.WalkSpells
import Derived.Deep.QuietTactic
import Derived.BigQuiet
import Derived.Deep.RegionWith
import Derived.Deep.WholeRow
import Derived.Deep.DeepCutAuto
import Derived.Deep.RegionHeld2
import Derived.Deep.AppendLies
import Derived.Deep.RegionLaw
namespace Go.Proofs.Ytdcfdmcooonfkaa
open Go.ChangeShapes Go.WideShapes Go.ChangeAt Go.RowKit

theorem ARow.mk4 {w : World} {g : Nat} {f : Nat → Int} (h0 : w.cell? ⟨g, 0, none⟩ = some (.int .i64 (f 0))) (h1 : w.cell? ⟨g, 1, none⟩ = some (.int .i64 (f 1))) (h2 : w.cell? ⟨g, 2, none⟩ = some (.int .i64 (f 2))) (h3 : w.cell? ⟨g, 3, none⟩ = some (.int .i64 (f 3))) (hf : ∀ j, w.frozen? ⟨g, j, none⟩ = false) : ARow w g f :=
  ⟨fun j hj => by rcases (by omega : j = 0 ∨ j = 1 ∨ j = 2 ∨ j = 3) with rfl | rfl | rfl | rfl <;> assumption, hf⟩

theorem mix4 (f : Int → Int → Int) {xs ys : List Int} (h : xs.length = 4) : mix f xs ys = [f (gt xs 0) (gt ys 0), f (gt xs 1) (gt ys 1), f (gt xs 2) (gt ys 2), f (gt xs 3) (gt ys 3)] := by
  rw [list4 (zs := mix f xs ys) (by rw [length_mix]; exact h), gt_mix f xs ys 0 (by omega), gt_mix f xs ys 1 (by omega), gt_mix f xs ys 2 (by omega), gt_mix f xs ys 3 (by omega)]

set_option maxRecDepth 100000 in
theorem taintedLevel_calls (x y : Int) (w : World) : Calls Try.prog 73 #[.int .i64 x, .int .i64 y] w fun e w' => e = .returned (.int .i64 (td x y)) ∧ w' = w := by
  by_cases h : x = 0
  · have HV : Hid (td x y = 0) := if_pos h
    have e1 : (x == 0) = true := by simp [h]
    clear h
    go_enter Try.func73, Try.ntmps73
    go_wp2
    go_ret
    exact ⟨ret_int HV.out.symm, rfl⟩
  · have HV : Hid (td x y = max x y) := if_neg h
    have e1 : (x == 0) = false := by simp [h]
    clear h
    by_cases h2 : x < y
    · have HV2 : Hid (td x y = y) := by show _ = _; rw [HV.out]; omega
      go_enter Try.func73, Try.ntmps73
      go_wp2
      go_ret
      exact ⟨ret_int HV2.out.symm, rfl⟩
    · have HV2 : Hid (td x y = x) := by show _ = _; rw [HV.out]; omega
      go_enter Try.func73, Try.ntmps73
      go_wp2
      go_ret
      exact ⟨ret_int HV2.out.symm, rfl⟩

set_option maxRecDepth 100000 in
theorem enteredLevel_calls (x g : Int) (w : World) : Calls Try.prog 46 #[.int .i64 x, .int .i64 g] w fun e w' => e = .returned (.int .i64 (ent x g)) ∧ w' = w := by
  by_cases h : g = 0
  · have HV : Hid (ent x g = 0) := if_pos h
    have e1 : (g == 0) = true := by simp [h]
    clear h
    go_enter Try.func46, Try.ntmps46
    go_wp2
    go_ret
    exact ⟨ret_int HV.out.symm, rfl⟩
  · have HV : Hid (ent x g = td x g) := if_neg h
    have e1 : (g == 0) = false := by simp [h]
    clear h
    go_enter Try.func46, Try.ntmps46
    go_wp2_with fail
    refine (taintedLevel_calls x g _).mono ?_
    rintro e w1 ⟨rfl, rfl⟩
    go_wp2
    go_ret
    exact ⟨ret_int HV.out.symm, rfl⟩

set_option maxRecDepth 100000 in
set_option maxHeartbeats 4000000 in
theorem mixed_td (xs ys : List Int) (w : World) :
    Calls Try.prog 44 #[.agg (ints4 xs), .agg (ints4 ys), .func (.func 73) #[] #[]] w fun e w' => e = .returned (.agg #[.int .i64 (td (gt xs 0) (gt ys 0)), .int .i64 (td (gt xs 1) (gt ys 1)), .int .i64 (td (gt xs 2) (gt ys 2)), .int .i64 (td (gt xs 3) (gt ys 3))]) ∧ Below w.heap.size w w' := by
  unfold ints4
  have M00 := (((Mm.start w).allocC [.int .i64 (gt xs 0), .int .i64 (gt xs 1), .int .i64 (gt xs 2), .int .i64 (gt xs 3)] 66).allocC [.int .i64 (gt ys 0), .int .i64 (gt ys 1), .int .i64 (gt ys 2), .int .i64 (gt ys 3)] 66).allocC [.int .i64 0, .int .i64 0, .int .i64 0, .int .i64 0] 66
  simp only [World.size_alloc] at M00
  obtain ⟨W, hW⟩ : ∃ W : World, W = ((w.alloc (.cells #[.int .i64 (gt xs 0), .int .i64 (gt xs 1), .int .i64 (gt xs 2), .int .i64 (gt xs 3)] 66)).alloc (.cells #[.int .i64 (gt ys 0), .int .i64 (gt ys 1), .int .i64 (gt ys 2), .int .i64 (gt ys 3)] 66)).alloc (.cells #[.int .i64 0, .int .i64 0, .int .i64 0, .int .i64 0] 66) := ⟨_, rfl⟩
  rw [← hW] at M00
  have zW : W.heap.size = w.heap.size + 3 := by rw [hW]; simp
  have HRow : Hid (ARow W w.heap.size (upTo (fun j => td (gt xs j) (gt ys j)) (gt xs) 0)) := ARow.mk4 ((M00.get 2 rfl).cell 0 rfl) ((M00.get 2 rfl).cell 1 rfl) ((M00.get 2 rfl).cell 2 rfl) ((M00.get 2 rfl).cell 3 rfl) (fun j => by rw [hW]; go_simp)
  have HM0 : Hid (Mm w W [] [(w.heap.size + 1 + 1, w.heap.size + 1 + 1 + 1, Cs (w.heap.size + 1 + 1) [.int .i64 0, .int .i64 0, .int .i64 0, .int .i64 0]), (w.heap.size + 1, w.heap.size + 1 + 1, Cs (w.heap.size + 1) [.int .i64 (gt ys 0), .int .i64 (gt ys 1), .int .i64 (gt ys 2), .int .i64 (gt ys 3)])]) := M00.sub (fun _ h => h) (fun _ h => by simp only [List.mem_cons, List.not_mem_nil, or_false] at h ⊢; rcases h with h | h <;> simp [h])
  have HW := hide hW
  clear M00 hW
  go_enter Try.func44, Try.ntmps44
  go_upto_region 1 with fail
  rw [← HW.out]
  clear HW
  go_wp2
  go_loopw [8] (fun i wr => ∃ k : Nat, k ≤ 4 ∧ i = .int .i64 k ∧ ARow wr w.heap.size (upTo (fun j => td (gt xs j) (gt ys j)) (gt xs) k) ∧ Mm w wr [] [(w.heap.size + 1 + 1, w.heap.size + 1 + 1 + 1, Cs (w.heap.size + 1 + 1) [.int .i64 0, .int .i64 0, .int .i64 0, .int .i64 0]), (w.heap.size + 1, w.heap.size + 1 + 1, Cs (w.heap.size + 1) [.int .i64 (gt ys 0), .int .i64 (gt ys 1), .int .i64 (gt ys 2), .int .i64 (gt ys 3)])]) (fun i _ => 4 - (intOf i).toNat)
  case atStart => exact ⟨0, Nat.zero_le _, rfl, HRow.out, HM0.out⟩
  case round =>
    clear HRow HM0
    obtain ⟨k, hk4, rfl, hrow, M⟩ := hrel
    by_cases hlt : k < 4
    · have hv : wr.cell? ⟨w.heap.size, k, none⟩ = some (.int .i64 (gt xs k)) := by rw [hrow.1 k hlt]; simp [upTo]
      have hf := hrow.2 k
      have hy : wr.cell? ⟨w.heap.size + 1, k, none⟩ = some (.int .i64 (gt ys k)) := by
        rcases (by omega : k = 0 ∨ k = 1 ∨ k = 2 ∨ k = 3) with rfl | rfl | rfl | rfl
        · exact (M.get 1 rfl).cell 0 rfl
        · exact (M.get 1 rfl).cell 1 rfl
        · exact (M.get 1 rfl).cell 2 rfl
        · exact (M.get 1 rfl).cell 3 rfl
      have k0 : (0 : Int) ≤ (k : Int) := by omega
      have k1 : (k : Int) < 4 := by omega
      have HR := hide (hrow.set (x := td (gt xs k) (gt ys k)) hlt (upTo_set (F := fun j => td (gt xs j) (gt ys j)) (f := gt xs) rfl))
      have HMs := hide (M.out (B := w.heap.size) (T := w.heap.size + 1) ((OutS.refl (InR w.heap.size (w.heap.size + 1)) wr).setCell (p := ⟨w.heap.size, k, none⟩) ⟨Nat.le_refl _, Nat.lt_succ_self _⟩ (.int .i64 (td (gt xs k) (gt ys k)))) (by omega) (by simp) (by simp <;> omega))
      clear hrow M
      go_wp2_with fail
      go_region_with (go_at_call 73; refine (taintedLevel_calls _ _ _).mono ?_; rintro e w1 ⟨rfl, rfl⟩)
      all_goals (
        go_wp2
        go_roundw
        case rel => exact ⟨k + 1, by omega, by go_num, HR.out, HMs.out.below (Below.refl _ _).drew⟩
        case measure => simp [intOf]; omega)
    · obtain rfl : k = 4 := by omega
      have hrow := hrow.keep (f' := fun j => td (gt xs j) (gt ys j)) (fun j hj => if_pos hj)
      have v0 := hrow.1 0 (by omega)
      have v1 := hrow.1 1 (by omega)
      have v2 := hrow.1 2 (by omega)
      have v3 := hrow.1 3 (by omega)
      have r0 := (M.get 0 rfl).cell 0 rfl
      have r1 := (M.get 0 rfl).cell 1 rfl
      have r2 := (M.get 0 rfl).cell 2 rfl
      have r3 := (M.get 0 rfl).cell 3 rfl
      have f0 := (M.get 0 rfl).fz 0 (by simp)
      have f1 := (M.get 0 rfl).fz 1 (by simp)
      have f2 := (M.get 0 rfl).fz 2 (by simp)
      have f3 := (M.get 0 rfl).fz 3 (by simp)
      have HB := hide M.bel
      clear hrow M
      go_wp2
      have n0 := set4_at0 _ _ (.int .i64 (td (gt xs 0) (gt ys 0))) (.int .i64 (td (gt xs 1) (gt ys 1))) (.int .i64 (td (gt xs 2) (gt ys 2))) (.int .i64 (td (gt xs 3) (gt ys 3))) ⟨_, r0⟩
      have n1 := set4_at1 _ _ (.int .i64 (td (gt xs 0) (gt ys 0))) (.int .i64 (td (gt xs 1) (gt ys 1))) (.int .i64 (td (gt xs 2) (gt ys 2))) (.int .i64 (td (gt xs 3) (gt ys 3))) ⟨_, r1⟩
      have n2 := set4_at2 _ _ (.int .i64 (td (gt xs 0) (gt ys 0))) (.int .i64 (td (gt xs 1) (gt ys 1))) (.int .i64 (td (gt xs 2) (gt ys 2))) (.int .i64 (td (gt xs 3) (gt ys 3))) ⟨_, r2⟩
      have n3 := set4_at3 _ _ (.int .i64 (td (gt xs 0) (gt ys 0))) (.int .i64 (td (gt xs 1) (gt ys 1))) (.int .i64 (td (gt xs 2) (gt ys 2))) (.int .i64 (td (gt xs 3) (gt ys 3))) ⟨_, r3⟩
      refine bodyPost_ret (v := .agg #[.int .i64 (td (gt xs 0) (gt ys 0)), .int .i64 (td (gt xs 1) (gt ys 1)), .int .i64 (td (gt xs 2) (gt ys 2)), .int .i64 (td (gt xs 3) (gt ys 3))]) (by simp [results, Try.results44, go_sem, n0, n1, n2, n3]) rfl ⟨rfl, ?_⟩
      exact (((HB.out.setCell (by simp; omega) _).setCell (by simp; omega) _).setCell (by simp; omega) _).setCell (by simp; omega) _

set_option maxRecDepth 100000 in
set_option maxHeartbeats 4000000 in
theorem mixed_ent (xs ys : List Int) (w : World) :
    Calls Try.prog 44 #[.agg (ints4 xs), .agg (ints4 ys), .func (.func 46) #[] #[]] w fun e w' => e = .returned (.agg #[.int .i64 (ent (gt xs 0) (gt ys 0)), .int .i64 (ent (gt xs 1) (gt ys 1)), .int .i64 (ent (gt xs 2) (gt ys 2)), .int .i64 (ent (gt xs 3) (gt ys 3))]) ∧ Below w.heap.size w w' := by
  unfold ints4
  have M00 := (((Mm.start w).allocC [.int .i64 (gt xs 0), .int .i64 (gt xs 1), .int .i64 (gt xs 2), .int .i64 (gt xs 3)] 66).allocC [.int .i64 (gt ys 0), .int .i64 (gt ys 1), .int .i64 (gt ys 2), .int .i64 (gt ys 3)] 66).allocC [.int .i64 0, .int .i64 0, .int .i64 0, .int .i64 0] 66
  simp only [World.size_alloc] at M00
  obtain ⟨W, hW⟩ : ∃ W : World, W = ((w.alloc (.cells #[.int .i64 (gt xs 0), .int .i64 (gt xs 1), .int .i64 (gt xs 2), .int .i64 (gt xs 3)] 66)).alloc (.cells #[.int .i64 (gt ys 0), .int .i64 (gt ys 1), .int .i64 (gt ys 2), .int .i64 (gt ys 3)] 66)).alloc (.cells #[.int .i64 0, .int .i64 0, .int .i64 0, .int .i64 0] 66) := ⟨_, rfl⟩
  rw [← hW] at M00
  have zW : W.heap.size = w.heap.size + 3 := by rw [hW]; simp
  have HRow : Hid (ARow W w.heap.size (upTo (fun j => ent (gt xs j) (gt ys j)) (gt xs) 0)) := ARow.mk4 ((M00.get 2 rfl).cell 0 rfl) ((M00.get 2 rfl).cell 1 rfl) ((M00.get 2 rfl).cell 2 rfl) ((M00.get 2 rfl).cell 3 rfl) (fun j => by rw [hW]; go_simp)
  have HM0 : Hid (Mm w W [] [(w.heap.size + 1 + 1, w.heap.size + 1 + 1 + 1, Cs (w.heap.size + 1 + 1) [.int .i64 0, .int .i64 0, .int .i64 0, .int .i64 0]), (w.heap.size + 1, w.heap.size + 1 + 1, Cs (w.heap.size + 1) [.int .i64 (gt ys 0), .int .i64 (gt ys 1), .int .i64 (gt ys 2), .int .i64 (gt ys 3)])]) := M00.sub (fun _ h => h) (fun _ h => by simp only [List.mem_cons, List.not_mem_nil, or_false] at h ⊢; rcases h with h | h <;> simp [h])
  have HW := hide hW
  clear M00 hW
  go_enter Try.func44, Try.ntmps44
  go_upto_region 1 with fail
  rw [← HW.out]
  clear HW
  go_wp2
  go_loopw [8] (fun i wr => ∃ k : Nat, k ≤ 4 ∧ i = .int .i64 k ∧ ARow wr w.heap.size (upTo (fun j => ent (gt xs j) (gt ys j)) (gt xs) k) ∧ Mm w wr [] [(w.heap.size + 1 + 1, w.heap.size + 1 + 1 + 1, Cs (w.heap.size + 1 + 1) [.int .i64 0, .int .i64 0, .int .i64 0, .int .i64 0]), (w.heap.size + 1, w.heap.size + 1 + 1, Cs (w.heap.size + 1) [.int .i64 (gt ys 0), .int .i64 (gt ys 1), .int .i64 (gt ys 2), .int .i64 (gt ys 3)])]) (fun i _ => 4 - (intOf i).toNat)
  case atStart => exact ⟨0, Nat.zero_le _, rfl, HRow.out, HM0.out⟩
  case round =>
    clear HRow HM0
    obtain ⟨k, hk4, rfl, hrow, M⟩ := hrel
    by_cases hlt : k < 4
    · have hv : wr.cell? ⟨w.heap.size, k, none⟩ = some (.int .i64 (gt xs k)) := by rw [hrow.1 k hlt]; simp [upTo]
      have hf := hrow.2 k
      have hy : wr.cell? ⟨w.heap.size + 1, k, none⟩ = some (.int .i64 (gt ys k)) := by
        rcases (by omega : k = 0 ∨ k = 1 ∨ k = 2 ∨ k = 3) with rfl | rfl | rfl | rfl
        · exact (M.get 1 rfl).cell 0 rfl
        · exact (M.get 1 rfl).cell 1 rfl
        · exact (M.get 1 rfl).cell 2 rfl
        · exact (M.get 1 rfl).cell 3 rfl
      have k0 : (0 : Int) ≤ (k : Int) := by omega
      have k1 : (k : Int) < 4 := by omega
      have HR := hide (hrow.set (x := ent (gt xs k) (gt ys k)) hlt (upTo_set (F := fun j => ent (gt xs j) (gt ys j)) (f := gt xs) rfl))
      have HMs := hide (M.out (B := w.heap.size) (T := w.heap.size + 1) ((OutS.refl (InR w.heap.size (w.heap.size + 1)) wr).setCell (p := ⟨w.heap.size, k, none⟩) ⟨Nat.le_refl _, Nat.lt_succ_self _⟩ (.int .i64 (ent (gt xs k) (gt ys k)))) (by omega) (by simp) (by simp <;> omega))
      clear hrow M
      go_wp2_with fail
      go_region_with (go_at_call 46; refine (enteredLevel_calls _ _ _).mono ?_; rintro e w1 ⟨rfl, rfl⟩)
      all_goals (
        go_wp2
        go_roundw
        case rel => exact ⟨k + 1, by omega, by go_num, HR.out, HMs.out.below (Below.refl _ _).drew⟩
        case measure => simp [intOf]; omega)
    · obtain rfl : k = 4 := by omega
      have hrow := hrow.keep (f' := fun j => ent (gt xs j) (gt ys j)) (fun j hj => if_pos hj)
      have v0 := hrow.1 0 (by omega)
      have v1 := hrow.1 1 (by omega)
      have v2 := hrow.1 2 (by omega)
      have v3 := hrow.1 3 (by omega)
      have r0 := (M.get 0 rfl).cell 0 rfl
      have r1 := (M.get 0 rfl).cell 1 rfl
      have r2 := (M.get 0 rfl).cell 2 rfl
      have r3 := (M.get 0 rfl).cell 3 rfl
      have f0 := (M.get 0 rfl).fz 0 (by simp)
      have f1 := (M.get 0 rfl).fz 1 (by simp)
      have f2 := (M.get 0 rfl).fz 2 (by simp)
      have f3 := (M.get 0 rfl).fz 3 (by simp)
      have HB := hide M.bel
      clear hrow M
      go_wp2
      have n0 := set4_at0 _ _ (.int .i64 (ent (gt xs 0) (gt ys 0))) (.int .i64 (ent (gt xs 1) (gt ys 1))) (.int .i64 (ent (gt xs 2) (gt ys 2))) (.int .i64 (ent (gt xs 3) (gt ys 3))) ⟨_, r0⟩
      have n1 := set4_at1 _ _ (.int .i64 (ent (gt xs 0) (gt ys 0))) (.int .i64 (ent (gt xs 1) (gt ys 1))) (.int .i64 (ent (gt xs 2) (gt ys 2))) (.int .i64 (ent (gt xs 3) (gt ys 3))) ⟨_, r1⟩
      have n2 := set4_at2 _ _ (.int .i64 (ent (gt xs 0) (gt ys 0))) (.int .i64 (ent (gt xs 1) (gt ys 1))) (.int .i64 (ent (gt xs 2) (gt ys 2))) (.int .i64 (ent (gt xs 3) (gt ys 3))) ⟨_, r2⟩
      have n3 := set4_at3 _ _ (.int .i64 (ent (gt xs 0) (gt ys 0))) (.int .i64 (ent (gt xs 1) (gt ys 1))) (.int .i64 (ent (gt xs 2) (gt ys 2))) (.int .i64 (ent (gt xs 3) (gt ys 3))) ⟨_, r3⟩
      refine bodyPost_ret (v := .agg #[.int .i64 (ent (gt xs 0) (gt ys 0)), .int .i64 (ent (gt xs 1) (gt ys 1)), .int .i64 (ent (gt xs 2) (gt ys 2)), .int .i64 (ent (gt xs 3) (gt ys 3))]) (by simp [results, Try.results44, go_sem, n0, n1, n2, n3]) rfl ⟨rfl, ?_⟩
      exact (((HB.out.setCell (by simp; omega) _).setCell (by simp; omega) _).setCell (by simp; omega) _).setCell (by simp; omega) _

end Go.Proofs.Ytdcfdmcooonfkaa
