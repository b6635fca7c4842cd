import Derived.Test.YtipfaoecodclaaaKiE
import Derived.Test.YtipfaoecodclaaaKfT
import Derived.WalkKit
import Derived.ProofKit
import Derived.OpenShut
import Derived.ShutString
import Derived.ChangeOld
import Derived.Below
import Derived.WalkSpells
import Derived.Deep.QuietTactic
import Derived.BigQuiet
import Derived.Deep.RegionWith
import Derived.Deep.WholeRow
import Derived.Deep.DeepCutAuto
import Derived.Deep.RegionHeld2
import Derived.Deep.AppendLies
import Derived.Deep.RegionLaw
namespace Go.Proofs.Ytipfaoecodclaaa
open Go.ChangeShapes Go.WideShapes Go.ChangeAt Go.RowKit

theorem objF_0 {x : OB} (h : objF x = 0) : formB x = true ∧ fault x.2.2.2.1 = 0 ∧ thing0 x.2.2.2.1 = true ∧ rngB x = true := by
  unfold objF at h
  by_cases h1 : formB x = false
  · rw [if_pos h1] at h; omega
  rw [if_neg h1] at h
  by_cases h2 : fault x.2.2.2.1 ≠ 0
  · rw [if_pos h2] at h; exact absurd h h2
  rw [if_neg h2] at h
  by_cases h3 : thing0 x.2.2.2.1 = false
  · rw [if_pos h3] at h; omega
  rw [if_neg h3] at h
  by_cases h4 : rngB x = false
  · rw [if_pos h4] at h; omega
  exact ⟨by simpa using h1, by simpa using h2, by simpa using h3, by simpa using h4⟩

theorem oneF_obj {f : Nat → OB} {k : Nat} (h : objF (f k) ≠ 0) : oneF f k = objF (f k) := by
  unfold objF at h ⊢
  unfold oneF
  split
  · rfl
  · rename_i h1
    rw [if_neg h1] at h
    split
    · rfl
    · rename_i h2
      rw [if_neg h2] at h
      split
      · rfl
      · rename_i h3
        rw [if_neg h3] at h
        split
        · rfl
        · rename_i h4
          rw [if_neg h4] at h
          exact absurd rfl h

theorem one_first {f : Nat → OB} (h : oneF f 0 = 0) : (f 0).1 = -1 := by
  obtain ⟨_, _, _, _, h5, _⟩ := oneF_inv h
  unfold upB at h5
  rw [if_pos rfl] at h5
  simp at h5
  exact h5.1.1

theorem oneF_std {f : Nat → OB} {k : Nat} (h : objF (f k) = 0) (hno : ∀ j, j < k → oneF f j = 0) : oneF f k = stdF (f k) f k := by
  obtain ⟨a1, a2, a3, a4⟩ := objF_0 h
  have e : oneF f k = if upB f k = false then 4 else if namB f k = false then 8 else 0 := by
    unfold oneF
    rw [if_neg (by rw [a1]; simp), if_neg (by rw [a2]; simp), if_neg (by rw [a3]; simp), if_neg (by rw [a4]; simp)]
  rw [e]
  rcases Nat.eq_zero_or_pos k with h0 | h0
  · subst h0
    unfold upB namB stdF fstF
    rw [if_pos rfl, if_pos rfl, if_pos rfl]
    show (if fstB (f 0) = false then (4 : Int) else if true = false then 8 else 0) = _
    cases hb : fstB (f 0) <;> simp
  · have hf0 := one_first (hno 0 h0)
    have e2 : stdF (f k) f k = if up (f k).1 ((k : Int) - 1) = true ∧ (f (f k).1.toNat).2.2.1 = 1 then (if (f k).2.1 < 1 ∨ (f (f k).1.toNat).2.2.2.2.2.1 ≤ (f k).2.1 ∨ 0 ≤ pinA f k (f k).1 (f k).2.1 then 8 else 0) else 4 := if_neg (by omega)
    have e3 : upB f k = (inB (f k).1 0 ((k : Int) - 1) && decide ((f (f k).1.toNat).2.2.1 = 1)) := if_neg (by omega)
    have e4 : namB f k = (inB (f k).2.1 1 ((f (f k).1.toNat).2.2.2.2.2.1 - 1) && !((List.range k).any (twin f k))) := if_neg (by omega)
    rw [e2, e3, e4, up_inB]
    cases hi : inB (f k).1 0 ((k : Int) - 1) with
    | false => simp
    | true =>
      have hx := inB_iff.1 hi
      have ht := pin_twin (f := f) (i := k) (by omega)
      by_cases hk : (f (f k).1.toNat).2.2.1 = 1
      rotate_left
      · simp [hk]
      · have L1 : ¬ ((true && decide ((f (f k).1.toNat).2.2.1 = 1)) = false) := by simp [hk]
        have L2 : true = true ∧ (f (f k).1.toNat).2.2.1 = 1 := ⟨rfl, hk⟩
        rw [if_neg L1, if_pos L2]
        by_cases n1 : (f k).2.1 < 1
        · have R : (f k).2.1 < 1 ∨ (f (f k).1.toNat).2.2.2.2.2.1 ≤ (f k).2.1 ∨ 0 ≤ pinA f k (f k).1 (f k).2.1 := .inl n1
          rw [if_pos R, if_pos]
          rw [Bool.and_eq_false_iff]; left
          unfold inB; simp; omega
        by_cases n2 : (f (f k).1.toNat).2.2.2.2.2.1 ≤ (f k).2.1
        · have R : (f k).2.1 < 1 ∨ (f (f k).1.toNat).2.2.2.2.2.1 ≤ (f k).2.1 ∨ 0 ≤ pinA f k (f k).1 (f k).2.1 := .inr (.inl n2)
          rw [if_pos R, if_pos]
          rw [Bool.and_eq_false_iff]; left
          unfold inB; simp; omega
        have hin : inB (f k).2.1 1 ((f (f k).1.toNat).2.2.2.2.2.1 - 1) = true := inB_iff.2 ⟨by omega, by omega⟩
        by_cases n3 : 0 ≤ pinA f k (f k).1 (f k).2.1
        · have R : (f k).2.1 < 1 ∨ (f (f k).1.toNat).2.2.2.2.2.1 ≤ (f k).2.1 ∨ 0 ≤ pinA f k (f k).1 (f k).2.1 := .inr (.inr n3)
          rw [if_pos R, if_pos]
          rw [ht.1 n3]; simp
        · have R : ¬ ((f k).2.1 < 1 ∨ (f (f k).1.toNat).2.2.2.2.2.1 ≤ (f k).2.1 ∨ 0 ≤ pinA f k (f k).1 (f k).2.1) := by rintro (h | h | h) <;> omega
          rw [if_neg R, if_neg]
          rw [hin, Bool.true_and]
          cases hany : (List.range k).any (twin f k) with
          | false => simp
          | true => exact absurd (ht.2 hany) (by omega)

theorem text_room {f : Nat → OB} {j : Nat} (h : oneF f j = 0) : ((f j).2.2.2.2.2.2.length : Int) ≤ (f j).2.2.2.2.1 := (rngB_inv (oneF_inv h).2.2.2.1).2.2.1

set_option maxRecDepth 100000 in
set_option maxHeartbeats 4000000 in
theorem implKernelFault_calls (a : Option Addr) (n c : Nat) (xs : List OB) (w : World) (hm : n ≤ maxLen) (hs : Sob w a n xs) (hcap : n ≤ c) : Calls Try.prog 29 #[.agg #[.slice a n c]] w fun e w' => e = .returned (.int .i64 (kerF xs)) ∧ Below w.heap.size w w' := by
  unfold maxLen at hm
  have hlen := hs.1
  have M0 := (Mm.start w).allocC [.slice a n c] 35
  have HB0 := hide M0.bel
  have HM0 := hide M0
  clear M0
  by_cases h0 : n < 1 ∨ 12 < n
  · have HR : Hid (kerF xs = 2) := by show _ = _; unfold kerF; rw [if_pos (by omega)]
    by_cases hz : n = 0
    · have e0 : ((n : Int) == 0) = true := by simp; omega
      clear h0 hz hs hlen
      go_enter Try.func29, Try.ntmps29
      go_wp2
      go_ret
      exact ⟨ret_int HR.out.symm, HB0.out⟩
    · have e0 : ((n : Int) == 0) = false := by simp; omega
      have e1 : (n : Int) > 12 := by omega
      clear h0 hz hs hlen
      go_enter Try.func29, Try.ntmps29
      go_wp2
      go_ret
      exact ⟨ret_int HR.out.symm, HB0.out⟩
  have hn12 : n ≤ 12 := by omega
  have hn1 : 1 ≤ n := by omega
  have HX : Hid (kerF xs = if ffst n (oneF (gO xs)) ≠ 0 then ffst n (oneF (gO xs)) else rmF (gO xs) n) := by show _ = _; unfold kerF rmF; rw [hlen, if_neg h0]
  have e0 : ((n : Int) == 0) = false := by simp; omega
  have e1 : ¬ (n : Int) > 12 := by omega
  have HS := hide hs.s7
  obtain ⟨b, off, ea, hb, hc⟩ := hs.2 (by omega)
  subst ea
  clear h0 hs hlen
  go_enter Try.func29, Try.ntmps29
  go_wp2
  clear e0 e1
  go_loopw [20] (fun i wr => ∃ k : Nat, k ≤ n ∧ i = .int .i64 k ∧ Mm w wr [] [(w.heap.size, w.heap.size + 1, Cs w.heap.size [.slice (some ⟨b, off, none⟩) n c])] ∧ ∀ j, j < k → oneF (gO xs) j = 0) (fun i _ => n - (intOf i).toNat)
  case atStart => exact ⟨0, Nat.zero_le _, rfl, HM0.out, fun j hj => by omega⟩
  case round =>
    obtain ⟨k, hk, rfl, M, hno⟩ := hrel
    have Hno := hide hno
    clear hno
    have hbel := M.bel
    have d0 := (M.get 0 rfl).cell 0 rfl
    by_cases hlt : k < n
    · obtain ⟨la, lc, da, dc, h7, hll, hsl, hdl, hsd⟩ := hc k hlt
      obtain ⟨r0, r1, r2, r3, r4, r5, r6⟩ := h7.of_block (hbel.block b hb)
      have k0 : (0 : Int) ≤ (k : Int) := by omega
      have k1 : (k : Int) < (n : Int) := by omega
      have k2 : (k : Int) ≤ (c : Int) := by omega
      have MU := M.allocC [.int .i64 (gO xs k).1, .int .i64 (gO xs k).2.1, .int .i64 (gO xs k).2.2.1, .slice la (gO xs k).2.2.2.1.length lc, .int .i64 (gO xs k).2.2.2.2.1, .int .i64 (gO xs k).2.2.2.2.2.1, .slice da (gO xs k).2.2.2.2.2.2.length dc] 57
      obtain ⟨u, hu⟩ : ∃ u, u = wr.alloc (.cells #[.int .i64 (gO xs k).1, .int .i64 (gO xs k).2.1, .int .i64 (gO xs k).2.2.1, .slice la (gO xs k).2.2.2.1.length lc, .int .i64 (gO xs k).2.2.2.2.1, .int .i64 (gO xs k).2.2.2.2.2.1, .slice da (gO xs k).2.2.2.2.2.2.length dc] 57) := ⟨_, rfl⟩
      rw [← hu] at MU
      have HMU := hide MU
      have HU := hide hu
      have HS1 := hide (hsl.below MU.bel (Nat.le_refl _))
      have HS2 := hide (hsd.below MU.bel (Nat.le_refl _))
      have zr : w.heap.size < wr.heap.size := World.block_lt_of_cell? _ _ d0
      clear h7 hsl hsd MU hu
      go_upto_region 6 with fail
      rw [← HU.out]
      clear HU r0 r1 r2 r3 r4 r5 r6 d0 M hbel
      have q0 := (HMU.out.get 0 rfl).cell 0 rfl
      have q1 := (HMU.out.get 0 rfl).cell 1 rfl
      have q2 := (HMU.out.get 0 rfl).cell 2 rfl
      have q3 := (HMU.out.get 0 rfl).cell 3 rfl
      have q4 := (HMU.out.get 0 rfl).cell 4 rfl
      have q5 := (HMU.out.get 0 rfl).cell 5 rfl
      have q6 := (HMU.out.get 0 rfl).cell 6 rfl
      go_wp2_with fail
      refine (objectFault_calls (gO xs k) la lc da dc _ hll hdl HS1.out HS2.out).mono ?_
      rintro e v ⟨rfl, gv⟩
      have MV := HMU.out.below gv
      have HMV := hide MV
      have HBV := hide MV.bel
      clear gv q0 q1 q2 q3 q4 q5 q6 HMU HS1 HS2 MV
      by_cases h1 : objF (gO xs k) = 0
      rotate_left
      · have e1 : (objF (gO xs k) != 0) = true := by simpa using h1
        have HR : Hid (kerF xs = objF (gO xs k)) := by
          show _ = _
          have := oneF_obj h1
          rw [HX.out, ffst_hit hlt (fun j hj => Hno.out j hj) (by rw [this]; exact h1), if_pos (by rw [this]; exact h1), this]
        clear h1
        go_wp2
        go_ret
        exact ⟨ret_int HR.out.symm, HBV.out⟩
      have e1 : (objF (gO xs k) != 0) = false := by simp [h1]
      have HO := hide (oneF_std h1 Hno.out)
      have q0 := (HMV.out.get 0 rfl).cell 0 rfl
      have q1 := (HMV.out.get 0 rfl).cell 1 rfl
      have q2 := (HMV.out.get 0 rfl).cell 2 rfl
      have q3 := (HMV.out.get 0 rfl).cell 3 rfl
      have q4 := (HMV.out.get 0 rfl).cell 4 rfl
      have q5 := (HMV.out.get 0 rfl).cell 5 rfl
      have q6 := (HMV.out.get 0 rfl).cell 6 rfl
      have d0 := (HMV.out.get 1 rfl).cell 0 rfl
      have HST : Hid (∀ W, Below v.heap.size v W → Calls Try.prog 51 #[.agg #[.int .i64 (gO xs k).1, .int .i64 (gO xs k).2.1, .int .i64 (gO xs k).2.2.1, .slice la (gO xs k).2.2.2.1.length lc, .int .i64 (gO xs k).2.2.2.2.1, .int .i64 (gO xs k).2.2.2.2.2.1, .slice da (gO xs k).2.2.2.2.2.2.length dc], .slice (some ⟨b, off, none⟩) k c] W fun e w' => e = .returned (.int .i64 (stdF (gO xs k) (gO xs) k)) ∧ Below W.heap.size W w') := fun W hW => standingFault_calls (gO xs k) la lc da dc (some ⟨b, off, none⟩) k c (gO xs) W (by omega) ((HS.out.below (HBV.out.trans (hW.mono HBV.out.size)) (Nat.le_refl _)).take (by omega)) (fun j hj => (oneF_inv (Hno.out j hj)).1)
      clear h1
      go_upto_region 9 with fail
      go_region_with (go_at_call 51; refine (HST.out _ ((Below.refl _ _).drew)).mono ?_; rintro e z ⟨rfl, gz⟩)
      all_goals (
        have MZ := (HMV.out.below ((Below.refl _ _).drew)).below gz
        have HMZ := hide MZ
        have HBZ := hide MZ.bel
        clear gz MZ q0 q1 q2 q3 q4 q5 q6 d0
        by_cases h2 : stdF (gO xs k) (gO xs) k = 0
        · have e2 : (stdF (gO xs k) (gO xs) k != 0) = false := by simp [h2]
          have HN : Hid (∀ j, j < k + 1 → oneF (gO xs) j = 0) := fun j hj => by
            by_cases e0 : j = k
            · subst e0; rw [HO.out]; exact h2
            · exact Hno.out j (by omega)
          clear h2
          go_wp2
          go_roundw
          case rel => exact ⟨k + 1, by omega, by go_num, HMZ.out.sub (fun _ h => h) (fun _ h => List.mem_cons_of_mem _ h), HN.out⟩
          case measure => simp [intOf]; omega
        · have e2 : (stdF (gO xs k) (gO xs) k != 0) = true := by simpa using h2
          have HR : Hid (kerF xs = stdF (gO xs k) (gO xs) k) := by
            show _ = _
            rw [HX.out, ffst_hit hlt (fun j hj => Hno.out j hj) (by rw [HO.out]; exact h2), if_pos (by rw [HO.out]; exact h2), HO.out]
          clear h2
          go_wp2
          go_ret
          exact ⟨ret_int HR.out.symm, HBZ.out⟩)
    · obtain rfl : k = n := by omega
      have HR : Hid (kerF xs = rmF (gO xs) k) := by show _ = _; rw [HX.out, ffst_ok (fun j hj => Hno.out j hj), if_neg (by simp)]
      have HS3 := hide (HS.out.below hbel (Nat.le_refl _))
      have HB3 := hide hbel
      clear hc hbel M
      go_wp2_with fail
      refine (roomFault_calls (some ⟨b, off, none⟩) k c (gO xs) _ (by omega) HS3.out (one_first (Hno.out 0 (by omega))) (fun j hj => (oneF_inv (Hno.out j hj)).1) (fun j hj => (rngB_inv (oneF_inv (Hno.out j hj)).2.2.2.1).1) (fun j hj _ => text_room (Hno.out j hj))).mono ?_
      rintro e z ⟨rfl, gz⟩
      have HBZ := hide (HB3.out.trans (gz.mono HB3.out.size))
      clear gz
      go_wp2
      go_ret
      exact ⟨ret_int HR.out.symm, HBZ.out⟩

end Go.Proofs.Ytipfaoecodclaaa
