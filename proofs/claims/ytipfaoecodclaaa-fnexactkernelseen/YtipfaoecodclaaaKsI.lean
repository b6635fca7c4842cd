import Derived.Test.YtipfaoecodclaaaWtI
import Derived.Test.YtipfaoecodclaaaCoC
import Derived.Test.YtipfaoecodclaaaKiF
import Derived.WalkKit
import Derived.ProofKit
import Derived.OpenShut
import Derived.ShutString
import Derived.ChangeOld
import Derived.Below
import Derived.WalkSpells
import Derived.Deep.QuietTactic
import Derived.BigQuiet
import Derived.Deep.RegionWith
import Derived.Deep.WholeRow
import Derived.Deep.DeepCutAuto
import Derived.Deep.RegionHeld2
import Derived.Deep.AppendLies
import Derived.Deep.RegionLaw
namespace Go.Proofs.Ytipfaoecodclaaa
open Go.ChangeShapes Go.WideShapes Go.ChangeAt Go.RowKit

set_option maxRecDepth 100000 in
theorem faultOfBoth_calls (a b : Option Addr) (la ca lb cb : Nat) (xs ys : List Int) (w : World) (hla : la ≤ maxLen) (hlb : lb ≤ maxLen) (hx : Sl w a la xs) (hy : Sl w b lb ys) :
    Calls Try.prog 57 #[.agg #[.slice a la ca], .agg #[.slice b lb cb]] w fun e w' => e = .returned (.int .i64 (both xs ys)) ∧ Below w.heap.size w w' := by
  have hb0 := fun o1 o2 => ((Below.refl w.heap.size w).alloc (Nat.le_refl _) o1).alloc (by simp) o2
  by_cases hf : fault xs = 0
  · have hq : (fault xs == 0) = true := by simp [hf]
    have e := both_eq (ys := ys) hf
    rw [e]
    clear e hf
    go_enter Try.func57, Try.ntmps57
    go_wp2_with fail
    refine (implLabelFault_calls a la ca xs _ hla (hx.below (hb0 _ _) (Nat.le_refl _))).mono ?_
    rintro e w1 ⟨rfl, hb⟩
    have h1 : Below w.heap.size w w1 := (hb0 _ _).trans (hb.mono (by simp; omega))
    have c2 : w1.cell? ⟨w.heap.size + 1, 0, none⟩ = some (.slice b lb cb) := (hb.cell (p := ⟨w.heap.size + 1, 0, none⟩) (by simp)).trans (by go_simp)
    clear hb hb0
    go_wp2_with fail
    refine (implLabelFault_calls b lb cb ys _ hlb (hy.below h1 (Nat.le_refl _))).mono ?_
    rintro e w2 ⟨rfl, hb⟩
    go_wp2
    go_ret
    exact ⟨rfl, h1.trans (hb.mono h1.size)⟩
  · have hq : (fault xs == 0) = false := by simp [hf]
    have e := both_ne (ys := ys) hf
    rw [e]
    clear e hf
    go_enter Try.func57, Try.ntmps57
    go_wp2_with fail
    refine (implLabelFault_calls a la ca xs _ hla (hx.below (hb0 _ _) (Nat.le_refl _))).mono ?_
    rintro e w1 ⟨rfl, hb⟩
    go_wp2
    go_ret
    exact ⟨rfl, (hb0 _ _).trans (hb.mono (by simp; omega))⟩

theorem both_zero {xs ys : List Int} (h : (both xs ys == 0) = true) : fault xs = 0 ∧ fault ys = 0 := by
  simp only [beq_iff_eq] at h
  unfold both at h
  split at h
  · exact ⟨by assumption, h⟩
  · contradiction

theorem isBelowB_of {xs ys : List Int} (h : fault xs = 0 ∧ fault ys = 0) : isBelowB xs ys = belowB xs ys := by
  unfold isBelowB; rw [h.1, h.2]; rfl

theorem isBelowB_not {xs ys : List Int} (h : (both xs ys == 0) = false) : isBelowB xs ys = false := by
  simp only [beq_eq_false_iff_ne] at h
  unfold both at h
  unfold isBelowB
  split at h
  · rename_i e; rw [e]; simp [h]
  · rename_i e; simp [e]

set_option maxRecDepth 100000 in
theorem implIsBelow_calls (a b : Option Addr) (la ca lb cb : Nat) (xs ys : List Int) (w : World) (hla : la ≤ maxLen) (hlb : lb ≤ maxLen) (hx : Sl w a la xs) (hy : Sl w b lb ys) :
    Calls Try.prog 34 #[.agg #[.slice a la ca], .agg #[.slice b lb cb]] w fun e w' => e = .returned (.bool (isBelowB xs ys)) ∧ Below w.heap.size w w' := by
  have hb0 := fun o1 o2 => ((Below.refl w.heap.size w).alloc (Nat.le_refl _) o1).alloc (by simp) o2
  cases hf : (both xs ys == 0) with
  | true =>
    obtain ⟨fx, fy⟩ := both_zero hf
    have e1 : la = 4 := by rw [← hx.1]; exact fault_len fx
    have e2 : lb = 4 := by rw [← hy.1]; exact fault_len fy
    rw [isBelowB_of ⟨fx, fy⟩]
    subst e1 e2
    clear fx fy
    have i0 := idx0
    have i1 := idx1
    have i2 := idx2
    have i3 := idx3
    go_enter Try.func34, Try.ntmps34
    go_wp2_with fail
    refine (faultOfBoth_calls a b 4 ca 4 cb xs ys _ hla hlb (hx.below (hb0 _ _) (Nat.le_refl _)) (hy.below (hb0 _ _) (Nat.le_refl _))).mono ?_
    rintro e w1 ⟨rfl, hb⟩
    have h1 : Below w.heap.size w w1 := (hb0 _ _).trans (hb.mono (by simp; omega))
    have c1 : w1.cell? ⟨w.heap.size, 0, none⟩ = some (.slice a 4 ca) := (hb.cell (p := ⟨w.heap.size, 0, none⟩) (by simp; omega)).trans (by go_simp)
    have c2 : w1.cell? ⟨w.heap.size + 1, 0, none⟩ = some (.slice b 4 cb) := (hb.cell (p := ⟨w.heap.size + 1, 0, none⟩) (by simp)).trans (by go_simp)
    have hN : w.heap.size + 1 < w1.heap.size := by have := hb.size; simp at this; omega
    clear hb hb0
    go_wp2_with fail
    refine (levelsOf_calls b cb ys _ (hy.below h1 (Nat.le_refl _))).mono ?_
    rintro e w2 ⟨rfl, hb2⟩
    have c12 := (hb2.cell (p := ⟨w.heap.size, 0, none⟩) (by show w.heap.size < _; omega)).trans c1
    have h2 : Below w.heap.size w w2 := h1.trans (hb2.mono h1.size)
    have hN2 : w.heap.size < w2.heap.size := by have := hb2.size; omega
    clear hb2 c1 c2
    unfold ints4
    go_wp2_with fail
    refine (levelsOf_calls a ca xs _ (hx.below (h2.alloc h2.size _) (Nat.le_refl _))).mono ?_
    rintro e w3 ⟨rfl, hb3⟩
    have u0 : w3.cell? ⟨w2.heap.size, 0, none⟩ = some (.int .i64 (gt ys 0)) := (hb3.cell (p := ⟨w2.heap.size, 0, none⟩) (by simp)).trans (by go_simp)
    have u1 : w3.cell? ⟨w2.heap.size, 1, none⟩ = some (.int .i64 (gt ys 1)) := (hb3.cell (p := ⟨w2.heap.size, 1, none⟩) (by simp)).trans (by go_simp)
    have u2 : w3.cell? ⟨w2.heap.size, 2, none⟩ = some (.int .i64 (gt ys 2)) := (hb3.cell (p := ⟨w2.heap.size, 2, none⟩) (by simp)).trans (by go_simp)
    have u3 : w3.cell? ⟨w2.heap.size, 3, none⟩ = some (.int .i64 (gt ys 3)) := (hb3.cell (p := ⟨w2.heap.size, 3, none⟩) (by simp)).trans (by go_simp)
    have h3 : Below w.heap.size w w3 := (h2.alloc h2.size _).trans (hb3.mono (by simp; omega))
    clear hb3
    unfold ints4
    go_wp2
    go_loop [16] (fun i => ∃ k : Nat, k ≤ 4 ∧ i = .int .i64 k ∧ ∀ j, j < k → gt xs j ≤ gt ys j) (fun i => 4 - (intOf i).toNat)
    case atStart => exact ⟨0, Nat.zero_le _, rfl, fun j hj => by omega⟩
    case round =>
      obtain ⟨k, hk, rfl, hall⟩ := hrel
      have Hall : Hid (∀ j, j < k → gt xs j ≤ gt ys j) := hall
      clear hall
      rcases (by omega : k = 0 ∨ k = 1 ∨ k = 2 ∨ k = 3 ∨ k = 4) with rfl | rfl | rfl | rfl | rfl
      · by_cases he : gt ys 0 < gt xs 0
        · go_wp2
          go_ret
          exact ⟨ret_bool (belowB_no (by omega) he).symm, h3⟩
        · go_wp2
          go_round
          case rel => exact ⟨1, by omega, by go_num, fun j hj => by (by_cases e : j = 0); (subst e; omega); exact Hall.out j (by omega)⟩
          case measure => simp [intOf]
      · by_cases he : gt ys 1 < gt xs 1
        · go_wp2
          go_ret
          exact ⟨ret_bool (belowB_no (by omega) he).symm, h3⟩
        · go_wp2
          go_round
          case rel => exact ⟨2, by omega, by go_num, fun j hj => by (by_cases e : j = 1); (subst e; omega); exact Hall.out j (by omega)⟩
          case measure => simp [intOf]
      · by_cases he : gt ys 2 < gt xs 2
        · go_wp2
          go_ret
          exact ⟨ret_bool (belowB_no (by omega) he).symm, h3⟩
        · go_wp2
          go_round
          case rel => exact ⟨3, by omega, by go_num, fun j hj => by (by_cases e : j = 2); (subst e; omega); exact Hall.out j (by omega)⟩
          case measure => simp [intOf]
      · by_cases he : gt ys 3 < gt xs 3
        · go_wp2
          go_ret
          exact ⟨ret_bool (belowB_no (by omega) he).symm, h3⟩
        · go_wp2
          go_round
          case rel => exact ⟨4, by omega, by go_num, fun j hj => by (by_cases e : j = 3); (subst e; omega); exact Hall.out j (by omega)⟩
          case measure => simp [intOf]
      · go_wp2
        go_ret
        exact ⟨ret_bool (belowB_yes (fun j hj => Hall.out j (by omega))).symm, h3⟩
  | false =>
    rw [isBelowB_not hf]
    go_enter Try.func34, Try.ntmps34
    go_wp2_with fail
    refine (faultOfBoth_calls a b la ca lb cb xs ys _ hla hlb (hx.below (hb0 _ _) (Nat.le_refl _)) (hy.below (hb0 _ _) (Nat.le_refl _))).mono ?_
    rintro e w1 ⟨rfl, hb⟩
    go_wp2
    go_ret
    exact ⟨rfl, (hb0 _ _).trans (hb.mono (by simp; omega))⟩

set_option maxRecDepth 100000 in
theorem ksGone_calls (Pl : Nat) (x : OB) (la1 : Option Addr) (lc1 : Nat) (da1 : Option Addr) (dc1 : Nat) (k : Nat) (la : Option Addr) (lc : Nat) (zl : List Int) (w : World) (hp : Pl < w.heap.size) (hc : w.cell? ⟨Pl, 0, none⟩ = some (.slice la 4 lc)) (hsl : Sl w la 4 zl) (hs : Sl w la1 4 x.2.2.2.1) (h4 : x.2.2.2.1.length = 4) (f1 : fault x.2.2.2.1 = 0) (f2 : fault zl = 0) :
    Calls Try.prog 33 #[.agg #[.int .i64 x.1, .int .i64 x.2.1, .int .i64 x.2.2.1, .slice la1 x.2.2.2.1.length lc1, .int .i64 x.2.2.2.2.1, .int .i64 x.2.2.2.2.2.1, .slice da1 x.2.2.2.2.2.2.length dc1], .int .i64 (k : Int), .pointer (some ⟨Pl, 0, none⟩)] w fun e w' => e = .returned (.bool (!(belowB x.2.2.2.1 zl))) ∧ Below w.heap.size w w' := by
  have HV := hide (isBelowB_of ⟨f1, f2⟩)
  rw [h4]
  have M0 := (Mm.start w).allocC [.int .i64 x.1, .int .i64 x.2.1, .int .i64 x.2.2.1, .slice la1 4 lc1, .int .i64 x.2.2.2.2.1, .int .i64 x.2.2.2.2.2.1, .slice da1 x.2.2.2.2.2.2.length dc1] 57
  have HM := hide M0
  have H1 := hide (hs.below M0.bel (Nat.le_refl _))
  have H2 := hide (hsl.below M0.bel (Nat.le_refl _))
  have cc := (M0.bel.cell (p := ⟨Pl, 0, none⟩) hp).trans hc
  clear M0 hs hsl f1 f2 h4
  go_enter Try.func33, Try.ntmps33
  go_wp2_with fail
  refine (implIsBelow_calls la1 la 4 lc1 4 lc x.2.2.2.1 zl _ (by unfold maxLen; omega) (by unfold maxLen; omega) H1.out H2.out).mono ?_
  rintro e w1 ⟨rfl, g1⟩
  rw [HV.out]
  have HB := hide (HM.out.below g1).bel
  clear g1
  go_wp2
  go_ret
  exact ⟨rfl, HB.out⟩

set_option maxRecDepth 100000 in
set_option maxHeartbeats 8000000 in
theorem implKernelSeen_calls (a : Option Addr) (n c : Nat) (xs : List OB) (la : Option Addr) (ll lc : Nat) (zl : List Int) (w : World) (hm : n ≤ maxLen) (hs : Sob w a n xs) (hcap : n ≤ c) (hml : ll ≤ maxLen) (hsl : Sl w la ll zl) :
    Calls Try.prog 10 #[.agg #[.slice a n c], .agg #[.slice la ll lc]] w fun e w' => ∃ ra rn rc, e = .returned (.agg #[.int .i64 (ksC xs zl), .slice ra rn rc]) ∧ OO (InR w.heap.size w'.heap.size) ra rn (ksL xs zl) w' ∧ Below w.heap.size w w' := by
  have hmf : ∀ (fn : Fn) (first cap : Array Value) (w : World), (Instr.makeFunc fn first cap).run Try.prog w = .ok (.func fn first cap) w := fun _ _ _ _ => rfl
  have M0 := (((Mm.start w).allocC [.slice a n c] 35).allocC [.slice la ll lc] 37).allocC [.int .i64 0, .slice none 0 0] 32
  simp only [World.size_alloc] at M0
  have HS0 := hide (hs.below M0.bel (Nat.le_refl _))
  go_enter Try.func10, Try.ntmps10
  go_wp2_with fail
  refine (implKernelFault_calls a n c xs _ hm HS0.out hcap).mono ?_
  rintro e w1 ⟨rfl, g1⟩
  have z1 : w.heap.size + 3 ≤ w1.heap.size := by have := g1.size; simpa using this
  have M1 := M0.below g1
  clear M0 g1 HS0
  by_cases h1 : kerF xs = 0
  rotate_left
  · have HE : Hid (ksC xs zl = kerF xs) := ksC_k h1
    have HV : Hid (ksL xs zl = []) := ksL_no (by rw [ksC_k h1]; exact h1)
    have e1 : (kerF xs != 0) = true := by simpa using h1
    have r0 := (M1.get 0 rfl).cell 0 rfl
    have r1 := (M1.get 0 rfl).cell 1 rfl
    have f0 := (M1.get 0 rfl).fz 0 (by simp)
    have f1 := (M1.get 0 rfl).fz 1 (by simp)
    have HB := hide M1.bel
    clear h1 M1
    go_wp2
    refine bodyPost_ret (v := .agg #[.int .i64 (kerF xs), .slice none 0 0]) (by simp [results, Try.results10, go_sem, r0, r1]) rfl ⟨none, 0, 0, by rw [HE.out], ?_, (HB.out.setCell (by simp; omega) _).setCell (by simp; omega) _⟩
    rw [HV.out]
    exact OO.nil _ _ _
  have e1 : (kerF xs != 0) = false := by simp [h1]
  have HK0 := hide h1
  have q0 := (M1.get 1 rfl).cell 0 rfl
  have HSL := hide (hsl.below M1.bel (Nat.le_refl _))
  clear h1
  go_wp2_with fail
  refine (implLabelFault_calls la ll lc zl _ hml HSL.out).mono ?_
  rintro e w2 ⟨rfl, g2⟩
  have z2 := g2.size
  have M2 := M1.below g2
  clear M1 g2 q0 e1
  by_cases h2 : fault zl = 0
  rotate_left
  · have HE : Hid (ksC xs zl = fault zl) := ksC_l HK0.out
    have HV : Hid (ksL xs zl = []) := ksL_no (by rw [HE.out]; exact h2)
    have e2 : (fault zl != 0) = true := by simpa using h2
    have r0 := (M2.get 0 rfl).cell 0 rfl
    have r1 := (M2.get 0 rfl).cell 1 rfl
    have f0 := (M2.get 0 rfl).fz 0 (by simp)
    have f1 := (M2.get 0 rfl).fz 1 (by simp)
    have HB := hide M2.bel
    clear h2 M2
    go_wp2
    refine bodyPost_ret (v := .agg #[.int .i64 (fault zl), .slice none 0 0]) (by simp [results, Try.results10, go_sem, r0, r1]) rfl ⟨none, 0, 0, by rw [HE.out], ?_, (HB.out.setCell (by simp; omega) _).setCell (by simp; omega) _⟩
    rw [HV.out]
    exact OO.nil _ _ _
  have e2 : (fault zl != 0) = false := by simp [h2]
  have HC : Hid (ksC xs zl = 0) := by show _ = _; rw [ksC_l HK0.out, h2]
  have HV : Hid (ksL xs zl = (wtS (ksp zl (gO xs)) (gO xs) n).2) := by show _ = _; rw [ksL_ok HC.out, hs.1]
  have h4 : zl.length = 4 := by
    by_cases h4 : zl.length = 4
    · exact h4
    · unfold fault at h2; simp [h4] at h2
  have hl4 : ll = 4 := by rw [← h4, hsl.1]
  subst hl4
  have HF2 := hide h2
  have hK := kerF_inv HK0.out
  have hlen := hs.1
  have hn1 : 0 < n := by omega
  have hn12 : n ≤ 12 := by omega
  have HAT : Hid (∀ j, j < n → (gO xs j).2.2.2.1.length = 4 ∧ fault (gO xs j).2.2.2.1 = 0 ∧ (gO xs j).2.2.2.2.2.2.length ≤ 200 ∧ (0 < j → 0 ≤ (gO xs j).1 ∧ (gO xs j).1 < j)) := fun j hj => kerF_at HK0.out (by omega)
  have d0 := (M2.get 2 rfl).cell 0 rfl
  have HS2 := hide (hs.below M2.bel (Nat.le_refl _))
  have HM2 := hide M2
  clear h2 hK M2 h4
  go_wp2_with fail
  refine (copiedObjects_C a n c xs _ hn1 hn12 HS2.out (fun i hi => (HAT.out i hi).1) (fun i hi => by have := (HAT.out i hi).2.2.1; omega)).mono ?_
  rintro e w3 ⟨gb, cc, la1, lc1, lb1, L, rfl, co, g3⟩
  have z3 := g3.size
  have M3 := HM2.out.below g3
  have HM3 := hide M3
  obtain ⟨_, _, e0, _, hgl, _⟩ := co.form hn1
  cases e0
  have HF : Hid (∀ k, k < n → ∀ W, Below w3.heap.size w3 W → Calls Try.prog 33 #[.agg #[.int .i64 (gO xs k).1, .int .i64 (gO xs k).2.1, .int .i64 (gO xs k).2.2.1, .slice (la1 (2 * k)) (gO xs k).2.2.2.1.length (lc1 (2 * k)), .int .i64 (gO xs k).2.2.2.2.1, .int .i64 (gO xs k).2.2.2.2.2.1, .slice (la1 (2 * k + 1)) (gO xs k).2.2.2.2.2.2.length (lc1 (2 * k + 1))], .int .i64 (k : Int), .pointer (some ⟨w.heap.size + 1, 0, none⟩)] W fun e w' => e = .returned (.bool (ksp zl (gO xs) k)) ∧ Below W.heap.size W w') := fun k hk W hW => by
    have s1 := OS.loc.below hW (co.os (2 * k) (by omega))
    have s2 := s1.sl
    rw [sbO_l, (HAT.out k hk).1] at s2
    exact ksGone_calls (w.heap.size + 1) (gO xs k) (la1 (2 * k)) (lc1 (2 * k)) (la1 (2 * k + 1)) (lc1 (2 * k + 1)) k la lc zl W (by have := hW.size; omega) ((hW.cell (p := ⟨w.heap.size + 1, 0, none⟩) (by show w.heap.size + 1 < _; omega)).trans ((HM3.out.get 1 rfl).cell 0 rfl)) (hsl.below (HM3.out.bel.trans (hW.mono HM3.out.bel.size)) (Nat.le_refl _)) s2 (HAT.out k hk).1 (HAT.out k hk).2.1 HF2.out
  have HCO := hide co
  clear co g3 M3 d0 e2
  go_wp2_with fail
  refine (without_calls (w.heap.size + 1) (ksp zl (gO xs)) gb n cc w2.heap.size xs la1 lc1 lb1 L _ hn1 hn12 z3 hgl HCO.out (fun j hj hp => (HAT.out j hj).2.2.2 hp) HF.out).mono ?_
  rintro e w4 ⟨v, L2, rfl, hW, g4⟩
  have hsz : (wtS (ksp zl (gO xs)) (gO xs) n).2.length + lenO (wtS (ksp zl (gO xs)) (gO xs) n).2 ≤ 1048576 := by
    have h1 := wtS_sz (ksp zl (gO xs)) (gO xs) 204 n (fun j hj => by have := HAT.out j hj; omega)
    have h2 := (wtS_len (ksp zl (gO xs)) (gO xs) n).2
    omega
  obtain ⟨ra, rc, rfl, oo⟩ := hW.oo hsz
  have M4 := HM3.out.below g4
  have r0 := (M4.get 0 rfl).cell 0 rfl
  have r1 := (M4.get 0 rfl).cell 1 rfl
  have f0 := (M4.get 0 rfl).fz 0 (by simp)
  have f1 := (M4.get 0 rfl).fz 1 (by simp)
  have HB := hide M4.bel
  have HOO := hide oo
  clear hW oo g4 M4
  go_wp2
  refine bodyPost_ret (v := .agg #[.int .i64 0, .slice ra (wtS (ksp zl (gO xs)) (gO xs) n).2.length rc]) (by simp [results, Try.results10, go_sem, r0, r1]) rfl ⟨ra, _, rc, by rw [HC.out], ?_, (HB.out.setCell (by simp; omega) _).setCell (by simp; omega) _⟩
  rw [HV.out]
  exact (OO.loc.setC (OO.loc.setC HOO.out (fun h => by have := h.1; simp at this; omega) _) (fun h => by have := h.1; simp at this; omega) _).mono (fun q e => ⟨by have := e.1; omega, by have := e.2; simp; omega⟩)

end Go.Proofs.Ytipfaoecodclaaa
