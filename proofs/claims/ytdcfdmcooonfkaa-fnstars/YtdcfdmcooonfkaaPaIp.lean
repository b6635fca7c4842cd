import Derived.Test.YtdcfdmcooonfkaaPaI0
import Derived.Test.YtdcfdmcooonfkaaPaS
import Derived.WalkKit
import Derived.ProofKit
import Derived.OpenShut
import Derived.ShutString
import Derived.ChangeOld
import Derived.Below
import Derived.WalkSpells
import Derived.Deep.QuietTactic
import Derived.BigQuiet
import Derived.Deep.RegionWith
import Derived.Deep.WholeRow
import Derived.Deep.DeepCutAuto
import Derived.Deep.RegionHeld2
import Derived.Deep.AppendLies
import Derived.Deep.RegionLaw
namespace Go.Proofs.Ytdcfdmcooonfkaa
open Go.ChangeShapes Go.WideShapes Go.ChangeAt Go.RowKit

set_option maxRecDepth 100000 in
theorem faultOfBoth_calls (a b : Option Addr) (la ca lb cb : Nat) (xs ys : List Int) (w : World) (hla : la ≤ maxLen) (hlb : lb ≤ maxLen) (hx : Sl w a la xs) (hy : Sl w b lb ys) :
    Calls Try.prog 53 #[.agg #[.slice a la ca], .agg #[.slice b lb cb]] w fun e w' => e = .returned (.int .i64 (both xs ys)) ∧ Below w.heap.size w w' := by
  have hb0 := fun o1 o2 => ((Below.refl w.heap.size w).alloc (Nat.le_refl _) o1).alloc (by simp) o2
  by_cases hf : fault xs = 0
  · have hq : (fault xs == 0) = true := by simp [hf]
    have e := both_eq (ys := ys) hf
    rw [e]
    clear e hf
    go_enter Try.func53, Try.ntmps53
    go_wp2_with fail
    refine (implLabelFault_calls a la ca xs _ hla (hx.below (hb0 _ _) (Nat.le_refl _))).mono ?_
    rintro e w1 ⟨rfl, hb⟩
    have h1 : Below w.heap.size w w1 := (hb0 _ _).trans (hb.mono (by simp; omega))
    have c2 : w1.cell? ⟨w.heap.size + 1, 0, none⟩ = some (.slice b lb cb) := (hb.cell (p := ⟨w.heap.size + 1, 0, none⟩) (by simp)).trans (by go_simp)
    clear hb hb0
    go_wp2_with fail
    refine (implLabelFault_calls b lb cb ys _ hlb (hy.below h1 (Nat.le_refl _))).mono ?_
    rintro e w2 ⟨rfl, hb⟩
    go_wp2
    go_ret
    exact ⟨rfl, h1.trans (hb.mono h1.size)⟩
  · have hq : (fault xs == 0) = false := by simp [hf]
    have e := both_ne (ys := ys) hf
    rw [e]
    clear e hf
    go_enter Try.func53, Try.ntmps53
    go_wp2_with fail
    refine (implLabelFault_calls a la ca xs _ hla (hx.below (hb0 _ _) (Nat.le_refl _))).mono ?_
    rintro e w1 ⟨rfl, hb⟩
    go_wp2
    go_ret
    exact ⟨rfl, (hb0 _ _).trans (hb.mono (by simp; omega))⟩

theorem both_zero {xs ys : List Int} (h : (both xs ys == 0) = true) : fault xs = 0 ∧ fault ys = 0 := by
  simp only [beq_iff_eq] at h
  unfold both at h
  split at h
  · exact ⟨by assumption, h⟩
  · contradiction

theorem isBelowB_of {xs ys : List Int} (h : fault xs = 0 ∧ fault ys = 0) : isBelowB xs ys = belowB xs ys := by
  unfold isBelowB; rw [h.1, h.2]; rfl

theorem isBelowB_not {xs ys : List Int} (h : (both xs ys == 0) = false) : isBelowB xs ys = false := by
  simp only [beq_eq_false_iff_ne] at h
  unfold both at h
  unfold isBelowB
  split at h
  · rename_i e; rw [e]; simp [h]
  · rename_i e; simp [e]

set_option maxRecDepth 100000 in
theorem implIsBelow_calls (a b : Option Addr) (la ca lb cb : Nat) (xs ys : List Int) (w : World) (hla : la ≤ maxLen) (hlb : lb ≤ maxLen) (hx : Sl w a la xs) (hy : Sl w b lb ys) :
    Calls Try.prog 15 #[.agg #[.slice a la ca], .agg #[.slice b lb cb]] w fun e w' => e = .returned (.bool (isBelowB xs ys)) ∧ Below w.heap.size w w' := by
  have hb0 := fun o1 o2 => ((Below.refl w.heap.size w).alloc (Nat.le_refl _) o1).alloc (by simp) o2
  cases hf : (both xs ys == 0) with
  | true =>
    obtain ⟨fx, fy⟩ := both_zero hf
    have e1 : la = 4 := by rw [← hx.1]; exact fault_len fx
    have e2 : lb = 4 := by rw [← hy.1]; exact fault_len fy
    rw [isBelowB_of ⟨fx, fy⟩]
    subst e1 e2
    clear fx fy
    have i0 := idx0
    have i1 := idx1
    have i2 := idx2
    have i3 := idx3
    go_enter Try.func15, Try.ntmps15
    go_wp2_with fail
    refine (faultOfBoth_calls a b 4 ca 4 cb xs ys _ hla hlb (hx.below (hb0 _ _) (Nat.le_refl _)) (hy.below (hb0 _ _) (Nat.le_refl _))).mono ?_
    rintro e w1 ⟨rfl, hb⟩
    have h1 : Below w.heap.size w w1 := (hb0 _ _).trans (hb.mono (by simp; omega))
    have c1 : w1.cell? ⟨w.heap.size, 0, none⟩ = some (.slice a 4 ca) := (hb.cell (p := ⟨w.heap.size, 0, none⟩) (by simp; omega)).trans (by go_simp)
    have c2 : w1.cell? ⟨w.heap.size + 1, 0, none⟩ = some (.slice b 4 cb) := (hb.cell (p := ⟨w.heap.size + 1, 0, none⟩) (by simp)).trans (by go_simp)
    have hN : w.heap.size + 1 < w1.heap.size := by have := hb.size; simp at this; omega
    clear hb hb0
    go_wp2_with fail
    refine (levelsOf_calls b cb ys _ (hy.below h1 (Nat.le_refl _))).mono ?_
    rintro e w2 ⟨rfl, hb2⟩
    have c12 := (hb2.cell (p := ⟨w.heap.size, 0, none⟩) (by show w.heap.size < _; omega)).trans c1
    have h2 : Below w.heap.size w w2 := h1.trans (hb2.mono h1.size)
    have hN2 : w.heap.size < w2.heap.size := by have := hb2.size; omega
    clear hb2 c1 c2
    unfold ints4
    go_wp2_with fail
    refine (levelsOf_calls a ca xs _ (hx.below (h2.alloc h2.size _) (Nat.le_refl _))).mono ?_
    rintro e w3 ⟨rfl, hb3⟩
    have u0 : w3.cell? ⟨w2.heap.size, 0, none⟩ = some (.int .i64 (gt ys 0)) := (hb3.cell (p := ⟨w2.heap.size, 0, none⟩) (by simp)).trans (by go_simp)
    have u1 : w3.cell? ⟨w2.heap.size, 1, none⟩ = some (.int .i64 (gt ys 1)) := (hb3.cell (p := ⟨w2.heap.size, 1, none⟩) (by simp)).trans (by go_simp)
    have u2 : w3.cell? ⟨w2.heap.size, 2, none⟩ = some (.int .i64 (gt ys 2)) := (hb3.cell (p := ⟨w2.heap.size, 2, none⟩) (by simp)).trans (by go_simp)
    have u3 : w3.cell? ⟨w2.heap.size, 3, none⟩ = some (.int .i64 (gt ys 3)) := (hb3.cell (p := ⟨w2.heap.size, 3, none⟩) (by simp)).trans (by go_simp)
    have h3 : Below w.heap.size w w3 := (h2.alloc h2.size _).trans (hb3.mono (by simp; omega))
    clear hb3
    unfold ints4
    go_wp2
    go_loop [16] (fun i => ∃ k : Nat, k ≤ 4 ∧ i = .int .i64 k ∧ ∀ j, j < k → gt xs j ≤ gt ys j) (fun i => 4 - (intOf i).toNat)
    case atStart => exact ⟨0, Nat.zero_le _, rfl, fun j hj => by omega⟩
    case round =>
      obtain ⟨k, hk, rfl, hall⟩ := hrel
      have Hall : Hid (∀ j, j < k → gt xs j ≤ gt ys j) := hall
      clear hall
      rcases (by omega : k = 0 ∨ k = 1 ∨ k = 2 ∨ k = 3 ∨ k = 4) with rfl | rfl | rfl | rfl | rfl
      · by_cases he : gt ys 0 < gt xs 0
        · go_wp2
          go_ret
          exact ⟨ret_bool (belowB_no (by omega) he).symm, h3⟩
        · go_wp2
          go_round
          case rel => exact ⟨1, by omega, by go_num, fun j hj => by (by_cases e : j = 0); (subst e; omega); exact Hall.out j (by omega)⟩
          case measure => simp [intOf]
      · by_cases he : gt ys 1 < gt xs 1
        · go_wp2
          go_ret
          exact ⟨ret_bool (belowB_no (by omega) he).symm, h3⟩
        · go_wp2
          go_round
          case rel => exact ⟨2, by omega, by go_num, fun j hj => by (by_cases e : j = 1); (subst e; omega); exact Hall.out j (by omega)⟩
          case measure => simp [intOf]
      · by_cases he : gt ys 2 < gt xs 2
        · go_wp2
          go_ret
          exact ⟨ret_bool (belowB_no (by omega) he).symm, h3⟩
        · go_wp2
          go_round
          case rel => exact ⟨3, by omega, by go_num, fun j hj => by (by_cases e : j = 2); (subst e; omega); exact Hall.out j (by omega)⟩
          case measure => simp [intOf]
      · by_cases he : gt ys 3 < gt xs 3
        · go_wp2
          go_ret
          exact ⟨ret_bool (belowB_no (by omega) he).symm, h3⟩
        · go_wp2
          go_round
          case rel => exact ⟨4, by omega, by go_num, fun j hj => by (by_cases e : j = 3); (subst e; omega); exact Hall.out j (by omega)⟩
          case measure => simp [intOf]
      · go_wp2
        go_ret
        exact ⟨ret_bool (belowB_yes (fun j hj => Hall.out j (by omega))).symm, h3⟩
  | false =>
    rw [isBelowB_not hf]
    go_enter Try.func15, Try.ntmps15
    go_wp2_with fail
    refine (faultOfBoth_calls a b la ca lb cb xs ys _ hla hlb (hx.below (hb0 _ _) (Nat.le_refl _)) (hy.below (hb0 _ _) (Nat.le_refl _))).mono ?_
    rintro e w1 ⟨rfl, hb⟩
    go_wp2
    go_ret
    exact ⟨rfl, (hb0 _ _).trans (hb.mono (by simp; omega))⟩

theorem meB_ok {z y x : List Int} (h : psF z y = 0) : meB z y x = isBelowB x y := by
  have hy := (psF_zero h).2
  unfold meB isBelowB
  rw [h, hy]
  simp

theorem meB_no {z y x : List Int} (h : psF z y ≠ 0) : meB z y x = false := by
  unfold meB
  have : (psF z y == 0) = false := by simpa using h
  rw [this]; rfl

set_option maxRecDepth 100000 in
theorem implPassFault_calls (a : Option Addr) (n c : Nat) (z : List Int) (b : Option Addr) (m d : Nat) (y : List Int) (w : World) (hr : PR w a n z b m y) :
    Calls Try.prog 18 #[.agg #[.slice a n c, .slice b m d]] w fun e w' => e = .returned (.int .i64 (psF z y)) ∧ Below w.heap.size w w' := by
  have M0 := (Mm.start w).allocC [.slice a n c, .slice b m d] 28
  obtain ⟨hn, hz, hm, hy⟩ := hr
  go_enter Try.func18, Try.ntmps18
  go_wp2_with fail
  refine (faultOfBoth_calls a b n c m d z y _ hn hm (hz.below M0.bel (Nat.le_refl _)) (hy.below M0.bel (Nat.le_refl _))).mono ?_
  rintro e w1 ⟨rfl, g1⟩
  have M1 := M0.below g1
  have hz1 := (hz.below M0.bel (Nat.le_refl _)).below g1 (by simp)
  have hy1 := (hy.below M0.bel (Nat.le_refl _)).below g1 (by simp)
  have HB := hide M1.bel
  have c0 := (M1.get 0 rfl).cell 0 rfl
  have c1 := (M1.get 0 rfl).cell 1 rfl
  clear g1 M0
  by_cases hb : both z y = 0
  rotate_left
  · have HV := hide (psF_both hb)
    have e1 : (both z y != 0) = true := by simpa using hb
    clear hb M1
    go_wp2
    go_ret
    exact ⟨ret_int HV.out.symm, HB.out⟩
  have e1 : (both z y != 0) = false := by simp [hb]
  have HH := hide hb
  clear hb
  go_wp2_with fail
  refine (hasLevel_calls a n c z 5 _ hn hz1).mono ?_
  rintro e w2 ⟨rfl, g2⟩
  have M2 := M1.below g2
  have hy2 := hy1.below g2 (Nat.le_refl _)
  have d1 := (M2.get 0 rfl).cell 1 rfl
  have HB2 := hide M2.bel
  clear g2 M1 c0 c1
  cases hl : has z 5 with
  | true =>
    have HV := hide (psF_form HH.out (by unfold lowP; rw [hl]; rfl))
    clear hl M2
    go_wp2
    go_ret
    exact ⟨ret_int HV.out.symm, HB2.out⟩
  | false =>
    have HL := hide hl
    clear hl
    go_wp2_with fail
    refine (hasLevel_calls b m d y 0 _ hm hy2).mono ?_
    rintro e w3 ⟨rfl, g3⟩
    have HB3 := hide (M2.below g3).bel
    clear g3 M2
    cases ho : has y 0 with
    | true =>
      have HV := hide (psF_form HH.out (by rw [ho]; simp))
      clear ho
      go_wp2
      go_ret
      exact ⟨ret_int HV.out.symm, HB3.out⟩
    | false =>
      have HV := hide (psF_ok HH.out (by unfold lowP; rw [ho, HL.out]; rfl))
      clear ho
      go_wp2
      go_ret
      exact ⟨ret_int HV.out.symm, HB3.out⟩

set_option maxRecDepth 100000 in
theorem implMayEnter_calls (a : Option Addr) (n c : Nat) (z : List Int) (b : Option Addr) (m d : Nat) (y : List Int) (q : Option Addr) (l k : Nat) (x : List Int) (w : World) (hr : PR w a n z b m y) (hl : l ≤ maxLen) (hs : Sl w q l x) :
    Calls Try.prog 21 #[.agg #[.slice a n c, .slice b m d], .agg #[.slice q l k]] w fun e w' => e = .returned (.bool (meB z y x)) ∧ Below w.heap.size w w' := by
  have M0 := ((Mm.start w).allocC [.slice a n c, .slice b m d] 28).allocC [.slice q l k] 26
  simp only [World.size_alloc] at M0
  have hr0 := hr.below M0.bel (Nat.le_refl _)
  have hs0 := hs.below M0.bel (Nat.le_refl _)
  clear hr hs
  go_enter Try.func21, Try.ntmps21
  go_wp2_with fail
  refine (implPassFault_calls a n c z b m d y _ hr0).mono ?_
  rintro e w1 ⟨rfl, g1⟩
  have M1 := M0.below g1
  have hr1 := hr0.below g1 (Nat.le_refl _)
  have hs1 := hs0.below g1 (Nat.le_refl _)
  have HB := hide M1.bel
  clear g1 M0 hr0 hs0
  by_cases h1 : psF z y = 0
  rotate_left
  · have e1 : (psF z y == 0) = false := by simpa using h1
    have HV := hide (meB_no (x := x) h1)
    clear h1 M1
    go_wp2
    go_ret
    exact ⟨ret_bool HV.out.symm, HB.out⟩
  have e1 : (psF z y == 0) = true := by simp [h1]
  have HV := hide (meB_ok (x := x) h1)
  have d0 := (M1.get 0 rfl).cell 0 rfl
  have c1 := (M1.get 1 rfl).cell 1 rfl
  clear h1
  go_wp2_with fail
  refine (implIsBelow_calls q b l k m d x y _ hl hr1.hm hs1 hr1.hy).mono ?_
  rintro e w2 ⟨rfl, g2⟩
  have HB2 := hide (HB.out.trans (g2.mono HB.out.size))
  clear g2 M1 HB d0 c1
  go_wp2
  go_ret
  exact ⟨ret_bool HV.out.symm, HB2.out⟩

set_option maxRecDepth 100000 in
set_option maxHeartbeats 4000000 in
theorem taintedBy_calls (a b : Option Addr) (ca cb : Nat) (xs ys : List Int) (w : World) (hx : Sl w a 4 xs) (hy : Sl w b 4 ys) (_ : fault xs = 0) (_ : fault ys = 0) :
    Calls Try.prog 49 #[.agg #[.slice a 4 ca], .agg #[.slice b 4 cb]] w fun e w' => ∃ bb, e = .returned (.agg #[.slice (some ⟨bb, 0, none⟩) 4 4]) ∧ (w.heap.size ≤ bb ∧ Blk w' bb (mix td xs ys)) ∧ Below w.heap.size w w' := by
  have M0 := (((Mm.start w).allocC [.slice a 4 ca] 26).allocC [.slice b 4 cb] 26).allocC [.slice none 0 0] 26
  simp only [World.size_alloc] at M0
  have HX := hide (hx.below M0.bel (Nat.le_refl _))
  have HY := hide (hy.below M0.bel (Nat.le_refl _))
  have hxl := hx.1
  have HM4 := hide (mix4 td (ys := ys) hxl)
  have HM := hide M0
  obtain ⟨u, hu⟩ : ∃ u, u = ((w.alloc (.cells #[.slice a 4 ca] 26)).alloc (.cells #[.slice b 4 cb] 26)).alloc (.cells #[.slice none 0 0] 26) := ⟨_, rfl⟩
  rw [← hu] at HX HY HM
  have zu : u.heap.size = w.heap.size + 3 := by rw [hu]; simp
  have HU := hide hu
  have c0 : u.cell? ⟨w.heap.size, 0, none⟩ = some (.slice a 4 ca) := (HM.out.get 2 rfl).cell 0 rfl
  have c1 : u.cell? ⟨w.heap.size + 1, 0, none⟩ = some (.slice b 4 cb) := (HM.out.get 1 rfl).cell 0 rfl
  have hb : Below u.heap.size u u.drew := (Below.refl _ _).drew
  clear hx hy hu M0
  go_enter Try.func49, Try.ntmps49
  go_upto_region 1 with fail
  rw [← HU.out]
  clear HU
  go_region_with (first
    | (go_at_call_of 45 (Value.slice a 4 ca); refine (levelsOf_calls a ca xs _ (HX.out.below hb (Nat.le_refl _))).mono ?_; rintro e ua ⟨rfl, ga⟩; replace hb := hb.trans (ga.mono hb.size); have N := HM.out.below hb; have k0 := (N.get 2 rfl).cell 0 rfl; have k1 := (N.get 1 rfl).cell 0 rfl; clear N; clear ga)
    | (go_at_call_of 45 (Value.slice b 4 cb); refine (levelsOf_calls b cb ys _ (HY.out.below hb (Nat.le_refl _))).mono ?_; rintro e ub ⟨rfl, ga⟩; replace hb := hb.trans (ga.mono hb.size); have N := HM.out.below hb; have k0 := (N.get 2 rfl).cell 0 rfl; have k1 := (N.get 1 rfl).cell 0 rfl; clear N; clear ga)
    | (go_at_call 44; refine (mixed_td xs ys _).mono ?_; rintro e uc ⟨rfl, ga⟩; replace hb := hb.trans (ga.mono hb.size); clear ga)
    | (go_at_call 43; refine (labelOf_calls _ _ _ _ _).mono ?_; rintro e ud ⟨b4, rfl, hl4, blk4, ga⟩; have hz4 := hb.size; replace hb := hb.trans (ga.mono hb.size); have hz5 := ga.size; have lb4 := blk4.1; have M4 := HM.out.below hb; have r0 := (M4.get 0 rfl).cell 0 rfl; have f0 := (M4.get 0 rfl).fz 0 (by simp); have HB := hide M4.bel; clear M4; clear ga))
  all_goals (
    have HK : Hid (Blk ud b4 (mix td xs ys)) := by show Blk _ _ _; rw [HM4.out]; exact blk4
    have HBx := hide HB.out
    clear blk4 hb
    go_wp2
    refine bodyPost_ret (v := .agg #[.slice (some ⟨b4, 0, none⟩) 4 4]) (by simp [results, Try.results49, go_sem, r0]) rfl ⟨b4, rfl, ⟨by omega, ?_⟩, HB.out.setCell (by simp <;> omega) _⟩
    exact HK.out.setCell (p := ⟨w.heap.size + 1 + 1, 0, none⟩) (by show w.heap.size + 1 + 1 ≠ _; omega) (.slice (some ⟨b4, 0, none⟩) 4 4))

end Go.Proofs.Ytdcfdmcooonfkaa
