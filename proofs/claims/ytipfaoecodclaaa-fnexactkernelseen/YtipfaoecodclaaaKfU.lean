import Derived.Test.YtipfaoecodclaaaKfP
import Derived.WalkKit
import Derived.ProofKit
import Derived.OpenShut
import Derived.ShutString
import Derived.ChangeOld
import Derived.Below
import Derived.WalkSpells
import Derived.Deep.QuietTactic
import Derived.BigQuiet
import Derived.Deep.RegionWith
import Derived.Deep.WholeRow
import Derived.Deep.DeepCutAuto
import Derived.Deep.RegionHeld2
import Derived.Deep.AppendLies
import Derived.Deep.RegionLaw
namespace Go.Proofs.Ytipfaoecodclaaa
open Go.ChangeShapes Go.WideShapes Go.ChangeAt Go.RowKit

set_option maxRecDepth 100000 in
set_option maxHeartbeats 2000000 in
theorem l11Up_calls (P : Nat) (a : Option Addr) (n c : Nat) (xs : List OB) (i : Nat) (w : World) (hk : KR P a n c xs w) (hi : i < n) : Calls Try.prog 64 #[.pointer (some ⟨P, 0, none⟩), .int .i64 (i : Int)] w fun e w' => e = .returned (.bool (upB (gO xs) i)) ∧ Below w.heap.size w w' := by
  have hn := hk.nm
  unfold maxLen at hn
  have c0 := hk.c0
  obtain ⟨b, off, ea, hb, hc⟩ := hk.so.2 (by omega)
  rw [ea] at c0
  obtain ⟨la, lc, da, dc, ⟨r0, r1, r2, _, _, _, _⟩, _⟩ := hc i hi
  have i0 : (0 : Int) ≤ (i : Int) := by omega
  have i1 : (i : Int) < (n : Int) := by omega
  have HB := hide fun m => bdrewN (Below.refl w.heap.size w) m
  by_cases hz : i = 0
  · have ez : ((i : Int) == 0) = true := by simpa using hz
    have HR : Hid (upB (gO xs) i = ((decide ((gO xs i).1 = -1) && decide ((gO xs i).2.1 = 0)) && decide ((gO xs i).2.2.1 = 1))) := if_pos hz
    clear hk hc ea hz
    by_cases h1 : (gO xs i).1 = -1
    · have e1 : ((gO xs i).1 == -1) = true := by simpa using h1
      by_cases h2 : (gO xs i).2.1 = 0
      · have e2 : ((gO xs i).2.1 == 0) = true := by simpa using h2
        by_cases h3 : (gO xs i).2.2.1 = 1
        · have e3 : ((gO xs i).2.2.1 == 1) = true := by simpa using h3
          have HV : Hid (upB (gO xs) i = true) := by show _ = _; rw [HR.out]; simp [h1, h2, h3]
          clear h1 h2 h3
          go_enter Try.func64, Try.ntmps64
          go_wp2
          go_ret
          exact ⟨ret_bool HV.out.symm, Below.refl _ _⟩
        · have e3 : ((gO xs i).2.2.1 == 1) = false := by simpa using h3
          have HV : Hid (upB (gO xs) i = false) := by show _ = _; rw [HR.out]; simp [h3]
          clear h1 h2 h3
          go_enter Try.func64, Try.ntmps64
          go_wp2
          go_ret
          exact ⟨ret_bool HV.out.symm, Below.refl _ _⟩
      · have e2 : ((gO xs i).2.1 == 0) = false := by simpa using h2
        have HV : Hid (upB (gO xs) i = false) := by show _ = _; rw [HR.out]; simp [h2]
        clear h1 h2
        go_enter Try.func64, Try.ntmps64
        go_wp2
        go_ret
        exact ⟨ret_bool HV.out.symm, Below.refl _ _⟩
    · have e1 : ((gO xs i).1 == -1) = false := by simpa using h1
      have HV : Hid (upB (gO xs) i = false) := by show _ = _; rw [HR.out]; simp [h1]
      clear h1
      go_enter Try.func64, Try.ntmps64
      go_wp2
      go_ret
      exact ⟨ret_bool HV.out.symm, Below.refl _ _⟩
  have ez : ((i : Int) == 0) = false := by simp; omega
  have hwp : IntKind.i64.wrap ((i : Int) - 1) = (i : Int) - 1 := IntWalk.i64_in _ (by omega)
  have HR : Hid (upB (gO xs) i = (inB (gO xs i).1 0 ((i : Int) - 1) && decide ((gO xs (gO xs i).1.toNat).2.2.1 = 1))) := if_neg hz
  clear hz
  cases h1 : inB (gO xs i).1 0 ((i : Int) - 1) with
  | false =>
    have HV : Hid (upB (gO xs) i = false) := by show _ = _; rw [HR.out, h1]; rfl
    clear hk hc ea
    go_enter Try.func64, Try.ntmps64
    go_wp2_with fail
    go_quiet (first | (go_at_call 47; with_reducible refine Calls.quiet_of_same (inB_is _ _ _ _ _ h1)))
    go_wp2
    go_ret
    exact ⟨ret_bool HV.out.symm, HB.out _⟩
  | true =>
    have hx := inB_iff.1 h1
    obtain ⟨j, ej⟩ : ∃ j : Nat, (gO xs i).1 = (j : Int) := ⟨(gO xs i).1.toNat, by omega⟩
    obtain ⟨_, _, _, _, ⟨_, _, s2, _, _, _, _⟩, _⟩ := hc j (by omega)
    rw [ej] at r0 h1 HR
    have j0 : (0 : Int) ≤ (j : Int) := by omega
    have j1 : (j : Int) < (n : Int) := by omega
    have HJ := hide ej
    clear hk hc ea hx ej
    by_cases h2 : (gO xs j).2.2.1 = 1
    · have e2 : ((gO xs j).2.2.1 == 1) = true := by simpa using h2
      have HV : Hid (upB (gO xs) i = true) := by show _ = _; rw [HR.out, h1]; simpa using h2
      clear h2
      go_enter Try.func64, Try.ntmps64
      go_wp2_with fail
      go_quiet (first | (go_at_call 47; with_reducible refine Calls.quiet_of_same (inB_is _ _ _ _ _ h1)))
      go_wp2
      go_ret
      exact ⟨ret_bool HV.out.symm, HB.out _⟩
    · have e2 : ((gO xs j).2.2.1 == 1) = false := by simpa using h2
      have HV : Hid (upB (gO xs) i = false) := by show _ = _; rw [HR.out, h1]; simpa using h2
      clear h2
      go_enter Try.func64, Try.ntmps64
      go_wp2_with fail
      go_quiet (first | (go_at_call 47; with_reducible refine Calls.quiet_of_same (inB_is _ _ _ _ _ h1)))
      go_wp2
      go_ret
      exact ⟨ret_bool HV.out.symm, HB.out _⟩

set_option maxRecDepth 100000 in
set_option maxHeartbeats 2000000 in
theorem l11Named_calls (P : Nat) (a : Option Addr) (n c : Nat) (xs : List OB) (i : Nat) (w : World) (hk : KR P a n c xs w) (hi : i < n) (hu : upB (gO xs) i = true) (hnx : ∀ j : Nat, j < i → (gO xs j).2.2.1 = 1 → 1 ≤ (gO xs j).2.2.2.2.2.1 ∧ (gO xs j).2.2.2.2.2.1 ≤ 100) : Calls Try.prog 65 #[.pointer (some ⟨P, 0, none⟩), .int .i64 (i : Int)] w fun e w' => e = .returned (.bool (namB (gO xs) i)) ∧ Below w.heap.size w w' := by
  have hn := hk.nm
  unfold maxLen at hn
  have c0 := hk.c0
  obtain ⟨b, off, ea, hb, hc⟩ := hk.so.2 (by omega)
  rw [ea] at c0
  obtain ⟨la, lc, da, dc, ⟨r0, r1, r2, _, _, _, _⟩, _⟩ := hc i hi
  have hP := hk.lt
  have i0 : (0 : Int) ≤ (i : Int) := by omega
  have i1 : (i : Int) < (n : Int) := by omega
  by_cases hz : i = 0
  · subst hz
    have HV : Hid (namB (gO xs) 0 = true) := if_pos rfl
    clear hk hc ea
    go_enter Try.func65, Try.ntmps65
    go_wp2
    go_ret
    exact ⟨ret_bool HV.out.symm, Below.refl _ _⟩
  have ez : ((i : Int) == 0) = false := by simp; omega
  have HR : Hid (namB (gO xs) i = (inB (gO xs i).2.1 1 ((gO xs (gO xs i).1.toNat).2.2.2.2.2.1 - 1) && !((List.range i).any (twin (gO xs) i)))) := if_neg hz
  unfold upB at hu
  rw [if_neg hz, Bool.and_eq_true] at hu
  have hx := inB_iff.1 hu.1
  obtain ⟨j, ej⟩ : ∃ j : Nat, (gO xs i).1 = (j : Int) := ⟨(gO xs i).1.toNat, by omega⟩
  have hkd : (gO xs j).2.2.1 = 1 := by have := hu.2; rw [ej] at this; simpa using this
  have hnj := hnx j (by omega) hkd
  obtain ⟨_, _, _, _, ⟨_, _, _, _, _, s5, _⟩, _⟩ := hc j (by omega)
  rw [ej] at r0
  have HR2 : Hid (namB (gO xs) i = (inB (gO xs i).2.1 1 ((gO xs j).2.2.2.2.2.1 - 1) && !((List.range i).any (twin (gO xs) i)))) := by show _ = _; rw [HR.out, ej]; rfl
  have j0 : (0 : Int) ≤ (j : Int) := by omega
  have j1 : (j : Int) < (n : Int) := by omega
  have hwp : IntKind.i64.wrap ((gO xs j).2.2.2.2.2.1 - 1) = (gO xs j).2.2.2.2.2.1 - 1 := IntWalk.i64_in _ (by omega)
  have HJ := hide ej
  clear hk ea hx ej hu hnx hkd HR hnj r2
  cases h1 : inB (gO xs i).2.1 1 ((gO xs j).2.2.2.2.2.1 - 1) with
  | false =>
    have HV : Hid (namB (gO xs) i = false) := by show _ = _; rw [HR2.out, h1]; rfl
    clear hc
    go_enter Try.func65, Try.ntmps65
    go_wp2_with fail
    go_quiet (first | (go_at_call 47; with_reducible refine Calls.quiet_of_same (inB_is _ _ _ _ _ h1)))
    go_wp2
    go_ret
    exact ⟨ret_bool HV.out.symm, bdrewN (Below.refl _ _) _⟩
  | true =>
    go_enter Try.func65, Try.ntmps65
    go_wp2_with fail
    go_quiet (first | (go_at_call 47; with_reducible refine Calls.quiet_of_same (inB_is _ _ _ _ _ h1)))
    go_wp2
    clear hwp j0 j1 s5 ez
    go_loopw [6] (fun q wr => ∃ k : Nat, 1 ≤ k ∧ k ≤ i ∧ q = .int .i64 k ∧ Below w.heap.size w wr ∧ ∀ m, m < k → twin (gO xs) i m = false) (fun q _ => i - (intOf q).toNat)
    case atStart => exact ⟨1, Nat.le_refl _, by omega, rfl, bdrewN (Below.refl _ _) _, fun m hm => by obtain rfl : m = 0 := (by omega); rfl⟩
    case round =>
      obtain ⟨k, hk1, hki, rfl, hbel, hno⟩ := hrel
      have Hno := hide hno
      clear hno
      have d0 := (hbel.cell (p := ⟨P, 0, none⟩) hP).trans c0
      have q0 := (hbel.cell (p := ⟨b, off + i * 7, none⟩) hb).trans r0
      have q1 := (hbel.cell (p := ⟨b, off + i * 7 + 1, none⟩) hb).trans r1
      by_cases hlt : k < i
      · obtain ⟨_, _, _, _, ⟨t0, t1, _, _, _, _, _⟩, _⟩ := hc k (by omega)
        have u0 := (hbel.cell (p := ⟨b, off + k * 7, none⟩) hb).trans t0
        have u1 := (hbel.cell (p := ⟨b, off + k * 7 + 1, none⟩) hb).trans t1
        have k0 : (0 : Int) ≤ (k : Int) := by omega
        have k1 : (k : Int) < (n : Int) := by omega
        have ki : (k : Int) < (i : Int) := by omega
        clear t0 t1 hc c0 r0 r1
        by_cases h2 : (gO xs k).1 = (j : Int)
        · have e2 : ((gO xs k).1 == (j : Int)) = true := by simpa using h2
          by_cases h3 : (gO xs k).2.1 = (gO xs i).2.1
          · have e3 : ((gO xs k).2.1 == (gO xs i).2.1) = true := by simpa using h3
            have HV : Hid (namB (gO xs) i = false) := by
              show _ = _
              rw [HR2.out, any_range_yes hlt (by unfold twin; rw [HJ.out, h2, h3]; simp; omega)]
              simp
            clear h2 h3
            go_wp2_with fail
            go_quiet (fail)
            go_wp2
            go_ret
            exact ⟨ret_bool HV.out.symm, bdrewN hbel _⟩
          · have e3 : ((gO xs k).2.1 == (gO xs i).2.1) = false := by simpa using h3
            have HN : Hid (∀ m, m < k + 1 → twin (gO xs) i m = false) := fun m hm => by
              by_cases e0 : m = k
              · subst e0; unfold twin; simp [h3]
              · exact Hno.out m (by omega)
            clear h2 h3
            go_wp2_with fail
            go_quiet (fail)
            go_wp2
            go_roundw
            case rel => exact ⟨k + 1, by omega, by omega, by go_num, bdrewN hbel _, HN.out⟩
            case measure => simp [intOf]; omega
        · have e2 : ((gO xs k).1 == (j : Int)) = false := by simpa using h2
          have HN : Hid (∀ m, m < k + 1 → twin (gO xs) i m = false) := fun m hm => by
            by_cases e0 : m = k
            · subst e0; unfold twin; rw [HJ.out]; simp [h2]
            · exact Hno.out m (by omega)
          clear h2
          go_wp2_with fail
          go_quiet (fail)
          go_wp2
          go_roundw
          case rel => exact ⟨k + 1, by omega, by omega, by go_num, bdrewN hbel _, HN.out⟩
          case measure => simp [intOf]; omega
      · have HV : Hid (namB (gO xs) i = true) := by
          show _ = _
          rw [HR2.out, h1, any_range_no (fun m hm => Hno.out m (by omega))]
          rfl
        have ki : ¬ ((k : Int) < (i : Int)) := by omega
        clear hc
        go_wp2
        go_ret
        exact ⟨ret_bool HV.out.symm, hbel⟩

end Go.Proofs.Ytipfaoecodclaaa
