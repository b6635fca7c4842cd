import Derived.Test.YtpcdfeccmiiglaaAkP
import Derived.Test.YtpcdfeccmiiglaaKfT
import Derived.Test.YtpcdfeccmiiglaaCsK
import Derived.WalkKit
import Derived.ProofKit
import Derived.OpenShut
import Derived.ShutString
import Derived.ChangeOld
import Derived.Below
import Derived.WalkSpells
import Derived.Deep.QuietTactic
import Derived.BigQuiet
import Derived.Deep.RegionWith
import Derived.Deep.WholeRow
import Derived.Deep.DeepCutAuto
import Derived.Deep.RegionHeld2
import Derived.Deep.AppendLies
import Derived.Deep.RegionLaw
namespace Go.Proofs.Ytpcdfeccmiiglaa
open Go.ChangeShapes Go.WideShapes Go.ChangeAt Go.RowKit

theorem all_in {lo hi : Int} {zs : List Int} {k : Nat} (hk : k < zs.length) (h : inB (gt zs k) lo hi = false) : zs.all (fun x => inB x lo hi) = false := by
  rw [List.all_eq_false]
  exact ⟨zs[k], List.getElem_mem hk, by simpa [hk, gt] using h⟩

theorem all_in_yes {lo hi : Int} {zs : List Int} (h : ∀ j, j < zs.length → inB (gt zs j) lo hi = true) : zs.all (fun x => inB x lo hi) = true := by
  rw [List.all_eq_true]
  intro x hx
  obtain ⟨j, hj, rfl⟩ := List.getElem_of_mem hx
  have := h j hj
  simpa [hj, gt] using this

set_option maxRecDepth 100000 in
theorem l12All_is (a : Option Addr) (n c : Nat) (zs : List Int) (lo hi : Int) (b : Bool) (w : World) (hn : n ≤ maxLen) (hs : Sl w a n zs) (hb : zs.all (fun x => inB x lo hi) = b) :
    Calls Try.prog 79 #[.slice a n c, .int .i64 lo, .int .i64 hi] w fun e w' => e = .returned (.bool b) ∧ w' = w := by
  subst hb
  unfold maxLen at hn
  obtain ⟨hlen, hs⟩ := hs
  go_enter Try.func79, Try.ntmps79
  go_wp2
  go_loop [7] (fun i => ∃ k : Nat, k ≤ n ∧ i = .int .i64 k ∧ ∀ j, j < k → inB (gt zs j) lo hi = true) (fun i => n - (intOf i).toNat)
  case atStart => exact ⟨0, Nat.zero_le _, rfl, fun j hj => by omega⟩
  case round =>
    obtain ⟨k, hk, rfl, hno⟩ := hrel
    have Hno := hide hno
    clear hno
    by_cases hlt : k < n
    · obtain ⟨bk, off, rfl, hb, hc⟩ := hs (by omega)
      have hck := hc k hlt
      have k0 : (0 : Int) ≤ (k : Int) := by omega
      have k1 : (k : Int) < (n : Int) := by omega
      clear hc
      cases h2 : inB (gt zs k) lo hi with
      | false =>
        have HR : Hid (zs.all (fun x => inB x lo hi) = false) := all_in (k := k) (by omega) h2
        go_wp2_with (go_at_call 72; with_reducible refine (inB_is _ _ _ _ _ h2).mono ?_; rintro e w' ⟨rfl, rfl⟩)
        go_ret
        exact ⟨ret_bool HR.out.symm, rfl⟩
      | true =>
        have HN : Hid (∀ j, j < k + 1 → inB (gt zs j) lo hi = true) := fun j hj => by
          by_cases e : j = k
          · subst e; exact h2
          · exact Hno.out j (by omega)
        go_wp2_with (go_at_call 72; with_reducible refine (inB_is _ _ _ _ _ h2).mono ?_; rintro e w' ⟨rfl, rfl⟩)
        go_round
        case rel => exact ⟨k + 1, by omega, by go_num, HN.out⟩
        case measure => simp [intOf]; omega
    · have HR : Hid (zs.all (fun x => inB x lo hi) = true) := all_in_yes (fun j hj => Hno.out j (by omega))
      clear hs
      go_wp2
      go_ret
      exact ⟨ret_bool HR.out.symm, rfl⟩

set_option maxRecDepth 100000 in
set_option maxHeartbeats 4000000 in
theorem l12Form_calls (P : Nat) (A : AkA) (D : AkD) (w : World) (hc : Cs P [.int .i64 D.kd, .slice A.pa A.pn A.pc, .int .i64 D.wh, .slice A.la A.ln A.lc, .int .i64 D.qu, .int .i64 D.po, .int .i64 D.nn, .slice A.da A.dn A.dc] w) (hls : D.ls.length = A.ln) (hds : D.ds.length = A.dn) : Calls Try.prog 78 #[.pointer (some ⟨P, 0, none⟩)] w fun e w' => e = .returned (.bool (inB D.kd 1 6 && !tooB D)) ∧ w' = w := by
  have c0 := hc.cell 0 rfl
  have c1 := hc.cell 1 rfl
  have c2 := hc.cell 2 rfl
  have c3 := hc.cell 3 rfl
  have c4 := hc.cell 4 rfl
  have c5 := hc.cell 5 rfl
  have c6 := hc.cell 6 rfl
  have c7 := hc.cell 7 rfl
  have Hls := hide hls
  have Hds := hide hds
  clear hls hds hc
  have inC := fun (W : World) b (h : inB D.kd 1 6 = b) => inB_is D.kd 1 6 b W h
  have HIN := hide inC
  clear inC
  cases hin : inB D.kd 1 6 with
  | false =>
    go_enter Try.func78, Try.ntmps78
    go_wp2_with (go_at_call 72; with_reducible refine (HIN.out _ _ hin).mono ?_; rintro e w' ⟨rfl, hw'⟩; rw [hw']; clear hw' w')
    go_ret
    exact ⟨ret_bool (by simp), rfl⟩
  | true =>
  go_enter Try.func78, Try.ntmps78
  go_upto_region 1 with fail
  by_cases kh1 : D.kd = 1
  · have k1 : (D.kd == 1) = true := by simp [kh1]
    have m1 : (D.kd != 1) = false := by simp [kh1]
    have k2 : (D.kd == 2) = false := by simp [kh1]
    have m2 : (D.kd != 2) = true := by simp [kh1]
    have k3 : (D.kd == 3) = false := by simp [kh1]
    have m3 : (D.kd != 3) = true := by simp [kh1]
    have k5 : (D.kd == 5) = false := by simp [kh1]
    have m5 : (D.kd != 5) = true := by simp [kh1]
    clear kh1
    go_upto_region 3 with (go_at_call 72; with_reducible refine (HIN.out _ _ hin).mono ?_; rintro e w' ⟨rfl, hw'⟩; rw [hw']; clear hw' w')
    by_cases h0 : D.po = 0
    rotate_left
    · have pa_ : (D.po == 0) = false := by simpa using h0
      have pb_ : (D.po != 0) = true := by simpa using h0
      clear h0
      have HR : Hid ((true && !tooB D) = false) := by show _ = _; unfold tooB; simp [k1, k2, k3, k5, pa_]
      go_wp2
      go_ret
      exact ⟨ret_bool HR.out.symm, rfl⟩
    have pa_ : (D.po == 0) = true := by simpa using h0
    have pb_ : (D.po != 0) = false := by simpa using h0
    clear h0
    by_cases h0 : D.ds.length = 0
    rotate_left
    · have da_ : (D.ds.length == 0) = false := by simpa using h0
      have db_ : ((A.dn : Int) > 0) := by have := Hds.out; omega
      clear h0
      have HR : Hid ((true && !tooB D) = false) := by show _ = _; unfold tooB; simp [k1, k2, k3, k5, pa_, da_]
      go_wp2
      go_ret
      exact ⟨ret_bool HR.out.symm, rfl⟩
    have da_ : (D.ds.length == 0) = true := by simpa using h0
    have db_ : ¬ ((A.dn : Int) > 0) := by have := Hds.out; omega
    clear h0
    have HR : Hid ((true && !tooB D) = (D.nn == 0)) := by show _ = _; unfold tooB; simp [k1, k2, k3, k5, pa_, da_]
    go_wp2
    go_ret
    exact ⟨ret_bool HR.out.symm, rfl⟩
  by_cases kh2 : D.kd = 2
  · have k1 : (D.kd == 1) = false := by simp [kh2]
    have m1 : (D.kd != 1) = true := by simp [kh2]
    have k2 : (D.kd == 2) = true := by simp [kh2]
    have m2 : (D.kd != 2) = false := by simp [kh2]
    have k3 : (D.kd == 3) = false := by simp [kh2]
    have m3 : (D.kd != 3) = true := by simp [kh2]
    have k5 : (D.kd == 5) = false := by simp [kh2]
    have m5 : (D.kd != 5) = true := by simp [kh2]
    clear kh1 kh2
    by_cases h0 : D.wh = 0
    rotate_left
    · have wa : (D.wh == 0) = false := by simpa using h0
      have wb : (D.wh != 0) = true := by simpa using h0
      clear h0
      have HR : Hid ((true && !tooB D) = false) := by show _ = _; unfold tooB; simp [k1, k2, k3, k5, wa]
      go_wp2_with (go_at_call 72; with_reducible refine (HIN.out _ _ hin).mono ?_; rintro e w' ⟨rfl, hw'⟩; rw [hw']; clear hw' w')
      go_ret
      exact ⟨ret_bool HR.out.symm, rfl⟩
    have wa : (D.wh == 0) = true := by simpa using h0
    have wb : (D.wh != 0) = false := by simpa using h0
    clear h0
    by_cases h0 : D.ls.length = 0
    rotate_left
    · have la_ : (D.ls.length == 0) = false := by simpa using h0
      have lb_ : ((A.ln : Int) > 0) := by have := Hls.out; omega
      clear h0
      have HR : Hid ((true && !tooB D) = false) := by show _ = _; unfold tooB; simp [k1, k2, k3, k5, wa, la_]
      go_wp2_with (go_at_call 72; with_reducible refine (HIN.out _ _ hin).mono ?_; rintro e w' ⟨rfl, hw'⟩; rw [hw']; clear hw' w')
      go_ret
      exact ⟨ret_bool HR.out.symm, rfl⟩
    have la_ : (D.ls.length == 0) = true := by simpa using h0
    have lb_ : ¬ ((A.ln : Int) > 0) := by have := Hls.out; omega
    clear h0
    by_cases h0 : D.qu = 0
    rotate_left
    · have qa : (D.qu == 0) = false := by simpa using h0
      have qb : (D.qu != 0) = true := by simpa using h0
      clear h0
      have HR : Hid ((true && !tooB D) = false) := by show _ = _; unfold tooB; simp [k1, k2, k3, k5, wa, la_, qa]
      go_wp2_with (go_at_call 72; with_reducible refine (HIN.out _ _ hin).mono ?_; rintro e w' ⟨rfl, hw'⟩; rw [hw']; clear hw' w')
      go_ret
      exact ⟨ret_bool HR.out.symm, rfl⟩
    have qa : (D.qu == 0) = true := by simpa using h0
    have qb : (D.qu != 0) = false := by simpa using h0
    clear h0
    go_upto_region 3 with (go_at_call 72; with_reducible refine (HIN.out _ _ hin).mono ?_; rintro e w' ⟨rfl, hw'⟩; rw [hw']; clear hw' w')
    by_cases h0 : D.ds.length = 0
    rotate_left
    · have da_ : (D.ds.length == 0) = false := by simpa using h0
      have db_ : ((A.dn : Int) > 0) := by have := Hds.out; omega
      clear h0
      have HR : Hid ((true && !tooB D) = false) := by show _ = _; unfold tooB; simp [k1, k2, k3, k5, wa, la_, qa, da_]
      go_wp2
      go_ret
      exact ⟨ret_bool HR.out.symm, rfl⟩
    have da_ : (D.ds.length == 0) = true := by simpa using h0
    have db_ : ¬ ((A.dn : Int) > 0) := by have := Hds.out; omega
    clear h0
    have HR : Hid ((true && !tooB D) = true) := by show _ = _; unfold tooB; simp [k1, k2, k3, k5, wa, la_, qa, da_]
    go_wp2
    go_ret
    exact ⟨ret_bool HR.out.symm, rfl⟩
  by_cases kh3 : D.kd = 3
  · have k1 : (D.kd == 1) = false := by simp [kh3]
    have m1 : (D.kd != 1) = true := by simp [kh3]
    have k2 : (D.kd == 2) = false := by simp [kh3]
    have m2 : (D.kd != 2) = true := by simp [kh3]
    have k3 : (D.kd == 3) = true := by simp [kh3]
    have m3 : (D.kd != 3) = false := by simp [kh3]
    have k5 : (D.kd == 5) = false := by simp [kh3]
    have m5 : (D.kd != 5) = true := by simp [kh3]
    clear kh1 kh2 kh3
    by_cases h0 : D.wh = 0
    rotate_left
    · have wa : (D.wh == 0) = false := by simpa using h0
      have wb : (D.wh != 0) = true := by simpa using h0
      clear h0
      have HR : Hid ((true && !tooB D) = false) := by show _ = _; unfold tooB; simp [k1, k2, k3, k5, wa]
      go_wp2_with (go_at_call 72; with_reducible refine (HIN.out _ _ hin).mono ?_; rintro e w' ⟨rfl, hw'⟩; rw [hw']; clear hw' w')
      go_ret
      exact ⟨ret_bool HR.out.symm, rfl⟩
    have wa : (D.wh == 0) = true := by simpa using h0
    have wb : (D.wh != 0) = false := by simpa using h0
    clear h0
    by_cases h0 : D.ls.length = 0
    rotate_left
    · have la_ : (D.ls.length == 0) = false := by simpa using h0
      have lb_ : ((A.ln : Int) > 0) := by have := Hls.out; omega
      clear h0
      have HR : Hid ((true && !tooB D) = false) := by show _ = _; unfold tooB; simp [k1, k2, k3, k5, wa, la_]
      go_wp2_with (go_at_call 72; with_reducible refine (HIN.out _ _ hin).mono ?_; rintro e w' ⟨rfl, hw'⟩; rw [hw']; clear hw' w')
      go_ret
      exact ⟨ret_bool HR.out.symm, rfl⟩
    have la_ : (D.ls.length == 0) = true := by simpa using h0
    have lb_ : ¬ ((A.ln : Int) > 0) := by have := Hls.out; omega
    clear h0
    by_cases h0 : D.qu = 0
    rotate_left
    · have qa : (D.qu == 0) = false := by simpa using h0
      have qb : (D.qu != 0) = true := by simpa using h0
      clear h0
      have HR : Hid ((true && !tooB D) = false) := by show _ = _; unfold tooB; simp [k1, k2, k3, k5, wa, la_, qa]
      go_wp2_with (go_at_call 72; with_reducible refine (HIN.out _ _ hin).mono ?_; rintro e w' ⟨rfl, hw'⟩; rw [hw']; clear hw' w')
      go_ret
      exact ⟨ret_bool HR.out.symm, rfl⟩
    have qa : (D.qu == 0) = true := by simpa using h0
    have qb : (D.qu != 0) = false := by simpa using h0
    clear h0
    go_upto_region 3 with (go_at_call 72; with_reducible refine (HIN.out _ _ hin).mono ?_; rintro e w' ⟨rfl, hw'⟩; rw [hw']; clear hw' w')
    have HR : Hid ((true && !tooB D) = (D.nn == 0)) := by show _ = _; unfold tooB; simp [k1, k2, k3, k5, wa, la_, qa]
    go_wp2
    go_ret
    exact ⟨ret_bool HR.out.symm, rfl⟩
  by_cases kh5 : D.kd = 5
  · have k1 : (D.kd == 1) = false := by simp [kh5]
    have m1 : (D.kd != 1) = true := by simp [kh5]
    have k2 : (D.kd == 2) = false := by simp [kh5]
    have m2 : (D.kd != 2) = true := by simp [kh5]
    have k3 : (D.kd == 3) = false := by simp [kh5]
    have m3 : (D.kd != 3) = true := by simp [kh5]
    have k5 : (D.kd == 5) = true := by simp [kh5]
    have m5 : (D.kd != 5) = false := by simp [kh5]
    clear kh1 kh2 kh3 kh5
    by_cases h0 : D.wh = 0
    rotate_left
    · have wa : (D.wh == 0) = false := by simpa using h0
      have wb : (D.wh != 0) = true := by simpa using h0
      clear h0
      have HR : Hid ((true && !tooB D) = false) := by show _ = _; unfold tooB; simp [k1, k2, k3, k5, wa]
      go_wp2_with (go_at_call 72; with_reducible refine (HIN.out _ _ hin).mono ?_; rintro e w' ⟨rfl, hw'⟩; rw [hw']; clear hw' w')
      go_ret
      exact ⟨ret_bool HR.out.symm, rfl⟩
    have wa : (D.wh == 0) = true := by simpa using h0
    have wb : (D.wh != 0) = false := by simpa using h0
    clear h0
    by_cases h0 : D.ls.length = 0
    rotate_left
    · have la_ : (D.ls.length == 0) = false := by simpa using h0
      have lb_ : ((A.ln : Int) > 0) := by have := Hls.out; omega
      clear h0
      have HR : Hid ((true && !tooB D) = false) := by show _ = _; unfold tooB; simp [k1, k2, k3, k5, wa, la_]
      go_wp2_with (go_at_call 72; with_reducible refine (HIN.out _ _ hin).mono ?_; rintro e w' ⟨rfl, hw'⟩; rw [hw']; clear hw' w')
      go_ret
      exact ⟨ret_bool HR.out.symm, rfl⟩
    have la_ : (D.ls.length == 0) = true := by simpa using h0
    have lb_ : ¬ ((A.ln : Int) > 0) := by have := Hls.out; omega
    clear h0
    by_cases h0 : D.qu = 0
    rotate_left
    · have qa : (D.qu == 0) = false := by simpa using h0
      have qb : (D.qu != 0) = true := by simpa using h0
      clear h0
      have HR : Hid ((true && !tooB D) = false) := by show _ = _; unfold tooB; simp [k1, k2, k3, k5, wa, la_, qa]
      go_wp2_with (go_at_call 72; with_reducible refine (HIN.out _ _ hin).mono ?_; rintro e w' ⟨rfl, hw'⟩; rw [hw']; clear hw' w')
      go_ret
      exact ⟨ret_bool HR.out.symm, rfl⟩
    have qa : (D.qu == 0) = true := by simpa using h0
    have qb : (D.qu != 0) = false := by simpa using h0
    clear h0
    go_upto_region 3 with (go_at_call 72; with_reducible refine (HIN.out _ _ hin).mono ?_; rintro e w' ⟨rfl, hw'⟩; rw [hw']; clear hw' w')
    by_cases h0 : D.po = 0
    rotate_left
    · have pa_ : (D.po == 0) = false := by simpa using h0
      have pb_ : (D.po != 0) = true := by simpa using h0
      clear h0
      have HR : Hid ((true && !tooB D) = false) := by show _ = _; unfold tooB; simp [k1, k2, k3, k5, wa, la_, qa, pa_]
      go_wp2
      go_ret
      exact ⟨ret_bool HR.out.symm, rfl⟩
    have pa_ : (D.po == 0) = true := by simpa using h0
    have pb_ : (D.po != 0) = false := by simpa using h0
    clear h0
    by_cases h0 : D.ds.length = 0
    rotate_left
    · have da_ : (D.ds.length == 0) = false := by simpa using h0
      have db_ : ((A.dn : Int) > 0) := by have := Hds.out; omega
      clear h0
      have HR : Hid ((true && !tooB D) = false) := by show _ = _; unfold tooB; simp [k1, k2, k3, k5, wa, la_, qa, pa_, da_]
      go_wp2
      go_ret
      exact ⟨ret_bool HR.out.symm, rfl⟩
    have da_ : (D.ds.length == 0) = true := by simpa using h0
    have db_ : ¬ ((A.dn : Int) > 0) := by have := Hds.out; omega
    clear h0
    have HR : Hid ((true && !tooB D) = true) := by show _ = _; unfold tooB; simp [k1, k2, k3, k5, wa, la_, qa, pa_, da_]
    go_wp2
    go_ret
    exact ⟨ret_bool HR.out.symm, rfl⟩
  have k1 : (D.kd == 1) = false := by simpa using kh1
  have m1 : (D.kd != 1) = true := by simpa using kh1
  have k2 : (D.kd == 2) = false := by simpa using kh2
  have m2 : (D.kd != 2) = true := by simpa using kh2
  have k3 : (D.kd == 3) = false := by simpa using kh3
  have m3 : (D.kd != 3) = true := by simpa using kh3
  have k5 : (D.kd == 5) = false := by simpa using kh5
  have m5 : (D.kd != 5) = true := by simpa using kh5
  clear kh1 kh2 kh3 kh5
  by_cases h0 : D.wh = 0
  rotate_left
  · have wa : (D.wh == 0) = false := by simpa using h0
    have wb : (D.wh != 0) = true := by simpa using h0
    clear h0
    have HR : Hid ((true && !tooB D) = false) := by show _ = _; unfold tooB; simp [k1, k2, k3, k5, wa]
    go_wp2_with (go_at_call 72; with_reducible refine (HIN.out _ _ hin).mono ?_; rintro e w' ⟨rfl, hw'⟩; rw [hw']; clear hw' w')
    go_ret
    exact ⟨ret_bool HR.out.symm, rfl⟩
  have wa : (D.wh == 0) = true := by simpa using h0
  have wb : (D.wh != 0) = false := by simpa using h0
  clear h0
  by_cases h0 : D.ls.length = 0
  rotate_left
  · have la_ : (D.ls.length == 0) = false := by simpa using h0
    have lb_ : ((A.ln : Int) > 0) := by have := Hls.out; omega
    clear h0
    have HR : Hid ((true && !tooB D) = false) := by show _ = _; unfold tooB; simp [k1, k2, k3, k5, wa, la_]
    go_wp2_with (go_at_call 72; with_reducible refine (HIN.out _ _ hin).mono ?_; rintro e w' ⟨rfl, hw'⟩; rw [hw']; clear hw' w')
    go_ret
    exact ⟨ret_bool HR.out.symm, rfl⟩
  have la_ : (D.ls.length == 0) = true := by simpa using h0
  have lb_ : ¬ ((A.ln : Int) > 0) := by have := Hls.out; omega
  clear h0
  by_cases h0 : D.qu = 0
  rotate_left
  · have qa : (D.qu == 0) = false := by simpa using h0
    have qb : (D.qu != 0) = true := by simpa using h0
    clear h0
    have HR : Hid ((true && !tooB D) = false) := by show _ = _; unfold tooB; simp [k1, k2, k3, k5, wa, la_, qa]
    go_wp2_with (go_at_call 72; with_reducible refine (HIN.out _ _ hin).mono ?_; rintro e w' ⟨rfl, hw'⟩; rw [hw']; clear hw' w')
    go_ret
    exact ⟨ret_bool HR.out.symm, rfl⟩
  have qa : (D.qu == 0) = true := by simpa using h0
  have qb : (D.qu != 0) = false := by simpa using h0
  clear h0
  go_upto_region 3 with (go_at_call 72; with_reducible refine (HIN.out _ _ hin).mono ?_; rintro e w' ⟨rfl, hw'⟩; rw [hw']; clear hw' w')
  by_cases h0 : D.po = 0
  rotate_left
  · have pa_ : (D.po == 0) = false := by simpa using h0
    have pb_ : (D.po != 0) = true := by simpa using h0
    clear h0
    have HR : Hid ((true && !tooB D) = false) := by show _ = _; unfold tooB; simp [k1, k2, k3, k5, wa, la_, qa, pa_]
    go_wp2
    go_ret
    exact ⟨ret_bool HR.out.symm, rfl⟩
  have pa_ : (D.po == 0) = true := by simpa using h0
  have pb_ : (D.po != 0) = false := by simpa using h0
  clear h0
  by_cases h0 : D.ds.length = 0
  rotate_left
  · have da_ : (D.ds.length == 0) = false := by simpa using h0
    have db_ : ((A.dn : Int) > 0) := by have := Hds.out; omega
    clear h0
    have HR : Hid ((true && !tooB D) = false) := by show _ = _; unfold tooB; simp [k1, k2, k3, k5, wa, la_, qa, pa_, da_]
    go_wp2
    go_ret
    exact ⟨ret_bool HR.out.symm, rfl⟩
  have da_ : (D.ds.length == 0) = true := by simpa using h0
  have db_ : ¬ ((A.dn : Int) > 0) := by have := Hds.out; omega
  clear h0
  have HR : Hid ((true && !tooB D) = (D.nn == 0)) := by show _ = _; unfold tooB; simp [k1, k2, k3, k5, wa, la_, qa, pa_, da_]
  go_wp2
  go_ret
  exact ⟨ret_bool HR.out.symm, rfl⟩

set_option maxRecDepth 100000 in
set_option maxHeartbeats 4000000 in
theorem l12Fault_calls (P : Nat) (A : AkA) (D : AkD) (w : World) (hP : P < w.heap.size) (hc : Cs P [.int .i64 D.kd, .slice A.pa A.pn A.pc, .int .i64 D.wh, .slice A.la A.ln A.lc, .int .i64 D.qu, .int .i64 D.po, .int .i64 D.nn, .slice A.da A.dn A.dc] w) (hr : RK w A D) : Calls Try.prog 55 #[.pointer (some ⟨P, 0, none⟩)] w fun e w' => e = .returned (.int .i64 (askF D)) ∧ Below w.heap.size w w' := by
  have c0 := hc.cell 0 rfl
  have c1 := hc.cell 1 rfl
  have c2 := hc.cell 2 rfl
  have c3 := hc.cell 3 rfl
  have c4 := hc.cell 4 rfl
  have c5 := hc.cell 5 rfl
  have c6 := hc.cell 6 rfl
  have c7 := hc.cell 7 rfl
  have HF := hide (l12Form_calls P A D w hc hr.ls.1 hr.ds.1)
  have HP := hide (fun b (h : nmB D.ps = b) => l12All_is A.pa A.pn A.pc D.ps 1 99 b w hr.pm hr.ps h)
  have HD := hide (fun b (h : D.ds.all okv = b) => l12All_is A.da A.dn A.dc D.ds 0 65535 b w hr.dm hr.ds h)
  have HL := hide (l1FaultO_calls P 3 A.la A.ln A.lc D.ls w hr.lm hP c3 hr.ls)
  have HT : Hid (∀ W, Below w.heap.size w W → Calls Try.prog 80 #[.pointer (some ⟨P, 3, none⟩)] W fun e w' => e = .returned (.bool (thing0 D.ls)) ∧ w' = W) := fun W hW => l1ThingO_calls P 3 A.la A.ln A.lc D.ls W hr.lm ((hW.cell (p := ⟨P, 3, none⟩) hP).trans c3) (hr.ls.below hW (Nat.le_refl _))
  have hps := hr.ps.1
  have hds := hr.ds.1
  clear hr hc
  cases hin : (inB D.kd 1 6 && !tooB D) with
  | false =>
    have HV : Hid (askF D = 1) := askF_form (by cases h : inB D.kd 1 6 <;> simp [h] at hin ⊢; exact hin)
    rw [hin] at HF
    clear hin hps hds
    go_enter Try.func55, Try.ntmps55
    go_wp2_with (go_at_call 78; with_reducible refine HF.out.mono ?_; rintro e w' ⟨rfl, hw'⟩; rw [hw']; clear hw' w')
    go_ret
    exact ⟨ret_int HV.out.symm, Below.refl _ _⟩
  | true =>
  rw [hin] at HF
  obtain ⟨g1, g2⟩ : inB D.kd 1 6 = true ∧ tooB D = false := by simpa using hin
  clear hin
  by_cases t1 : D.ps.length > 6
  · have HV : Hid (askF D = 2) := askF_many g1 g2 (.inl t1)
    have t2 : (A.pn : Int) > 6 := by omega
    clear g1 g2 t1 hps hds
    go_enter Try.func55, Try.ntmps55
    go_wp2_with (go_at_call 78; with_reducible refine HF.out.mono ?_; rintro e w' ⟨rfl, hw'⟩; rw [hw']; clear hw' w')
    go_ret
    exact ⟨ret_int HV.out.symm, Below.refl _ _⟩
  have t2 : ¬ ((A.pn : Int) > 6) := by omega
  by_cases t3 : D.ds.length > 20
  · have HV : Hid (askF D = 2) := askF_many g1 g2 (.inr t3)
    have t4 : (A.dn : Int) > 20 := by omega
    clear g1 g2 t1 t3 hps hds
    go_enter Try.func55, Try.ntmps55
    go_wp2_with (go_at_call 78; with_reducible refine HF.out.mono ?_; rintro e w' ⟨rfl, hw'⟩; rw [hw']; clear hw' w')
    go_ret
    exact ⟨ret_int HV.out.symm, Below.refl _ _⟩
  have t4 : ¬ ((A.dn : Int) > 20) := by omega
  have HM : Hid (¬ (6 < D.ps.length ∨ 20 < D.ds.length)) := by show ¬ _; omega
  have HG := hide g1
  have HG2 := hide g2
  clear t1 t3 hps hds g1 g2
  go_enter Try.func55, Try.ntmps55
  go_upto_region 5 with (go_at_call 78; with_reducible refine HF.out.mono ?_; rintro e w' ⟨rfl, hw'⟩; rw [hw']; clear hw' w')
  clear HF t2 t4
  cases b1 : nmB D.ps with
  | false =>
    have HV : Hid (askF D = 3) := askF_range HG.out HG2.out HM.out (by unfold rgA; simp [b1])
    go_wp2_with (first | (go_at_call 79; with_reducible refine (HP.out _ b1).mono ?_; rintro e w' ⟨rfl, hw'⟩; rw [hw']; clear hw' w'))
    go_ret
    exact ⟨ret_int HV.out.symm, Below.refl _ _⟩
  | true =>
  cases b2 : D.ds.all okv with
  | false =>
    have HV : Hid (askF D = 3) := askF_range HG.out HG2.out HM.out (by unfold rgA; simp [b1, b2])
    go_wp2_with (first | (go_at_call 79; with_reducible refine (HP.out _ b1).mono ?_; rintro e w' ⟨rfl, hw'⟩; rw [hw']; clear hw' w') | (go_at_call 79; with_reducible refine (HD.out _ b2).mono ?_; rintro e w' ⟨rfl, hw'⟩; rw [hw']; clear hw' w'))
    go_ret
    exact ⟨ret_int HV.out.symm, Below.refl _ _⟩
  | true =>
  cases b3 : inB D.qu 0 200 with
  | false =>
    have HV : Hid (askF D = 3) := askF_range HG.out HG2.out HM.out (by unfold rgA; simp [b1, b2, b3])
    go_wp2_with (first | (go_at_call 79; with_reducible refine (HP.out _ b1).mono ?_; rintro e w' ⟨rfl, hw'⟩; rw [hw']; clear hw' w') | (go_at_call 79; with_reducible refine (HD.out _ b2).mono ?_; rintro e w' ⟨rfl, hw'⟩; rw [hw']; clear hw' w') | (go_at_call 72; with_reducible refine (inB_is _ _ _ _ _ b3).mono ?_; rintro e w' ⟨rfl, hw'⟩; rw [hw']; clear hw' w'))
    go_ret
    exact ⟨ret_int HV.out.symm, Below.refl _ _⟩
  | true =>
  cases b4 : inB D.po 0 200 with
  | false =>
    have HV : Hid (askF D = 3) := askF_range HG.out HG2.out HM.out (by unfold rgA; simp [b1, b2, b3, b4])
    go_wp2_with (first | (go_at_call 79; with_reducible refine (HP.out _ b1).mono ?_; rintro e w' ⟨rfl, hw'⟩; rw [hw']; clear hw' w') | (go_at_call 79; with_reducible refine (HD.out _ b2).mono ?_; rintro e w' ⟨rfl, hw'⟩; rw [hw']; clear hw' w') | (go_at_call 72; with_reducible refine (inB_is _ _ _ _ _ b3).mono ?_; rintro e w' ⟨rfl, hw'⟩; rw [hw']; clear hw' w') | (go_at_call 72; with_reducible refine (inB_is _ _ _ _ _ b4).mono ?_; rintro e w' ⟨rfl, hw'⟩; rw [hw']; clear hw' w'))
    go_ret
    exact ⟨ret_int HV.out.symm, Below.refl _ _⟩
  | true =>
  cases b5 : inB D.nn 0 200 with
  | false =>
    have HV : Hid (askF D = 3) := askF_range HG.out HG2.out HM.out (by unfold rgA; simp [b1, b2, b3, b4, b5])
    go_wp2_with (first | (go_at_call 79; with_reducible refine (HP.out _ b1).mono ?_; rintro e w' ⟨rfl, hw'⟩; rw [hw']; clear hw' w') | (go_at_call 79; with_reducible refine (HD.out _ b2).mono ?_; rintro e w' ⟨rfl, hw'⟩; rw [hw']; clear hw' w') | (go_at_call 72; with_reducible refine (inB_is _ _ _ _ _ b3).mono ?_; rintro e w' ⟨rfl, hw'⟩; rw [hw']; clear hw' w') | (go_at_call 72; with_reducible refine (inB_is _ _ _ _ _ b4).mono ?_; rintro e w' ⟨rfl, hw'⟩; rw [hw']; clear hw' w') | (go_at_call 72; with_reducible refine (inB_is _ _ _ _ _ b5).mono ?_; rintro e w' ⟨rfl, hw'⟩; rw [hw']; clear hw' w'))
    go_ret
    exact ⟨ret_int HV.out.symm, Below.refl _ _⟩
  | true =>
  have HR : Hid (rgA D = true) := by show _ = _; unfold rgA; simp [b1, b2, b3, b4, b5]
  go_upto_region 7 with (first | (go_at_call 79; with_reducible refine (HP.out _ b1).mono ?_; rintro e w' ⟨rfl, hw'⟩; rw [hw']; clear hw' w') | (go_at_call 79; with_reducible refine (HD.out _ b2).mono ?_; rintro e w' ⟨rfl, hw'⟩; rw [hw']; clear hw' w') | (go_at_call 72; with_reducible refine (inB_is _ _ _ _ _ b3).mono ?_; rintro e w' ⟨rfl, hw'⟩; rw [hw']; clear hw' w') | (go_at_call 72; with_reducible refine (inB_is _ _ _ _ _ b4).mono ?_; rintro e w' ⟨rfl, hw'⟩; rw [hw']; clear hw' w') | (go_at_call 72; with_reducible refine (inB_is _ _ _ _ _ b5).mono ?_; rintro e w' ⟨rfl, hw'⟩; rw [hw']; clear hw' w'))
  clear HP HD b1 b2 b3 b4 b5
  by_cases k1 : D.kd = 1
  rotate_left
  · have HV : Hid (askF D = 0) := askF_else HG.out HG2.out HM.out HR.out k1
    have m1 : (D.kd != 1) = true := by simpa using k1
    clear k1
    go_wp2
    go_ret
    exact ⟨ret_int HV.out.symm, Below.refl _ _⟩
  have m1 : (D.kd != 1) = false := by simp [k1]
  cases b6 : inB D.wh 1 2 with
  | false =>
    have HV : Hid (askF D = 3) := askF_what HG.out HG2.out HM.out HR.out k1 b6
    clear k1
    go_wp2_with (go_at_call 72; with_reducible refine (inB_is _ _ _ _ _ b6).mono ?_; rintro e w' ⟨rfl, hw'⟩; rw [hw']; clear hw' w')
    go_ret
    exact ⟨ret_int HV.out.symm, Below.refl _ _⟩
  | true =>
  have HV : Hid (askF D = thgF D.ls) := askF_make HG.out HG2.out HM.out HR.out k1 b6
  clear k1
  go_wp2_with (go_at_call 72; with_reducible refine (inB_is _ _ _ _ _ b6).mono ?_; rintro e w' ⟨rfl, hw'⟩; rw [hw']; clear hw' w')
  refine HL.out.mono ?_
  rintro e w1 ⟨rfl, g1⟩
  by_cases h1 : fault D.ls = 0
  rotate_left
  · have HV2 : Hid (thgF D.ls = fault D.ls) := if_pos h1
    have e1 : (fault D.ls != 0) = true := by simpa using h1
    clear h1
    go_wp2
    go_ret
    exact ⟨ret_int (by rw [HV.out, HV2.out]), g1⟩
  have e1 : (fault D.ls != 0) = false := by simp [h1]
  have HV2 : Hid (thgF D.ls = if thing0 D.ls = false then 1 else 0) := if_neg (by simpa using h1)
  have HTW := hide (HT.out w1 g1)
  clear h1
  go_wp2_with fail
  refine HTW.out.mono ?_
  rintro e w' ⟨rfl, hw'⟩; rw [hw']; clear hw' w'
  cases h2 : thing0 D.ls with
  | false =>
    go_wp2
    go_ret
    exact ⟨ret_int (by rw [HV.out, HV2.out, h2]; rfl), g1⟩
  | true =>
    go_wp2
    go_ret
    exact ⟨ret_int (by rw [HV.out, HV2.out, h2]; rfl), g1⟩

set_option maxRecDepth 100000 in
theorem specAskFault_calls (A : AkA) (D : AkD) (w : World) (hr : RK w A D) : Calls Try.prog 21 #[.agg #[.int .i64 D.kd, .slice A.pa A.pn A.pc, .int .i64 D.wh, .slice A.la A.ln A.lc, .int .i64 D.qu, .int .i64 D.po, .int .i64 D.nn, .slice A.da A.dn A.dc]] w fun e w' => e = .returned (.int .i64 (askF D)) ∧ Below w.heap.size w w' := by
  have M0 := (Mm.start w).allocC [.int .i64 D.kd, .slice A.pa A.pn A.pc, .int .i64 D.wh, .slice A.la A.ln A.lc, .int .i64 D.qu, .int .i64 D.po, .int .i64 D.nn, .slice A.da A.dn A.dc] 49
  have HF := hide (l12Fault_calls w.heap.size A D _ (by simp) (M0.get 0 rfl) (hr.below M0.bel (Nat.le_refl _)))
  have HB := hide M0.bel
  clear M0
  go_enter Try.func21, Try.ntmps21
  go_wp2_with fail
  refine HF.out.mono ?_
  rintro e w1 ⟨rfl, g1⟩
  have HE := hide (HB.out.trans (g1.mono HB.out.size))
  clear g1
  go_wp2
  go_ret
  exact ⟨rfl, HE.out⟩

end Go.Proofs.Ytpcdfeccmiiglaa
