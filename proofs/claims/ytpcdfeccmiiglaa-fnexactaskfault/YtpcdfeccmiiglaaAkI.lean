import Derived.Test.YtpcdfeccmiiglaaAkS
import Derived.Test.YtpcdfeccmiiglaaKiA
import Derived.WalkKit
import Derived.ProofKit
import Derived.OpenShut
import Derived.ShutString
import Derived.ChangeOld
import Derived.Below
import Derived.WalkSpells
import Derived.Deep.QuietTactic
import Derived.BigQuiet
import Derived.Deep.RegionWith
import Derived.Deep.WholeRow
import Derived.Deep.DeepCutAuto
import Derived.Deep.RegionHeld2
import Derived.Deep.AppendLies
import Derived.Deep.RegionLaw
namespace Go.Proofs.Ytpcdfeccmiiglaa
open Go.ChangeShapes Go.WideShapes Go.ChangeAt Go.RowKit

set_option maxRecDepth 100000 in
theorem areNames_is (a : Option Addr) (n c : Nat) (zs : List Int) (b : Bool) (w : World) (hn : n ≤ maxLen) (hs : Sl w a n zs) (hb : nmB zs = b) :
    Calls Try.prog 81 #[.slice a n c] w fun e w' => e = .returned (.bool b) ∧ w' = w := by
  subst hb
  unfold maxLen at hn
  obtain ⟨hlen, hs⟩ := hs
  go_enter Try.func81, Try.ntmps81
  go_wp2
  go_loop [7] (fun i => ∃ k : Nat, k ≤ n ∧ i = .int .i64 k ∧ ∀ j, j < k → inB (gt zs j) 1 99 = true) (fun i => n - (intOf i).toNat)
  case atStart => exact ⟨0, Nat.zero_le _, rfl, fun j hj => by omega⟩
  case round =>
    obtain ⟨k, hk, rfl, hno⟩ := hrel
    have Hno := hide hno
    clear hno
    by_cases hlt : k < n
    · obtain ⟨bk, off, rfl, hb, hc⟩ := hs (by omega)
      have hck := hc k hlt
      have k0 : (0 : Int) ≤ (k : Int) := by omega
      have k1 : (k : Int) < (n : Int) := by omega
      clear hc
      obtain ⟨z, hz⟩ : ∃ z, z = gt zs k := ⟨_, rfl⟩
      rw [← hz] at hck
      by_cases h1 : z < 1
      · have HR : Hid (nmB zs = false) := all_in (k := k) (by omega) (by rw [← hz]; unfold inB; rw [decide_eq_false (by omega)]; rfl)
        clear hz
        go_wp2
        go_ret
        exact ⟨ret_bool HR.out.symm, rfl⟩
      by_cases h2 : z > 99
      · have HR : Hid (nmB zs = false) := all_in (k := k) (by omega) (by rw [← hz]; unfold inB; rw [decide_eq_false (p := z ≤ 99) (by omega), Bool.and_false])
        clear hz
        go_wp2
        go_ret
        exact ⟨ret_bool HR.out.symm, rfl⟩
      have HN : Hid (∀ j, j < k + 1 → inB (gt zs j) 1 99 = true) := fun j hj => by
        by_cases e : j = k
        · subst e; rw [← hz]; exact inB_iff.2 ⟨by omega, by omega⟩
        · exact Hno.out j (by omega)
      clear hz
      go_wp2
      go_round
      case rel => exact ⟨k + 1, by omega, by go_num, HN.out⟩
      case measure => simp [intOf]; omega
    · have HR : Hid (nmB zs = true) := all_in_yes (fun j hj => Hno.out j (by omega))
      clear hs
      go_wp2
      go_ret
      exact ⟨ret_bool HR.out.symm, rfl⟩

set_option maxRecDepth 100000 in
set_option maxHeartbeats 4000000 in
theorem hasTooMuch_calls (A : AkA) (D : AkD) (b : Bool) (w : World) (hls : D.ls.length = A.ln) (hds : D.ds.length = A.dn) (hb : tooB D = b) : Calls Try.prog 56 #[.agg #[.int .i64 D.kd, .slice A.pa A.pn A.pc, .int .i64 D.wh, .slice A.la A.ln A.lc, .int .i64 D.qu, .int .i64 D.po, .int .i64 D.nn, .slice A.da A.dn A.dc]] w fun e w' => e = .returned (.bool b) ∧ Below w.heap.size w w' := by
  subst hb
  have HB : Hid (Below w.heap.size w (w.alloc (.cells #[.int .i64 D.kd, .slice A.pa A.pn A.pc, .int .i64 D.wh, .slice A.la A.ln A.lc, .int .i64 D.qu, .int .i64 D.po, .int .i64 D.nn, .slice A.da A.dn A.dc] 49))) := (Below.refl _ _).alloc (Nat.le_refl _) _
  have Hls := hide hls
  have Hds := hide hds
  clear hls hds
  by_cases kh1 : D.kd = 1
  · have k1 : (D.kd == 1) = true := by simp [kh1]
    have m1 : (D.kd != 1) = false := by simp [kh1]
    have k2 : (D.kd == 2) = false := by simp [kh1]
    have m2 : (D.kd != 2) = true := by simp [kh1]
    have k3 : (D.kd == 3) = false := by simp [kh1]
    have m3 : (D.kd != 3) = true := by simp [kh1]
    have k5 : (D.kd == 5) = false := by simp [kh1]
    have m5 : (D.kd != 5) = true := by simp [kh1]
    clear kh1
    go_enter Try.func56, Try.ntmps56
    go_upto_region 5 with fail
    by_cases h0 : D.po = 0
    rotate_left
    · have pa_ : (D.po == 0) = false := by simpa using h0
      have pb_ : (D.po != 0) = true := by simpa using h0
      clear h0
      have HR : Hid (tooB D = true) := by show _ = _; unfold tooB; simp [k1, k2, k3, k5, pa_]
      go_wp2
      go_ret
      exact ⟨ret_bool HR.out.symm, HB.out⟩
    have pa_ : (D.po == 0) = true := by simpa using h0
    have pb_ : (D.po != 0) = false := by simpa using h0
    clear h0
    by_cases h0 : D.nn = 0
    rotate_left
    · have na : (D.nn == 0) = false := by simpa using h0
      have nb : (D.nn != 0) = true := by simpa using h0
      clear h0
      have HR : Hid (tooB D = true) := by show _ = _; unfold tooB; simp [k1, k2, k3, k5, pa_, na]
      go_wp2
      go_ret
      exact ⟨ret_bool HR.out.symm, HB.out⟩
    have na : (D.nn == 0) = true := by simpa using h0
    have nb : (D.nn != 0) = false := by simpa using h0
    clear h0
    by_cases h0 : D.ds.length = 0
    rotate_left
    · have da_ : (D.ds.length == 0) = false := by simpa using h0
      have db_ : decide (0 < A.dn) = true := by have := Hds.out; simp; omega
      clear h0
      have HR : Hid (tooB D = true) := by show _ = _; unfold tooB; simp [k1, k2, k3, k5, pa_, na, da_]
      go_wp2
      go_ret
      exact ⟨ret_bool HR.out.symm, HB.out⟩
    have da_ : (D.ds.length == 0) = true := by simpa using h0
    have db_ : decide (0 < A.dn) = false := by have := Hds.out; simp; omega
    clear h0
    have HR : Hid (tooB D = false) := by show _ = _; unfold tooB; simp [k1, k2, k3, k5, pa_, na, da_]
    go_wp2
    go_ret
    exact ⟨ret_bool HR.out.symm, HB.out⟩
  by_cases kh2 : D.kd = 2
  · have k1 : (D.kd == 1) = false := by simp [kh2]
    have m1 : (D.kd != 1) = true := by simp [kh2]
    have k2 : (D.kd == 2) = true := by simp [kh2]
    have m2 : (D.kd != 2) = false := by simp [kh2]
    have k3 : (D.kd == 3) = false := by simp [kh2]
    have m3 : (D.kd != 3) = true := by simp [kh2]
    have k5 : (D.kd == 5) = false := by simp [kh2]
    have m5 : (D.kd != 5) = true := by simp [kh2]
    clear kh1 kh2
    go_enter Try.func56, Try.ntmps56
    go_upto_region 5 with fail
    by_cases h0 : D.wh = 0
    rotate_left
    · have wa : (D.wh == 0) = false := by simpa using h0
      have wb : (D.wh != 0) = true := by simpa using h0
      clear h0
      have HR : Hid (tooB D = true) := by show _ = _; unfold tooB; simp [k1, k2, k3, k5, wa]
      go_wp2
      go_ret
      exact ⟨ret_bool HR.out.symm, HB.out⟩
    have wa : (D.wh == 0) = true := by simpa using h0
    have wb : (D.wh != 0) = false := by simpa using h0
    clear h0
    by_cases h0 : D.ls.length = 0
    rotate_left
    · have la_ : (D.ls.length == 0) = false := by simpa using h0
      have lb_ : decide (0 < A.ln) = true := by have := Hls.out; simp; omega
      clear h0
      have HR : Hid (tooB D = true) := by show _ = _; unfold tooB; simp [k1, k2, k3, k5, wa, la_]
      go_wp2
      go_ret
      exact ⟨ret_bool HR.out.symm, HB.out⟩
    have la_ : (D.ls.length == 0) = true := by simpa using h0
    have lb_ : decide (0 < A.ln) = false := by have := Hls.out; simp; omega
    clear h0
    by_cases h0 : D.qu = 0
    rotate_left
    · have qa : (D.qu == 0) = false := by simpa using h0
      have qb : (D.qu != 0) = true := by simpa using h0
      clear h0
      have HR : Hid (tooB D = true) := by show _ = _; unfold tooB; simp [k1, k2, k3, k5, wa, la_, qa]
      go_wp2
      go_ret
      exact ⟨ret_bool HR.out.symm, HB.out⟩
    have qa : (D.qu == 0) = true := by simpa using h0
    have qb : (D.qu != 0) = false := by simpa using h0
    clear h0
    by_cases h0 : D.ds.length = 0
    rotate_left
    · have da_ : (D.ds.length == 0) = false := by simpa using h0
      have db_ : decide (0 < A.dn) = true := by have := Hds.out; simp; omega
      clear h0
      have HR : Hid (tooB D = true) := by show _ = _; unfold tooB; simp [k1, k2, k3, k5, wa, la_, qa, da_]
      go_wp2
      go_ret
      exact ⟨ret_bool HR.out.symm, HB.out⟩
    have da_ : (D.ds.length == 0) = true := by simpa using h0
    have db_ : decide (0 < A.dn) = false := by have := Hds.out; simp; omega
    clear h0
    have HR : Hid (tooB D = false) := by show _ = _; unfold tooB; simp [k1, k2, k3, k5, wa, la_, qa, da_]
    go_wp2
    go_ret
    exact ⟨ret_bool HR.out.symm, HB.out⟩
  by_cases kh3 : D.kd = 3
  · have k1 : (D.kd == 1) = false := by simp [kh3]
    have m1 : (D.kd != 1) = true := by simp [kh3]
    have k2 : (D.kd == 2) = false := by simp [kh3]
    have m2 : (D.kd != 2) = true := by simp [kh3]
    have k3 : (D.kd == 3) = true := by simp [kh3]
    have m3 : (D.kd != 3) = false := by simp [kh3]
    have k5 : (D.kd == 5) = false := by simp [kh3]
    have m5 : (D.kd != 5) = true := by simp [kh3]
    clear kh1 kh2 kh3
    go_enter Try.func56, Try.ntmps56
    go_upto_region 5 with fail
    by_cases h0 : D.wh = 0
    rotate_left
    · have wa : (D.wh == 0) = false := by simpa using h0
      have wb : (D.wh != 0) = true := by simpa using h0
      clear h0
      have HR : Hid (tooB D = true) := by show _ = _; unfold tooB; simp [k1, k2, k3, k5, wa]
      go_wp2
      go_ret
      exact ⟨ret_bool HR.out.symm, HB.out⟩
    have wa : (D.wh == 0) = true := by simpa using h0
    have wb : (D.wh != 0) = false := by simpa using h0
    clear h0
    by_cases h0 : D.ls.length = 0
    rotate_left
    · have la_ : (D.ls.length == 0) = false := by simpa using h0
      have lb_ : decide (0 < A.ln) = true := by have := Hls.out; simp; omega
      clear h0
      have HR : Hid (tooB D = true) := by show _ = _; unfold tooB; simp [k1, k2, k3, k5, wa, la_]
      go_wp2
      go_ret
      exact ⟨ret_bool HR.out.symm, HB.out⟩
    have la_ : (D.ls.length == 0) = true := by simpa using h0
    have lb_ : decide (0 < A.ln) = false := by have := Hls.out; simp; omega
    clear h0
    by_cases h0 : D.qu = 0
    rotate_left
    · have qa : (D.qu == 0) = false := by simpa using h0
      have qb : (D.qu != 0) = true := by simpa using h0
      clear h0
      have HR : Hid (tooB D = true) := by show _ = _; unfold tooB; simp [k1, k2, k3, k5, wa, la_, qa]
      go_wp2
      go_ret
      exact ⟨ret_bool HR.out.symm, HB.out⟩
    have qa : (D.qu == 0) = true := by simpa using h0
    have qb : (D.qu != 0) = false := by simpa using h0
    clear h0
    by_cases h0 : D.nn = 0
    rotate_left
    · have na : (D.nn == 0) = false := by simpa using h0
      have nb : (D.nn != 0) = true := by simpa using h0
      clear h0
      have HR : Hid (tooB D = true) := by show _ = _; unfold tooB; simp [k1, k2, k3, k5, wa, la_, qa, na]
      go_wp2
      go_ret
      exact ⟨ret_bool HR.out.symm, HB.out⟩
    have na : (D.nn == 0) = true := by simpa using h0
    have nb : (D.nn != 0) = false := by simpa using h0
    clear h0
    have HR : Hid (tooB D = false) := by show _ = _; unfold tooB; simp [k1, k2, k3, k5, wa, la_, qa, na]
    go_wp2
    go_ret
    exact ⟨ret_bool HR.out.symm, HB.out⟩
  by_cases kh5 : D.kd = 5
  · have k1 : (D.kd == 1) = false := by simp [kh5]
    have m1 : (D.kd != 1) = true := by simp [kh5]
    have k2 : (D.kd == 2) = false := by simp [kh5]
    have m2 : (D.kd != 2) = true := by simp [kh5]
    have k3 : (D.kd == 3) = false := by simp [kh5]
    have m3 : (D.kd != 3) = true := by simp [kh5]
    have k5 : (D.kd == 5) = true := by simp [kh5]
    have m5 : (D.kd != 5) = false := by simp [kh5]
    clear kh1 kh2 kh3 kh5
    go_enter Try.func56, Try.ntmps56
    go_upto_region 5 with fail
    by_cases h0 : D.wh = 0
    rotate_left
    · have wa : (D.wh == 0) = false := by simpa using h0
      have wb : (D.wh != 0) = true := by simpa using h0
      clear h0
      have HR : Hid (tooB D = true) := by show _ = _; unfold tooB; simp [k1, k2, k3, k5, wa]
      go_wp2
      go_ret
      exact ⟨ret_bool HR.out.symm, HB.out⟩
    have wa : (D.wh == 0) = true := by simpa using h0
    have wb : (D.wh != 0) = false := by simpa using h0
    clear h0
    by_cases h0 : D.ls.length = 0
    rotate_left
    · have la_ : (D.ls.length == 0) = false := by simpa using h0
      have lb_ : decide (0 < A.ln) = true := by have := Hls.out; simp; omega
      clear h0
      have HR : Hid (tooB D = true) := by show _ = _; unfold tooB; simp [k1, k2, k3, k5, wa, la_]
      go_wp2
      go_ret
      exact ⟨ret_bool HR.out.symm, HB.out⟩
    have la_ : (D.ls.length == 0) = true := by simpa using h0
    have lb_ : decide (0 < A.ln) = false := by have := Hls.out; simp; omega
    clear h0
    by_cases h0 : D.qu = 0
    rotate_left
    · have qa : (D.qu == 0) = false := by simpa using h0
      have qb : (D.qu != 0) = true := by simpa using h0
      clear h0
      have HR : Hid (tooB D = true) := by show _ = _; unfold tooB; simp [k1, k2, k3, k5, wa, la_, qa]
      go_wp2
      go_ret
      exact ⟨ret_bool HR.out.symm, HB.out⟩
    have qa : (D.qu == 0) = true := by simpa using h0
    have qb : (D.qu != 0) = false := by simpa using h0
    clear h0
    by_cases h0 : D.po = 0
    rotate_left
    · have pa_ : (D.po == 0) = false := by simpa using h0
      have pb_ : (D.po != 0) = true := by simpa using h0
      clear h0
      have HR : Hid (tooB D = true) := by show _ = _; unfold tooB; simp [k1, k2, k3, k5, wa, la_, qa, pa_]
      go_wp2
      go_ret
      exact ⟨ret_bool HR.out.symm, HB.out⟩
    have pa_ : (D.po == 0) = true := by simpa using h0
    have pb_ : (D.po != 0) = false := by simpa using h0
    clear h0
    by_cases h0 : D.ds.length = 0
    rotate_left
    · have da_ : (D.ds.length == 0) = false := by simpa using h0
      have db_ : decide (0 < A.dn) = true := by have := Hds.out; simp; omega
      clear h0
      have HR : Hid (tooB D = true) := by show _ = _; unfold tooB; simp [k1, k2, k3, k5, wa, la_, qa, pa_, da_]
      go_wp2
      go_ret
      exact ⟨ret_bool HR.out.symm, HB.out⟩
    have da_ : (D.ds.length == 0) = true := by simpa using h0
    have db_ : decide (0 < A.dn) = false := by have := Hds.out; simp; omega
    clear h0
    have HR : Hid (tooB D = false) := by show _ = _; unfold tooB; simp [k1, k2, k3, k5, wa, la_, qa, pa_, da_]
    go_wp2
    go_ret
    exact ⟨ret_bool HR.out.symm, HB.out⟩
  have k1 : (D.kd == 1) = false := by simpa using kh1
  have m1 : (D.kd != 1) = true := by simpa using kh1
  have k2 : (D.kd == 2) = false := by simpa using kh2
  have m2 : (D.kd != 2) = true := by simpa using kh2
  have k3 : (D.kd == 3) = false := by simpa using kh3
  have m3 : (D.kd != 3) = true := by simpa using kh3
  have k5 : (D.kd == 5) = false := by simpa using kh5
  have m5 : (D.kd != 5) = true := by simpa using kh5
  clear kh1 kh2 kh3 kh5
  go_enter Try.func56, Try.ntmps56
  go_upto_region 5 with fail
  by_cases h0 : D.wh = 0
  rotate_left
  · have wa : (D.wh == 0) = false := by simpa using h0
    have wb : (D.wh != 0) = true := by simpa using h0
    clear h0
    have HR : Hid (tooB D = true) := by show _ = _; unfold tooB; simp [k1, k2, k3, k5, wa]
    go_wp2
    go_ret
    exact ⟨ret_bool HR.out.symm, HB.out⟩
  have wa : (D.wh == 0) = true := by simpa using h0
  have wb : (D.wh != 0) = false := by simpa using h0
  clear h0
  by_cases h0 : D.ls.length = 0
  rotate_left
  · have la_ : (D.ls.length == 0) = false := by simpa using h0
    have lb_ : decide (0 < A.ln) = true := by have := Hls.out; simp; omega
    clear h0
    have HR : Hid (tooB D = true) := by show _ = _; unfold tooB; simp [k1, k2, k3, k5, wa, la_]
    go_wp2
    go_ret
    exact ⟨ret_bool HR.out.symm, HB.out⟩
  have la_ : (D.ls.length == 0) = true := by simpa using h0
  have lb_ : decide (0 < A.ln) = false := by have := Hls.out; simp; omega
  clear h0
  by_cases h0 : D.qu = 0
  rotate_left
  · have qa : (D.qu == 0) = false := by simpa using h0
    have qb : (D.qu != 0) = true := by simpa using h0
    clear h0
    have HR : Hid (tooB D = true) := by show _ = _; unfold tooB; simp [k1, k2, k3, k5, wa, la_, qa]
    go_wp2
    go_ret
    exact ⟨ret_bool HR.out.symm, HB.out⟩
  have qa : (D.qu == 0) = true := by simpa using h0
  have qb : (D.qu != 0) = false := by simpa using h0
  clear h0
  by_cases h0 : D.po = 0
  rotate_left
  · have pa_ : (D.po == 0) = false := by simpa using h0
    have pb_ : (D.po != 0) = true := by simpa using h0
    clear h0
    have HR : Hid (tooB D = true) := by show _ = _; unfold tooB; simp [k1, k2, k3, k5, wa, la_, qa, pa_]
    go_wp2
    go_ret
    exact ⟨ret_bool HR.out.symm, HB.out⟩
  have pa_ : (D.po == 0) = true := by simpa using h0
  have pb_ : (D.po != 0) = false := by simpa using h0
  clear h0
  by_cases h0 : D.nn = 0
  rotate_left
  · have na : (D.nn == 0) = false := by simpa using h0
    have nb : (D.nn != 0) = true := by simpa using h0
    clear h0
    have HR : Hid (tooB D = true) := by show _ = _; unfold tooB; simp [k1, k2, k3, k5, wa, la_, qa, pa_, na]
    go_wp2
    go_ret
    exact ⟨ret_bool HR.out.symm, HB.out⟩
  have na : (D.nn == 0) = true := by simpa using h0
  have nb : (D.nn != 0) = false := by simpa using h0
  clear h0
  by_cases h0 : D.ds.length = 0
  rotate_left
  · have da_ : (D.ds.length == 0) = false := by simpa using h0
    have db_ : decide (0 < A.dn) = true := by have := Hds.out; simp; omega
    clear h0
    have HR : Hid (tooB D = true) := by show _ = _; unfold tooB; simp [k1, k2, k3, k5, wa, la_, qa, pa_, na, da_]
    go_wp2
    go_ret
    exact ⟨ret_bool HR.out.symm, HB.out⟩
  have da_ : (D.ds.length == 0) = true := by simpa using h0
  have db_ : decide (0 < A.dn) = false := by have := Hds.out; simp; omega
  clear h0
  have HR : Hid (tooB D = false) := by show _ = _; unfold tooB; simp [k1, k2, k3, k5, wa, la_, qa, pa_, na, da_]
  go_wp2
  go_ret
  exact ⟨ret_bool HR.out.symm, HB.out⟩

def rgI (D : AkD) : Bool := !(D.kd == 1 && D.wh != 1 && D.wh != 2) && (nmB D.ps && up D.qu 200 && up D.po 200 && up D.nn 200 && D.ds.all okv)

theorem rgI_spec {D : AkD} : rgI D = ((D.kd != 1 || inB D.wh 1 2) && rgA D) := by
  have hw : inB D.wh 1 2 = (D.wh == 1 || D.wh == 2) := by
    rw [Bool.eq_iff_iff, inB_iff]; simp; omega
  have hr : (nmB D.ps && up D.qu 200 && up D.po 200 && up D.nn 200 && D.ds.all okv) = rgA D := by
    unfold rgA
    rw [up_inB, up_inB, up_inB]
    cases nmB D.ps <;> cases D.ds.all okv <;> cases inB D.qu 0 200 <;> cases inB D.po 0 200 <;> cases inB D.nn 0 200 <;> rfl
  unfold rgI
  rw [hr, hw]
  have e1 : (D.wh != 1) = !(D.wh == 1) := rfl
  have e2 : (D.wh != 2) = !(D.wh == 2) := rfl
  have e3 : (D.kd != 1) = !(D.kd == 1) := rfl
  rw [e1, e2, e3]
  cases (D.kd == 1) <;> cases (D.wh == 1) <;> cases (D.wh == 2) <;> simp

set_option maxRecDepth 100000 in
set_option maxHeartbeats 4000000 in
theorem areAskedRight_calls (A : AkA) (D : AkD) (b : Bool) (w : World) (hr : RK w A D) (hb : rgI D = b) : Calls Try.prog 57 #[.agg #[.int .i64 D.kd, .slice A.pa A.pn A.pc, .int .i64 D.wh, .slice A.la A.ln A.lc, .int .i64 D.qu, .int .i64 D.po, .int .i64 D.nn, .slice A.da A.dn A.dc]] w fun e w' => e = .returned (.bool b) ∧ Below w.heap.size w w' := by
  subst hb
  have hbel : Below w.heap.size w (w.alloc (.cells #[.int .i64 D.kd, .slice A.pa A.pn A.pc, .int .i64 D.wh, .slice A.la A.ln A.lc, .int .i64 D.qu, .int .i64 D.po, .int .i64 D.nn, .slice A.da A.dn A.dc] 49)) := (Below.refl _ _).alloc (Nat.le_refl _) _
  have HB := hide hbel
  have HP := hide (fun b (h : nmB D.ps = b) => areNames_is A.pa A.pn A.pc D.ps b _ hr.pm (hr.ps.below hbel (Nat.le_refl _)) h)
  have HD := hide (fun b (h : D.ds.all okv = b) => areWords_is A.da A.dn A.dc D.ds b _ hr.dm (hr.ds.below hbel (Nat.le_refl _)) h)
  clear hr hbel
  have hpass : (D.kd == 1 && D.wh != 1 && D.wh != 2) = false → rgI D = (nmB D.ps && up D.qu 200 && up D.po 200 && up D.nn 200 && D.ds.all okv) := fun h => by unfold rgI; rw [h]; rfl
  have HPA := hide hpass
  clear hpass
  by_cases k1 : D.kd = 1
  rotate_left
  · have e1 : (D.kd == 1) = false := by simpa using k1
    clear k1
    go_enter Try.func57, Try.ntmps57
    go_upto_region 3 with fail
    have HX := hide (HPA.out (by simp [e1]))
    clear HPA
    cases b1 : nmB D.ps with
    | false =>
      have HR : Hid (rgI D = false) := by show _ = _; rw [HX.out]; simp [b1]
      go_wp2_with (first | (go_at_call 81; with_reducible refine (HP.out _ b1).mono ?_; rintro e w' ⟨rfl, hw'⟩; rw [hw']; clear hw' w'))
      go_ret
      exact ⟨ret_bool HR.out.symm, HB.out⟩
    | true =>
    cases b2 : up D.qu 200 with
    | false =>
      have HR : Hid (rgI D = false) := by show _ = _; rw [HX.out]; simp [b1, b2]
      go_wp2_with (first | (go_at_call 81; with_reducible refine (HP.out _ b1).mono ?_; rintro e w' ⟨rfl, hw'⟩; rw [hw']; clear hw' w') | (go_at_call 69; with_reducible refine (isUpTo_is _ _ _ _ b2).mono ?_; rintro e w' ⟨rfl, hw'⟩; rw [hw']; clear hw' w'))
      go_ret
      exact ⟨ret_bool HR.out.symm, HB.out⟩
    | true =>
    cases b3 : up D.po 200 with
    | false =>
      have HR : Hid (rgI D = false) := by show _ = _; rw [HX.out]; simp [b1, b2, b3]
      go_wp2_with (first | (go_at_call 81; with_reducible refine (HP.out _ b1).mono ?_; rintro e w' ⟨rfl, hw'⟩; rw [hw']; clear hw' w') | (go_at_call 69; with_reducible refine (isUpTo_is _ _ _ _ b2).mono ?_; rintro e w' ⟨rfl, hw'⟩; rw [hw']; clear hw' w') | (go_at_call 69; with_reducible refine (isUpTo_is _ _ _ _ b3).mono ?_; rintro e w' ⟨rfl, hw'⟩; rw [hw']; clear hw' w'))
      go_ret
      exact ⟨ret_bool HR.out.symm, HB.out⟩
    | true =>
    cases b4 : up D.nn 200 with
    | false =>
      have HR : Hid (rgI D = false) := by show _ = _; rw [HX.out]; simp [b1, b2, b3, b4]
      go_wp2_with (first | (go_at_call 81; with_reducible refine (HP.out _ b1).mono ?_; rintro e w' ⟨rfl, hw'⟩; rw [hw']; clear hw' w') | (go_at_call 69; with_reducible refine (isUpTo_is _ _ _ _ b2).mono ?_; rintro e w' ⟨rfl, hw'⟩; rw [hw']; clear hw' w') | (go_at_call 69; with_reducible refine (isUpTo_is _ _ _ _ b3).mono ?_; rintro e w' ⟨rfl, hw'⟩; rw [hw']; clear hw' w') | (go_at_call 69; with_reducible refine (isUpTo_is _ _ _ _ b4).mono ?_; rintro e w' ⟨rfl, hw'⟩; rw [hw']; clear hw' w'))
      go_ret
      exact ⟨ret_bool HR.out.symm, HB.out⟩
    | true =>
    cases b5 : D.ds.all okv with
    | false =>
      have HR : Hid (rgI D = false) := by show _ = _; rw [HX.out]; simp [b1, b2, b3, b4, b5]
      go_wp2_with (first | (go_at_call 81; with_reducible refine (HP.out _ b1).mono ?_; rintro e w' ⟨rfl, hw'⟩; rw [hw']; clear hw' w') | (go_at_call 69; with_reducible refine (isUpTo_is _ _ _ _ b2).mono ?_; rintro e w' ⟨rfl, hw'⟩; rw [hw']; clear hw' w') | (go_at_call 69; with_reducible refine (isUpTo_is _ _ _ _ b3).mono ?_; rintro e w' ⟨rfl, hw'⟩; rw [hw']; clear hw' w') | (go_at_call 69; with_reducible refine (isUpTo_is _ _ _ _ b4).mono ?_; rintro e w' ⟨rfl, hw'⟩; rw [hw']; clear hw' w') | (go_at_call 82; with_reducible refine (HD.out _ b5).mono ?_; rintro e w' ⟨rfl, hw'⟩; rw [hw']; clear hw' w'))
      go_ret
      exact ⟨ret_bool HR.out.symm, HB.out⟩
    | true =>
    have HR : Hid (rgI D = true) := by show _ = _; rw [HX.out]; simp [b1, b2, b3, b4, b5]
    go_wp2_with (first | (go_at_call 81; with_reducible refine (HP.out _ b1).mono ?_; rintro e w' ⟨rfl, hw'⟩; rw [hw']; clear hw' w') | (go_at_call 69; with_reducible refine (isUpTo_is _ _ _ _ b2).mono ?_; rintro e w' ⟨rfl, hw'⟩; rw [hw']; clear hw' w') | (go_at_call 69; with_reducible refine (isUpTo_is _ _ _ _ b3).mono ?_; rintro e w' ⟨rfl, hw'⟩; rw [hw']; clear hw' w') | (go_at_call 69; with_reducible refine (isUpTo_is _ _ _ _ b4).mono ?_; rintro e w' ⟨rfl, hw'⟩; rw [hw']; clear hw' w') | (go_at_call 82; with_reducible refine (HD.out _ b5).mono ?_; rintro e w' ⟨rfl, hw'⟩; rw [hw']; clear hw' w'))
    go_ret
    exact ⟨ret_bool HR.out.symm, HB.out⟩
  have e1 : (D.kd == 1) = true := by simpa using k1
  clear k1
  by_cases k2 : D.wh = 1
  · have e2 : (D.wh != 1) = false := by simp [k2]
    clear k2
    go_enter Try.func57, Try.ntmps57
    go_upto_region 3 with fail
    have HX := hide (HPA.out (by simp [e2]))
    clear HPA
    cases b1 : nmB D.ps with
    | false =>
      have HR : Hid (rgI D = false) := by show _ = _; rw [HX.out]; simp [b1]
      go_wp2_with (first | (go_at_call 81; with_reducible refine (HP.out _ b1).mono ?_; rintro e w' ⟨rfl, hw'⟩; rw [hw']; clear hw' w'))
      go_ret
      exact ⟨ret_bool HR.out.symm, HB.out⟩
    | true =>
    cases b2 : up D.qu 200 with
    | false =>
      have HR : Hid (rgI D = false) := by show _ = _; rw [HX.out]; simp [b1, b2]
      go_wp2_with (first | (go_at_call 81; with_reducible refine (HP.out _ b1).mono ?_; rintro e w' ⟨rfl, hw'⟩; rw [hw']; clear hw' w') | (go_at_call 69; with_reducible refine (isUpTo_is _ _ _ _ b2).mono ?_; rintro e w' ⟨rfl, hw'⟩; rw [hw']; clear hw' w'))
      go_ret
      exact ⟨ret_bool HR.out.symm, HB.out⟩
    | true =>
    cases b3 : up D.po 200 with
    | false =>
      have HR : Hid (rgI D = false) := by show _ = _; rw [HX.out]; simp [b1, b2, b3]
      go_wp2_with (first | (go_at_call 81; with_reducible refine (HP.out _ b1).mono ?_; rintro e w' ⟨rfl, hw'⟩; rw [hw']; clear hw' w') | (go_at_call 69; with_reducible refine (isUpTo_is _ _ _ _ b2).mono ?_; rintro e w' ⟨rfl, hw'⟩; rw [hw']; clear hw' w') | (go_at_call 69; with_reducible refine (isUpTo_is _ _ _ _ b3).mono ?_; rintro e w' ⟨rfl, hw'⟩; rw [hw']; clear hw' w'))
      go_ret
      exact ⟨ret_bool HR.out.symm, HB.out⟩
    | true =>
    cases b4 : up D.nn 200 with
    | false =>
      have HR : Hid (rgI D = false) := by show _ = _; rw [HX.out]; simp [b1, b2, b3, b4]
      go_wp2_with (first | (go_at_call 81; with_reducible refine (HP.out _ b1).mono ?_; rintro e w' ⟨rfl, hw'⟩; rw [hw']; clear hw' w') | (go_at_call 69; with_reducible refine (isUpTo_is _ _ _ _ b2).mono ?_; rintro e w' ⟨rfl, hw'⟩; rw [hw']; clear hw' w') | (go_at_call 69; with_reducible refine (isUpTo_is _ _ _ _ b3).mono ?_; rintro e w' ⟨rfl, hw'⟩; rw [hw']; clear hw' w') | (go_at_call 69; with_reducible refine (isUpTo_is _ _ _ _ b4).mono ?_; rintro e w' ⟨rfl, hw'⟩; rw [hw']; clear hw' w'))
      go_ret
      exact ⟨ret_bool HR.out.symm, HB.out⟩
    | true =>
    cases b5 : D.ds.all okv with
    | false =>
      have HR : Hid (rgI D = false) := by show _ = _; rw [HX.out]; simp [b1, b2, b3, b4, b5]
      go_wp2_with (first | (go_at_call 81; with_reducible refine (HP.out _ b1).mono ?_; rintro e w' ⟨rfl, hw'⟩; rw [hw']; clear hw' w') | (go_at_call 69; with_reducible refine (isUpTo_is _ _ _ _ b2).mono ?_; rintro e w' ⟨rfl, hw'⟩; rw [hw']; clear hw' w') | (go_at_call 69; with_reducible refine (isUpTo_is _ _ _ _ b3).mono ?_; rintro e w' ⟨rfl, hw'⟩; rw [hw']; clear hw' w') | (go_at_call 69; with_reducible refine (isUpTo_is _ _ _ _ b4).mono ?_; rintro e w' ⟨rfl, hw'⟩; rw [hw']; clear hw' w') | (go_at_call 82; with_reducible refine (HD.out _ b5).mono ?_; rintro e w' ⟨rfl, hw'⟩; rw [hw']; clear hw' w'))
      go_ret
      exact ⟨ret_bool HR.out.symm, HB.out⟩
    | true =>
    have HR : Hid (rgI D = true) := by show _ = _; rw [HX.out]; simp [b1, b2, b3, b4, b5]
    go_wp2_with (first | (go_at_call 81; with_reducible refine (HP.out _ b1).mono ?_; rintro e w' ⟨rfl, hw'⟩; rw [hw']; clear hw' w') | (go_at_call 69; with_reducible refine (isUpTo_is _ _ _ _ b2).mono ?_; rintro e w' ⟨rfl, hw'⟩; rw [hw']; clear hw' w') | (go_at_call 69; with_reducible refine (isUpTo_is _ _ _ _ b3).mono ?_; rintro e w' ⟨rfl, hw'⟩; rw [hw']; clear hw' w') | (go_at_call 69; with_reducible refine (isUpTo_is _ _ _ _ b4).mono ?_; rintro e w' ⟨rfl, hw'⟩; rw [hw']; clear hw' w') | (go_at_call 82; with_reducible refine (HD.out _ b5).mono ?_; rintro e w' ⟨rfl, hw'⟩; rw [hw']; clear hw' w'))
    go_ret
    exact ⟨ret_bool HR.out.symm, HB.out⟩
  have e2 : (D.wh != 1) = true := by simpa using k2
  clear k2
  by_cases k3 : D.wh = 2
  · have e3 : (D.wh != 2) = false := by simp [k3]
    clear k3
    go_enter Try.func57, Try.ntmps57
    go_upto_region 3 with fail
    have HX := hide (HPA.out (by simp [e3]))
    clear HPA
    cases b1 : nmB D.ps with
    | false =>
      have HR : Hid (rgI D = false) := by show _ = _; rw [HX.out]; simp [b1]
      go_wp2_with (first | (go_at_call 81; with_reducible refine (HP.out _ b1).mono ?_; rintro e w' ⟨rfl, hw'⟩; rw [hw']; clear hw' w'))
      go_ret
      exact ⟨ret_bool HR.out.symm, HB.out⟩
    | true =>
    cases b2 : up D.qu 200 with
    | false =>
      have HR : Hid (rgI D = false) := by show _ = _; rw [HX.out]; simp [b1, b2]
      go_wp2_with (first | (go_at_call 81; with_reducible refine (HP.out _ b1).mono ?_; rintro e w' ⟨rfl, hw'⟩; rw [hw']; clear hw' w') | (go_at_call 69; with_reducible refine (isUpTo_is _ _ _ _ b2).mono ?_; rintro e w' ⟨rfl, hw'⟩; rw [hw']; clear hw' w'))
      go_ret
      exact ⟨ret_bool HR.out.symm, HB.out⟩
    | true =>
    cases b3 : up D.po 200 with
    | false =>
      have HR : Hid (rgI D = false) := by show _ = _; rw [HX.out]; simp [b1, b2, b3]
      go_wp2_with (first | (go_at_call 81; with_reducible refine (HP.out _ b1).mono ?_; rintro e w' ⟨rfl, hw'⟩; rw [hw']; clear hw' w') | (go_at_call 69; with_reducible refine (isUpTo_is _ _ _ _ b2).mono ?_; rintro e w' ⟨rfl, hw'⟩; rw [hw']; clear hw' w') | (go_at_call 69; with_reducible refine (isUpTo_is _ _ _ _ b3).mono ?_; rintro e w' ⟨rfl, hw'⟩; rw [hw']; clear hw' w'))
      go_ret
      exact ⟨ret_bool HR.out.symm, HB.out⟩
    | true =>
    cases b4 : up D.nn 200 with
    | false =>
      have HR : Hid (rgI D = false) := by show _ = _; rw [HX.out]; simp [b1, b2, b3, b4]
      go_wp2_with (first | (go_at_call 81; with_reducible refine (HP.out _ b1).mono ?_; rintro e w' ⟨rfl, hw'⟩; rw [hw']; clear hw' w') | (go_at_call 69; with_reducible refine (isUpTo_is _ _ _ _ b2).mono ?_; rintro e w' ⟨rfl, hw'⟩; rw [hw']; clear hw' w') | (go_at_call 69; with_reducible refine (isUpTo_is _ _ _ _ b3).mono ?_; rintro e w' ⟨rfl, hw'⟩; rw [hw']; clear hw' w') | (go_at_call 69; with_reducible refine (isUpTo_is _ _ _ _ b4).mono ?_; rintro e w' ⟨rfl, hw'⟩; rw [hw']; clear hw' w'))
      go_ret
      exact ⟨ret_bool HR.out.symm, HB.out⟩
    | true =>
    cases b5 : D.ds.all okv with
    | false =>
      have HR : Hid (rgI D = false) := by show _ = _; rw [HX.out]; simp [b1, b2, b3, b4, b5]
      go_wp2_with (first | (go_at_call 81; with_reducible refine (HP.out _ b1).mono ?_; rintro e w' ⟨rfl, hw'⟩; rw [hw']; clear hw' w') | (go_at_call 69; with_reducible refine (isUpTo_is _ _ _ _ b2).mono ?_; rintro e w' ⟨rfl, hw'⟩; rw [hw']; clear hw' w') | (go_at_call 69; with_reducible refine (isUpTo_is _ _ _ _ b3).mono ?_; rintro e w' ⟨rfl, hw'⟩; rw [hw']; clear hw' w') | (go_at_call 69; with_reducible refine (isUpTo_is _ _ _ _ b4).mono ?_; rintro e w' ⟨rfl, hw'⟩; rw [hw']; clear hw' w') | (go_at_call 82; with_reducible refine (HD.out _ b5).mono ?_; rintro e w' ⟨rfl, hw'⟩; rw [hw']; clear hw' w'))
      go_ret
      exact ⟨ret_bool HR.out.symm, HB.out⟩
    | true =>
    have HR : Hid (rgI D = true) := by show _ = _; rw [HX.out]; simp [b1, b2, b3, b4, b5]
    go_wp2_with (first | (go_at_call 81; with_reducible refine (HP.out _ b1).mono ?_; rintro e w' ⟨rfl, hw'⟩; rw [hw']; clear hw' w') | (go_at_call 69; with_reducible refine (isUpTo_is _ _ _ _ b2).mono ?_; rintro e w' ⟨rfl, hw'⟩; rw [hw']; clear hw' w') | (go_at_call 69; with_reducible refine (isUpTo_is _ _ _ _ b3).mono ?_; rintro e w' ⟨rfl, hw'⟩; rw [hw']; clear hw' w') | (go_at_call 69; with_reducible refine (isUpTo_is _ _ _ _ b4).mono ?_; rintro e w' ⟨rfl, hw'⟩; rw [hw']; clear hw' w') | (go_at_call 82; with_reducible refine (HD.out _ b5).mono ?_; rintro e w' ⟨rfl, hw'⟩; rw [hw']; clear hw' w'))
    go_ret
    exact ⟨ret_bool HR.out.symm, HB.out⟩
  have e3 : (D.wh != 2) = true := by simpa using k3
  clear k3
  have HR : Hid (rgI D = false) := by show _ = _; unfold rgI; rw [e1, e2, e3]; rfl
  go_enter Try.func57, Try.ntmps57
  go_wp2
  go_ret
  exact ⟨ret_bool HR.out.symm, HB.out⟩

set_option maxRecDepth 100000 in
set_option maxHeartbeats 4000000 in
theorem implAskFault_calls (A : AkA) (D : AkD) (w : World) (hr : RK w A D) : Calls Try.prog 23 #[.agg #[.int .i64 D.kd, .slice A.pa A.pn A.pc, .int .i64 D.wh, .slice A.la A.ln A.lc, .int .i64 D.qu, .int .i64 D.po, .int .i64 D.nn, .slice A.da A.dn A.dc]] w fun e w' => e = .returned (.int .i64 (askF D)) ∧ Below w.heap.size w w' := by
  have M0 := (Mm.start w).allocC [.int .i64 D.kd, .slice A.pa A.pn A.pc, .int .i64 D.wh, .slice A.la A.ln A.lc, .int .i64 D.qu, .int .i64 D.po, .int .i64 D.nn, .slice A.da A.dn A.dc] 49
  have hps := hr.ps.1
  have hds := hr.ds.1
  have hls := hr.ls.1
  have HR := hide hr
  have HB := hide M0.bel
  by_cases t1 : D.kd < 1
  · have HV : Hid (askF D = 1) := askF_form (.inl (by unfold inB; rw [decide_eq_false (by omega)]; rfl))
    clear hps hds hls M0
    go_enter Try.func23, Try.ntmps23
    go_wp2
    go_ret
    exact ⟨ret_int HV.out.symm, HB.out⟩
  by_cases t2 : D.kd > 6
  · have HV : Hid (askF D = 1) := askF_form (.inl (by unfold inB; rw [decide_eq_false (p := D.kd ≤ 6) (by omega), Bool.and_false]))
    clear hps hds hls M0
    go_enter Try.func23, Try.ntmps23
    go_wp2
    go_ret
    exact ⟨ret_int HV.out.symm, HB.out⟩
  have g1 : inB D.kd 1 6 = true := inB_iff.2 ⟨by omega, by omega⟩
  cases hb : tooB D with
  | true =>
    have HV : Hid (askF D = 1) := askF_form (.inr hb)
    have HT := hide (fun W => hasTooMuch_calls A D true W hls hds hb)
    clear hps hds hls g1 hb
    go_enter Try.func23, Try.ntmps23
    go_wp2_with fail
    refine (HT.out _).mono ?_
    rintro e w1 ⟨rfl, g1⟩
    have HE := hide (M0.below g1).bel
    clear M0 g1
    go_wp2
    go_ret
    exact ⟨ret_int HV.out.symm, HE.out⟩
  | false =>
  have HT := hide (fun W => hasTooMuch_calls A D false W hls hds hb)
  have HG := hide g1
  have HG2 := hide hb
  clear g1 hb
  go_enter Try.func23, Try.ntmps23
  go_wp2_with fail
  refine (HT.out _).mono ?_
  rintro e w1 ⟨rfl, g1⟩
  have M1 := M0.below g1
  have c0 := (M1.get 0 rfl).cell 0 rfl
  have c1 := (M1.get 0 rfl).cell 1 rfl
  have c2 := (M1.get 0 rfl).cell 2 rfl
  have c3 := (M1.get 0 rfl).cell 3 rfl
  have c4 := (M1.get 0 rfl).cell 4 rfl
  have c5 := (M1.get 0 rfl).cell 5 rfl
  have c6 := (M1.get 0 rfl).cell 6 rfl
  have c7 := (M1.get 0 rfl).cell 7 rfl
  have HM := hide M1
  have HB1 := hide M1.bel
  clear M0 M1 g1 HB HT t1 t2
  by_cases t1 : D.ps.length > 6
  · have HV : Hid (askF D = 2) := askF_many HG.out HG2.out (.inl t1)
    have t2 : (A.pn : Int) > 6 := by omega
    clear t1 hps hds hls
    go_wp2
    go_ret
    exact ⟨ret_int HV.out.symm, HB1.out⟩
  have t2 : ¬ ((A.pn : Int) > 6) := by omega
  by_cases t3 : D.ds.length > 20
  · have HV : Hid (askF D = 2) := askF_many HG.out HG2.out (.inr t3)
    have t4 : (A.dn : Int) > 20 := by omega
    clear t1 t3 hps hds hls
    go_wp2
    go_ret
    exact ⟨ret_int HV.out.symm, HB1.out⟩
  have t4 : ¬ ((A.dn : Int) > 20) := by omega
  have HMm : Hid (¬ (6 < D.ps.length ∨ 20 < D.ds.length)) := by show ¬ _; omega
  clear t1 t3 hps hds hls
  cases hq : rgI D with
  | false =>
    have HV : Hid (askF D = 3) := by
      show _ = _
      rw [rgI_spec] at hq
      cases hga : rgA D with
      | false => exact askF_range HG.out HG2.out HMm.out hga
      | true =>
        rw [hga, Bool.and_true, Bool.or_eq_false_iff] at hq
        exact askF_what HG.out HG2.out HMm.out hga (by simpa using hq.1) hq.2
    have HA := hide (areAskedRight_calls A D false w1 (HR.out.below HB1.out (Nat.le_refl _)) hq)
    clear hq
    go_wp2_with fail
    refine HA.out.mono ?_
    rintro e w2 ⟨rfl, g2⟩
    have HE := hide (HM.out.below g2).bel
    clear g2
    go_wp2
    go_ret
    exact ⟨ret_int HV.out.symm, HE.out⟩
  | true =>
  have HA := hide (areAskedRight_calls A D true w1 (HR.out.below HB1.out (Nat.le_refl _)) hq)
  have HQ : Hid (rgA D = true ∧ (D.kd = 1 → inB D.wh 1 2 = true)) := by
    rw [rgI_spec, Bool.and_eq_true, Bool.or_eq_true] at hq
    exact ⟨hq.2, fun h => hq.1.elim (fun h2 => by simp [h] at h2) id⟩
  clear hq
  go_wp2_with fail
  refine HA.out.mono ?_
  rintro e w2 ⟨rfl, g2⟩
  have M2 := HM.out.below g2
  clear c0 c1 c2 c3 c4 c5 c6 c7
  have c0 := (M2.get 0 rfl).cell 0 rfl
  have c3 := (M2.get 0 rfl).cell 3 rfl
  have HB2 := hide M2.bel
  have HM2 := hide M2
  clear M2 g2 HM
  by_cases k1 : D.kd = 1
  rotate_left
  · have HV : Hid (askF D = 0) := askF_else HG.out HG2.out HMm.out HQ.out.1 k1
    have m1 : (D.kd == 1) = false := by simpa using k1
    clear k1
    go_wp2
    go_ret
    exact ⟨ret_int HV.out.symm, HB2.out⟩
  have HV : Hid (askF D = thgF D.ls) := askF_make HG.out HG2.out HMm.out HQ.out.1 k1 (HQ.out.2 k1)
  have m1 : (D.kd == 1) = true := by simpa using k1
  clear k1
  go_wp2_with fail
  refine (thingFault_calls A.la A.ln A.lc D.ls _ HR.out.lm (HR.out.ls.below HB2.out (Nat.le_refl _))).mono ?_
  rintro e w3 ⟨rfl, g3⟩
  have HE := hide (HM2.out.below g3).bel
  clear g3
  go_wp2
  go_ret
  exact ⟨ret_int HV.out.symm, HE.out⟩

end Go.Proofs.Ytpcdfeccmiiglaa
