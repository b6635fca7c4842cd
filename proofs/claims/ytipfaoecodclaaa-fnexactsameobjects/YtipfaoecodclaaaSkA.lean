import Derived.Test.YtipfaoecodclaaaObP
import Derived.Test.YtipfaoecodclaaaBase
import Derived.Test.YtipfaoecodclaaaCsK
import Derived.WalkKit
import Derived.ProofKit
import Derived.OpenShut
import Derived.ShutString
import Derived.ChangeOld
import Derived.Below
import Derived.WalkSpells
import Derived.Deep.QuietTactic
import Derived.BigQuiet
import Derived.Deep.RegionWith
import Derived.Deep.WholeRow
import Derived.Deep.DeepCutAuto
import Derived.Deep.RegionHeld2
import Derived.Deep.AppendLies
import Derived.Deep.RegionLaw
namespace Go.Proofs.Ytipfaoecodclaaa
open Go.ChangeShapes Go.WideShapes Go.ChangeAt Go.RowKit

set_option maxRecDepth 100000 in
theorem slicesEqual_calls (a b : Option Addr) (la ca lb cb : Nat) (xs ys : List Int) (w : World) (hla : la ≤ maxLen) (hlb : lb ≤ maxLen) (hx : Sl w a la xs) (hy : Sl w b lb ys) :
    Calls Try.prog 60 #[.slice a la ca, .slice b lb cb] w fun e w' => e = .returned (.bool (decide (xs = ys))) ∧ Below w.heap.size w w' := by
  unfold maxLen at hla hlb
  obtain ⟨hxl, hx⟩ := hx
  obtain ⟨hyl, hy⟩ := hy
  by_cases hne : la = lb
  · subst hne
    have hn : ((la : Int) != (la : Int)) = false := by simp
    go_enter Try.func60, Try.ntmps60
    go_wp2
    go_loopw [13] (fun i wr => ∃ k : Nat, k ≤ la ∧ i = .int .i64 k ∧ Below w.heap.size w wr ∧ ∀ j, j < k → gt xs j = gt ys j) (fun i _ => la - (intOf i).toNat)
    case atStart => exact ⟨0, Nat.zero_le _, rfl, Below.refl _ _, fun j hj => by omega⟩
    case round =>
      obtain ⟨k, hk, rfl, hbel, hall⟩ := hrel
      have Hall : Hid (∀ j, j < k → gt xs j = gt ys j) := hall
      clear hall
      by_cases hlt : k < la
      · obtain ⟨b1, o1, rfl, hb1, hc1⟩ := hx (by omega)
        obtain ⟨b2, o2, rfl, hb2, hc2⟩ := hy (by omega)
        have hck1 := (hbel.cell (p := ⟨b1, o1 + k, none⟩) hb1).trans (hc1 k hlt)
        have hck2 := (hbel.cell (p := ⟨b2, o2 + k, none⟩) hb2).trans (hc2 k hlt)
        have hki : (k : Int) < (la : Int) := by omega
        by_cases he : gt xs k = gt ys k
        · have hbq : (gt xs k != gt ys k) = false := by simp [he]
          have He : Hid (gt xs k = gt ys k) := he
          clear he
          go_wp2_with fail
          go_quiet (fail)
          go_wp2
          go_roundw
          case rel => exact ⟨k + 1, by omega, by go_num, bdrewN hbel _, fun j hj => by (by_cases e : j = k); (subst e; exact He.out); exact Hall.out j (by omega)⟩
          case measure => simp [intOf]; omega
        · have hbq : (gt xs k != gt ys k) = true := by simp [he]
          go_wp2_with fail
          go_quiet (fail)
          go_wp2
          go_ret
          exact ⟨ret_bool (by simp; intro e; exact he (by rw [e])), bdrewN hbel _⟩
      · go_wp2
        go_ret
        exact ⟨ret_bool (by simp; exact getD_ext (by omega) (fun i hi => Hall.out i (by omega))), hbel⟩
  · have hn : ((la : Int) != (lb : Int)) = true := by simp; omega
    go_enter Try.func60, Try.ntmps60
    go_wp2
    go_ret
    exact ⟨ret_bool (by simp; intro e; rw [e] at hxl; omega), Below.refl _ _⟩

instance decOB : DecidableEq OB := @instDecidableEqProd Int _ inferInstance (@instDecidableEqProd Int _ inferInstance (@instDecidableEqProd Int _ inferInstance (@instDecidableEqProd (List Int) _ inferInstance (@instDecidableEqProd Int _ inferInstance (@instDecidableEqProd Int (List Int) inferInstance inferInstance)))))

instance decOBs : DecidableEq (List OB) := fun a b => @List.hasDecEq OB decOB a b

set_option maxRecDepth 100000 in
theorem l1SameQ_calls (p o q r : Nat) (a b : Option Addr) (la ca lb cb : Nat) (xs ys : List Int) (w : World) (hla : la ≤ maxLen) (hlb : lb ≤ maxLen) (hp : p < w.heap.size) (hq : q < w.heap.size)
    (hpc : w.cell? ⟨p, o, none⟩ = some (.slice a la ca)) (hqc : w.cell? ⟨q, r, none⟩ = some (.slice b lb cb)) (hx : Sl w a la xs) (hy : Sl w b lb ys) :
    Calls Try.prog 74 #[.pointer (some ⟨p, o, none⟩), .pointer (some ⟨q, r, none⟩)] w fun e w' => e = .returned (.bool (decide (xs = ys))) ∧ ∃ m, w' = w.drewN m := by
  unfold maxLen at hla hlb
  obtain ⟨hxl, hx⟩ := hx
  obtain ⟨hyl, hy⟩ := hy
  by_cases hne : la = lb
  · subst hne
    have hn : ((la : Int) == (la : Int)) = true := by simp
    go_enter Try.func74, Try.ntmps74
    go_wp2_with fail
    go_quiet (fail)
    go_wp2
    go_loopw [5] (fun i wr => ∃ k : Nat, k ≤ la ∧ i = .int .i64 k ∧ (∃ m, wr = w.drewN m) ∧ ∀ j, j < k → gt xs j = gt ys j) (fun i _ => la - (intOf i).toNat)
    case atStart => exact ⟨0, Nat.zero_le _, rfl, ⟨_, rfl⟩, fun j hj => by omega⟩
    case round =>
      obtain ⟨k, hk, rfl, ⟨m0, hm0⟩, hall⟩ := hrel
      have hbel : Below w.heap.size w wr := by rw [hm0]; exact bdrewN (Below.refl _ _) _
      have HM0 := hide hm0
      clear hm0
      have Hall : Hid (∀ j, j < k → gt xs j = gt ys j) := hall
      clear hall
      have hpr := (hbel.cell (p := ⟨p, o, none⟩) hp).trans hpc
      have hqr := (hbel.cell (p := ⟨q, r, none⟩) hq).trans hqc
      by_cases hlt : k < la
      · obtain ⟨b1, o1, rfl, hb1, hc1⟩ := hx (by omega)
        obtain ⟨b2, o2, rfl, hb2, hc2⟩ := hy (by omega)
        have hck1 := (hbel.cell (p := ⟨b1, o1 + k, none⟩) hb1).trans (hc1 k hlt)
        have hck2 := (hbel.cell (p := ⟨b2, o2 + k, none⟩) hb2).trans (hc2 k hlt)
        have hki : (k : Int) < (la : Int) := by omega
        by_cases he : gt xs k = gt ys k
        · have hbq : (gt xs k != gt ys k) = false := by simp [he]
          have He : Hid (gt xs k = gt ys k) := he
          clear he
          go_wp2_with fail
          go_quiet (fail)
          go_wp2
          go_roundw
          case rel => exact ⟨k + 1, by omega, by go_num, ⟨_, by rw [HM0.out]; exact World.drewN_drewN _ _ _⟩, fun j hj => by (by_cases e : j = k); (subst e; exact He.out); exact Hall.out j (by omega)⟩
          case measure => simp [intOf]; omega
        · have hbq : (gt xs k != gt ys k) = true := by simp [he]
          go_wp2_with fail
          go_quiet (fail)
          go_wp2
          go_ret
          exact ⟨ret_bool (by simp; intro e; exact he (by rw [e])), ⟨_, by rw [HM0.out]; exact World.drewN_drewN _ _ _⟩⟩
      · go_wp2
        go_ret
        exact ⟨ret_bool (by simp; exact getD_ext (by omega) (fun i hi => Hall.out i (by omega))), ⟨m0, HM0.out⟩⟩
  · have hn : ((la : Int) == (lb : Int)) = false := by simp; omega
    go_enter Try.func74, Try.ntmps74
    go_wp2_with fail
    go_quiet (fail)
    go_wp2
    go_ret
    exact ⟨ret_bool (by simp; intro e; rw [e] at hxl; omega), ⟨_, rfl⟩⟩

set_option maxRecDepth 100000 in
theorem l9OutQ_calls (a b : Option Addr) (la ca lb cb : Nat) (xs ys : List Int) (w : World) (hla : la ≤ maxLen) (hlb : lb ≤ maxLen) (hx : Sl w a la xs) (hy : Sl w b lb ys) :
    Calls Try.prog 75 #[.slice a la ca, .slice b lb cb] w fun e w' => e = .returned (.bool (decide (xs = ys))) ∧ ∃ m, w' = w.drewN m := by
  unfold maxLen at hla hlb
  obtain ⟨hxl, hx⟩ := hx
  obtain ⟨hyl, hy⟩ := hy
  by_cases hne : la = lb
  · subst hne
    have hn : ((la : Int) != (la : Int)) = false := by simp
    go_enter Try.func75, Try.ntmps75
    go_wp2
    go_loopw [5] (fun i wr => ∃ k : Nat, k ≤ la ∧ i = .int .i64 k ∧ (∃ m, wr = w.drewN m) ∧ ∀ j, j < k → gt xs j = gt ys j) (fun i _ => la - (intOf i).toNat)
    case atStart => exact ⟨0, Nat.zero_le _, rfl, ⟨0, rfl⟩, fun j hj => by omega⟩
    case round =>
      obtain ⟨k, hk, rfl, ⟨m0, hm0⟩, hall⟩ := hrel
      have hbel : Below w.heap.size w wr := by rw [hm0]; exact bdrewN (Below.refl _ _) _
      have HM0 := hide hm0
      clear hm0
      have Hall : Hid (∀ j, j < k → gt xs j = gt ys j) := hall
      clear hall
      by_cases hlt : k < la
      · obtain ⟨b1, o1, rfl, hb1, hc1⟩ := hx (by omega)
        obtain ⟨b2, o2, rfl, hb2, hc2⟩ := hy (by omega)
        have hck1 := (hbel.cell (p := ⟨b1, o1 + k, none⟩) hb1).trans (hc1 k hlt)
        have hck2 := (hbel.cell (p := ⟨b2, o2 + k, none⟩) hb2).trans (hc2 k hlt)
        have hki : (k : Int) < (la : Int) := by omega
        clear hc1 hc2
        by_cases he : gt xs k = gt ys k
        · have hbq : (gt xs k != gt ys k) = false := by simp [he]
          have He : Hid (gt xs k = gt ys k) := he
          clear he
          go_wp2_with fail
          go_quiet (fail)
          go_wp2
          go_roundw
          case rel => exact ⟨k + 1, by omega, by go_num, ⟨_, by rw [HM0.out]; exact World.drewN_drewN _ _ _⟩, fun j hj => by (by_cases e : j = k); (subst e; exact He.out); exact Hall.out j (by omega)⟩
          case measure => simp [intOf]; omega
        · have hbq : (gt xs k != gt ys k) = true := by simp [he]
          go_wp2_with fail
          go_quiet (fail)
          go_wp2
          go_ret
          exact ⟨ret_bool (by simp; intro e; exact he (by rw [e])), ⟨_, by rw [HM0.out]; exact World.drewN_drewN _ _ _⟩⟩
      · go_wp2
        go_ret
        exact ⟨ret_bool (by simp; exact getD_ext (by omega) (fun i hi => Hall.out i (by omega))), ⟨m0, HM0.out⟩⟩
  · have hn : ((la : Int) != (lb : Int)) = true := by simp; omega
    go_enter Try.func75, Try.ntmps75
    go_wp2
    go_ret
    exact ⟨ret_bool (by simp; intro e; rw [e] at hxl; omega), ⟨0, rfl⟩⟩

set_option maxRecDepth 100000 in
set_option maxHeartbeats 8000000 in
theorem l11SameObject_calls (p o q r : Nat) (x y : OB) (la : Option Addr) (lc : Nat) (da : Option Addr) (dc : Nat) (ma : Option Addr) (mc : Nat) (na : Option Addr) (nc : Nat) (w : World) (hp : p < w.heap.size) (hq : q < w.heap.size) (hx : O7 w p o x la lc da dc) (hy : O7 w q r y ma mc na nc) (x3 : x.2.2.2.1.length ≤ maxLen) (y3 : y.2.2.2.1.length ≤ maxLen) (x6 : x.2.2.2.2.2.2.length ≤ maxLen) (y6 : y.2.2.2.2.2.2.length ≤ maxLen) (xs : Sl w la x.2.2.2.1.length x.2.2.2.1) (ys : Sl w ma y.2.2.2.1.length y.2.2.2.1) (xt : Sl w da x.2.2.2.2.2.2.length x.2.2.2.2.2.2) (yt : Sl w na y.2.2.2.2.2.2.length y.2.2.2.2.2.2) : Calls Try.prog 59 #[.pointer (some ⟨p, o, none⟩), .pointer (some ⟨q, r, none⟩)] w fun e w' => e = .returned (.bool (decide (x = y))) ∧ Below w.heap.size w w' := by
  obtain ⟨r0, r1, r2, r3, r4, r5, r6⟩ := hx
  obtain ⟨s0, s1, s2, s3, s4, s5, s6⟩ := hy
  have HC : Hid (∀ b, decide (x.2.2.2.1 = y.2.2.2.1) = b → ∀ m, Calls Try.prog 74 #[.pointer (some ⟨p, o + 3, none⟩), .pointer (some ⟨q, r + 3, none⟩)] (w.drewN m) fun e w' => e = .returned (.bool b) ∧ ∃ n, w' = w.drewN n) := fun b hb m => (l1SameQ_calls p (o + 3) q (r + 3) la ma x.2.2.2.1.length lc y.2.2.2.1.length mc x.2.2.2.1 y.2.2.2.1 (w.drewN m) x3 y3 hp hq r3 s3 (xs.below (bdrewN (Below.refl _ _) m) (Nat.le_refl _)) (ys.below (bdrewN (Below.refl _ _) m) (Nat.le_refl _))).mono fun _ _ h => ⟨by rw [h.1, hb], by obtain ⟨_, n, hn⟩ := h; exact ⟨m + n, by rw [hn]; exact World.drewN_drewN _ _ _⟩⟩
  have HD : Hid (∀ b, decide (x.2.2.2.2.2.2 = y.2.2.2.2.2.2) = b → ∀ m, Calls Try.prog 75 #[.slice da x.2.2.2.2.2.2.length dc, .slice na y.2.2.2.2.2.2.length nc] (w.drewN m) fun e w' => e = .returned (.bool b) ∧ ∃ n, w' = w.drewN n) := fun b hb m => (l9OutQ_calls da na x.2.2.2.2.2.2.length dc y.2.2.2.2.2.2.length nc x.2.2.2.2.2.2 y.2.2.2.2.2.2 (w.drewN m) x6 y6 (xt.below (bdrewN (Below.refl _ _) m) (Nat.le_refl _)) (yt.below (bdrewN (Below.refl _ _) m) (Nat.le_refl _))).mono fun _ _ h => ⟨by rw [h.1, hb], by obtain ⟨_, n, hn⟩ := h; exact ⟨m + n, by rw [hn]; exact World.drewN_drewN _ _ _⟩⟩
  have HB0 := hide fun n => bdrewN (Below.refl w.heap.size w) n
  clear xs ys xt yt
  by_cases h0 : x.1 = y.1
  rotate_left
  · have HR : Hid (decide (x = y) = false) := decide_eq_false (fun e => h0 (by rw [e]))
    have e0 : (x.1 == y.1) = false := by simpa using h0
    clear h0
    go_enter Try.func59, Try.ntmps59
    go_wp2_with fail
    dsimp only [List.append]
    go_quiet (first | (go_at_call 74; with_reducible exact HC.out _ H3.out _) | (go_at_call 75; with_reducible exact HD.out _ H6.out _))
    go_wp2
    go_ret
    exact ⟨ret_bool HR.out.symm, HB0.out _⟩
  have H0 := hide h0
  have e0 : (x.1 == y.1) = true := by simpa using h0
  clear h0
  by_cases h1 : x.2.1 = y.2.1
  rotate_left
  · have HR : Hid (decide (x = y) = false) := decide_eq_false (fun e => h1 (by rw [e]))
    have e1 : (x.2.1 == y.2.1) = false := by simpa using h1
    clear h1
    go_enter Try.func59, Try.ntmps59
    go_wp2_with fail
    dsimp only [List.append]
    go_quiet (first | (go_at_call 74; with_reducible exact HC.out _ H3.out _) | (go_at_call 75; with_reducible exact HD.out _ H6.out _))
    go_wp2
    go_ret
    exact ⟨ret_bool HR.out.symm, HB0.out _⟩
  have H1 := hide h1
  have e1 : (x.2.1 == y.2.1) = true := by simpa using h1
  clear h1
  by_cases h2 : x.2.2.1 = y.2.2.1
  rotate_left
  · have HR : Hid (decide (x = y) = false) := decide_eq_false (fun e => h2 (by rw [e]))
    have e2 : (x.2.2.1 == y.2.2.1) = false := by simpa using h2
    clear h2
    go_enter Try.func59, Try.ntmps59
    go_wp2_with fail
    dsimp only [List.append]
    go_quiet (first | (go_at_call 74; with_reducible exact HC.out _ H3.out _) | (go_at_call 75; with_reducible exact HD.out _ H6.out _))
    go_wp2
    go_ret
    exact ⟨ret_bool HR.out.symm, HB0.out _⟩
  have H2 := hide h2
  have e2 : (x.2.2.1 == y.2.2.1) = true := by simpa using h2
  clear h2
  by_cases h3 : x.2.2.2.1 = y.2.2.2.1
  rotate_left
  · have HR : Hid (decide (x = y) = false) := decide_eq_false (fun e => h3 (by rw [e]))
    have H3 := hide (decide_eq_false h3)
    clear h3
    go_enter Try.func59, Try.ntmps59
    go_wp2_with fail
    dsimp only [List.append]
    go_quiet (first | (go_at_call 74; with_reducible exact HC.out _ H3.out _) | (go_at_call 75; with_reducible exact HD.out _ H6.out _))
    go_wp2
    go_ret
    exact ⟨ret_bool HR.out.symm, HB0.out _⟩
  have H3 := hide (decide_eq_true h3)
  clear h3
  by_cases h4 : x.2.2.2.2.1 = y.2.2.2.2.1
  rotate_left
  · have HR : Hid (decide (x = y) = false) := decide_eq_false (fun e => h4 (by rw [e]))
    have e4 : (x.2.2.2.2.1 == y.2.2.2.2.1) = false := by simpa using h4
    clear h4
    go_enter Try.func59, Try.ntmps59
    go_wp2_with fail
    dsimp only [List.append]
    go_quiet (first | (go_at_call 74; with_reducible exact HC.out _ H3.out _) | (go_at_call 75; with_reducible exact HD.out _ H6.out _))
    go_wp2
    go_ret
    exact ⟨ret_bool HR.out.symm, HB0.out _⟩
  have H4 := hide h4
  have e4 : (x.2.2.2.2.1 == y.2.2.2.2.1) = true := by simpa using h4
  clear h4
  by_cases h5 : x.2.2.2.2.2.1 = y.2.2.2.2.2.1
  rotate_left
  · have HR : Hid (decide (x = y) = false) := decide_eq_false (fun e => h5 (by rw [e]))
    have e5 : (x.2.2.2.2.2.1 == y.2.2.2.2.2.1) = false := by simpa using h5
    clear h5
    go_enter Try.func59, Try.ntmps59
    go_wp2_with fail
    dsimp only [List.append]
    go_quiet (first | (go_at_call 74; with_reducible exact HC.out _ H3.out _) | (go_at_call 75; with_reducible exact HD.out _ H6.out _))
    go_wp2
    go_ret
    exact ⟨ret_bool HR.out.symm, HB0.out _⟩
  have H5 := hide h5
  have e5 : (x.2.2.2.2.2.1 == y.2.2.2.2.2.1) = true := by simpa using h5
  clear h5
  by_cases h6 : x.2.2.2.2.2.2 = y.2.2.2.2.2.2
  rotate_left
  · have HR : Hid (decide (x = y) = false) := decide_eq_false (fun e => h6 (by rw [e]))
    have H6 := hide (decide_eq_false h6)
    clear h6
    go_enter Try.func59, Try.ntmps59
    go_wp2_with fail
    dsimp only [List.append]
    go_quiet (first | (go_at_call 74; with_reducible exact HC.out _ H3.out _) | (go_at_call 75; with_reducible exact HD.out _ H6.out _))
    go_wp2
    go_ret
    exact ⟨ret_bool HR.out.symm, HB0.out _⟩
  have H6 := hide (decide_eq_true h6)
  clear h6
  have HR : Hid (decide (x = y) = true) := decide_eq_true (by
    have t3 := of_decide_eq_true H3.out; have t6 := of_decide_eq_true H6.out
    obtain ⟨x0, x1, x2, x3, x4, x5, x6⟩ := x
    obtain ⟨y0, y1, y2, y3, y4, y5, y6⟩ := y
    have := H0.out; have := H1.out; have := H2.out; have := H4.out; have := H5.out
    simp_all)
  go_enter Try.func59, Try.ntmps59
  go_wp2_with fail
  dsimp only [List.append]
  go_quiet (first | (go_at_call 74; with_reducible exact HC.out _ H3.out _) | (go_at_call 75; with_reducible exact HD.out _ H6.out _))
  go_wp2
  go_ret
  exact ⟨ret_bool HR.out.symm, HB0.out _⟩

set_option maxRecDepth 100000 in
set_option maxHeartbeats 4000000 in
theorem sameObject_calls (x y : OB) (la : Option Addr) (lc : Nat) (da : Option Addr) (dc : Nat) (ma : Option Addr) (mc : Nat) (na : Option Addr) (nc : Nat) (w : World) (x3 : x.2.2.2.1.length ≤ maxLen) (y3 : y.2.2.2.1.length ≤ maxLen) (x6 : x.2.2.2.2.2.2.length ≤ maxLen) (y6 : y.2.2.2.2.2.2.length ≤ maxLen) (xs : Sl w la x.2.2.2.1.length x.2.2.2.1) (ys : Sl w ma y.2.2.2.1.length y.2.2.2.1) (xt : Sl w da x.2.2.2.2.2.2.length x.2.2.2.2.2.2) (yt : Sl w na y.2.2.2.2.2.2.length y.2.2.2.2.2.2) : Calls Try.prog 43 #[.agg #[.int .i64 x.1, .int .i64 x.2.1, .int .i64 x.2.2.1, .slice la x.2.2.2.1.length lc, .int .i64 x.2.2.2.2.1, .int .i64 x.2.2.2.2.2.1, .slice da x.2.2.2.2.2.2.length dc], .agg #[.int .i64 y.1, .int .i64 y.2.1, .int .i64 y.2.2.1, .slice ma y.2.2.2.1.length mc, .int .i64 y.2.2.2.2.1, .int .i64 y.2.2.2.2.2.1, .slice na y.2.2.2.2.2.2.length nc]] w fun e w' => e = .returned (.bool (decide (x = y))) ∧ Below w.heap.size w w' := by
  have M0 := ((Mm.start w).allocC [.int .i64 x.1, .int .i64 x.2.1, .int .i64 x.2.2.1, .slice la x.2.2.2.1.length lc, .int .i64 x.2.2.2.2.1, .int .i64 x.2.2.2.2.2.1, .slice da x.2.2.2.2.2.2.length dc] 57).allocC [.int .i64 y.1, .int .i64 y.2.1, .int .i64 y.2.2.1, .slice ma y.2.2.2.1.length mc, .int .i64 y.2.2.2.2.1, .int .i64 y.2.2.2.2.2.1, .slice na y.2.2.2.2.2.2.length nc] 57
  simp only [World.size_alloc] at M0
  have HM := hide M0
  have HB0 := hide M0.bel
  have HC := hide (slicesEqual_calls la ma x.2.2.2.1.length lc y.2.2.2.1.length mc x.2.2.2.1 y.2.2.2.1 _ x3 y3 (xs.below M0.bel (Nat.le_refl _)) (ys.below M0.bel (Nat.le_refl _)))
  have HXT0 := hide xt
  have HYT0 := hide yt
  clear xs ys xt yt M0
  by_cases h0 : x.1 = y.1
  rotate_left
  · have HR : Hid (decide (x = y) = false) := decide_eq_false (fun e => h0 (by rw [e]))
    have e0 : (x.1 == y.1) = false := by simpa using h0
    clear h0
    go_enter Try.func43, Try.ntmps43
    go_wp2
    go_ret
    exact ⟨ret_bool HR.out.symm, HB0.out⟩
  have H0 := hide h0
  have e0 : (x.1 == y.1) = true := by simpa using h0
  clear h0
  by_cases h1 : x.2.1 = y.2.1
  rotate_left
  · have HR : Hid (decide (x = y) = false) := decide_eq_false (fun e => h1 (by rw [e]))
    have e1 : (x.2.1 == y.2.1) = false := by simpa using h1
    clear h1
    go_enter Try.func43, Try.ntmps43
    go_wp2
    go_ret
    exact ⟨ret_bool HR.out.symm, HB0.out⟩
  have H1 := hide h1
  have e1 : (x.2.1 == y.2.1) = true := by simpa using h1
  clear h1
  by_cases h2 : x.2.2.1 = y.2.2.1
  rotate_left
  · have HR : Hid (decide (x = y) = false) := decide_eq_false (fun e => h2 (by rw [e]))
    have e2 : (x.2.2.1 == y.2.2.1) = false := by simpa using h2
    clear h2
    go_enter Try.func43, Try.ntmps43
    go_wp2
    go_ret
    exact ⟨ret_bool HR.out.symm, HB0.out⟩
  have H2 := hide h2
  have e2 : (x.2.2.1 == y.2.2.1) = true := by simpa using h2
  clear h2
  by_cases h3 : x.2.2.2.1 = y.2.2.2.1
  rotate_left
  · have HR : Hid (decide (x = y) = false) := decide_eq_false (fun e => h3 (by rw [e]))
    have H3 := hide h3
    clear h3
    go_enter Try.func43, Try.ntmps43
    go_wp2_with fail
    refine HC.out.mono ?_
    rintro e w1 ⟨rfl, g1⟩
    rw [decide_eq_false H3.out]
    have M1 := HM.out.below g1
    have HB1 := hide M1.bel
    clear g1 M1
    go_wp2
    go_ret
    exact ⟨ret_bool HR.out.symm, HB1.out⟩
  have H3 := hide h3
  clear h3
  by_cases h4 : x.2.2.2.2.1 = y.2.2.2.2.1
  rotate_left
  · have HR : Hid (decide (x = y) = false) := decide_eq_false (fun e => h4 (by rw [e]))
    have e4 : (x.2.2.2.2.1 == y.2.2.2.2.1) = false := by simpa using h4
    clear h4
    go_enter Try.func43, Try.ntmps43
    go_wp2_with fail
    refine HC.out.mono ?_
    rintro e w1 ⟨rfl, g1⟩
    rw [decide_eq_true H3.out]
    have M1 := HM.out.below g1
    have HB1 := hide M1.bel
    have a4 := (M1.get 1 rfl).cell 4 rfl
    have b4 := (M1.get 0 rfl).cell 4 rfl
    have a5 := (M1.get 1 rfl).cell 5 rfl
    have b5 := (M1.get 0 rfl).cell 5 rfl
    have a6 := (M1.get 1 rfl).cell 6 rfl
    have b6 := (M1.get 0 rfl).cell 6 rfl
    have HXT := hide (HXT0.out.below M1.bel (Nat.le_refl _))
    have HYT := hide (HYT0.out.below M1.bel (Nat.le_refl _))
    clear g1 M1
    go_wp2
    go_ret
    exact ⟨ret_bool HR.out.symm, HB1.out⟩
  have H4 := hide h4
  have e4 : (x.2.2.2.2.1 == y.2.2.2.2.1) = true := by simpa using h4
  clear h4
  by_cases h5 : x.2.2.2.2.2.1 = y.2.2.2.2.2.1
  rotate_left
  · have HR : Hid (decide (x = y) = false) := decide_eq_false (fun e => h5 (by rw [e]))
    have e5 : (x.2.2.2.2.2.1 == y.2.2.2.2.2.1) = false := by simpa using h5
    clear h5
    go_enter Try.func43, Try.ntmps43
    go_wp2_with fail
    refine HC.out.mono ?_
    rintro e w1 ⟨rfl, g1⟩
    rw [decide_eq_true H3.out]
    have M1 := HM.out.below g1
    have HB1 := hide M1.bel
    have a4 := (M1.get 1 rfl).cell 4 rfl
    have b4 := (M1.get 0 rfl).cell 4 rfl
    have a5 := (M1.get 1 rfl).cell 5 rfl
    have b5 := (M1.get 0 rfl).cell 5 rfl
    have a6 := (M1.get 1 rfl).cell 6 rfl
    have b6 := (M1.get 0 rfl).cell 6 rfl
    have HXT := hide (HXT0.out.below M1.bel (Nat.le_refl _))
    have HYT := hide (HYT0.out.below M1.bel (Nat.le_refl _))
    clear g1 M1
    go_wp2
    go_ret
    exact ⟨ret_bool HR.out.symm, HB1.out⟩
  have H5 := hide h5
  have e5 : (x.2.2.2.2.2.1 == y.2.2.2.2.2.1) = true := by simpa using h5
  clear h5
  by_cases h6 : x.2.2.2.2.2.2 = y.2.2.2.2.2.2
  rotate_left
  · have HR : Hid (decide (x = y) = false) := decide_eq_false (fun e => h6 (by rw [e]))
    have H6 := hide h6
    clear h6
    go_enter Try.func43, Try.ntmps43
    go_wp2_with fail
    refine HC.out.mono ?_
    rintro e w1 ⟨rfl, g1⟩
    rw [decide_eq_true H3.out]
    have M1 := HM.out.below g1
    have HB1 := hide M1.bel
    have a4 := (M1.get 1 rfl).cell 4 rfl
    have b4 := (M1.get 0 rfl).cell 4 rfl
    have a5 := (M1.get 1 rfl).cell 5 rfl
    have b5 := (M1.get 0 rfl).cell 5 rfl
    have a6 := (M1.get 1 rfl).cell 6 rfl
    have b6 := (M1.get 0 rfl).cell 6 rfl
    have HXT := hide (HXT0.out.below M1.bel (Nat.le_refl _))
    have HYT := hide (HYT0.out.below M1.bel (Nat.le_refl _))
    clear g1 M1
    go_wp2_with fail
    refine (slicesEqual_calls da na x.2.2.2.2.2.2.length dc y.2.2.2.2.2.2.length nc x.2.2.2.2.2.2 y.2.2.2.2.2.2 _ x6 y6 HXT.out HYT.out).mono ?_
    rintro e w2 ⟨rfl, g2⟩
    rw [decide_eq_false H6.out]
    have HB2 := hide (HB1.out.trans (g2.mono HB1.out.size))
    clear g2
    go_wp2
    go_ret
    exact ⟨ret_bool HR.out.symm, HB2.out⟩
  have H6 := hide h6
  clear h6
  have HR : Hid (decide (x = y) = true) := decide_eq_true (by
    obtain ⟨x0, x1, x2, x3, x4, x5, x6⟩ := x
    obtain ⟨y0, y1, y2, y3, y4, y5, y6⟩ := y
    have := H0.out; have := H1.out; have := H2.out; have := H3.out; have := H4.out; have := H5.out; have := H6.out
    simp_all)
  go_enter Try.func43, Try.ntmps43
  go_wp2_with fail
  refine HC.out.mono ?_
  rintro e w1 ⟨rfl, g1⟩
  rw [decide_eq_true H3.out]
  have M1 := HM.out.below g1
  have HB1 := hide M1.bel
  have a4 := (M1.get 1 rfl).cell 4 rfl
  have b4 := (M1.get 0 rfl).cell 4 rfl
  have a5 := (M1.get 1 rfl).cell 5 rfl
  have b5 := (M1.get 0 rfl).cell 5 rfl
  have a6 := (M1.get 1 rfl).cell 6 rfl
  have b6 := (M1.get 0 rfl).cell 6 rfl
  have HXT := hide (HXT0.out.below M1.bel (Nat.le_refl _))
  have HYT := hide (HYT0.out.below M1.bel (Nat.le_refl _))
  clear g1 M1
  go_wp2_with fail
  refine (slicesEqual_calls da na x.2.2.2.2.2.2.length dc y.2.2.2.2.2.2.length nc x.2.2.2.2.2.2 y.2.2.2.2.2.2 _ x6 y6 HXT.out HYT.out).mono ?_
  rintro e w2 ⟨rfl, g2⟩
  rw [decide_eq_true H6.out]
  have HB2 := hide (HB1.out.trans (g2.mono HB1.out.size))
  clear g2
  go_wp2
  go_ret
  exact ⟨ret_bool HR.out.symm, HB2.out⟩

end Go.Proofs.Ytipfaoecodclaaa
