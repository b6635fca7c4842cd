import Derived.Test.YtcojgmecocjnkabSameReg
import Derived.Test.YtcojgmecocjnkabSysPA
import Derived.Test.YtcojgmecocjnkabWtL
import Derived.Test.YtcojgmecocjnkabGt
import Derived.Test.YtcojgmecocjnkabQs
import Derived.Deep.RegionHeld2
import Derived.WalkKit
import Derived.ProofKit
import Derived.OpenShut
import Derived.ShutString
import Derived.ChangeOld
import Derived.Below
import Derived.WalkSpells
import Derived.Deep.QuietTactic
import Derived.BigQuiet
import Derived.Deep.RegionWith
import Derived.Deep.WholeRow
import Derived.Deep.DeepCutAuto
import Derived.Deep.RegionHeld2
import Derived.Deep.AppendLies
import Derived.Deep.RegionLaw
namespace Go.Proofs.Ytcojgmecocjnkab
open Go.ChangeShapes Go.WideShapes Go.ChangeAt Go.RowKit

def sameX (p : Int) (h : Bool) (xs : List Int) (q : Int) (g : Bool) (ys : List Int) : Bool := decide (p = q) && decide (h = g) && decide (xs = ys)

set_option maxRecDepth 100000 in
theorem implSameContexts_calls (a : Option Addr) (la ca : Nat) (p : Int) (h : Bool) (xs : List Int) (b : Option Addr) (lb cb : Nat) (q : Int) (g : Bool) (ys : List Int) (w : World) (hla : la ≤ maxLen) (hx : Sl w a la xs) (hlb : lb ≤ maxLen) (hy : Sl w b lb ys) :
    Calls Try.prog 28 #[.agg #[.slice a la ca, .int .i64 p, .bool h], .agg #[.slice b lb cb, .int .i64 q, .bool g]] w fun e w' => e = .returned (.bool (sameX p h xs q g ys)) ∧ Below w.heap.size w w' := by
  have M0 := ((Mm.start w).alloc3 (.slice a la ca) (.int .i64 p) (.bool h) 69).alloc3 (.slice b lb cb) (.int .i64 q) (.bool g) 69
  try simp only [World.size_alloc] at M0
  have hb2 := M0.bel
  go_enter Try.func28, Try.ntmps28
  go_wp2_with fail
  refine (slicesEqual_calls a b la ca lb cb xs ys _ hla hlb (hx.below hb2 (Nat.le_refl _)) (hy.below hb2 (Nat.le_refl _))).mono ?_
  rintro e w1 ⟨rfl, g1⟩
  have M1 := M0.below g1
  have c1 := M1.cell 1 rfl
  have c2 := M1.cell 2 rfl
  have c4 := M1.cell 4 rfl
  have c5 := M1.cell 5 rfl
  have HB := hide M1.bel
  clear M0 M1 g1 hb2
  cases hd : decide (xs = ys) with
  | false =>
    have HR : Hid (sameX p h xs q g ys = false) := by show _ = _; unfold sameX; rw [hd]; simp
    clear hd
    go_wp2
    go_ret
    exact ⟨ret_bool HR.out.symm, HB.out⟩
  | true =>
    by_cases hp : p = q
    · subst hp
      have HR : Hid (sameX p h xs p g ys = (h == g)) := by show _ = _; unfold sameX; rw [hd]; cases h <;> cases g <;> simp
      have e1 : (p == p) = true := by simp
      clear hd
      go_wp2
      go_ret
      exact ⟨ret_bool HR.out.symm, HB.out⟩
    · have HR : Hid (sameX p h xs q g ys = false) := by show _ = _; unfold sameX; simp [hp]
      have e1 : (p == q) = false := by simpa using hp
      clear hd hp
      go_wp2
      go_ret
      exact ⟨ret_bool HR.out.symm, HB.out⟩

set_option maxRecDepth 100000 in
/-- two contexts that are pointed at. -/
theorem l7SameContext_calls (P Q : Nat) (o o' : Nat) (a : Option Addr) (la ca : Nat) (p : Int) (h : Bool) (xs : List Int) (b : Option Addr) (lb cb : Nat) (q : Int) (g : Bool) (ys : List Int) (w : World) (hla : la ≤ maxLen) (hx : Sl w a la xs) (hlb : lb ≤ maxLen) (hy : Sl w b lb ys)
    (c0 : w.cell? ⟨P, o, none⟩ = some (.slice a la ca)) (c1 : w.cell? ⟨P, o + 1, none⟩ = some (.int .i64 p)) (c2 : w.cell? ⟨P, o + 2, none⟩ = some (.bool h))
    (d0 : w.cell? ⟨Q, o', none⟩ = some (.slice b lb cb)) (d1 : w.cell? ⟨Q, o' + 1, none⟩ = some (.int .i64 q)) (d2 : w.cell? ⟨Q, o' + 2, none⟩ = some (.bool g)) :
    Calls Try.prog 17 #[.pointer (some ⟨P, o, none⟩), .pointer (some ⟨Q, o', none⟩)] w fun e w' => e = .returned (.bool (sameX p h xs q g ys)) ∧ Below w.heap.size w w' := by
  unfold maxLen at hla hlb
  obtain ⟨hxl, hx⟩ := hx
  obtain ⟨hyl, hy⟩ := hy
  have lP := World.block_lt_of_cell? _ _ c0
  have lQ := World.block_lt_of_cell? _ _ d0
  by_cases hp : p = q
  rotate_left
  · have HR : Hid (sameX p h xs q g ys = false) := by show _ = _; unfold sameX; simp [hp]
    have e1 : (p != q) = true := by simpa using hp
    clear hx hy hp
    go_enter Try.func17, Try.ntmps17
    go_wp2_with fail
    go_quiet (fail)
    go_wp2
    go_ret
    exact ⟨ret_bool HR.out.symm, bdrewN (Below.refl _ _) _⟩
  subst hp
  have e1 : (p != p) = false := by simp
  by_cases hg : h = g
  rotate_left
  · have HR : Hid (sameX p h xs p g ys = false) := by show _ = _; unfold sameX; simp [hg]
    clear hx hy
    rcases (show (h = true ∧ g = false) ∨ (h = false ∧ g = true) by cases h <;> cases g <;> simp_all) with ⟨rfl, rfl⟩ | ⟨rfl, rfl⟩
    all_goals clear hg
    · go_enter Try.func17, Try.ntmps17
      go_wp2_with fail
      go_quiet (fail)
      go_wp2
      go_ret
      exact ⟨ret_bool HR.out.symm, bdrewN (Below.refl _ _) _⟩
    · go_enter Try.func17, Try.ntmps17
      go_wp2_with fail
      go_quiet (fail)
      go_wp2
      go_ret
      exact ⟨ret_bool HR.out.symm, bdrewN (Below.refl _ _) _⟩
  subst hg
  have e2 : (h != h) = false := by simp
  by_cases hl : la = lb
  rotate_left
  · have HR : Hid (sameX p h xs p h ys = false) := by
      have : xs ≠ ys := fun e => hl (by rw [← hxl, ← hyl, e])
      show _ = _; unfold sameX; simp [this]
    have e3 : ((la : Int) != (lb : Int)) = true := by simp; omega
    clear hx hy hl
    go_enter Try.func17, Try.ntmps17
    go_wp2_with fail
    go_quiet (fail)
    go_wp2
    go_ret
    exact ⟨ret_bool HR.out.symm, bdrewN (Below.refl _ _) _⟩
  subst hl
  have e3 : ((la : Int) != (la : Int)) = false := by simp
  go_enter Try.func17, Try.ntmps17
  go_wp2_with fail
  go_quiet (fail)
  go_wp2
  clear e1 e2 e3
  go_loopw [5] (fun i wr => ∃ k : Nat, k ≤ la ∧ i = .int .i64 k ∧ Below w.heap.size w wr ∧ ∀ j, j < k → gt xs j = gt ys j) (fun i _ => la - (intOf i).toNat)
  case atStart => exact ⟨0, Nat.zero_le _, rfl, bdrewN (Below.refl _ _) _, fun j hj => by omega⟩
  case round =>
    obtain ⟨k, hk, rfl, hbel, hall⟩ := hrel
    have Hall : Hid (∀ j, j < k → gt xs j = gt ys j) := hall
    have c0' := (hbel.cell (p := ⟨P, o, none⟩) lP).trans c0
    have d0' := (hbel.cell (p := ⟨Q, o', none⟩) lQ).trans d0
    clear hall c0 d0 c1 c2 d1 d2
    by_cases hlt : k < la
    · obtain ⟨b1, o1, rfl, hb1, hc1⟩ := hx (by omega)
      obtain ⟨b2, o2, rfl, hb2, hc2⟩ := hy (by omega)
      have hck1 := (hbel.cell (p := ⟨b1, o1 + k, none⟩) hb1).trans (hc1 k hlt)
      have hck2 := (hbel.cell (p := ⟨b2, o2 + k, none⟩) hb2).trans (hc2 k hlt)
      have hki : (k : Int) < (la : Int) := by omega
      clear hc1 hc2
      by_cases he : gt xs k = gt ys k
      · have hbq : (gt xs k != gt ys k) = false := by simp [he]
        have He : Hid (gt xs k = gt ys k) := he
        clear he
        go_wp2_with fail
        go_quiet (fail)
        go_wp2
        go_roundw
        case rel => exact ⟨k + 1, by omega, by go_num, bdrewN hbel _, fun j hj => by (by_cases e : j = k); (subst e; exact He.out); exact Hall.out j (by omega)⟩
        case measure => simp [intOf]; omega
      · have hbq : (gt xs k != gt ys k) = true := by simp [he]
        have HR : Hid (sameX p h xs p h ys = false) := by
          have : xs ≠ ys := fun e => he (by rw [e])
          show _ = _; unfold sameX; simp [this]
        clear he
        go_wp2_with fail
        go_quiet (fail)
        go_wp2
        go_ret
        exact ⟨ret_bool HR.out.symm, bdrewN hbel _⟩
    · have HR : Hid (sameX p h xs p h ys = true) := by
        have : xs = ys := getD_ext (by omega) (fun i hi => Hall.out i (by omega))
        show _ = _; unfold sameX; simp [this]
      clear hx hy
      go_wp2
      go_ret
      exact ⟨ret_bool HR.out.symm, hbel⟩

set_option maxRecDepth 100000 in
theorem implEqualW_calls (a b : Option Addr) (la ca lb cb : Nat) (xs ys : List (Int × Int)) (w : World) (hla : la ≤ maxLen) (hlb : lb ≤ maxLen) (hx : Swd w a la xs) (hy : Swd w b lb ys) :
    Calls Try.prog 48 #[.slice a la ca, .slice b lb cb] w fun e w' => e = .returned (.bool (decide (xs = ys))) ∧ Below w.heap.size w w' := by
  unfold maxLen at hla hlb
  obtain ⟨hxl, hx⟩ := hx
  obtain ⟨hyl, hy⟩ := hy
  by_cases hne : la = lb
  · subst hne
    have hn : ((la : Int) != (la : Int)) = false := by simp
    go_enter Try.func48, Try.ntmps48
    go_wp2
    go_loopw [13] (fun i wr => ∃ k : Nat, k ≤ la ∧ i = .int .i64 k ∧ Below w.heap.size w wr ∧ ∀ j, j < k → gw xs j = gw ys j) (fun i _ => la - (intOf i).toNat)
    case atStart => exact ⟨0, Nat.zero_le _, rfl, Below.refl _ _, fun j hj => by omega⟩
    case round =>
      obtain ⟨k, hk, rfl, hbel, hall⟩ := hrel
      have Hall : Hid (∀ j, j < k → gw xs j = gw ys j) := hall
      clear hall
      by_cases hlt : k < la
      · obtain ⟨b1, o1, rfl, hb1, hc1⟩ := hx (by omega)
        obtain ⟨b2, o2, rfl, hb2, hc2⟩ := hy (by omega)
        obtain ⟨p0, p1⟩ := cellsw hc1 hlt
        obtain ⟨r0, r1⟩ := cellsw hc2 hlt
        have hp0 := (hbel.cell (p := ⟨b1, o1 + k * 2, none⟩) hb1).trans p0
        have hp1 := (hbel.cell (p := ⟨b1, o1 + k * 2 + 1, none⟩) hb1).trans p1
        have hq0 := (hbel.cell (p := ⟨b2, o2 + k * 2, none⟩) hb2).trans r0
        have hq1 := (hbel.cell (p := ⟨b2, o2 + k * 2 + 1, none⟩) hb2).trans r1
        clear p0 p1 r0 r1 hc1 hc2
        have hki : (k : Int) < (la : Int) := by omega
        by_cases he : gw xs k = gw ys k
        · rw [← he] at hq0 hq1
          have He : Hid (gw xs k = gw ys k) := he
          clear he
          go_wp2_with fail
          go_quiet (fail)
          go_wp2
          go_roundw
          case rel => exact ⟨k + 1, by omega, by go_num, bdrewN hbel _, fun j hj => by (by_cases e : j = k); (subst e; exact He.out); exact Hall.out j (by omega)⟩
          case measure => simp [intOf]; omega
        · have HR : Hid (decide (xs = ys) = false) := by show _ = _; simp; intro e; exact he (by rw [e])
          by_cases h1 : (gw xs k).1 = (gw ys k).1
          · have h2 : ¬ (gw xs k).2 = (gw ys k).2 := fun h => he (Prod.ext h1 h)
            clear he
            go_wp2_with fail
            go_quiet (fail)
            go_wp2
            go_ret
            exact ⟨ret_bool HR.out.symm, bdrewN hbel _⟩
          · clear he
            go_wp2_with fail
            go_quiet (fail)
            go_wp2
            go_ret
            exact ⟨ret_bool HR.out.symm, bdrewN hbel _⟩
      · go_wp2
        go_ret
        exact ⟨ret_bool (by simp; exact gw_ext (by omega) (fun i hi => Hall.out i (by omega))), hbel⟩
  · have hn : ((la : Int) != (lb : Int)) = true := by simp; omega
    go_enter Try.func48, Try.ntmps48
    go_wp2
    go_ret
    exact ⟨ret_bool (by simp; intro e; rw [e] at hxl; omega), Below.refl _ _⟩

set_option maxRecDepth 100000 in
theorem implSameMemories_calls (a : Option Addr) (la ca : Nat) (xs : List (Int × Int)) (b : Option Addr) (lb cb : Nat) (ys : List (Int × Int)) (w : World) (hla : la ≤ maxLen) (hx : Swd w a la xs) (hlb : lb ≤ maxLen) (hy : Swd w b lb ys) :
    Calls Try.prog 26 #[.agg #[.slice a la ca], .agg #[.slice b lb cb]] w fun e w' => e = .returned (.bool (decide (xs = ys))) ∧ Below w.heap.size w w' := by
  have HB := hide fun o1 o2 => ((Below.refl w.heap.size w).alloc (Nat.le_refl _) o1).alloc (by simp) o2
  go_enter Try.func26, Try.ntmps26
  go_wp2_with fail
  refine (implEqualW_calls a b la ca lb cb xs ys _ hla hlb (hx.below (HB.out _ _) (Nat.le_refl _)) (hy.below (HB.out _ _) (Nat.le_refl _))).mono ?_
  rintro e w1 ⟨rfl, g1⟩
  have HE := hide ((HB.out (.cells #[.slice a la ca] 47) (.cells #[.slice b lb cb] 47)).trans (g1.mono (HB.out _ _).size))
  clear g1
  go_wp2
  go_ret
  exact ⟨rfl, HE.out⟩

set_option maxRecDepth 100000 in
set_option maxHeartbeats 1000000 in
theorem specSameMemories_calls (a : Option Addr) (la ca : Nat) (xs : List (Int × Int)) (b : Option Addr) (lb cb : Nat) (ys : List (Int × Int)) (w : World) (hla : la ≤ maxLen) (hx : Swd w a la xs) (hlb : lb ≤ maxLen) (hy : Swd w b lb ys) :
    Calls Try.prog 16 #[.agg #[.slice a la ca], .agg #[.slice b lb cb]] w fun e w' => e = .returned (.bool (decide (xs = ys))) ∧ Below w.heap.size w w' := by
  unfold maxLen at hla hlb
  obtain ⟨hxl, hx⟩ := hx
  obtain ⟨hyl, hy⟩ := hy
  have M0 := ((Mm.start w).alloc1 (.slice a la ca) 47).alloc1 (.slice b lb cb) 47
  try simp only [World.size_alloc] at M0
  have HM := hide M0
  clear M0
  by_cases hne : la = lb
  · subst hne
    have hn : ((la : Int) != (la : Int)) = false := by simp
    go_enter Try.func16, Try.ntmps16
    go_wp2
    go_loopw [5] (fun i wr => ∃ k : Nat, k ≤ la ∧ i = .int .i64 k ∧ Mm w wr [(w.heap.size + 1, 0, .slice b la cb), (w.heap.size, 0, .slice a la ca)] [] ∧ ∀ j, j < k → gw xs j = gw ys j) (fun i _ => la - (intOf i).toNat)
    case atStart => exact ⟨0, Nat.zero_le _, rfl, HM.out, fun j hj => by omega⟩
    case round =>
      obtain ⟨k, hk, rfl, M, hall⟩ := hrel
      have Hall : Hid (∀ j, j < k → gw xs j = gw ys j) := hall
      have hbel := M.bel
      have m0 := M.cell 0 rfl
      have m1 := M.cell 1 rfl
      have HM1 := hide M
      clear hall M
      by_cases hlt : k < la
      · obtain ⟨b1, o1, rfl, hb1, hc1⟩ := hx (by omega)
        obtain ⟨b2, o2, rfl, hb2, hc2⟩ := hy (by omega)
        obtain ⟨p0, p1⟩ := cellsw hc1 hlt
        obtain ⟨r0, r1⟩ := cellsw hc2 hlt
        have hp0 := (hbel.cell (p := ⟨b1, o1 + k * 2, none⟩) hb1).trans p0
        have hp1 := (hbel.cell (p := ⟨b1, o1 + k * 2 + 1, none⟩) hb1).trans p1
        have hq0 := (hbel.cell (p := ⟨b2, o2 + k * 2, none⟩) hb2).trans r0
        have hq1 := (hbel.cell (p := ⟨b2, o2 + k * 2 + 1, none⟩) hb2).trans r1
        clear p0 p1 r0 r1 hc1 hc2
        have hki : (k : Int) < (la : Int) := by omega
        by_cases he : gw xs k = gw ys k
        · rw [← he] at hq0 hq1
          have He : Hid (gw xs k = gw ys k) := he
          clear he
          go_wp2_with fail
          go_quiet (fail)
          go_wp2
          go_roundw
          case rel => exact ⟨k + 1, by omega, by go_num, HM1.out.below (bdrewN (Below.refl _ _) _), fun j hj => by (by_cases e : j = k); (subst e; exact He.out); exact Hall.out j (by omega)⟩
          case measure => simp [intOf]; omega
        · have HR : Hid (decide (xs = ys) = false) := by show _ = _; simp; intro e; exact he (by rw [e])
          by_cases h1 : (gw xs k).1 = (gw ys k).1
          · have h2 : ¬ (gw xs k).2 = (gw ys k).2 := fun h => he (Prod.ext h1 h)
            clear he
            go_wp2_with fail
            go_quiet (fail)
            go_wp2
            go_ret
            exact ⟨ret_bool HR.out.symm, bdrewN hbel _⟩
          · clear he
            go_wp2_with fail
            go_quiet (fail)
            go_wp2
            go_ret
            exact ⟨ret_bool HR.out.symm, bdrewN hbel _⟩
      · go_wp2
        go_ret
        exact ⟨ret_bool (by simp; exact gw_ext (by omega) (fun i hi => Hall.out i (by omega))), hbel⟩
  · have hn : ((la : Int) != (lb : Int)) = true := by simp; omega
    go_enter Try.func16, Try.ntmps16
    go_wp2
    go_ret
    exact ⟨ret_bool (by simp; intro e; rw [e] at hxl; omega), HM.out.bel⟩

set_option maxRecDepth 100000 in
theorem implEqualG_calls (a b : Option Addr) (la ca lb cb : Nat) (xs ys : List (Int × Int)) (w : World) (hla : la ≤ maxLen) (hlb : lb ≤ maxLen) (hx : Swd w a la xs) (hy : Swd w b lb ys) :
    Calls Try.prog 30 #[.slice a la ca, .slice b lb cb] w fun e w' => e = .returned (.bool (decide (xs = ys))) ∧ Below w.heap.size w w' := by
  unfold maxLen at hla hlb
  obtain ⟨hxl, hx⟩ := hx
  obtain ⟨hyl, hy⟩ := hy
  by_cases hne : la = lb
  · subst hne
    have hn : ((la : Int) != (la : Int)) = false := by simp
    go_enter Try.func30, Try.ntmps30
    go_wp2
    go_loopw [13] (fun i wr => ∃ k : Nat, k ≤ la ∧ i = .int .i64 k ∧ Below w.heap.size w wr ∧ ∀ j, j < k → gw xs j = gw ys j) (fun i _ => la - (intOf i).toNat)
    case atStart => exact ⟨0, Nat.zero_le _, rfl, Below.refl _ _, fun j hj => by omega⟩
    case round =>
      obtain ⟨k, hk, rfl, hbel, hall⟩ := hrel
      have Hall : Hid (∀ j, j < k → gw xs j = gw ys j) := hall
      clear hall
      by_cases hlt : k < la
      · obtain ⟨b1, o1, rfl, hb1, hc1⟩ := hx (by omega)
        obtain ⟨b2, o2, rfl, hb2, hc2⟩ := hy (by omega)
        obtain ⟨p0, p1⟩ := cellsw hc1 hlt
        obtain ⟨r0, r1⟩ := cellsw hc2 hlt
        have hp0 := (hbel.cell (p := ⟨b1, o1 + k * 2, none⟩) hb1).trans p0
        have hp1 := (hbel.cell (p := ⟨b1, o1 + k * 2 + 1, none⟩) hb1).trans p1
        have hq0 := (hbel.cell (p := ⟨b2, o2 + k * 2, none⟩) hb2).trans r0
        have hq1 := (hbel.cell (p := ⟨b2, o2 + k * 2 + 1, none⟩) hb2).trans r1
        clear p0 p1 r0 r1 hc1 hc2
        have hki : (k : Int) < (la : Int) := by omega
        by_cases he : gw xs k = gw ys k
        · rw [← he] at hq0 hq1
          have He : Hid (gw xs k = gw ys k) := he
          clear he
          go_wp2_with fail
          go_quiet (fail)
          go_wp2
          go_roundw
          case rel => exact ⟨k + 1, by omega, by go_num, bdrewN hbel _, fun j hj => by (by_cases e : j = k); (subst e; exact He.out); exact Hall.out j (by omega)⟩
          case measure => simp [intOf]; omega
        · have HR : Hid (decide (xs = ys) = false) := by show _ = _; simp; intro e; exact he (by rw [e])
          by_cases h1 : (gw xs k).1 = (gw ys k).1
          · have h2 : ¬ (gw xs k).2 = (gw ys k).2 := fun h => he (Prod.ext h1 h)
            clear he
            go_wp2_with fail
            go_quiet (fail)
            go_wp2
            go_ret
            exact ⟨ret_bool HR.out.symm, bdrewN hbel _⟩
          · clear he
            go_wp2_with fail
            go_quiet (fail)
            go_wp2
            go_ret
            exact ⟨ret_bool HR.out.symm, bdrewN hbel _⟩
      · go_wp2
        go_ret
        exact ⟨ret_bool (by simp; exact gw_ext (by omega) (fun i hi => Hall.out i (by omega))), hbel⟩
  · have hn : ((la : Int) != (lb : Int)) = true := by simp; omega
    go_enter Try.func30, Try.ntmps30
    go_wp2
    go_ret
    exact ⟨ret_bool (by simp; intro e; rw [e] at hxl; omega), Below.refl _ _⟩

/-- is all the same but the caches. -/
def tabB (D E : SD) : Bool := (decide (D.ts = E.ts) && decide (D.ds = E.ds)) && decide (D.ss = E.ss)
def archB (D E : SD) : Bool := tabB D E && decide (D.ws = E.ws) && decide (D.cs = E.cs) && decide (D.ac = E.ac) && decide (D.dv = E.dv) && decide (D.os = E.os) && decide (D.gs = E.gs)

theorem sameX_iff {x y : List Int × Int × Bool} : sameX x.2.1 x.2.2 x.1 y.2.1 y.2.2 y.1 = decide (x = y) := by
  obtain ⟨a, b, c⟩ := x
  obtain ⟨d, e, f⟩ := y
  unfold sameX
  by_cases h1 : a = d <;> by_cases h2 : b = e <;> by_cases h3 : c = f <;> simp [h1, h2, h3]

set_option maxRecDepth 100000 in
theorem l9Out_calls (a b : Option Addr) (la ca lb cb : Nat) (xs ys : List Int) (w : World) (hla : la ≤ maxLen) (hlb : lb ≤ maxLen) (hx : Sl w a la xs) (hy : Sl w b lb ys) :
    Calls Try.prog 18 #[.slice a la ca, .slice b lb cb] w fun e w' => e = .returned (.bool (decide (xs = ys))) ∧ Below w.heap.size w w' := by
  unfold maxLen at hla hlb
  obtain ⟨hxl, hx⟩ := hx
  obtain ⟨hyl, hy⟩ := hy
  by_cases hne : la = lb
  · subst hne
    have hn : ((la : Int) != (la : Int)) = false := by simp
    go_enter Try.func18, Try.ntmps18
    go_wp2
    go_loopw [5] (fun i wr => ∃ k : Nat, k ≤ la ∧ i = .int .i64 k ∧ Below w.heap.size w wr ∧ ∀ j, j < k → gt xs j = gt ys j) (fun i _ => la - (intOf i).toNat)
    case atStart => exact ⟨0, Nat.zero_le _, rfl, Below.refl _ _, fun j hj => by omega⟩
    case round =>
      obtain ⟨k, hk, rfl, hbel, hall⟩ := hrel
      have Hall : Hid (∀ j, j < k → gt xs j = gt ys j) := hall
      clear hall
      by_cases hlt : k < la
      · obtain ⟨b1, o1, rfl, hb1, hc1⟩ := hx (by omega)
        obtain ⟨b2, o2, rfl, hb2, hc2⟩ := hy (by omega)
        have hck1 := (hbel.cell (p := ⟨b1, o1 + k, none⟩) hb1).trans (hc1 k hlt)
        have hck2 := (hbel.cell (p := ⟨b2, o2 + k, none⟩) hb2).trans (hc2 k hlt)
        have hki : (k : Int) < (la : Int) := by omega
        clear hc1 hc2
        by_cases he : gt xs k = gt ys k
        · have hbq : (gt xs k != gt ys k) = false := by simp [he]
          have He : Hid (gt xs k = gt ys k) := he
          clear he
          go_wp2_with fail
          go_quiet (fail)
          go_wp2
          go_roundw
          case rel => exact ⟨k + 1, by omega, by go_num, bdrewN hbel _, fun j hj => by (by_cases e : j = k); (subst e; exact He.out); exact Hall.out j (by omega)⟩
          case measure => simp [intOf]; omega
        · have hbq : (gt xs k != gt ys k) = true := by simp [he]
          go_wp2_with fail
          go_quiet (fail)
          go_wp2
          go_ret
          exact ⟨ret_bool (by simp; intro e; exact he (by rw [e])), bdrewN hbel _⟩
      · go_wp2
        go_ret
        exact ⟨ret_bool (by simp; exact getD_ext (by omega) (fun i hi => Hall.out i (by omega))), hbel⟩
  · have hn : ((la : Int) != (lb : Int)) = true := by simp; omega
    go_enter Try.func18, Try.ntmps18
    go_wp2
    go_ret
    exact ⟨ret_bool (by simp; intro e; rw [e] at hxl; omega), Below.refl _ _⟩

/-- a loop over two rows of numbers that are pointed at: what a round knows. -/
def AG (xs ys : List Int) (k : Nat) : Prop := ∀ j, j < k → gt xs j = gt ys j

set_option maxRecDepth 100000 in
set_option maxHeartbeats 2000000 in
theorem l9SameTables_calls (P Q : Nat) (A : SA) (D : SD) (B : SA) (E : SD) (w : World) (hr : RT w A.a A.n D.ss A.ta A.tn D.ts A.da A.dn D.ds) (hs : RT w B.a B.n E.ss B.ta B.tn E.ts B.da B.dn E.ds)
    (c0 : w.cell? ⟨P, 0, none⟩ = some (.slice A.a A.n A.c)) (c1 : w.cell? ⟨P, 1, none⟩ = some (.slice A.ta A.tn A.tc)) (c2 : w.cell? ⟨P, 2, none⟩ = some (.slice A.da A.dn A.dc))
    (d0 : w.cell? ⟨Q, 0, none⟩ = some (.slice B.a B.n B.c)) (d1 : w.cell? ⟨Q, 1, none⟩ = some (.slice B.ta B.tn B.tc)) (d2 : w.cell? ⟨Q, 2, none⟩ = some (.slice B.da B.dn B.dc)) :
    Calls Try.prog 15 #[.pointer (some ⟨P, 0, none⟩), .pointer (some ⟨Q, 0, none⟩)] w fun e w' => e = .returned (.bool (tabB D E)) ∧ Below w.heap.size w w' := by
  obtain ⟨hm, hsl, htm, ⟨htl, ht⟩, hdm, hdl, hd⟩ := hr
  obtain ⟨im, isl, itm, ⟨itl, it⟩, idm, idl, id'⟩ := hs
  unfold maxLen at htm itm hdm idm
  have lP := World.block_lt_of_cell? _ _ c0
  have lQ := World.block_lt_of_cell? _ _ d0
  obtain ⟨aa, an, ac, ata, atn, atc, ada, adn, adc, _, _, _, _, _, _, _, _, _, _, _, _, _, _, _⟩ := A
  obtain ⟨ba, bn, bc, bta, btn, btc, bda, bdn, bdc, _, _, _, _, _, _, _, _, _, _, _, _, _, _, _⟩ := B
  dsimp only at *
  by_cases h1 : atn = btn
  rotate_left
  · have HR : Hid (tabB D E = false) := by
      have : D.ts ≠ E.ts := fun e => h1 (by rw [← htl, ← itl, e])
      show _ = _; unfold tabB; simp [this]
    have e1 : ((atn : Int) != (btn : Int)) = true := by simp; omega
    clear hsl isl ht it hd id' h1 hm im
    go_enter Try.func15, Try.ntmps15
    go_wp2_with fail
    go_quiet (fail)
    go_wp2
    go_ret
    exact ⟨ret_bool HR.out.symm, bdrewN (Below.refl _ _) _⟩
  subst h1
  have e1 : ((atn : Int) != (atn : Int)) = false := by simp
  by_cases h2 : adn = bdn
  rotate_left
  · have HR : Hid (tabB D E = false) := by
      have : D.ds ≠ E.ds := fun e => h2 (by rw [← hdl, ← idl, e])
      show _ = _; unfold tabB; simp [this]
    have e2 : ((adn : Int) != (bdn : Int)) = true := by simp; omega
    clear hsl isl ht it hd id' h2 hm im
    go_enter Try.func15, Try.ntmps15
    go_wp2_with fail
    go_quiet (fail)
    go_wp2
    go_ret
    exact ⟨ret_bool HR.out.symm, bdrewN (Below.refl _ _) _⟩
  subst h2
  have e2 : ((adn : Int) != (adn : Int)) = false := by simp
  have HT : Hid (D.ts.length = atn ∧ E.ts.length = atn ∧ D.ds.length = adn ∧ E.ds.length = adn) := ⟨htl, itl, hdl, idl⟩
  clear htl itl hdl idl
  go_enter Try.func15, Try.ntmps15
  go_wp2_with fail
  go_quiet (fail)
  go_wp2
  clear e1 e2
  go_loopw [5] (fun i wr => ∃ k : Nat, k ≤ atn ∧ i = .int .i64 k ∧ Below w.heap.size w wr ∧ AG D.ts E.ts k) (fun i _ => atn - (intOf i).toNat)
  case atStart => exact ⟨0, Nat.zero_le _, rfl, bdrewN (Below.refl _ _) _, fun j hj => by omega⟩
  case round =>
    obtain ⟨k, hk, rfl, hbel, hall⟩ := hrel
    have Hall := hide hall
    have c1' := (hbel.cell (p := ⟨P, 1, none⟩) lP).trans c1
    have d1' := (hbel.cell (p := ⟨Q, 1, none⟩) lQ).trans d1
    clear hall
    by_cases hlt : k < atn
    · obtain ⟨b1, o1, rfl, hb1, hc1⟩ := ht (by omega)
      obtain ⟨b2, o2, rfl, hb2, hc2⟩ := it (by omega)
      have hck1 := (hbel.cell (p := ⟨b1, o1 + k, none⟩) hb1).trans (hc1 k hlt)
      have hck2 := (hbel.cell (p := ⟨b2, o2 + k, none⟩) hb2).trans (hc2 k hlt)
      have hki : (k : Int) < (atn : Int) := by omega
      clear hc1 hc2 c0 c1 c2 d0 d1 d2
      by_cases he : gt D.ts k = gt E.ts k
      · have hbq : (gt D.ts k != gt E.ts k) = false := by simp [he]
        have He : Hid (gt D.ts k = gt E.ts k) := he
        clear he
        go_wp2_with fail
        go_quiet (fail)
        go_wp2
        go_roundw
        case rel => exact ⟨k + 1, by omega, by go_num, bdrewN hbel _, fun j hj => by (by_cases e : j = k); (subst e; exact He.out); exact Hall.out j (by omega)⟩
        case measure => simp [intOf]; omega
      · have hbq : (gt D.ts k != gt E.ts k) = true := by simp [he]
        have HR : Hid (tabB D E = false) := by
          have : D.ts ≠ E.ts := fun e => he (by rw [e])
          show _ = _; unfold tabB; simp [this]
        clear he
        go_wp2_with fail
        go_quiet (fail)
        go_wp2
        go_ret
        exact ⟨ret_bool HR.out.symm, bdrewN hbel _⟩
    · have HE : Hid (D.ts = E.ts) := getD_ext (by have := HT.out; omega) (fun i hi => Hall.out i (by have := HT.out; omega))
      have HB := hide hbel
      clear Hall ht it hbel
      go_wp2
      go_loopw [6] (fun i wr => ∃ k : Nat, k ≤ adn ∧ i = .int .i64 k ∧ Below w.heap.size w wr ∧ AG D.ds E.ds k) (fun i _ => adn - (intOf i).toNat)
      case atStart => exact ⟨0, Nat.zero_le _, rfl, HB.out, fun j hj => by omega⟩
      case round =>
        clear HB c1' d1'
        obtain ⟨m, hm', rfl, hbel, hall⟩ := hrel
        have Hall := hide hall
        have c2' := (hbel.cell (p := ⟨P, 2, none⟩) lP).trans c2
        have d2' := (hbel.cell (p := ⟨Q, 2, none⟩) lQ).trans d2
        have c0' := (hbel.cell (p := ⟨P, 0, none⟩) lP).trans c0
        have d0' := (hbel.cell (p := ⟨Q, 0, none⟩) lQ).trans d0
        clear hall c0 c1 c2 d0 d1 d2
        by_cases hlt2 : m < adn
        · obtain ⟨b1, o1, rfl, hb1, hc1⟩ := hd (by omega)
          obtain ⟨b2, o2, rfl, hb2, hc2⟩ := id' (by omega)
          have hck1 := (hbel.cell (p := ⟨b1, o1 + m, none⟩) hb1).trans (hc1 m hlt2)
          have hck2 := (hbel.cell (p := ⟨b2, o2 + m, none⟩) hb2).trans (hc2 m hlt2)
          have hki : (m : Int) < (adn : Int) := by omega
          clear hc1 hc2 c0' d0'
          by_cases he : gt D.ds m = gt E.ds m
          · have hbq : (gt D.ds m != gt E.ds m) = false := by simp [he]
            have He : Hid (gt D.ds m = gt E.ds m) := he
            clear he
            go_wp2_with fail
            go_quiet (fail)
            go_wp2
            go_roundw
            case rel => exact ⟨m + 1, by omega, by go_num, bdrewN hbel _, fun j hj => by (by_cases e : j = m); (subst e; exact He.out); exact Hall.out j (by omega)⟩
            case measure => simp [intOf]; omega
          · have hbq : (gt D.ds m != gt E.ds m) = true := by simp [he]
            have HR : Hid (tabB D E = false) := by
              have : D.ds ≠ E.ds := fun e => he (by rw [e])
              show _ = _; unfold tabB; simp [this]
            clear he
            go_wp2_with fail
            go_quiet (fail)
            go_wp2
            go_ret
            exact ⟨ret_bool HR.out.symm, bdrewN hbel _⟩
        · have HR : Hid (tabB D E = decide (D.ss = E.ss)) := by
            have e2 : D.ds = E.ds := getD_ext (by have := HT.out; omega) (fun i hi => Hall.out i (by have := HT.out; omega))
            show _ = _; unfold tabB; simp [HE.out, e2]
          have HS := hide hsl
          have IS := hide isl
          have HB := hide hbel
          clear hd id' hsl isl Hall
          have HS0 : Hid (wr.drew.cell? ⟨P, 0, none⟩ = some (.slice aa an ac) ∧ wr.drew.cell? ⟨Q, 0, none⟩ = some (.slice ba bn bc) ∧ Below wr.heap.size wr wr.drew) := ⟨c0', d0', (Below.refl _ _).drew⟩
          have hPr : P < wr.heap.size := by have := hbel.size; omega
          have hQr : Q < wr.heap.size := by have := hbel.size; omega
          clear c0' d0' hbel
          go_wp2_with fail
          go_region_held2 (fun X => X.cell? ⟨P, 0, none⟩ = some (.slice aa an ac) ∧ X.cell? ⟨Q, 0, none⟩ = some (.slice ba bn bc) ∧ Below wr.heap.size wr X)
            (first | with_reducible exact HS0.out | (repeat (first | with_reducible assumption)))
            (first
              | (go_at_call 41; refine (specSameRegistries_calls aa an ac D.ss ba bn bc E.ss _ hm (HS.out.below (HB.out.trans ((q2_bel (by with_reducible assumption)).mono HB.out.size)) (Nat.le_refl _)) im (IS.out.below (HB.out.trans ((q2_bel (by with_reducible assumption)).mono HB.out.size)) (Nat.le_refl _))).mono ?_; rintro e ws ⟨rfl, gs⟩; have hss := q2_below hPr hQr (by with_reducible assumption) gs; clear gs))
          all_goals go_wp2
          all_goals go_ret
          all_goals exact ⟨ret_bool HR.out.symm, HB.out.trans ((q2_bel (by with_reducible assumption)).mono HB.out.size)⟩

end Go.Proofs.Ytcojgmecocjnkab
