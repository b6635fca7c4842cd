import Derived.Test.YtnlkigjgloeonaaSameReg
import Derived.Test.YtnlkigjgloeonaaSnP
import Derived.Test.YtnlkigjgloeonaaWtL
import Derived.Test.YtnlkigjgloeonaaQs
import Derived.Deep.RegionHeld2
import Derived.WalkKit
import Derived.ProofKit
import Derived.OpenShut
import Derived.ShutString
import Derived.ChangeOld
import Derived.Below
import Derived.WalkSpells
import Derived.Deep.QuietTactic
import Derived.BigQuiet
import Derived.Deep.RegionWith
import Derived.Deep.WholeRow
import Derived.Deep.DeepCutAuto
import Derived.Deep.RegionHeld2
import Derived.Deep.AppendLies
import Derived.Deep.RegionLaw
namespace Go.Proofs.Ytnlkigjgloeonaa
open Go.ChangeShapes Go.WideShapes Go.ChangeAt Go.RowKit

def sameX (p : Int) (h : Bool) (xs : List Int) (q : Int) (g : Bool) (ys : List Int) : Bool := decide (p = q) && decide (h = g) && decide (xs = ys)

set_option maxRecDepth 100000 in
theorem implSameContexts_calls (a : Option Addr) (la ca : Nat) (p : Int) (h : Bool) (xs : List Int) (b : Option Addr) (lb cb : Nat) (q : Int) (g : Bool) (ys : List Int) (w : World) (hla : la ≤ maxLen) (hx : Sl w a la xs) (hlb : lb ≤ maxLen) (hy : Sl w b lb ys) :
    Calls Try.prog 20 #[.agg #[.slice a la ca, .int .i64 p, .bool h], .agg #[.slice b lb cb, .int .i64 q, .bool g]] w fun e w' => e = .returned (.bool (sameX p h xs q g ys)) ∧ Below w.heap.size w w' := by
  have M0 := ((Mm.start w).alloc3 (.slice a la ca) (.int .i64 p) (.bool h) 52).alloc3 (.slice b lb cb) (.int .i64 q) (.bool g) 52
  try simp only [World.size_alloc] at M0
  have hb2 := M0.bel
  go_enter Try.func20, Try.ntmps20
  go_wp2_with fail
  refine (slicesEqual_calls a b la ca lb cb xs ys _ hla hlb (hx.below hb2 (Nat.le_refl _)) (hy.below hb2 (Nat.le_refl _))).mono ?_
  rintro e w1 ⟨rfl, g1⟩
  have M1 := M0.below g1
  have c1 := M1.cell 1 rfl
  have c2 := M1.cell 2 rfl
  have c4 := M1.cell 4 rfl
  have c5 := M1.cell 5 rfl
  have HB := hide M1.bel
  clear M0 M1 g1 hb2
  cases hd : decide (xs = ys) with
  | false =>
    have HR : Hid (sameX p h xs q g ys = false) := by show _ = _; unfold sameX; rw [hd]; simp
    clear hd
    go_wp2
    go_ret
    exact ⟨ret_bool HR.out.symm, HB.out⟩
  | true =>
    by_cases hp : p = q
    · subst hp
      have HR : Hid (sameX p h xs p g ys = (h == g)) := by show _ = _; unfold sameX; rw [hd]; cases h <;> cases g <;> simp
      have e1 : (p == p) = true := by simp
      clear hd
      go_wp2
      go_ret
      exact ⟨ret_bool HR.out.symm, HB.out⟩
    · have HR : Hid (sameX p h xs q g ys = false) := by show _ = _; unfold sameX; simp [hp]
      have e1 : (p == q) = false := by simpa using hp
      clear hd hp
      go_wp2
      go_ret
      exact ⟨ret_bool HR.out.symm, HB.out⟩

set_option maxRecDepth 100000 in
/-- two contexts that are pointed at. -/
theorem l7SameContext_calls (P Q : Nat) (o o' : Nat) (a : Option Addr) (la ca : Nat) (p : Int) (h : Bool) (xs : List Int) (b : Option Addr) (lb cb : Nat) (q : Int) (g : Bool) (ys : List Int) (w : World) (hla : la ≤ maxLen) (hx : Sl w a la xs) (hlb : lb ≤ maxLen) (hy : Sl w b lb ys)
    (c0 : w.cell? ⟨P, o, none⟩ = some (.slice a la ca)) (c1 : w.cell? ⟨P, o + 1, none⟩ = some (.int .i64 p)) (c2 : w.cell? ⟨P, o + 2, none⟩ = some (.bool h))
    (d0 : w.cell? ⟨Q, o', none⟩ = some (.slice b lb cb)) (d1 : w.cell? ⟨Q, o' + 1, none⟩ = some (.int .i64 q)) (d2 : w.cell? ⟨Q, o' + 2, none⟩ = some (.bool g)) :
    Calls Try.prog 30 #[.pointer (some ⟨P, o, none⟩), .pointer (some ⟨Q, o', none⟩)] w fun e w' => e = .returned (.bool (sameX p h xs q g ys)) ∧ Below w.heap.size w w' := by
  unfold maxLen at hla hlb
  obtain ⟨hxl, hx⟩ := hx
  obtain ⟨hyl, hy⟩ := hy
  have lP := World.block_lt_of_cell? _ _ c0
  have lQ := World.block_lt_of_cell? _ _ d0
  by_cases hp : p = q
  rotate_left
  · have HR : Hid (sameX p h xs q g ys = false) := by show _ = _; unfold sameX; simp [hp]
    have e1 : (p != q) = true := by simpa using hp
    clear hx hy hp
    go_enter Try.func30, Try.ntmps30
    go_wp2_with fail
    go_quiet (fail)
    go_wp2
    go_ret
    exact ⟨ret_bool HR.out.symm, bdrewN (Below.refl _ _) _⟩
  subst hp
  have e1 : (p != p) = false := by simp
  by_cases hg : h = g
  rotate_left
  · have HR : Hid (sameX p h xs p g ys = false) := by show _ = _; unfold sameX; simp [hg]
    clear hx hy
    rcases (show (h = true ∧ g = false) ∨ (h = false ∧ g = true) by cases h <;> cases g <;> simp_all) with ⟨rfl, rfl⟩ | ⟨rfl, rfl⟩
    all_goals clear hg
    · go_enter Try.func30, Try.ntmps30
      go_wp2_with fail
      go_quiet (fail)
      go_wp2
      go_ret
      exact ⟨ret_bool HR.out.symm, bdrewN (Below.refl _ _) _⟩
    · go_enter Try.func30, Try.ntmps30
      go_wp2_with fail
      go_quiet (fail)
      go_wp2
      go_ret
      exact ⟨ret_bool HR.out.symm, bdrewN (Below.refl _ _) _⟩
  subst hg
  have e2 : (h != h) = false := by simp
  by_cases hl : la = lb
  rotate_left
  · have HR : Hid (sameX p h xs p h ys = false) := by
      have : xs ≠ ys := fun e => hl (by rw [← hxl, ← hyl, e])
      show _ = _; unfold sameX; simp [this]
    have e3 : ((la : Int) != (lb : Int)) = true := by simp; omega
    clear hx hy hl
    go_enter Try.func30, Try.ntmps30
    go_wp2_with fail
    go_quiet (fail)
    go_wp2
    go_ret
    exact ⟨ret_bool HR.out.symm, bdrewN (Below.refl _ _) _⟩
  subst hl
  have e3 : ((la : Int) != (la : Int)) = false := by simp
  go_enter Try.func30, Try.ntmps30
  go_wp2_with fail
  go_quiet (fail)
  go_wp2
  clear e1 e2 e3
  go_loopw [5] (fun i wr => ∃ k : Nat, k ≤ la ∧ i = .int .i64 k ∧ Below w.heap.size w wr ∧ ∀ j, j < k → gt xs j = gt ys j) (fun i _ => la - (intOf i).toNat)
  case atStart => exact ⟨0, Nat.zero_le _, rfl, bdrewN (Below.refl _ _) _, fun j hj => by omega⟩
  case round =>
    obtain ⟨k, hk, rfl, hbel, hall⟩ := hrel
    have Hall : Hid (∀ j, j < k → gt xs j = gt ys j) := hall
    have c0' := (hbel.cell (p := ⟨P, o, none⟩) lP).trans c0
    have d0' := (hbel.cell (p := ⟨Q, o', none⟩) lQ).trans d0
    clear hall c0 d0 c1 c2 d1 d2
    by_cases hlt : k < la
    · obtain ⟨b1, o1, rfl, hb1, hc1⟩ := hx (by omega)
      obtain ⟨b2, o2, rfl, hb2, hc2⟩ := hy (by omega)
      have hck1 := (hbel.cell (p := ⟨b1, o1 + k, none⟩) hb1).trans (hc1 k hlt)
      have hck2 := (hbel.cell (p := ⟨b2, o2 + k, none⟩) hb2).trans (hc2 k hlt)
      have hki : (k : Int) < (la : Int) := by omega
      clear hc1 hc2
      by_cases he : gt xs k = gt ys k
      · have hbq : (gt xs k != gt ys k) = false := by simp [he]
        have He : Hid (gt xs k = gt ys k) := he
        clear he
        go_wp2_with fail
        go_quiet (fail)
        go_wp2
        go_roundw
        case rel => exact ⟨k + 1, by omega, by go_num, bdrewN hbel _, fun j hj => by (by_cases e : j = k); (subst e; exact He.out); exact Hall.out j (by omega)⟩
        case measure => simp [intOf]; omega
      · have hbq : (gt xs k != gt ys k) = true := by simp [he]
        have HR : Hid (sameX p h xs p h ys = false) := by
          have : xs ≠ ys := fun e => he (by rw [e])
          show _ = _; unfold sameX; simp [this]
        clear he
        go_wp2_with fail
        go_quiet (fail)
        go_wp2
        go_ret
        exact ⟨ret_bool HR.out.symm, bdrewN hbel _⟩
    · have HR : Hid (sameX p h xs p h ys = true) := by
        have : xs = ys := getD_ext (by omega) (fun i hi => Hall.out i (by omega))
        show _ = _; unfold sameX; simp [this]
      clear hx hy
      go_wp2
      go_ret
      exact ⟨ret_bool HR.out.symm, hbel⟩

set_option maxRecDepth 100000 in
theorem implEqualW_calls (a b : Option Addr) (la ca lb cb : Nat) (xs ys : List (Int × Int)) (w : World) (hla : la ≤ maxLen) (hlb : lb ≤ maxLen) (hx : Swd w a la xs) (hy : Swd w b lb ys) :
    Calls Try.prog 18 #[.slice a la ca, .slice b lb cb] w fun e w' => e = .returned (.bool (decide (xs = ys))) ∧ Below w.heap.size w w' := by
  unfold maxLen at hla hlb
  obtain ⟨hxl, hx⟩ := hx
  obtain ⟨hyl, hy⟩ := hy
  by_cases hne : la = lb
  · subst hne
    have hn : ((la : Int) != (la : Int)) = false := by simp
    go_enter Try.func18, Try.ntmps18
    go_wp2
    go_loopw [13] (fun i wr => ∃ k : Nat, k ≤ la ∧ i = .int .i64 k ∧ Below w.heap.size w wr ∧ ∀ j, j < k → gw xs j = gw ys j) (fun i _ => la - (intOf i).toNat)
    case atStart => exact ⟨0, Nat.zero_le _, rfl, Below.refl _ _, fun j hj => by omega⟩
    case round =>
      obtain ⟨k, hk, rfl, hbel, hall⟩ := hrel
      have Hall : Hid (∀ j, j < k → gw xs j = gw ys j) := hall
      clear hall
      by_cases hlt : k < la
      · obtain ⟨b1, o1, rfl, hb1, hc1⟩ := hx (by omega)
        obtain ⟨b2, o2, rfl, hb2, hc2⟩ := hy (by omega)
        obtain ⟨p0, p1⟩ := cellsw hc1 hlt
        obtain ⟨r0, r1⟩ := cellsw hc2 hlt
        have hp0 := (hbel.cell (p := ⟨b1, o1 + k * 2, none⟩) hb1).trans p0
        have hp1 := (hbel.cell (p := ⟨b1, o1 + k * 2 + 1, none⟩) hb1).trans p1
        have hq0 := (hbel.cell (p := ⟨b2, o2 + k * 2, none⟩) hb2).trans r0
        have hq1 := (hbel.cell (p := ⟨b2, o2 + k * 2 + 1, none⟩) hb2).trans r1
        clear p0 p1 r0 r1 hc1 hc2
        have hki : (k : Int) < (la : Int) := by omega
        by_cases he : gw xs k = gw ys k
        · rw [← he] at hq0 hq1
          have He : Hid (gw xs k = gw ys k) := he
          clear he
          go_wp2_with fail
          go_quiet (fail)
          go_wp2
          go_roundw
          case rel => exact ⟨k + 1, by omega, by go_num, bdrewN hbel _, fun j hj => by (by_cases e : j = k); (subst e; exact He.out); exact Hall.out j (by omega)⟩
          case measure => simp [intOf]; omega
        · have HR : Hid (decide (xs = ys) = false) := by show _ = _; simp; intro e; exact he (by rw [e])
          by_cases h1 : (gw xs k).1 = (gw ys k).1
          · have h2 : ¬ (gw xs k).2 = (gw ys k).2 := fun h => he (Prod.ext h1 h)
            clear he
            go_wp2_with fail
            go_quiet (fail)
            go_wp2
            go_ret
            exact ⟨ret_bool HR.out.symm, bdrewN hbel _⟩
          · clear he
            go_wp2_with fail
            go_quiet (fail)
            go_wp2
            go_ret
            exact ⟨ret_bool HR.out.symm, bdrewN hbel _⟩
      · go_wp2
        go_ret
        exact ⟨ret_bool (by simp; exact gw_ext (by omega) (fun i hi => Hall.out i (by omega))), hbel⟩
  · have hn : ((la : Int) != (lb : Int)) = true := by simp; omega
    go_enter Try.func18, Try.ntmps18
    go_wp2
    go_ret
    exact ⟨ret_bool (by simp; intro e; rw [e] at hxl; omega), Below.refl _ _⟩

theorem sameX_iff {x y : List Int × Int × Bool} : sameX x.2.1 x.2.2 x.1 y.2.1 y.2.2 y.1 = decide (x = y) := by
  obtain ⟨a, b, c⟩ := x
  obtain ⟨d, e, f⟩ := y
  unfold sameX
  by_cases h1 : a = d <;> by_cases h2 : b = e <;> by_cases h3 : c = f <;> simp [h1, h2, h3]

set_option maxRecDepth 100000 in
theorem l9Out_calls (a b : Option Addr) (la ca lb cb : Nat) (xs ys : List Int) (w : World) (hla : la ≤ maxLen) (hlb : lb ≤ maxLen) (hx : Sl w a la xs) (hy : Sl w b lb ys) :
    Calls Try.prog 32 #[.slice a la ca, .slice b lb cb] w fun e w' => e = .returned (.bool (decide (xs = ys))) ∧ Below w.heap.size w w' := by
  unfold maxLen at hla hlb
  obtain ⟨hxl, hx⟩ := hx
  obtain ⟨hyl, hy⟩ := hy
  by_cases hne : la = lb
  · subst hne
    have hn : ((la : Int) != (la : Int)) = false := by simp
    go_enter Try.func32, Try.ntmps32
    go_wp2
    go_loopw [5] (fun i wr => ∃ k : Nat, k ≤ la ∧ i = .int .i64 k ∧ Below w.heap.size w wr ∧ ∀ j, j < k → gt xs j = gt ys j) (fun i _ => la - (intOf i).toNat)
    case atStart => exact ⟨0, Nat.zero_le _, rfl, Below.refl _ _, fun j hj => by omega⟩
    case round =>
      obtain ⟨k, hk, rfl, hbel, hall⟩ := hrel
      have Hall : Hid (∀ j, j < k → gt xs j = gt ys j) := hall
      clear hall
      by_cases hlt : k < la
      · obtain ⟨b1, o1, rfl, hb1, hc1⟩ := hx (by omega)
        obtain ⟨b2, o2, rfl, hb2, hc2⟩ := hy (by omega)
        have hck1 := (hbel.cell (p := ⟨b1, o1 + k, none⟩) hb1).trans (hc1 k hlt)
        have hck2 := (hbel.cell (p := ⟨b2, o2 + k, none⟩) hb2).trans (hc2 k hlt)
        have hki : (k : Int) < (la : Int) := by omega
        clear hc1 hc2
        by_cases he : gt xs k = gt ys k
        · have hbq : (gt xs k != gt ys k) = false := by simp [he]
          have He : Hid (gt xs k = gt ys k) := he
          clear he
          go_wp2_with fail
          go_quiet (fail)
          go_wp2
          go_roundw
          case rel => exact ⟨k + 1, by omega, by go_num, bdrewN hbel _, fun j hj => by (by_cases e : j = k); (subst e; exact He.out); exact Hall.out j (by omega)⟩
          case measure => simp [intOf]; omega
        · have hbq : (gt xs k != gt ys k) = true := by simp [he]
          go_wp2_with fail
          go_quiet (fail)
          go_wp2
          go_ret
          exact ⟨ret_bool (by simp; intro e; exact he (by rw [e])), bdrewN hbel _⟩
      · go_wp2
        go_ret
        exact ⟨ret_bool (by simp; exact getD_ext (by omega) (fun i hi => Hall.out i (by omega))), hbel⟩
  · have hn : ((la : Int) != (lb : Int)) = true := by simp; omega
    go_enter Try.func32, Try.ntmps32
    go_wp2
    go_ret
    exact ⟨ret_bool (by simp; intro e; rw [e] at hxl; omega), Below.refl _ _⟩

set_option maxRecDepth 100000 in
set_option maxHeartbeats 1000000 in
theorem equalCx_calls (a b : Option Addr) (n m ca cb : Nat) (cs ds : List (List Int × Int × Bool)) (w : World) (hn : n ≤ maxLen) (hm : m ≤ maxLen) (hx : Scx w a n cs) (hy : Scx w b m ds) :
    Calls Try.prog 19 #[.slice a n ca, .slice b m cb, .func (.func 20) #[] #[]] w fun e w' => e = .returned (.bool (decide (cs = ds))) ∧ Below w.heap.size w w' := by
  unfold maxLen at hn hm
  obtain ⟨hxl, hx⟩ := hx
  obtain ⟨hyl, hy⟩ := hy
  by_cases hne : n = m
  · subst hne
    have hnn : ((n : Int) != (n : Int)) = false := by simp
    go_enter Try.func19, Try.ntmps19
    go_wp2
    go_loopw [17] (fun i wr => ∃ k : Nat, k ≤ n ∧ i = .int .i64 k ∧ Below w.heap.size w wr ∧ ∀ j, j < k → gx cs j = gx ds j) (fun i _ => n - (intOf i).toNat)
    case atStart => exact ⟨0, Nat.zero_le _, rfl, Below.refl _ _, fun j hj => by omega⟩
    case round =>
      obtain ⟨k, hk, rfl, hbel, hall⟩ := hrel
      have Hall := hide hall
      clear hall
      by_cases hlt : k < n
      · obtain ⟨b1, o1, rfl, hb1, hc1⟩ := hx (by omega)
        obtain ⟨b2, o2, rfl, hb2, hc2⟩ := hy (by omega)
        obtain ⟨la, ll, lc, p0, p1, p2, pl, psl⟩ := hc1 k hlt
        obtain ⟨ma, ml, mc, q0, q1, q2, ql, qsl⟩ := hc2 k hlt
        have hp0 := (hbel.cell (p := ⟨b1, o1 + k * 3, none⟩) hb1).trans p0
        have hp1 := (hbel.cell (p := ⟨b1, o1 + k * 3 + 1, none⟩) hb1).trans p1
        have hp2 := (hbel.cell (p := ⟨b1, o1 + k * 3 + 2, none⟩) hb1).trans p2
        have hb2' : b2 < wr.heap.size := by have := hbel.size; omega
        have hq0 : (wr.alloc (.cells #[.slice la ll lc, .int .i64 (gx cs k).2.1, .bool (gx cs k).2.2] 52)).cell? ⟨b2, o2 + k * 3, none⟩ = some (.slice ma ml mc) := (World.cell?_alloc_past _ _ _ hb2').trans ((hbel.cell (p := ⟨b2, o2 + k * 3, none⟩) hb2).trans q0)
        have hq1 : (wr.alloc (.cells #[.slice la ll lc, .int .i64 (gx cs k).2.1, .bool (gx cs k).2.2] 52)).cell? ⟨b2, o2 + k * 3 + 1, none⟩ = some (.int .i64 (gx ds k).2.1) := (World.cell?_alloc_past _ _ _ hb2').trans ((hbel.cell (p := ⟨b2, o2 + k * 3 + 1, none⟩) hb2).trans q1)
        have hq2 : (wr.alloc (.cells #[.slice la ll lc, .int .i64 (gx cs k).2.1, .bool (gx cs k).2.2] 52)).cell? ⟨b2, o2 + k * 3 + 2, none⟩ = some (.bool (gx ds k).2.2) := (World.cell?_alloc_past _ _ _ hb2').trans ((hbel.cell (p := ⟨b2, o2 + k * 3 + 2, none⟩) hb2).trans q2)
        have al := ((Below.refl wr.heap.size wr).alloc (Nat.le_refl _) (.cells #[.slice la ll lc, .int .i64 (gx cs k).2.1, .bool (gx cs k).2.2] 52)).alloc (by simp) (.cells #[.slice ma ml mc, .int .i64 (gx ds k).2.1, .bool (gx ds k).2.2] 52)
        have HP := hide ((psl.below hbel (Nat.le_refl _)).below al (Nat.le_refl _))
        have HQ := hide ((qsl.below hbel (Nat.le_refl _)).below al (Nat.le_refl _))
        have HB := hide (hbel.trans (al.mono hbel.size))
        clear p0 p1 p2 q0 q1 q2 psl qsl al
        have hsx := sameX_iff (x := gx cs k) (y := gx ds k)
        have HC := hide fun (X : World) (h1 : Sl X la ll (gx cs k).1) (h2 : Sl X ma ml (gx ds k).1) => implSameContexts_calls la ll lc (gx cs k).2.1 (gx cs k).2.2 (gx cs k).1 ma ml mc (gx ds k).2.1 (gx ds k).2.2 (gx ds k).1 X pl h1 ql h2
        rw [hsx] at HC
        clear hsx
        by_cases hs : gx cs k = gx ds k
        · have He := hide hs
          have hd : decide (gx cs k = gx ds k) = true := by simpa using hs
          rw [hd] at HC
          clear hs hd
          go_wp2_with fail
          refine (HC.out _ HP.out HQ.out).mono ?_
          rintro e w1 ⟨rfl, g1⟩
          have HE := hide (HB.out.trans (g1.mono HB.out.size))
          clear g1
          go_wp2
          go_roundw
          case rel => exact ⟨k + 1, by omega, by go_num, HE.out, fun j hj => by (by_cases e : j = k); (subst e; exact He.out); exact Hall.out j (by omega)⟩
          case measure => simp [intOf]; omega
        · have He : Hid (cs ≠ ds) := fun e => hs (by rw [e])
          have hd : decide (gx cs k = gx ds k) = false := by simpa using hs
          rw [hd] at HC
          clear hs hd
          go_wp2_with fail
          refine (HC.out _ HP.out HQ.out).mono ?_
          rintro e w1 ⟨rfl, g1⟩
          have HE := hide (HB.out.trans (g1.mono HB.out.size))
          clear g1
          go_wp2
          go_ret
          exact ⟨ret_bool (by simp; exact He.out), HE.out⟩
      · go_wp2
        go_ret
        exact ⟨ret_bool (by simp; exact gx_ext (by omega) (fun j hj => Hall.out j (by omega))), hbel⟩
  · have hnn : ((n : Int) != (m : Int)) = true := by simp; omega
    go_enter Try.func19, Try.ntmps19
    go_wp2
    go_ret
    exact ⟨ret_bool (by simp; intro e; rw [e] at hxl; omega), Below.refl _ _⟩

end Go.Proofs.Ytnlkigjgloeonaa
