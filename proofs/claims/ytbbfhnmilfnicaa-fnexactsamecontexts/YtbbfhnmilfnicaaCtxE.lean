import Derived.Test.YtbbfhnmilfnicaaCtxP
import Derived.WalkKit
import Derived.ProofKit
import Derived.OpenShut
import Derived.ShutString
import Derived.ChangeOld
import Derived.Below
import Derived.WalkSpells
import Derived.Deep.QuietTactic
import Derived.BigQuiet
import Derived.Deep.RegionWith
import Derived.Deep.WholeRow
import Derived.Deep.DeepCutAuto
import Derived.Deep.RegionHeld2
import Derived.Deep.AppendLies
import Derived.Deep.RegionLaw
namespace Go.Proofs.Ytbbfhnmilfnicaa
open Go.ChangeShapes Go.WideShapes Go.ChangeAt Go.RowKit

def sameX (p : Int) (h : Bool) (xs : List Int) (q : Int) (g : Bool) (ys : List Int) : Bool := decide (p = q) && decide (h = g) && decide (xs = ys)

set_option maxRecDepth 100000 in
theorem slicesEqual_calls (a b : Option Addr) (la ca lb cb : Nat) (xs ys : List Int) (w : World) (hla : la ≤ maxLen) (hlb : lb ≤ maxLen) (hx : Sl w a la xs) (hy : Sl w b lb ys) :
    Calls Try.prog 29 #[.slice a la ca, .slice b lb cb] w fun e w' => e = .returned (.bool (decide (xs = ys))) ∧ Below w.heap.size w w' := by
  unfold maxLen at hla hlb
  obtain ⟨hxl, hx⟩ := hx
  obtain ⟨hyl, hy⟩ := hy
  by_cases hne : la = lb
  · subst hne
    have hn : ((la : Int) != (la : Int)) = false := by simp
    go_enter Try.func29, Try.ntmps29
    go_wp2
    go_loopw [13] (fun i wr => ∃ k : Nat, k ≤ la ∧ i = .int .i64 k ∧ Below w.heap.size w wr ∧ ∀ j, j < k → gt xs j = gt ys j) (fun i _ => la - (intOf i).toNat)
    case atStart => exact ⟨0, Nat.zero_le _, rfl, Below.refl _ _, fun j hj => by omega⟩
    case round =>
      obtain ⟨k, hk, rfl, hbel, hall⟩ := hrel
      have Hall : Hid (∀ j, j < k → gt xs j = gt ys j) := hall
      clear hall
      by_cases hlt : k < la
      · obtain ⟨b1, o1, rfl, hb1, hc1⟩ := hx (by omega)
        obtain ⟨b2, o2, rfl, hb2, hc2⟩ := hy (by omega)
        have hck1 := (hbel.cell (p := ⟨b1, o1 + k, none⟩) hb1).trans (hc1 k hlt)
        have hck2 := (hbel.cell (p := ⟨b2, o2 + k, none⟩) hb2).trans (hc2 k hlt)
        have hki : (k : Int) < (la : Int) := by omega
        by_cases he : gt xs k = gt ys k
        · have hbq : (gt xs k != gt ys k) = false := by simp [he]
          have He : Hid (gt xs k = gt ys k) := he
          clear he
          go_wp2_with fail
          go_quiet (fail)
          go_wp2
          go_roundw
          case rel => exact ⟨k + 1, by omega, by go_num, bdrewN hbel _, fun j hj => by (by_cases e : j = k); (subst e; exact He.out); exact Hall.out j (by omega)⟩
          case measure => simp [intOf]; omega
        · have hbq : (gt xs k != gt ys k) = true := by simp [he]
          go_wp2_with fail
          go_quiet (fail)
          go_wp2
          go_ret
          exact ⟨ret_bool (by simp; intro e; exact he (by rw [e])), bdrewN hbel _⟩
      · go_wp2
        go_ret
        exact ⟨ret_bool (by simp; exact getD_ext (by omega) (fun i hi => Hall.out i (by omega))), hbel⟩
  · have hn : ((la : Int) != (lb : Int)) = true := by simp; omega
    go_enter Try.func29, Try.ntmps29
    go_wp2
    go_ret
    exact ⟨ret_bool (by simp; intro e; rw [e] at hxl; omega), Below.refl _ _⟩

set_option maxRecDepth 100000 in
theorem implSameContexts_calls (a : Option Addr) (la ca : Nat) (p : Int) (h : Bool) (xs : List Int) (b : Option Addr) (lb cb : Nat) (q : Int) (g : Bool) (ys : List Int) (w : World) (hla : la ≤ maxLen) (hx : Sl w a la xs) (hlb : lb ≤ maxLen) (hy : Sl w b lb ys) :
    Calls Try.prog 14 #[.agg #[.slice a la ca, .int .i64 p, .bool h], .agg #[.slice b lb cb, .int .i64 q, .bool g]] w fun e w' => e = .returned (.bool (sameX p h xs q g ys)) ∧ Below w.heap.size w w' := by
  have M0 := ((Mm.start w).alloc3 (.slice a la ca) (.int .i64 p) (.bool h) 24).alloc3 (.slice b lb cb) (.int .i64 q) (.bool g) 24
  try simp only [World.size_alloc] at M0
  have hb2 := M0.bel
  go_enter Try.func14, Try.ntmps14
  go_wp2_with fail
  refine (slicesEqual_calls a b la ca lb cb xs ys _ hla hlb (hx.below hb2 (Nat.le_refl _)) (hy.below hb2 (Nat.le_refl _))).mono ?_
  rintro e w1 ⟨rfl, g1⟩
  have M1 := M0.below g1
  have c1 := M1.cell 1 rfl
  have c2 := M1.cell 2 rfl
  have c4 := M1.cell 4 rfl
  have c5 := M1.cell 5 rfl
  have HB := hide M1.bel
  clear M0 M1 g1 hb2
  cases hd : decide (xs = ys) with
  | false =>
    have HR : Hid (sameX p h xs q g ys = false) := by show _ = _; unfold sameX; rw [hd]; simp
    clear hd
    go_wp2
    go_ret
    exact ⟨ret_bool HR.out.symm, HB.out⟩
  | true =>
    by_cases hp : p = q
    · subst hp
      have HR : Hid (sameX p h xs p g ys = (h == g)) := by show _ = _; unfold sameX; rw [hd]; cases h <;> cases g <;> simp
      have e1 : (p == p) = true := by simp
      clear hd
      go_wp2
      go_ret
      exact ⟨ret_bool HR.out.symm, HB.out⟩
    · have HR : Hid (sameX p h xs q g ys = false) := by show _ = _; unfold sameX; simp [hp]
      have e1 : (p == q) = false := by simpa using hp
      clear hd hp
      go_wp2
      go_ret
      exact ⟨ret_bool HR.out.symm, HB.out⟩

set_option maxRecDepth 100000 in
/-- two contexts that are pointed at. -/
theorem l7SameContext_calls (P Q : Nat) (o o' : Nat) (a : Option Addr) (la ca : Nat) (p : Int) (h : Bool) (xs : List Int) (b : Option Addr) (lb cb : Nat) (q : Int) (g : Bool) (ys : List Int) (w : World) (hla : la ≤ maxLen) (hx : Sl w a la xs) (hlb : lb ≤ maxLen) (hy : Sl w b lb ys)
    (c0 : w.cell? ⟨P, o, none⟩ = some (.slice a la ca)) (c1 : w.cell? ⟨P, o + 1, none⟩ = some (.int .i64 p)) (c2 : w.cell? ⟨P, o + 2, none⟩ = some (.bool h))
    (d0 : w.cell? ⟨Q, o', none⟩ = some (.slice b lb cb)) (d1 : w.cell? ⟨Q, o' + 1, none⟩ = some (.int .i64 q)) (d2 : w.cell? ⟨Q, o' + 2, none⟩ = some (.bool g)) :
    Calls Try.prog 27 #[.pointer (some ⟨P, o, none⟩), .pointer (some ⟨Q, o', none⟩)] w fun e w' => e = .returned (.bool (sameX p h xs q g ys)) ∧ Below w.heap.size w w' := by
  unfold maxLen at hla hlb
  obtain ⟨hxl, hx⟩ := hx
  obtain ⟨hyl, hy⟩ := hy
  have lP := World.block_lt_of_cell? _ _ c0
  have lQ := World.block_lt_of_cell? _ _ d0
  by_cases hp : p = q
  rotate_left
  · have HR : Hid (sameX p h xs q g ys = false) := by show _ = _; unfold sameX; simp [hp]
    have e1 : (p != q) = true := by simpa using hp
    clear hx hy hp
    go_enter Try.func27, Try.ntmps27
    go_wp2_with fail
    go_quiet (fail)
    go_wp2
    go_ret
    exact ⟨ret_bool HR.out.symm, bdrewN (Below.refl _ _) _⟩
  subst hp
  have e1 : (p != p) = false := by simp
  by_cases hg : h = g
  rotate_left
  · have HR : Hid (sameX p h xs p g ys = false) := by show _ = _; unfold sameX; simp [hg]
    clear hx hy
    rcases (show (h = true ∧ g = false) ∨ (h = false ∧ g = true) by cases h <;> cases g <;> simp_all) with ⟨rfl, rfl⟩ | ⟨rfl, rfl⟩
    all_goals clear hg
    · go_enter Try.func27, Try.ntmps27
      go_wp2_with fail
      go_quiet (fail)
      go_wp2
      go_ret
      exact ⟨ret_bool HR.out.symm, bdrewN (Below.refl _ _) _⟩
    · go_enter Try.func27, Try.ntmps27
      go_wp2_with fail
      go_quiet (fail)
      go_wp2
      go_ret
      exact ⟨ret_bool HR.out.symm, bdrewN (Below.refl _ _) _⟩
  subst hg
  have e2 : (h != h) = false := by simp
  by_cases hl : la = lb
  rotate_left
  · have HR : Hid (sameX p h xs p h ys = false) := by
      have : xs ≠ ys := fun e => hl (by rw [← hxl, ← hyl, e])
      show _ = _; unfold sameX; simp [this]
    have e3 : ((la : Int) != (lb : Int)) = true := by simp; omega
    clear hx hy hl
    go_enter Try.func27, Try.ntmps27
    go_wp2_with fail
    go_quiet (fail)
    go_wp2
    go_ret
    exact ⟨ret_bool HR.out.symm, bdrewN (Below.refl _ _) _⟩
  subst hl
  have e3 : ((la : Int) != (la : Int)) = false := by simp
  go_enter Try.func27, Try.ntmps27
  go_wp2_with fail
  go_quiet (fail)
  go_wp2
  clear e1 e2 e3
  go_loopw [5] (fun i wr => ∃ k : Nat, k ≤ la ∧ i = .int .i64 k ∧ Below w.heap.size w wr ∧ ∀ j, j < k → gt xs j = gt ys j) (fun i _ => la - (intOf i).toNat)
  case atStart => exact ⟨0, Nat.zero_le _, rfl, bdrewN (Below.refl _ _) _, fun j hj => by omega⟩
  case round =>
    obtain ⟨k, hk, rfl, hbel, hall⟩ := hrel
    have Hall : Hid (∀ j, j < k → gt xs j = gt ys j) := hall
    have c0' := (hbel.cell (p := ⟨P, o, none⟩) lP).trans c0
    have d0' := (hbel.cell (p := ⟨Q, o', none⟩) lQ).trans d0
    clear hall c0 d0 c1 c2 d1 d2
    by_cases hlt : k < la
    · obtain ⟨b1, o1, rfl, hb1, hc1⟩ := hx (by omega)
      obtain ⟨b2, o2, rfl, hb2, hc2⟩ := hy (by omega)
      have hck1 := (hbel.cell (p := ⟨b1, o1 + k, none⟩) hb1).trans (hc1 k hlt)
      have hck2 := (hbel.cell (p := ⟨b2, o2 + k, none⟩) hb2).trans (hc2 k hlt)
      have hki : (k : Int) < (la : Int) := by omega
      clear hc1 hc2
      by_cases he : gt xs k = gt ys k
      · have hbq : (gt xs k != gt ys k) = false := by simp [he]
        have He : Hid (gt xs k = gt ys k) := he
        clear he
        go_wp2_with fail
        go_quiet (fail)
        go_wp2
        go_roundw
        case rel => exact ⟨k + 1, by omega, by go_num, bdrewN hbel _, fun j hj => by (by_cases e : j = k); (subst e; exact He.out); exact Hall.out j (by omega)⟩
        case measure => simp [intOf]; omega
      · have hbq : (gt xs k != gt ys k) = true := by simp [he]
        have HR : Hid (sameX p h xs p h ys = false) := by
          have : xs ≠ ys := fun e => he (by rw [e])
          show _ = _; unfold sameX; simp [this]
        clear he
        go_wp2_with fail
        go_quiet (fail)
        go_wp2
        go_ret
        exact ⟨ret_bool HR.out.symm, bdrewN hbel _⟩
    · have HR : Hid (sameX p h xs p h ys = true) := by
        have : xs = ys := getD_ext (by omega) (fun i hi => Hall.out i (by omega))
        show _ = _; unfold sameX; simp [this]
      clear hx hy
      go_wp2
      go_ret
      exact ⟨ret_bool HR.out.symm, hbel⟩

set_option maxRecDepth 100000 in
theorem specSameContexts_calls (a : Option Addr) (la ca : Nat) (p : Int) (h : Bool) (xs : List Int) (b : Option Addr) (lb cb : Nat) (q : Int) (g : Bool) (ys : List Int) (w : World) (hla : la ≤ maxLen) (hx : Sl w a la xs) (hlb : lb ≤ maxLen) (hy : Sl w b lb ys) :
    Calls Try.prog 12 #[.agg #[.slice a la ca, .int .i64 p, .bool h], .agg #[.slice b lb cb, .int .i64 q, .bool g]] w fun e w' => e = .returned (.bool (sameX p h xs q g ys)) ∧ Below w.heap.size w w' := by
  have M0 := ((Mm.start w).alloc3 (.slice a la ca) (.int .i64 p) (.bool h) 24).alloc3 (.slice b lb cb) (.int .i64 q) (.bool g) 24
  try simp only [World.size_alloc] at M0
  have hb2 := M0.bel
  go_enter Try.func12, Try.ntmps12
  go_wp2_with fail
  refine (l7SameContext_calls _ _ 0 0 a la ca p h xs b lb cb q g ys _ hla (hx.below hb2 (Nat.le_refl _)) hlb (hy.below hb2 (Nat.le_refl _)) (M0.cell 3 rfl) (M0.cell 4 rfl) (M0.cell 5 rfl) (M0.cell 0 rfl) (M0.cell 1 rfl) (M0.cell 2 rfl)).mono ?_
  rintro e w1 ⟨rfl, g1⟩
  have HB := hide (M0.below g1).bel
  clear M0 g1 hb2
  go_wp2
  go_ret
  exact ⟨rfl, HB.out⟩

end Go.Proofs.Ytbbfhnmilfnicaa
