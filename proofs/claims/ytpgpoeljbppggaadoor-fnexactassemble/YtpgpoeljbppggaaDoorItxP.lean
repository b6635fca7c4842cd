import Derived.Test.YtpgpoeljbppggaaDoorRows
import Derived.Test.YtpgpoeljbppggaaDoorSepI
import Derived.Laws.BytesArg
import Derived.Lib.Strings
import Derived.WalkKit
import Derived.ProofKit
import Derived.OpenShut
import Derived.ShutString
import Derived.ChangeOld
import Derived.Below
import Derived.WalkSpells
import Derived.Deep.QuietTactic
import Derived.BigQuiet
import Derived.Deep.RegionWith
import Derived.Deep.WholeRow
import Derived.Deep.DeepCutAuto
import Derived.Deep.RegionHeld2
import Derived.Deep.AppendLies
import Derived.Deep.RegionLaw
namespace Go.Proofs.YtpgpoeljbppggaaDoor
open Go.ChangeShapes Go.WideShapes Go.ChangeAt Go.RowKit

/-- is v one of 0 to m? -/
def up (v m : Int) : Bool := decide (0 ≤ v) && decide (v ≤ m)

theorem up_true {v m : Int} (h : up v m = true) : 0 ≤ v ∧ v ≤ m := by
  unfold up at h
  simpa using h

theorem up_false {v m : Int} (h : up v m = false) : v < 0 ∨ m < v := by
  unfold up at h
  simp at h
  omega

/-- an instruction's fault: 0, or 3. -/
def ifC (o a b i : Int) : Int := if (up o 15 && up a 7 && up b 7 && up i 63) = true then 0 else 3

theorem ifC_zero {o a b i : Int} (h : ifC o a b i = 0) : (0 ≤ o ∧ o ≤ 15) ∧ (0 ≤ a ∧ a ≤ 7) ∧ (0 ≤ b ∧ b ≤ 7) ∧ (0 ≤ i ∧ i ≤ 63) := by
  unfold ifC at h
  split at h
  · rename_i k
    simp only [Bool.and_eq_true] at k
    exact ⟨up_true k.1.1.1, up_true k.1.1.2, up_true k.1.2, up_true k.2⟩
  · exact absurd h (by decide)

theorem ifC_not {o a b i : Int} (h : ifC o a b i ≠ 0) : ifC o a b i = 3 := by
  unfold ifC at h ⊢
  split at h
  · exact absurd rfl h
  · rename_i k; rw [if_neg k]

def encI (o a b i : Int) : Int := 4096 * o + 512 * a + 64 * b + i

theorem Mm.alloc5 {w u : World} {cs : List (Nat × Nat × Value)} {fs : List (Nat × Nat × (World → Prop))} (h : Mm w u cs fs) (v0 v1 v2 v3 v4 : Value) (t : TypeId) : Mm w (u.alloc (.cells #[v0, v1, v2, v3, v4] t)) ((u.heap.size, 0, v0) :: (u.heap.size, 1, v1) :: (u.heap.size, 2, v2) :: (u.heap.size, 3, v3) :: (u.heap.size, 4, v4) :: cs) fs :=
  (((((h.below ((Below.refl _ _).alloc (Nat.le_refl _) (.cells #[v0, v1, v2, v3, v4] t))).cons (by simp) (by simp)).cons (by simp) (by simp)).cons (by simp) (by simp)).cons (by simp) (by simp)).cons (by simp) (by simp)

theorem below_set5 {B : Nat} {w u : World} (h : Below B w u) {P : Nat} (hP : B ≤ P) (v0 v1 v2 v3 v4 : Value) :
    Below B w (((((u.setCell ⟨P, 0, none⟩ v0).setCell ⟨P, 1, none⟩ v1).setCell ⟨P, 2, none⟩ v2).setCell ⟨P, 3, none⟩ v3).setCell ⟨P, 4, none⟩ v4) :=
  ((((h.setCell (by exact hP) v0).setCell (by exact hP) v1).setCell (by exact hP) v2).setCell (by exact hP) v3).setCell (by exact hP) v4

set_option maxRecDepth 100000 in
theorem isUpTo_calls (v m : Int) (w : World) :
    Calls Tryd.prog 37 #[.int .i64 v, .int .i64 m] w fun e w' => e = .returned (.bool (up v m)) ∧ w' = w := by
  by_cases h1 : 0 ≤ v
  · by_cases h2 : v ≤ m
    all_goals
      go_enter Tryd.func37, Tryd.ntmps37
      go_wp2
      go_ret
      exact ⟨ret_bool (by simp [up, h1, h2]), rfl⟩
  · go_enter Tryd.func37, Tryd.ntmps37
    go_wp2
    go_ret
    exact ⟨ret_bool (by simp [up]; omega), rfl⟩

set_option maxRecDepth 100000 in
theorem inUp_calls (v m : Int) (w : World) :
    Calls Tryd.prog 39 #[.int .i64 v, .int .i64 0, .int .i64 m] w fun e w' => e = .returned (.bool (up v m)) ∧ w' = w := by
  by_cases h1 : 0 ≤ v
  · by_cases h2 : v ≤ m
    all_goals
      go_enter Tryd.func39, Tryd.ntmps39
      go_wp2
      go_ret
      exact ⟨ret_bool (by simp [up, h1, h2]), rfl⟩
  · go_enter Tryd.func39, Tryd.ntmps39
    go_wp2
    go_ret
    exact ⟨ret_bool (by simp [up]; omega), rfl⟩

set_option maxRecDepth 100000 in
theorem implInstFault_calls (o a b i : Int) (w : World) :
    Calls Tryd.prog 20 #[.agg #[.int .i64 o, .int .i64 a, .int .i64 b, .int .i64 i]] w fun e w' => e = .returned (.int .i64 (ifC o a b i)) ∧ Below w.heap.size w w' := by
  have HB := hide ((Below.refl w.heap.size w).alloc (Nat.le_refl _) (.cells #[.int .i64 o, .int .i64 a, .int .i64 b, .int .i64 i] 26))
  cases h0 : up o 15 with
  | false =>
    have HR : Hid (ifC o a b i = 3) := if_neg (by rw [h0]; simp)
    go_enter Tryd.func20, Tryd.ntmps20
    go_wp2_with (go_at_call 37; refine (isUpTo_calls _ _ _).mono ?_; rintro e w' ⟨rfl, rfl⟩)
    go_ret
    exact ⟨ret_int HR.out.symm, HB.out⟩
  | true =>
    cases h1 : up a 7 with
    | false =>
      have HR : Hid (ifC o a b i = 3) := if_neg (by rw [h1]; simp)
      go_enter Tryd.func20, Tryd.ntmps20
      go_wp2_with (go_at_call 37; refine (isUpTo_calls _ _ _).mono ?_; rintro e w' ⟨rfl, rfl⟩)
      go_ret
      exact ⟨ret_int HR.out.symm, HB.out⟩
    | true =>
      cases h2 : up b 7 with
      | false =>
        have HR : Hid (ifC o a b i = 3) := if_neg (by rw [h2]; simp)
        go_enter Tryd.func20, Tryd.ntmps20
        go_wp2_with (go_at_call 37; refine (isUpTo_calls _ _ _).mono ?_; rintro e w' ⟨rfl, rfl⟩)
        go_ret
        exact ⟨ret_int HR.out.symm, HB.out⟩
      | true =>
        cases h3 : up i 63 with
        | false =>
          have HR : Hid (ifC o a b i = 3) := if_neg (by rw [h3]; simp)
          go_enter Tryd.func20, Tryd.ntmps20
          go_wp2_with (go_at_call 37; refine (isUpTo_calls _ _ _).mono ?_; rintro e w' ⟨rfl, rfl⟩)
          go_ret
          exact ⟨ret_int HR.out.symm, HB.out⟩
        | true =>
          have HR : Hid (ifC o a b i = 0) := if_pos (by rw [h0, h1, h2, h3]; rfl)
          go_enter Tryd.func20, Tryd.ntmps20
          go_wp2_with (go_at_call 37; refine (isUpTo_calls _ _ _).mono ?_; rintro e w' ⟨rfl, rfl⟩)
          go_ret
          exact ⟨ret_int HR.out.symm, HB.out⟩

set_option maxRecDepth 100000 in
theorem l5Fault_calls (P : Nat) (o a b i : Int) (w : World) (c0 : w.cell? ⟨P, 0, none⟩ = some (.int .i64 o)) (c1 : w.cell? ⟨P, 1, none⟩ = some (.int .i64 a)) (c2 : w.cell? ⟨P, 2, none⟩ = some (.int .i64 b)) (c3 : w.cell? ⟨P, 3, none⟩ = some (.int .i64 i)) :
    Calls Tryd.prog 46 #[.pointer (some ⟨P, 0, none⟩)] w fun e w' => e = .returned (.int .i64 (ifC o a b i)) ∧ w' = w := by
  cases h0 : up o 15 with
  | false =>
    have HR : Hid (ifC o a b i = 3) := if_neg (by rw [h0]; simp)
    go_enter Tryd.func46, Tryd.ntmps46
    go_wp2_with (go_at_call 39; refine (inUp_calls _ _ _).mono ?_; rintro e w' ⟨rfl, rfl⟩)
    go_ret
    exact ⟨ret_int HR.out.symm, rfl⟩
  | true =>
    cases h1 : up a 7 with
    | false =>
      have HR : Hid (ifC o a b i = 3) := if_neg (by rw [h1]; simp)
      go_enter Tryd.func46, Tryd.ntmps46
      go_wp2_with (go_at_call 39; refine (inUp_calls _ _ _).mono ?_; rintro e w' ⟨rfl, rfl⟩)
      go_ret
      exact ⟨ret_int HR.out.symm, rfl⟩
    | true =>
      cases h2 : up b 7 with
      | false =>
        have HR : Hid (ifC o a b i = 3) := if_neg (by rw [h2]; simp)
        go_enter Tryd.func46, Tryd.ntmps46
        go_wp2_with (go_at_call 39; refine (inUp_calls _ _ _).mono ?_; rintro e w' ⟨rfl, rfl⟩)
        go_ret
        exact ⟨ret_int HR.out.symm, rfl⟩
      | true =>
        cases h3 : up i 63 with
        | false =>
          have HR : Hid (ifC o a b i = 3) := if_neg (by rw [h3]; simp)
          go_enter Tryd.func46, Tryd.ntmps46
          go_wp2_with (go_at_call 39; refine (inUp_calls _ _ _).mono ?_; rintro e w' ⟨rfl, rfl⟩)
          go_ret
          exact ⟨ret_int HR.out.symm, rfl⟩
        | true =>
          have HR : Hid (ifC o a b i = 0) := if_pos (by rw [h0, h1, h2, h3]; rfl)
          go_enter Tryd.func46, Tryd.ntmps46
          go_wp2_with (go_at_call 39; refine (inUp_calls _ _ _).mono ?_; rintro e w' ⟨rfl, rfl⟩)
          go_ret
          exact ⟨ret_int HR.out.symm, rfl⟩

/-- a number of one or two digits, in decimal. -/
def dg (n : Int) : ByteArray := if n < 10 then ⟨#[UInt8.ofNat (48 + n.toNat)]⟩ else ⟨#[UInt8.ofNat (48 + n.toNat / 10), UInt8.ofNat (48 + n.toNat % 10)]⟩

/-- the words of the kinds. -/
def kws : List ByteArray := [⟨#[104, 97, 108, 116]⟩, ⟨#[115, 101, 116]⟩, ⟨#[97, 100, 100]⟩, ⟨#[115, 117, 98]⟩, ⟨#[108, 111, 97, 100]⟩, ⟨#[115, 116, 111, 114, 101]⟩, ⟨#[106, 117, 109, 112]⟩, ⟨#[122, 101, 114, 111]⟩, ⟨#[99, 97, 108, 108]⟩, ⟨#[111, 117, 116]⟩, ⟨#[99, 111, 112, 121]⟩, ⟨#[98, 97, 100, 49, 49]⟩, ⟨#[98, 97, 100, 49, 50]⟩, ⟨#[98, 97, 100, 49, 51]⟩, ⟨#[98, 97, 100, 49, 52]⟩, ⟨#[98, 97, 100, 49, 53]⟩]

def kw (o : Int) : ByteArray := kws.getD o.toNat ⟨#[]⟩

/-- an instruction's text. -/
def itT (o a b i : Int) : ByteArray := kw o ++ ⟨#[32]⟩ ++ dg a ++ ⟨#[32]⟩ ++ dg b ++ ⟨#[32]⟩ ++ dg i

def itS (o a b i : Int) : ByteArray := if ifC o a b i = 0 then itT o a b i else ⟨#[]⟩

theorem dg_size (n : Int) : (dg n).size ≤ 2 := by
  unfold dg
  split
  · exact (by decide : (1 : Nat) ≤ 2)
  · exact Nat.le_refl _

theorem dg_one {n : Int} (h : n < 10) : dg n = ⟨#[UInt8.ofNat (48 + n.toNat)]⟩ := if_pos h

theorem dg_two {n : Int} (h : ¬ n < 10) : dg n = ⟨#[UInt8.ofNat (48 + n.toNat / 10), UInt8.ofNat (48 + n.toNat % 10)]⟩ := if_neg h

end Go.Proofs.YtpgpoeljbppggaaDoor
