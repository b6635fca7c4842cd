import Derived.Test.YtnlkigjgloeonaaGreatBase
import Derived.WalkKit
import Derived.ProofKit
import Derived.OpenShut
import Derived.ShutString
import Derived.ChangeOld
import Derived.Below
import Derived.WalkSpells
import Derived.Deep.QuietTactic
import Derived.BigQuiet
import Derived.Deep.RegionWith
import Derived.Deep.WholeRow
import Derived.Deep.DeepCutAuto
import Derived.Deep.RegionHeld2
import Derived.Deep.AppendLies
import Derived.Deep.RegionLaw
namespace Go.Proofs.YtnlkigjgloeonaaGreat
open Go.ChangeShapes Go.WideShapes Go.ChangeAt Go.RowKit

set_option maxRecDepth 100000 in
theorem hasLevel_calls (a : Option Addr) (len cap : Nat) (zs : List Int) (x : Int) (w : World) (hl : len ≤ maxLen) (hs : Sl w a len zs) :
    Calls Tryz.prog 112 #[.agg #[.slice a len cap], .int .i64 x] w fun e w' => e = .returned (.bool (has zs x)) ∧ Below w.heap.size w w' := by
  unfold maxLen at hl
  obtain ⟨hlen, hs⟩ := hs
  go_enter Tryz.func112, Tryz.ntmps112
  go_wp2
  go_loop [10] (fun i => ∃ k : Nat, k ≤ len ∧ i = .int .i64 k ∧ ∀ j, j < k → gt zs j ≠ x) (fun i => len - (intOf i).toNat)
  case atStart => exact ⟨0, Nat.zero_le _, rfl, fun j hj => by omega⟩
  case round =>
    obtain ⟨k, hk, rfl, hall⟩ := hrel
    have Hall : Hid (∀ j, j < k → gt zs j ≠ x) := hall
    clear hall
    by_cases hlt : k < len
    · obtain ⟨b, off, rfl, hb, hc⟩ := hs (by omega)
      have hck := hc k hlt
      by_cases he : gt zs k = x
      · have hq : (gt zs k == x) = true := by simp [he]
        have He := hide he
        clear he
        go_wp2
        go_ret
        exact ⟨ret_bool (has_yes (k := k) (by omega) He.out).symm, (Below.refl _ _).alloc (Nat.le_refl _) _⟩
      · have hq : (gt zs k == x) = false := by simp [he]
        have He := hide he
        clear he
        go_wp2
        go_round
        case rel => exact ⟨k + 1, by omega, by go_num, fun j hj => by (by_cases e : j = k); (subst e; exact He.out); exact Hall.out j (by omega)⟩
        case measure => simp [intOf]; omega
    · go_wp2
      go_ret
      exact ⟨ret_bool (has_no (fun j hj => Hall.out j (by omega))).symm, (Below.refl _ _).alloc (Nat.le_refl _) _⟩

def thingB (zs : List Int) : Bool := (fault zs == 0) && !has zs 0 && !has zs 5

set_option maxRecDepth 100000 in
theorem isThing_calls (a : Option Addr) (len cap : Nat) (zs : List Int) (w : World) (hl : len ≤ maxLen) (hs : Sl w a len zs) :
    Calls Tryz.prog 56 #[.agg #[.slice a len cap]] w fun e w' => e = .returned (.bool (thingB zs)) ∧ Below w.heap.size w w' := by
  have M0 := (Mem.start w).alloc1 (.slice a len cap) 64
  have hb0 := M0.bel
  unfold thingB
  cases hf : (fault zs == 0) with
  | true =>
    go_enter Tryz.func56, Tryz.ntmps56
    go_wp2_with fail
    refine (implLabelFault_calls a len cap zs _ hl (hs.below hb0 (Nat.le_refl _))).mono ?_
    rintro e w1 ⟨rfl, hb⟩
    have M1 := M0.below hb
    have c1 := M1.cell 0 rfl
    clear hb M0 hb0
    go_wp2_with fail
    refine (hasLevel_calls a len cap zs 0 _ hl (hs.below M1.bel (Nat.le_refl _))).mono ?_
    rintro e w2 ⟨rfl, hb2⟩
    have M2 := M1.below hb2
    have c2 := M2.cell 0 rfl
    clear hb2 M1 c1
    cases h0 : has zs 0 with
    | true =>
      go_wp2
      go_ret
      exact ⟨ret_bool (by rw [h0]; rfl), M2.bel⟩
    | false =>
      go_wp2_with fail
      refine (hasLevel_calls a len cap zs 5 _ hl (hs.below M2.bel (Nat.le_refl _))).mono ?_
      rintro e w3 ⟨rfl, hb3⟩
      have M3 := M2.below hb3
      go_wp2
      go_ret
      exact ⟨ret_bool (by rw [h0]; simp), M3.bel⟩
  | false =>
    go_enter Tryz.func56, Tryz.ntmps56
    go_wp2_with fail
    refine (implLabelFault_calls a len cap zs _ hl (hs.below hb0 (Nat.le_refl _))).mono ?_
    rintro e w1 ⟨rfl, hb⟩
    have M1 := M0.below hb
    go_wp2
    go_ret
    exact ⟨rfl, M1.bel⟩

def thing0 (zs : List Int) : Bool := !has zs 0 && !has zs 5

theorem thing0_no {zs : List Int} {k : Nat} (hk : k < zs.length) (h : gt zs k = 0 ∨ gt zs k = 5) : thing0 zs = false := by
  unfold thing0
  rcases h with h | h
  · rw [has_yes hk h]; rfl
  · rw [has_yes hk h]; simp

theorem thing0_yes {zs : List Int} (h : ∀ j, j < zs.length → gt zs j ≠ 0 ∧ gt zs j ≠ 5) : thing0 zs = true := by
  unfold thing0
  rw [has_no (fun j hj => (h j hj).1), has_no (fun j hj => (h j hj).2)]; rfl

end Go.Proofs.YtnlkigjgloeonaaGreat
