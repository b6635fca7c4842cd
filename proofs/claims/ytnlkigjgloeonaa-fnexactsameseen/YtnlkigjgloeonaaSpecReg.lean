import Derived.Test.YtnlkigjgloeonaaBase
import Derived.Test.YtnlkigjgloeonaaReg
import Derived.WalkKit
import Derived.ProofKit
import Derived.OpenShut
import Derived.ShutString
import Derived.ChangeOld
import Derived.Below
import Derived.WalkSpells
import Derived.Deep.QuietTactic
import Derived.BigQuiet
import Derived.Deep.RegionWith
import Derived.Deep.WholeRow
import Derived.Deep.DeepCutAuto
import Derived.Deep.RegionHeld2
import Derived.Deep.AppendLies
import Derived.Deep.RegionLaw
namespace Go.Proofs.Ytnlkigjgloeonaa
open Go.ChangeShapes Go.WideShapes Go.ChangeAt Go.RowKit



set_option maxRecDepth 100000 in
theorem l1Same_calls (p o q r : Nat) (a b : Option Addr) (la ca lb cb : Nat) (xs ys : List Int) (w : World) (hla : la ≤ maxLen) (hlb : lb ≤ maxLen) (hp : p < w.heap.size) (hq : q < w.heap.size)
    (hpc : w.cell? ⟨p, o, none⟩ = some (.slice a la ca)) (hqc : w.cell? ⟨q, r, none⟩ = some (.slice b lb cb)) (hx : Sl w a la xs) (hy : Sl w b lb ys) :
    Calls Try.prog 31 #[.pointer (some ⟨p, o, none⟩), .pointer (some ⟨q, r, none⟩)] w fun e w' => e = .returned (.bool (decide (xs = ys))) ∧ Below w.heap.size w w' := by
  unfold maxLen at hla hlb
  obtain ⟨hxl, hx⟩ := hx
  obtain ⟨hyl, hy⟩ := hy
  by_cases hne : la = lb
  · subst hne
    have hn : ((la : Int) == (la : Int)) = true := by simp
    go_enter Try.func31, Try.ntmps31
    go_wp2_with fail
    go_quiet (fail)
    go_wp2
    go_loopw [5] (fun i wr => ∃ k : Nat, k ≤ la ∧ i = .int .i64 k ∧ Below w.heap.size w wr ∧ ∀ j, j < k → gt xs j = gt ys j) (fun i _ => la - (intOf i).toNat)
    case atStart => exact ⟨0, Nat.zero_le _, rfl, bdrewN (Below.refl _ _) _, fun j hj => by omega⟩
    case round =>
      obtain ⟨k, hk, rfl, hbel, hall⟩ := hrel
      have Hall : Hid (∀ j, j < k → gt xs j = gt ys j) := hall
      clear hall
      have hpr := (hbel.cell (p := ⟨p, o, none⟩) hp).trans hpc
      have hqr := (hbel.cell (p := ⟨q, r, none⟩) hq).trans hqc
      by_cases hlt : k < la
      · obtain ⟨b1, o1, rfl, hb1, hc1⟩ := hx (by omega)
        obtain ⟨b2, o2, rfl, hb2, hc2⟩ := hy (by omega)
        have hck1 := (hbel.cell (p := ⟨b1, o1 + k, none⟩) hb1).trans (hc1 k hlt)
        have hck2 := (hbel.cell (p := ⟨b2, o2 + k, none⟩) hb2).trans (hc2 k hlt)
        have hki : (k : Int) < (la : Int) := by omega
        by_cases he : gt xs k = gt ys k
        · have hbq : (gt xs k != gt ys k) = false := by simp [he]
          have He : Hid (gt xs k = gt ys k) := he
          clear he
          go_wp2_with fail
          go_quiet (fail)
          go_wp2
          go_roundw
          case rel => exact ⟨k + 1, by omega, by go_num, bdrewN hbel _, fun j hj => by (by_cases e : j = k); (subst e; exact He.out); exact Hall.out j (by omega)⟩
          case measure => simp [intOf]; omega
        · have hbq : (gt xs k != gt ys k) = true := by simp [he]
          go_wp2_with fail
          go_quiet (fail)
          go_wp2
          go_ret
          exact ⟨ret_bool (by simp; intro e; exact he (by rw [e])), bdrewN hbel _⟩
      · go_wp2
        go_ret
        exact ⟨ret_bool (by simp; exact getD_ext (by omega) (fun i hi => Hall.out i (by omega))), hbel⟩
  · have hn : ((la : Int) == (lb : Int)) = false := by simp; omega
    go_enter Try.func31, Try.ntmps31
    go_wp2_with fail
    go_quiet (fail)
    go_wp2
    go_ret
    exact ⟨ret_bool (by simp; intro e; rw [e] at hxl; omega), bdrewN (Below.refl _ _) _⟩



end Go.Proofs.Ytnlkigjgloeonaa
