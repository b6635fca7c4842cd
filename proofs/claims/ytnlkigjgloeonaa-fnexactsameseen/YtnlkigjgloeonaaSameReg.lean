import Derived.Test.YtnlkigjgloeonaaSpecReg
import Derived.Test.YtnlkigjgloeonaaSep
import Derived.Test.YtnlkigjgloeonaaEqReg
import Derived.WalkKit
import Derived.ProofKit
import Derived.OpenShut
import Derived.ShutString
import Derived.ChangeOld
import Derived.Below
import Derived.WalkSpells
import Derived.Deep.QuietTactic
import Derived.BigQuiet
import Derived.Deep.RegionWith
import Derived.Deep.WholeRow
import Derived.Deep.DeepCutAuto
import Derived.Deep.RegionHeld2
import Derived.Deep.AppendLies
import Derived.Deep.RegionLaw
namespace Go.Proofs.Ytnlkigjgloeonaa
open Go.ChangeShapes Go.WideShapes Go.ChangeAt Go.RowKit

theorem s4_lt {W X : World} {A B C D : Addr} {a b c d : Value} (h : X.cell? A = some a ∧ X.cell? B = some b ∧ X.cell? C = some c ∧ X.cell? D = some d ∧ Below W.heap.size W X) {k : Nat} (hk : k < W.heap.size) : k < X.heap.size := Nat.lt_of_lt_of_le hk h.2.2.2.2.size

theorem s4_cell {W X : World} {A B C D : Addr} {a b c d : Value} (h : X.cell? A = some a ∧ X.cell? B = some b ∧ X.cell? C = some c ∧ X.cell? D = some d ∧ Below W.heap.size W X) {k o : Nat} {v : Value} (hk : k < W.heap.size) (hc : W.cell? ⟨k, o, none⟩ = some v) : X.cell? ⟨k, o, none⟩ = some v := (h.2.2.2.2.cell (p := ⟨k, o, none⟩) hk).trans hc

theorem slots_ext {ss rr : List (Int × List Int)} (h : ss.length = rr.length) (hc : ∀ j, j < ss.length → gc ss j = gc rr j) (hl : ∀ j, j < ss.length → gl ss j = gl rr j) : ss = rr := by
  apply List.ext_getElem h
  intro i h1 h2
  have e1 := hc i h1
  have e2 := hl i h1
  simp [gc, h1, h2] at e1
  simp [gl, h1, h2] at e2
  exact Prod.ext e1 e2

set_option maxRecDepth 100000 in
theorem slicesEqual_calls (a b : Option Addr) (la ca lb cb : Nat) (xs ys : List Int) (w : World) (hla : la ≤ maxLen) (hlb : lb ≤ maxLen) (hx : Sl w a la xs) (hy : Sl w b lb ys) :
    Calls Try.prog 23 #[.slice a la ca, .slice b lb cb] w fun e w' => e = .returned (.bool (decide (xs = ys))) ∧ Below w.heap.size w w' := by
  unfold maxLen at hla hlb
  obtain ⟨hxl, hx⟩ := hx
  obtain ⟨hyl, hy⟩ := hy
  by_cases hne : la = lb
  · subst hne
    have hn : ((la : Int) != (la : Int)) = false := by simp
    go_enter Try.func23, Try.ntmps23
    go_wp2
    go_loopw [13] (fun i wr => ∃ k : Nat, k ≤ la ∧ i = .int .i64 k ∧ Below w.heap.size w wr ∧ ∀ j, j < k → gt xs j = gt ys j) (fun i _ => la - (intOf i).toNat)
    case atStart => exact ⟨0, Nat.zero_le _, rfl, Below.refl _ _, fun j hj => by omega⟩
    case round =>
      obtain ⟨k, hk, rfl, hbel, hall⟩ := hrel
      have Hall : Hid (∀ j, j < k → gt xs j = gt ys j) := hall
      clear hall
      by_cases hlt : k < la
      · obtain ⟨b1, o1, rfl, hb1, hc1⟩ := hx (by omega)
        obtain ⟨b2, o2, rfl, hb2, hc2⟩ := hy (by omega)
        have hck1 := (hbel.cell (p := ⟨b1, o1 + k, none⟩) hb1).trans (hc1 k hlt)
        have hck2 := (hbel.cell (p := ⟨b2, o2 + k, none⟩) hb2).trans (hc2 k hlt)
        have hki : (k : Int) < (la : Int) := by omega
        by_cases he : gt xs k = gt ys k
        · have hbq : (gt xs k != gt ys k) = false := by simp [he]
          have He : Hid (gt xs k = gt ys k) := he
          clear he
          go_wp2_with fail
          go_quiet (fail)
          go_wp2
          go_roundw
          case rel => exact ⟨k + 1, by omega, by go_num, bdrewN hbel _, fun j hj => by (by_cases e : j = k); (subst e; exact He.out); exact Hall.out j (by omega)⟩
          case measure => simp [intOf]; omega
        · have hbq : (gt xs k != gt ys k) = true := by simp [he]
          go_wp2_with fail
          go_quiet (fail)
          go_wp2
          go_ret
          exact ⟨ret_bool (by simp; intro e; exact he (by rw [e])), bdrewN hbel _⟩
      · go_wp2
        go_ret
        exact ⟨ret_bool (by simp; exact getD_ext (by omega) (fun i hi => Hall.out i (by omega))), hbel⟩
  · have hn : ((la : Int) != (lb : Int)) = true := by simp; omega
    go_enter Try.func23, Try.ntmps23
    go_wp2
    go_ret
    exact ⟨ret_bool (by simp; intro e; rw [e] at hxl; omega), Below.refl _ _⟩

def sameSl (c d : Int) (xs ys : List Int) : Bool := decide (c = d) && decide (xs = ys)

end Go.Proofs.Ytnlkigjgloeonaa
