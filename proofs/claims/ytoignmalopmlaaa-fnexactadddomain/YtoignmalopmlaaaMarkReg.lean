import Derived.Test.YtoignmalopmlaaaRegO
import Derived.Test.YtoignmalopmlaaaBase
import Derived.WalkKit
import Derived.ProofKit
import Derived.OpenShut
import Derived.ShutString
import Derived.ChangeOld
import Derived.Below
import Derived.WalkSpells
import Derived.Deep.QuietTactic
import Derived.BigQuiet
import Derived.Deep.RegionWith
import Derived.Deep.WholeRow
import Derived.Deep.DeepCutAuto
import Derived.Deep.RegionHeld2
import Derived.Deep.AppendLies
import Derived.Deep.RegionLaw
namespace Go.Proofs.Ytoignmalopmlaaa
open Go.ChangeShapes Go.WideShapes Go.ChangeAt Go.RowKit

set_option maxRecDepth 100000 in
theorem markInt64S_O (S : Nat → Prop) (a : Option Addr) (n cap : Nat) (rs : List Int) (m : Int) (w : World) (hm0 : 0 ≤ m) (hm : m ≤ 4194304) (hs : OS S a n rs w) :
    Calls Try.prog 49 #[.slice a n cap, .int .i64 m] w fun e w' => e = .returned (.int .i64 (m + n)) ∧ OS S a n (marksFrom m n) w' ∧ OutS S w w' := by
  obtain ⟨hlen, hn, hs⟩ := hs
  rcases hs with rfl | ⟨b, rfl, hB, blk⟩
  · go_enter Try.func49, Try.ntmps49
    go_wp2
    go_loop [1, 5] (fun k i => k = .int .i64 m ∧ i = .int .i64 0) (fun _ _ => 0)
    case atStart => exact ⟨rfl, rfl⟩
    case round =>
      obtain ⟨rfl, rfl⟩ := hrel
      go_wp2
      go_ret
      exact ⟨ret_int (by simp), ⟨length_marksFrom _ _, by omega, (.inl rfl)⟩, OutS.refl _ _⟩
  · subst hlen
    go_enter Try.func49, Try.ntmps49
    go_wp2
    go_loopw [1, 5] (fun q i wr => ∃ k : Nat, k ≤ rs.length ∧ q = .int .i64 (m + k) ∧ i = .int .i64 k ∧ MRow wr b rs.length k m ∧ OutS S w wr) (fun _ i _ => rs.length - (intOf i).toNat)
    case atStart => exact ⟨0, Nat.zero_le _, by simp, rfl, MRow.start blk, OutS.refl _ _⟩
    case round =>
      obtain ⟨k, hk, rfl, rfl, hrow, hbut⟩ := hrel
      by_cases hlt : k < rs.length
      · obtain ⟨v, hv⟩ := hrow.2.2.1 k hlt
        have hfz := hrow.2.2.2 k
        go_wp2
        go_roundw
        case rel => exact ⟨k + 1, by omega, by go_num, by go_num, hrow.store hlt, hbut.setCell hB _⟩
        case measure => simp [intOf]; omega
      · have e : k = rs.length := by omega
        subst e
        go_wp2
        go_ret
        exact ⟨rfl, ⟨length_marksFrom _ _, hn, .inr ⟨b, rfl, hB, hrow.done⟩⟩, hbut⟩

set_option maxRecDepth 100000 in
theorem markSlotS_O (S : Nat → Prop) (a : Option Addr) (n cap : Nat) (ss : List (Int × List Int)) (m : Int) (w : World) (hm0 : 0 ≤ m) (hm : m ≤ 1048577) (hs : OR S a n ss w) :
    Calls Try.prog 84 #[.slice a n cap, .int .i64 m] w fun e w' => e = .returned (.int .i64 (m + n + lenSum ss)) ∧ OR S a n (mkS m ss) w' ∧ OutS S w w' := by
  have hlen := hs.1
  have hbd := hs.2.1
  by_cases hp : 0 < n
  · obtain ⟨N, la, lc, lb, rfl, hb⟩ := hs.body hp
    clear hs
    go_enter Try.func84, Try.ntmps84
    go_wp2
    go_loopw [1, 5] (fun q i wr => ∃ k : Nat, k ≤ n ∧ q = .int .i64 (mkC m ss k) ∧ i = .int .i64 k ∧ ORb S N n la lc lb (fun j => if j < k then mkC m ss j else gc ss j) (fun j => if j < k then mkL m ss j else gl ss j) wr ∧ OutS S w wr) (fun _ i _ => n - (intOf i).toNat)
    case atStart => exact ⟨0, Nat.zero_le _, by simp [mkC, lenSum], rfl, hb.congr (fun i _ => by simp) (fun i _ => by simp), OutS.refl _ _⟩
    case round =>
      obtain ⟨k, hk, rfl, rfl, hrow, hbut⟩ := hrel
      by_cases hlt : k < n
      · have kc := mkC_le m ss k
        have kg := mkC_ge m ss k
        have hS := hrow.hS
        have hv := hrow.c0 k hlt
        have hfz := hrow.fz (k * 2)
        have hr1 := hrow.setCount hlt (mkC m ss k)
        have hv1 := hr1.c1 k hlt
        have hos := hr1.os k hlt
        rw [if_neg (by omega)] at hv hv1 hos
        have HR := hide hr1
        have HO := hide (hbut.setCell (p := ⟨N, k * 2, none⟩) hS (.int .i64 (mkC m ss k)))
        have HOS := hide hos
        have Hst := hide (mkC_succ m ss k (by omega))
        clear hrow hr1 hbut hos
        go_wp2_with fail
        refine (markInt64S_O _ (la k) _ (lc k) (gl ss k) _ _ (by omega) (by omega) HOS.out).mono ?_
        rintro e w1 ⟨rfl, hs1, ho1⟩
        have HR2 := hide (HR.out.setLabel hlt (zs := marksFrom (mkC m ss k + 1) (gl ss k).length) (by simp [length_marksFrom]) (by simpa using ho1) (by simpa using hs1))
        have HO2 := hide (HO.out.trans (ho1.mono (fun j hj => hj.1 ▸ HR.out.lS k hlt (by simpa using hj.2))))
        clear hs1 ho1
        go_wp2
        go_roundw
        case rel =>
          refine ⟨k + 1, by omega, by rw [Hst.out], by go_num, HR2.out.congr (fun i hi => ?_) (fun i hi => ?_), HO2.out⟩
          · unfold upd
            by_cases e : i = k
            · subst e; simp
            · rw [if_neg e]
              dsimp only
              by_cases e2 : i < k
              · rw [if_pos e2, if_pos (by omega)]
              · rw [if_neg e2, if_neg (by omega)]
          · unfold upd
            by_cases e : i = k
            · subst e; simp [mkL]
            · rw [if_neg e]
              dsimp only
              by_cases e2 : i < k
              · rw [if_pos e2, if_pos (by omega)]
              · rw [if_neg e2, if_neg (by omega)]
        case measure => simp [intOf]; omega
      · have e : k = n := by omega
        subst e
        have HE : Hid (mkC m ss k = m + k + lenSum ss) := by show _ = _; rw [← hlen]; exact mkC_all m ss
        have HR := hide (ORb.or (ss := mkS m ss) (hrow.congr (fun i hi => by rw [if_pos hi, gc_mkS m ss i (by omega)]) (fun i hi => by rw [if_pos hi, gl_mkS m ss i (by omega)])) (by rw [length_mkS]; exact hlen) (by rw [lenSum_mkS]; exact hbd))
        have HO := hide hbut
        clear hrow hbut
        go_wp2
        go_ret
        exact ⟨ret_int HE.out, HR.out, HO.out⟩
  · have h0 : n = 0 := by omega
    subst h0
    obtain rfl : ss = [] := List.eq_nil_of_length_eq_zero hlen
    go_enter Try.func84, Try.ntmps84
    go_wp2
    go_loop [1, 5] (fun k i => k = .int .i64 m ∧ i = .int .i64 0) (fun _ _ => 0)
    case atStart => exact ⟨rfl, rfl⟩
    case round =>
      obtain ⟨rfl, rfl⟩ := hrel
      go_wp2
      go_ret
      exact ⟨ret_int (by simp [lenSum]), ⟨rfl, by simp [mkS, lenSum], .inl rfl⟩, OutS.refl _ _⟩

set_option maxRecDepth 100000 in
theorem markRegistry_O (S : Nat → Prop) (a : Option Addr) (n cap : Nat) (ss : List (Int × List Int)) (m : Int) (w : World) (hm0 : 0 ≤ m) (hm : m ≤ 1048577) (hs : OR S a n ss w) :
    Calls Try.prog 48 #[.agg #[.slice a n cap], .int .i64 m] w fun e w' => e = .returned (.int .i64 (m + n + lenSum ss)) ∧ OR S a n (mkS m ss) w' ∧ OutS S w w' := by
  go_enter Try.func48, Try.ntmps48
  go_wp2_with fail
  refine (markSlotS_O S a n cap ss m _ hm0 hm (OR.loc.below ((Below.refl _ _).alloc (Nat.le_refl _) _) hs)).mono ?_
  rintro e w1 ⟨rfl, h1, h2⟩
  go_wp2
  go_ret
  exact ⟨rfl, h1, (OutS.of_below ((Below.refl _ _).alloc (Nat.le_refl _) _)).trans h2⟩

end Go.Proofs.Ytoignmalopmlaaa
