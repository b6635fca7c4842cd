import Derived.Test.YtgkjmeogdomgmaaGreatG20
import Derived.WalkKit
import Derived.ProofKit
import Derived.OpenShut
import Derived.ShutString
import Derived.ChangeOld
import Derived.Below
import Derived.WalkSpells
import Derived.Deep.QuietTactic
import Derived.BigQuiet
import Derived.Deep.RegionWith
import Derived.Deep.WholeRow
import Derived.Deep.DeepCutAuto
import Derived.Deep.RegionHeld2
import Derived.Deep.AppendLies
import Derived.Deep.RegionLaw
namespace Go.Proofs.YtgkjmeogdomgmaaGreat
open Go.ChangeShapes Go.WideShapes Go.ChangeAt Go.RowKit

set_option maxRecDepth 100000 in
theorem heldInt64S_calls (a : Option Addr) (n cap : Nat) (m : Int) (w : World) (hm0 : 0 ≤ m) (hm : m ≤ 4194304) (hn : n ≤ 1048576) (hs : Sl w a n (marksFrom m n)) :
    Calls Tryz.prog 92 #[.slice a n cap, .int .i64 m] w fun e w' => e = .returned (.int .i64 (m + n)) ∧ Below w.heap.size w w' := by
  obtain ⟨_, hs⟩ := hs
  go_enter Tryz.func92, Tryz.ntmps92
  go_wp2
  go_loopw [1, 5] (fun q i wr => ∃ k : Nat, k ≤ n ∧ q = .int .i64 (m + k) ∧ i = .int .i64 k ∧ Below w.heap.size w wr) (fun _ i _ => n - (intOf i).toNat)
  case atStart => exact ⟨0, Nat.zero_le _, by simp, rfl, Below.refl _ _⟩
  case round =>
    obtain ⟨k, hk, rfl, rfl, hbel⟩ := hrel
    by_cases hlt : k < n
    · obtain ⟨b, off, rfl, hb, hc⟩ := hs (by omega)
      have hck := (hbel.cell (p := ⟨b, off + k, none⟩) hb).trans (hc k hlt)
      rw [gt_marksFrom m n k hlt] at hck
      go_wp2
      go_roundw
      case rel => exact ⟨k + 1, by omega, by go_num, by go_num, hbel⟩
      case measure => simp [intOf]; omega
    · have e : k = n := by omega
      subst e
      go_wp2
      go_ret
      exact ⟨rfl, hbel⟩

set_option maxRecDepth 100000 in
theorem heldSlotS_calls (a : Option Addr) (n cap : Nat) (ss : List (Int × List Int)) (m : Int) (w : World) (hm0 : 0 ≤ m) (hm : m ≤ 1048577) (hbd : n + lenSum ss ≤ 1048576) (hs : Sls w a n (mkS m ss)) :
    Calls Tryz.prog 159 #[.slice a n cap, .int .i64 m] w fun e w' => e = .returned (.int .i64 (m + n + lenSum ss)) ∧ Below w.heap.size w w' := by
  obtain ⟨hlen, hs⟩ := hs
  rw [length_mkS] at hlen
  go_enter Tryz.func159, Tryz.ntmps159
  go_wp2
  go_loopw [1, 5] (fun q i wr => ∃ k : Nat, k ≤ n ∧ q = .int .i64 (mkC m ss k) ∧ i = .int .i64 k ∧ Below w.heap.size w wr) (fun _ i _ => n - (intOf i).toNat)
  case atStart => exact ⟨0, Nat.zero_le _, by simp [mkC, lenSum], rfl, Below.refl _ _⟩
  case round =>
    obtain ⟨k, hk, rfl, rfl, hbel⟩ := hrel
    by_cases hlt : k < n
    · obtain ⟨b, off, rfl, hb, hc⟩ := hs (by omega)
      obtain ⟨hc0, la, ll, lc, hc1, hll, hsl⟩ := hc k hlt
      have kc := mkC_le m ss k
      have kg := mkC_ge m ss k
      have hgl := gl_le ss k (by omega)
      have hzl : (gl (mkS m ss) k).length = ll := hsl.1
      rw [gl_mkS m ss k (by omega), length_mkL] at hzl
      rw [gl_mkS m ss k (by omega)] at hsl
      rw [gc_mkS m ss k (by omega)] at hc0
      unfold mkL at hsl
      rw [hzl] at hsl
      have hck0 := (hbel.cell (p := ⟨b, off + k * 2, none⟩) hb).trans hc0
      have hck1 := (hbel.cell (p := ⟨b, off + k * 2 + 1, none⟩) hb).trans hc1
      have hsr := hsl.below hbel (Nat.le_refl _)
      have Hst := hide (mkC_succ m ss k (by omega))
      have hneg : ¬ (mkC m ss k + 1 + (ll : Int) < 0) := by omega
      clear hc hc0 hc1
      go_wp2_with fail
      refine (heldInt64S_calls la ll lc _ _ (by omega) (by omega) (by omega) hsr).mono ?_
      rintro e w1 ⟨rfl, g1⟩
      go_wp2
      go_roundw
      case rel => exact ⟨k + 1, by omega, by rw [Hst.out, hzl], by go_num, hbel.trans (g1.mono hbel.size)⟩
      case measure => simp [intOf]; omega
    · have e : k = n := by omega
      subst e
      have HE : Hid (mkC m ss k = m + k + lenSum ss) := by show _ = _; rw [← hlen]; exact mkC_all m ss
      go_wp2
      go_ret
      exact ⟨ret_int HE.out, hbel⟩

set_option maxRecDepth 100000 in
theorem heldRegistry_calls (a : Option Addr) (n cap : Nat) (ss : List (Int × List Int)) (m : Int) (w : World) (hm0 : 0 ≤ m) (hm : m ≤ 1048577) (hbd : n + lenSum ss ≤ 1048576) (hs : Sls w a n (mkS m ss)) :
    Calls Tryz.prog 128 #[.agg #[.slice a n cap], .int .i64 m] w fun e w' => e = .returned (.int .i64 (m + n + lenSum ss)) ∧ Below w.heap.size w w' := by
  have hp : ¬ (m + n + (lenSum ss : Int) < 0) := by omega
  go_enter Tryz.func128, Tryz.ntmps128
  go_wp2_with fail
  refine (heldSlotS_calls a n cap ss m _ hm0 hm hbd (hs.below ((Below.refl _ _).alloc (Nat.le_refl _) _) (Nat.le_refl _))).mono ?_
  rintro e w1 ⟨rfl, hb⟩
  go_wp2
  go_ret
  exact ⟨rfl, ((Below.refl _ _).alloc (Nat.le_refl _) _).trans (hb.mono (by simp))⟩

set_option maxRecDepth 100000 in
theorem heldTables_calls (a : Option Addr) (n ca : Nat) (ss : List (Int × List Int)) (ta : Option Addr) (tn tca : Nat) (da : Option Addr) (dn dca : Nat) (w : World) (hbd : n + lenSum ss ≤ 1048576) (htn : tn ≤ 1048576) (hdn : dn ≤ 1048576) (hx : Sls w a n (mkS 1 ss)) (ht : Sl w ta tn (marksFrom (1 + n + lenSum ss) tn)) (hd : Sl w da dn (marksFrom (1 + n + lenSum ss + tn) dn)) :
    Calls Tryz.prog 88 #[.agg #[.slice a n ca, .slice ta tn tca, .slice da dn dca], .int .i64 1] w fun e w' => e = .returned (.int .i64 (1 + n + lenSum ss + tn + dn)) ∧ Below w.heap.size w w' := by
  have M0 := (Mm.start w).alloc3 (.slice a n ca) (.slice ta tn tca) (.slice da dn dca) 43
  have p1 : ¬ ((1 : Int) + n + lenSum ss < 0) := by omega
  have p2 : ¬ ((1 : Int) + n + lenSum ss + tn < 0) := by omega
  have p3 : ¬ ((1 : Int) + n + lenSum ss + tn + dn < 0) := by omega
  go_enter Tryz.func88, Tryz.ntmps88
  go_wp2_with fail
  refine (heldRegistry_calls a n ca ss 1 _ (by omega) (by omega) hbd (hx.below M0.bel (Nat.le_refl _))).mono ?_
  rintro e w1 ⟨rfl, g1⟩
  have M1 := M0.below g1
  have q1 := M1.cell 1 rfl
  clear g1 M0
  go_wp2_with fail
  refine (heldInt64S_calls ta tn tca _ _ (by omega) (by omega) htn (ht.below M1.bel (Nat.le_refl _))).mono ?_
  rintro e w2 ⟨rfl, g2⟩
  have M2 := M1.below g2
  have q2 := M2.cell 2 rfl
  clear g2 M1 q1
  go_wp2_with fail
  refine (heldInt64S_calls da dn dca _ _ (by omega) (by omega) hdn (hd.below M2.bel (Nat.le_refl _))).mono ?_
  rintro e w3 ⟨rfl, g3⟩
  have HB := hide (M2.below g3).bel
  clear g3 M2 q2
  go_wp2
  go_ret
  exact ⟨rfl, HB.out⟩

set_option maxRecDepth 100000 in
theorem heldWordS_calls (a : Option Addr) (n cap : Nat) (m : Int) (w : World) (hm0 : 0 ≤ m) (hm : m ≤ 4194304) (hn : n ≤ 1048576) (hs : Swd w a n (mkw m n)) :
    Calls Tryz.prog 129 #[.slice a n cap, .int .i64 m] w fun e w' => e = .returned (.int .i64 (m + 2 * n)) ∧ Below w.heap.size w w' := by
  obtain ⟨_, hs⟩ := hs
  go_enter Tryz.func129, Tryz.ntmps129
  go_wp2
  go_loop [1, 5] (fun q i => ∃ k : Nat, k ≤ n ∧ q = .int .i64 (m + 2 * k) ∧ i = .int .i64 k) (fun _ i => n - (intOf i).toNat)
  case atStart => exact ⟨0, Nat.zero_le _, by simp, rfl⟩
  case round =>
    obtain ⟨k, hk, rfl, rfl⟩ := hrel
    by_cases hlt : k < n
    · obtain ⟨b, off, rfl, hb, hc⟩ := hs (by omega)
      obtain ⟨r0, r1⟩ := cellsw hc hlt
      rw [gw_mkw m n k hlt] at r0 r1
      simp only at r0 r1
      have n0 : ((m + 2 * (k : Int)) != (m + 2 * (k : Int))) = false := by simp
      have n1 : ((m + 2 * (k : Int) + 1) != (m + 2 * (k : Int) + 1)) = false := by simp
      clear hc
      go_wp2
      go_round
      case rel => exact ⟨k + 1, by omega, by go_num, by go_num⟩
      case measure => simp [intOf]; omega
    · have e : k = n := by omega
      subst e
      go_wp2
      go_ret
      exact ⟨rfl, Below.refl _ _⟩

set_option maxRecDepth 100000 in
theorem heldMemory_calls (a : Option Addr) (n cap : Nat) (m : Int) (w : World) (hm0 : 0 ≤ m) (hm : m ≤ 4194304) (hn : n ≤ 1048576) (hs : Swd w a n (mkw m n)) :
    Calls Tryz.prog 89 #[.agg #[.slice a n cap], .int .i64 m] w fun e w' => e = .returned (.int .i64 (m + 2 * n)) ∧ Below w.heap.size w w' := by
  have hp : ¬ (m + 2 * n < 0) := by omega
  go_enter Tryz.func89, Tryz.ntmps89
  go_wp2_with fail
  refine (heldWordS_calls a n cap m _ hm0 hm hn (hs.below ((Below.refl _ _).alloc (Nat.le_refl _) _) (Nat.le_refl _))).mono ?_
  rintro e w1 ⟨rfl, hb⟩
  go_wp2
  go_ret
  exact ⟨rfl, ((Below.refl _ _).alloc (Nat.le_refl _) _).trans (hb.mono (by simp))⟩

set_option maxRecDepth 100000 in
theorem heldGateS_calls (a : Option Addr) (n cap : Nat) (m : Int) (w : World) (hm0 : 0 ≤ m) (hm : m ≤ 4194304) (hn : n ≤ 1048576) (hs : Swd w a n (mkw m n)) :
    Calls Tryz.prog 93 #[.slice a n cap, .int .i64 m] w fun e w' => e = .returned (.int .i64 (m + 2 * n)) ∧ Below w.heap.size w w' := by
  obtain ⟨_, hs⟩ := hs
  go_enter Tryz.func93, Tryz.ntmps93
  go_wp2
  go_loop [1, 5] (fun q i => ∃ k : Nat, k ≤ n ∧ q = .int .i64 (m + 2 * k) ∧ i = .int .i64 k) (fun _ i => n - (intOf i).toNat)
  case atStart => exact ⟨0, Nat.zero_le _, by simp, rfl⟩
  case round =>
    obtain ⟨k, hk, rfl, rfl⟩ := hrel
    by_cases hlt : k < n
    · obtain ⟨b, off, rfl, hb, hc⟩ := hs (by omega)
      obtain ⟨r0, r1⟩ := cellsw hc hlt
      rw [gw_mkw m n k hlt] at r0 r1
      simp only at r0 r1
      have n0 : ((m + 2 * (k : Int)) != (m + 2 * (k : Int))) = false := by simp
      have n1 : ((m + 2 * (k : Int) + 1) != (m + 2 * (k : Int) + 1)) = false := by simp
      clear hc
      go_wp2
      go_round
      case rel => exact ⟨k + 1, by omega, by go_num, by go_num⟩
      case measure => simp [intOf]; omega
    · have e : k = n := by omega
      subst e
      go_wp2
      go_ret
      exact ⟨rfl, Below.refl _ _⟩

set_option maxRecDepth 100000 in
theorem heldLineS_calls (a : Option Addr) (n cap : Nat) (m : Int) (w : World) (hm0 : 0 ≤ m) (hm : m ≤ 4194304) (hn : n ≤ 1048576) (hs : Sln w a n (mk3 m n)) :
    Calls Tryz.prog 130 #[.slice a n cap, .int .i64 m] w fun e w' => e = .returned (.int .i64 (m + 3 * n)) ∧ Below w.heap.size w w' := by
  obtain ⟨_, hs⟩ := hs
  go_enter Tryz.func130, Tryz.ntmps130
  go_wp2
  go_loop [1, 5] (fun q i => ∃ k : Nat, k ≤ n ∧ q = .int .i64 (m + 3 * k) ∧ i = .int .i64 k) (fun _ i => n - (intOf i).toNat)
  case atStart => exact ⟨0, Nat.zero_le _, by simp, rfl⟩
  case round =>
    obtain ⟨k, hk, rfl, rfl⟩ := hrel
    by_cases hlt : k < n
    · obtain ⟨b, off, rfl, hb, hc⟩ := hs (by omega)
      obtain ⟨r0, r1, r2⟩ := cells3 hc hlt
      rw [g3_mk3 m n k hlt] at r0 r1 r2
      simp only at r0 r1 r2
      have n0 : ((m + 3 * (k : Int)) != (m + 3 * (k : Int))) = false := by simp
      have n1 : ((m + 3 * (k : Int) + 1) != (m + 3 * (k : Int) + 1)) = false := by simp
      have n2 : ((m + 3 * (k : Int) + 2) != (m + 3 * (k : Int) + 1 + 1)) = false := by simp; omega
      clear hc
      go_wp2
      go_round
      case rel => exact ⟨k + 1, by omega, by go_num, by go_num⟩
      case measure => simp [intOf]; omega
    · have e : k = n := by omega
      subst e
      go_wp2
      go_ret
      exact ⟨rfl, Below.refl _ _⟩

set_option maxRecDepth 100000 in
theorem heldCache_calls (s : Int) (a : Option Addr) (n cap : Nat) (m : Int) (w : World) (hm0 : 0 ≤ m) (hm : m ≤ 4194304) (hn : n ≤ 1048576) (hs : Sln w a n (mk3 m n)) :
    Calls Tryz.prog 91 #[.agg #[.int .i64 s, .slice a n cap], .int .i64 m] w fun e w' => e = .returned (.int .i64 (m + 3 * n)) ∧ Below w.heap.size w w' := by
  have hp : ¬ (m + 3 * n < 0) := by omega
  go_enter Tryz.func91, Tryz.ntmps91
  go_wp2_with fail
  refine (heldLineS_calls a n cap m _ hm0 hm hn (hs.below ((Below.refl _ _).alloc (Nat.le_refl _) _) (Nat.le_refl _))).mono ?_
  rintro e w1 ⟨rfl, hb⟩
  go_wp2
  go_ret
  exact ⟨rfl, ((Below.refl _ _).alloc (Nat.le_refl _) _).trans (hb.mono (by simp))⟩

set_option maxRecDepth 100000 in
set_option maxHeartbeats 1000000 in
theorem heldContextS_calls (a : Option Addr) (n cap : Nat) (cs : List (List Int × Int × Bool)) (m : Int) (w : World) (hm0 : 0 ≤ m) (hm : m + 2 * (n : Int) + (lenX cs : Int) ≤ 4194304) (hbd : n + lenX cs ≤ 1048576) (hlen : cs.length = n) (hs : Scx w a n (mkX m cs)) :
    Calls Tryz.prog 90 #[.slice a n cap, .int .i64 m] w fun e w' => e = .returned (.int .i64 (m + 2 * n + lenX cs)) ∧ Below w.heap.size w w' := by
  have hn1 : n ≤ 4194304 := by omega
  go_enter Tryz.func90, Tryz.ntmps90
  go_wp2
  go_loopw [1, 5] (fun q i wr => ∃ k : Nat, k ≤ n ∧ q = .int .i64 (mxC m cs k) ∧ i = .int .i64 k ∧ Below w.heap.size w wr) (fun _ i _ => n - (intOf i).toNat)
  case atStart => exact ⟨0, Nat.zero_le _, by simp [mxC, lenX], rfl, Below.refl _ _⟩
  case round =>
    obtain ⟨k, hk, rfl, rfl, hbel⟩ := hrel
    by_cases hlt : k < n
    · obtain ⟨b, off, rfl, hb, hc⟩ := hs.2 (by omega)
      obtain ⟨la, ll, lc, hc0, hc1, hc2, hll, hsl⟩ := hc k hlt
      have hgk := gx_mkX m cs k (by omega)
      rw [hgk] at hc1 hc2 hsl
      have kc := mxC_le m cs k
      have kg := mxC_ge m cs k
      have hl1 := gx_le cs k (by omega)
      have Hst := hide (mxC_succ m cs k (by omega))
      obtain rfl : (gx cs k).1.length = ll := by have := hsl.1; rw [length_marksFrom] at this; exact this
      have hck0 := (hbel.cell (p := ⟨b, off + k * 3, none⟩) hb).trans hc0
      have hsl2 := hsl.below hbel (Nat.le_refl _)
      have hp : ¬ (mxC m cs k + ((gx cs k).1.length : Int) < 0) := by omega
      go_wp2_with fail
      refine (heldInt64S_calls la _ lc (mxC m cs k) _ (by omega) (by omega) (by omega) hsl2).mono ?_
      rintro e w1 ⟨rfl, g1⟩
      have hbw := hbel.trans (g1.mono hbel.size)
      have hck1 := (hbw.cell (p := ⟨b, off + k * 3 + 1, none⟩) hb).trans hc1
      have hck2 := (hbw.cell (p := ⟨b, off + k * 3 + 2, none⟩) hb).trans hc2
      have e1 : (mxC m cs k + ((gx cs k).1.length : Int) != mxC m cs k + ((gx cs k).1.length : Int)) = false := by simp
      have m1 : 0 ≤ mxC m cs k + ((gx cs k).1.length : Int) + 1 := by omega
      have m2 : mxC m cs k + ((gx cs k).1.length : Int) + 1 ≤ 8388608 := by omega
      have e2 : ((((mxC m cs k + ((gx cs k).1.length : Int) + 1) % 3 == 0) != ((mxC m cs k + ((gx cs k).1.length : Int) + 1) % 3 == 0))) = false := by simp
      have HB := hide hbw
      clear hc hc0 hc1 hc2 hsl hsl2 hck0 g1 hbw hgk
      go_wp2
      go_roundw
      case rel => exact ⟨k + 1, by omega, by rw [Hst.out]; go_num, by go_num, HB.out⟩
      case measure => simp [intOf]; omega
    · have e : k = n := by omega
      subst e
      have HE : Hid (mxC m cs k = m + 2 * k + lenX cs) := by show _ = _; rw [← hlen]; exact mxC_all m cs
      clear hs
      go_wp2
      go_ret
      exact ⟨ret_int HE.out, hbel⟩

set_option maxRecDepth 100000 in
set_option maxHeartbeats 2000000 in
theorem heldSystem_O (S : Nat → Prop) (A : SA) (D : SD) (w : World) (hl : RS w A (mkD A D) → D.cs.length = A.xn) (hs : OY S A (mkD A D) w) :
    Calls Tryz.prog 43 #[.agg #[.slice A.a A.n A.c, .slice A.ta A.tn A.tc, .slice A.da A.dn A.dc, .slice A.wa A.wn A.wc, .slice A.xa A.xn A.xc, .int .i64 D.ac, .int .i64 D.cz, .slice A.la A.ln A.lc, .int .i64 D.dv, .slice A.oa A.on A.oc, .slice A.ga A.gn A.gc], .int .i64 1] w fun e w' => e = .returned (.int .i64 (1 + (mkY A D : Int))) ∧ Below w.heap.size w w' := by
  have hr := hs.rs
  have hcl := hl hr
  have hz := hs.sz
  have hzz : szY A (mkD A D) = szY A D := by unfold szY mkD; dsimp only; rw [lenSum_mkS, lenX_mkX]
  rw [hzz] at hz
  unfold szY at hz
  have s1 := hr.rt.2.1
  have s2 := hr.rt.2.2.2.1
  have s3 := hr.rt.2.2.2.2.2
  have s4 := hr.ws
  have s5 := hr.xs
  have s6 := hr.ls
  have s7 := hr.os
  have s8 := hr.gs
  unfold mkD at s1 s2 s3 s4 s5 s6 s7 s8
  dsimp only at s1 s2 s3 s4 s5 s6 s7 s8
  have M0 := (Mm.start w).allocC [.slice A.a A.n A.c, .slice A.ta A.tn A.tc, .slice A.da A.dn A.dc, .slice A.wa A.wn A.wc, .slice A.xa A.xn A.xc, .int .i64 D.ac, .int .i64 D.cz, .slice A.la A.ln A.lc, .int .i64 D.dv, .slice A.oa A.on A.oc, .slice A.ga A.gn A.gc] 53
  go_enter Tryz.func43, Tryz.ntmps43
  go_wp2_with fail
  refine (heldTables_calls A.a A.n A.c D.ss A.ta A.tn A.tc A.da A.dn A.dc _ (by omega) (by omega) (by omega) (s1.below M0.bel (Nat.le_refl _)) (s2.below M0.bel (Nat.le_refl _)) (s3.below M0.bel (Nat.le_refl _))).mono ?_
  rintro e w1 ⟨rfl, g1⟩
  have M1 := M0.below g1
  have p0 : ¬ ((1 + A.n + lenSum D.ss + A.tn + A.dn : Int) < 0) := by omega
  clear g1 M0
  have q1_3 := (M1.get 0 rfl).cell 3 rfl
  go_wp2_with fail
  refine (heldMemory_calls A.wa A.wn A.wc _ _ (by omega) (by omega) (by omega) (s4.below M1.bel (Nat.le_refl _))).mono ?_
  rintro e w2 ⟨rfl, g2⟩
  have M2 := M1.below g2
  have p1 : ¬ ((1 + A.n + lenSum D.ss + A.tn + A.dn + 2 * A.wn : Int) < 0) := by omega
  clear g2 M1 q1_3
  have q2_4 := (M2.get 0 rfl).cell 4 rfl
  go_wp2_with fail
  refine (heldContextS_calls A.xa A.xn A.xc D.cs _ _ (by omega) (by omega) (by omega) hcl (s5.below M2.bel (Nat.le_refl _))).mono ?_
  rintro e w3 ⟨rfl, g3⟩
  have M3 := M2.below g3
  have p2 : ¬ ((1 + A.n + lenSum D.ss + A.tn + A.dn + 2 * A.wn + 2 * A.xn + lenX D.cs : Int) < 0) := by omega
  clear g3 M2 q2_4
  have q3_6 := (M3.get 0 rfl).cell 6 rfl
  have q3_7 := (M3.get 0 rfl).cell 7 rfl
  go_wp2_with fail
  refine (heldCache_calls D.cz A.la A.ln A.lc _ _ (by omega) (by omega) (by omega) (s6.below M3.bel (Nat.le_refl _))).mono ?_
  rintro e w4 ⟨rfl, g4⟩
  have M4 := M3.below g4
  have p3 : ¬ ((1 + A.n + lenSum D.ss + A.tn + A.dn + 2 * A.wn + 2 * A.xn + lenX D.cs + 3 * A.ln : Int) < 0) := by omega
  clear g4 M3 q3_6 q3_7
  have q4_9 := (M4.get 0 rfl).cell 9 rfl
  go_wp2_with fail
  refine (heldInt64S_calls A.oa A.on A.oc _ _ (by omega) (by omega) (by omega) (s7.below M4.bel (Nat.le_refl _))).mono ?_
  rintro e w5 ⟨rfl, g5⟩
  have M5 := M4.below g5
  have p4 : ¬ ((1 + A.n + lenSum D.ss + A.tn + A.dn + 2 * A.wn + 2 * A.xn + lenX D.cs + 3 * A.ln + A.on : Int) < 0) := by omega
  clear g5 M4 q4_9
  have q5_10 := (M5.get 0 rfl).cell 10 rfl
  go_wp2_with fail
  refine (heldGateS_calls A.ga A.gn A.gc _ _ (by omega) (by omega) (by omega) (s8.below M5.bel (Nat.le_refl _))).mono ?_
  rintro e w6 ⟨rfl, g6⟩
  have M6 := M5.below g6
  have p5 : ¬ ((1 + A.n + lenSum D.ss + A.tn + A.dn + 2 * A.wn + 2 * A.xn + lenX D.cs + 3 * A.ln + A.on + 2 * A.gn : Int) < 0) := by omega
  clear g6 M5 q5_10
  have HB := hide M6.bel
  have HE : Hid ((1 : Int) + (mkY A D : Int) = 1 + A.n + lenSum D.ss + A.tn + A.dn + 2 * A.wn + 2 * A.xn + lenX D.cs + 3 * A.ln + A.on + 2 * A.gn) := by show _ = _; unfold mkY; omega
  clear M6
  go_wp2
  go_ret
  exact ⟨ret_int HE.out.symm, HB.out⟩

theorem Mm.alloc13 {w u : World} {cs : List (Nat × Nat × Value)} {fs : List (Nat × Nat × (World → Prop))} (h : Mm w u cs fs) (v0 v1 v2 v3 v4 v5 v6 v7 v8 v9 v10 v11 v12 : Value) (t : TypeId) : Mm w (u.alloc (.cells #[v0, v1, v2, v3, v4, v5, v6, v7, v8, v9, v10, v11, v12] t)) ((u.heap.size, 0, v0) :: (u.heap.size, 1, v1) :: (u.heap.size, 2, v2) :: (u.heap.size, 3, v3) :: (u.heap.size, 4, v4) :: (u.heap.size, 5, v5) :: (u.heap.size, 6, v6) :: (u.heap.size, 7, v7) :: (u.heap.size, 8, v8) :: (u.heap.size, 9, v9) :: (u.heap.size, 10, v10) :: (u.heap.size, 11, v11) :: (u.heap.size, 12, v12) :: cs) fs :=
  (((((((((((((h.below ((Below.refl _ _).alloc (Nat.le_refl _) (.cells #[v0, v1, v2, v3, v4, v5, v6, v7, v8, v9, v10, v11, v12] t))).cons (by simp) (by simp)).cons (by simp) (by simp)).cons (by simp) (by simp)).cons (by simp) (by simp)).cons (by simp) (by simp)).cons (by simp) (by simp)).cons (by simp) (by simp)).cons (by simp) (by simp)).cons (by simp) (by simp)).cons (by simp) (by simp)).cons (by simp) (by simp)).cons (by simp) (by simp)).cons (by simp) (by simp)

set_option maxRecDepth 100000 in
set_option maxHeartbeats 1000000 in
theorem eqYR_O (c k : Int) (D : SD) {S S' : Nat → Prop} {A B : SA} {w : World} (hx : OY S A D w) (hy : OY S' B D w) :
    Calls Tryz.prog 8 #[.agg #[.int .i64 c, .int .i64 k, .slice A.a A.n A.c, .slice A.ta A.tn A.tc, .slice A.da A.dn A.dc, .slice A.wa A.wn A.wc, .slice A.xa A.xn A.xc, .int .i64 D.ac, .int .i64 D.cz, .slice A.la A.ln A.lc, .int .i64 D.dv, .slice A.oa A.on A.oc, .slice A.ga A.gn A.gc], .agg #[.int .i64 c, .int .i64 k, .slice B.a B.n B.c, .slice B.ta B.tn B.tc, .slice B.da B.dn B.dc, .slice B.wa B.wn B.wc, .slice B.xa B.xn B.xc, .int .i64 D.ac, .int .i64 D.cz, .slice B.la B.ln B.lc, .int .i64 D.dv, .slice B.oa B.on B.oc, .slice B.ga B.gn B.gc]] w fun e w' => e = .returned (.bool true) ∧ Below w.heap.size w w' := by
  have h1 : (c != c) = false := by simp
  have h2 : (k != k) = false := by simp
  have HB := hide fun o1 o2 => ((Below.refl w.heap.size w).alloc (Nat.le_refl _) o1).alloc (by simp) o2
  have HX := hide fun o1 o2 => OY.loc.alloc (OY.loc.alloc hx o1) o2
  have HY := hide fun o1 o2 => OY.loc.alloc (OY.loc.alloc hy o1) o2
  go_enter Tryz.func8, Tryz.ntmps8
  go_wp2_with fail
  refine (eqSystem_O _ _ A B D _ (HX.out _ _) (HY.out _ _)).mono ?_
  rintro e w1 ⟨rfl, hb⟩
  have HE := hide ((HB.out _ _).trans (hb.mono (HB.out _ _).size))
  clear hb
  go_wp2
  go_ret
  exact ⟨rfl, HE.out⟩

set_option maxRecDepth 100000 in
theorem markYR_O (c k : Int) {S : Nat → Prop} {A : SA} {D : SD} {w : World} (hs : OY S A D w) (hlt : ∀ q, S q → q < w.heap.size) :
    Calls Tryz.prog 11 #[.agg #[.int .i64 c, .int .i64 k, .slice A.a A.n A.c, .slice A.ta A.tn A.tc, .slice A.da A.dn A.dc, .slice A.wa A.wn A.wc, .slice A.xa A.xn A.xc, .int .i64 D.ac, .int .i64 D.cz, .slice A.la A.ln A.lc, .int .i64 D.dv, .slice A.oa A.on A.oc, .slice A.ga A.gn A.gc], .int .i64 1] w fun e w' => e = .returned (.int .i64 (1 + (mkY A D : Int))) ∧ OY S A (mkD A D) w' ∧ OutS S w w' := by
  go_enter Tryz.func11, Tryz.ntmps11
  go_wp2_with fail
  refine (markSystem_O S A D _ (OY.loc.below ((Below.refl _ _).alloc (Nat.le_refl _) _) hs) (fun q hq => by have := hlt q hq; simp; omega)).mono ?_
  rintro e w1 ⟨rfl, h1, h2⟩
  go_wp2
  go_ret
  exact ⟨rfl, h1, (OutS.of_below ((Below.refl _ _).alloc (Nat.le_refl _) _)).trans h2⟩

set_option maxRecDepth 100000 in
theorem heldYR_O (c k : Int) {S : Nat → Prop} {A : SA} {D : SD} {w : World} (hs : OY S A (mkD A D) w) :
    Calls Tryz.prog 12 #[.agg #[.int .i64 c, .int .i64 k, .slice A.a A.n A.c, .slice A.ta A.tn A.tc, .slice A.da A.dn A.dc, .slice A.wa A.wn A.wc, .slice A.xa A.xn A.xc, .int .i64 D.ac, .int .i64 D.cz, .slice A.la A.ln A.lc, .int .i64 D.dv, .slice A.oa A.on A.oc, .slice A.ga A.gn A.gc], .int .i64 1] w fun e w' => e = .returned (.int .i64 (1 + (mkY A D : Int))) ∧ Below w.heap.size w w' := by
  have hl : D.cs.length = A.xn := by have := hs.rs.len.2.2.2.2.1; simpa [mkD, length_mkX] using this
  have hp : ¬ ((1 : Int) + (mkY A D : Int) < 0) := by omega
  go_enter Tryz.func12, Tryz.ntmps12
  go_wp2_with fail
  refine (heldSystem_O S A D _ (fun _ => hl) (OY.loc.below ((Below.refl _ _).alloc (Nat.le_refl _) _) hs)).mono ?_
  rintro e w1 ⟨rfl, hb⟩
  go_wp2
  go_ret
  exact ⟨rfl, ((Below.refl _ _).alloc (Nat.le_refl _) _).trans (hb.mono (by simp))⟩

end Go.Proofs.YtgkjmeogdomgmaaGreat
