import Derived.Test.YtipfaoecodclaaaObM
import Derived.Test.YtipfaoecodclaaaObE
import Derived.WalkKit
import Derived.ProofKit
import Derived.OpenShut
import Derived.ShutString
import Derived.ChangeOld
import Derived.Below
import Derived.WalkSpells
import Derived.Deep.QuietTactic
import Derived.BigQuiet
import Derived.Deep.RegionWith
import Derived.Deep.WholeRow
import Derived.Deep.DeepCutAuto
import Derived.Deep.RegionHeld2
import Derived.Deep.AppendLies
import Derived.Deep.RegionLaw
namespace Go.Proofs.Ytipfaoecodclaaa
open Go.ChangeShapes Go.WideShapes Go.ChangeAt Go.RowKit

set_option maxRecDepth 100000 in
theorem heldInt64S_calls (a : Option Addr) (n cap : Nat) (m : Int) (w : World) (hm0 : 0 ≤ m) (hm : m ≤ 8388608) (hn : n ≤ 1048576) (hs : Sl w a n (marksFrom m n)) :
    Calls Try.prog 58 #[.slice a n cap, .int .i64 m] w fun e w' => e = .returned (.int .i64 (m + n)) ∧ Below w.heap.size w w' := by
  obtain ⟨_, hs⟩ := hs
  go_enter Try.func58, Try.ntmps58
  go_wp2
  go_loopw [1, 5] (fun q i wr => ∃ k : Nat, k ≤ n ∧ q = .int .i64 (m + k) ∧ i = .int .i64 k ∧ Below w.heap.size w wr) (fun _ i _ => n - (intOf i).toNat)
  case atStart => exact ⟨0, Nat.zero_le _, by simp, rfl, Below.refl _ _⟩
  case round =>
    obtain ⟨k, hk, rfl, rfl, hbel⟩ := hrel
    by_cases hlt : k < n
    · obtain ⟨b, off, rfl, hb, hc⟩ := hs (by omega)
      have hck := (hbel.cell (p := ⟨b, off + k, none⟩) hb).trans (hc k hlt)
      rw [gt_marksFrom m n k hlt] at hck
      go_wp2
      go_roundw
      case rel => exact ⟨k + 1, by omega, by go_num, by go_num, hbel⟩
      case measure => simp [intOf]; omega
    · have e : k = n := by omega
      subst e
      go_wp2
      go_ret
      exact ⟨rfl, hbel⟩

set_option maxRecDepth 100000 in
set_option maxHeartbeats 2000000 in
theorem heldObjectS_calls (a : Option Addr) (n cap : Nat) (xs : List OB) (m : Int) (w : World) (hm0 : 0 ≤ m) (hm : m ≤ 1048577) (hbd : n + lenO xs ≤ 1048576) (hs : Sob w a n (mkO m xs)) :
    Calls Try.prog 38 #[.slice a n cap, .int .i64 m] w fun e w' => e = .returned (.int .i64 (m + 5 * (n : Int) + (lenO xs : Int))) ∧ Below w.heap.size w w' := by
  obtain ⟨hlen, hs⟩ := hs
  rw [length_mkO] at hlen
  go_enter Try.func38, Try.ntmps38
  go_wp2
  go_loopw [1, 5] (fun q i wr => ∃ k : Nat, k ≤ n ∧ q = .int .i64 (moC m xs k) ∧ i = .int .i64 k ∧ Below w.heap.size w wr) (fun _ i _ => n - (intOf i).toNat)
  case atStart => exact ⟨0, Nat.zero_le _, by simp [moC, lenO], rfl, Below.refl _ _⟩
  case round =>
    obtain ⟨k, hk, rfl, rfl, hbel⟩ := hrel
    by_cases hlt : k < n
    · obtain ⟨b, off, rfl, hb, hc⟩ := hs (by omega)
      obtain ⟨la, lc, da, dc, h7, x3, xs3, x6, xs6⟩ := hc k hlt
      rw [gO_mkO m xs k (by omega)] at h7 x3 xs3 x6 xs6
      unfold mk1 at h7 x3 xs3 x6 xs6
      dsimp only at h7 x3 xs3 x6 xs6
      simp only [length_marksFrom] at x3 xs3 x6 xs6
      have kc := moC_le m xs k
      have kg := moC_ge m xs k
      have kl : (lenO (xs.take k) : Int) ≤ lenO xs := by have := lenO_le xs k; omega
      have hgl := gO_le xs k (by omega)
      have Hst := hide (moC_succ m xs k (by omega))
      obtain ⟨p, hp⟩ : ∃ p, p = (gO xs k).2.2.2.1.length := ⟨_, rfl⟩
      obtain ⟨r, hr⟩ : ∃ r, r = (gO xs k).2.2.2.2.2.2.length := ⟨_, rfl⟩
      rw [← hp, ← hr] at h7 hgl Hst
      rw [← hp] at x3 xs3
      rw [← hr] at x6
      rw [← hp, ← hr] at xs6
      obtain ⟨r0, r1, r2, r3, r4, r5, r6⟩ := h7.of_block (hbel.block b hb)
      dsimp only at r0 r1 r2 r3 r4 r5 r6
      simp only [length_marksFrom] at r3 r6
      have k0 : (0 : Int) ≤ (k : Int) := by omega
      have k1 : (k : Int) < (n : Int) := by omega
      have n1 : ¬ (moC m xs k + 1 + 1 + 1 + (p : Int) < 0) := by omega
      have n2 : ¬ (moC m xs k + 1 + 1 + 1 + (p : Int) + 1 + 1 + (r : Int) < 0) := by omega
      have HS3 := hide (xs3.below hbel (Nat.le_refl _))
      have HS6 := hide (xs6.below hbel (Nat.le_refl _))
      have HB := hide hbel
      have HH7 := hide h7
      have hbw : b < wr.heap.size := by have := hbel.size; omega
      clear hc xs3 xs6 hp hr hbel h7
      go_wp2_with fail
      refine (heldInt64S_calls la p lc _ _ (by omega) (by omega) (by omega) HS3.out).mono ?_
      rintro e w1 ⟨rfl, g1⟩
      have HB1 := hide (HB.out.trans (g1.mono HB.out.size))
      obtain ⟨s0, s1, s2, s3, s4, s5, s6⟩ := HH7.out.of_block (HB1.out.block b hb)
      dsimp only at s0 s1 s2 s3 s4 s5 s6
      simp only [length_marksFrom] at s3 s6
      have HT6 := hide (HS6.out.below g1 (Nat.le_refl _))
      clear g1 r0 r1 r2 r3 r4 r5 r6
      go_wp2_with fail
      refine (heldInt64S_calls da r dc _ _ (by omega) (by omega) (by omega) HT6.out).mono ?_
      rintro e w2 ⟨rfl, g2⟩
      have HB2 := hide (HB1.out.trans (g2.mono HB1.out.size))
      clear g2 s0 s1 s2 s3 s4 s5 s6
      go_wp2
      go_roundw
      case rel => exact ⟨k + 1, by omega, by rw [Hst.out], by go_num, HB2.out⟩
      case measure => simp [intOf]; omega
    · obtain rfl : k = n := by omega
      have HE : Hid (moC m xs k = m + 5 * (k : Int) + (lenO xs : Int)) := by show _ = _; rw [← hlen]; exact moC_all m xs
      clear hs
      go_wp2
      go_ret
      exact ⟨ret_int HE.out, hbel⟩

theorem OO.bound {S : Nat → Prop} {a : Option Addr} {n : Nat} {xs : List OB} {w : World} (h : OO S a n (mkO 1 xs) w) : n + lenO xs ≤ 1048576 := by
  have := h.2.1
  rwa [lenO_mkO] at this

set_option maxRecDepth 100000 in
theorem heldOR_O (c : Int) (S : Nat → Prop) (a : Option Addr) (n cap : Nat) (xs : List OB) (w : World) (hs : OO S a n (mkO 1 xs) w) :
    Calls Try.prog 17 #[.agg #[.int .i64 c, .slice a n cap], .int .i64 1] w fun e w' => e = .returned (.int .i64 (1 + 5 * (n : Int) + (lenO xs : Int))) ∧ Below w.heap.size w w' := by
  have hbd := hs.bound
  have hp : ¬ ((1 : Int) + 5 * (n : Int) + (lenO xs : Int) < 0) := by omega
  have hx := hs.sob
  go_enter Try.func17, Try.ntmps17
  go_wp2_with fail
  refine (heldObjectS_calls a n cap xs 1 _ (by omega) (by omega) hbd (hx.below ((Below.refl _ _).alloc (Nat.le_refl _) _) (Nat.le_refl _))).mono ?_
  rintro e w1 ⟨rfl, hb⟩
  go_wp2
  go_ret
  exact ⟨rfl, ((Below.refl _ _).alloc (Nat.le_refl _) _).trans (hb.mono (by simp))⟩

set_option maxRecDepth 100000 in
theorem markOR_O (S : Nat → Prop) (c : Int) (a : Option Addr) (n cap : Nat) (xs : List OB) (m : Int) (w : World) (hm0 : 0 ≤ m) (hm : m ≤ 3000000) (hs : OO S a n xs w) :
    Calls Try.prog 16 #[.agg #[.int .i64 c, .slice a n cap], .int .i64 m] w fun e w' => e = .returned (.int .i64 (m + 5 * n + lenO xs)) ∧ OO S a n (mkO m xs) w' ∧ OutS S w w' := by
  go_enter Try.func16, Try.ntmps16
  go_wp2_with fail
  refine (markObjectS_O S a n cap xs m _ hm0 hm (OO.loc.below ((Below.refl _ _).alloc (Nat.le_refl _) _) hs)).mono ?_
  rintro e w1 ⟨rfl, h1, h2⟩
  go_wp2
  go_ret
  exact ⟨rfl, h1, (OutS.of_below ((Below.refl _ _).alloc (Nat.le_refl _) _)).trans h2⟩

set_option maxRecDepth 100000 in
theorem eqOR_O (c : Int) (S S' : Nat → Prop) (a b : Option Addr) (n m ca cb : Nat) (xs : List OB) (w : World) (hx : OO S a n xs w) (hy : OO S' b m xs w) :
    Calls Try.prog 11 #[.agg #[.int .i64 c, .slice a n ca], .agg #[.int .i64 c, .slice b m cb]] w fun e w' => e = .returned (.bool true) ∧ Below w.heap.size w w' := by
  obtain rfl : m = n := by have := hx.1; have := hy.1; omega
  have hc : (c != c) = false := by simp
  have hn : m ≤ maxLen := by have := hx.2.1; unfold maxLen; omega
  have hb0 := fun o1 o2 => ((Below.refl w.heap.size w).alloc (Nat.le_refl _) o1).alloc (by simp) o2
  have hx1 := fun o1 o2 => hx.sob.below (hb0 o1 o2) (Nat.le_refl _)
  have hy1 := fun o1 o2 => hy.sob.below (hb0 o1 o2) (Nat.le_refl _)
  go_enter Try.func11, Try.ntmps11
  go_wp2_with fail
  refine (eqObjectS_calls a b m ca cb xs _ hn (hx1 _ _) (hy1 _ _)).mono ?_
  rintro e w1 ⟨rfl, hb⟩
  go_wp2
  go_ret
  exact ⟨rfl, (hb0 _ _).trans (hb.mono (by simp; omega))⟩

theorem OO.allocR {B B' : Nat} {a : Option Addr} {n : Nat} {zs : List OB} {ws : World} {o : Obj} (h : OO (InR B' ws.heap.size) a n zs ws) (hB : B ≤ B') : OO (InR B (ws.alloc o).heap.size) a n zs (ws.alloc o) :=
  (OO.loc.alloc h o).mono (fun k hk => ⟨by have := hk.1; omega, by have := hk.2; simp; omega⟩)

theorem OO.set2R {B B' P : Nat} {a : Option Addr} {n : Nat} {zs : List OB} {ws : World} (h : OO (InR B' ws.heap.size) a n zs ws) (hB : B ≤ B') (hP : P < B') (x y : Value) : OO (InR B ((ws.setCell ⟨P, 0, none⟩ x).setCell ⟨P, 1, none⟩ y).heap.size) a n zs ((ws.setCell ⟨P, 0, none⟩ x).setCell ⟨P, 1, none⟩ y) :=
  (OO.loc.setC (OO.loc.setC h (fun e => by have := e.1; simp at this; omega) x) (fun e => by have := e.1; simp at this; omega) y).mono (fun k hk => ⟨by have := hk.1; omega, by have := hk.2; simpa using this⟩)

end Go.Proofs.Ytipfaoecodclaaa
