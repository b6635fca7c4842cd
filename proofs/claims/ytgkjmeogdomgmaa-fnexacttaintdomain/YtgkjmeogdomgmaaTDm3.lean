import Derived.Test.YtgkjmeogdomgmaaRegO
import Derived.Test.YtgkjmeogdomgmaaBase
import Derived.Test.YtgkjmeogdomgmaaTabK
import Derived.Test.YtgkjmeogdomgmaaToRegO
import Derived.WalkKit
import Derived.ProofKit
import Derived.OpenShut
import Derived.ShutString
import Derived.ChangeOld
import Derived.Below
import Derived.WalkSpells
import Derived.Deep.QuietTactic
import Derived.BigQuiet
import Derived.Deep.RegionWith
import Derived.Deep.WholeRow
import Derived.Deep.DeepCutAuto
import Derived.Deep.RegionHeld2
import Derived.Deep.AppendLies
import Derived.Deep.RegionLaw
namespace Go.Proofs.Ytgkjmeogdomgmaa
open Go.ChangeShapes Go.WideShapes Go.ChangeAt Go.RowKit

set_option maxRecDepth 100000 in
theorem markInt64S_O (S : Nat → Prop) (a : Option Addr) (n cap : Nat) (rs : List Int) (m : Int) (w : World) (hm0 : 0 ≤ m) (hm : m ≤ 4194304) (hs : OS S a n rs w) :
    Calls Try.prog 49 #[.slice a n cap, .int .i64 m] w fun e w' => e = .returned (.int .i64 (m + n)) ∧ OS S a n (marksFrom m n) w' ∧ OutS S w w' := by
  obtain ⟨hlen, hn, hs⟩ := hs
  rcases hs with rfl | ⟨b, rfl, hB, blk⟩
  · go_enter Try.func49, Try.ntmps49
    go_wp2
    go_loop [1, 5] (fun k i => k = .int .i64 m ∧ i = .int .i64 0) (fun _ _ => 0)
    case atStart => exact ⟨rfl, rfl⟩
    case round =>
      obtain ⟨rfl, rfl⟩ := hrel
      go_wp2
      go_ret
      exact ⟨ret_int (by simp), ⟨length_marksFrom _ _, by omega, (.inl rfl)⟩, OutS.refl _ _⟩
  · subst hlen
    go_enter Try.func49, Try.ntmps49
    go_wp2
    go_loopw [1, 5] (fun q i wr => ∃ k : Nat, k ≤ rs.length ∧ q = .int .i64 (m + k) ∧ i = .int .i64 k ∧ MRow wr b rs.length k m ∧ OutS S w wr) (fun _ i _ => rs.length - (intOf i).toNat)
    case atStart => exact ⟨0, Nat.zero_le _, by simp, rfl, MRow.start blk, OutS.refl _ _⟩
    case round =>
      obtain ⟨k, hk, rfl, rfl, hrow, hbut⟩ := hrel
      by_cases hlt : k < rs.length
      · obtain ⟨v, hv⟩ := hrow.2.2.1 k hlt
        have hfz := hrow.2.2.2 k
        go_wp2
        go_roundw
        case rel => exact ⟨k + 1, by omega, by go_num, by go_num, hrow.store hlt, hbut.setCell hB _⟩
        case measure => simp [intOf]; omega
      · have e : k = rs.length := by omega
        subst e
        go_wp2
        go_ret
        exact ⟨rfl, ⟨length_marksFrom _ _, hn, .inr ⟨b, rfl, hB, hrow.done⟩⟩, hbut⟩

set_option maxRecDepth 100000 in
theorem markSlotS_O (S : Nat → Prop) (a : Option Addr) (n cap : Nat) (ss : List (Int × List Int)) (m : Int) (w : World) (hm0 : 0 ≤ m) (hm : m ≤ 1048577) (hs : OR S a n ss w) :
    Calls Try.prog 88 #[.slice a n cap, .int .i64 m] w fun e w' => e = .returned (.int .i64 (m + n + lenSum ss)) ∧ OR S a n (mkS m ss) w' ∧ OutS S w w' := by
  have hlen := hs.1
  have hbd := hs.2.1
  by_cases hp : 0 < n
  · obtain ⟨N, la, lc, lb, rfl, hb⟩ := hs.body hp
    clear hs
    go_enter Try.func88, Try.ntmps88
    go_wp2
    go_loopw [1, 5] (fun q i wr => ∃ k : Nat, k ≤ n ∧ q = .int .i64 (mkC m ss k) ∧ i = .int .i64 k ∧ ORb S N n la lc lb (fun j => if j < k then mkC m ss j else gc ss j) (fun j => if j < k then mkL m ss j else gl ss j) wr ∧ OutS S w wr) (fun _ i _ => n - (intOf i).toNat)
    case atStart => exact ⟨0, Nat.zero_le _, by simp [mkC, lenSum], rfl, hb.congr (fun i _ => by simp) (fun i _ => by simp), OutS.refl _ _⟩
    case round =>
      obtain ⟨k, hk, rfl, rfl, hrow, hbut⟩ := hrel
      by_cases hlt : k < n
      · have kc := mkC_le m ss k
        have kg := mkC_ge m ss k
        have hS := hrow.hS
        have hv := hrow.c0 k hlt
        have hfz := hrow.fz (k * 2)
        have hr1 := hrow.setCount hlt (mkC m ss k)
        have hv1 := hr1.c1 k hlt
        have hos := hr1.os k hlt
        rw [if_neg (by omega)] at hv hv1 hos
        have HR := hide hr1
        have HO := hide (hbut.setCell (p := ⟨N, k * 2, none⟩) hS (.int .i64 (mkC m ss k)))
        have HOS := hide hos
        have Hst := hide (mkC_succ m ss k (by omega))
        clear hrow hr1 hbut hos
        go_wp2_with fail
        refine (markInt64S_O _ (la k) _ (lc k) (gl ss k) _ _ (by omega) (by omega) HOS.out).mono ?_
        rintro e w1 ⟨rfl, hs1, ho1⟩
        have HR2 := hide (HR.out.setLabel hlt (zs := marksFrom (mkC m ss k + 1) (gl ss k).length) (by simp [length_marksFrom]) (by simpa using ho1) (by simpa using hs1))
        have HO2 := hide (HO.out.trans (ho1.mono (fun j hj => hj.1 ▸ HR.out.lS k hlt (by simpa using hj.2))))
        clear hs1 ho1
        go_wp2
        go_roundw
        case rel =>
          refine ⟨k + 1, by omega, by rw [Hst.out], by go_num, HR2.out.congr (fun i hi => ?_) (fun i hi => ?_), HO2.out⟩
          · unfold upd
            by_cases e : i = k
            · subst e; simp
            · rw [if_neg e]
              dsimp only
              by_cases e2 : i < k
              · rw [if_pos e2, if_pos (by omega)]
              · rw [if_neg e2, if_neg (by omega)]
          · unfold upd
            by_cases e : i = k
            · subst e; simp [mkL]
            · rw [if_neg e]
              dsimp only
              by_cases e2 : i < k
              · rw [if_pos e2, if_pos (by omega)]
              · rw [if_neg e2, if_neg (by omega)]
        case measure => simp [intOf]; omega
      · have e : k = n := by omega
        subst e
        have HE : Hid (mkC m ss k = m + k + lenSum ss) := by show _ = _; rw [← hlen]; exact mkC_all m ss
        have HR := hide (ORb.or (ss := mkS m ss) (hrow.congr (fun i hi => by rw [if_pos hi, gc_mkS m ss i (by omega)]) (fun i hi => by rw [if_pos hi, gl_mkS m ss i (by omega)])) (by rw [length_mkS]; exact hlen) (by rw [lenSum_mkS]; exact hbd))
        have HO := hide hbut
        clear hrow hbut
        go_wp2
        go_ret
        exact ⟨ret_int HE.out, HR.out, HO.out⟩
  · have h0 : n = 0 := by omega
    subst h0
    obtain rfl : ss = [] := List.eq_nil_of_length_eq_zero hlen
    go_enter Try.func88, Try.ntmps88
    go_wp2
    go_loop [1, 5] (fun k i => k = .int .i64 m ∧ i = .int .i64 0) (fun _ _ => 0)
    case atStart => exact ⟨rfl, rfl⟩
    case round =>
      obtain ⟨rfl, rfl⟩ := hrel
      go_wp2
      go_ret
      exact ⟨ret_int (by simp [lenSum]), ⟨rfl, by simp [mkS, lenSum], .inl rfl⟩, OutS.refl _ _⟩

set_option maxRecDepth 100000 in
theorem markRegistry_O (S : Nat → Prop) (a : Option Addr) (n cap : Nat) (ss : List (Int × List Int)) (m : Int) (w : World) (hm0 : 0 ≤ m) (hm : m ≤ 1048577) (hs : OR S a n ss w) :
    Calls Try.prog 48 #[.agg #[.slice a n cap], .int .i64 m] w fun e w' => e = .returned (.int .i64 (m + n + lenSum ss)) ∧ OR S a n (mkS m ss) w' ∧ OutS S w w' := by
  go_enter Try.func48, Try.ntmps48
  go_wp2_with fail
  refine (markSlotS_O S a n cap ss m _ hm0 hm (OR.loc.below ((Below.refl _ _).alloc (Nat.le_refl _) _) hs)).mono ?_
  rintro e w1 ⟨rfl, h1, h2⟩
  go_wp2
  go_ret
  exact ⟨rfl, h1, (OutS.of_below ((Below.refl _ _).alloc (Nat.le_refl _) _)).trans h2⟩

set_option maxRecDepth 100000 in
theorem markTables_O (S : Nat → Prop) (a : Option Addr) (n cap : Nat) (ss : List (Int × List Int)) (ta : Option Addr) (tn tcap : Nat) (ts : List Int) (da : Option Addr) (dn dcap : Nat) (ds : List Int) (m : Int) (w : World) (hm0 : 0 ≤ m) (hm : m ≤ 1048577) (hs : OT S a n ss ta tn ts da dn ds w) (hlt : ∀ k, S k → k < w.heap.size) :
    Calls Try.prog 14 #[.agg #[.slice a n cap, .slice ta tn tcap, .slice da dn dcap], .int .i64 m] w fun e w' => e = .returned (.int .i64 (m + n + lenSum ss + tn + dn)) ∧
      OT S a n (mkS m ss) ta tn (marksFrom (m + n + lenSum ss) tn) da dn (marksFrom (m + n + lenSum ss + tn) dn) w' ∧ OutS S w w' := by
  obtain ⟨S1, S2, S3, i1, i2, i3, d12, d13, d23, o1, o2, o3⟩ := hs
  have b1 := o1.2.1
  have b2 := o2.2.1
  have b3 := o3.2.1
  have al := (Below.refl w.heap.size w).alloc (Nat.le_refl _) (.cells #[.slice a n cap, .slice ta tn tcap, .slice da dn dcap] 36)
  have p1 := OR.loc.below al o1
  have p2 := OS.loc.below al o2
  have p3 := OS.loc.below al o3
  have nS : ¬ S w.heap.size := fun h => Nat.lt_irrefl _ (hlt _ h)
  have n1 : ¬ S1 w.heap.size := fun h => nS (i1 _ h)
  have n2 : ¬ S2 w.heap.size := fun h => nS (i2 _ h)
  go_enter Try.func14, Try.ntmps14
  go_wp2_with fail
  refine (markRegistry_O S1 a n cap ss m _ hm0 hm p1).mono ?_
  rintro e w1 ⟨rfl, q1, h1⟩
  have c1 : w1.cell? ⟨w.heap.size, 1, none⟩ = some (.slice ta tn tcap) := (World.cell?_of_block (a := ⟨w.heap.size, 1, none⟩) (h1.block _ (by simp) n1)).trans (by go_simp)
  have q2 := OS.loc.out h1 (fun j h2 h1 => d12 j h1 h2) p2
  have q3 := OS.loc.out h1 (fun j h2 h1 => d13 j h1 h2) p3
  have z1 := h1.size
  simp only [World.size_alloc] at z1
  go_wp2_with fail
  refine (markInt64S_O S2 ta tn tcap ts _ _ (by omega) (by omega) q2).mono ?_
  rintro e w2 ⟨rfl, r2, h2⟩
  have c2 : w2.cell? ⟨w.heap.size, 2, none⟩ = some (.slice da dn dcap) := (World.cell?_of_block (a := ⟨w.heap.size, 2, none⟩) (h2.block _ (by show w.heap.size < _; omega) n2)).trans ((World.cell?_of_block (a := ⟨w.heap.size, 2, none⟩) (h1.block _ (by simp) n1)).trans (by go_simp))
  have r1 := OR.loc.out h2 (fun j h1 h2 => d12 j h1 h2) q1
  have r3 := OS.loc.out h2 (fun j h3 h2 => d23 j h2 h3) q3
  clear q1 q2 q3 c1 p1 p2 p3
  go_wp2_with fail
  refine (markInt64S_O S3 da dn dcap ds _ _ (by omega) (by omega) r3).mono ?_
  rintro e w3 ⟨rfl, s3, h3⟩
  have HR : Hid (OT S a n (mkS m ss) ta tn (marksFrom (m + n + lenSum ss) tn) da dn (marksFrom (m + n + lenSum ss + tn) dn) w3) := ⟨S1, S2, S3, i1, i2, i3, d12, d13, d23, OR.loc.out h3 (fun j h1 h3 => d13 j h1 h3) r1, OS.loc.out h3 (fun j h2 h3 => d23 j h2 h3) r2, s3⟩
  have HO : Hid (OutS S w w3) := (((OutS.of_below al).trans (h1.mono i1)).trans (h2.mono i2)).trans (h3.mono i3)
  clear h1 h2 h3 al r1 r2 r3 s3 c2
  go_wp2
  go_ret
  exact ⟨rfl, HR.out, HO.out⟩

set_option maxRecDepth 100000 in
theorem heldInt64S_calls (a : Option Addr) (n cap : Nat) (m : Int) (w : World) (hm0 : 0 ≤ m) (hm : m ≤ 4194304) (hn : n ≤ 1048576) (hs : Sl w a n (marksFrom m n)) :
    Calls Try.prog 90 #[.slice a n cap, .int .i64 m] w fun e w' => e = .returned (.int .i64 (m + n)) ∧ Below w.heap.size w w' := by
  obtain ⟨_, hs⟩ := hs
  go_enter Try.func90, Try.ntmps90
  go_wp2
  go_loopw [1, 5] (fun q i wr => ∃ k : Nat, k ≤ n ∧ q = .int .i64 (m + k) ∧ i = .int .i64 k ∧ Below w.heap.size w wr) (fun _ i _ => n - (intOf i).toNat)
  case atStart => exact ⟨0, Nat.zero_le _, by simp, rfl, Below.refl _ _⟩
  case round =>
    obtain ⟨k, hk, rfl, rfl, hbel⟩ := hrel
    by_cases hlt : k < n
    · obtain ⟨b, off, rfl, hb, hc⟩ := hs (by omega)
      have hck := (hbel.cell (p := ⟨b, off + k, none⟩) hb).trans (hc k hlt)
      rw [gt_marksFrom m n k hlt] at hck
      go_wp2
      go_roundw
      case rel => exact ⟨k + 1, by omega, by go_num, by go_num, hbel⟩
      case measure => simp [intOf]; omega
    · have e : k = n := by omega
      subst e
      go_wp2
      go_ret
      exact ⟨rfl, hbel⟩

set_option maxRecDepth 100000 in
theorem heldSlotS_calls (a : Option Addr) (n cap : Nat) (ss : List (Int × List Int)) (m : Int) (w : World) (hm0 : 0 ≤ m) (hm : m ≤ 1048577) (hbd : n + lenSum ss ≤ 1048576) (hs : Sls w a n (mkS m ss)) :
    Calls Try.prog 111 #[.slice a n cap, .int .i64 m] w fun e w' => e = .returned (.int .i64 (m + n + lenSum ss)) ∧ Below w.heap.size w w' := by
  obtain ⟨hlen, hs⟩ := hs
  rw [length_mkS] at hlen
  go_enter Try.func111, Try.ntmps111
  go_wp2
  go_loopw [1, 5] (fun q i wr => ∃ k : Nat, k ≤ n ∧ q = .int .i64 (mkC m ss k) ∧ i = .int .i64 k ∧ Below w.heap.size w wr) (fun _ i _ => n - (intOf i).toNat)
  case atStart => exact ⟨0, Nat.zero_le _, by simp [mkC, lenSum], rfl, Below.refl _ _⟩
  case round =>
    obtain ⟨k, hk, rfl, rfl, hbel⟩ := hrel
    by_cases hlt : k < n
    · obtain ⟨b, off, rfl, hb, hc⟩ := hs (by omega)
      obtain ⟨hc0, la, ll, lc, hc1, hll, hsl⟩ := hc k hlt
      have kc := mkC_le m ss k
      have kg := mkC_ge m ss k
      have hgl := gl_le ss k (by omega)
      have hzl : (gl (mkS m ss) k).length = ll := hsl.1
      rw [gl_mkS m ss k (by omega), length_mkL] at hzl
      rw [gl_mkS m ss k (by omega)] at hsl
      rw [gc_mkS m ss k (by omega)] at hc0
      unfold mkL at hsl
      rw [hzl] at hsl
      have hck0 := (hbel.cell (p := ⟨b, off + k * 2, none⟩) hb).trans hc0
      have hck1 := (hbel.cell (p := ⟨b, off + k * 2 + 1, none⟩) hb).trans hc1
      have hsr := hsl.below hbel (Nat.le_refl _)
      have Hst := hide (mkC_succ m ss k (by omega))
      have hneg : ¬ (mkC m ss k + 1 + (ll : Int) < 0) := by omega
      clear hc hc0 hc1
      go_wp2_with fail
      refine (heldInt64S_calls la ll lc _ _ (by omega) (by omega) (by omega) hsr).mono ?_
      rintro e w1 ⟨rfl, g1⟩
      go_wp2
      go_roundw
      case rel => exact ⟨k + 1, by omega, by rw [Hst.out, hzl], by go_num, hbel.trans (g1.mono hbel.size)⟩
      case measure => simp [intOf]; omega
    · have e : k = n := by omega
      subst e
      have HE : Hid (mkC m ss k = m + k + lenSum ss) := by show _ = _; rw [← hlen]; exact mkC_all m ss
      go_wp2
      go_ret
      exact ⟨ret_int HE.out, hbel⟩

set_option maxRecDepth 100000 in
theorem heldRegistry_calls (a : Option Addr) (n cap : Nat) (ss : List (Int × List Int)) (m : Int) (w : World) (hm0 : 0 ≤ m) (hm : m ≤ 1048577) (hbd : n + lenSum ss ≤ 1048576) (hs : Sls w a n (mkS m ss)) :
    Calls Try.prog 89 #[.agg #[.slice a n cap], .int .i64 m] w fun e w' => e = .returned (.int .i64 (m + n + lenSum ss)) ∧ Below w.heap.size w w' := by
  have hp : ¬ (m + n + (lenSum ss : Int) < 0) := by omega
  go_enter Try.func89, Try.ntmps89
  go_wp2_with fail
  refine (heldSlotS_calls a n cap ss m _ hm0 hm hbd (hs.below ((Below.refl _ _).alloc (Nat.le_refl _) _) (Nat.le_refl _))).mono ?_
  rintro e w1 ⟨rfl, hb⟩
  go_wp2
  go_ret
  exact ⟨rfl, ((Below.refl _ _).alloc (Nat.le_refl _) _).trans (hb.mono (by simp))⟩

set_option maxRecDepth 100000 in
theorem eqTR_O (c v : Int) (ss : List (Int × List Int)) (ts ds : List Int) {S S' : Nat → Prop} {a b ta tb da db : Option Addr} {n m tn tm dn dm ca cb tca tcb dca dcb : Nat} {w : World} (hx : OT S a n ss ta tn ts da dn ds w) (hy : OT S' b m ss tb tm ts db dm ds w) :
    Calls Try.prog 11 #[.agg #[.int .i64 c, .int .i64 v, .slice a n ca, .slice ta tn tca, .slice da dn dca], .agg #[.int .i64 c, .int .i64 v, .slice b m cb, .slice tb tm tcb, .slice db dm dcb]] w fun e w' => e = .returned (.bool true) ∧ Below w.heap.size w w' := by
  have r1 := hx.rt
  have r2 := hy.rt
  obtain rfl : m = n := by have := r1.2.1.1; have := r2.2.1.1; omega
  obtain rfl : tm = tn := by have := r1.2.2.2.1.1; have := r2.2.2.2.1.1; omega
  obtain rfl : dm = dn := by have := r1.2.2.2.2.2.1; have := r2.2.2.2.2.2.1; omega
  have h1 : (c != c) = false := by simp
  have h2 : (v != v) = false := by simp
  have HB := hide fun o1 o2 => ((Below.refl w.heap.size w).alloc (Nat.le_refl _) o1).alloc (by simp) o2
  have HX := hide fun o1 o2 => OT.loc.alloc (OT.loc.alloc hx o1) o2
  have HY := hide fun o1 o2 => OT.loc.alloc (OT.loc.alloc hy o1) o2
  clear r1 r2
  go_enter Try.func11, Try.ntmps11
  go_wp2_with fail
  refine (eqTables_O _ _ a b _ ca cb ss ta tb _ tca tcb ts da db _ dca dcb ds _ (HX.out _ _) (HY.out _ _)).mono ?_
  rintro e w1 ⟨rfl, hb⟩
  have HE := hide ((HB.out _ _).trans (hb.mono (HB.out _ _).size))
  clear hb
  go_wp2
  go_ret
  exact ⟨rfl, HE.out⟩

set_option maxRecDepth 100000 in
theorem markTR_O (c v : Int) {S : Nat → Prop} {a ta da : Option Addr} {n tn dn ca tca dca : Nat} {ss : List (Int × List Int)} {ts ds : List Int} {w : World} (hs : OT S a n ss ta tn ts da dn ds w) (hlt : ∀ k, S k → k < w.heap.size) :
    Calls Try.prog 16 #[.agg #[.int .i64 c, .int .i64 v, .slice a n ca, .slice ta tn tca, .slice da dn dca], .int .i64 1] w fun e w' => e = .returned (.int .i64 (1 + n + lenSum ss + tn + dn)) ∧
      OT S a n (mkS 1 ss) ta tn (marksFrom (1 + n + lenSum ss) tn) da dn (marksFrom (1 + n + lenSum ss + tn) dn) w' ∧ OutS S w w' := by
  go_enter Try.func16, Try.ntmps16
  go_wp2_with fail
  refine (markTables_O S a n ca ss ta tn tca ts da dn dca ds 1 _ (by omega) (by omega) (OT.loc.below ((Below.refl _ _).alloc (Nat.le_refl _) _) hs) (fun k hk => by have := hlt k hk; simp; omega)).mono ?_
  rintro e w1 ⟨rfl, h1, h2⟩
  go_wp2
  go_ret
  exact ⟨rfl, h1, (OutS.of_below ((Below.refl _ _).alloc (Nat.le_refl _) _)).trans h2⟩

set_option maxRecDepth 100000 in
theorem heldTables_calls (a : Option Addr) (n ca : Nat) (ss : List (Int × List Int)) (ta : Option Addr) (tn tca : Nat) (da : Option Addr) (dn dca : Nat) (w : World) (hbd : n + lenSum ss ≤ 1048576) (htn : tn ≤ 1048576) (hdn : dn ≤ 1048576) (hx : Sls w a n (mkS 1 ss)) (ht : Sl w ta tn (marksFrom (1 + n + lenSum ss) tn)) (hd : Sl w da dn (marksFrom (1 + n + lenSum ss + tn) dn)) :
    Calls Try.prog 50 #[.agg #[.slice a n ca, .slice ta tn tca, .slice da dn dca], .int .i64 1] w fun e w' => e = .returned (.int .i64 (1 + n + lenSum ss + tn + dn)) ∧ Below w.heap.size w w' := by
  have M0 := (Mm.start w).alloc3 (.slice a n ca) (.slice ta tn tca) (.slice da dn dca) 36
  have p1 : ¬ ((1 : Int) + n + lenSum ss < 0) := by omega
  have p2 : ¬ ((1 : Int) + n + lenSum ss + tn < 0) := by omega
  have p3 : ¬ ((1 : Int) + n + lenSum ss + tn + dn < 0) := by omega
  go_enter Try.func50, Try.ntmps50
  go_wp2_with fail
  refine (heldRegistry_calls a n ca ss 1 _ (by omega) (by omega) hbd (hx.below M0.bel (Nat.le_refl _))).mono ?_
  rintro e w1 ⟨rfl, g1⟩
  have M1 := M0.below g1
  have q1 := M1.cell 1 rfl
  clear g1 M0
  go_wp2_with fail
  refine (heldInt64S_calls ta tn tca _ _ (by omega) (by omega) htn (ht.below M1.bel (Nat.le_refl _))).mono ?_
  rintro e w2 ⟨rfl, g2⟩
  have M2 := M1.below g2
  have q2 := M2.cell 2 rfl
  clear g2 M1 q1
  go_wp2_with fail
  refine (heldInt64S_calls da dn dca _ _ (by omega) (by omega) hdn (hd.below M2.bel (Nat.le_refl _))).mono ?_
  rintro e w3 ⟨rfl, g3⟩
  have HB := hide (M2.below g3).bel
  clear g3 M2 q2
  go_wp2
  go_ret
  exact ⟨rfl, HB.out⟩

set_option maxRecDepth 100000 in
theorem heldTR_O (c v : Int) (ss : List (Int × List Int)) {S : Nat → Prop} {a ta da : Option Addr} {n tn dn ca tca dca : Nat} {w : World} (hs : OT S a n (mkS 1 ss) ta tn (marksFrom (1 + n + lenSum ss) tn) da dn (marksFrom (1 + n + lenSum ss + tn) dn) w) :
    Calls Try.prog 17 #[.agg #[.int .i64 c, .int .i64 v, .slice a n ca, .slice ta tn tca, .slice da dn dca], .int .i64 1] w fun e w' => e = .returned (.int .i64 (1 + n + lenSum ss + tn + dn)) ∧ Below w.heap.size w w' := by
  obtain ⟨S1, S2, S3, _, _, _, _, _, _, o1, o2, o3⟩ := hs
  have b1 := o1.2.1
  rw [lenSum_mkS] at b1
  have b2 := o2.2.1
  have b3 := o3.2.1
  have HB := hide fun o => (Below.refl w.heap.size w).alloc (Nat.le_refl _) o
  have x1 := o1.sls
  have x2 := o2.sl
  have x3 := o3.sl
  have p3 : ¬ ((1 : Int) + n + lenSum ss + tn + dn < 0) := by omega
  go_enter Try.func17, Try.ntmps17
  go_wp2_with fail
  refine (heldTables_calls a n ca ss ta tn tca da dn dca _ b1 b2 b3 (x1.below (HB.out _) (Nat.le_refl _)) (x2.below (HB.out _) (Nat.le_refl _)) (x3.below (HB.out _) (Nat.le_refl _))).mono ?_
  rintro e w1 ⟨rfl, hb⟩
  have HE := hide ((HB.out _).trans (hb.mono (by simp)))
  clear hb
  go_wp2
  go_ret
  exact ⟨rfl, HE.out⟩

end Go.Proofs.Ytgkjmeogdomgmaa
