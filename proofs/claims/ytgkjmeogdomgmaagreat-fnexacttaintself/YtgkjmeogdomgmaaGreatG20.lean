import Derived.Test.YtgkjmeogdomgmaaGreatG15
import Derived.Test.YtgkjmeogdomgmaaGreatG9
import Derived.WalkKit
import Derived.ProofKit
import Derived.OpenShut
import Derived.ShutString
import Derived.ChangeOld
import Derived.Below
import Derived.WalkSpells
import Derived.Deep.QuietTactic
import Derived.BigQuiet
import Derived.Deep.RegionWith
import Derived.Deep.WholeRow
import Derived.Deep.DeepCutAuto
import Derived.Deep.RegionHeld2
import Derived.Deep.AppendLies
import Derived.Deep.RegionLaw
namespace Go.Proofs.YtgkjmeogdomgmaaGreat
open Go.ChangeShapes Go.WideShapes Go.ChangeAt Go.RowKit

set_option maxRecDepth 100000 in
theorem markWordS_O (S : Nat → Prop) (a : Option Addr) (n cap : Nat) (ls : List (Int × Int)) (m : Int) (w : World) (hm0 : 0 ≤ m) (hm : m ≤ 4194304) (hs : OWd S a n ls w) :
    Calls Tryz.prog 86 #[.slice a n cap, .int .i64 m] w fun e w' => e = .returned (.int .i64 (m + 2 * n)) ∧ OWd S a n (mkw m n) w' ∧ OutS S w w' := by
  obtain ⟨hlen, hn, hs⟩ := hs
  rcases hs with rfl | ⟨b, rfl, hB, blk⟩
  · go_enter Tryz.func86, Tryz.ntmps86
    go_wp2
    go_loop [1, 5] (fun k i => k = .int .i64 m ∧ i = .int .i64 0) (fun _ _ => 0)
    case atStart => exact ⟨rfl, rfl⟩
    case round =>
      obtain ⟨rfl, rfl⟩ := hrel
      go_wp2
      go_ret
      exact ⟨ret_int (by simp), ⟨length_mkw _ _, by omega, (.inl rfl)⟩, OutS.refl _ _⟩
  · have hr0 := MRow.start (m := m) blk
    rw [length_flw, hlen] at hr0
    clear blk
    go_enter Tryz.func86, Tryz.ntmps86
    go_wp2
    go_loopw [1, 5] (fun q i wr => ∃ k : Nat, k ≤ n ∧ q = .int .i64 (m + 2 * k) ∧ i = .int .i64 k ∧ MRow wr b (n * 2) (k * 2) m ∧ OutS S w wr) (fun _ i _ => n - (intOf i).toNat)
    case atStart => exact ⟨0, Nat.zero_le _, by simp, rfl, hr0, OutS.refl _ _⟩
    case round =>
      clear hr0
      obtain ⟨k, hk, rfl, rfl, hrow, hbut⟩ := hrel
      by_cases hlt : k < n
      · obtain ⟨v0, hv0⟩ := hrow.2.2.1 (k * 2) (by omega)
        obtain ⟨v1, hv1⟩ := hrow.2.2.1 (k * 2 + 1) (by omega)
        have hf0 := hrow.2.2.2 (k * 2)
        have hf1 := hrow.2.2.2 (k * 2 + 1)
        have HR := hide ((hrow.store (by omega)).store (by omega))
        have HO := hide (fun x y => (hbut.setCell (p := ⟨b, k * 2, none⟩) hB x).setCell (p := ⟨b, k * 2 + 1, none⟩) hB y)
        clear hrow hbut
        go_wp2
        go_roundw
        case rel =>
          refine ⟨k + 1, by omega, by go_num, by go_num, ?_, HO.out _ _⟩
          have h := HR.out
          have e0 : m + ((k * 2 : Nat) : Int) = m + 2 * (k : Int) := by omega
          have e1 : m + ((k * 2 + 1 : Nat) : Int) = m + 2 * (k : Int) + 1 := by omega
          rw [e0, e1] at h
          have e3 : (k + 1) * 2 = k * 2 + 1 + 1 := by omega
          rw [e3]
          exact h
        case measure => simp [intOf]; omega
      · have e : k = n := by omega
        subst e
        go_wp2
        go_ret
        exact ⟨rfl, ⟨length_mkw _ _, hn, .inr ⟨b, rfl, hB, hrow.donew⟩⟩, hbut⟩

set_option maxRecDepth 100000 in
theorem markMemory_O (S : Nat → Prop) (a : Option Addr) (n cap : Nat) (ls : List (Int × Int)) (m : Int) (w : World) (hm0 : 0 ≤ m) (hm : m ≤ 4194304) (hs : OWd S a n ls w) :
    Calls Tryz.prog 38 #[.agg #[.slice a n cap], .int .i64 m] w fun e w' => e = .returned (.int .i64 (m + 2 * n)) ∧ OWd S a n (mkw m n) w' ∧ OutS S w w' := by
  go_enter Tryz.func38, Tryz.ntmps38
  go_wp2_with fail
  refine (markWordS_O S a n cap ls m _ hm0 hm (OWd.loc.below ((Below.refl _ _).alloc (Nat.le_refl _) _) hs)).mono ?_
  rintro e w1 ⟨rfl, h1, h2⟩
  go_wp2
  go_ret
  exact ⟨rfl, h1, (OutS.of_below ((Below.refl _ _).alloc (Nat.le_refl _) _)).trans h2⟩

set_option maxRecDepth 100000 in
theorem markGateS_O (S : Nat → Prop) (a : Option Addr) (n cap : Nat) (ls : List (Int × Int)) (m : Int) (w : World) (hm0 : 0 ≤ m) (hm : m ≤ 4194304) (hs : OWd S a n ls w) :
    Calls Tryz.prog 42 #[.slice a n cap, .int .i64 m] w fun e w' => e = .returned (.int .i64 (m + 2 * n)) ∧ OWd S a n (mkw m n) w' ∧ OutS S w w' := by
  obtain ⟨hlen, hn, hs⟩ := hs
  rcases hs with rfl | ⟨b, rfl, hB, blk⟩
  · go_enter Tryz.func42, Tryz.ntmps42
    go_wp2
    go_loop [1, 5] (fun k i => k = .int .i64 m ∧ i = .int .i64 0) (fun _ _ => 0)
    case atStart => exact ⟨rfl, rfl⟩
    case round =>
      obtain ⟨rfl, rfl⟩ := hrel
      go_wp2
      go_ret
      exact ⟨ret_int (by simp), ⟨length_mkw _ _, by omega, (.inl rfl)⟩, OutS.refl _ _⟩
  · have hr0 := MRow.start (m := m) blk
    rw [length_flw, hlen] at hr0
    clear blk
    go_enter Tryz.func42, Tryz.ntmps42
    go_wp2
    go_loopw [1, 5] (fun q i wr => ∃ k : Nat, k ≤ n ∧ q = .int .i64 (m + 2 * k) ∧ i = .int .i64 k ∧ MRow wr b (n * 2) (k * 2) m ∧ OutS S w wr) (fun _ i _ => n - (intOf i).toNat)
    case atStart => exact ⟨0, Nat.zero_le _, by simp, rfl, hr0, OutS.refl _ _⟩
    case round =>
      clear hr0
      obtain ⟨k, hk, rfl, rfl, hrow, hbut⟩ := hrel
      by_cases hlt : k < n
      · obtain ⟨v0, hv0⟩ := hrow.2.2.1 (k * 2) (by omega)
        obtain ⟨v1, hv1⟩ := hrow.2.2.1 (k * 2 + 1) (by omega)
        have hf0 := hrow.2.2.2 (k * 2)
        have hf1 := hrow.2.2.2 (k * 2 + 1)
        have HR := hide ((hrow.store (by omega)).store (by omega))
        have HO := hide (fun x y => (hbut.setCell (p := ⟨b, k * 2, none⟩) hB x).setCell (p := ⟨b, k * 2 + 1, none⟩) hB y)
        clear hrow hbut
        go_wp2
        go_roundw
        case rel =>
          refine ⟨k + 1, by omega, by go_num, by go_num, ?_, HO.out _ _⟩
          have h := HR.out
          have e0 : m + ((k * 2 : Nat) : Int) = m + 2 * (k : Int) := by omega
          have e1 : m + ((k * 2 + 1 : Nat) : Int) = m + 2 * (k : Int) + 1 := by omega
          rw [e0, e1] at h
          have e3 : (k + 1) * 2 = k * 2 + 1 + 1 := by omega
          rw [e3]
          exact h
        case measure => simp [intOf]; omega
      · have e : k = n := by omega
        subst e
        go_wp2
        go_ret
        exact ⟨rfl, ⟨length_mkw _ _, hn, .inr ⟨b, rfl, hB, hrow.donew⟩⟩, hbut⟩

set_option maxRecDepth 100000 in
theorem markLineS_O (S : Nat → Prop) (a : Option Addr) (n cap : Nat) (ls : List (Int × Int × Int)) (m : Int) (w : World) (hm0 : 0 ≤ m) (hm : m ≤ 4194304) (hs : OL S a n ls w) :
    Calls Tryz.prog 87 #[.slice a n cap, .int .i64 m] w fun e w' => e = .returned (.int .i64 (m + 3 * n)) ∧ OL S a n (mk3 m n) w' ∧ OutS S w w' := by
  obtain ⟨hlen, hn, hs⟩ := hs
  rcases hs with rfl | ⟨b, rfl, hB, blk⟩
  · go_enter Tryz.func87, Tryz.ntmps87
    go_wp2
    go_loop [1, 5] (fun k i => k = .int .i64 m ∧ i = .int .i64 0) (fun _ _ => 0)
    case atStart => exact ⟨rfl, rfl⟩
    case round =>
      obtain ⟨rfl, rfl⟩ := hrel
      go_wp2
      go_ret
      exact ⟨ret_int (by simp), ⟨length_mk3 _ _, by omega, (.inl rfl)⟩, OutS.refl _ _⟩
  · have hr0 := MRow.start (m := m) blk
    rw [length_fl3, hlen] at hr0
    clear blk
    go_enter Tryz.func87, Tryz.ntmps87
    go_wp2
    go_loopw [1, 5] (fun q i wr => ∃ k : Nat, k ≤ n ∧ q = .int .i64 (m + 3 * k) ∧ i = .int .i64 k ∧ MRow wr b (n * 3) (k * 3) m ∧ OutS S w wr) (fun _ i _ => n - (intOf i).toNat)
    case atStart => exact ⟨0, Nat.zero_le _, by simp, rfl, hr0, OutS.refl _ _⟩
    case round =>
      clear hr0
      obtain ⟨k, hk, rfl, rfl, hrow, hbut⟩ := hrel
      by_cases hlt : k < n
      · obtain ⟨v0, hv0⟩ := hrow.2.2.1 (k * 3) (by omega)
        obtain ⟨v1, hv1⟩ := hrow.2.2.1 (k * 3 + 1) (by omega)
        obtain ⟨v2, hv2⟩ := hrow.2.2.1 (k * 3 + 2) (by omega)
        have hf0 := hrow.2.2.2 (k * 3)
        have hf1 := hrow.2.2.2 (k * 3 + 1)
        have hf2 := hrow.2.2.2 (k * 3 + 2)
        have HR := hide (((hrow.store (by omega)).store (by omega)).store (by omega))
        have HO := hide (fun x y z => ((hbut.setCell (p := ⟨b, k * 3, none⟩) hB x).setCell (p := ⟨b, k * 3 + 1, none⟩) hB y).setCell (p := ⟨b, k * 3 + 2, none⟩) hB z)
        clear hrow hbut
        go_wp2
        go_roundw
        case rel =>
          refine ⟨k + 1, by omega, by go_num, by go_num, ?_, HO.out _ _ _⟩
          have h := HR.out
          have e0 : m + ((k * 3 : Nat) : Int) = m + 3 * (k : Int) := by omega
          have e1 : m + ((k * 3 + 1 : Nat) : Int) = m + 3 * (k : Int) + 1 := by omega
          have e2 : m + ((k * 3 + 1 + 1 : Nat) : Int) = m + 3 * (k : Int) + 1 + 1 := by omega
          rw [e0, e1, e2] at h
          have e3 : (k + 1) * 3 = k * 3 + 1 + 1 + 1 := by omega
          rw [e3]
          exact h
        case measure => simp [intOf]; omega
      · have e : k = n := by omega
        subst e
        go_wp2
        go_ret
        exact ⟨rfl, ⟨length_mk3 _ _, hn, .inr ⟨b, rfl, hB, hrow.done3⟩⟩, hbut⟩

set_option maxRecDepth 100000 in
theorem markCache_O (S : Nat → Prop) (s : Int) (a : Option Addr) (n cap : Nat) (ls : List (Int × Int × Int)) (m : Int) (w : World) (hm0 : 0 ≤ m) (hm : m ≤ 4194304) (hs : OL S a n ls w) :
    Calls Tryz.prog 40 #[.agg #[.int .i64 s, .slice a n cap], .int .i64 m] w fun e w' => e = .returned (.int .i64 (m + 3 * n)) ∧ OL S a n (mk3 m n) w' ∧ OutS S w w' := by
  go_enter Tryz.func40, Tryz.ntmps40
  go_wp2_with fail
  refine (markLineS_O S a n cap ls m _ hm0 hm (OL.loc.below ((Below.refl _ _).alloc (Nat.le_refl _) _) hs)).mono ?_
  rintro e w1 ⟨rfl, h1, h2⟩
  go_wp2
  go_ret
  exact ⟨rfl, h1, (OutS.of_below ((Below.refl _ _).alloc (Nat.le_refl _) _)).trans h2⟩

/-- the mark at which context j begins, marks from m on. -/
def mxC (m : Int) (cs : List (List Int × Int × Bool)) (j : Nat) : Int := m + 2 * (j : Int) + (lenX (cs.take j) : Int)

def mkX (m : Int) (cs : List (List Int × Int × Bool)) : List (List Int × Int × Bool) := (List.range cs.length).map (fun j => (marksFrom (mxC m cs j) (gx cs j).1.length, mxC m cs j + ((gx cs j).1.length : Int), ((mxC m cs j + ((gx cs j).1.length : Int) + 1) % 3 == 0)))

theorem length_mkX (m : Int) (cs : List (List Int × Int × Bool)) : (mkX m cs).length = cs.length := by simp [mkX]

theorem gx_mkX (m : Int) (cs : List (List Int × Int × Bool)) (j : Nat) (h : j < cs.length) : gx (mkX m cs) j = (marksFrom (mxC m cs j) (gx cs j).1.length, mxC m cs j + ((gx cs j).1.length : Int), ((mxC m cs j + ((gx cs j).1.length : Int) + 1) % 3 == 0)) := by simp [mkX, gx, h]

theorem lenX_mkX (m : Int) (cs : List (List Int × Int × Bool)) : lenX (mkX m cs) = lenX cs :=
  lenX_congr _ _ (length_mkX m cs) (fun j hj => by rw [length_mkX] at hj; rw [gx_mkX m cs j hj]; exact length_marksFrom _ _)

theorem mxC_succ (m : Int) (cs : List (List Int × Int × Bool)) (j : Nat) (h : j < cs.length) : mxC m cs (j + 1) = mxC m cs j + ((gx cs j).1.length : Int) + 2 := by
  unfold mxC
  rw [lenX_take cs j h]
  omega

theorem mxC_le (m : Int) (cs : List (List Int × Int × Bool)) (j : Nat) : mxC m cs j ≤ m + 2 * (j : Int) + (lenX cs : Int) := by
  unfold mxC
  have := lenX_le cs j
  omega

theorem mxC_ge (m : Int) (cs : List (List Int × Int × Bool)) (j : Nat) : m ≤ mxC m cs j := by
  unfold mxC
  omega

theorem mxC_all (m : Int) (cs : List (List Int × Int × Bool)) : mxC m cs cs.length = m + 2 * (cs.length : Int) + (lenX cs : Int) := by
  unfold mxC
  rw [List.take_length]

set_option maxRecDepth 100000 in
set_option maxHeartbeats 1000000 in
theorem markContextS_O (S : Nat → Prop) (a : Option Addr) (n cap : Nat) (cs : List (List Int × Int × Bool)) (m : Int) (w : World) (hm0 : 0 ≤ m) (hm : m + 2 * (n : Int) + (lenX cs : Int) ≤ 4194304) (hs : OX S a n cs w) :
    Calls Tryz.prog 39 #[.slice a n cap, .int .i64 m] w fun e w' => e = .returned (.int .i64 (m + 2 * n + lenX cs)) ∧ OX S a n (mkX m cs) w' ∧ OutS S w w' := by
  obtain ⟨hlen, hbd, hs⟩ := hs
  rcases hs with h0 | ⟨N, la, lc, lb, rfl, hb⟩
  · subst h0
    obtain rfl : cs = [] := List.eq_nil_of_length_eq_zero hlen
    go_enter Tryz.func39, Tryz.ntmps39
    go_wp2
    go_loop [1, 5] (fun k i => k = .int .i64 m ∧ i = .int .i64 0) (fun _ _ => 0)
    case atStart => exact ⟨rfl, rfl⟩
    case round =>
      obtain ⟨rfl, rfl⟩ := hrel
      go_wp2
      go_ret
      exact ⟨ret_int (by simp [lenX]), ⟨rfl, by simp [mkX, lenX], .inl rfl⟩, OutS.refl _ _⟩
  · have hn1 : n ≤ 1048576 := by omega
    go_enter Tryz.func39, Tryz.ntmps39
    go_wp2
    go_loopw [1, 5] (fun q i wr => ∃ k : Nat, k ≤ n ∧ q = .int .i64 (mxC m cs k) ∧ i = .int .i64 k ∧ OXb S N n la lc lb (fun j => if j < k then (gx (mkX m cs) j).1 else (gx cs j).1) (fun j => if j < k then (gx (mkX m cs) j).2.1 else (gx cs j).2.1) (fun j => if j < k then (gx (mkX m cs) j).2.2 else (gx cs j).2.2) wr ∧ OutS S w wr) (fun _ i _ => n - (intOf i).toNat)
    case atStart => exact ⟨0, Nat.zero_le _, by simp [mxC, lenX], rfl, hb.congr (fun i _ => by simp) (fun i _ => by simp) (fun i _ => by simp), OutS.refl _ _⟩
    case round =>
      obtain ⟨k, hk, rfl, rfl, hrow, hbut⟩ := hrel
      by_cases hlt : k < n
      · have kc := mxC_le m cs k
        have kg := mxC_ge m cs k
        have hl1 := gx_le cs k (by omega)
        have hS := hrow.hS
        have hv0 := hrow.c0 k hlt
        have hos := hrow.os k hlt
        rw [if_neg (by omega)] at hv0 hos
        have HRW := hide hrow
        have HBT := hide hbut
        have Hst := hide (mxC_succ m cs k (by omega))
        have hgk := gx_mkX m cs k (by omega)
        have HGK := hide hgk
        have HOS := hide hos
        clear hrow hbut hgk hos
        go_wp2_with fail
        refine (markInt64S_O _ (la k) _ (lc k) (gx cs k).1 _ _ (by omega) (by omega) HOS.out).mono ?_
        rintro e w1 ⟨rfl, hs1, ho1⟩
        have R1 := HRW.out.setRegs hlt (zs := marksFrom (mxC m cs k) (gx cs k).1.length) (by rw [if_neg (by omega)]; simp [length_marksFrom]) (by rw [if_neg (by omega)]; exact ho1) (by rw [if_neg (by omega)]; exact hs1)
        have O1 := HBT.out.trans (ho1.mono (fun j hj => hj.1 ▸ HRW.out.lS k hlt (by rw [if_neg (by omega)]; exact hj.2)))
        have hv1 := R1.c1 k hlt
        have hf1 := R1.fz (k * 3 + 1)
        have R2 := R1.setPc hlt (mxC m cs k + ((gx cs k).1.length : Int))
        have O2 := O1.setCell (p := ⟨N, k * 3 + 1, none⟩) hS (.int .i64 (mxC m cs k + ((gx cs k).1.length : Int)))
        have hv2 := R2.c2 k hlt
        have hf2 := R2.fz (k * 3 + 2)
        have R3 := R2.setHalt hlt ((mxC m cs k + ((gx cs k).1.length : Int) + 1) % 3 == 0)
        have O3 := O2.setCell (p := ⟨N, k * 3 + 2, none⟩) hS (.bool ((mxC m cs k + ((gx cs k).1.length : Int) + 1) % 3 == 0))
        have HR3 := hide R3
        have HO3 := hide O3
        have hw2 := World.cell?_setCell_other w1 ⟨N, k * 3 + 1, none⟩ ⟨N, k * 3 + 2, none⟩ (.int .i64 (mxC m cs k + ((gx cs k).1.length : Int))) (fun h => by injection h with _ h2; omega)
        rw [hw2] at hv2
        simp only [World.frozen?_setCell] at hf2
        have m1 : 0 ≤ mxC m cs k + ((gx cs k).1.length : Int) + 1 := by omega
        have m2 : mxC m cs k + ((gx cs k).1.length : Int) + 1 ≤ 8388608 := by omega
        clear R1 R2 R3 O1 O2 O3 hs1 ho1 HRW HBT HOS hw2
        go_wp2
        go_roundw
        case rel =>
          refine ⟨k + 1, by omega, by rw [Hst.out]; go_num, by go_num, HR3.out.congr (fun i hi => ?_) (fun i hi => ?_) (fun i hi => ?_), HO3.out⟩
          all_goals
            by_cases e : i = k
            · subst e; simp [HGK.out]
            · by_cases e2 : i < k
              · rw [if_neg e, if_pos e2, if_pos (by omega)]
              · rw [if_neg e, if_neg e2, if_neg (by omega)]
        case measure => simp [intOf]; omega
      · have e : k = n := by omega
        subst e
        have HE : Hid (mxC m cs k = m + 2 * k + lenX cs) := by show _ = _; rw [← hlen]; exact mxC_all m cs
        have HR : Hid (OX S (some ⟨N, 0, none⟩) k (mkX m cs) wr) := ⟨by rw [length_mkX]; exact hlen, by rw [lenX_mkX]; exact hbd, .inr ⟨N, la, lc, lb, rfl, hrow.congr (fun i hi => by rw [if_pos hi]) (fun i hi => by rw [if_pos hi]) (fun i hi => by rw [if_pos hi])⟩⟩
        have HO := hide hbut
        clear hrow hbut
        go_wp2
        go_ret
        exact ⟨ret_int HE.out, HR.out, HO.out⟩

/-- how many marks a system takes. -/
def mkY (A : SA) (D : SD) : Nat := A.n + lenSum D.ss + A.tn + A.dn + 2 * A.wn + (2 * A.xn + lenX D.cs) + 3 * A.ln + A.on + 2 * A.gn

/-- a system whose numbers are marks from 1 on. -/
def mkD (A : SA) (D : SD) : SD where
  ss := mkS 1 D.ss
  ts := marksFrom (1 + A.n + lenSum D.ss) A.tn
  ds := marksFrom (1 + A.n + lenSum D.ss + A.tn) A.dn
  ws := mkw (1 + A.n + lenSum D.ss + A.tn + A.dn) A.wn
  cs := mkX (1 + A.n + lenSum D.ss + A.tn + A.dn + 2 * A.wn) D.cs
  ac := D.ac
  cz := D.cz
  ls := mk3 (1 + A.n + lenSum D.ss + A.tn + A.dn + 2 * A.wn + 2 * A.xn + lenX D.cs) A.ln
  dv := D.dv
  os := marksFrom (1 + A.n + lenSum D.ss + A.tn + A.dn + 2 * A.wn + 2 * A.xn + lenX D.cs + 3 * A.ln) A.on
  gs := mkw (1 + A.n + lenSum D.ss + A.tn + A.dn + 2 * A.wn + 2 * A.xn + lenX D.cs + 3 * A.ln + A.on) A.gn

set_option maxRecDepth 100000 in
set_option maxHeartbeats 2000000 in
theorem markSystem_O (S : Nat → Prop) (A : SA) (D : SD) (w : World) (hs : OY S A D w) (hlt : ∀ k, S k → k < w.heap.size) :
    Calls Tryz.prog 10 #[.agg #[.slice A.a A.n A.c, .slice A.ta A.tn A.tc, .slice A.da A.dn A.dc, .slice A.wa A.wn A.wc, .slice A.xa A.xn A.xc, .int .i64 D.ac, .int .i64 D.cz, .slice A.la A.ln A.lc, .int .i64 D.dv, .slice A.oa A.on A.oc, .slice A.ga A.gn A.gc], .int .i64 1] w fun e w' => e = .returned (.int .i64 (1 + (mkY A D : Int))) ∧ OY S A (mkD A D) w' ∧ OutS S w w' := by
  obtain ⟨Q, hQ, hd, hz, hk, hb⟩ := hs
  have hzz := hz
  unfold szY at hzz
  have nS : ∀ i, ¬ Q i w.heap.size := fun i h => Nat.lt_irrefl _ (hlt _ (hQ i _ h))
  have al := (Below.refl w.heap.size w).alloc (Nat.le_refl _) (.cells #[.slice A.a A.n A.c, .slice A.ta A.tn A.tc, .slice A.da A.dn A.dc, .slice A.wa A.wn A.wc, .slice A.xa A.xn A.xc, .int .i64 D.ac, .int .i64 D.cz, .slice A.la A.ln A.lc, .int .i64 D.dv, .slice A.oa A.on A.oc, .slice A.ga A.gn A.gc] 53)
  have c0 := Cs.alloc w [.slice A.a A.n A.c, .slice A.ta A.tn A.tc, .slice A.da A.dn A.dc, .slice A.wa A.wn A.wc, .slice A.xa A.xn A.xc, .int .i64 D.ac, .int .i64 D.cz, .slice A.la A.ln A.lc, .int .i64 D.dv, .slice A.oa A.on A.oc, .slice A.ga A.gn A.gc] 53
  have b0 : OYb Q A D (w.alloc (.cells #[.slice A.a A.n A.c, .slice A.ta A.tn A.tc, .slice A.da A.dn A.dc, .slice A.wa A.wn A.wc, .slice A.xa A.xn A.xc, .int .i64 D.ac, .int .i64 D.cz, .slice A.la A.ln A.lc, .int .i64 D.dv, .slice A.oa A.on A.oc, .slice A.ga A.gn A.gc] 53)) := OYb.loc hQ _ _ (fun k _ hl => al.block k hl) hb
  have HO0 : Hid (OutS S w (w.alloc (.cells #[.slice A.a A.n A.c, .slice A.ta A.tn A.tc, .slice A.da A.dn A.dc, .slice A.wa A.wn A.wc, .slice A.xa A.xn A.xc, .int .i64 D.ac, .int .i64 D.cz, .slice A.la A.ln A.lc, .int .i64 D.dv, .slice A.oa A.on A.oc, .slice A.ga A.gn A.gc] 53))) := OutS.of_below al
  clear hb al
  go_enter Tryz.func10, Tryz.ntmps10
  go_wp2_with fail
  refine (markTables_O (Q 0) A.a A.n A.c D.ss A.ta A.tn A.tc D.ts A.da A.dn A.dc D.ds 1 _ (by omega) (by omega) b0.t (fun k h => by have := hlt k (hQ 0 k h); simp; omega)).mono ?_
  rintro e w1 ⟨rfl, r0, h0⟩
  have c1 := Cs.loc.out h0 (fun j h1 h2 => by have := h1.1; have := h1.2; exact nS 0 (by rw [show w.heap.size = j by omega]; exact h2)) c0
  have f1_0 := OWd.loc.out h0 (fun j h1 h2 => hd 1 0 j (by omega) h1 h2) (b0.m)
  have f2_0 := OX.loc.out h0 (fun j h1 h2 => hd 2 0 j (by omega) h1 h2) (b0.x)
  have f3_0 := OL.loc.out h0 (fun j h1 h2 => hd 3 0 j (by omega) h1 h2) (b0.l)
  have f4_0 := OS.loc.out h0 (fun j h1 h2 => hd 4 0 j (by omega) h1 h2) (b0.o)
  have f5_0 := OWd.loc.out h0 (fun j h1 h2 => hd 5 0 j (by omega) h1 h2) (b0.g)
  have HO1 := hide (HO0.out.trans (h0.mono (hQ 0)))
  clear h0 c0
  have q1_3 := c1.cell 3 rfl
  go_wp2_with fail
  refine (markMemory_O (Q 1) A.wa A.wn A.wc D.ws _ _ (by omega) (by omega) f1_0).mono ?_
  rintro e w2 ⟨rfl, r1, h1⟩
  have c2 := Cs.loc.out h1 (fun j h1 h2 => by have := h1.1; have := h1.2; exact nS 1 (by rw [show w.heap.size = j by omega]; exact h2)) c1
  have f0_1 := OT.loc.out h1 (fun j h1 h2 => hd 0 1 j (by omega) h1 h2) (r0)
  have f2_1 := OX.loc.out h1 (fun j h1 h2 => hd 2 1 j (by omega) h1 h2) (f2_0)
  have f3_1 := OL.loc.out h1 (fun j h1 h2 => hd 3 1 j (by omega) h1 h2) (f3_0)
  have f4_1 := OS.loc.out h1 (fun j h1 h2 => hd 4 1 j (by omega) h1 h2) (f4_0)
  have f5_1 := OWd.loc.out h1 (fun j h1 h2 => hd 5 1 j (by omega) h1 h2) (f5_0)
  have HO2 := hide (HO1.out.trans (h1.mono (hQ 1)))
  clear h1 c1 q1_3
  have q2_4 := c2.cell 4 rfl
  go_wp2_with fail
  refine (markContextS_O (Q 2) A.xa A.xn A.xc D.cs _ _ (by omega) (by omega) f2_1).mono ?_
  rintro e w3 ⟨rfl, r2, h2⟩
  have c3 := Cs.loc.out h2 (fun j h1 h2 => by have := h1.1; have := h1.2; exact nS 2 (by rw [show w.heap.size = j by omega]; exact h2)) c2
  have f0_2 := OT.loc.out h2 (fun j h1 h2 => hd 0 2 j (by omega) h1 h2) (f0_1)
  have f1_2 := OWd.loc.out h2 (fun j h1 h2 => hd 1 2 j (by omega) h1 h2) (r1)
  have f3_2 := OL.loc.out h2 (fun j h1 h2 => hd 3 2 j (by omega) h1 h2) (f3_1)
  have f4_2 := OS.loc.out h2 (fun j h1 h2 => hd 4 2 j (by omega) h1 h2) (f4_1)
  have f5_2 := OWd.loc.out h2 (fun j h1 h2 => hd 5 2 j (by omega) h1 h2) (f5_1)
  have HO3 := hide (HO2.out.trans (h2.mono (hQ 2)))
  clear h2 c2 q2_4
  have q3_6 := c3.cell 6 rfl
  have q3_7 := c3.cell 7 rfl
  go_wp2_with fail
  refine (markCache_O (Q 3) D.cz A.la A.ln A.lc D.ls _ _ (by omega) (by omega) f3_2).mono ?_
  rintro e w4 ⟨rfl, r3, h3⟩
  have c4 := Cs.loc.out h3 (fun j h1 h2 => by have := h1.1; have := h1.2; exact nS 3 (by rw [show w.heap.size = j by omega]; exact h2)) c3
  have f0_3 := OT.loc.out h3 (fun j h1 h2 => hd 0 3 j (by omega) h1 h2) (f0_2)
  have f1_3 := OWd.loc.out h3 (fun j h1 h2 => hd 1 3 j (by omega) h1 h2) (f1_2)
  have f2_3 := OX.loc.out h3 (fun j h1 h2 => hd 2 3 j (by omega) h1 h2) (r2)
  have f4_3 := OS.loc.out h3 (fun j h1 h2 => hd 4 3 j (by omega) h1 h2) (f4_2)
  have f5_3 := OWd.loc.out h3 (fun j h1 h2 => hd 5 3 j (by omega) h1 h2) (f5_2)
  have HO4 := hide (HO3.out.trans (h3.mono (hQ 3)))
  clear h3 c3 q3_6 q3_7
  have q4_9 := c4.cell 9 rfl
  go_wp2_with fail
  refine (markInt64S_O (Q 4) A.oa A.on A.oc D.os _ _ (by omega) (by omega) f4_3).mono ?_
  rintro e w5 ⟨rfl, r4, h4⟩
  have c5 := Cs.loc.out h4 (fun j h1 h2 => by have := h1.1; have := h1.2; exact nS 4 (by rw [show w.heap.size = j by omega]; exact h2)) c4
  have f0_4 := OT.loc.out h4 (fun j h1 h2 => hd 0 4 j (by omega) h1 h2) (f0_3)
  have f1_4 := OWd.loc.out h4 (fun j h1 h2 => hd 1 4 j (by omega) h1 h2) (f1_3)
  have f2_4 := OX.loc.out h4 (fun j h1 h2 => hd 2 4 j (by omega) h1 h2) (f2_3)
  have f3_4 := OL.loc.out h4 (fun j h1 h2 => hd 3 4 j (by omega) h1 h2) (r3)
  have f5_4 := OWd.loc.out h4 (fun j h1 h2 => hd 5 4 j (by omega) h1 h2) (f5_3)
  have HO5 := hide (HO4.out.trans (h4.mono (hQ 4)))
  clear h4 c4 q4_9
  have q5_10 := c5.cell 10 rfl
  go_wp2_with fail
  refine (markGateS_O (Q 5) A.ga A.gn A.gc D.gs _ _ (by omega) (by omega) f5_4).mono ?_
  rintro e w6 ⟨rfl, r5, h5⟩
  have c6 := Cs.loc.out h5 (fun j h1 h2 => by have := h1.1; have := h1.2; exact nS 5 (by rw [show w.heap.size = j by omega]; exact h2)) c5
  have f0_5 := OT.loc.out h5 (fun j h1 h2 => hd 0 5 j (by omega) h1 h2) (f0_4)
  have f1_5 := OWd.loc.out h5 (fun j h1 h2 => hd 1 5 j (by omega) h1 h2) (f1_4)
  have f2_5 := OX.loc.out h5 (fun j h1 h2 => hd 2 5 j (by omega) h1 h2) (f2_4)
  have f3_5 := OL.loc.out h5 (fun j h1 h2 => hd 3 5 j (by omega) h1 h2) (f3_4)
  have f4_5 := OS.loc.out h5 (fun j h1 h2 => hd 4 5 j (by omega) h1 h2) (r4)
  have HO6 := hide (HO5.out.trans (h5.mono (hQ 5)))
  clear h5 c5 q5_10
  have HR : Hid (OY S A (mkD A D) w6) := ⟨Q, hQ, hd, by
      have : szY A (mkD A D) = szY A D := by unfold szY mkD; dsimp only; rw [lenSum_mkS, lenX_mkX]
      rw [this]; exact hz, hk, ⟨f0_5, f1_5, f2_5, f3_5, f4_5, r5⟩⟩
  have HE : Hid ((1 : Int) + (mkY A D : Int) = 1 + A.n + lenSum D.ss + A.tn + A.dn + 2 * A.wn + 2 * A.xn + lenX D.cs + 3 * A.ln + A.on + 2 * A.gn) := by show _ = _; unfold mkY; omega
  clear f0_5 f1_5 f2_5 f3_5 f4_5 r5 c6
  go_wp2
  go_ret
  exact ⟨ret_int HE.out.symm, HR.out, HO6.out⟩

end Go.Proofs.YtgkjmeogdomgmaaGreat
