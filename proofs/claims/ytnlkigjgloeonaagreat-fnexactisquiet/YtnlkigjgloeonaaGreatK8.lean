import Derived.Test.YtnlkigjgloeonaaGreatPermI
import Derived.Test.YtnlkigjgloeonaaGreatK7
import Derived.Test.YtnlkigjgloeonaaGreatSpec3
import Derived.WalkKit
import Derived.ProofKit
import Derived.OpenShut
import Derived.ShutString
import Derived.ChangeOld
import Derived.Below
import Derived.WalkSpells
import Derived.Deep.QuietTactic
import Derived.BigQuiet
import Derived.Deep.RegionWith
import Derived.Deep.WholeRow
import Derived.Deep.DeepCutAuto
import Derived.Deep.RegionHeld2
import Derived.Deep.AppendLies
import Derived.Deep.RegionLaw
namespace Go.Proofs.YtnlkigjgloeonaaGreat
open Go.ChangeShapes Go.WideShapes Go.ChangeAt Go.RowKit

def permV (who what : List Int) : Int := if modB who what = true then 7 else if obsB who what = true then 5 else 0

def pmC (ss : List (Int × List Int)) (ts ds : List Int) (d t : Int) : Int := if tabF ss ts ds = 0 then (if inC ds d = 0 then (if t = 0 then 0 else inC ts (t - 1)) else 4) else tabF ss ts ds

def pmV (ss : List (Int × List Int)) (ts ds : List Int) (d t : Int) : Int := if pmC ss ts ds d t = 0 then (if t = 0 then 0 else permV (inL ss ds d) (inL ss ts (t - 1))) else 0

theorem atL_right {ss : List (Int × List Int)} (good : Good ss) {l : List Int} (h : allS ss l = true) {j : Nat} (hj : j < l.length) : fault (atL ss (gt l j)) = 0 := by
  obtain ⟨q, _, hl, hp, e⟩ := allS_at good h hj
  rw [e]
  exact good.right q hl hp

theorem perm_right {xs ys : List Int} (hx : fault xs = 0) (hy : fault ys = 0) : obsB xs ys = (thing0 ys && belowB ys (highL xs)) ∧ modB xs ys = ((thing0 ys && belowB ys (highL xs)) && belowB xs ys) := by
  unfold obsB modB
  rw [hx, hy]
  simp

set_option maxRecDepth 100000 in
theorem permBetween_calls (a b : Option Addr) (la ca lb cb : Nat) (xs ys : List Int) (w : World) (hla : la ≤ maxLen) (hlb : lb ≤ maxLen) (hx : Sl w a la xs) (hy : Sl w b lb ys) :
    Calls Tryz.prog 148 #[.agg #[.slice a la ca], .agg #[.slice b lb cb]] w fun e w' => e = .returned (.int .i64 (permV xs ys)) ∧ Below w.heap.size w w' := by
  have M0 := ((Mm.start w).alloc1 (.slice a la ca) 64).alloc1 (.slice b lb cb) 64
  simp only [World.size_alloc] at M0
  cases hm : modB xs ys with
  | true =>
    have HV : Hid (permV xs ys = 7) := if_pos hm
    go_enter Tryz.func148, Tryz.ntmps148
    go_wp2_with fail
    refine (implCanModify_calls a b la ca lb cb xs ys _ hla hlb (hx.below M0.bel (Nat.le_refl _)) (hy.below M0.bel (Nat.le_refl _))).mono ?_
    rintro e w1 ⟨rfl, g1⟩
    rw [hm]
    have HE := hide (M0.below g1).bel
    clear g1 M0 hm
    go_wp2
    go_ret
    exact ⟨ret_int HV.out.symm, HE.out⟩
  | false =>
    cases ho : obsB xs ys with
    | true =>
      have HV : Hid (permV xs ys = 5) := by show _ = _; unfold permV; rw [hm, ho]; rfl
      go_enter Tryz.func148, Tryz.ntmps148
      go_wp2_with fail
      refine (implCanModify_calls a b la ca lb cb xs ys _ hla hlb (hx.below M0.bel (Nat.le_refl _)) (hy.below M0.bel (Nat.le_refl _))).mono ?_
      rintro e w1 ⟨rfl, g1⟩
      rw [hm]
      have M1 := M0.below g1
      have p1 := M1.cell 1 rfl
      have q1 := M1.cell 0 rfl
      clear g1 M0 hm
      go_wp2_with fail
      refine (implCanObserve_calls a b la ca lb cb xs ys _ hla hlb (hx.below M1.bel (Nat.le_refl _)) (hy.below M1.bel (Nat.le_refl _))).mono ?_
      rintro e w2 ⟨rfl, g2⟩
      rw [ho]
      have HE := hide (M1.below g2).bel
      clear g2 M1 ho p1 q1
      go_wp2
      go_ret
      exact ⟨ret_int HV.out.symm, HE.out⟩
    | false =>
      have HV : Hid (permV xs ys = 0) := by show _ = _; unfold permV; rw [hm, ho]; rfl
      go_enter Tryz.func148, Tryz.ntmps148
      go_wp2_with fail
      refine (implCanModify_calls a b la ca lb cb xs ys _ hla hlb (hx.below M0.bel (Nat.le_refl _)) (hy.below M0.bel (Nat.le_refl _))).mono ?_
      rintro e w1 ⟨rfl, g1⟩
      rw [hm]
      have M1 := M0.below g1
      have p1 := M1.cell 1 rfl
      have q1 := M1.cell 0 rfl
      clear g1 M0 hm
      go_wp2_with fail
      refine (implCanObserve_calls a b la ca lb cb xs ys _ hla hlb (hx.below M1.bel (Nat.le_refl _)) (hy.below M1.bel (Nat.le_refl _))).mono ?_
      rintro e w2 ⟨rfl, g2⟩
      rw [ho]
      have HE := hide (M1.below g2).bel
      clear g2 M1 ho p1 q1
      go_wp2
      go_ret
      exact ⟨ret_int HV.out.symm, HE.out⟩

set_option maxRecDepth 100000 in
theorem l1HighO_calls (p o : Nat) (a : Option Addr) (cap : Nat) (zs : List Int) (w : World) (hp : p < w.heap.size) (hpc : w.cell? ⟨p, o, none⟩ = some (.slice a 4 cap)) (hs : Sl w a 4 zs) :
    Calls Tryz.prog 160 #[.pointer (some ⟨p, o, none⟩)] w fun e w' => ∃ b c, e = .returned (.agg #[.slice (some ⟨b, 0, none⟩) 4 c]) ∧ w.heap.size ≤ b ∧ Blk w' b (highL zs) ∧ Below w.heap.size w w' := by
  obtain ⟨hlen, hs⟩ := hs
  obtain ⟨b, off, rfl, hb, hc⟩ := hs (by omega)
  obtain ⟨i0, hi, hz0, hz1, hz2⟩ := info_parts info2
  have hb0 := fun o1 o2 => ((Below.refl w.heap.size w).alloc (Nat.le_refl _) o1).alloc (by simp) o2
  have hown := World.ownsRow_lit (base := w.heap.size) (e := 2) (size := 1) (w.alloc (.cells #[.slice none 0 0] 64)) #[] 0 (by simp) (Nat.zero_le _) rfl
  have hnews := ints_at_sl (w := (w.alloc (.cells #[.slice none 0 0] 64)).alloc (.cells #[] 2)) (b := b) (off := off) (zs := zs) (fun i hi => ((hb0 _ _).cell (p := ⟨b, off + i, none⟩) hb).trans (hc i (by omega)))
  rw [World.size_alloc] at hown
  have HO := hide hown
  have HN := hide hnews
  clear hown hnews hs hc
  go_enter Tryz.func160, Tryz.ntmps160
  go_wp2_with (first
    | (at_builtin; refine wpList_append_own _ rfl _ _ 25 rfl w.heap.size 2 i0 (.int .i64 0) 1 8 Tryz.underlying25 hi hz0 hz1 hz2 rfl (by decide) _ 0 [] rfl HO.out ⟨b, off, none⟩ 4 cap (zs.map (Value.int .i64)) rfl (by simp [hlen]) HN.out ints_one (by decide) (by decide) (by simp; omega) ?_)
    | go_in)
  intro v' w1 hown' hgrow _
  have hown2 : w1.ownsRow w.heap.size 2 1 v' 4 (zs.map (Value.int .i64)) := hown'
  obtain ⟨g, cap', rfl, hg, hcap, _, blk⟩ := owns_blk (by omega) hown2
  have h1 : Below w.heap.size w w1 := (hb0 _ _).grown hgrow (by simp; omega) (fun k hk => by simp [Value.ownBlock] at hk; omega)
  have hgn : w1.heap.size ≠ g := by have := blk.1; omega
  have hr : w.heap.size ≠ g := by
    intro e
    have h0 := hgrow.block w.heap.size (by simp; omega) (by simp [Value.ownBlock])
    have h3 := blk.2.1 0 (by omega)
    rw [← e] at h3
    have h4 : ((w.alloc (.cells #[.slice none 0 0] 64)).alloc (.cells #[] 2)).cell? ⟨w.heap.size, 0, none⟩ = some (.int .i64 (gt zs 0)) := (World.cell?_of_block (a := ⟨w.heap.size, 0, none⟩) h0).symm.trans h3
    rw [show ((w.alloc (.cells #[.slice none 0 0] 64)).alloc (.cells #[] 2)).cell? ⟨w.heap.size, 0, none⟩ = some (.slice none 0 0) from by go_simp] at h4
    cases h4
  have rc : w1.cell? ⟨w.heap.size, 0, none⟩ = some (.slice none 0 0) := (World.cell?_of_block (a := ⟨w.heap.size, 0, none⟩) (hgrow.block w.heap.size (by simp; omega) (by simp [Value.ownBlock]))).trans (by go_simp)
  have rf : w1.frozen? ⟨w.heap.size, 0, none⟩ = false := (World.frozen?_of_block (a := ⟨w.heap.size, 0, none⟩) (hgrow.block w.heap.size (by simp; omega) (by simp [Value.ownBlock]))).trans (by go_simp)
  have hN1 : w.heap.size < w1.heap.size := by have := hgrow.size; simp at this; omega
  clear HO HN hown' hown2 hgrow hb0
  go_wp2
  go_loopw [4] (fun i wr => ∃ k : Nat, k ≤ 4 ∧ i = .int .i64 k ∧ Below w.heap.size w wr ∧ HRow wr g k zs ∧ wr.cell? ⟨w1.heap.size, 0, none⟩ = some (.slice (some ⟨g, 0, none⟩) 4 cap') ∧ wr.cell? ⟨w.heap.size, 0, none⟩ = some (.slice none 0 0) ∧ wr.frozen? ⟨w.heap.size, 0, none⟩ = false) (fun i _ => 4 - (intOf i).toNat)
  case atStart => exact ⟨0, Nat.zero_le _, rfl, h1.alloc h1.size _, HRow.start (blk.below ((Below.refl _ _).alloc (Nat.le_refl _) _)) hlen, by go_simp, by go_simp, by go_simp⟩
  case round =>
    obtain ⟨k, hk, rfl, hbel, hrow, hq, rc', rf'⟩ := hrel
    by_cases hlt : k < 4
    · have hck := hrow.2.1 k hlt
      rw [if_neg (by omega)] at hck
      have hfk := hrow.2.2 k
      by_cases he : gt zs k = 0
      · have hz : (gt zs k == 0) = true := by simp [he]
        have He := hide he
        have hq2 : (wr.setCell ⟨g, k, none⟩ (.int .i64 5)).cell? ⟨w1.heap.size, 0, none⟩ = some (.slice (some ⟨g, 0, none⟩) 4 cap') := by
          rw [World.cell?_setCell_other _ _ _ _ (fun h => hgn (by injection h with h2; exact h2.symm))]; exact hq
        have rc2 : (wr.setCell ⟨g, k, none⟩ (.int .i64 5)).cell? ⟨w.heap.size, 0, none⟩ = some (.slice none 0 0) := by
          rw [World.cell?_setCell_other _ _ _ _ (fun h => hr (by injection h with h2; exact h2.symm))]; exact rc'
        have Hq2 := hide hq2
        have Rc2 := hide rc2
        clear he hq2 rc2
        go_wp2
        go_roundw
        case rel => exact ⟨k + 1, by omega, by go_num, hbel.setCell hg _, hrow.set hlt He.out, Hq2.out, Rc2.out, by simpa using rf'⟩
        case measure => simp [intOf]; omega
      · have hz : (gt zs k == 0) = false := by simp [he]
        have He := hide he
        clear he
        go_wp2
        go_roundw
        case rel => exact ⟨k + 1, by omega, by go_num, hbel, hrow.keep He.out, hq, rc', rf'⟩
        case measure => simp [intOf]; omega
    · have hk4 : k = 4 := by omega
      subst hk4
      go_wp2
      refine bodyPost_ret (v := .agg #[.slice (some ⟨g, 0, none⟩) 4 cap']) (by simp [results, Tryz.results160, go_sem, rc']) rfl ⟨g, cap', rfl, hg, (hrow.done hlen).setCell (by simpa using hr) _, hbel.setCell (Nat.le_refl _) _⟩


set_option maxRecDepth 100000 in
theorem l1BelowO_calls (p o q r : Nat) (a b : Option Addr) (ca cb : Nat) (xs ys : List Int) (w : World) (hp : p < w.heap.size) (hq : q < w.heap.size)
    (hpc : w.cell? ⟨p, o, none⟩ = some (.slice a 4 ca)) (hqc : w.cell? ⟨q, r, none⟩ = some (.slice b 4 cb)) (hx : Sl w a 4 xs) (hy : Sl w b 4 ys) :
    Calls Tryz.prog 73 #[.pointer (some ⟨p, o, none⟩), .pointer (some ⟨q, r, none⟩)] w fun e w' => e = .returned (.bool (belowB xs ys)) ∧ Below w.heap.size w w' := by
  obtain ⟨hxl, hx⟩ := hx
  obtain ⟨hyl, hy⟩ := hy
  obtain ⟨b1, o1, rfl, hb1, hc1⟩ := hx (by omega)
  obtain ⟨b2, o2, rfl, hb2, hc2⟩ := hy (by omega)
  go_enter Tryz.func73, Tryz.ntmps73
  go_wp2
  go_loopw [5] (fun i wr => ∃ k : Nat, k ≤ 4 ∧ i = .int .i64 k ∧ Below w.heap.size w wr ∧ ∀ j, j < k → gt xs j ≤ gt ys j) (fun i _ => 4 - (intOf i).toNat)
  case atStart => exact ⟨0, Nat.zero_le _, rfl, Below.refl _ _, fun j hj => by omega⟩
  case round =>
    obtain ⟨k, hk, rfl, hbel, hall⟩ := hrel
    have Hall : Hid (∀ j, j < k → gt xs j ≤ gt ys j) := hall
    clear hall
    have hpr := (hbel.cell (p := ⟨p, o, none⟩) hp).trans hpc
    have hqr := (hbel.cell (p := ⟨q, r, none⟩) hq).trans hqc
    by_cases hlt : k < 4
    · have hck1 := (hbel.cell (p := ⟨b1, o1 + k, none⟩) hb1).trans (hc1 k hlt)
      have hck2 := (hbel.cell (p := ⟨b2, o2 + k, none⟩) hb2).trans (hc2 k hlt)
      have hki : (k : Int) < 4 := by omega
      by_cases he : gt ys k < gt xs k
      · go_wp2_with fail
        go_quiet (fail)
        go_wp2
        go_ret
        exact ⟨ret_bool (belowB_no hlt he).symm, bdrewN hbel _⟩
      · have hle : gt xs k ≤ gt ys k := by omega
        go_wp2_with fail
        go_quiet (fail)
        go_wp2
        go_roundw
        case rel => exact ⟨k + 1, by omega, by go_num, bdrewN hbel _, fun j hj => by (by_cases e : j = k); (subst e; exact hle); exact Hall.out j (by omega)⟩
        case measure => simp [intOf]; omega
    · go_wp2
      go_ret
      exact ⟨ret_bool (belowB_yes (fun j hj => Hall.out j (by omega))).symm, hbel⟩


set_option maxRecDepth 100000 in
theorem l1ObserveO_calls (p o q r : Nat) (a b : Option Addr) (ca cb : Nat) (xs ys : List Int) (w : World) (hp : p < w.heap.size) (hq : q < w.heap.size)
    (hpc : w.cell? ⟨p, o, none⟩ = some (.slice a 4 ca)) (hqc : w.cell? ⟨q, r, none⟩ = some (.slice b 4 cb)) (hx : Sl w a 4 xs) (hy : Sl w b 4 ys) :
    Calls Tryz.prog 145 #[.pointer (some ⟨p, o, none⟩), .pointer (some ⟨q, r, none⟩)] w fun e w' => e = .returned (.bool (thing0 ys && belowB ys (highL xs))) ∧ Below w.heap.size w w' := by
  go_enter Tryz.func145, Tryz.ntmps145
  go_wp2_with fail
  refine (l1HighO_calls p o a ca xs _ hp hpc hx).mono ?_
  rintro e w1 ⟨g, c, rfl, hgN, blk, hb1⟩
  have hq1 := (hb1.cell (p := ⟨q, r, none⟩) hq).trans hqc
  have hqs : q < w1.heap.size := by have := hb1.size; omega
  have ha := (Below.refl w1.heap.size w1).alloc (Nat.le_refl _) (.cells #[.slice (some ⟨g, 0, none⟩) 4 c] 64)
  have h1a : Below w.heap.size w (w1.alloc (.cells #[.slice (some ⟨g, 0, none⟩) 4 c] 64)) := hb1.trans (ha.mono hb1.size)
  have hlen : (highL xs).length = 4 := by rw [length_highL]; exact hx.1
  have hsl := hlen ▸ blk.sl
  go_wp2_with fail
  refine (l1ThingO_calls q r b 4 cb ys _ (by unfold maxLen; omega) (by go_simp) (hy.below h1a (Nat.le_refl _))).mono ?_
  rintro e w2 ⟨rfl, hw2⟩
  have hb2 : Below (w1.alloc (.cells #[.slice (some ⟨g, 0, none⟩) 4 c] 64)).heap.size (w1.alloc (.cells #[.slice (some ⟨g, 0, none⟩) 4 c] 64)) w2 := by rw [hw2]; exact Below.refl _ _
  clear hw2
  have h2 : Below w.heap.size w w2 := h1a.trans (hb2.mono (by have := hb1.size; simp; omega))
  have hq2 := (h2.cell (p := ⟨q, r, none⟩) hq).trans hqc
  have hhc : w2.cell? ⟨w1.heap.size, 0, none⟩ = some (.slice (some ⟨g, 0, none⟩) 4 c) := (hb2.cell (p := ⟨w1.heap.size, 0, none⟩) (by simp)).trans (by go_simp)
  have hhs : w1.heap.size < w2.heap.size := by have := hb2.size; simp at this; omega
  have hsl2 := (hsl.below ha (Nat.le_refl _)).below hb2 (Nat.le_refl _)
  cases ht : thing0 ys with
  | true =>
    go_wp2_with fail
    refine (l1BelowO_calls q r w1.heap.size 0 b (some ⟨g, 0, none⟩) cb c ys (highL xs) _ (by omega) hhs hq2 hhc (hy.below h2 (Nat.le_refl _)) hsl2).mono ?_
    rintro e w3 ⟨rfl, hb3⟩
    go_wp2
    go_ret
    exact ⟨ret_bool (by rw [ht]; rfl), h2.trans (hb3.mono h2.size)⟩
  | false =>
    go_wp2
    go_ret
    exact ⟨ret_bool (by rw [ht]; rfl), h2⟩


set_option maxRecDepth 100000 in
theorem l1ModifyO_calls (p o q r : Nat) (a b : Option Addr) (ca cb : Nat) (xs ys : List Int) (w : World) (hp : p < w.heap.size) (hq : q < w.heap.size)
    (hpc : w.cell? ⟨p, o, none⟩ = some (.slice a 4 ca)) (hqc : w.cell? ⟨q, r, none⟩ = some (.slice b 4 cb)) (hx : Sl w a 4 xs) (hy : Sl w b 4 ys) :
    Calls Tryz.prog 146 #[.pointer (some ⟨p, o, none⟩), .pointer (some ⟨q, r, none⟩)] w fun e w' => e = .returned (.bool ((thing0 ys && belowB ys (highL xs)) && belowB xs ys)) ∧ Below w.heap.size w w' := by
  cases ht : (thing0 ys && belowB ys (highL xs)) with
  | true =>
    have Ht := hide ht
    clear ht
    go_enter Tryz.func146, Tryz.ntmps146
    go_wp2_with fail
    refine (l1ObserveO_calls p o q r a b ca cb xs ys _ hp hq hpc hqc hx hy).mono ?_
    rintro e w1 ⟨rfl, hb⟩
    rw [Ht.out]
    have c1 := (hb.cell (p := ⟨p, o, none⟩) hp).trans hpc
    have c2 := (hb.cell (p := ⟨q, r, none⟩) hq).trans hqc
    have hsz := hb.size
    go_wp2_with fail
    refine (l1BelowO_calls p o q r a b ca cb xs ys _ (by omega) (by omega) c1 c2 (hx.below hb (Nat.le_refl _)) (hy.below hb (Nat.le_refl _))).mono ?_
    rintro e w2 ⟨rfl, hb2⟩
    go_wp2
    go_ret
    exact ⟨ret_bool (by simp), hb.trans (hb2.mono hb.size)⟩
  | false =>
    have Ht := hide ht
    clear ht
    go_enter Tryz.func146, Tryz.ntmps146
    go_wp2_with fail
    refine (l1ObserveO_calls p o q r a b ca cb xs ys _ hp hq hpc hqc hx hy).mono ?_
    rintro e w1 ⟨rfl, hb⟩
    rw [Ht.out]
    go_wp2
    go_ret
    exact ⟨rfl, hb⟩

set_option maxRecDepth 100000 in
set_option maxHeartbeats 1000000 in
theorem l3Perm_calls (q : Nat) (a : Option Addr) (n ca : Nat) (ss : List (Int × List Int)) (ta : Option Addr) (tl tc : Nat) (ts : List Int) (da : Option Addr) (dl dc : Nat) (ds : List Int) (i j : Nat) (w : World) (good : Good ss) (htl : tl ≤ 10) (hdl : dl ≤ 10) (hq : q < w.heap.size)
    (hqc : w.cell? ⟨q, 0, none⟩ = some (.slice a n ca)) (hqt : w.cell? ⟨q, 1, none⟩ = some (.slice ta tl tc)) (hqd : w.cell? ⟨q, 2, none⟩ = some (.slice da dl dc)) (hrt : RT w a n ss ta tl ts da dl ds) (h1 : allS ss ts = true) (h2 : allS ss ds = true) (hi : i < dl) (hj : j < tl) :
    Calls Tryz.prog 121 #[.pointer (some ⟨q, 0, none⟩), .int .i64 (i : Int), .int .i64 ((j : Int) + 1)] w fun e w' => e = .returned (.int .i64 (permV (atL ss (gt ds i)) (atL ss (gt ts j)))) ∧ Below w.heap.size w w' := by
  obtain ⟨_, hx, _, ht, _, hd⟩ := hrt
  have fx := atL_right good h2 (j := i) (by have := hd.1; omega)
  have fy := atL_right good h1 (j := j) (by have := ht.1; omega)
  have lx := fault_len fx
  have ly := fault_len fy
  have hp := perm_right fx fy
  have hz : (((j : Int) + 1) == 0) = false := by simp; omega
  have hcore : ∀ w2 : World, Below w.heap.size w w2 → ∀ b o la ll lc b' o' la' ll' lc', b < w2.heap.size → w2.cell? ⟨b, o, none⟩ = some (.slice la ll lc) → Sl w2 la ll (atL ss (gt ds i)) → b' < w2.heap.size → w2.cell? ⟨b', o', none⟩ = some (.slice la' ll' lc') → Sl w2 la' ll' (atL ss (gt ts j)) → ll = 4 ∧ ll' = 4 := fun w2 _ b o la ll lc b' o' la' ll' lc' _ _ s1 _ _ s2 => ⟨by have := s1.1; omega, by have := s2.1; omega⟩
  cases hob : (thing0 (atL ss (gt ts j)) && belowB (atL ss (gt ts j)) (highL (atL ss (gt ds i)))) with
  | true =>
    cases hmo : ((thing0 (atL ss (gt ts j)) && belowB (atL ss (gt ts j)) (highL (atL ss (gt ds i)))) && belowB (atL ss (gt ds i)) (atL ss (gt ts j))) with
    | true =>
      have HV : Hid (permV (atL ss (gt ds i)) (atL ss (gt ts j)) = 7) := by show _ = _; unfold permV; rw [hp.2, hmo]; rfl
      go_enter Tryz.func121, Tryz.ntmps121
      go_wp2_with fail
      refine (l3Domain_calls q a n ca ss da dl dc ds i _ good hdl hqc hqd hx hd h2 hi).mono ?_
      rintro e w1 ⟨b, o, la, ll, lc, rfl, hb, cb, _, sb, g1⟩
      have cq1 := (g1.cell (p := ⟨q, 0, none⟩) hq).trans hqc
      have ct1 := (g1.cell (p := ⟨q, 1, none⟩) hq).trans hqt
      go_wp2_with fail
      refine (l3Tag_calls q a n ca ss ta tl tc ts j _ good htl cq1 ct1 (hx.below g1 (Nat.le_refl _)) (ht.below g1 (Nat.le_refl _)) h1 hj).mono ?_
      rintro e w2 ⟨b', o', la', ll', lc', rfl, hb', cb', _, sb', g2⟩
      have g02 := g1.trans (g2.mono g1.size)
      have cb2 := (g02.cell (p := ⟨b, o, none⟩) hb).trans cb
      have sb2 := sb.below g02 (Nat.le_refl _)
      have cb2' := (g2.cell (p := ⟨b', o', none⟩) hb').trans cb'
      have sb2' := sb'.below g2 (Nat.le_refl _)
      have lb2 : b < w2.heap.size := by have := g02.size; omega
      have lb2' : b' < w2.heap.size := by have := g2.size; omega
      obtain ⟨rfl, rfl⟩ := hcore w2 g02 b o la ll lc b' o' la' ll' lc' lb2 cb2 sb2 lb2' cb2' sb2'
      clear g1 g2 cb cb' sb sb' cq1 ct1
      go_wp2_with fail
      refine (l1ObserveO_calls b o b' o' la la' lc lc' _ _ _ lb2 lb2' cb2 cb2' sb2 sb2').mono ?_
      rintro e w3 ⟨rfl, g3⟩
      rw [hob]
      have g03 := g02.trans (g3.mono g02.size)
      have cb3 := (g3.cell (p := ⟨b, o, none⟩) lb2).trans cb2
      have cb3' := (g3.cell (p := ⟨b', o', none⟩) lb2').trans cb2'
      have sb3 := sb2.below g3 (Nat.le_refl _)
      have sb3' := sb2'.below g3 (Nat.le_refl _)
      have lb3 : b < w3.heap.size := by have := g3.size; omega
      have lb3' : b' < w3.heap.size := by have := g3.size; omega
      clear g3 g02 cb2 cb2' sb2 sb2' lb2 lb2'
      go_wp2_with fail
      refine (l1ModifyO_calls b o b' o' la la' lc lc' _ _ _ lb3 lb3' cb3 cb3' sb3 sb3').mono ?_
      rintro e w4 ⟨rfl, g4⟩
      rw [hmo]
      have HE := hide (g03.trans (g4.mono g03.size))
      clear g4 g03 cb3 cb3' sb3 sb3' lb3 lb3' hcore
      go_wp2
      go_ret
      exact ⟨ret_int HV.out.symm, HE.out⟩
    | false =>
      have HV : Hid (permV (atL ss (gt ds i)) (atL ss (gt ts j)) = 5) := by show _ = _; unfold permV; rw [hp.2, hmo, hp.1, hob]; rfl
      go_enter Tryz.func121, Tryz.ntmps121
      go_wp2_with fail
      refine (l3Domain_calls q a n ca ss da dl dc ds i _ good hdl hqc hqd hx hd h2 hi).mono ?_
      rintro e w1 ⟨b, o, la, ll, lc, rfl, hb, cb, _, sb, g1⟩
      have cq1 := (g1.cell (p := ⟨q, 0, none⟩) hq).trans hqc
      have ct1 := (g1.cell (p := ⟨q, 1, none⟩) hq).trans hqt
      go_wp2_with fail
      refine (l3Tag_calls q a n ca ss ta tl tc ts j _ good htl cq1 ct1 (hx.below g1 (Nat.le_refl _)) (ht.below g1 (Nat.le_refl _)) h1 hj).mono ?_
      rintro e w2 ⟨b', o', la', ll', lc', rfl, hb', cb', _, sb', g2⟩
      have g02 := g1.trans (g2.mono g1.size)
      have cb2 := (g02.cell (p := ⟨b, o, none⟩) hb).trans cb
      have sb2 := sb.below g02 (Nat.le_refl _)
      have cb2' := (g2.cell (p := ⟨b', o', none⟩) hb').trans cb'
      have sb2' := sb'.below g2 (Nat.le_refl _)
      have lb2 : b < w2.heap.size := by have := g02.size; omega
      have lb2' : b' < w2.heap.size := by have := g2.size; omega
      obtain ⟨rfl, rfl⟩ := hcore w2 g02 b o la ll lc b' o' la' ll' lc' lb2 cb2 sb2 lb2' cb2' sb2'
      clear g1 g2 cb cb' sb sb' cq1 ct1
      go_wp2_with fail
      refine (l1ObserveO_calls b o b' o' la la' lc lc' _ _ _ lb2 lb2' cb2 cb2' sb2 sb2').mono ?_
      rintro e w3 ⟨rfl, g3⟩
      rw [hob]
      have g03 := g02.trans (g3.mono g02.size)
      have cb3 := (g3.cell (p := ⟨b, o, none⟩) lb2).trans cb2
      have cb3' := (g3.cell (p := ⟨b', o', none⟩) lb2').trans cb2'
      have sb3 := sb2.below g3 (Nat.le_refl _)
      have sb3' := sb2'.below g3 (Nat.le_refl _)
      have lb3 : b < w3.heap.size := by have := g3.size; omega
      have lb3' : b' < w3.heap.size := by have := g3.size; omega
      clear g3 g02 cb2 cb2' sb2 sb2' lb2 lb2'
      go_wp2_with fail
      refine (l1ModifyO_calls b o b' o' la la' lc lc' _ _ _ lb3 lb3' cb3 cb3' sb3 sb3').mono ?_
      rintro e w4 ⟨rfl, g4⟩
      rw [hmo]
      have HE := hide (g03.trans (g4.mono g03.size))
      clear g4 g03 cb3 cb3' sb3 sb3' lb3 lb3' hcore
      go_wp2
      go_ret
      exact ⟨ret_int HV.out.symm, HE.out⟩
  | false =>
    have hmo : ((thing0 (atL ss (gt ts j)) && belowB (atL ss (gt ts j)) (highL (atL ss (gt ds i)))) && belowB (atL ss (gt ds i)) (atL ss (gt ts j))) = false := by rw [hob]; rfl
    have HV : Hid (permV (atL ss (gt ds i)) (atL ss (gt ts j)) = 0) := by show _ = _; unfold permV; rw [hp.2, hmo, hp.1, hob]; rfl
    go_enter Tryz.func121, Tryz.ntmps121
    go_wp2_with fail
    refine (l3Domain_calls q a n ca ss da dl dc ds i _ good hdl hqc hqd hx hd h2 hi).mono ?_
    rintro e w1 ⟨b, o, la, ll, lc, rfl, hb, cb, _, sb, g1⟩
    have cq1 := (g1.cell (p := ⟨q, 0, none⟩) hq).trans hqc
    have ct1 := (g1.cell (p := ⟨q, 1, none⟩) hq).trans hqt
    go_wp2_with fail
    refine (l3Tag_calls q a n ca ss ta tl tc ts j _ good htl cq1 ct1 (hx.below g1 (Nat.le_refl _)) (ht.below g1 (Nat.le_refl _)) h1 hj).mono ?_
    rintro e w2 ⟨b', o', la', ll', lc', rfl, hb', cb', _, sb', g2⟩
    have g02 := g1.trans (g2.mono g1.size)
    have cb2 := (g02.cell (p := ⟨b, o, none⟩) hb).trans cb
    have sb2 := sb.below g02 (Nat.le_refl _)
    have cb2' := (g2.cell (p := ⟨b', o', none⟩) hb').trans cb'
    have sb2' := sb'.below g2 (Nat.le_refl _)
    have lb2 : b < w2.heap.size := by have := g02.size; omega
    have lb2' : b' < w2.heap.size := by have := g2.size; omega
    obtain ⟨rfl, rfl⟩ := hcore w2 g02 b o la ll lc b' o' la' ll' lc' lb2 cb2 sb2 lb2' cb2' sb2'
    clear g1 g2 cb cb' sb sb' cq1 ct1
    go_wp2_with fail
    refine (l1ObserveO_calls b o b' o' la la' lc lc' _ _ _ lb2 lb2' cb2 cb2' sb2 sb2').mono ?_
    rintro e w3 ⟨rfl, g3⟩
    rw [hob]
    have g03 := g02.trans (g3.mono g02.size)
    have cb3 := (g3.cell (p := ⟨b, o, none⟩) lb2).trans cb2
    have cb3' := (g3.cell (p := ⟨b', o', none⟩) lb2').trans cb2'
    have sb3 := sb2.below g3 (Nat.le_refl _)
    have sb3' := sb2'.below g3 (Nat.le_refl _)
    have lb3 : b < w3.heap.size := by have := g3.size; omega
    have lb3' : b' < w3.heap.size := by have := g3.size; omega
    clear g3 g02 cb2 cb2' sb2 sb2' lb2 lb2'
    go_wp2_with fail
    refine (l1ModifyO_calls b o b' o' la la' lc lc' _ _ _ lb3 lb3' cb3 cb3' sb3 sb3').mono ?_
    rintro e w4 ⟨rfl, g4⟩
    rw [hmo]
    have HE := hide (g03.trans (g4.mono g03.size))
    clear g4 g03 cb3 cb3' sb3 sb3' lb3 lb3' hcore
    go_wp2
    go_ret
    exact ⟨ret_int HV.out.symm, HE.out⟩

theorem pm_bad {ss : List (Int × List Int)} {ts ds : List Int} {d t : Int} (h : tabF ss ts ds ≠ 0) : pmC ss ts ds d t = tabF ss ts ds ∧ pmV ss ts ds d t = 0 := by
  have h1 : pmC ss ts ds d t = tabF ss ts ds := if_neg h
  exact ⟨h1, if_neg (by rw [h1]; exact h)⟩

theorem pm_nodom {ss : List (Int × List Int)} {ts ds : List Int} {d t : Int} (h : tabF ss ts ds = 0) (hd : inC ds d ≠ 0) : pmC ss ts ds d t = 4 ∧ pmV ss ts ds d t = 0 := by
  have h1 : pmC ss ts ds d t = 4 := by unfold pmC; rw [if_pos h, if_neg hd]
  exact ⟨h1, if_neg (by rw [h1]; decide)⟩

theorem pm_own {ss : List (Int × List Int)} {ts ds : List Int} {d : Int} (h : tabF ss ts ds = 0) (hd : inC ds d = 0) : pmC ss ts ds d 0 = 0 ∧ pmV ss ts ds d 0 = 0 := by
  have h1 : pmC ss ts ds d 0 = 0 := by unfold pmC; rw [if_pos h, if_pos hd, if_pos rfl]
  exact ⟨h1, by unfold pmV; rw [if_pos h1, if_pos rfl]⟩

theorem pm_notag {ss : List (Int × List Int)} {ts ds : List Int} {d t : Int} (h : tabF ss ts ds = 0) (hd : inC ds d = 0) (h0 : t ≠ 0) (ht : inC ts (t - 1) = 4) : pmC ss ts ds d t = 4 ∧ pmV ss ts ds d t = 0 := by
  have h1 : pmC ss ts ds d t = 4 := by unfold pmC; rw [if_pos h, if_pos hd, if_neg h0, ht]
  exact ⟨h1, if_neg (by rw [h1]; decide)⟩

theorem pm_yes {ss : List (Int × List Int)} {ts ds : List Int} {d t : Int} (h : tabF ss ts ds = 0) (hd : inC ds d = 0) (h0 : t ≠ 0) (ht : inC ts (t - 1) = 0) : pmC ss ts ds d t = 0 ∧ pmV ss ts ds d t = permV (inL ss ds d) (inL ss ts (t - 1)) := by
  have h1 : pmC ss ts ds d t = 0 := by unfold pmC; rw [if_pos h, if_pos hd, if_neg h0, ht]
  exact ⟨h1, by unfold pmV; rw [if_pos h1, if_neg h0]⟩

set_option maxRecDepth 100000 in
theorem l3Perm0_calls (q : Nat) (d : Int) (w : World) :
    Calls Tryz.prog 121 #[.pointer (some ⟨q, 0, none⟩), .int .i64 d, .int .i64 0] w fun e w' => e = .returned (.int .i64 0) ∧ Below w.heap.size w w' := by
  go_enter Tryz.func121, Tryz.ntmps121
  go_wp2
  go_ret
  exact ⟨rfl, Below.refl _ _⟩

set_option maxRecDepth 100000 in
theorem implPermOf_calls (a : Option Addr) (n c : Nat) (ss : List (Int × List Int)) (ta : Option Addr) (tn tc : Nat) (ts : List Int) (da : Option Addr) (dn dc : Nat) (ds : List Int) (d t : Int) (w : World) (hrt : RT w a n ss ta tn ts da dn ds) :
    Calls Tryz.prog 130 #[.agg #[.slice a n c, .slice ta tn tc, .slice da dn dc], .int .i64 d, .int .i64 t] w fun e w' => e = .returned (.agg #[.int .i64 (pmC ss ts ds d t), .int .i64 (pmV ss ts ds d t)]) ∧ Below w.heap.size w w' := by
  have M0 := ((Mm.start w).alloc3 (.slice a n c) (.slice ta tn tc) (.slice da dn dc) 54).alloc2 (.int .i64 0) (.int .i64 0) 206
  simp only [World.size_alloc] at M0
  have hrt0 := hrt.below M0.bel (Nat.le_refl _)
  have htl := hrt.2.2.2.1.1
  have hdl := hrt.2.2.2.2.2.1
  by_cases hf : tabF ss ts ds = 0
  · have ef : (tabF ss ts ds != 0) = false := by simp [hf]
    obtain ⟨hr, hm, hA1, hA2, _⟩ := tabF_zero hf
    have hml := many_len hm
    have Hf := hide hf
    clear hf hm
    by_cases hd : inC ds d = 0
    · have ed : (inC ds d != 0) = false := by simp [hd]
      have HD := hide hd
      clear hd
      by_cases h0 : t = 0
      · subst h0
        have HP := hide (pm_own Hf.out HD.out)
        have e0 : ((0 : Int) == 0) = true := by simp
        go_enter Tryz.func130, Tryz.ntmps130
        go_wp2_with fail
        refine (openTables_calls a n c ss ta tn tc ts da dn dc ds _ hrt0).mono ?_
        rintro e w1 ⟨sz, mo, xa, xn, xc, ya, yn, yc, rfl, g1, hled⟩
        obtain ⟨rfl, M, X1, X2, X3, rfl, l1, l2, l3, l4, l5, own, ox, oy⟩ := hled Hf.out
        have M1 := (M0.below g1).alloc4 (.int .i64 (ss.length : Int)) (.map (some M)) (.slice xa xn xc) (.slice ya yn yc) 154
        have al := (Below.refl w1.heap.size w1).alloc (Nat.le_refl _) (.cells #[.int .i64 (ss.length : Int), .map (some M), .slice xa xn xc, .slice ya yn yc] 154)
        have hbk : Bk (w1.alloc (.cells #[.int .i64 (ss.length : Int), .map (some M), .slice xa xn xc, .slice ya yn yc] 154)) w1.heap.size M (ss.length : Int) ss.length (bk ss ss.length) := ⟨by simp, by simp, by simp, fun j => by simp, ownsMap_below own al (Nat.le_refl _)⟩
        have ox1 := OS.loc.below al ox
        have oy1 := OS.loc.below al oy
        have hxn := ox.1
        have hyn := oy.1
        clear g1 al ox oy own hled M0 hrt0
        go_wp2_with fail
        refine (domainLabel_calls w1.heap.size M _ ss _ _ _ _ ds d _ hbk (good_of hr) (rep_bk hr) (M1.cell 3 rfl) oy1.sl (by omega) hA2).mono ?_
        rintro e w2 ⟨ra, rn, rc, rfl, os2, g2⟩
        have M2 := (M1.below g2).alloc2 (.int .i64 (inC ds d)) (.slice ra rn rc) 112
        have al2 := (Below.refl w2.heap.size w2).alloc (Nat.le_refl _) (.cells #[.int .i64 (inC ds d), .slice ra rn rc] 112)
        have h12 := g2.trans (al2.mono g2.size)
        have hbk2 := hbk.below h12
        have ox2 := OS.loc.below h12 ox1
        have os2a := OS.loc.below al2 os2
        clear g2 al2 h12 hbk ox1 oy1 M1 os2
        have d0 := M2.cell 0 rfl
        clear hbk2 ox2 os2a
        have r0 := M2.cell 6 rfl
        have r1 := M2.cell 7 rfl
        have f0 := M2.fz 6 rfl
        have f1 := M2.fz 7 rfl
        have HB := hide M2.bel
        clear M2
        go_wp2
        refine bodyPost_ret (v := .agg #[.int .i64 (0), .int .i64 (0)]) (by simp [results, Tryz.results130, go_sem, r0, r1]) rfl ⟨by rw [HP.out.1, HP.out.2], (HB.out.setCell (by simp) _).setCell (by simp) _⟩
      · have e0 : (t == 0) = false := by simp [h0]
        by_cases ht : inC ts (t - 1) = 0
        · have et : (inC ts (t - 1) != 0) = false := by simp [ht]
          have HP := hide (pm_yes Hf.out HD.out h0 ht)
          clear h0 ht
          go_enter Tryz.func130, Tryz.ntmps130
          go_wp2_with fail
          refine (openTables_calls a n c ss ta tn tc ts da dn dc ds _ hrt0).mono ?_
          rintro e w1 ⟨sz, mo, xa, xn, xc, ya, yn, yc, rfl, g1, hled⟩
          obtain ⟨rfl, M, X1, X2, X3, rfl, l1, l2, l3, l4, l5, own, ox, oy⟩ := hled Hf.out
          have M1 := (M0.below g1).alloc4 (.int .i64 (ss.length : Int)) (.map (some M)) (.slice xa xn xc) (.slice ya yn yc) 154
          have al := (Below.refl w1.heap.size w1).alloc (Nat.le_refl _) (.cells #[.int .i64 (ss.length : Int), .map (some M), .slice xa xn xc, .slice ya yn yc] 154)
          have hbk : Bk (w1.alloc (.cells #[.int .i64 (ss.length : Int), .map (some M), .slice xa xn xc, .slice ya yn yc] 154)) w1.heap.size M (ss.length : Int) ss.length (bk ss ss.length) := ⟨by simp, by simp, by simp, fun j => by simp, ownsMap_below own al (Nat.le_refl _)⟩
          have ox1 := OS.loc.below al ox
          have oy1 := OS.loc.below al oy
          have hxn := ox.1
          have hyn := oy.1
          clear g1 al ox oy own hled M0 hrt0
          go_wp2_with fail
          refine (domainLabel_calls w1.heap.size M _ ss _ _ _ _ ds d _ hbk (good_of hr) (rep_bk hr) (M1.cell 3 rfl) oy1.sl (by omega) hA2).mono ?_
          rintro e w2 ⟨ra, rn, rc, rfl, os2, g2⟩
          have M2 := (M1.below g2).alloc2 (.int .i64 (inC ds d)) (.slice ra rn rc) 112
          have al2 := (Below.refl w2.heap.size w2).alloc (Nat.le_refl _) (.cells #[.int .i64 (inC ds d), .slice ra rn rc] 112)
          have h12 := g2.trans (al2.mono g2.size)
          have hbk2 := hbk.below h12
          have ox2 := OS.loc.below h12 ox1
          have os2a := OS.loc.below al2 os2
          clear g2 al2 h12 hbk ox1 oy1 M1 os2
          have d0 := M2.cell 0 rfl
          go_wp2_with fail
          clear d0
          refine (tagLabel_calls w1.heap.size M _ ss _ _ _ _ ts t _ hbk2 (good_of hr) (rep_bk hr) (M2.cell 4 rfl) ox2.sl (by omega) hA1).mono ?_
          rintro e w3 ⟨sa, sn, sc, rfl, os3, g3⟩
          have M3 := (M2.below g3).alloc2 (.int .i64 (inC ts (t - 1))) (.slice sa sn sc) 112
          have al3 := (Below.refl w3.heap.size w3).alloc (Nat.le_refl _) (.cells #[.int .i64 (inC ts (t - 1)), .slice sa sn sc] 112)
          have h23 := g3.trans (al3.mono g3.size)
          have os2b := OS.loc.below h23 os2a
          have os3a := OS.loc.below al3 os3
          clear g3 al3 h23 hbk2 ox2 os2a os3 M2
          have d1 := M3.cell 3 rfl
          have k0 := M3.cell 0 rfl
          have k1 := M3.cell 1 rfl
          go_wp2_with fail
          clear d1 k0 k1
          refine (permBetween_calls ra sa rn rc sn sc _ _ _ (by have := os2b.2.1; unfold maxLen; omega) (by have := os3a.2.1; unfold maxLen; omega) os2b.sl os3a.sl).mono ?_
          rintro e w4 ⟨rfl, g4⟩
          have M4 := M3.below g4
          clear g4 M3 os2b os3a
          have r0 := M4.cell 8 rfl
          have r1 := M4.cell 9 rfl
          have f0 := M4.fz 8 rfl
          have f1 := M4.fz 9 rfl
          have HB := hide M4.bel
          clear M4
          go_wp2
          refine bodyPost_ret (v := .agg #[.int .i64 (0), .int .i64 (permV (inL ss ds d) (inL ss ts (t - 1)))]) (by simp [results, Tryz.results130, go_sem, r0, r1]) rfl ⟨by rw [HP.out.1, HP.out.2], (HB.out.setCell (by simp) _).setCell (by simp) _⟩
        · have et : (inC ts (t - 1) != 0) = true := by simp [ht]
          have h4 : inC ts (t - 1) = 4 := by unfold inC at ht ⊢; split; (rename_i h; rw [if_pos h] at ht; exact absurd rfl ht); rfl
          have HP := hide (pm_notag Hf.out HD.out h0 h4)
          clear h0 ht
          go_enter Tryz.func130, Tryz.ntmps130
          go_wp2_with fail
          refine (openTables_calls a n c ss ta tn tc ts da dn dc ds _ hrt0).mono ?_
          rintro e w1 ⟨sz, mo, xa, xn, xc, ya, yn, yc, rfl, g1, hled⟩
          obtain ⟨rfl, M, X1, X2, X3, rfl, l1, l2, l3, l4, l5, own, ox, oy⟩ := hled Hf.out
          have M1 := (M0.below g1).alloc4 (.int .i64 (ss.length : Int)) (.map (some M)) (.slice xa xn xc) (.slice ya yn yc) 154
          have al := (Below.refl w1.heap.size w1).alloc (Nat.le_refl _) (.cells #[.int .i64 (ss.length : Int), .map (some M), .slice xa xn xc, .slice ya yn yc] 154)
          have hbk : Bk (w1.alloc (.cells #[.int .i64 (ss.length : Int), .map (some M), .slice xa xn xc, .slice ya yn yc] 154)) w1.heap.size M (ss.length : Int) ss.length (bk ss ss.length) := ⟨by simp, by simp, by simp, fun j => by simp, ownsMap_below own al (Nat.le_refl _)⟩
          have ox1 := OS.loc.below al ox
          have oy1 := OS.loc.below al oy
          have hxn := ox.1
          have hyn := oy.1
          clear g1 al ox oy own hled M0 hrt0
          go_wp2_with fail
          refine (domainLabel_calls w1.heap.size M _ ss _ _ _ _ ds d _ hbk (good_of hr) (rep_bk hr) (M1.cell 3 rfl) oy1.sl (by omega) hA2).mono ?_
          rintro e w2 ⟨ra, rn, rc, rfl, os2, g2⟩
          have M2 := (M1.below g2).alloc2 (.int .i64 (inC ds d)) (.slice ra rn rc) 112
          have al2 := (Below.refl w2.heap.size w2).alloc (Nat.le_refl _) (.cells #[.int .i64 (inC ds d), .slice ra rn rc] 112)
          have h12 := g2.trans (al2.mono g2.size)
          have hbk2 := hbk.below h12
          have ox2 := OS.loc.below h12 ox1
          have os2a := OS.loc.below al2 os2
          clear g2 al2 h12 hbk ox1 oy1 M1 os2
          have d0 := M2.cell 0 rfl
          go_wp2_with fail
          clear d0
          refine (tagLabel_calls w1.heap.size M _ ss _ _ _ _ ts t _ hbk2 (good_of hr) (rep_bk hr) (M2.cell 4 rfl) ox2.sl (by omega) hA1).mono ?_
          rw [h4]
          rintro e w3 ⟨sa, sn, sc, rfl, os3, g3⟩
          have M3 := (M2.below g3).alloc2 (.int .i64 4) (.slice sa sn sc) 112
          have al3 := (Below.refl w3.heap.size w3).alloc (Nat.le_refl _) (.cells #[.int .i64 4, .slice sa sn sc] 112)
          have h23 := g3.trans (al3.mono g3.size)
          have os2b := OS.loc.below h23 os2a
          have os3a := OS.loc.below al3 os3
          clear g3 al3 h23 hbk2 ox2 os2a os3 M2
          have k0 := M3.cell 0 rfl
          clear os2b os3a
          have r0 := M3.cell 8 rfl
          have r1 := M3.cell 9 rfl
          have f0 := M3.fz 8 rfl
          have f1 := M3.fz 9 rfl
          have HB := hide M3.bel
          clear M3
          go_wp2
          refine bodyPost_ret (v := .agg #[.int .i64 (4), .int .i64 (0)]) (by simp [results, Tryz.results130, go_sem, r0, r1]) rfl ⟨by rw [HP.out.1, HP.out.2], (HB.out.setCell (by simp) _).setCell (by simp) _⟩
    · have ed : (inC ds d != 0) = true := by simp [hd]
      have h4 : inC ds d = 4 := by unfold inC at hd ⊢; split; (rename_i h; rw [if_pos h] at hd; exact absurd rfl hd); rfl
      have HP := hide (pm_nodom (t := t) Hf.out hd)
      clear hd
      go_enter Tryz.func130, Tryz.ntmps130
      go_wp2_with fail
      refine (openTables_calls a n c ss ta tn tc ts da dn dc ds _ hrt0).mono ?_
      rintro e w1 ⟨sz, mo, xa, xn, xc, ya, yn, yc, rfl, g1, hled⟩
      obtain ⟨rfl, M, X1, X2, X3, rfl, l1, l2, l3, l4, l5, own, ox, oy⟩ := hled Hf.out
      have M1 := (M0.below g1).alloc4 (.int .i64 (ss.length : Int)) (.map (some M)) (.slice xa xn xc) (.slice ya yn yc) 154
      have al := (Below.refl w1.heap.size w1).alloc (Nat.le_refl _) (.cells #[.int .i64 (ss.length : Int), .map (some M), .slice xa xn xc, .slice ya yn yc] 154)
      have hbk : Bk (w1.alloc (.cells #[.int .i64 (ss.length : Int), .map (some M), .slice xa xn xc, .slice ya yn yc] 154)) w1.heap.size M (ss.length : Int) ss.length (bk ss ss.length) := ⟨by simp, by simp, by simp, fun j => by simp, ownsMap_below own al (Nat.le_refl _)⟩
      have ox1 := OS.loc.below al ox
      have oy1 := OS.loc.below al oy
      have hxn := ox.1
      have hyn := oy.1
      clear g1 al ox oy own hled M0 hrt0
      go_wp2_with fail
      refine (domainLabel_calls w1.heap.size M _ ss _ _ _ _ ds d _ hbk (good_of hr) (rep_bk hr) (M1.cell 3 rfl) oy1.sl (by omega) hA2).mono ?_
      rw [h4]
      rintro e w2 ⟨ra, rn, rc, rfl, os2, g2⟩
      have M2 := (M1.below g2).alloc2 (.int .i64 4) (.slice ra rn rc) 112
      have al2 := (Below.refl w2.heap.size w2).alloc (Nat.le_refl _) (.cells #[.int .i64 4, .slice ra rn rc] 112)
      have h12 := g2.trans (al2.mono g2.size)
      have hbk2 := hbk.below h12
      have ox2 := OS.loc.below h12 ox1
      have os2a := OS.loc.below al2 os2
      clear g2 al2 h12 hbk ox1 oy1 M1 os2
      have d0 := M2.cell 0 rfl
      clear hbk2 ox2 os2a
      have r0 := M2.cell 6 rfl
      have r1 := M2.cell 7 rfl
      have f0 := M2.fz 6 rfl
      have f1 := M2.fz 7 rfl
      have HB := hide M2.bel
      clear M2
      go_wp2
      refine bodyPost_ret (v := .agg #[.int .i64 (4), .int .i64 (0)]) (by simp [results, Tryz.results130, go_sem, r0, r1]) rfl ⟨by rw [HP.out.1, HP.out.2], (HB.out.setCell (by simp) _).setCell (by simp) _⟩
  · have ef : (tabF ss ts ds != 0) = true := by simp [hf]
    have HP := hide (pm_bad (d := d) (t := t) hf)
    clear hf
    go_enter Tryz.func130, Tryz.ntmps130
    go_wp2_with fail
    refine (openTables_calls a n c ss ta tn tc ts da dn dc ds _ hrt0).mono ?_
    rintro e w1 ⟨sz, mo, xa, xn, xc, ya, yn, yc, rfl, g1, _⟩
    have M1 := (M0.below g1).alloc4 (.int .i64 sz) (.map mo) (.slice xa xn xc) (.slice ya yn yc) 154
    clear M0 g1 hrt0
    have r0 := M1.cell 4 rfl
    have r1 := M1.cell 5 rfl
    have f0 := M1.fz 4 rfl
    have f1 := M1.fz 5 rfl
    have HB := hide M1.bel
    clear M1
    go_wp2
    refine bodyPost_ret (v := .agg #[.int .i64 (tabF ss ts ds), .int .i64 (0)]) (by simp [results, Tryz.results130, go_sem, r0, r1]) rfl ⟨by rw [HP.out.1, HP.out.2], (HB.out.setCell (by simp) _).setCell (by simp) _⟩

end Go.Proofs.YtnlkigjgloeonaaGreat
