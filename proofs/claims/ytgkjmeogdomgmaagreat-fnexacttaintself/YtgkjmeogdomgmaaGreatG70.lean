import Derived.Test.YtgkjmeogdomgmaaGreatG60
import Derived.Test.YtgkjmeogdomgmaaGreatG8
import Derived.Test.YtgkjmeogdomgmaaGreatG27
import Derived.Test.YtgkjmeogdomgmaaGreatG69
import Derived.Test.YtgkjmeogdomgmaaGreatG62
import Derived.Test.YtgkjmeogdomgmaaGreatG67
import Derived.Test.YtgkjmeogdomgmaaGreatG34
import Derived.Test.YtgkjmeogdomgmaaGreatG11
import Derived.WalkKit
import Derived.ProofKit
import Derived.OpenShut
import Derived.ShutString
import Derived.ChangeOld
import Derived.Below
import Derived.WalkSpells
import Derived.Deep.QuietTactic
import Derived.BigQuiet
import Derived.Deep.RegionWith
import Derived.Deep.WholeRow
import Derived.Deep.DeepCutAuto
import Derived.Deep.RegionHeld2
import Derived.Deep.AppendLies
import Derived.Deep.RegionLaw
namespace Go.Proofs.YtgkjmeogdomgmaaGreat
open Go.ChangeShapes Go.WideShapes Go.ChangeAt Go.RowKit

def sumN (f : Nat → Int) : Nat → Int
  | 0 => 0
  | n + 1 => sumN f n + f n

theorem sumN_le {f g : Nat → Int} : ∀ (n : Nat), (∀ i, i < n → f i ≤ g i) → sumN f n ≤ sumN g n
  | 0, _ => Int.le_refl _
  | n + 1, h => by
    have h1 := sumN_le n (fun i hi => h i (by omega))
    have h2 := h n (by omega)
    simp only [sumN]
    omega

theorem sumN_add (f g : Nat → Int) : ∀ (n : Nat), sumN (fun i => f i + g i) n = sumN f n + sumN g n
  | 0 => rfl
  | n + 1 => by
    have h1 := sumN_add f g n
    simp only [sumN]
    omega

theorem sumN_one (x : Int) : ∀ (n : Nat), sumN (fun i => if x == (i : Int) then 1 else 0) n ≤ (if 0 ≤ x ∧ x < (n : Int) then 1 else 0)
  | 0 => by simp only [sumN]; split <;> omega
  | n + 1 => by
    have h1 := sumN_one x n
    simp only [sumN]
    by_cases e : x = (n : Int)
    · have e1 : (x == (n : Int)) = true := by simpa using e
      have a1 : (if (x == (n : Int)) = true then (1 : Int) else 0) = 1 := if_pos e1
      have a2 : (if 0 ≤ x ∧ x < ((n + 1 : Nat) : Int) then (1 : Int) else 0) = 1 := if_pos (by omega)
      rw [if_neg (by omega)] at h1
      rw [a1, a2]
      omega
    · have e1 : ¬ (x == (n : Int)) = true := by simpa using e
      have a1 : (if (x == (n : Int)) = true then (1 : Int) else 0) = 0 := if_neg e1
      rw [a1]
      by_cases h2 : 0 ≤ x ∧ x < (n : Int)
      · have a2 : (if 0 ≤ x ∧ x < ((n + 1 : Nat) : Int) then (1 : Int) else 0) = 1 := if_pos (by omega)
        rw [if_pos h2] at h1
        rw [a2]
        omega
      · have a2 : (if 0 ≤ x ∧ x < ((n + 1 : Nat) : Int) then (1 : Int) else 0) = 0 := if_neg (by omega)
        rw [if_neg h2] at h1
        rw [a2]
        omega

theorem sumN_zero : ∀ (n : Nat), sumN (fun _ => 0) n = 0
  | 0 => rfl
  | n + 1 => by have := sumN_zero n; simp only [sumN]; omega

theorem sumN_cnt : ∀ (l : List Int) (n : Nat), sumN (cnt l) n ≤ (l.length : Int)
  | [], n => by
    have h : cnt [] = fun _ => 0 := by funext i; rfl
    rw [h, sumN_zero]
    exact Int.le_refl _
  | x :: l, n => by
    have h1 := sumN_cnt l n
    have h2 := sumN_one x n
    have h3 : cnt (x :: l) = fun i => cnt l i + (if x == (i : Int) then 1 else 0) := by
      funext i
      unfold cnt
      rw [List.filter_cons]
      by_cases e : (x == (i : Int)) = true
      · rw [if_pos e, if_pos e]; simp
      · rw [if_neg e, if_neg e]; simp
    rw [h3, sumN_add]
    simp only [List.length_cons]
    have : (if 0 ≤ x ∧ x < (n : Int) then (1 : Int) else 0) ≤ 1 := by split <;> omega
    omega

theorem fe_nz {ss : List (Int × List Int)} {j : Nat} (h : j < fe ss) : gc ss j ≠ 0 := by
  have hl := fe_le ss
  have h1 := List.not_of_lt_findIdx h
  unfold gc
  intro e
  have hj : j < ss.length := by omega
  have e' : ss[j].fst = 0 := by simpa [hj] using e
  simp [e'] at h1

/-- behind a leaving there is room for another label. -/
theorem taint_room {ss : List (Int × List Int)} {ts ds : List Int} (h : tabF ss ts ds = 0) {p : Nat} (hpl : p < ss.length) (hpp : 0 < gc ss p) (zs : List Int) : etC (leaveS ss p) zs = 0 := by
  obtain ⟨hr, hm, _, _, _, _, hc⟩ := tabF_zero h
  have good := good_of hr
  have hml := many_len hm
  have few := good.few
  have gl2 := good_leave good hpl hpp
  have hcn : ∀ i, i < ss.length → gc ss i = cnt ts i + cnt ds i := fun i hi => by
    unfold cntB at hc
    rw [List.all_eq_true] at hc
    exact of_decide_eq_true (hc i (List.mem_range.2 hi))
  have s1 := sumN_cnt ts ss.length
  have s2 := sumN_cnt ds ss.length
  have s3 : sumN (gc ss) ss.length ≤ sumN (fun i => cnt ts i + cnt ds i) ss.length := sumN_le _ (fun i hi => Int.le_of_eq (hcn i hi))
  rw [sumN_add] at s3
  have hsum : sumN (gc ss) ss.length ≤ 10 := by omega
  unfold etC
  rw [if_neg]
  intro e
  rcases e with e | e
  · -- all ten slots are meant
    obtain ⟨h1, _⟩ := en_facts gl2 (zs := zs)
    rw [length_leaveS] at h1
    have hl : ss.length = 10 := by omega
    have hq : enQ (leaveS ss p) zs = fe (leaveS ss p) := by
      rcases at2_cases (leaveS ss p) zs with ⟨e1, _⟩ | ⟨i, hi, e1, _⟩
      · exact if_pos (by omega)
      · exfalso
        rw [length_leaveS] at hi
        unfold enQ at e
        rw [if_neg (by omega), e1] at e
        omega
    have hall : ∀ i, i < 10 → 1 + (if i = p then (1 : Int) else 0) ≤ gc ss i := fun i hi => by
      have h2 := fe_nz (ss := leaveS ss p) (j := i) (by omega)
      have h3 := good.low i (by omega)
      rw [gc_leave hpl] at h2
      by_cases e2 : i = p
      · subst e2
        rw [if_pos rfl] at h2 ⊢
        omega
      · rw [if_neg e2] at h2 ⊢
        omega
    have h4 := sumN_le 10 hall
    rw [hl] at hsum
    have h5 : ∀ p, p < 10 → sumN (fun i => 1 + (if i = p then (1 : Int) else 0)) 10 = 11 := by decide
    have := h5 p (by omega)
    omega
  · have h2 : enN (leaveS ss p) zs ≤ 10 := by
      rcases at2_cases (leaveS ss p) zs with ⟨e1, _⟩ | ⟨i, hi, e1, _⟩
      · have : enN (leaveS ss p) zs = 0 := if_pos (by omega)
        omega
      · have e2 : enN (leaveS ss p) zs = gc (leaveS ss p) i := by unfold enN; rw [if_neg (by omega), e1]; rfl
        rw [length_leaveS] at hi
        rw [e2, gc_leave hpl]
        have hge : ∀ i, i < ss.length → gc ss i ≤ 10 := fun i hi => by
          have h3 := hcn i hi
          have h4 : cnt ts i ≤ (ts.length : Int) := by unfold cnt; have := List.length_filter_le (fun s => s == (i : Int)) ts; omega
          have h5 : cnt ds i ≤ (ds.length : Int) := by unfold cnt; have := List.length_filter_le (fun s => s == (i : Int)) ds; omega
          omega
        have a1 := hge i hi
        have a2 := hge p hpl
        split <;> omega
    omega

/-- may the Active domain be tainted with a tag; by which label; what it is then; what is said. -/
def tnB (D : SD) (t : Int) : Bool := hasT D.ts.length t
def tnZ (D : SD) (t : Int) : List Int := atL D.ss (gt D.ts (t - 1).toNat)
def tnQ (D : SD) (t : Int) : Nat := enQ (leaveS D.ss (txQ D.ds D.ac)) (txZ D.ss D.ds D.ac (tnZ D t))
def tnR (D : SD) (t : Int) : List (Int × List Int) := enS (leaveS D.ss (txQ D.ds D.ac)) (txZ D.ss D.ds D.ac (tnZ D t))
def tnD (D : SD) (t : Int) : SD := if tnB D t = true then { D with ss := tnR D t, ds := D.ds.set D.ac.toNat (tnQ D t : Int), ls := flL D.ls D.ac (-1) } else D
def tnS (D : SD) (t : Int) : Int := if tnB D t = true then 0 else 1
def tmS (D : SD) (t : Int) : Int := if sysF D = 0 then tnS D t else 0
def tmD (D : SD) (t : Int) : SD := if sysF D = 0 then tnD D t else zeroD

theorem tmD_bad {D : SD} {t : Int} (h : sysF D ≠ 0) : tmD D t = zeroD := if_neg h
theorem tmD_ok {D : SD} {t : Int} (h : sysF D = 0) : tmD D t = tnD D t := if_pos h

theorem tn_no {D : SD} {t : Int} (h : tnB D t = false) : tnD D t = D ∧ tnS D t = 1 := by
  have h' : ¬ tnB D t = true := by rw [h]; simp
  exact ⟨if_neg h', if_neg h'⟩

theorem tn_yes {D : SD} {t : Int} (h : tnB D t = true) : tnD D t = { D with ss := tnR D t, ds := D.ds.set D.ac.toNat (tnQ D t : Int), ls := flL D.ls D.ac (-1) } ∧ tnS D t = 0 := ⟨if_pos h, if_pos h⟩

/-- what is known where a tag is there: the domain's slot, the tag's label, that there is room. -/
structure TnH (A : SA) (D : SD) (k j p : Nat) : Prop where
  dk : k < D.ds.length
  tj : j < D.ts.length
  hp : gt D.ds k = (p : Int)
  pl : p < D.ss.length
  pp : 0 < gc D.ss p
  pL : atL D.ss (p : Int) = gl D.ss p
  z0 : fault (tnZ D ((j : Int) + 1)) = 0
  eq : txQ D.ds D.ac = p
  ez : txZ D.ss D.ds D.ac (tnZ D ((j : Int) + 1)) = mix td (gl D.ss p) (tnZ D ((j : Int) + 1))
  et : etC (leaveS D.ss p) (mix td (gl D.ss p) (tnZ D ((j : Int) + 1))) = 0
  zt : tnZ D ((j : Int) + 1) = atL D.ss (gt D.ts j)
  ac : D.ac.toNat = k
  th : thingB (tnZ D ((j : Int) + 1)) = true

theorem SysR.tn {w : World} {A : SA} {D : SD} {k : Nat} (H : SysR A D k) (hr : RS w A D) {j : Nat} (hj : j < A.tn) : ∃ p, TnH A D k j p := by
  obtain ⟨k0, k1, k2, k3, k4, k5, k6, k7⟩ := hr.len
  have hk := H.hk
  have hac := H.ac
  have ht := tabF_zero H.tf
  obtain ⟨p, hp, hpl, hpp, hpL, _⟩ := atC_zero H.good (atC_all H.sd (j := k) (by omega))
  obtain ⟨m, hm, hml, hmp, hmL, _⟩ := atC_zero H.good (atC_all H.st (j := j) (by omega))
  have e1 : txQ D.ds D.ac = p := by unfold txQ; rw [hac, Int.toNat_natCast, hp, Int.toNat_natCast]
  have ez : tnZ D ((j : Int) + 1) = atL D.ss (gt D.ts j) := by unfold tnZ; rw [show (j : Int) + 1 - 1 = (j : Int) by omega, Int.toNat_natCast]
  refine ⟨p, by omega, by omega, hp, hpl, hpp, by rw [← hp]; exact hpL, ?_, e1, by unfold txZ; rw [e1], taint_room H.tf hpl hpp _, ez, by rw [hac]; rfl, ?_⟩
  · rw [ez, hmL]
    exact H.good.right m hml hmp
  · rw [ez]
    have h5 := ht.2.2.2.2.1
    unfold thingsB labs at h5
    rw [List.all_eq_true] at h5
    refine h5 _ (List.mem_map.2 ⟨gt D.ts j, ?_, rfl⟩)
    have hj' : j < D.ts.length := by omega
    have : gt D.ts j = D.ts[j] := by unfold gt; simp [hj']
    rw [this]
    exact List.getElem_mem _

set_option maxRecDepth 100000 in
set_option maxHeartbeats 4000000 in
theorem l3Taint_S (q r : Nat) (S1 S3 : Nat → Prop) (j p : Nat) (a : Option Addr) (n rc : Nat) (ss : List (Int × List Int)) (ya : Option Addr) (dn yc : Nat) (ds : List Int) (b : Option Addr) (cb : Nat) (zs : List Int) (w : World) (hq : q < w.heap.size) (c0 : w.cell? ⟨q, 0, none⟩ = some (.slice a n rc)) (c2 : w.cell? ⟨q, 2, none⟩ = some (.slice ya dn yc)) (f0 : w.frozen? ⟨q, 0, none⟩ = false)
    (hg : OR S1 a n ss w) (hrow : ∃ xs, w.ownsRow 0 150 2 (.slice a n rc) n xs) (ho : OS S3 ya dn ds w) (q1 : ¬ S1 q) (q3 : ¬ S3 q) (d13 : ∀ k, S3 k → ¬ S1 k) (s1 : ∀ k, S1 k → k < w.heap.size) (s3 : ∀ k, S3 k → k < w.heap.size) (hr : r < w.heap.size) (hrc : w.cell? ⟨r, 0, none⟩ = some (.slice b 4 cb)) (hy : Sl w b 4 zs)
    (good : Good ss) (hz : fault zs = 0) (hj : j < dn) (hdn : dn ≤ 10) (hp : gt ds j = (p : Int)) (hpl : p < ss.length) (hpp : 0 < gc ss p) (hpL : atL ss (p : Int) = gl ss p) (hA2 : allS ss ds = true) (het : etC (leaveS ss p) (mix td (gl ss p) zs) = 0) :
    Calls Tryz.prog 63 #[.pointer (some ⟨q, 0, none⟩), .int .i64 (j : Int), .pointer (some ⟨r, 0, none⟩)] w fun e w' => e = .returned (.bool true) ∧ OutS (fun k => (S1 k ∨ k = q) ∨ S3 k) w w' ∧ KQ q w w' ∧
      (∃ a' ca', w'.cell? ⟨q, 0, none⟩ = some (.slice a' (enS (leaveS ss p) (mix td (gl ss p) zs)).length ca') ∧ OR (fun k => S1 k ∨ InR w.heap.size w'.heap.size k) a' (enS (leaveS ss p) (mix td (gl ss p) zs)).length (enS (leaveS ss p) (mix td (gl ss p) zs)) w' ∧ ∃ ys, w'.ownsRow 0 150 2 (.slice a' (enS (leaveS ss p) (mix td (gl ss p) zs)).length ca') (enS (leaveS ss p) (mix td (gl ss p) zs)).length ys) ∧
      OS S3 ya dn (ds.set j (enQ (leaveS ss p) (mix td (gl ss p) zs) : Int)) w' := by
  have fo := good.right p hpl hpp
  have hmz : fault (mix td (gl ss p) zs) = 0 := fault_mix td_or fo hz
  have gl2 := good_leave good hpl hpp
  have hsum2 := good_sum gl2
  rw [length_leaveS] at hsum2
  have hlen := hg.1
  have h9 := good.top p hpl
  have hvb : ∀ g, (Value.slice a n rc).ownBlock = some g → S1 g := fun g e => by
    obtain ⟨N, la, lc, lb, rfl, hb⟩ := hg.body (by omega)
    have hN := hb.hS
    simp only [Value.ownBlock, Option.some.injEq] at e
    exact e ▸ hN
  go_enter Tryz.func63, Tryz.ntmps63
  go_wp2_with fail
  refine (l3Domain_calls q a n rc ss ya dn yc ds j _ good hdn c0 c2 hg.sls ho.sl hA2 hj).mono ?_
  rintro e w1 ⟨lb, lo, la, ll, lcap, rfl, hlb, lcell, _, lsl, g1⟩
  rw [hp, hpL] at lsl
  obtain rfl : ll = 4 := by have := lsl.1; have := fault_len fo; omega
  have z1 := g1.size
  have lc1 := (g1.cell (p := ⟨lb, lo, none⟩) hlb).trans lcell
  have rc1 := (g1.cell (p := ⟨r, 0, none⟩) hr).trans hrc
  have ls1 := lsl.below g1 (Nat.le_refl _)
  have hy1 := hy.below g1 (Nat.le_refl _)
  go_wp2_with fail
  refine (l3Tainted_calls lb lo r la b lcap cb (gl ss p) zs _ (by omega) (by omega) lc1 rc1 ls1 hy1).mono ?_
  rintro e w2 ⟨na, nc, rfl, on, g2⟩
  have z2 := g2.size
  have al := (Below.refl w2.heap.size w2).alloc (Nat.le_refl _) (.cells #[.slice na 4 nc] 112)
  have g3 : Below w.heap.size w (w2.alloc (.cells #[.slice na 4 nc] 112)) := (g1.trans (g2.mono z1)).trans (al.mono (by omega))
  have hg3 := OR.loc.below g3 hg
  have hrow3 : ∃ xs, (w2.alloc (.cells #[.slice na 4 nc] 112)).ownsRow 0 150 2 (.slice a n rc) n xs := hrow.elim fun xs hx => ⟨xs, owns_loc (S := S1) hvb (fun k hk hl => g3.block k hl) hx⟩
  have ho3 := OS.loc.below g3 ho
  have on3 := OS.loc.below al on
  have c03 := (g3.cell (p := ⟨q, 0, none⟩) hq).trans c0
  have c23 := (g3.cell (p := ⟨q, 2, none⟩) hq).trans c2
  have f03 := (g3.frozen (p := ⟨q, 0, none⟩) hq).trans f0
  have r2c : (w2.alloc (.cells #[.slice na 4 nc] 112)).cell? ⟨w2.heap.size, 0, none⟩ = some (.slice na 4 nc) := by simp
  obtain ⟨hdl, hd1, h0 | ⟨g, rfl, hSg, blk⟩⟩ := ho3
  · omega
  have cj := blk.2.1 j (by omega)
  rw [hp] at cj
  have i0 : (0 : Int) ≤ (j : Int) := by omega
  have i1 : (j : Int) < (dn : Int) := by omega
  have HG3 := hide g3
  have HR3 := hide hg3
  have HRW := hide hrow3
  have HB3 := hide blk
  have HN3 := hide on3
  have hnz : (w2.alloc (.cells #[.slice na 4 nc] 112)).heap.size = w2.heap.size + 1 := by simp
  have HNZ := hide hnz
  have gq : g ≠ q := fun e => q3 (e ▸ hSg)
  have gB : ¬ S1 g := d13 g hSg
  have gl3 := s3 g hSg
  clear g1 g2 al g3 hg ho hg3 on on3 blk lsl ls1 hy1 hy lc1 rc1 lcell hnz hrow hrow3
  go_wp2_with fail
  generalize hWe : (w2.alloc (.cells #[.slice na 4 nc] 112)) = W at c03 c23 f03 r2c cj HG3 HR3 HB3 HN3 HNZ HRW ⊢
  clear hWe
  go_region_with (first
    | (go_at_call 107; refine (l2Leave_R q 0 S1 (a) n rc ss p _ (by exact c03) (by exact HR3.out) (by exact HRW.out) q1 (by omega) (by omega) h9 (by omega)).mono ?_; rintro e w3 ⟨rfl, o4, row4, u4⟩))
  all_goals (
    have v4 : OutS S1 W w3 := (OutS.of_below (Below.refl _ _).drew).trans u4
    have z4 := v4.size
    have kz := HNZ.out
    have hqb := v4.block q (by omega) q1
    have c04 := (World.cell?_of_block (a := ⟨q, 0, none⟩) hqb).trans c03
    have c24 := (World.cell?_of_block (a := ⟨q, 2, none⟩) hqb).trans c23
    have f04 := (World.frozen?_of_block (a := ⟨q, 0, none⟩) hqb).trans f03
    have r24 := (World.cell?_of_block (a := ⟨w2.heap.size, 0, none⟩) (v4.block w2.heap.size (by omega) (fun e => by have := s1 _ e; omega))).trans r2c
    have on4 := OS.loc.out v4 (fun k h h' => by have := h.1; have := s1 _ h'; omega) HN3.out
    have blk4 : Blk w3 g ds := (Blk.loc (S := fun k => k = g) rfl) _ _ (fun k hk hl => v4.block k hl (fun e => gB (hk ▸ e))) HB3.out
    obtain ⟨xs, hxs⟩ := row4
    have HBk4 := hide blk4
    have HK4 : Hid (KQ q w w3) := (KQ.of_block (HG3.out.block q hq)).trans (KQ.of_block hqb)
    have HO4 : Hid (OutS (fun k => (S1 k ∨ k = q) ∨ S3 k) w w3) := (OutS.of_below HG3.out).trans (v4.mono (fun k h => .inl (.inl h)))
    have HN4 := hide on4.sl
    have rS : ¬ S1 w2.heap.size := fun e => by have := s1 _ e; omega
    have sS : ∀ k, S1 k → 0 ≤ k ∧ k < w3.heap.size := fun k e => ⟨Nat.zero_le _, by have := s1 k e; omega⟩
    clear u4 v4 hqb HB3 HN3 HR3 HG3 blk4 on4 c03 c23 f03 r2c cj HRW
    go_wp2_with fail
    refine (l2Enter_S q w2.heap.size 0 S1 a na n rc nc (leaveS ss p) (mix td (gl ss p) zs) xs _ (by omega) q1 (by omega) rS (Nat.zero_le _) sS c04 f04 r24 o4 hxs hvb gl2 HN4.out hmz).mono ?_
    rintro e w4 ⟨rfl, hfin, _, u5, k5⟩
    have z5 := u5.size
    have blk5 : Blk w4 g ds := (Blk.loc (S := fun k => k = g) rfl) _ _ (fun k hk hl => u5.block k hl (fun e => by rcases e with e | e; exact gB (hk ▸ e); exact gq (hk.symm.trans e))) HBk4.out
    have c25 := ((k5 2).1 (by omega)).trans c24
    have HK5 := hide (HK4.out.trans k5)
    have HO5 : Hid (OutS (fun k => (S1 k ∨ k = q) ∨ S3 k) w w4) := HO4.out.trans (u5.mono (fun k h => .inl h))
    have cj5 := blk5.2.1 j (by omega)
    have fj5 := blk5.2.2 j
    have HBk5 := hide blk5
    clear u5 k5 blk5 o4 hxs HK4 HO4 HBk4 c04 c24 f04 r24 HN4 sS
    obtain ⟨a', ca', q0, o5, ys, hys⟩ := hfin het
    rw [if_pos het]
    have en : decide ((enQ (leaveS ss p) (mix td (gl ss p) zs) : Int) < 0) = false := by simp
    have HQ0 : Hid ((w4.setCell ⟨g, j, none⟩ (.int .i64 (enQ (leaveS ss p) (mix td (gl ss p) zs) : Int))).cell? ⟨q, 0, none⟩ = some (.slice a' (enS (leaveS ss p) (mix td (gl ss p) zs)).length ca')) := (World.cell?_setCell_other _ _ _ _ (fun e => by injection e with e1 _; exact gq e1)).trans q0
    have ng : ¬ (S1 g ∨ InR w3.heap.size w4.heap.size g) := fun e => by
      rcases e with e | e
      · exact gB e
      · have := e.1; omega
    have HOR := hide ((OR.loc.setC o5 (q := ⟨g, j, none⟩) ng (.int .i64 (enQ (leaveS ss p) (mix td (gl ss p) zs) : Int))).mono (S' := fun k => S1 k ∨ InR w.heap.size w4.heap.size k) (fun k h => h.imp id (fun h => ⟨by have := h.1; omega, h.2⟩)))
    have hen : 0 < (enS (leaveS ss p) (mix td (gl ss p) zs)).length := by
      have := length_layS (ss := leaveS ss p) (enN (leaveS ss p) (mix td (gl ss p) zs) + 1, mix td (gl ss p) zs) (en_facts gl2 (zs := mix td (gl ss p) zs)).1
      unfold enS
      rw [this]
      omega
    have hng : (Value.slice a' (enS (leaveS ss p) (mix td (gl ss p) zs)).length ca').ownBlock ≠ some g := fun e => by
      obtain ⟨N, la, lc, lb, ea, hb⟩ := o5.body hen
      have hN := hb.hS
      rw [ea] at e
      simp only [Value.ownBlock, Option.some.injEq] at e
      exact ng (e ▸ hN)
    have HYS : Hid ((w4.setCell ⟨g, j, none⟩ (.int .i64 (enQ (leaveS ss p) (mix td (gl ss p) zs) : Int))).ownsRow 0 150 2 (.slice a' (enS (leaveS ss p) (mix td (gl ss p) zs)).length ca') (enS (leaveS ss p) (mix td (gl ss p) zs)).length ys) := ownsRow_setCell_other hys (by exact hng) _
    have HOS : Hid (OS S3 (some ⟨g, 0, none⟩) dn (ds.set j (enQ (leaveS ss p) (mix td (gl ss p) zs) : Int)) (w4.setCell ⟨g, j, none⟩ (.int .i64 (enQ (leaveS ss p) (mix td (gl ss p) zs) : Int)))) := OS.ofBlk (blk_store HBk5.out (by omega)) hSg (by simpa using hdl) hd1
    have HO6 := hide (HO5.out.setCell (p := ⟨g, j, none⟩) (.inr hSg) (.int .i64 (enQ (leaveS ss p) (mix td (gl ss p) zs) : Int)))
    have HK6 := hide (HK5.out.setN (i := j) gq.symm (.int .i64 (enQ (leaveS ss p) (mix td (gl ss p) zs) : Int)))
    clear hfin het q0 o5 hys hen ng hng
    go_wp2
    go_ret
    exact ⟨rfl, HO6.out, HK6.out, ⟨a', ca', HQ0.out, by simpa using HOR.out, ys, HYS.out⟩, HOS.out⟩)

/-- what l8Taint leaves. -/
def TnP (P : Nat) (S : Nat → Prop) (D : SD) (t : Int) (w : World) (w' : World) : Prop := (∃ B, YM P 0 (fun q => S q ∨ (w.heap.size ≤ q ∧ q < w'.heap.size)) B (tnD D t) w') ∧ OutS (fun q => S q ∨ q = P) w w'

set_option maxRecDepth 100000 in
set_option maxHeartbeats 4000000 in
theorem l8Taint_gen (P : Nat) (S : Nat → Prop) (A : SA) (D : SD) (k : Nat) (t : Int) (w : World) (hy : YM P 0 S A D w) (H : SysR A D k) (hS : ∀ q, S q → q < w.heap.size) :
    Calls Tryz.prog 22 #[.pointer (some ⟨P, 0, none⟩), .int .i64 t] w fun e w' => e = .returned (.int .i64 (tnS D t)) ∧ (∃ B, YM P 0 (fun q => S q ∨ (w.heap.size ≤ q ∧ q < w'.heap.size)) B (tnD D t) w') ∧ OutS (fun q => S q ∨ q = P) w w' := by
  have hr := hy.y.oy.rs
  obtain ⟨k0, k1, k2, k3, k4, k5, k6, k7⟩ := hr.len
  have x0 := hy.cs.cell 0 rfl
  have x1 := hy.cs.cell 1 rfl
  have x5 := hy.cs.cell 5 rfl
  simp only [Nat.zero_add] at x0 x1 x5
  rw [H.ac] at x5
  have hPl := hy.lt
  have HY := hide hy
  cases ht : hasT A.tn t with
  | false =>
    have HNo : Hid (tnD D t = D ∧ tnS D t = 1) := tn_no (by unfold tnB; rw [k1]; exact ht)
    clear hy hr H
    go_enter Tryz.func22, Tryz.ntmps22
    go_wp2_with (first | (go_at_call 52; with_reducible refine (hasTag_is P A.ta A.tn A.tc _ _ _ x1 ht).mono ?_; rintro e w' ⟨rfl, hw'⟩; rw [hw']; clear hw' w'))
    go_ret
    exact ⟨ret_int HNo.out.2.symm, ⟨A, by rw [HNo.out.1]; exact HY.out.mono (fun _ e => .inl e) (fun e => by rcases e with e | e; exact HY.out.ns e; omega)⟩, OutS.refl _ _⟩
  | true =>
  have HYs : Hid (tnD D t = { D with ss := tnR D t, ds := D.ds.set D.ac.toNat (tnQ D t : Int), ls := flL D.ls D.ac (-1) } ∧ tnS D t = 0) := tn_yes (by unfold tnB; rw [k1]; exact ht)
  have ht2 : 1 ≤ t ∧ t ≤ (A.tn : Int) := by
    have h := ht
    unfold hasT at h
    rw [Bool.and_eq_true] at h
    have a := of_decide_eq_true h.1
    have b := of_decide_eq_true h.2
    omega
  obtain ⟨j, rfl⟩ : ∃ j : Nat, t = (j : Int) + 1 := ⟨(t - 1).toNat, by omega⟩
  have hj : j < A.tn := by omega
  obtain ⟨p, T⟩ := H.tn hr hj
  have htn := H.t6
  have hdn := H.d4
  have hkd : k < A.dn := H.hk
  have hsm := H.tiny hr
  have HTg := hide (l3Tag_calls P A.a A.n A.c D.ss A.ta A.tn A.tc D.ts j w H.good (by omega) x0 x1 hr.rt.2.1 hr.rt.2.2.2.1 H.st hj)
  have HH := hide H
  have HT := hide T
  have HR := hide hr
  clear hy hr H T
  go_enter Tryz.func22, Tryz.ntmps22
  go_wp2_with (first | (go_at_call 52; with_reducible refine (hasTag_is P A.ta A.tn A.tc _ _ _ x1 ht).mono ?_; rintro e w' ⟨rfl, hw'⟩; rw [hw']; clear hw' w') | (go_at_call 62; fail))
  refine HTg.out.mono ?_
  rintro e w1 ⟨b, o, la, ll, lc, rfl, hb, lcell, hl4, lsl, g1⟩
  have lc1 := (g1.cell (p := ⟨b, o, none⟩) hb).trans lcell
  have ls1 := lsl.below g1 (Nat.le_refl _)
  rw [← HT.out.zt] at ls1
  obtain rfl : ll = 4 := by have := ls1.1; have := fault_len HT.out.z0; omega
  have z1 := g1.size
  clear HTg lcell lsl
  go_wp2_with fail
  refine (l1Copy_O la 4 lc (tnZ D ((j : Int) + 1)) _ (by omega) ls1).mono ?_
  rintro e w2 ⟨ra, rc, rfl, os, g2⟩
  have z2 := g2.size
  have al := (Below.refl w2.heap.size w2).alloc (Nat.le_refl _) (.cells #[.slice ra 4 rc] 112)
  obtain ⟨W, hW⟩ : ∃ x, x = w2.alloc (.cells #[.slice ra 4 rc] 112) := ⟨_, rfl⟩
  rw [← hW] at al
  have hWz : W.heap.size = w2.heap.size + 1 := by rw [hW]; simp
  have rcl : W.cell? ⟨w2.heap.size, 0, none⟩ = some (.slice ra 4 rc) := by rw [hW]; simp
  have BW : Below w.heap.size w W := (g1.trans (g2.mono z1)).trans (al.mono (by omega))
  have oW := (OS.loc.below al os).sl
  have YW := HY.out.below BW
  obtain ⟨Q, q1, q2, q3, q4, q5, q6⟩ := YW.y
  obtain ⟨S1, S2, S3, i1, i2, i3, d1, d2, d3, o1, o2, o3⟩ := q5.t
  have y0 := YW.cs.cell 0 rfl
  have y2 := YW.cs.cell 2 rfl
  have y5 := YW.cs.cell 5 rfl
  simp only [Nat.zero_add] at y0 y2 y5
  rw [HH.out.ac] at y5
  have lW : P < W.heap.size := YW.lt
  have sW : ∀ q, S q → q < W.heap.size := fun q e => by have := hS q e; omega
  have HCt := hide (l3Taint_S P w2.heap.size S1 S3 k p A.a A.n A.c D.ss A.da A.dn A.dc D.ds ra rc (tnZ D ((j : Int) + 1)) W.drew lW y0 y2 (YW.fz 0) (OR.loc.below (Below.refl _ _).drew o1) (q6.2.2.1.elim fun xs hx => ⟨xs, hx⟩) (OS.loc.below (Below.refl _ _).drew o3) (fun e => YW.ns (q1 _ _ (i1 _ e))) (fun e => YW.ns (q1 _ _ (i3 _ e))) (fun q e e2 => d2 q e2 e) (fun q e => sW q (q1 _ _ (i1 _ e))) (fun q e => sW q (q1 _ _ (i3 _ e))) (by show w2.heap.size < W.heap.size; omega) rcl (oW.below (Below.refl _ _).drew (Nat.le_refl _)) HH.out.good HT.out.z0 hkd (by omega) HT.out.hp HT.out.pl HT.out.pp HT.out.pL HH.out.sd HT.out.et)
  have HYW := hide YW
  have HBW := hide BW
  have HqA := hide (And.intro q1 (And.intro q2 (And.intro q4 (And.intro q5 q6))))
  have HqB := hide (And.intro i1 (And.intro i2 (And.intro i3 (And.intro d1 (And.intro d2 (And.intro d3 o2))))))
  have HW := hide hW
  clear g1 g2 al os oW YW q1 q2 q3 q4 q5 q6 i1 i2 i3 d1 d2 d3 o1 o2 o3 y0 y2 BW rcl hW lc1 ls1 x0 x1 x5
  go_wp2_with fail
  rw [← HW.out]
  clear HW
  go_region_with (first
    | (go_at_call 63; refine HCt.out.mono ?_; rintro e w4 ⟨rfl, ho4, hk4, ⟨a', ca', hc4, hr4, hy4⟩, hd4⟩))
  all_goals (
    have hen : 0 < (enS (leaveS D.ss p) (mix td (gl D.ss p) (tnZ D ((j : Int) + 1)))).length := by
      have := length_layS (ss := leaveS D.ss p) (enN (leaveS D.ss p) (mix td (gl D.ss p) (tnZ D ((j : Int) + 1))) + 1, mix td (gl D.ss p) (tnZ D ((j : Int) + 1))) (en_facts (good_leave HH.out.good HT.out.pl HT.out.pp) (zs := mix td (gl D.ss p) (tnZ D ((j : Int) + 1)))).1
      unfold enS
      rw [this]
      omega
    have gS : Good (enS (leaveS D.ss p) (mix td (gl D.ss p) (tnZ D ((j : Int) + 1)))) := good_enter (good_leave HH.out.good HT.out.pl HT.out.pp) (fault_mix td_or (HH.out.good.right p HT.out.pl HT.out.pp) HT.out.z0) HT.out.et
    have gs1 := gS.few
    have gs2 := lenSum_few _ (good_len gS)
    have hz4 : szY { A with a := a', n := (enS (leaveS D.ss p) (mix td (gl D.ss p) (tnZ D ((j : Int) + 1)))).length, c := ca' } { D with ss := enS (leaveS D.ss p) (mix td (gl D.ss p) (tnZ D ((j : Int) + 1))), ds := D.ds.set k (enQ (leaveS D.ss p) (mix td (gl D.ss p) (tnZ D ((j : Int) + 1))) : Int) } ≤ 1048576 := by
      unfold szY at hsm ⊢
      dsimp only
      omega
    have ho5 : OutS (fun q => (S1 q ∨ q = P) ∨ S3 q) W w4 := (OutS.of_below (Below.refl _ _).drew).trans ho4
    have hk5 : KQ P W w4 := hk4
    have Y4 := YM.tab HYW.out sW HqA.out.1 HqA.out.2.1 HqA.out.2.2.1 HqA.out.2.2.2.1 HqA.out.2.2.2.2 HqB.out.1 HqB.out.2.1 HqB.out.2.2.1 HqB.out.2.2.2.1 HqB.out.2.2.2.2.1 HqB.out.2.2.2.2.2.1 HqB.out.2.2.2.2.2.2 ho5 hk5 hc4 hr4 hy4 hen hd4 hz4
    have z4 := ho5.size
    have u4 : OutS (fun q => S q ∨ q = P) w w4 := (OutS.of_below HBW.out).trans (ho5.mono (fun q e => by
      rcases e with (e | e) | e
      · exact .inl (HqA.out.1 _ _ (HqB.out.1 _ e))
      · exact .inr e
      · exact .inl (HqA.out.1 _ _ (HqB.out.2.2.1 _ e))))
    have s4 : ∀ q, (S q ∨ (W.heap.size ≤ q ∧ q < w4.heap.size)) → q < w4.heap.size := fun q e => by
      rcases e with e | e
      · have := sW q e; omega
      · exact e.2
    obtain ⟨U, hU, V4, back⟩ := Y4.cache s4
    have v5 := ((hk5 5).1 (by omega)).trans y5
    have hzl : szY { A with a := a', n := (enS (leaveS D.ss p) (mix td (gl D.ss p) (tnZ D ((j : Int) + 1)))).length, c := ca' } { D with ss := enS (leaveS D.ss p) (mix td (gl D.ss p) (tnZ D ((j : Int) + 1))), ds := D.ds.set k (enQ (leaveS D.ss p) (mix td (gl D.ss p) (tnZ D ((j : Int) + 1))) : Int) } ≤ 1000 := by
      unfold szY at hsm ⊢
      dsimp only
      omega
    have hln : A.ln ≤ 1048576 := by unfold szY at hsm; omega
    have HF := hide (l4Flush_W w4 U P D.cz A.la A.ln A.lc D.ls (k : Int) (-1) w4.drew hln (V4.below (Below.refl _ _).drew))
    have HBk := hide back
    have HU4 := hide u4
    have HL := hide (length_flL' D.ls (k : Int) (-1))
    have HK5 := hide k5
    clear ho4 hk4 hc4 hr4 hy4 hd4 hen gS gs1 gs2 hz4 ho5 hk5 Y4 u4 V4 back HqA HqB HYW HCt y5
    go_wp2_with fail
    go_region_with (first
      | (go_at_call 64; refine HF.out.mono ?_; rintro e w6 ⟨rfl, fa, fc, V6⟩))
    all_goals (
      have hzf : szY { A with a := a', n := (enS (leaveS D.ss p) (mix td (gl D.ss p) (tnZ D ((j : Int) + 1)))).length, c := ca', la := fa, ln := (flL D.ls (k : Int) (-1)).length, lc := fc } { D with ss := enS (leaveS D.ss p) (mix td (gl D.ss p) (tnZ D ((j : Int) + 1))), ds := D.ds.set k (enQ (leaveS D.ss p) (mix td (gl D.ss p) (tnZ D ((j : Int) + 1))) : Int), ls := flL D.ls (k : Int) (-1) } ≤ 1048576 := by
        have h1 := HL.out
        have h2 := HK5.out
        unfold szY at hzl ⊢
        dsimp only at hzl ⊢
        omega
      obtain ⟨Y6, u6⟩ := HBk.out w6 fa (flL D.ls (k : Int) (-1)).length fc (flL D.ls (k : Int) (-1)) V6 hzf
      have z6 := u6.size
      have HF6 : Hid (TnP P S D ((j : Int) + 1) w w6) := by
        refine ⟨⟨{ A with a := a', n := (enS (leaveS D.ss p) (mix td (gl D.ss p) (tnZ D ((j : Int) + 1)))).length, c := ca', la := fa, ln := (flL D.ls (k : Int) (-1)).length, lc := fc }, ?_⟩, ?_⟩
        · rw [HYs.out.1]
          unfold tnR tnQ
          have e9 : flL D.ls D.ac (-1) = flL D.ls (k : Int) (-1) := by rw [HH.out.ac]
          rw [HT.out.ez, HT.out.eq, HT.out.ac, e9]
          refine Y6.mono (fun q e => ?_) (fun e => ?_)
          · rcases e with (e | e) | e
            · exact .inl e
            · exact .inr ⟨by have := HBW.out.size; omega, by omega⟩
            · exact .inr ⟨by have := HBW.out.size; omega, e.2⟩
          · rcases e with e | e
            · exact HY.out.ns e
            · omega
        · refine ⟨u6.os.trans HU4.out.os, u6.tape.trans HU4.out.tape, u6.output.trans HU4.out.output, Nat.le_trans HU4.out.size u6.size, fun q hq hn => ?_⟩
          rw [u6.block q (by have := HU4.out.size; omega) (fun e => ?_), HU4.out.block q hq hn]
          rcases e with (e | e) | e
          · exact hn (.inl e)
          · have := HBW.out.size; omega
          · exact hn (.inr e)
      clear Y6 u6 V6 HBk HF hzf
      go_wp2
      go_ret
      exact ⟨ret_int HYs.out.2.symm, HF6.out⟩))

end Go.Proofs.YtgkjmeogdomgmaaGreat
