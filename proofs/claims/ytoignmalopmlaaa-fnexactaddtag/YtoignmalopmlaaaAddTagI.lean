import Derived.Test.YtoignmalopmlaaaMore
import Derived.Test.YtoignmalopmlaaaTablesI
import Derived.Test.YtoignmalopmlaaaDropP
import Derived.WalkKit
import Derived.ProofKit
import Derived.OpenShut
import Derived.ShutString
import Derived.ChangeOld
import Derived.Below
import Derived.WalkSpells
import Derived.Deep.QuietTactic
import Derived.BigQuiet
import Derived.Deep.RegionWith
import Derived.Deep.WholeRow
import Derived.Deep.DeepCutAuto
import Derived.Deep.RegionHeld2
import Derived.Deep.AppendLies
import Derived.Deep.RegionLaw
namespace Go.Proofs.Ytoignmalopmlaaa
open Go.ChangeShapes Go.WideShapes Go.ChangeAt Go.RowKit

set_option maxRecDepth 100000 in
set_option maxHeartbeats 2000000 in
theorem implAddTag_calls (a : Option Addr) (n c : Nat) (ss : List (Int × List Int)) (ta : Option Addr) (tn tc : Nat) (ts : List Int) (da : Option Addr) (dn dc : Nat) (ds : List Int) (b : Option Addr) (lb cb : Nat) (zs : List Int) (w : World) (hrt : RT w a n ss ta tn ts da dn ds) (hlb : lb ≤ maxLen) (hy : Sl w b lb zs) :
    Calls Try.prog 13 #[.agg #[.slice a n c, .slice ta tn tc, .slice da dn dc], .agg #[.slice b lb cb]] w fun e w' => ∃ ra rn rc xa xn xc ya yn yc, e = .returned (.agg #[.int .i64 (agC ss ts ds zs), .int .i64 (agV ss ts ds zs), .slice ra rn rc, .slice xa xn xc, .slice ya yn yc]) ∧
      OT (InR w.heap.size w'.heap.size) ra rn (agS ss ts ds zs) xa xn (agT ss ts ds zs) ya yn (agD ss ts ds zs) w' ∧ Below w.heap.size w w' := by
  have M0 := (((Mm.start w).alloc3 (.slice a n c) (.slice ta tn tc) (.slice da dn dc) 36).alloc1 (.slice b lb cb) 41).alloc5 (.int .i64 0) (.int .i64 0) (.slice none 0 0) (.slice none 0 0) (.slice none 0 0) 38
  simp only [World.size_alloc] at M0
  have hrt0 := hrt.below M0.bel (Nat.le_refl _)
  have hy0 := hy.below M0.bel (Nat.le_refl _)
  go_enter Try.func13, Try.ntmps13
  go_wp2_with fail
  refine (openTablesFor_calls a n c ss ta tn tc ts da dn dc ds b lb cb zs _ hrt0 hlb hy0).mono ?_
  rintro e w1 ⟨sz, mo, xa, xn, xc, ya, yn, yc, rfl, g1, hled⟩
  have M1a := M0.below g1
  have zR := M1a.lt 0 rfl
  have M1 := (M0.below g1).alloc4 (.int .i64 sz) (.map mo) (.slice xa xn xc) (.slice ya yn yc) 81
  have z1 := g1.size
  simp only [World.size_alloc] at z1
  by_cases hf : otF ss ts ds zs = 0
  rotate_left
  · have HC : Hid (agC ss ts ds zs = otF ss ts ds zs) := if_neg hf
    have hf' : agC ss ts ds zs ≠ 0 := by rw [HC.out]; exact hf
    have HV : Hid (agV ss ts ds zs = 0) := if_neg hf'
    have HS : Hid (agS ss ts ds zs = []) := if_neg hf'
    have HT : Hid (agT ss ts ds zs = []) := if_neg hf'
    have HD : Hid (agD ss ts ds zs = []) := if_neg hf'
    clear hf'
    have e1 : (otF ss ts ds zs == 0) = false := by simpa using hf
    have e2 : (otF ss ts ds zs != 0) = true := by simpa using hf
    have c0 := M1a.cell 0 rfl
    have c1 := M1a.cell 1 rfl
    have c2 := M1a.cell 2 rfl
    have c3 := M1a.cell 3 rfl
    have c4 := M1a.cell 4 rfl
    have f0 := M1a.fz 0 rfl
    have f1 := M1a.fz 1 rfl
    have f2 := M1a.fz 2 rfl
    have f3 := M1a.fz 3 rfl
    have f4 := M1a.fz 4 rfl
    have HB := hide M1a.bel
    clear hf M0 M1 M1a g1 hrt0 hy0 hled
    go_wp2
    refine bodyPost_ret (v := .agg #[.int .i64 (otF ss ts ds zs), .int .i64 0, .slice none 0 0, .slice none 0 0, .slice none 0 0]) (by simp [results, Try.results13, go_sem, c0, c1, c2, c3, c4, zR]) rfl ⟨_, _, _, _, _, _, _, _, _, by rw [HC.out, HV.out], ?_, (below_set5 HB.out (by omega) _ _ _ _ _).alloc (by simp; omega) _⟩
    rw [HS.out, HT.out, HD.out]
    exact OT.nil _ _ _ _ _
  obtain ⟨hf1, hz⟩ := otF_zero hf
  obtain ⟨rfl, M, X1, X2, X3, rfl, l1, l2, l3, l4, l5, own, ox, oy⟩ := hled hf1
  simp only [World.size_alloc] at l1
  obtain rfl : lb = 4 := by have := fault_len hz; have := hy.1; omega
  obtain ⟨hr, hmy, _, _, _⟩ := tabF_zero hf1
  have hml := many_len hmy
  have good := good_of hr
  have few := good.few
  have hxn1 : ts.length ≤ xn := Nat.le_of_eq ox.1.1
  have hxn2 : xn ≤ ts.length := Nat.le_of_eq ox.1.1.symm
  have HXL := hide ox.1.1
  have al := (Below.refl w1.heap.size w1).alloc (Nat.le_refl _) (.cells #[.int .i64 (ss.length : Int), .map (some M), .slice xa xn xc, .slice ya yn yc] 81)
  have hbk : Bk (w1.alloc (.cells #[.int .i64 (ss.length : Int), .map (some M), .slice xa xn xc, .slice ya yn yc] 81)) w1.heap.size M (ss.length : Int) ss.length (bk ss ss.length) := ⟨by simp, by simp, by simp, fun j => by simp, ownsMap_below own al (Nat.le_refl _)⟩
  have hM1 := own.lt
  have M2 := M1.alloc1 (.slice b 4 cb) 41
  have al2 := (Below.refl _ (w1.alloc (.cells #[.int .i64 (ss.length : Int), .map (some M), .slice xa xn xc, .slice ya yn yc] 81))).alloc (Nat.le_refl _) (.cells #[.slice b 4 cb] 41)
  have hy2 := ((hy0.below g1 (Nat.le_refl _)).below al (Nat.le_refl _)).below al2 (Nat.le_refl _)
  have hb2 := hbk.below al2
  have ox2 := RW.loc.below al2 (RW.loc.below al ox)
  have oy2 := OS.loc.below al2 (OS.loc.below al oy.1)
  have lc1 := M1.cell 9 rfl
  have lc2 := M2.cell 0 rfl
  simp only [World.size_alloc] at lc2
  rw [hf]
  clear M0 M1 M1a g1 hrt0 hy0 hled own ox oy al al2 hbk hf1
  go_wp2_with fail
  refine (areThings_calls (some ⟨w1.heap.size + 1, 0, none⟩) 1 1 [zs] _ (by omega) (lbs_one lc2 hlb hy2)).mono ?_
  rintro e w2 ⟨rfl, g2⟩
  rw [things_one hz]
  have M3 := M2.below g2
  have z2 := g2.size
  simp only [World.size_alloc] at z2
  have hb3 := hb2.below g2
  have hy3 := hy2.below g2 (Nat.le_refl _)
  have ox3 := RW.loc.below g2 ox2
  have oy3 := OS.loc.below g2 oy2
  clear M2 g2 hb2 hy2 ox2 oy2 lc1 lc2
  by_cases ht : thing0 zs = true
  rotate_left
  · have htf : thing0 zs = false := by simpa using ht
    have HC : Hid (agC ss ts ds zs = 1) := by show _ = _; unfold agC; rw [if_pos hf, if_neg ht]
    have hf' : agC ss ts ds zs ≠ 0 := by rw [HC.out]; decide
    have HV : Hid (agV ss ts ds zs = 0) := if_neg hf'
    have HS : Hid (agS ss ts ds zs = []) := if_neg hf'
    have HT : Hid (agT ss ts ds zs = []) := if_neg hf'
    have HD : Hid (agD ss ts ds zs = []) := if_neg hf'
    rw [htf]
    have c0 := M3.cell 5 rfl
    have c1 := M3.cell 6 rfl
    have c2 := M3.cell 7 rfl
    have c3 := M3.cell 8 rfl
    have c4 := M3.cell 9 rfl
    have f0 := M3.fz 5 rfl
    have f1 := M3.fz 6 rfl
    have f2 := M3.fz 7 rfl
    have f3 := M3.fz 8 rfl
    have f4 := M3.fz 9 rfl
    have HB := hide M3.bel
    clear hf hf' ht htf M3 hb3 hy3 ox3 oy3 hz hr
    go_wp2
    refine bodyPost_ret (v := .agg #[.int .i64 1, .int .i64 0, .slice none 0 0, .slice none 0 0, .slice none 0 0]) (by simp [results, Try.results13, go_sem, c0, c1, c2, c3, c4]) rfl ⟨_, _, _, _, _, _, _, _, _, by rw [HC.out, HV.out], ?_, below_set5 HB.out (by omega) _ _ _ _ _⟩
    rw [HS.out, HT.out, HD.out]
    exact OT.nil _ _ _ _ _
  have HC : Hid (agC ss ts ds zs = if xn = 6 then 7 else etC ss zs) := by show _ = _; unfold agC; rw [if_pos hf, if_pos ht, HXL.out]
  rw [ht]
  have p2 := M3.cell 3 rfl
  have p3 := M3.cell 4 rfl
  have lc3 := M3.cell 10 rfl
  have Hr := hide hr
  have Hz := hide hz
  clear hf ht hr hz
  go_wp2_with fail
  refine (oneMore_calls w1.heap.size M ss.length 6 ss zs _ (InR X1 X2) xa xn xc ts b cb _ hb3 (by omega) good (rep_bk Hr.out) Hz.out ox3 (fun e => by have := e.1; omega) (fun e => by have := e.2; omega) hy3 (by omega) (by omega)).mono ?_
  rintro e w3 ⟨ra, rn, rc, rfl, u3, k3, hfin⟩
  have z3 := u3.size
  have q2 := ((k3 2).1 (by omega)).trans p2
  have q3 := ((k3 3).1 (by omega)).trans p3
  have qf := (k3 2).2.trans (hb3.f 2)
  have M4 : Mm w w3 [(w.heap.size + 1 + 1, 0, .int .i64 0), (w.heap.size + 1 + 1, 1, .int .i64 0), (w.heap.size + 1 + 1, 2, .slice none 0 0), (w.heap.size + 1 + 1, 3, .slice none 0 0), (w.heap.size + 1 + 1, 4, .slice none 0 0)] [] :=
    (M3.sub (fun _ h => by simp only [List.mem_cons, List.not_mem_nil, or_false] at h ⊢; rcases h with h | h | h | h | h <;> simp [h]) (fun _ h => by cases h)).out (B := M) (T := w1.heap.size + 1) (u3.mono (fun k hk => by rcases hk with (hk | hk) | hk; exact ⟨by omega, by omega⟩; exact ⟨by omega, by omega⟩; exact ⟨by have := hk.1; omega, by have := hk.2; omega⟩)) (by omega) (by simp <;> omega) (by simp)
  have oy4 := OS.loc.out u3 (fun k h h' => by have := h.1; have := h.2; rcases h' with (h' | h') | h'; omega; omega; have := h'.2; omega) oy3
  clear M3 u3 k3 hb3 hy3 ox3 oy3 p2 p3 lc3
  by_cases hk : (if xn = 6 then 7 else etC ss zs) = 0
  rotate_left
  · have hf' : agC ss ts ds zs ≠ 0 := by rw [HC.out]; exact hk
    have HV : Hid (agV ss ts ds zs = 0) := if_neg hf'
    have HS : Hid (agS ss ts ds zs = []) := if_neg hf'
    have HT : Hid (agT ss ts ds zs = []) := if_neg hf'
    have HD : Hid (agD ss ts ds zs = []) := if_neg hf'
    rw [← HC.out] at hk ⊢
    have e2 : (agC ss ts ds zs != 0) = true := by simpa using hk
    have M5 := M4
    have c0 := M5.cell 0 rfl
    have c1 := M5.cell 1 rfl
    have c2 := M5.cell 2 rfl
    have c3 := M5.cell 3 rfl
    have c4 := M5.cell 4 rfl
    have f0 := M5.fz 0 rfl
    have f1 := M5.fz 1 rfl
    have f2 := M5.fz 2 rfl
    have f3 := M5.fz 3 rfl
    have f4 := M5.fz 4 rfl
    have HB := hide M5.bel
    have HP : Hid (w.heap.size ≤ w1.heap.size) := by show _ ≤ _; omega
    have hne : w.heap.size + 1 + 1 ≠ w1.heap.size := by omega
    clear hf' hk M4 M5 hfin oy4 HC
    go_wp2
    refine bodyPost_ret (v := .agg #[.int .i64 (agC ss ts ds zs), .int .i64 0, .slice none 0 0, .slice none 0 0, .slice none 0 0]) (by simp [results, Try.results13, go_sem, c0, c1, c2, c3, c4]) rfl ⟨_, _, _, _, _, _, _, _, _, by rw [HV.out], ?_, below_set5 (HB.out.setCell HP.out _) (by omega) _ _ _ _ _⟩
    rw [HS.out, HT.out, HD.out]
    exact OT.nil _ _ _ _ _
  have h6 : xn ≠ 6 := fun e => by rw [if_pos e] at hk; cases hk
  have het : etC ss zs = 0 := by rw [if_neg h6] at hk; exact hk
  have HC0 : Hid (agC ss ts ds zs = 0) := HC.out.trans hk
  have HV : Hid (agV ss ts ds zs = (ts.length : Int) + 1) := if_pos HC0.out
  have HS : Hid (agS ss ts ds zs = enS ss zs) := if_pos HC0.out
  have HT : Hid (agT ss ts ds zs = ts ++ [(enQ ss zs : Int)]) := if_pos HC0.out
  have HD : Hid (agD ss ts ds zs = ds) := if_pos HC0.out
  obtain ⟨rfl, ox4, D3, hb4, hrep⟩ := hfin h6 het
  have gl2 := good_enter good Hz.out het
  rw [hk]
  have hb5 : Bk (w3.setCell ⟨w1.heap.size, 2, none⟩ (.slice ra (xn + 1) rc)) w1.heap.size M ((enS ss zs).length : Int) (ss.length + 1) D3 := by
    refine ⟨by simpa using hb4.lt, ?_, ?_, fun k => by simpa using hb4.f k, hb4.own.setCell (by show M ≠ w1.heap.size; omega) _⟩
    · rw [World.cell?_setCell_other _ _ _ _ (fun e => by injection e with _ e2; omega)]; exact hb4.c0
    · rw [World.cell?_setCell_other _ _ _ _ (fun e => by injection e with _ e2; omega)]; exact hb4.c1
  have ox5 := OS.loc.setC ox4 (q := ⟨w1.heap.size, 2, none⟩) (fun e => by simp only at e; rcases e with e | e; have := e.2; omega; have := e.1; omega) (.slice ra (xn + 1) rc)
  have oy5 := OS.loc.setC oy4 (q := ⟨w1.heap.size, 2, none⟩) (fun e => by have := e.2; simp only at this; omega) (.slice ra (xn + 1) rc)
  have s2 : (w3.setCell ⟨w1.heap.size, 2, none⟩ (.slice ra (xn + 1) rc)).cell? ⟨w1.heap.size, 2, none⟩ = some (.slice ra (xn + 1) rc) := World.cell?_setCell_same _ _ _ q2
  have s3 : (w3.setCell ⟨w1.heap.size, 2, none⟩ (.slice ra (xn + 1) rc)).cell? ⟨w1.heap.size, 3, none⟩ = some (.slice ya yn yc) := (World.cell?_setCell_other _ _ _ _ (fun e => by injection e with _ e2; omega)).trans q3
  have M5 := M4.out (B := w1.heap.size) (T := w1.heap.size + 1) ((OutS.refl (InR w1.heap.size (w1.heap.size + 1)) w3).setCell (p := ⟨w1.heap.size, 2, none⟩) ⟨Nat.le_refl _, Nat.lt_succ_self _⟩ (.slice ra (xn + 1) rc)) (by omega) (by simp <;> omega) (by simp)
  obtain ⟨W4, hW4⟩ : ∃ x, x = w3.setCell ⟨w1.heap.size, 2, none⟩ (.slice ra (xn + 1) rc) := ⟨_, rfl⟩
  have HW4 := hide hW4
  rw [← hW4] at M5 hb5 ox5 oy5 s2 s3
  have z4 : w3.heap.size ≤ W4.heap.size := by rw [hW4]; simp
  have z4' : W4.heap.size ≤ w3.heap.size := by rw [hW4]; simp
  have ec : ((0 : Int) != 0) = false := by simp
  clear hW4 M4 ox4 oy4 hb4 hfin hk HC
  go_upto_region 8 with fail
  rw [← HW4.out]
  clear HW4 q2 q3 qf
  go_wp2_with fail
  refine (lastTag_calls w1.heap.size ra (xn + 1) rc _ s2).mono ?_
  rintro e w4 ⟨rfl, g4⟩
  have M6 := M5.below g4
  have z5 := g4.size
  have hb6 := hb5.below g4
  have ox6 := OS.loc.below g4 ox5
  have oy6 := OS.loc.below g4 oy5
  have hPl := hb5.lt
  have t2 := (g4.cell (p := ⟨w1.heap.size, 2, none⟩) hPl).trans s2
  have t3 := (g4.cell (p := ⟨w1.heap.size, 3, none⟩) hPl).trans s3
  clear M5 g4 hb5 ox5 oy5 s2 s3
  go_wp2_with fail
  refine (tables_calls w1.heap.size M _ (enS ss zs) D3 ra (xn + 1) rc ya yn yc _ hb6 gl2 hrep t2 t3).mono ?_
  rintro e w5 ⟨bb, rfl, o5, g5⟩
  have M7 := M6.below g5
  have z6 := g5.size
  have ox7 := OS.loc.below g5 ox6
  have oy7 := OS.loc.below g5 oy6
  have c0 := M7.cell 0 rfl
  have c1 := M7.cell 1 rfl
  have c2 := M7.cell 2 rfl
  have c3 := M7.cell 3 rfl
  have c4 := M7.cell 4 rfl
  have f0 := M7.fz 0 rfl
  have f1 := M7.fz 1 rfl
  have f2 := M7.fz 2 rfl
  have f3 := M7.fz 3 rfl
  have f4 := M7.fz 4 rfl
  have HB := hide M7.bel
  have HO : Hid (∀ v0 v1 v2 v3 v4, OT (InR w.heap.size w5.heap.size) (some ⟨bb, 0, none⟩) (enS ss zs).length (enS ss zs) ra (xn + 1) (ts ++ [(enQ ss zs : Int)]) ya yn ds (((((w5.setCell ⟨w.heap.size + 1 + 1, 0, none⟩ v0).setCell ⟨w.heap.size + 1 + 1, 1, none⟩ v1).setCell ⟨w.heap.size + 1 + 1, 2, none⟩ v2).setCell ⟨w.heap.size + 1 + 1, 3, none⟩ v3).setCell ⟨w.heap.size + 1 + 1, 4, none⟩ v4)) := fun v0 v1 v2 v3 v4 =>
    OT.ofS (loc_set5 OR.loc o5 (fun e => by have := e.1; omega) v0 v1 v2 v3 v4) (loc_set5 OS.loc ox7 (fun e => by rcases e with e | e; have := e.1; omega; have := e.1; omega) v0 v1 v2 v3 v4) (loc_set5 OS.loc oy7 (fun e => by have := e.1; omega) v0 v1 v2 v3 v4)
      (fun k h => ⟨by have := h.1; omega, by have := h.2; omega⟩) (fun k h => by rcases h with h | h; exact ⟨by have := h.1; omega, by have := h.2; omega⟩; exact ⟨by have := h.1; omega, by have := h.2; omega⟩) (fun k h => ⟨by have := h.1; omega, by have := h.2; omega⟩)
      (fun k h h' => by have := h.1; rcases h' with h' | h'; have := h'.2; omega; have := h'.2; omega) (fun k h h' => by have := h.1; have := h'.2; omega) (fun k h h' => by have := h'.1; have := h'.2; rcases h with h | h; have := h.2; omega; have := h.1; omega)
  clear M6 M7 g5 o5 ox6 oy6 ox7 oy7 hb6 hrep t2 t3
  go_wp2
  refine bodyPost_ret (v := .agg #[.int .i64 0, .int .i64 ((xn : Int) + 1), .slice (some ⟨bb, 0, none⟩) (enS ss zs).length (enS ss zs).length, .slice ra (xn + 1) rc, .slice ya yn yc]) (by simp [results, Try.results13, go_sem, c0, c1, c2, c3, c4]) rfl ⟨_, _, _, _, _, _, _, _, _, by rw [HC0.out, HV.out, HXL.out], ?_, below_set5 HB.out (by omega) _ _ _ _ _⟩
  rw [HS.out, HT.out, HD.out]
  simpa using HO.out _ _ _ _ _

end Go.Proofs.Ytoignmalopmlaaa
