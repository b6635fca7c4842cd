import Derived.Test.YtgkjmeogdomgmaaAddP
import Derived.Test.YtgkjmeogdomgmaaL2EnterF
import Derived.Test.YtgkjmeogdomgmaaL3CopyR
import Derived.Test.YtgkjmeogdomgmaaDropP
import Derived.Deep.AppendLies
import Derived.WalkKit
import Derived.ProofKit
import Derived.OpenShut
import Derived.ShutString
import Derived.ChangeOld
import Derived.Below
import Derived.WalkSpells
import Derived.Deep.QuietTactic
import Derived.BigQuiet
import Derived.Deep.RegionWith
import Derived.Deep.WholeRow
import Derived.Deep.DeepCutAuto
import Derived.Deep.RegionHeld2
import Derived.Deep.AppendLies
import Derived.Deep.RegionLaw
namespace Go.Proofs.Ytgkjmeogdomgmaa
open Go.ChangeShapes Go.WideShapes Go.ChangeAt Go.RowKit

/-- owned tables whose row of tags has its room: three sets of blocks, apart. -/
def OTW (S : Nat → Prop) (a : Option Addr) (n : Nat) (ss : List (Int × List Int)) (ta : Option Addr) (tn tc : Nat) (ts : List Int) (da : Option Addr) (dn : Nat) (ds : List Int) (w : World) : Prop :=
  ∃ S1 S2 S3 : Nat → Prop, (∀ k, S1 k → S k) ∧ (∀ k, S2 k → S k) ∧ (∀ k, S3 k → S k) ∧ (∀ k, S1 k → ¬ S2 k) ∧ (∀ k, S1 k → ¬ S3 k) ∧ (∀ k, S2 k → ¬ S3 k) ∧ OR S1 a n ss w ∧ RW S2 ta tn tc ts w ∧ OS S3 da dn ds w

theorem OTW.nil (S : Nat → Prop) (w : World) : OTW S none 0 [] none 0 0 [] none 0 [] w :=
  ⟨fun _ => False, fun _ => False, fun _ => False, fun _ h => h.elim, fun _ h => h.elim, fun _ h => h.elim, fun _ h => h.elim, fun _ h => h.elim, fun _ h => h.elim, ⟨rfl, by simp [lenSum], .inl rfl⟩, RW.nil _ _ rfl, ⟨rfl, by omega, .inl rfl⟩⟩

theorem OTW.ofS {S1 S2 S3 S : Nat → Prop} {a : Option Addr} {n : Nat} {ss : List (Int × List Int)} {ta : Option Addr} {tn tc : Nat} {ts : List Int} {da : Option Addr} {dn : Nat} {ds : List Int} {w : World} (o1 : OR S1 a n ss w) (o2 : RW S2 ta tn tc ts w) (o3 : OS S3 da dn ds w)
    (h1 : ∀ k, S1 k → S k) (h2 : ∀ k, S2 k → S k) (h3 : ∀ k, S3 k → S k) (d12 : ∀ k, S1 k → ¬ S2 k) (d13 : ∀ k, S1 k → ¬ S3 k) (d23 : ∀ k, S2 k → ¬ S3 k) : OTW S a n ss ta tn tc ts da dn ds w := ⟨S1, S2, S3, h1, h2, h3, d12, d13, d23, o1, o2, o3⟩

theorem RW.grown {S : Nat → Prop} {n cp g : Nat} {ts : List Int} {x : Int} {w : World} (hos : OS S (some ⟨g, 0, none⟩) (n + 1) (ts ++ [x]) w) (hown : w.ownsRow 0 2 1 (.slice (some ⟨g, 0, none⟩) (n + 1) cp) (n + 1) (ts.map (Value.int .i64) ++ [.int .i64 x])) : RW S (some ⟨g, 0, none⟩) (n + 1) cp (ts ++ [x]) w := by
  refine ⟨hos, by rw [List.map_append]; exact hown, fun g' hg => ?_⟩
  simp [Value.ownBlock] at hg
  subst hg
  rcases hos.2.2 with h | ⟨b, e, hb, _⟩
  · omega
  · injection e with e; injection e with e; rw [e]; exact hb

set_option maxRecDepth 100000 in
set_option maxHeartbeats 2000000 in
theorem specAddTagW_calls (a : Option Addr) (n c : Nat) (ss : List (Int × List Int)) (ta : Option Addr) (tn tc : Nat) (ts : List Int) (da : Option Addr) (dn dc : Nat) (ds : List Int) (b : Option Addr) (lb cb : Nat) (zs : List Int) (w : World) (hrt : RT w a n ss ta tn ts da dn ds) (hlb : lb ≤ maxLen) (hy : Sl w b lb zs) :
    Calls Try.prog 93 #[.agg #[.slice a n c, .slice ta tn tc, .slice da dn dc], .agg #[.slice b lb cb]] w fun e w' => ∃ ra rn rc xa xn xc ya yn yc, e = .returned (.agg #[.int .i64 (agC ss ts ds zs), .int .i64 (agV ss ts ds zs), .slice ra rn rc, .slice xa xn xc, .slice ya yn yc]) ∧
      OTW (InR w.heap.size w'.heap.size) ra rn (agS ss ts ds zs) xa xn xc (agT ss ts ds zs) ya yn (agD ss ts ds zs) w' ∧ Below w.heap.size w w' := by
  have M0 := (((Mm.start w).alloc3 (.slice a n c) (.slice ta tn tc) (.slice da dn dc) 36).alloc1 (.slice b lb cb) 41).alloc5 (.int .i64 0) (.int .i64 0) (.slice none 0 0) (.slice none 0 0) (.slice none 0 0) 38
  simp only [World.size_alloc] at M0
  have hrt0 := hrt.below M0.bel (Nat.le_refl _)
  have hy0 := hy.below M0.bel (Nat.le_refl _)
  have HTL := hide hrt.2.2.2.1.1
  have HDL := hide hrt.2.2.2.2.2.1
  have hsl1 : ss.length ≤ n := Nat.le_of_eq hrt.2.1.1
  have hsl2 : n ≤ ss.length := Nat.le_of_eq hrt.2.1.1.symm
  have htl1 : ts.length ≤ tn := Nat.le_of_eq HTL.out
  have htl2 : tn ≤ ts.length := Nat.le_of_eq HTL.out.symm
  have hdl1 : ds.length ≤ dn := Nat.le_of_eq HDL.out
  have hdl2 : dn ≤ ds.length := Nat.le_of_eq HDL.out.symm
  go_enter Try.func93, Try.ntmps93
  go_wp2_with fail
  refine (l3Asked_calls _ _ a n c ss ta tn tc ts da dn dc ds b lb cb zs _ (M0.lt 6 rfl) (M0.cell 6 rfl) (M0.cell 7 rfl) (M0.cell 8 rfl) hrt0 (M0.lt 5 rfl) (M0.cell 5 rfl) hlb hy0).mono ?_
  rintro e w1 ⟨rfl, g1⟩
  have M1 := M0.below g1
  have hrt1 := hrt0.below g1 (Nat.le_refl _)
  have hy1 := hy0.below g1 (Nat.le_refl _)
  have z1 := g1.size
  simp only [World.size_alloc] at z1
  clear M0 g1 hrt0 hy0
  by_cases hf : otF ss ts ds zs = 0
  rotate_left
  · have HC : Hid (agC ss ts ds zs = otF ss ts ds zs) := if_neg hf
    have hf' : agC ss ts ds zs ≠ 0 := by rw [HC.out]; exact hf
    have HV : Hid (agV ss ts ds zs = 0) := if_neg hf'
    have HS : Hid (agS ss ts ds zs = []) := if_neg hf'
    have HT : Hid (agT ss ts ds zs = []) := if_neg hf'
    have HD : Hid (agD ss ts ds zs = []) := if_neg hf'
    have e2 : (otF ss ts ds zs != 0) = true := by simpa using hf
    clear hf' hf hrt1 hy1
    go_wp2_with fail
    refine (l3Bad_calls _ _).mono ?_
    rintro e w2 ⟨rfl, g2⟩
    have M2 := M1.below g2
    have c0 := M2.cell 0 rfl
    have c1 := M2.cell 1 rfl
    have c2 := M2.cell 2 rfl
    have c3 := M2.cell 3 rfl
    have c4 := M2.cell 4 rfl
    have f0 := M2.fz 0 rfl
    have f1 := M2.fz 1 rfl
    have f2 := M2.fz 2 rfl
    have f3 := M2.fz 3 rfl
    have f4 := M2.fz 4 rfl
    have HB := hide M2.bel
    clear M1 M2 g2
    go_wp2
    refine bodyPost_ret (v := .agg #[.int .i64 (otF ss ts ds zs), .int .i64 0, .slice none 0 0, .slice none 0 0, .slice none 0 0]) (by simp [results, Try.results93, go_sem, c0, c1, c2, c3, c4]) rfl ⟨_, _, _, _, _, _, _, _, _, by rw [HC.out, HV.out], ?_, below_set5 HB.out (by omega) _ _ _ _ _⟩
    rw [HS.out, HT.out, HD.out]
    exact OTW.nil _ _
  obtain ⟨hf1, hz⟩ := otF_zero hf
  obtain rfl : lb = 4 := by have := fault_len hz; have := hy.1; omega
  obtain ⟨hr, hmy, _, _, _⟩ := tabF_zero hf1
  have hml := many_len hmy
  have good := good_of hr
  have hsum := good_sum good
  have lc1 := M1.cell 5 rfl
  rw [hf]
  clear hf1
  go_wp2_with fail
  refine (l1ThingO_calls (w.heap.size + 1) 0 b 4 cb zs _ hlb lc1 hy1).mono ?_
  rintro e w1' ⟨rfl, rfl⟩
  by_cases ht : thing0 zs = true
  rotate_left
  · have htf : thing0 zs = false := by simpa using ht
    have HC : Hid (agC ss ts ds zs = 1) := by show _ = _; unfold agC; rw [if_pos hf, if_neg ht]
    have hf' : agC ss ts ds zs ≠ 0 := by rw [HC.out]; decide
    have HV : Hid (agV ss ts ds zs = 0) := if_neg hf'
    have HS : Hid (agS ss ts ds zs = []) := if_neg hf'
    have HT : Hid (agT ss ts ds zs = []) := if_neg hf'
    have HD : Hid (agD ss ts ds zs = []) := if_neg hf'
    rw [htf]
    clear hf' hf ht htf hrt1 hy1 hz hr lc1
    go_wp2_with fail
    refine (l3Bad_calls _ _).mono ?_
    rintro e w2 ⟨rfl, g2⟩
    have M2 := M1.below g2
    have c0 := M2.cell 0 rfl
    have c1 := M2.cell 1 rfl
    have c2 := M2.cell 2 rfl
    have c3 := M2.cell 3 rfl
    have c4 := M2.cell 4 rfl
    have f0 := M2.fz 0 rfl
    have f1 := M2.fz 1 rfl
    have f2 := M2.fz 2 rfl
    have f3 := M2.fz 3 rfl
    have f4 := M2.fz 4 rfl
    have HB := hide M2.bel
    clear M1 M2 g2
    go_wp2
    refine bodyPost_ret (v := .agg #[.int .i64 1, .int .i64 0, .slice none 0 0, .slice none 0 0, .slice none 0 0]) (by simp [results, Try.results93, go_sem, c0, c1, c2, c3, c4]) rfl ⟨_, _, _, _, _, _, _, _, _, by rw [HC.out, HV.out], ?_, below_set5 HB.out (by omega) _ _ _ _ _⟩
    rw [HS.out, HT.out, HD.out]
    exact OTW.nil _ _
  have HC : Hid (agC ss ts ds zs = if tn = 6 then 7 else etC ss zs) := by show _ = _; unfold agC; rw [if_pos hf, if_pos ht, HTL.out]
  rw [ht]
  have k0 := M1.cell 6 rfl
  have k1 := M1.cell 7 rfl
  have k2 := M1.cell 8 rfl
  have Hz := hide hz
  clear hf ht hz hr lc1
  go_wp2_with fail
  refine (l3Copy_R a n c ss ta tn tc ts da dn dc ds _ (by omega) (by omega) (by omega) hrt1).mono ?_
  rintro e w2 ⟨ra, rc, xa, xc, ya, yc, rfl, L2, g2⟩
  have M2 := (M1.below g2).alloc3 (.slice ra n rc) (.slice xa tn xc) (.slice ya dn yc) 36
  have z2 := g2.size
  have al := (Below.refl w2.heap.size w2).alloc (Nat.le_refl _) (.cells #[.slice ra n rc, .slice xa tn xc, .slice ya dn yc] 36)
  obtain ⟨B1, B2, B3, B4, b1, b2, b3, b4, b5, o1, o2, o3⟩ := L2
  obtain ⟨o1a, ⟨xs, hxs⟩, hvT⟩ := RG.loc.below al o1
  have o2a := RW.loc.below al o2
  have o3a := OS.loc.below al o3.1
  have hy2 := (hy1.below g2 (Nat.le_refl _)).below al (Nat.le_refl _)
  have s0 := M2.cell 0 rfl
  have s1 := M2.cell 1 rfl
  have s2 := M2.cell 2 rfl
  have t0 := M2.fz 0 rfl
  have t1 := M2.fz 1 rfl
  have lc2 := M2.cell 8 rfl
  have zP : w2.heap.size < (w2.alloc (.cells #[.slice ra n rc, .slice xa tn xc, .slice ya dn yc] 36)).heap.size := by simp
  clear g2 al o1 o2 o3 M1 k0 k1 k2 hrt1 hy1
  by_cases h6 : tn = 6
  · have HC7 : Hid (agC ss ts ds zs = 7) := by show _ = _; rw [HC.out, if_pos h6]
    have hf' : agC ss ts ds zs ≠ 0 := by rw [HC7.out]; decide
    have HV : Hid (agV ss ts ds zs = 0) := if_neg hf'
    have HS : Hid (agS ss ts ds zs = []) := if_neg hf'
    have HT : Hid (agT ss ts ds zs = []) := if_neg hf'
    have HD : Hid (agD ss ts ds zs = []) := if_neg hf'
    have eg : decide ((6 : Int) ≤ (tn : Int)) = true := by simp; omega
    clear hf' o1a o2a o3a hy2 hxs hvT HC h6
    go_wp2_with fail
    refine (l3Bad_calls _ _).mono ?_
    rintro e w3 ⟨rfl, g3⟩
    have M3 := M2.below g3
    have c0 := M3.cell 3 rfl
    have c1 := M3.cell 4 rfl
    have c2 := M3.cell 5 rfl
    have c3 := M3.cell 6 rfl
    have c4 := M3.cell 7 rfl
    have f0 := M3.fz 3 rfl
    have f1 := M3.fz 4 rfl
    have f2 := M3.fz 5 rfl
    have f3 := M3.fz 6 rfl
    have f4 := M3.fz 7 rfl
    have HB := hide M3.bel
    clear M2 M3 g3 s0 s1 s2 t0 t1 lc2
    go_wp2
    refine bodyPost_ret (v := .agg #[.int .i64 7, .int .i64 0, .slice none 0 0, .slice none 0 0, .slice none 0 0]) (by simp [results, Try.results93, go_sem, c0, c1, c2, c3, c4]) rfl ⟨_, _, _, _, _, _, _, _, _, by rw [HC7.out, HV.out], ?_, below_set5 HB.out (by omega) _ _ _ _ _⟩
    rw [HS.out, HT.out, HD.out]
    exact OTW.nil _ _
  have HCe : Hid (agC ss ts ds zs = etC ss zs) := by show _ = _; rw [HC.out, if_neg h6]
  have eg : decide ((6 : Int) ≤ (tn : Int)) = false := by simp; omega
  clear HC h6
  go_wp2_with fail
  refine (l2Enter_O w2.heap.size (w.heap.size + 1) B1 B2 ra b n rc cb ss zs xs _ zP (by omega) (by omega) b2 s0 t0 lc2 o1a hxs (fun g hg => (hvT g hg).2) good hy2 Hz.out).mono ?_
  rintro e w3 ⟨rfl, hfin, u3, k3⟩
  have z3 := u3.size
  simp only [World.size_alloc] at z3
  have q1 := ((k3 1).1 (by omega)).trans s1
  have q2 := ((k3 2).1 (by omega)).trans s2
  have qf := (k3 1).2.trans t1
  have M3 : Mm w w3 [(w.heap.size + 1 + 1, 0, .int .i64 0), (w.heap.size + 1 + 1, 1, .int .i64 0), (w.heap.size + 1 + 1, 2, .slice none 0 0), (w.heap.size + 1 + 1, 3, .slice none 0 0), (w.heap.size + 1 + 1, 4, .slice none 0 0)] [] :=
    (M2.sub (fun _ h => by simp only [List.mem_cons, List.not_mem_nil, or_false] at h ⊢; rcases h with h | h | h | h | h <;> simp [h]) (fun _ h => by cases h)).out (B := B1) (T := w2.heap.size + 1) (u3.mono (fun k hk => by rcases hk with hk | hk; exact ⟨hk.1, by have := hk.2; omega⟩; exact ⟨by omega, by omega⟩)) (by omega) (by simp <;> omega) (by simp)
  have o2b := RW.loc.out u3 (fun k h h' => by have := h.1; have := h.2; rcases h' with h' | h'; have := h'.2; omega; omega) o2a
  have o3b := OS.loc.out u3 (fun k h h' => by have := h.1; have := h.2; rcases h' with h' | h'; have := h'.2; omega; omega) o3a
  clear M2 u3 k3 hy2 o1a o2a o3a hxs hvT s0 s1 s2 t0 t1 lc2
  by_cases het : etC ss zs = 0
  rotate_left
  · have h7 : etC ss zs = 7 := by unfold etC at het ⊢; split at het <;> simp_all
    have HC7 : Hid (agC ss ts ds zs = 7) := HCe.out.trans h7
    have hf' : agC ss ts ds zs ≠ 0 := by rw [HC7.out]; decide
    have HV : Hid (agV ss ts ds zs = 0) := if_neg hf'
    have HS : Hid (agS ss ts ds zs = []) := if_neg hf'
    have HT : Hid (agT ss ts ds zs = []) := if_neg hf'
    have HD : Hid (agD ss ts ds zs = []) := if_neg hf'
    rw [if_neg het]
    clear hf' hfin o2b o3b het h7 HCe
    go_wp2_with fail
    refine (l3Bad_calls _ _).mono ?_
    rintro e w4 ⟨rfl, g4⟩
    have M4 := M3.below g4
    have c0 := M4.cell 0 rfl
    have c1 := M4.cell 1 rfl
    have c2 := M4.cell 2 rfl
    have c3 := M4.cell 3 rfl
    have c4 := M4.cell 4 rfl
    have f0 := M4.fz 0 rfl
    have f1 := M4.fz 1 rfl
    have f2 := M4.fz 2 rfl
    have f3 := M4.fz 3 rfl
    have f4 := M4.fz 4 rfl
    have HB := hide M4.bel
    clear M3 M4 g4 q1 q2 qf
    go_wp2
    refine bodyPost_ret (v := .agg #[.int .i64 7, .int .i64 0, .slice none 0 0, .slice none 0 0, .slice none 0 0]) (by simp [results, Try.results93, go_sem, c0, c1, c2, c3, c4]) rfl ⟨_, _, _, _, _, _, _, _, _, by rw [HC7.out, HV.out], ?_, below_set5 HB.out (by omega) _ _ _ _ _⟩
    rw [HS.out, HT.out, HD.out]
    exact OTW.nil _ _
  have HC0 : Hid (agC ss ts ds zs = 0) := HCe.out.trans het
  have HV : Hid (agV ss ts ds zs = (ts.length : Int) + 1) := if_pos HC0.out
  have HS : Hid (agS ss ts ds zs = enS ss zs) := if_pos HC0.out
  have HT : Hid (agT ss ts ds zs = ts ++ [(enQ ss zs : Int)]) := if_pos HC0.out
  have HD : Hid (agD ss ts ds zs = ds) := if_pos HC0.out
  obtain ⟨a4, ca4, q0, o4⟩ := hfin het
  rw [if_pos het]
  have eq0 : decide ((enQ ss zs : Int) < 0) = false := by simp
  have al3 := (Below.refl w3.heap.size w3).alloc (Nat.le_refl _) (.cells #[.int .i64 (enQ ss zs : Int)] 2)
  have HR3 := hide (RW.loc.below al3 o2b)
  have HW3 := hide (RW.loc.below al3 o2b).2.1
  have HO3 := hide (OS.loc.below al3 o3b)
  have HO4 := hide (OR.loc.below al3 o4)
  have HM3 := hide (M3.below al3)
  have HAl := hide al3
  have HQ0 := hide q0
  have HQ1 := hide q1
  have HQ2 := hide q2
  have HQf := hide qf
  have hq3 : w2.heap.size < w3.heap.size := by omega
  obtain ⟨i0, hi, hz0, hzz1, hzz2⟩ := info_parts info2
  clear hfin het o2b o3b o4 M3 al3 HCe
  go_wp2_with (first
    | (at_builtin; refine wpList_append_lies _ rfl _ _ 25 rfl 0 2 i0 (.int .i64 0) 1 8 Try.underlying25 hi hz0 hzz1 hzz2 rfl (by decide) _ tn (ts.map (Value.int .i64)) rfl HW3.out ⟨w3.heap.size, 0, none⟩ 1 1 [.int .i64 (enQ ss zs : Int)] rfl rfl (one_new (by go_simp)) (by simp [Value.oneCell']) (by omega) (by unfold maxLen; omega) (by omega) (Nat.zero_le _) (w3.heap.size + 1) (by simp) ?_)
    | go_in)
  intro g cp w5 hown5 hgrow hat hlt5
  obtain ⟨x5, u5⟩ := HR3.out.app hgrow (by rw [World.size_alloc]; exact hat) hown5 (by omega)
  have z5 := u5.size
  simp only [World.size_alloc] at z5 x5
  have hqb : w5.heap[w2.heap.size]? = w3.heap[w2.heap.size]? := (u5.block w2.heap.size (by simp; omega) (fun e => by have := e.2; omega)).trans (HAl.out.block w2.heap.size hq3)
  have q0' := (World.cell?_of_block (a := ⟨w2.heap.size, 0, none⟩) hqb).trans HQ0.out
  have q1' := (World.cell?_of_block (a := ⟨w2.heap.size, 1, none⟩) hqb).trans HQ1.out
  have q2' := (World.cell?_of_block (a := ⟨w2.heap.size, 2, none⟩) hqb).trans HQ2.out
  have qf' := (World.frozen?_of_block (a := ⟨w2.heap.size, 1, none⟩) hqb).trans HQf.out
  have M5 := HM3.out.out u5 (by omega) (by simp <;> omega) (by simp)
  have o5 := OR.loc.out u5 (fun k h h' => by have := h'.1; have := h'.2; rcases h with h | h; have := h.2; omega; have := h.1; simp only [World.size_alloc] at this; omega) HO4.out
  have d5 := OS.loc.out u5 (fun k h h' => by have := h.1; have := h'.2; omega) HO3.out
  have c0 := M5.cell 0 rfl
  have c1 := M5.cell 1 rfl
  have c2 := M5.cell 2 rfl
  have c3 := M5.cell 3 rfl
  have c4 := M5.cell 4 rfl
  have f0 := M5.fz 0 rfl
  have f1 := M5.fz 1 rfl
  have f2 := M5.fz 2 rfl
  have f3 := M5.fz 3 rfl
  have f4 := M5.fz 4 rfl
  have HB := hide M5.bel
  have HZ : Hid (w.heap.size ≤ w2.heap.size) := by show _ ≤ _; omega
  have HO : Hid (∀ v0 v1 v2 v3 v4 v, OTW (InR w.heap.size w5.heap.size) a4 (enS ss zs).length (enS ss zs) (some ⟨g, 0, none⟩) (tn + 1) cp (ts ++ [(enQ ss zs : Int)]) ya dn ds ((((((w5.setCell ⟨w2.heap.size, 1, none⟩ v).setCell ⟨w.heap.size + 1 + 1, 0, none⟩ v0).setCell ⟨w.heap.size + 1 + 1, 1, none⟩ v1).setCell ⟨w.heap.size + 1 + 1, 2, none⟩ v2).setCell ⟨w.heap.size + 1 + 1, 3, none⟩ v3).setCell ⟨w.heap.size + 1 + 1, 4, none⟩ v4)) := fun v0 v1 v2 v3 v4 v =>
    OTW.ofS (loc_set5 OR.loc (OR.loc.setC o5 (q := ⟨w2.heap.size, 1, none⟩) (fun e => by simp only [World.size_alloc] at e; rcases e with e | e; have := e.2; omega; have := e.1; omega) v) (fun e => by simp only [World.size_alloc] at e; rcases e with e | e; have := e.1; omega; have := e.1; omega) v0 v1 v2 v3 v4)
      (loc_set5 RW.loc (RW.loc.setC (RW.grown x5 hown5) (q := ⟨w2.heap.size, 1, none⟩) (fun e => by simp only at e; rcases e with e | e; have := e.2; omega; have := e.1; omega) v) (fun e => by rcases e with e | e; have := e.1; omega; have := e.1; omega) v0 v1 v2 v3 v4)
      (loc_set5 OS.loc (OS.loc.setC d5 (q := ⟨w2.heap.size, 1, none⟩) (fun e => by have := e.2; simp only at this; omega) v) (fun e => by have := e.1; omega) v0 v1 v2 v3 v4)
      (fun k h => by simp only [World.size_alloc] at h; rcases h with h | h; exact ⟨by have := h.1; omega, by have := h.2; omega⟩; exact ⟨by have := h.1; omega, by have := h.2; omega⟩) (fun k h => by rcases h with h | h; exact ⟨by have := h.1; omega, by have := h.2; omega⟩; exact ⟨by have := h.1; omega, by have := h.2; omega⟩) (fun k h => ⟨by have := h.1; omega, by have := h.2; omega⟩)
      (fun k h h' => by simp only [World.size_alloc] at h; rcases h with h | h; have := h.1; have := h.2; rcases h' with h' | h'; have := h'.1; omega; have := h'.1; omega; have := h.1; have := h.2; rcases h' with h' | h'; have := h'.2; omega; have := h'.1; omega) (fun k h h' => by simp only [World.size_alloc] at h; have := h'.1; have := h'.2; rcases h with h | h; have := h.2; omega; have := h.1; omega) (fun k h h' => by have := h'.1; have := h'.2; rcases h with h | h; have := h.2; omega; have := h.1; omega)
  have hz12 : w.heap.size + 1 + 1 ≠ w2.heap.size := by omega
  clear hown5 hgrow hat M5 o5 d5 x5 u5 q0 q1 q2 qf hqb
  go_wp2
  refine bodyPost_ret (v := .agg #[.int .i64 0, .int .i64 ((tn : Int) + 1), .slice a4 (enS ss zs).length ca4, .slice (some ⟨g, 0, none⟩) (tn + 1) cp, .slice ya dn yc]) (by simp [results, Try.results93, go_sem, c0, c1, c2, c3, c4]) rfl ⟨_, _, _, _, _, _, _, _, _, by rw [HC0.out, HV.out, HTL.out], ?_, below_set5 (HB.out.setCell HZ.out _) (by omega) _ _ _ _ _⟩
  rw [HS.out, HT.out, HD.out]
  simpa using HO.out _ _ _ _ _ _

end Go.Proofs.Ytgkjmeogdomgmaa
