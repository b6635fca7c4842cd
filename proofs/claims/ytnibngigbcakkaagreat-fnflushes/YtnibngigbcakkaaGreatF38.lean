import Derived.Test.YtnibngigbcakkaaGreatF35
import Derived.Test.YtnibngigbcakkaaGreatF37
import Derived.Test.YtnibngigbcakkaaGreatF20
import Derived.Test.YtnibngigbcakkaaGreatF34
import Derived.Test.YtnibngigbcakkaaGreatF28
import Derived.Test.YtnibngigbcakkaaGreatF29
import Derived.Test.YtnibngigbcakkaaGreatF36
import Derived.Deep.AppendLies
import Derived.WalkKit
import Derived.ProofKit
import Derived.OpenShut
import Derived.ShutString
import Derived.ChangeOld
import Derived.Below
import Derived.WalkSpells
import Derived.Deep.QuietTactic
import Derived.BigQuiet
import Derived.Deep.RegionWith
import Derived.Deep.WholeRow
import Derived.Deep.DeepCutAuto
import Derived.Deep.RegionHeld2
import Derived.Deep.AppendLies
import Derived.Deep.RegionLaw
namespace Go.Proofs.YtnibngigbcakkaaGreat
open Go.ChangeShapes Go.WideShapes Go.ChangeAt Go.RowKit

set_option maxRecDepth 100000 in
theorem l3Bad_calls (c : Int) (w : World) :
    Calls Tryz.prog 67 #[.int .i64 c] w fun e w' => e = .returned (.agg #[.int .i64 c, .int .i64 0, .slice none 0 0, .slice none 0 0, .slice none 0 0]) ∧ Below w.heap.size w w' := by
  have HB := hide fun o => (Below.refl w.heap.size w).alloc (Nat.le_refl _) o
  go_enter Tryz.func67, Tryz.ntmps67
  go_wp2
  exact bodyPost_ret (v := .agg #[.int .i64 c, .int .i64 0, .slice none 0 0, .slice none 0 0, .slice none 0 0]) (by simp [results, Tryz.results67, go_sem]) rfl ⟨rfl, HB.out _⟩

set_option maxRecDepth 100000 in
set_option maxHeartbeats 1000000 in
theorem l1Ints_R (a : Option Addr) (n cap : Nat) (zs : List Int) (w : World) (hn : n ≤ 1048576) (hs : Sl w a n zs) :
    Calls Tryz.prog 91 #[.slice a n cap] w fun e w' => ∃ ra rc, e = .returned (.slice ra n rc) ∧ n ≤ rc ∧ RW (InR w.heap.size w'.heap.size) ra n rc zs w' ∧ Below w.heap.size w w' := by
  obtain ⟨hlen, hs⟩ := hs
  obtain ⟨i0, hi, hz0, hz1, hz2⟩ := info_parts info2
  have hb0 := fun o1 => (Below.refl w.heap.size w).alloc (Nat.le_refl _) o1
  by_cases hp : 0 < n
  · obtain ⟨b, off, rfl, hb, hc⟩ := hs hp
    have hown := World.ownsRow_lit (base := w.heap.size) (e := 2) (size := 1) w #[] 0 (Nat.le_refl _) (Nat.zero_le _) rfl
    have hnews := ints_at_sl (w := w.alloc (.cells #[] 2)) (b := b) (off := off) (zs := zs) (fun i hi => ((hb0 _).cell (p := ⟨b, off + i, none⟩) hb).trans (hc i (by omega)))
    have HO := hide hown
    have HN := hide hnews
    have hm1 : 0 + n ≤ maxLen := by unfold maxLen; omega
    have hm2 : (0 + n) * 8 ≤ 140737488355328 := by omega
    have hl1 : (zs.map (Value.int .i64)).length = n * 1 := by simp [hlen]
    have hbs : w.heap.size ≤ (w.alloc (.cells #[] 2)).heap.size := by simp
    have HL := hide hl1
    have HM1 := hide hm1
    have HM2 := hide hm2
    have HBS := hide hbs
    clear hown hnews hs hc hl1 hm1 hm2 hbs
    go_enter Tryz.func91, Tryz.ntmps91
    go_wp2_with (first
      | (at_builtin; refine wpList_append_own _ rfl _ _ 38 rfl w.heap.size 2 i0 (.int .i64 0) 1 8 Tryz.underlying38 hi hz0 hz1 hz2 rfl (by decide) _ 0 [] rfl HO.out ⟨b, off, none⟩ n cap (zs.map (Value.int .i64)) rfl HL.out HN.out ints_one HM1.out HM2.out HBS.out ?_)
      | go_in)
    intro v' w1 hown' hgrow _
    have hown2 : w1.ownsRow w.heap.size 2 1 v' n (zs.map (Value.int .i64)) := by simpa using hown'
    obtain ⟨ra, rc, rfl, fr⟩ := RW.of hn hown2
    have hcap := fr.room
    have h1 : Below w.heap.size w w1 := (hb0 _).grown hgrow (by simp) (fun k hk => by simp [Value.ownBlock] at hk; omega)
    have HFR := hide fr
    have HB1 := hide h1
    clear HO HN hown' hown2 hgrow hb0 fr h1
    go_wp2
    go_ret
    exact ⟨ra, rc, rfl, hcap, HFR.out, HB1.out⟩
  · have h0 : n = 0 := by omega
    subst h0
    cases a
    all_goals
      go_enter Tryz.func91, Tryz.ntmps91
      go_wp2
      go_ret
      exact ⟨_, 0, rfl, by omega, RW.lit w hlen, hb0 _⟩

/-- owned slots with their row. -/
def RG (B T : Nat) (a : Option Addr) (n rc : Nat) (ss : List (Int × List Int)) (w : World) : Prop :=
  OR (InR B T) a n ss w ∧ (∃ xs, w.ownsRow B 114 2 (.slice a n rc) n xs) ∧ ∀ g, (Value.slice a n rc).ownBlock = some g → InR B T g

theorem RG.loc {B T : Nat} {a : Option Addr} {n rc : Nat} {ss : List (Int × List Int)} : Loc (InR B T) (RG B T a n rc ss) := fun w w' hk h => by
  obtain ⟨o, ⟨xs, hx⟩, hs⟩ := h
  refine ⟨OR.loc w w' hk o, ⟨xs, hx.1, ?_⟩, hs⟩
  rcases hx.2 with h0 | ⟨g, cap, cur, hv, hb, hg, rest⟩
  · exact .inl h0
  · refine .inr ⟨g, cap, cur, hv, hb, ?_, rest⟩
    rw [hk g (hs g (by rw [hv]; rfl)) (Array.getElem?_eq_some_iff.1 hg).1]
    exact hg

/-- slots, tags and domains in blocks of their own, one behind the other, with their rows. -/
def L3R (B : Nat) (a : Option Addr) (n rc : Nat) (ss : List (Int × List Int)) (ta : Option Addr) (tn xc : Nat) (ts : List Int) (da : Option Addr) (dn yc : Nat) (ds : List Int) (w : World) : Prop :=
  ∃ B1 B2 B3 B4, B ≤ B1 ∧ B1 ≤ B2 ∧ B2 ≤ B3 ∧ B3 ≤ B4 ∧ B4 ≤ w.heap.size ∧ RG B1 B2 a n rc ss w ∧ RW (InR B2 B3) ta tn xc ts w ∧ RW (InR B3 B4) da dn yc ds w

theorem L3R.setC {B P o : Nat} {a : Option Addr} {n rc : Nat} {ss : List (Int × List Int)} {ta : Option Addr} {tn xc : Nat} {ts : List Int} {da : Option Addr} {dn yc : Nat} {ds : List Int} {w : World} (h : L3R B a n rc ss ta tn xc ts da dn yc ds w) (hP : P < B) (v : Value) : L3R B a n rc ss ta tn xc ts da dn yc ds (w.setCell ⟨P, o, none⟩ v) := by
  obtain ⟨B1, B2, B3, B4, h1, h2, h3, h4, h5, o1, o2, o3⟩ := h
  exact ⟨B1, B2, B3, B4, h1, h2, h3, h4, by simpa using h5, RG.loc.setC o1 (fun e => by have := e.1; simp only at this; omega) v, RW.loc.setC o2 (fun e => by have := e.1; simp only at this; omega) v, RW.loc.setC o3 (fun e => by have := e.1; simp only at this; omega) v⟩

theorem keepL {X : World} {q o R i : Nat} {v x : Value} (h : q ≠ R) (hc : X.cell? ⟨q, o, none⟩ = some v) : (X.setCell ⟨R, i, none⟩ x).cell? ⟨q, o, none⟩ = some v := by
  rw [World.cell?_setCell_other _ _ _ _ (fun e => h (by injection e with e1 _; exact e1.symm))]; exact hc

set_option maxRecDepth 100000 in
set_option maxHeartbeats 2000000 in
theorem l3Copy_R (a : Option Addr) (n c : Nat) (ss : List (Int × List Int)) (ta : Option Addr) (tn tc : Nat) (ts : List Int) (da : Option Addr) (dn dc : Nat) (ds : List Int) (w : World) (hm : n + lenSum ss ≤ 1048576) (htn : tn ≤ 1048576) (hdn : dn ≤ 1048576) (hrt : RT w a n ss ta tn ts da dn ds) :
    Calls Tryz.prog 69 #[.agg #[.slice a n c, .slice ta tn tc, .slice da dn dc]] w fun e w' => ∃ ra rc xa xc ya yc, e = .returned (.agg #[.slice ra n rc, .slice xa tn xc, .slice ya dn yc]) ∧ L3R w.heap.size ra n rc ss xa tn xc ts ya dn yc ds w' ∧ Below w.heap.size w w' := by
  have M0 := ((Mm.start w).alloc3 (.slice a n c) (.slice ta tn tc) (.slice da dn dc) 40).alloc3 (.slice none 0 0) (.slice none 0 0) (.slice none 0 0) 40
  try simp only [World.size_alloc] at M0
  have hr0 := hrt.below M0.bel (Nat.le_refl _)
  have HM := hide M0
  have HR := hide hr0
  clear M0 hr0
  go_enter Tryz.func69, Tryz.ntmps69
  have HS0 : Hid (((w.alloc (.cells #[.slice a n c, .slice ta tn tc, .slice da dn dc] 40)).alloc (.cells #[.slice none 0 0, .slice none 0 0, .slice none 0 0] 40)).drew.cell? ⟨w.heap.size, 0, none⟩ = some (.slice a n c) ∧ ((w.alloc (.cells #[.slice a n c, .slice ta tn tc, .slice da dn dc] 40)).alloc (.cells #[.slice none 0 0, .slice none 0 0, .slice none 0 0] 40)).drew.cell? ⟨w.heap.size, 1, none⟩ = some (.slice ta tn tc) ∧ ((w.alloc (.cells #[.slice a n c, .slice ta tn tc, .slice da dn dc] 40)).alloc (.cells #[.slice none 0 0, .slice none 0 0, .slice none 0 0] 40)).drew.cell? ⟨w.heap.size, 2, none⟩ = some (.slice da dn dc)) := ⟨HM.out.drew.cell 3 rfl, HM.out.drew.cell 4 rfl, HM.out.drew.cell 5 rfl⟩
  go_wp2_with fail
  go_region_held2 (fun W => W.cell? ⟨w.heap.size, 0, none⟩ = some (.slice a n c) ∧ W.cell? ⟨w.heap.size, 1, none⟩ = some (.slice ta tn tc) ∧ W.cell? ⟨w.heap.size, 2, none⟩ = some (.slice da dn dc))
   (first | with_reducible assumption | with_reducible exact HS0.out | (refine ⟨?_, ?_, ?_⟩ <;> (repeat (with_reducible refine keepL (by omega) ?_)) <;> first | with_reducible exact h3.1 | with_reducible exact h3.2.1 | with_reducible exact h3.2.2))
   (first
    | (go_at_call 75; refine (l2Copy_R a n c ss _ hm ?_).mono ?_; exact HR.out.2.1.below (Below.refl _ _).drew (Nat.le_refl _); rintro e w1 ⟨ra, rc, rfl, p1, ⟨xs, x1⟩, g1⟩; have o1 : RG _ w1.heap.size ra n rc ss w1 := ⟨p1, ⟨xs, x1⟩, fun g hg => x1.lt g hg⟩; clear p1 x1; have M1 := HM.out.drew.below g1; have h1 : w1.cell? ⟨w.heap.size, 0, none⟩ = some (.slice a n c) ∧ w1.cell? ⟨w.heap.size, 1, none⟩ = some (.slice ta tn tc) ∧ w1.cell? ⟨w.heap.size, 2, none⟩ = some (.slice da dn dc) := ⟨M1.cell 3 rfl, M1.cell 4 rfl, M1.cell 5 rfl⟩; have z1 := g1.size; clear g1)
    | (go_at_call_of 91 (Value.slice ta tn tc); refine (l1Ints_R ta tn tc ts _ htn ?_).mono ?_; exact hrt.2.2.2.1.below M1.bel (Nat.le_refl _); rintro e w2 ⟨xa, xc, rfl, _, o2, g2⟩; have M2 := M1.below g2; have h2 : w2.cell? ⟨w.heap.size, 0, none⟩ = some (.slice a n c) ∧ w2.cell? ⟨w.heap.size, 1, none⟩ = some (.slice ta tn tc) ∧ w2.cell? ⟨w.heap.size, 2, none⟩ = some (.slice da dn dc) := ⟨M2.cell 3 rfl, M2.cell 4 rfl, M2.cell 5 rfl⟩; have z2 := g2.size; have o1' := RG.loc.below g2 o1; clear g2)
    | (go_at_call_of 91 (Value.slice da dn dc); refine (l1Ints_R da dn dc ds _ hdn ?_).mono ?_; exact hrt.2.2.2.2.2.below M2.bel (Nat.le_refl _); rintro e w3 ⟨ya, yc, rfl, _, o3, g3⟩; have M3 := M2.below g3; have h3 : w3.cell? ⟨w.heap.size, 0, none⟩ = some (.slice a n c) ∧ w3.cell? ⟨w.heap.size, 1, none⟩ = some (.slice ta tn tc) ∧ w3.cell? ⟨w.heap.size, 2, none⟩ = some (.slice da dn dc) := ⟨M3.cell 3 rfl, M3.cell 4 rfl, M3.cell 5 rfl⟩; have z3 := g3.size; have o1'' := RG.loc.below g3 o1'; have o2'' := RW.loc.below g3 o2; clear g3; have r0 := M3.cell 0 rfl; have r1 := M3.cell 1 rfl; have r2 := M3.cell 2 rfl; have e0 := M3.fz 0 rfl; have e1 := M3.fz 1 rfl; have e2 := M3.fz 2 rfl))
  all_goals (
    have zw := M3.bel.size
    have HB := hide M3.bel
    have HL : Hid (L3R (w.heap.size + 1 + 1) ra n rc ss xa tn xc ts ya dn yc ds w3) := ⟨_, _, _, _, by simp, z1, z2, z3, Nat.le_refl _, o1'', o2'', o3⟩
    clear M3
    go_wp2
    refine bodyPost_ret (v := .agg #[.slice ra n rc, .slice xa tn xc, .slice ya dn yc]) (by simp [results, Tryz.results69, go_sem, r0, r1, r2]) rfl ⟨ra, rc, xa, xc, ya, yc, rfl, ?_, ((HB.out.setCell (by simp) _).setCell (by simp) _).setCell (by simp) _⟩
    obtain ⟨B1, B2, B3, B4, k1, k⟩ := ((HL.out.setC (P := w.heap.size + 1) (o := 0) (by omega) (.slice ra n rc)).setC (P := w.heap.size + 1) (o := 1) (by omega) (.slice xa tn xc)).setC (P := w.heap.size + 1) (o := 2) (by omega) (.slice ya dn yc)
    exact ⟨B1, B2, B3, B4, by omega, k⟩)

/-- what DropTag answers. -/
def dtC (ss : List (Int × List Int)) (ts ds : List Int) : Int := if tabF ss ts ds = 0 then (if ts.length = 0 then 4 else 0) else tabF ss ts ds

def dtT (ss : List (Int × List Int)) (ts ds : List Int) : List Int := if dtC ss ts ds = 0 then ts.take (ts.length - 1) else []

theorem dt_ok {ss : List (Int × List Int)} {ts ds : List Int} (h : tabF ss ts ds = 0) (h0 : 0 < ts.length) : dtC ss ts ds = 0 := by
  unfold dtC
  rw [if_pos h, if_neg (by omega)]

theorem OS.take {S : Nat → Prop} {a : Option Addr} {n k : Nat} {rs : List Int} {w : World} (h : OS S a n rs w) (hk : k ≤ n) : OS S a k (rs.take k) w := by
  obtain ⟨h1, h2, h3⟩ := h
  refine ⟨by simp; omega, by omega, ?_⟩
  rcases h3 with h3 | ⟨b, e, hb, blk⟩
  · exact .inl (by omega)
  · refine .inr ⟨b, e, hb, blk.1, fun i hi => ?_, blk.2.2⟩
    rw [List.length_take] at hi
    rw [blk.2.1 i (by omega)]
    simp [gt, show i < k by omega]

theorem Mm.alloc5 {w u : World} {cs : List (Nat × Nat × Value)} {fs : List (Nat × Nat × (World → Prop))} (h : Mm w u cs fs) (v0 v1 v2 v3 v4 : Value) (t : TypeId) : Mm w (u.alloc (.cells #[v0, v1, v2, v3, v4] t)) ((u.heap.size, 0, v0) :: (u.heap.size, 1, v1) :: (u.heap.size, 2, v2) :: (u.heap.size, 3, v3) :: (u.heap.size, 4, v4) :: cs) fs :=
  (((((h.below ((Below.refl _ _).alloc (Nat.le_refl _) (.cells #[v0, v1, v2, v3, v4] t))).cons (by simp) (by simp)).cons (by simp) (by simp)).cons (by simp) (by simp)).cons (by simp) (by simp)).cons (by simp) (by simp)

theorem below_set5 {B : Nat} {w u : World} (h : Below B w u) {P : Nat} (hP : B ≤ P) (v0 v1 v2 v3 v4 : Value) :
    Below B w (((((u.setCell ⟨P, 0, none⟩ v0).setCell ⟨P, 1, none⟩ v1).setCell ⟨P, 2, none⟩ v2).setCell ⟨P, 3, none⟩ v3).setCell ⟨P, 4, none⟩ v4) :=
  ((((h.setCell (by exact hP) v0).setCell (by exact hP) v1).setCell (by exact hP) v2).setCell (by exact hP) v3).setCell (by exact hP) v4

theorem loc_set5 {S : Nat → Prop} {Q : World → Prop} (hl : Loc S Q) {w : World} (h : Q w) {P : Nat} (hP : ¬ S P) (v0 v1 v2 v3 v4 : Value) :
    Q (((((w.setCell ⟨P, 0, none⟩ v0).setCell ⟨P, 1, none⟩ v1).setCell ⟨P, 2, none⟩ v2).setCell ⟨P, 3, none⟩ v3).setCell ⟨P, 4, none⟩ v4) :=
  hl.setC (hl.setC (hl.setC (hl.setC (hl.setC h (by exact hP) v0) (by exact hP) v1) (by exact hP) v2) (by exact hP) v3) (by exact hP) v4

theorem OT.nil (S : Nat → Prop) (w : World) (a b c : Option Addr) : OT S a 0 [] b 0 [] c 0 [] w :=
  ⟨fun _ => False, fun _ => False, fun _ => False, fun _ h => h.elim, fun _ h => h.elim, fun _ h => h.elim, fun _ h => h.elim, fun _ h => h.elim, fun _ h => h.elim, ⟨rfl, by simp [lenSum], .inl rfl⟩, ⟨rfl, by omega, .inl rfl⟩, ⟨rfl, by omega, .inl rfl⟩⟩

theorem OT.of3 {B1 T1 B2 T2 B3 T3 B T : Nat} {a : Option Addr} {n : Nat} {ss : List (Int × List Int)} {ta : Option Addr} {tn : Nat} {ts : List Int} {da : Option Addr} {dn : Nat} {ds : List Int} {w : World} (o1 : OR (InR B1 T1) a n ss w) (o2 : OS (InR B2 T2) ta tn ts w) (o3 : OS (InR B3 T3) da dn ds w)
    (b1 : B ≤ B1) (b2 : B ≤ B2) (b3 : B ≤ B3) (t1 : T1 ≤ T) (t2 : T2 ≤ T) (t3 : T3 ≤ T) (d12 : T1 ≤ B2 ∨ T2 ≤ B1) (d13 : T1 ≤ B3 ∨ T3 ≤ B1) (d23 : T2 ≤ B3 ∨ T3 ≤ B2) : OT (InR B T) a n ss ta tn ts da dn ds w :=
  ⟨InR B1 T1, InR B2 T2, InR B3 T3, fun k hk => ⟨by have := hk.1; omega, by have := hk.2; omega⟩, fun k hk => ⟨by have := hk.1; omega, by have := hk.2; omega⟩, fun k hk => ⟨by have := hk.1; omega, by have := hk.2; omega⟩,
    fun k h h' => by have := h.1; have := h.2; have := h'.1; have := h'.2; omega, fun k h h' => by have := h.1; have := h.2; have := h'.1; have := h'.2; omega, fun k h h' => by have := h.1; have := h.2; have := h'.1; have := h'.2; omega, o1, o2, o3⟩

/-- owned tables whose row of tags has its room: three sets of blocks, apart. -/
def OTW (S : Nat → Prop) (a : Option Addr) (n : Nat) (ss : List (Int × List Int)) (ta : Option Addr) (tn tc : Nat) (ts : List Int) (da : Option Addr) (dn : Nat) (ds : List Int) (w : World) : Prop :=
  ∃ S1 S2 S3 : Nat → Prop, (∀ k, S1 k → S k) ∧ (∀ k, S2 k → S k) ∧ (∀ k, S3 k → S k) ∧ (∀ k, S1 k → ¬ S2 k) ∧ (∀ k, S1 k → ¬ S3 k) ∧ (∀ k, S2 k → ¬ S3 k) ∧ OR S1 a n ss w ∧ RW S2 ta tn tc ts w ∧ OS S3 da dn ds w

theorem OTW.nil (S : Nat → Prop) (w : World) : OTW S none 0 [] none 0 0 [] none 0 [] w :=
  ⟨fun _ => False, fun _ => False, fun _ => False, fun _ h => h.elim, fun _ h => h.elim, fun _ h => h.elim, fun _ h => h.elim, fun _ h => h.elim, fun _ h => h.elim, ⟨rfl, by simp [lenSum], .inl rfl⟩, RW.nil _ _ rfl, ⟨rfl, by omega, .inl rfl⟩⟩

theorem OTW.ofS {S1 S2 S3 S : Nat → Prop} {a : Option Addr} {n : Nat} {ss : List (Int × List Int)} {ta : Option Addr} {tn tc : Nat} {ts : List Int} {da : Option Addr} {dn : Nat} {ds : List Int} {w : World} (o1 : OR S1 a n ss w) (o2 : RW S2 ta tn tc ts w) (o3 : OS S3 da dn ds w)
    (h1 : ∀ k, S1 k → S k) (h2 : ∀ k, S2 k → S k) (h3 : ∀ k, S3 k → S k) (d12 : ∀ k, S1 k → ¬ S2 k) (d13 : ∀ k, S1 k → ¬ S3 k) (d23 : ∀ k, S2 k → ¬ S3 k) : OTW S a n ss ta tn tc ts da dn ds w := ⟨S1, S2, S3, h1, h2, h3, d12, d13, d23, o1, o2, o3⟩

theorem RW.grown {S : Nat → Prop} {n cp g : Nat} {ts : List Int} {x : Int} {w : World} (hos : OS S (some ⟨g, 0, none⟩) (n + 1) (ts ++ [x]) w) (hown : w.ownsRow 0 2 1 (.slice (some ⟨g, 0, none⟩) (n + 1) cp) (n + 1) (ts.map (Value.int .i64) ++ [.int .i64 x])) : RW S (some ⟨g, 0, none⟩) (n + 1) cp (ts ++ [x]) w := by
  refine ⟨hos, by rw [List.map_append]; exact hown, fun g' hg => ?_⟩
  simp [Value.ownBlock] at hg
  subst hg
  rcases hos.2.2 with h | ⟨b, e, hb, _⟩
  · omega
  · injection e with e; injection e with e; rw [e]; exact hb

set_option maxRecDepth 100000 in
set_option maxHeartbeats 2000000 in
theorem specAddTagW_calls (a : Option Addr) (n c : Nat) (ss : List (Int × List Int)) (ta : Option Addr) (tn tc : Nat) (ts : List Int) (da : Option Addr) (dn dc : Nat) (ds : List Int) (b : Option Addr) (lb cb : Nat) (zs : List Int) (w : World) (hrt : RT w a n ss ta tn ts da dn ds) (hlb : lb ≤ maxLen) (hy : Sl w b lb zs) :
    Calls Tryz.prog 43 #[.agg #[.slice a n c, .slice ta tn tc, .slice da dn dc], .agg #[.slice b lb cb]] w fun e w' => ∃ ra rn rc xa xn xc ya yn yc, e = .returned (.agg #[.int .i64 (agC ss ts ds zs), .int .i64 (agV ss ts ds zs), .slice ra rn rc, .slice xa xn xc, .slice ya yn yc]) ∧
      OTW (InR w.heap.size w'.heap.size) ra rn (agS ss ts ds zs) xa xn xc (agT ss ts ds zs) ya yn (agD ss ts ds zs) w' ∧ Below w.heap.size w w' := by
  have M0 := (((Mm.start w).alloc3 (.slice a n c) (.slice ta tn tc) (.slice da dn dc) 40).alloc1 (.slice b lb cb) 84).alloc5 (.int .i64 0) (.int .i64 0) (.slice none 0 0) (.slice none 0 0) (.slice none 0 0) 81
  simp only [World.size_alloc] at M0
  have hrt0 := hrt.below M0.bel (Nat.le_refl _)
  have hy0 := hy.below M0.bel (Nat.le_refl _)
  have HTL := hide hrt.2.2.2.1.1
  have HDL := hide hrt.2.2.2.2.2.1
  have hsl1 : ss.length ≤ n := Nat.le_of_eq hrt.2.1.1
  have hsl2 : n ≤ ss.length := Nat.le_of_eq hrt.2.1.1.symm
  have htl1 : ts.length ≤ tn := Nat.le_of_eq HTL.out
  have htl2 : tn ≤ ts.length := Nat.le_of_eq HTL.out.symm
  have hdl1 : ds.length ≤ dn := Nat.le_of_eq HDL.out
  have hdl2 : dn ≤ ds.length := Nat.le_of_eq HDL.out.symm
  go_enter Tryz.func43, Tryz.ntmps43
  go_wp2_with fail
  refine (l3Asked_calls _ _ a n c ss ta tn tc ts da dn dc ds b lb cb zs _ (M0.lt 6 rfl) (M0.cell 6 rfl) (M0.cell 7 rfl) (M0.cell 8 rfl) hrt0 (M0.lt 5 rfl) (M0.cell 5 rfl) hlb hy0).mono ?_
  rintro e w1 ⟨rfl, g1⟩
  have M1 := M0.below g1
  have hrt1 := hrt0.below g1 (Nat.le_refl _)
  have hy1 := hy0.below g1 (Nat.le_refl _)
  have z1 := g1.size
  simp only [World.size_alloc] at z1
  clear M0 g1 hrt0 hy0
  by_cases hf : otF ss ts ds zs = 0
  rotate_left
  · have HC : Hid (agC ss ts ds zs = otF ss ts ds zs) := if_neg hf
    have hf' : agC ss ts ds zs ≠ 0 := by rw [HC.out]; exact hf
    have HV : Hid (agV ss ts ds zs = 0) := if_neg hf'
    have HS : Hid (agS ss ts ds zs = []) := if_neg hf'
    have HT : Hid (agT ss ts ds zs = []) := if_neg hf'
    have HD : Hid (agD ss ts ds zs = []) := if_neg hf'
    have e2 : (otF ss ts ds zs != 0) = true := by simpa using hf
    clear hf' hf hrt1 hy1
    go_wp2_with fail
    refine (l3Bad_calls _ _).mono ?_
    rintro e w2 ⟨rfl, g2⟩
    have M2 := M1.below g2
    have c0 := M2.cell 0 rfl
    have c1 := M2.cell 1 rfl
    have c2 := M2.cell 2 rfl
    have c3 := M2.cell 3 rfl
    have c4 := M2.cell 4 rfl
    have f0 := M2.fz 0 rfl
    have f1 := M2.fz 1 rfl
    have f2 := M2.fz 2 rfl
    have f3 := M2.fz 3 rfl
    have f4 := M2.fz 4 rfl
    have HB := hide M2.bel
    clear M1 M2 g2
    go_wp2
    refine bodyPost_ret (v := .agg #[.int .i64 (otF ss ts ds zs), .int .i64 0, .slice none 0 0, .slice none 0 0, .slice none 0 0]) (by simp [results, Tryz.results43, go_sem, c0, c1, c2, c3, c4]) rfl ⟨_, _, _, _, _, _, _, _, _, by rw [HC.out, HV.out], ?_, below_set5 HB.out (by omega) _ _ _ _ _⟩
    rw [HS.out, HT.out, HD.out]
    exact OTW.nil _ _
  obtain ⟨hf1, hz⟩ := otF_zero hf
  obtain rfl : lb = 4 := by have := fault_len hz; have := hy.1; omega
  obtain ⟨hr, hmy, _, _, _⟩ := tabF_zero hf1
  have hml := many_len hmy
  have good := good_of hr
  have hsum := good_sum good
  have lc1 := M1.cell 5 rfl
  rw [hf]
  clear hf1
  go_wp2_with fail
  refine (l1ThingO_calls (w.heap.size + 1) 0 b 4 cb zs _ hlb lc1 hy1).mono ?_
  rintro e w1' ⟨rfl, rfl⟩
  by_cases ht : thing0 zs = true
  rotate_left
  · have htf : thing0 zs = false := by simpa using ht
    have HC : Hid (agC ss ts ds zs = 1) := by show _ = _; unfold agC; rw [if_pos hf, if_neg ht]
    have hf' : agC ss ts ds zs ≠ 0 := by rw [HC.out]; decide
    have HV : Hid (agV ss ts ds zs = 0) := if_neg hf'
    have HS : Hid (agS ss ts ds zs = []) := if_neg hf'
    have HT : Hid (agT ss ts ds zs = []) := if_neg hf'
    have HD : Hid (agD ss ts ds zs = []) := if_neg hf'
    rw [htf]
    clear hf' hf ht htf hrt1 hy1 hz hr lc1
    go_wp2_with fail
    refine (l3Bad_calls _ _).mono ?_
    rintro e w2 ⟨rfl, g2⟩
    have M2 := M1.below g2
    have c0 := M2.cell 0 rfl
    have c1 := M2.cell 1 rfl
    have c2 := M2.cell 2 rfl
    have c3 := M2.cell 3 rfl
    have c4 := M2.cell 4 rfl
    have f0 := M2.fz 0 rfl
    have f1 := M2.fz 1 rfl
    have f2 := M2.fz 2 rfl
    have f3 := M2.fz 3 rfl
    have f4 := M2.fz 4 rfl
    have HB := hide M2.bel
    clear M1 M2 g2
    go_wp2
    refine bodyPost_ret (v := .agg #[.int .i64 1, .int .i64 0, .slice none 0 0, .slice none 0 0, .slice none 0 0]) (by simp [results, Tryz.results43, go_sem, c0, c1, c2, c3, c4]) rfl ⟨_, _, _, _, _, _, _, _, _, by rw [HC.out, HV.out], ?_, below_set5 HB.out (by omega) _ _ _ _ _⟩
    rw [HS.out, HT.out, HD.out]
    exact OTW.nil _ _
  have HC : Hid (agC ss ts ds zs = if tn = 6 then 7 else etC ss zs) := by show _ = _; unfold agC; rw [if_pos hf, if_pos ht, HTL.out]
  rw [ht]
  have k0 := M1.cell 6 rfl
  have k1 := M1.cell 7 rfl
  have k2 := M1.cell 8 rfl
  have Hz := hide hz
  clear hf ht hz hr lc1
  go_wp2_with fail
  refine (l3Copy_R a n c ss ta tn tc ts da dn dc ds _ (by omega) (by omega) (by omega) hrt1).mono ?_
  rintro e w2 ⟨ra, rc, xa, xc, ya, yc, rfl, L2, g2⟩
  have M2 := (M1.below g2).alloc3 (.slice ra n rc) (.slice xa tn xc) (.slice ya dn yc) 40
  have z2 := g2.size
  have al := (Below.refl w2.heap.size w2).alloc (Nat.le_refl _) (.cells #[.slice ra n rc, .slice xa tn xc, .slice ya dn yc] 40)
  obtain ⟨B1, B2, B3, B4, b1, b2, b3, b4, b5, o1, o2, o3⟩ := L2
  obtain ⟨o1a, ⟨xs, hxs⟩, hvT⟩ := RG.loc.below al o1
  have o2a := RW.loc.below al o2
  have o3a := OS.loc.below al o3.1
  have hy2 := (hy1.below g2 (Nat.le_refl _)).below al (Nat.le_refl _)
  have s0 := M2.cell 0 rfl
  have s1 := M2.cell 1 rfl
  have s2 := M2.cell 2 rfl
  have t0 := M2.fz 0 rfl
  have t1 := M2.fz 1 rfl
  have lc2 := M2.cell 8 rfl
  have zP : w2.heap.size < (w2.alloc (.cells #[.slice ra n rc, .slice xa tn xc, .slice ya dn yc] 40)).heap.size := by simp
  clear g2 al o1 o2 o3 M1 k0 k1 k2 hrt1 hy1
  by_cases h6 : tn = 6
  · have HC7 : Hid (agC ss ts ds zs = 7) := by show _ = _; rw [HC.out, if_pos h6]
    have hf' : agC ss ts ds zs ≠ 0 := by rw [HC7.out]; decide
    have HV : Hid (agV ss ts ds zs = 0) := if_neg hf'
    have HS : Hid (agS ss ts ds zs = []) := if_neg hf'
    have HT : Hid (agT ss ts ds zs = []) := if_neg hf'
    have HD : Hid (agD ss ts ds zs = []) := if_neg hf'
    have eg : decide ((6 : Int) ≤ (tn : Int)) = true := by simp; omega
    clear hf' o1a o2a o3a hy2 hxs hvT HC h6
    go_wp2_with fail
    refine (l3Bad_calls _ _).mono ?_
    rintro e w3 ⟨rfl, g3⟩
    have M3 := M2.below g3
    have c0 := M3.cell 3 rfl
    have c1 := M3.cell 4 rfl
    have c2 := M3.cell 5 rfl
    have c3 := M3.cell 6 rfl
    have c4 := M3.cell 7 rfl
    have f0 := M3.fz 3 rfl
    have f1 := M3.fz 4 rfl
    have f2 := M3.fz 5 rfl
    have f3 := M3.fz 6 rfl
    have f4 := M3.fz 7 rfl
    have HB := hide M3.bel
    clear M2 M3 g3 s0 s1 s2 t0 t1 lc2
    go_wp2
    refine bodyPost_ret (v := .agg #[.int .i64 7, .int .i64 0, .slice none 0 0, .slice none 0 0, .slice none 0 0]) (by simp [results, Tryz.results43, go_sem, c0, c1, c2, c3, c4]) rfl ⟨_, _, _, _, _, _, _, _, _, by rw [HC7.out, HV.out], ?_, below_set5 HB.out (by omega) _ _ _ _ _⟩
    rw [HS.out, HT.out, HD.out]
    exact OTW.nil _ _
  have HCe : Hid (agC ss ts ds zs = etC ss zs) := by show _ = _; rw [HC.out, if_neg h6]
  have eg : decide ((6 : Int) ≤ (tn : Int)) = false := by simp; omega
  clear HC h6
  go_wp2_with fail
  refine (l2Enter_O w2.heap.size (w.heap.size + 1) B1 B2 ra b n rc cb ss zs xs _ zP (by omega) (by omega) b2 s0 t0 lc2 o1a hxs (fun g hg => (hvT g hg).2) good hy2 Hz.out).mono ?_
  rintro e w3 ⟨rfl, hfin, u3, k3⟩
  have z3 := u3.size
  simp only [World.size_alloc] at z3
  have q1 := ((k3 1).1 (by omega)).trans s1
  have q2 := ((k3 2).1 (by omega)).trans s2
  have qf := (k3 1).2.trans t1
  have M3 : Mm w w3 [(w.heap.size + 1 + 1, 0, .int .i64 0), (w.heap.size + 1 + 1, 1, .int .i64 0), (w.heap.size + 1 + 1, 2, .slice none 0 0), (w.heap.size + 1 + 1, 3, .slice none 0 0), (w.heap.size + 1 + 1, 4, .slice none 0 0)] [] :=
    (M2.sub (fun _ h => by simp only [List.mem_cons, List.not_mem_nil, or_false] at h ⊢; rcases h with h | h | h | h | h <;> simp [h]) (fun _ h => by cases h)).out (B := B1) (T := w2.heap.size + 1) (u3.mono (fun k hk => by rcases hk with hk | hk; exact ⟨hk.1, by have := hk.2; omega⟩; exact ⟨by omega, by omega⟩)) (by omega) (by simp <;> omega) (by simp)
  have o2b := RW.loc.out u3 (fun k h h' => by have := h.1; have := h.2; rcases h' with h' | h'; have := h'.2; omega; omega) o2a
  have o3b := OS.loc.out u3 (fun k h h' => by have := h.1; have := h.2; rcases h' with h' | h'; have := h'.2; omega; omega) o3a
  clear M2 u3 k3 hy2 o1a o2a o3a hxs hvT s0 s1 s2 t0 t1 lc2
  by_cases het : etC ss zs = 0
  rotate_left
  · have h7 : etC ss zs = 7 := by unfold etC at het ⊢; split at het <;> simp_all
    have HC7 : Hid (agC ss ts ds zs = 7) := HCe.out.trans h7
    have hf' : agC ss ts ds zs ≠ 0 := by rw [HC7.out]; decide
    have HV : Hid (agV ss ts ds zs = 0) := if_neg hf'
    have HS : Hid (agS ss ts ds zs = []) := if_neg hf'
    have HT : Hid (agT ss ts ds zs = []) := if_neg hf'
    have HD : Hid (agD ss ts ds zs = []) := if_neg hf'
    rw [if_neg het]
    clear hf' hfin o2b o3b het h7 HCe
    go_wp2_with fail
    refine (l3Bad_calls _ _).mono ?_
    rintro e w4 ⟨rfl, g4⟩
    have M4 := M3.below g4
    have c0 := M4.cell 0 rfl
    have c1 := M4.cell 1 rfl
    have c2 := M4.cell 2 rfl
    have c3 := M4.cell 3 rfl
    have c4 := M4.cell 4 rfl
    have f0 := M4.fz 0 rfl
    have f1 := M4.fz 1 rfl
    have f2 := M4.fz 2 rfl
    have f3 := M4.fz 3 rfl
    have f4 := M4.fz 4 rfl
    have HB := hide M4.bel
    clear M3 M4 g4 q1 q2 qf
    go_wp2
    refine bodyPost_ret (v := .agg #[.int .i64 7, .int .i64 0, .slice none 0 0, .slice none 0 0, .slice none 0 0]) (by simp [results, Tryz.results43, go_sem, c0, c1, c2, c3, c4]) rfl ⟨_, _, _, _, _, _, _, _, _, by rw [HC7.out, HV.out], ?_, below_set5 HB.out (by omega) _ _ _ _ _⟩
    rw [HS.out, HT.out, HD.out]
    exact OTW.nil _ _
  have HC0 : Hid (agC ss ts ds zs = 0) := HCe.out.trans het
  have HV : Hid (agV ss ts ds zs = (ts.length : Int) + 1) := if_pos HC0.out
  have HS : Hid (agS ss ts ds zs = enS ss zs) := if_pos HC0.out
  have HT : Hid (agT ss ts ds zs = ts ++ [(enQ ss zs : Int)]) := if_pos HC0.out
  have HD : Hid (agD ss ts ds zs = ds) := if_pos HC0.out
  obtain ⟨a4, ca4, q0, o4⟩ := hfin het
  rw [if_pos het]
  have eq0 : decide ((enQ ss zs : Int) < 0) = false := by simp
  have al3 := (Below.refl w3.heap.size w3).alloc (Nat.le_refl _) (.cells #[.int .i64 (enQ ss zs : Int)] 2)
  have HR3 := hide (RW.loc.below al3 o2b)
  have HW3 := hide (RW.loc.below al3 o2b).2.1
  have HO3 := hide (OS.loc.below al3 o3b)
  have HO4 := hide (OR.loc.below al3 o4)
  have HM3 := hide (M3.below al3)
  have HAl := hide al3
  have HQ0 := hide q0
  have HQ1 := hide q1
  have HQ2 := hide q2
  have HQf := hide qf
  have hq3 : w2.heap.size < w3.heap.size := by omega
  obtain ⟨i0, hi, hz0, hzz1, hzz2⟩ := info_parts info2
  clear hfin het o2b o3b o4 M3 al3 HCe
  go_wp2_with (first
    | (at_builtin; refine wpList_append_lies _ rfl _ _ 38 rfl 0 2 i0 (.int .i64 0) 1 8 Tryz.underlying38 hi hz0 hzz1 hzz2 rfl (by decide) _ tn (ts.map (Value.int .i64)) rfl HW3.out ⟨w3.heap.size, 0, none⟩ 1 1 [.int .i64 (enQ ss zs : Int)] rfl rfl (one_new (by go_simp)) (by simp [Value.oneCell']) (by omega) (by unfold maxLen; omega) (by omega) (Nat.zero_le _) (w3.heap.size + 1) (by simp) ?_)
    | go_in)
  intro g cp w5 hown5 hgrow hat hlt5
  obtain ⟨x5, u5⟩ := HR3.out.app hgrow (by rw [World.size_alloc]; exact hat) hown5 (by omega)
  have z5 := u5.size
  simp only [World.size_alloc] at z5 x5
  have hqb : w5.heap[w2.heap.size]? = w3.heap[w2.heap.size]? := (u5.block w2.heap.size (by simp; omega) (fun e => by have := e.2; omega)).trans (HAl.out.block w2.heap.size hq3)
  have q0' := (World.cell?_of_block (a := ⟨w2.heap.size, 0, none⟩) hqb).trans HQ0.out
  have q1' := (World.cell?_of_block (a := ⟨w2.heap.size, 1, none⟩) hqb).trans HQ1.out
  have q2' := (World.cell?_of_block (a := ⟨w2.heap.size, 2, none⟩) hqb).trans HQ2.out
  have qf' := (World.frozen?_of_block (a := ⟨w2.heap.size, 1, none⟩) hqb).trans HQf.out
  have M5 := HM3.out.out u5 (by omega) (by simp <;> omega) (by simp)
  have o5 := OR.loc.out u5 (fun k h h' => by have := h'.1; have := h'.2; rcases h with h | h; have := h.2; omega; have := h.1; simp only [World.size_alloc] at this; omega) HO4.out
  have d5 := OS.loc.out u5 (fun k h h' => by have := h.1; have := h'.2; omega) HO3.out
  have c0 := M5.cell 0 rfl
  have c1 := M5.cell 1 rfl
  have c2 := M5.cell 2 rfl
  have c3 := M5.cell 3 rfl
  have c4 := M5.cell 4 rfl
  have f0 := M5.fz 0 rfl
  have f1 := M5.fz 1 rfl
  have f2 := M5.fz 2 rfl
  have f3 := M5.fz 3 rfl
  have f4 := M5.fz 4 rfl
  have HB := hide M5.bel
  have HZ : Hid (w.heap.size ≤ w2.heap.size) := by show _ ≤ _; omega
  have HO : Hid (∀ v0 v1 v2 v3 v4 v, OTW (InR w.heap.size w5.heap.size) a4 (enS ss zs).length (enS ss zs) (some ⟨g, 0, none⟩) (tn + 1) cp (ts ++ [(enQ ss zs : Int)]) ya dn ds ((((((w5.setCell ⟨w2.heap.size, 1, none⟩ v).setCell ⟨w.heap.size + 1 + 1, 0, none⟩ v0).setCell ⟨w.heap.size + 1 + 1, 1, none⟩ v1).setCell ⟨w.heap.size + 1 + 1, 2, none⟩ v2).setCell ⟨w.heap.size + 1 + 1, 3, none⟩ v3).setCell ⟨w.heap.size + 1 + 1, 4, none⟩ v4)) := fun v0 v1 v2 v3 v4 v =>
    OTW.ofS (loc_set5 OR.loc (OR.loc.setC o5 (q := ⟨w2.heap.size, 1, none⟩) (fun e => by simp only [World.size_alloc] at e; rcases e with e | e; have := e.2; omega; have := e.1; omega) v) (fun e => by simp only [World.size_alloc] at e; rcases e with e | e; have := e.1; omega; have := e.1; omega) v0 v1 v2 v3 v4)
      (loc_set5 RW.loc (RW.loc.setC (RW.grown x5 hown5) (q := ⟨w2.heap.size, 1, none⟩) (fun e => by simp only at e; rcases e with e | e; have := e.2; omega; have := e.1; omega) v) (fun e => by rcases e with e | e; have := e.1; omega; have := e.1; omega) v0 v1 v2 v3 v4)
      (loc_set5 OS.loc (OS.loc.setC d5 (q := ⟨w2.heap.size, 1, none⟩) (fun e => by have := e.2; simp only at this; omega) v) (fun e => by have := e.1; omega) v0 v1 v2 v3 v4)
      (fun k h => by simp only [World.size_alloc] at h; rcases h with h | h; exact ⟨by have := h.1; omega, by have := h.2; omega⟩; exact ⟨by have := h.1; omega, by have := h.2; omega⟩) (fun k h => by rcases h with h | h; exact ⟨by have := h.1; omega, by have := h.2; omega⟩; exact ⟨by have := h.1; omega, by have := h.2; omega⟩) (fun k h => ⟨by have := h.1; omega, by have := h.2; omega⟩)
      (fun k h h' => by simp only [World.size_alloc] at h; rcases h with h | h; have := h.1; have := h.2; rcases h' with h' | h'; have := h'.1; omega; have := h'.1; omega; have := h.1; have := h.2; rcases h' with h' | h'; have := h'.2; omega; have := h'.1; omega) (fun k h h' => by simp only [World.size_alloc] at h; have := h'.1; have := h'.2; rcases h with h | h; have := h.2; omega; have := h.1; omega) (fun k h h' => by have := h'.1; have := h'.2; rcases h with h | h; have := h.2; omega; have := h.1; omega)
  have hz12 : w.heap.size + 1 + 1 ≠ w2.heap.size := by omega
  clear hown5 hgrow hat M5 o5 d5 x5 u5 q0 q1 q2 qf hqb
  go_wp2
  refine bodyPost_ret (v := .agg #[.int .i64 0, .int .i64 ((tn : Int) + 1), .slice a4 (enS ss zs).length ca4, .slice (some ⟨g, 0, none⟩) (tn + 1) cp, .slice ya dn yc]) (by simp [results, Tryz.results43, go_sem, c0, c1, c2, c3, c4]) rfl ⟨_, _, _, _, _, _, _, _, _, by rw [HC0.out, HV.out, HTL.out], ?_, below_set5 (HB.out.setCell HZ.out _) (by omega) _ _ _ _ _⟩
  rw [HS.out, HT.out, HD.out]
  simpa using HO.out _ _ _ _ _ _

set_option maxRecDepth 100000 in
set_option maxHeartbeats 2000000 in
theorem specAddDomainW_calls (a : Option Addr) (n c : Nat) (ss : List (Int × List Int)) (ta : Option Addr) (tn tc : Nat) (ts : List Int) (da : Option Addr) (dn dc : Nat) (ds : List Int) (b : Option Addr) (lb cb : Nat) (zs : List Int) (w : World) (hrt : RT w a n ss ta tn ts da dn ds) (hlb : lb ≤ maxLen) (hy : Sl w b lb zs) :
    Calls Tryz.prog 45 #[.agg #[.slice a n c, .slice ta tn tc, .slice da dn dc], .agg #[.slice b lb cb]] w fun e w' => ∃ ra rn rc xa xn xc ya yn yc, e = .returned (.agg #[.int .i64 (adC ss ts ds zs), .int .i64 (adV ss ts ds zs), .slice ra rn rc, .slice xa xn xc, .slice ya yn yc]) ∧
      OTW (InR w.heap.size w'.heap.size) ra rn (adS ss ts ds zs) xa xn xc (adT ss ts ds zs) ya yn (adD ss ts ds zs) w' ∧ Below w.heap.size w w' := by
  have M0 := (((Mm.start w).alloc3 (.slice a n c) (.slice ta tn tc) (.slice da dn dc) 40).alloc1 (.slice b lb cb) 84).alloc5 (.int .i64 0) (.int .i64 0) (.slice none 0 0) (.slice none 0 0) (.slice none 0 0) 81
  simp only [World.size_alloc] at M0
  have hrt0 := hrt.below M0.bel (Nat.le_refl _)
  have hy0 := hy.below M0.bel (Nat.le_refl _)
  have HTL := hide hrt.2.2.2.1.1
  have HDL := hide hrt.2.2.2.2.2.1
  have hsl1 : ss.length ≤ n := Nat.le_of_eq hrt.2.1.1
  have hsl2 : n ≤ ss.length := Nat.le_of_eq hrt.2.1.1.symm
  have htl1 : ts.length ≤ tn := Nat.le_of_eq HTL.out
  have htl2 : tn ≤ ts.length := Nat.le_of_eq HTL.out.symm
  have hdl1 : ds.length ≤ dn := Nat.le_of_eq HDL.out
  have hdl2 : dn ≤ ds.length := Nat.le_of_eq HDL.out.symm
  go_enter Tryz.func45, Tryz.ntmps45
  go_wp2_with fail
  refine (l3Asked_calls _ _ a n c ss ta tn tc ts da dn dc ds b lb cb zs _ (M0.lt 6 rfl) (M0.cell 6 rfl) (M0.cell 7 rfl) (M0.cell 8 rfl) hrt0 (M0.lt 5 rfl) (M0.cell 5 rfl) hlb hy0).mono ?_
  rintro e w1 ⟨rfl, g1⟩
  have M1 := M0.below g1
  have hrt1 := hrt0.below g1 (Nat.le_refl _)
  have hy1 := hy0.below g1 (Nat.le_refl _)
  have z1 := g1.size
  simp only [World.size_alloc] at z1
  clear M0 g1 hrt0 hy0
  by_cases hf : otF ss ts ds zs = 0
  rotate_left
  · have HC : Hid (adC ss ts ds zs = otF ss ts ds zs) := if_neg hf
    have hf' : adC ss ts ds zs ≠ 0 := by rw [HC.out]; exact hf
    have HV : Hid (adV ss ts ds zs = 0) := if_neg hf'
    have HS : Hid (adS ss ts ds zs = []) := if_neg hf'
    have HT : Hid (adT ss ts ds zs = []) := if_neg hf'
    have HD : Hid (adD ss ts ds zs = []) := if_neg hf'
    have e2 : (otF ss ts ds zs != 0) = true := by simpa using hf
    clear hf' hf hrt1 hy1
    go_wp2_with fail
    refine (l3Bad_calls _ _).mono ?_
    rintro e w2 ⟨rfl, g2⟩
    have M2 := M1.below g2
    have c0 := M2.cell 0 rfl
    have c1 := M2.cell 1 rfl
    have c2 := M2.cell 2 rfl
    have c3 := M2.cell 3 rfl
    have c4 := M2.cell 4 rfl
    have f0 := M2.fz 0 rfl
    have f1 := M2.fz 1 rfl
    have f2 := M2.fz 2 rfl
    have f3 := M2.fz 3 rfl
    have f4 := M2.fz 4 rfl
    have HB := hide M2.bel
    clear M1 M2 g2
    go_wp2
    refine bodyPost_ret (v := .agg #[.int .i64 (otF ss ts ds zs), .int .i64 0, .slice none 0 0, .slice none 0 0, .slice none 0 0]) (by simp [results, Tryz.results45, go_sem, c0, c1, c2, c3, c4]) rfl ⟨_, _, _, _, _, _, _, _, _, by rw [HC.out, HV.out], ?_, below_set5 HB.out (by omega) _ _ _ _ _⟩
    rw [HS.out, HT.out, HD.out]
    exact OTW.nil _ _
  obtain ⟨hf1, hz⟩ := otF_zero hf
  obtain rfl : lb = 4 := by have := fault_len hz; have := hy.1; omega
  obtain ⟨hr, hmy, _, _, _⟩ := tabF_zero hf1
  have hml := many_len hmy
  have good := good_of hr
  have hsum := good_sum good
  have lc1 := M1.cell 5 rfl
  rw [hf]
  clear hf1
  go_wp2_with fail
  refine (l3Lowish_calls (w.heap.size + 1) 0 b 4 cb zs _ hlb lc1 hy1).mono ?_
  rintro e w1' ⟨rfl, rfl⟩
  by_cases ht : lowB zs = true
  rotate_left
  · have htf : lowB zs = false := by simpa using ht
    have HC : Hid (adC ss ts ds zs = 1) := by show _ = _; unfold adC; rw [if_pos hf, if_neg ht]
    have hf' : adC ss ts ds zs ≠ 0 := by rw [HC.out]; decide
    have HV : Hid (adV ss ts ds zs = 0) := if_neg hf'
    have HS : Hid (adS ss ts ds zs = []) := if_neg hf'
    have HT : Hid (adT ss ts ds zs = []) := if_neg hf'
    have HD : Hid (adD ss ts ds zs = []) := if_neg hf'
    rw [htf]
    clear hf' hf ht htf hrt1 hy1 hz hr lc1
    go_wp2_with fail
    refine (l3Bad_calls _ _).mono ?_
    rintro e w2 ⟨rfl, g2⟩
    have M2 := M1.below g2
    have c0 := M2.cell 0 rfl
    have c1 := M2.cell 1 rfl
    have c2 := M2.cell 2 rfl
    have c3 := M2.cell 3 rfl
    have c4 := M2.cell 4 rfl
    have f0 := M2.fz 0 rfl
    have f1 := M2.fz 1 rfl
    have f2 := M2.fz 2 rfl
    have f3 := M2.fz 3 rfl
    have f4 := M2.fz 4 rfl
    have HB := hide M2.bel
    clear M1 M2 g2
    go_wp2
    refine bodyPost_ret (v := .agg #[.int .i64 1, .int .i64 0, .slice none 0 0, .slice none 0 0, .slice none 0 0]) (by simp [results, Tryz.results45, go_sem, c0, c1, c2, c3, c4]) rfl ⟨_, _, _, _, _, _, _, _, _, by rw [HC.out, HV.out], ?_, below_set5 HB.out (by omega) _ _ _ _ _⟩
    rw [HS.out, HT.out, HD.out]
    exact OTW.nil _ _
  have HC : Hid (adC ss ts ds zs = if dn = 4 then 7 else etC ss zs) := by show _ = _; unfold adC; rw [if_pos hf, if_pos ht, HDL.out]
  rw [ht]
  have k0 := M1.cell 6 rfl
  have k1 := M1.cell 7 rfl
  have k2 := M1.cell 8 rfl
  have Hz := hide hz
  clear hf ht hz hr lc1
  go_wp2_with fail
  refine (l3Copy_R a n c ss ta tn tc ts da dn dc ds _ (by omega) (by omega) (by omega) hrt1).mono ?_
  rintro e w2 ⟨ra, rc, xa, xc, ya, yc, rfl, L2, g2⟩
  have M2 := (M1.below g2).alloc3 (.slice ra n rc) (.slice xa tn xc) (.slice ya dn yc) 40
  have z2 := g2.size
  have al := (Below.refl w2.heap.size w2).alloc (Nat.le_refl _) (.cells #[.slice ra n rc, .slice xa tn xc, .slice ya dn yc] 40)
  obtain ⟨B1, B2, B3, B4, b1, b2, b3, b4, b5, o1, o2, o3⟩ := L2
  obtain ⟨o1a, ⟨xs, hxs⟩, hvT⟩ := RG.loc.below al o1
  have o2a := RW.loc.below al o2
  have o3a := RW.loc.below al o3
  have hy2 := (hy1.below g2 (Nat.le_refl _)).below al (Nat.le_refl _)
  have s0 := M2.cell 0 rfl
  have s1 := M2.cell 1 rfl
  have s2 := M2.cell 2 rfl
  have t0 := M2.fz 0 rfl
  have t1 := M2.fz 2 rfl
  have lc2 := M2.cell 8 rfl
  have zP : w2.heap.size < (w2.alloc (.cells #[.slice ra n rc, .slice xa tn xc, .slice ya dn yc] 40)).heap.size := by simp
  clear g2 al o1 o2 o3 M1 k0 k1 k2 hrt1 hy1
  by_cases h6 : dn = 4
  · have HC7 : Hid (adC ss ts ds zs = 7) := by show _ = _; rw [HC.out, if_pos h6]
    have hf' : adC ss ts ds zs ≠ 0 := by rw [HC7.out]; decide
    have HV : Hid (adV ss ts ds zs = 0) := if_neg hf'
    have HS : Hid (adS ss ts ds zs = []) := if_neg hf'
    have HT : Hid (adT ss ts ds zs = []) := if_neg hf'
    have HD : Hid (adD ss ts ds zs = []) := if_neg hf'
    have eg : decide ((4 : Int) ≤ (dn : Int)) = true := by simp; omega
    clear hf' o1a o2a o3a hy2 hxs hvT HC h6
    go_wp2_with fail
    refine (l3Bad_calls _ _).mono ?_
    rintro e w3 ⟨rfl, g3⟩
    have M3 := M2.below g3
    have c0 := M3.cell 3 rfl
    have c1 := M3.cell 4 rfl
    have c2 := M3.cell 5 rfl
    have c3 := M3.cell 6 rfl
    have c4 := M3.cell 7 rfl
    have f0 := M3.fz 3 rfl
    have f1 := M3.fz 4 rfl
    have f2 := M3.fz 5 rfl
    have f3 := M3.fz 6 rfl
    have f4 := M3.fz 7 rfl
    have HB := hide M3.bel
    clear M2 M3 g3 s0 s1 s2 t0 t1 lc2
    go_wp2
    refine bodyPost_ret (v := .agg #[.int .i64 7, .int .i64 0, .slice none 0 0, .slice none 0 0, .slice none 0 0]) (by simp [results, Tryz.results45, go_sem, c0, c1, c2, c3, c4]) rfl ⟨_, _, _, _, _, _, _, _, _, by rw [HC7.out, HV.out], ?_, below_set5 HB.out (by omega) _ _ _ _ _⟩
    rw [HS.out, HT.out, HD.out]
    exact OTW.nil _ _
  have HCe : Hid (adC ss ts ds zs = etC ss zs) := by show _ = _; rw [HC.out, if_neg h6]
  have eg : decide ((4 : Int) ≤ (dn : Int)) = false := by simp; omega
  clear HC h6
  go_wp2_with fail
  refine (l2Enter_O w2.heap.size (w.heap.size + 1) B1 B2 ra b n rc cb ss zs xs _ zP (by omega) (by omega) b2 s0 t0 lc2 o1a hxs (fun g hg => (hvT g hg).2) good hy2 Hz.out).mono ?_
  rintro e w3 ⟨rfl, hfin, u3, k3⟩
  have z3 := u3.size
  simp only [World.size_alloc] at z3
  have q1 := ((k3 1).1 (by omega)).trans s1
  have q2 := ((k3 2).1 (by omega)).trans s2
  have qf := (k3 2).2.trans t1
  have M3 : Mm w w3 [(w.heap.size + 1 + 1, 0, .int .i64 0), (w.heap.size + 1 + 1, 1, .int .i64 0), (w.heap.size + 1 + 1, 2, .slice none 0 0), (w.heap.size + 1 + 1, 3, .slice none 0 0), (w.heap.size + 1 + 1, 4, .slice none 0 0)] [] :=
    (M2.sub (fun _ h => by simp only [List.mem_cons, List.not_mem_nil, or_false] at h ⊢; rcases h with h | h | h | h | h <;> simp [h]) (fun _ h => by cases h)).out (B := B1) (T := w2.heap.size + 1) (u3.mono (fun k hk => by rcases hk with hk | hk; exact ⟨hk.1, by have := hk.2; omega⟩; exact ⟨by omega, by omega⟩)) (by omega) (by simp <;> omega) (by simp)
  have o2b := RW.loc.out u3 (fun k h h' => by have := h.1; have := h.2; rcases h' with h' | h'; have := h'.2; omega; omega) o2a
  have o3b := RW.loc.out u3 (fun k h h' => by have := h.1; have := h.2; rcases h' with h' | h'; have := h'.2; omega; omega) o3a
  clear M2 u3 k3 hy2 o1a o2a o3a hxs hvT s0 s1 s2 t0 t1 lc2
  by_cases het : etC ss zs = 0
  rotate_left
  · have h7 : etC ss zs = 7 := by unfold etC at het ⊢; split at het <;> simp_all
    have HC7 : Hid (adC ss ts ds zs = 7) := HCe.out.trans h7
    have hf' : adC ss ts ds zs ≠ 0 := by rw [HC7.out]; decide
    have HV : Hid (adV ss ts ds zs = 0) := if_neg hf'
    have HS : Hid (adS ss ts ds zs = []) := if_neg hf'
    have HT : Hid (adT ss ts ds zs = []) := if_neg hf'
    have HD : Hid (adD ss ts ds zs = []) := if_neg hf'
    rw [if_neg het]
    clear hf' hfin o2b o3b het h7 HCe
    go_wp2_with fail
    refine (l3Bad_calls _ _).mono ?_
    rintro e w4 ⟨rfl, g4⟩
    have M4 := M3.below g4
    have c0 := M4.cell 0 rfl
    have c1 := M4.cell 1 rfl
    have c2 := M4.cell 2 rfl
    have c3 := M4.cell 3 rfl
    have c4 := M4.cell 4 rfl
    have f0 := M4.fz 0 rfl
    have f1 := M4.fz 1 rfl
    have f2 := M4.fz 2 rfl
    have f3 := M4.fz 3 rfl
    have f4 := M4.fz 4 rfl
    have HB := hide M4.bel
    clear M3 M4 g4 q1 q2 qf
    go_wp2
    refine bodyPost_ret (v := .agg #[.int .i64 7, .int .i64 0, .slice none 0 0, .slice none 0 0, .slice none 0 0]) (by simp [results, Tryz.results45, go_sem, c0, c1, c2, c3, c4]) rfl ⟨_, _, _, _, _, _, _, _, _, by rw [HC7.out, HV.out], ?_, below_set5 HB.out (by omega) _ _ _ _ _⟩
    rw [HS.out, HT.out, HD.out]
    exact OTW.nil _ _
  have HC0 : Hid (adC ss ts ds zs = 0) := HCe.out.trans het
  have HV : Hid (adV ss ts ds zs = (ds.length : Int)) := if_pos HC0.out
  have HS : Hid (adS ss ts ds zs = enS ss zs) := if_pos HC0.out
  have HT : Hid (adT ss ts ds zs = ts) := if_pos HC0.out
  have HD : Hid (adD ss ts ds zs = ds ++ [(enQ ss zs : Int)]) := if_pos HC0.out
  obtain ⟨a4, ca4, q0, o4⟩ := hfin het
  rw [if_pos het]
  have eq0 : decide ((enQ ss zs : Int) < 0) = false := by simp
  have al3 := (Below.refl w3.heap.size w3).alloc (Nat.le_refl _) (.cells #[.int .i64 (enQ ss zs : Int)] 2)
  have HR3 := hide (RW.loc.below al3 o3b)
  have HW3 := hide (RW.loc.below al3 o3b).2.1
  have HO3 := hide (RW.loc.below al3 o2b)
  have HO4 := hide (OR.loc.below al3 o4)
  have HM3 := hide (M3.below al3)
  have HAl := hide al3
  have HQ0 := hide q0
  have HQ1 := hide q1
  have HQ2 := hide q2
  have HQf := hide qf
  have hq3 : w2.heap.size < w3.heap.size := by omega
  obtain ⟨i0, hi, hz0, hzz1, hzz2⟩ := info_parts info2
  clear hfin het o2b o3b o4 M3 al3 HCe
  go_wp2_with (first
    | (at_builtin; refine wpList_append_lies _ rfl _ _ 38 rfl 0 2 i0 (.int .i64 0) 1 8 Tryz.underlying38 hi hz0 hzz1 hzz2 rfl (by decide) _ dn (ds.map (Value.int .i64)) rfl HW3.out ⟨w3.heap.size, 0, none⟩ 1 1 [.int .i64 (enQ ss zs : Int)] rfl rfl (one_new (by go_simp)) (by simp [Value.oneCell']) (by omega) (by unfold maxLen; omega) (by omega) (Nat.zero_le _) (w3.heap.size + 1) (by simp) ?_)
    | go_in)
  intro g cp w5 hown5 hgrow hat hlt5
  obtain ⟨x5, u5⟩ := HR3.out.app hgrow (by rw [World.size_alloc]; exact hat) hown5 (by omega)
  have z5 := u5.size
  simp only [World.size_alloc] at z5 x5
  have hqb : w5.heap[w2.heap.size]? = w3.heap[w2.heap.size]? := (u5.block w2.heap.size (by simp; omega) (fun e => by have := e.2; omega)).trans (HAl.out.block w2.heap.size hq3)
  have q0' := (World.cell?_of_block (a := ⟨w2.heap.size, 0, none⟩) hqb).trans HQ0.out
  have q1' := (World.cell?_of_block (a := ⟨w2.heap.size, 1, none⟩) hqb).trans HQ1.out
  have q2' := (World.cell?_of_block (a := ⟨w2.heap.size, 2, none⟩) hqb).trans HQ2.out
  have qf' := (World.frozen?_of_block (a := ⟨w2.heap.size, 2, none⟩) hqb).trans HQf.out
  have M5 := HM3.out.out u5 (by omega) (by simp <;> omega) (by simp)
  have o5 := OR.loc.out u5 (fun k h h' => by have := h'.1; have := h'.2; rcases h with h | h; have := h.2; omega; have := h.1; simp only [World.size_alloc] at this; omega) HO4.out
  have d5 := RW.loc.out u5 (fun k h h' => by have := h.2; have := h'.1; omega) HO3.out
  have c0 := M5.cell 0 rfl
  have c1 := M5.cell 1 rfl
  have c2 := M5.cell 2 rfl
  have c3 := M5.cell 3 rfl
  have c4 := M5.cell 4 rfl
  have f0 := M5.fz 0 rfl
  have f1 := M5.fz 1 rfl
  have f2 := M5.fz 2 rfl
  have f3 := M5.fz 3 rfl
  have f4 := M5.fz 4 rfl
  have HB := hide M5.bel
  have HZ : Hid (w.heap.size ≤ w2.heap.size) := by show _ ≤ _; omega
  have HO : Hid (∀ v0 v1 v2 v3 v4 v, OTW (InR w.heap.size w5.heap.size) a4 (enS ss zs).length (enS ss zs) xa tn xc ts (some ⟨g, 0, none⟩) (dn + 1) (ds ++ [(enQ ss zs : Int)]) ((((((w5.setCell ⟨w2.heap.size, 2, none⟩ v).setCell ⟨w.heap.size + 1 + 1, 0, none⟩ v0).setCell ⟨w.heap.size + 1 + 1, 1, none⟩ v1).setCell ⟨w.heap.size + 1 + 1, 2, none⟩ v2).setCell ⟨w.heap.size + 1 + 1, 3, none⟩ v3).setCell ⟨w.heap.size + 1 + 1, 4, none⟩ v4)) := fun v0 v1 v2 v3 v4 v =>
    OTW.ofS (loc_set5 OR.loc (OR.loc.setC o5 (q := ⟨w2.heap.size, 2, none⟩) (fun e => by simp only [World.size_alloc] at e; rcases e with e | e; have := e.2; omega; have := e.1; omega) v) (fun e => by simp only [World.size_alloc] at e; rcases e with e | e; have := e.1; omega; have := e.1; omega) v0 v1 v2 v3 v4)
      (loc_set5 RW.loc (RW.loc.setC d5 (q := ⟨w2.heap.size, 2, none⟩) (fun e => by have := e.2; simp only at this; omega) v) (fun e => by have := e.1; omega) v0 v1 v2 v3 v4)
      (loc_set5 OS.loc (OS.loc.setC x5 (q := ⟨w2.heap.size, 2, none⟩) (fun e => by simp only at e; rcases e with e | e; have := e.2; omega; have := e.1; omega) v) (fun e => by rcases e with e | e; have := e.1; omega; have := e.1; omega) v0 v1 v2 v3 v4)
      (fun k h => by simp only [World.size_alloc] at h; rcases h with h | h; exact ⟨by have := h.1; omega, by have := h.2; omega⟩; exact ⟨by have := h.1; omega, by have := h.2; omega⟩) (fun k h => ⟨by have := h.1; omega, by have := h.2; omega⟩) (fun k h => by rcases h with h | h; exact ⟨by have := h.1; omega, by have := h.2; omega⟩; exact ⟨by have := h.1; omega, by have := h.2; omega⟩)
      (fun k h h' => by simp only [World.size_alloc] at h; have := h'.1; have := h'.2; rcases h with h | h; have := h.2; omega; have := h.1; omega) (fun k h h' => by simp only [World.size_alloc] at h; rcases h with h | h; have := h.1; have := h.2; rcases h' with h' | h'; have := h'.1; omega; have := h'.1; omega; have := h.1; have := h.2; rcases h' with h' | h'; have := h'.2; omega; have := h'.1; omega) (fun k h h' => by have := h.1; have := h.2; rcases h' with h' | h'; have := h'.1; omega; have := h'.1; omega)
  have hz12 : w.heap.size + 1 + 1 ≠ w2.heap.size := by omega
  clear hown5 hgrow hat M5 o5 d5 x5 u5 q0 q1 q2 qf hqb
  go_wp2
  refine bodyPost_ret (v := .agg #[.int .i64 0, .int .i64 (dn : Int), .slice a4 (enS ss zs).length ca4, .slice xa tn xc, .slice (some ⟨g, 0, none⟩) (dn + 1) cp]) (by simp [results, Tryz.results45, go_sem, c0, c1, c2, c3, c4]) rfl ⟨_, _, _, _, _, _, _, _, _, by rw [HC0.out, HV.out, HDL.out], ?_, below_set5 (HB.out.setCell HZ.out _) (by omega) _ _ _ _ _⟩
  rw [HS.out, HT.out, HD.out]
  simpa using HO.out _ _ _ _ _ _

end Go.Proofs.YtnibngigbcakkaaGreat
