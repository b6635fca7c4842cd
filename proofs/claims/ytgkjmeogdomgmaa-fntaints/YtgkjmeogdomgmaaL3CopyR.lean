import Derived.Test.YtgkjmeogdomgmaaTabK
import Derived.Test.YtgkjmeogdomgmaaL2Copy
import Derived.Test.YtgkjmeogdomgmaaL1Copy
import Derived.Test.YtgkjmeogdomgmaaOpenTabR
import Derived.WalkKit
import Derived.ProofKit
import Derived.OpenShut
import Derived.ShutString
import Derived.ChangeOld
import Derived.Below
import Derived.WalkSpells
import Derived.Deep.QuietTactic
import Derived.BigQuiet
import Derived.Deep.RegionWith
import Derived.Deep.WholeRow
import Derived.Deep.DeepCutAuto
import Derived.Deep.RegionHeld2
import Derived.Deep.AppendLies
import Derived.Deep.RegionLaw
namespace Go.Proofs.Ytgkjmeogdomgmaa
open Go.ChangeShapes Go.WideShapes Go.ChangeAt Go.RowKit

set_option maxRecDepth 100000 in
theorem l3Bad_calls (c : Int) (w : World) :
    Calls Try.prog 31 #[.int .i64 c] w fun e w' => e = .returned (.agg #[.int .i64 c, .int .i64 0, .slice none 0 0, .slice none 0 0, .slice none 0 0]) ∧ Below w.heap.size w w' := by
  have HB := hide fun o => (Below.refl w.heap.size w).alloc (Nat.le_refl _) o
  go_enter Try.func31, Try.ntmps31
  go_wp2
  exact bodyPost_ret (v := .agg #[.int .i64 c, .int .i64 0, .slice none 0 0, .slice none 0 0, .slice none 0 0]) (by simp [results, Try.results31, go_sem]) rfl ⟨rfl, HB.out _⟩

set_option maxRecDepth 100000 in
set_option maxHeartbeats 1000000 in
theorem l1Ints_R (a : Option Addr) (n cap : Nat) (zs : List Int) (w : World) (hn : n ≤ 1048576) (hs : Sl w a n zs) :
    Calls Try.prog 70 #[.slice a n cap] w fun e w' => ∃ ra rc, e = .returned (.slice ra n rc) ∧ n ≤ rc ∧ RW (InR w.heap.size w'.heap.size) ra n rc zs w' ∧ Below w.heap.size w w' := by
  obtain ⟨hlen, hs⟩ := hs
  obtain ⟨i0, hi, hz0, hz1, hz2⟩ := info_parts info2
  have hb0 := fun o1 => (Below.refl w.heap.size w).alloc (Nat.le_refl _) o1
  by_cases hp : 0 < n
  · obtain ⟨b, off, rfl, hb, hc⟩ := hs hp
    have hown := World.ownsRow_lit (base := w.heap.size) (e := 2) (size := 1) w #[] 0 (Nat.le_refl _) (Nat.zero_le _) rfl
    have hnews := ints_at_sl (w := w.alloc (.cells #[] 2)) (b := b) (off := off) (zs := zs) (fun i hi => ((hb0 _).cell (p := ⟨b, off + i, none⟩) hb).trans (hc i (by omega)))
    have HO := hide hown
    have HN := hide hnews
    have hm1 : 0 + n ≤ maxLen := by unfold maxLen; omega
    have hm2 : (0 + n) * 8 ≤ 140737488355328 := by omega
    have hl1 : (zs.map (Value.int .i64)).length = n * 1 := by simp [hlen]
    have hbs : w.heap.size ≤ (w.alloc (.cells #[] 2)).heap.size := by simp
    have HL := hide hl1
    have HM1 := hide hm1
    have HM2 := hide hm2
    have HBS := hide hbs
    clear hown hnews hs hc hl1 hm1 hm2 hbs
    go_enter Try.func70, Try.ntmps70
    go_wp2_with (first
      | (at_builtin; refine wpList_append_own _ rfl _ _ 25 rfl w.heap.size 2 i0 (.int .i64 0) 1 8 Try.underlying25 hi hz0 hz1 hz2 rfl (by decide) _ 0 [] rfl HO.out ⟨b, off, none⟩ n cap (zs.map (Value.int .i64)) rfl HL.out HN.out ints_one HM1.out HM2.out HBS.out ?_)
      | go_in)
    intro v' w1 hown' hgrow _
    have hown2 : w1.ownsRow w.heap.size 2 1 v' n (zs.map (Value.int .i64)) := by simpa using hown'
    obtain ⟨ra, rc, rfl, fr⟩ := RW.of hn hown2
    have hcap := fr.room
    have h1 : Below w.heap.size w w1 := (hb0 _).grown hgrow (by simp) (fun k hk => by simp [Value.ownBlock] at hk; omega)
    have HFR := hide fr
    have HB1 := hide h1
    clear HO HN hown' hown2 hgrow hb0 fr h1
    go_wp2
    go_ret
    exact ⟨ra, rc, rfl, hcap, HFR.out, HB1.out⟩
  · have h0 : n = 0 := by omega
    subst h0
    cases a
    all_goals
      go_enter Try.func70, Try.ntmps70
      go_wp2
      go_ret
      exact ⟨_, 0, rfl, by omega, RW.lit w hlen, hb0 _⟩

/-- owned slots with their row. -/
def RG (B T : Nat) (a : Option Addr) (n rc : Nat) (ss : List (Int × List Int)) (w : World) : Prop :=
  OR (InR B T) a n ss w ∧ (∃ xs, w.ownsRow B 111 2 (.slice a n rc) n xs) ∧ ∀ g, (Value.slice a n rc).ownBlock = some g → InR B T g

theorem RG.loc {B T : Nat} {a : Option Addr} {n rc : Nat} {ss : List (Int × List Int)} : Loc (InR B T) (RG B T a n rc ss) := fun w w' hk h => by
  obtain ⟨o, ⟨xs, hx⟩, hs⟩ := h
  refine ⟨OR.loc w w' hk o, ⟨xs, hx.1, ?_⟩, hs⟩
  rcases hx.2 with h0 | ⟨g, cap, cur, hv, hb, hg, rest⟩
  · exact .inl h0
  · refine .inr ⟨g, cap, cur, hv, hb, ?_, rest⟩
    rw [hk g (hs g (by rw [hv]; rfl)) (Array.getElem?_eq_some_iff.1 hg).1]
    exact hg

/-- slots, tags and domains in blocks of their own, one behind the other, with their rows. -/
def L3R (B : Nat) (a : Option Addr) (n rc : Nat) (ss : List (Int × List Int)) (ta : Option Addr) (tn xc : Nat) (ts : List Int) (da : Option Addr) (dn yc : Nat) (ds : List Int) (w : World) : Prop :=
  ∃ B1 B2 B3 B4, B ≤ B1 ∧ B1 ≤ B2 ∧ B2 ≤ B3 ∧ B3 ≤ B4 ∧ B4 ≤ w.heap.size ∧ RG B1 B2 a n rc ss w ∧ RW (InR B2 B3) ta tn xc ts w ∧ RW (InR B3 B4) da dn yc ds w

theorem L3R.setC {B P o : Nat} {a : Option Addr} {n rc : Nat} {ss : List (Int × List Int)} {ta : Option Addr} {tn xc : Nat} {ts : List Int} {da : Option Addr} {dn yc : Nat} {ds : List Int} {w : World} (h : L3R B a n rc ss ta tn xc ts da dn yc ds w) (hP : P < B) (v : Value) : L3R B a n rc ss ta tn xc ts da dn yc ds (w.setCell ⟨P, o, none⟩ v) := by
  obtain ⟨B1, B2, B3, B4, h1, h2, h3, h4, h5, o1, o2, o3⟩ := h
  exact ⟨B1, B2, B3, B4, h1, h2, h3, h4, by simpa using h5, RG.loc.setC o1 (fun e => by have := e.1; simp only at this; omega) v, RW.loc.setC o2 (fun e => by have := e.1; simp only at this; omega) v, RW.loc.setC o3 (fun e => by have := e.1; simp only at this; omega) v⟩

theorem keepL {X : World} {q o R i : Nat} {v x : Value} (h : q ≠ R) (hc : X.cell? ⟨q, o, none⟩ = some v) : (X.setCell ⟨R, i, none⟩ x).cell? ⟨q, o, none⟩ = some v := by
  rw [World.cell?_setCell_other _ _ _ _ (fun e => h (by injection e with e1 _; exact e1.symm))]; exact hc

set_option maxRecDepth 100000 in
set_option maxHeartbeats 2000000 in
theorem l3Copy_R (a : Option Addr) (n c : Nat) (ss : List (Int × List Int)) (ta : Option Addr) (tn tc : Nat) (ts : List Int) (da : Option Addr) (dn dc : Nat) (ds : List Int) (w : World) (hm : n + lenSum ss ≤ 1048576) (htn : tn ≤ 1048576) (hdn : dn ≤ 1048576) (hrt : RT w a n ss ta tn ts da dn ds) :
    Calls Try.prog 35 #[.agg #[.slice a n c, .slice ta tn tc, .slice da dn dc]] w fun e w' => ∃ ra rc xa xc ya yc, e = .returned (.agg #[.slice ra n rc, .slice xa tn xc, .slice ya dn yc]) ∧ L3R w.heap.size ra n rc ss xa tn xc ts ya dn yc ds w' ∧ Below w.heap.size w w' := by
  have M0 := ((Mm.start w).alloc3 (.slice a n c) (.slice ta tn tc) (.slice da dn dc) 36).alloc3 (.slice none 0 0) (.slice none 0 0) (.slice none 0 0) 36
  try simp only [World.size_alloc] at M0
  have hr0 := hrt.below M0.bel (Nat.le_refl _)
  have HM := hide M0
  have HR := hide hr0
  clear M0 hr0
  go_enter Try.func35, Try.ntmps35
  have HS0 : Hid (((w.alloc (.cells #[.slice a n c, .slice ta tn tc, .slice da dn dc] 36)).alloc (.cells #[.slice none 0 0, .slice none 0 0, .slice none 0 0] 36)).drew.cell? ⟨w.heap.size, 0, none⟩ = some (.slice a n c) ∧ ((w.alloc (.cells #[.slice a n c, .slice ta tn tc, .slice da dn dc] 36)).alloc (.cells #[.slice none 0 0, .slice none 0 0, .slice none 0 0] 36)).drew.cell? ⟨w.heap.size, 1, none⟩ = some (.slice ta tn tc) ∧ ((w.alloc (.cells #[.slice a n c, .slice ta tn tc, .slice da dn dc] 36)).alloc (.cells #[.slice none 0 0, .slice none 0 0, .slice none 0 0] 36)).drew.cell? ⟨w.heap.size, 2, none⟩ = some (.slice da dn dc)) := ⟨HM.out.drew.cell 3 rfl, HM.out.drew.cell 4 rfl, HM.out.drew.cell 5 rfl⟩
  go_wp2_with fail
  go_region_held2 (fun W => W.cell? ⟨w.heap.size, 0, none⟩ = some (.slice a n c) ∧ W.cell? ⟨w.heap.size, 1, none⟩ = some (.slice ta tn tc) ∧ W.cell? ⟨w.heap.size, 2, none⟩ = some (.slice da dn dc))
   (first | with_reducible assumption | with_reducible exact HS0.out | (refine ⟨?_, ?_, ?_⟩ <;> (repeat (with_reducible refine keepL (by omega) ?_)) <;> first | with_reducible exact h3.1 | with_reducible exact h3.2.1 | with_reducible exact h3.2.2))
   (first
    | (go_at_call 69; refine (l2Copy_R a n c ss _ hm ?_).mono ?_; exact HR.out.2.1.below (Below.refl _ _).drew (Nat.le_refl _); rintro e w1 ⟨ra, rc, rfl, p1, ⟨xs, x1⟩, g1⟩; have o1 : RG _ w1.heap.size ra n rc ss w1 := ⟨p1, ⟨xs, x1⟩, fun g hg => x1.lt g hg⟩; clear p1 x1; have M1 := HM.out.drew.below g1; have h1 : w1.cell? ⟨w.heap.size, 0, none⟩ = some (.slice a n c) ∧ w1.cell? ⟨w.heap.size, 1, none⟩ = some (.slice ta tn tc) ∧ w1.cell? ⟨w.heap.size, 2, none⟩ = some (.slice da dn dc) := ⟨M1.cell 3 rfl, M1.cell 4 rfl, M1.cell 5 rfl⟩; have z1 := g1.size; clear g1)
    | (go_at_call_of 70 (Value.slice ta tn tc); refine (l1Ints_R ta tn tc ts _ htn ?_).mono ?_; exact hrt.2.2.2.1.below M1.bel (Nat.le_refl _); rintro e w2 ⟨xa, xc, rfl, _, o2, g2⟩; have M2 := M1.below g2; have h2 : w2.cell? ⟨w.heap.size, 0, none⟩ = some (.slice a n c) ∧ w2.cell? ⟨w.heap.size, 1, none⟩ = some (.slice ta tn tc) ∧ w2.cell? ⟨w.heap.size, 2, none⟩ = some (.slice da dn dc) := ⟨M2.cell 3 rfl, M2.cell 4 rfl, M2.cell 5 rfl⟩; have z2 := g2.size; have o1' := RG.loc.below g2 o1; clear g2)
    | (go_at_call_of 70 (Value.slice da dn dc); refine (l1Ints_R da dn dc ds _ hdn ?_).mono ?_; exact hrt.2.2.2.2.2.below M2.bel (Nat.le_refl _); rintro e w3 ⟨ya, yc, rfl, _, o3, g3⟩; have M3 := M2.below g3; have h3 : w3.cell? ⟨w.heap.size, 0, none⟩ = some (.slice a n c) ∧ w3.cell? ⟨w.heap.size, 1, none⟩ = some (.slice ta tn tc) ∧ w3.cell? ⟨w.heap.size, 2, none⟩ = some (.slice da dn dc) := ⟨M3.cell 3 rfl, M3.cell 4 rfl, M3.cell 5 rfl⟩; have z3 := g3.size; have o1'' := RG.loc.below g3 o1'; have o2'' := RW.loc.below g3 o2; clear g3; have r0 := M3.cell 0 rfl; have r1 := M3.cell 1 rfl; have r2 := M3.cell 2 rfl; have e0 := M3.fz 0 rfl; have e1 := M3.fz 1 rfl; have e2 := M3.fz 2 rfl))
  all_goals (
    have zw := M3.bel.size
    have HB := hide M3.bel
    have HL : Hid (L3R (w.heap.size + 1 + 1) ra n rc ss xa tn xc ts ya dn yc ds w3) := ⟨_, _, _, _, by simp, z1, z2, z3, Nat.le_refl _, o1'', o2'', o3⟩
    clear M3
    go_wp2
    refine bodyPost_ret (v := .agg #[.slice ra n rc, .slice xa tn xc, .slice ya dn yc]) (by simp [results, Try.results35, go_sem, r0, r1, r2]) rfl ⟨ra, rc, xa, xc, ya, yc, rfl, ?_, ((HB.out.setCell (by simp) _).setCell (by simp) _).setCell (by simp) _⟩
    obtain ⟨B1, B2, B3, B4, k1, k⟩ := ((HL.out.setC (P := w.heap.size + 1) (o := 0) (by omega) (.slice ra n rc)).setC (P := w.heap.size + 1) (o := 1) (by omega) (.slice xa tn xc)).setC (P := w.heap.size + 1) (o := 2) (by omega) (.slice ya dn yc)
    exact ⟨B1, B2, B3, B4, by omega, k⟩)

end Go.Proofs.Ytgkjmeogdomgmaa
