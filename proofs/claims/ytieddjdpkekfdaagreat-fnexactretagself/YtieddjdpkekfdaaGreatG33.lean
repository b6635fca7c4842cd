import Derived.Test.YtieddjdpkekfdaaGreatG9
import Derived.Test.YtieddjdpkekfdaaGreatG32
import Derived.Test.YtieddjdpkekfdaaGreatG21
import Derived.WalkKit
import Derived.ProofKit
import Derived.OpenShut
import Derived.ShutString
import Derived.ChangeOld
import Derived.Below
import Derived.WalkSpells
import Derived.Deep.QuietTactic
import Derived.BigQuiet
import Derived.Deep.RegionWith
import Derived.Deep.WholeRow
import Derived.Deep.DeepCutAuto
import Derived.Deep.RegionHeld2
import Derived.Deep.AppendLies
import Derived.Deep.RegionLaw
namespace Go.Proofs.YtieddjdpkekfdaaGreat
open Go.ChangeShapes Go.WideShapes Go.ChangeAt Go.RowKit

/-- slots, tags and domains in blocks of their own, one behind the other. -/
def L3 (B : Nat) (a : Option Addr) (n : Nat) (ss : List (Int × List Int)) (ta : Option Addr) (tn : Nat) (ts : List Int) (da : Option Addr) (dn : Nat) (ds : List Int) (w : World) : Prop :=
  ∃ B1 B2 B3 B4, B ≤ B1 ∧ B1 ≤ B2 ∧ B2 ≤ B3 ∧ B3 ≤ B4 ∧ B4 ≤ w.heap.size ∧ OR (InR B1 B2) a n ss w ∧ OS (InR B2 B3) ta tn ts w ∧ OS (InR B3 B4) da dn ds w

theorem L3.below {B : Nat} {a : Option Addr} {n : Nat} {ss : List (Int × List Int)} {ta : Option Addr} {tn : Nat} {ts : List Int} {da : Option Addr} {dn : Nat} {ds : List Int} {w w' : World} (h : L3 B a n ss ta tn ts da dn ds w) (hb : Below w.heap.size w w') : L3 B a n ss ta tn ts da dn ds w' := by
  obtain ⟨B1, B2, B3, B4, h1, h2, h3, h4, h5, o1, o2, o3⟩ := h
  exact ⟨B1, B2, B3, B4, h1, h2, h3, h4, by have := hb.size; omega, OR.loc.below hb o1, OS.loc.below hb o2, OS.loc.below hb o3⟩

theorem L3.ot {B T : Nat} {a : Option Addr} {n : Nat} {ss : List (Int × List Int)} {ta : Option Addr} {tn : Nat} {ts : List Int} {da : Option Addr} {dn : Nat} {ds : List Int} {w : World} (h : L3 B a n ss ta tn ts da dn ds w) (hT : w.heap.size ≤ T) : OT (InR B T) a n ss ta tn ts da dn ds w := by
  obtain ⟨B1, B2, B3, B4, h1, h2, h3, h4, h5, o1, o2, o3⟩ := h
  exact ⟨InR B1 B2, InR B2 B3, InR B3 B4, fun k hk => ⟨by have := hk.1; omega, by have := hk.2; omega⟩, fun k hk => ⟨by have := hk.1; omega, by have := hk.2; omega⟩, fun k hk => ⟨by have := hk.1; omega, by have := hk.2; omega⟩,
    fun k h h' => by have := h.2; have := h'.1; omega, fun k h h' => by have := h.2; have := h'.1; omega, fun k h h' => by have := h.2; have := h'.1; omega, o1, o2, o3⟩

theorem L3.setC {B P o : Nat} {a : Option Addr} {n : Nat} {ss : List (Int × List Int)} {ta : Option Addr} {tn : Nat} {ts : List Int} {da : Option Addr} {dn : Nat} {ds : List Int} {w : World} (h : L3 B a n ss ta tn ts da dn ds w) (hP : P < B) (v : Value) : L3 B a n ss ta tn ts da dn ds (w.setCell ⟨P, o, none⟩ v) := by
  obtain ⟨B1, B2, B3, B4, h1, h2, h3, h4, h5, o1, o2, o3⟩ := h
  exact ⟨B1, B2, B3, B4, h1, h2, h3, h4, by simpa using h5, OR.loc.setC o1 (fun e => by have := e.1; simp only at this; omega) v, OS.loc.setC o2 (fun e => by have := e.1; simp only at this; omega) v, OS.loc.setC o3 (fun e => by have := e.1; simp only at this; omega) v⟩

set_option maxRecDepth 100000 in
set_option maxHeartbeats 2000000 in
theorem l3Copy_O (a : Option Addr) (n c : Nat) (ss : List (Int × List Int)) (ta : Option Addr) (tn tc : Nat) (ts : List Int) (da : Option Addr) (dn dc : Nat) (ds : List Int) (w : World) (hm : n + lenSum ss ≤ 1048576) (htn : tn ≤ 1048576) (hdn : dn ≤ 1048576) (hrt : RT w a n ss ta tn ts da dn ds) :
    Calls Tryz.prog 124 #[.agg #[.slice a n c, .slice ta tn tc, .slice da dn dc]] w fun e w' => ∃ ra rc xa xc ya yc, e = .returned (.agg #[.slice ra n rc, .slice xa tn xc, .slice ya dn yc]) ∧ tn ≤ xc ∧ L3 w.heap.size ra n ss xa tn ts ya dn ds w' ∧ Below w.heap.size w w' := by
  have M0 := ((Mm.start w).alloc3 (.slice a n c) (.slice ta tn tc) (.slice da dn dc) 43).alloc3 (.slice none 0 0) (.slice none 0 0) (.slice none 0 0) 43
  try simp only [World.size_alloc] at M0
  have hr0 := hrt.below M0.bel (Nat.le_refl _)
  have HM := hide M0
  have HR := hide hr0
  clear M0 hr0
  go_enter Tryz.func124, Tryz.ntmps124
  go_wp2_with fail
  go_region_with (first
    | (go_at_call 195; refine (l2Copy_O a n c ss _ hm ?_).mono ?_; exact HR.out.2.1.below (Below.refl _ _).drew (Nat.le_refl _); rintro e w1 ⟨ra, rc, rfl, o1, g1⟩; have M1 := HM.out.drew.below g1; have q1 := M1.cell 4 rfl; have q2 := M1.cell 5 rfl; have z1 := g1.size; clear g1)
    | (go_at_call_of 128 (Value.slice ta tn tc); refine (l1Ints_O ta tn tc ts _ htn ?_).mono ?_; exact hrt.2.2.2.1.below M1.bel (Nat.le_refl _); rintro e w2 ⟨xa, xc, rfl, hcx, o2, g2⟩; have M2 := M1.below g2; have q3 := M2.cell 5 rfl; have z2 := g2.size; have o1' := OR.loc.below g2 o1; clear g2)
    | (go_at_call_of 128 (Value.slice da dn dc); refine (l1Ints_O da dn dc ds _ hdn ?_).mono ?_; exact hrt.2.2.2.2.2.below M2.bel (Nat.le_refl _); rintro e w3 ⟨ya, yc, rfl, _, o3, g3⟩; have M3 := M2.below g3; have z3 := g3.size; have o1'' := OR.loc.below g3 o1'; have o2'' := OS.loc.below g3 o2; clear g3; have r0 := M3.cell 0 rfl; have r1 := M3.cell 1 rfl; have r2 := M3.cell 2 rfl; have e0 := M3.fz 0 rfl; have e1 := M3.fz 1 rfl; have e2 := M3.fz 2 rfl))
  all_goals (
    have zw := M3.bel.size
    have HB := hide M3.bel
    have HL : Hid (L3 (w.heap.size + 1 + 1) ra n ss xa tn ts ya dn ds w3) := ⟨_, _, _, _, by simp, z1, z2, z3, Nat.le_refl _, o1'', o2'', o3⟩
    clear M3
    go_wp2
    refine bodyPost_ret (v := .agg #[.slice ra n rc, .slice xa tn xc, .slice ya dn yc]) (by simp [results, Tryz.results124, go_sem, r0, r1, r2]) rfl ⟨ra, rc, xa, xc, ya, yc, rfl, hcx, ?_, ((HB.out.setCell (by simp) _).setCell (by simp) _).setCell (by simp) _⟩
    obtain ⟨B1, B2, B3, B4, k1, k⟩ := ((HL.out.setC (P := w.heap.size + 1) (o := 0) (by omega) (.slice ra n rc)).setC (P := w.heap.size + 1) (o := 1) (by omega) (.slice xa tn xc)).setC (P := w.heap.size + 1) (o := 2) (by omega) (.slice ya dn yc)
    exact ⟨B1, B2, B3, B4, by omega, k⟩)

end Go.Proofs.YtieddjdpkekfdaaGreat
