import Derived.Test.YtoignmalopmlaaaMarkTab
import Derived.Test.YtoignmalopmlaaaResRR
import Derived.WalkKit
import Derived.ProofKit
import Derived.OpenShut
import Derived.ShutString
import Derived.ChangeOld
import Derived.Below
import Derived.WalkSpells
import Derived.Deep.QuietTactic
import Derived.BigQuiet
import Derived.Deep.RegionWith
import Derived.Deep.WholeRow
import Derived.Deep.DeepCutAuto
import Derived.Deep.RegionHeld2
import Derived.Deep.AppendLies
import Derived.Deep.RegionLaw
namespace Go.Proofs.Ytoignmalopmlaaa
open Go.ChangeShapes Go.WideShapes Go.ChangeAt Go.RowKit

set_option maxRecDepth 100000 in
theorem eqTR_O (c v : Int) (ss : List (Int × List Int)) (ts ds : List Int) {S S' : Nat → Prop} {a b ta tb da db : Option Addr} {n m tn tm dn dm ca cb tca tcb dca dcb : Nat} {w : World} (hx : OT S a n ss ta tn ts da dn ds w) (hy : OT S' b m ss tb tm ts db dm ds w) :
    Calls Try.prog 14 #[.agg #[.int .i64 c, .int .i64 v, .slice a n ca, .slice ta tn tca, .slice da dn dca], .agg #[.int .i64 c, .int .i64 v, .slice b m cb, .slice tb tm tcb, .slice db dm dcb]] w fun e w' => e = .returned (.bool true) ∧ Below w.heap.size w w' := by
  have r1 := hx.rt
  have r2 := hy.rt
  obtain rfl : m = n := by have := r1.2.1.1; have := r2.2.1.1; omega
  obtain rfl : tm = tn := by have := r1.2.2.2.1.1; have := r2.2.2.2.1.1; omega
  obtain rfl : dm = dn := by have := r1.2.2.2.2.2.1; have := r2.2.2.2.2.2.1; omega
  have h1 : (c != c) = false := by simp
  have h2 : (v != v) = false := by simp
  have HB := hide fun o1 o2 => ((Below.refl w.heap.size w).alloc (Nat.le_refl _) o1).alloc (by simp) o2
  have HX := hide fun o1 o2 => OT.loc.alloc (OT.loc.alloc hx o1) o2
  have HY := hide fun o1 o2 => OT.loc.alloc (OT.loc.alloc hy o1) o2
  clear r1 r2
  go_enter Try.func14, Try.ntmps14
  go_wp2_with fail
  refine (eqTables_O _ _ a b _ ca cb ss ta tb _ tca tcb ts da db _ dca dcb ds _ (HX.out _ _) (HY.out _ _)).mono ?_
  rintro e w1 ⟨rfl, hb⟩
  have HE := hide ((HB.out _ _).trans (hb.mono (HB.out _ _).size))
  clear hb
  go_wp2
  go_ret
  exact ⟨rfl, HE.out⟩

set_option maxRecDepth 100000 in
theorem markTR_O (c v : Int) {S : Nat → Prop} {a ta da : Option Addr} {n tn dn ca tca dca : Nat} {ss : List (Int × List Int)} {ts ds : List Int} {w : World} (hs : OT S a n ss ta tn ts da dn ds w) (hlt : ∀ k, S k → k < w.heap.size) :
    Calls Try.prog 19 #[.agg #[.int .i64 c, .int .i64 v, .slice a n ca, .slice ta tn tca, .slice da dn dca], .int .i64 1] w fun e w' => e = .returned (.int .i64 (1 + n + lenSum ss + tn + dn)) ∧
      OT S a n (mkS 1 ss) ta tn (marksFrom (1 + n + lenSum ss) tn) da dn (marksFrom (1 + n + lenSum ss + tn) dn) w' ∧ OutS S w w' := by
  go_enter Try.func19, Try.ntmps19
  go_wp2_with fail
  refine (markTables_O S a n ca ss ta tn tca ts da dn dca ds 1 _ (by omega) (by omega) (OT.loc.below ((Below.refl _ _).alloc (Nat.le_refl _) _) hs) (fun k hk => by have := hlt k hk; simp; omega)).mono ?_
  rintro e w1 ⟨rfl, h1, h2⟩
  go_wp2
  go_ret
  exact ⟨rfl, h1, (OutS.of_below ((Below.refl _ _).alloc (Nat.le_refl _) _)).trans h2⟩

set_option maxRecDepth 100000 in
theorem heldTables_calls (a : Option Addr) (n ca : Nat) (ss : List (Int × List Int)) (ta : Option Addr) (tn tca : Nat) (da : Option Addr) (dn dca : Nat) (w : World) (hbd : n + lenSum ss ≤ 1048576) (htn : tn ≤ 1048576) (hdn : dn ≤ 1048576) (hx : Sls w a n (mkS 1 ss)) (ht : Sl w ta tn (marksFrom (1 + n + lenSum ss) tn)) (hd : Sl w da dn (marksFrom (1 + n + lenSum ss + tn) dn)) :
    Calls Try.prog 50 #[.agg #[.slice a n ca, .slice ta tn tca, .slice da dn dca], .int .i64 1] w fun e w' => e = .returned (.int .i64 (1 + n + lenSum ss + tn + dn)) ∧ Below w.heap.size w w' := by
  have M0 := (Mm.start w).alloc3 (.slice a n ca) (.slice ta tn tca) (.slice da dn dca) 36
  have p1 : ¬ ((1 : Int) + n + lenSum ss < 0) := by omega
  have p2 : ¬ ((1 : Int) + n + lenSum ss + tn < 0) := by omega
  have p3 : ¬ ((1 : Int) + n + lenSum ss + tn + dn < 0) := by omega
  go_enter Try.func50, Try.ntmps50
  go_wp2_with fail
  refine (heldRegistry_calls a n ca ss 1 _ (by omega) (by omega) hbd (hx.below M0.bel (Nat.le_refl _))).mono ?_
  rintro e w1 ⟨rfl, g1⟩
  have M1 := M0.below g1
  have q1 := M1.cell 1 rfl
  clear g1 M0
  go_wp2_with fail
  refine (heldInt64S_calls ta tn tca _ _ (by omega) (by omega) htn (ht.below M1.bel (Nat.le_refl _))).mono ?_
  rintro e w2 ⟨rfl, g2⟩
  have M2 := M1.below g2
  have q2 := M2.cell 2 rfl
  clear g2 M1 q1
  go_wp2_with fail
  refine (heldInt64S_calls da dn dca _ _ (by omega) (by omega) hdn (hd.below M2.bel (Nat.le_refl _))).mono ?_
  rintro e w3 ⟨rfl, g3⟩
  have HB := hide (M2.below g3).bel
  clear g3 M2 q2
  go_wp2
  go_ret
  exact ⟨rfl, HB.out⟩

set_option maxRecDepth 100000 in
theorem heldTR_O (c v : Int) (ss : List (Int × List Int)) {S : Nat → Prop} {a ta da : Option Addr} {n tn dn ca tca dca : Nat} {w : World} (hs : OT S a n (mkS 1 ss) ta tn (marksFrom (1 + n + lenSum ss) tn) da dn (marksFrom (1 + n + lenSum ss + tn) dn) w) :
    Calls Try.prog 20 #[.agg #[.int .i64 c, .int .i64 v, .slice a n ca, .slice ta tn tca, .slice da dn dca], .int .i64 1] w fun e w' => e = .returned (.int .i64 (1 + n + lenSum ss + tn + dn)) ∧ Below w.heap.size w w' := by
  obtain ⟨S1, S2, S3, _, _, _, _, _, _, o1, o2, o3⟩ := hs
  have b1 := o1.2.1
  rw [lenSum_mkS] at b1
  have b2 := o2.2.1
  have b3 := o3.2.1
  have HB := hide fun o => (Below.refl w.heap.size w).alloc (Nat.le_refl _) o
  have x1 := o1.sls
  have x2 := o2.sl
  have x3 := o3.sl
  have p3 : ¬ ((1 : Int) + n + lenSum ss + tn + dn < 0) := by omega
  go_enter Try.func20, Try.ntmps20
  go_wp2_with fail
  refine (heldTables_calls a n ca ss ta tn tca da dn dca _ b1 b2 b3 (x1.below (HB.out _) (Nat.le_refl _)) (x2.below (HB.out _) (Nat.le_refl _)) (x3.below (HB.out _) (Nat.le_refl _))).mono ?_
  rintro e w1 ⟨rfl, hb⟩
  have HE := hide ((HB.out _).trans (hb.mono (by simp)))
  clear hb
  go_wp2
  go_ret
  exact ⟨rfl, HE.out⟩

end Go.Proofs.Ytoignmalopmlaaa
