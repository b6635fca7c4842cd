import Derived.Test.YtoignmalopmlaaaMarkReg
import Derived.Test.YtoignmalopmlaaaTabK
import Derived.WalkKit
import Derived.ProofKit
import Derived.OpenShut
import Derived.ShutString
import Derived.ChangeOld
import Derived.Below
import Derived.WalkSpells
import Derived.Deep.QuietTactic
import Derived.BigQuiet
import Derived.Deep.RegionWith
import Derived.Deep.WholeRow
import Derived.Deep.DeepCutAuto
import Derived.Deep.RegionHeld2
import Derived.Deep.AppendLies
import Derived.Deep.RegionLaw
namespace Go.Proofs.Ytoignmalopmlaaa
open Go.ChangeShapes Go.WideShapes Go.ChangeAt Go.RowKit

set_option maxRecDepth 100000 in
theorem markTables_O (S : Nat → Prop) (a : Option Addr) (n cap : Nat) (ss : List (Int × List Int)) (ta : Option Addr) (tn tcap : Nat) (ts : List Int) (da : Option Addr) (dn dcap : Nat) (ds : List Int) (m : Int) (w : World) (hm0 : 0 ≤ m) (hm : m ≤ 1048577) (hs : OT S a n ss ta tn ts da dn ds w) (hlt : ∀ k, S k → k < w.heap.size) :
    Calls Try.prog 17 #[.agg #[.slice a n cap, .slice ta tn tcap, .slice da dn dcap], .int .i64 m] w fun e w' => e = .returned (.int .i64 (m + n + lenSum ss + tn + dn)) ∧
      OT S a n (mkS m ss) ta tn (marksFrom (m + n + lenSum ss) tn) da dn (marksFrom (m + n + lenSum ss + tn) dn) w' ∧ OutS S w w' := by
  obtain ⟨S1, S2, S3, i1, i2, i3, d12, d13, d23, o1, o2, o3⟩ := hs
  have b1 := o1.2.1
  have b2 := o2.2.1
  have b3 := o3.2.1
  have al := (Below.refl w.heap.size w).alloc (Nat.le_refl _) (.cells #[.slice a n cap, .slice ta tn tcap, .slice da dn dcap] 36)
  have p1 := OR.loc.below al o1
  have p2 := OS.loc.below al o2
  have p3 := OS.loc.below al o3
  have nS : ¬ S w.heap.size := fun h => Nat.lt_irrefl _ (hlt _ h)
  have n1 : ¬ S1 w.heap.size := fun h => nS (i1 _ h)
  have n2 : ¬ S2 w.heap.size := fun h => nS (i2 _ h)
  go_enter Try.func17, Try.ntmps17
  go_wp2_with fail
  refine (markRegistry_O S1 a n cap ss m _ hm0 hm p1).mono ?_
  rintro e w1 ⟨rfl, q1, h1⟩
  have c1 : w1.cell? ⟨w.heap.size, 1, none⟩ = some (.slice ta tn tcap) := (World.cell?_of_block (a := ⟨w.heap.size, 1, none⟩) (h1.block _ (by simp) n1)).trans (by go_simp)
  have q2 := OS.loc.out h1 (fun j h2 h1 => d12 j h1 h2) p2
  have q3 := OS.loc.out h1 (fun j h2 h1 => d13 j h1 h2) p3
  have z1 := h1.size
  simp only [World.size_alloc] at z1
  go_wp2_with fail
  refine (markInt64S_O S2 ta tn tcap ts _ _ (by omega) (by omega) q2).mono ?_
  rintro e w2 ⟨rfl, r2, h2⟩
  have c2 : w2.cell? ⟨w.heap.size, 2, none⟩ = some (.slice da dn dcap) := (World.cell?_of_block (a := ⟨w.heap.size, 2, none⟩) (h2.block _ (by show w.heap.size < _; omega) n2)).trans ((World.cell?_of_block (a := ⟨w.heap.size, 2, none⟩) (h1.block _ (by simp) n1)).trans (by go_simp))
  have r1 := OR.loc.out h2 (fun j h1 h2 => d12 j h1 h2) q1
  have r3 := OS.loc.out h2 (fun j h3 h2 => d23 j h2 h3) q3
  clear q1 q2 q3 c1 p1 p2 p3
  go_wp2_with fail
  refine (markInt64S_O S3 da dn dcap ds _ _ (by omega) (by omega) r3).mono ?_
  rintro e w3 ⟨rfl, s3, h3⟩
  have HR : Hid (OT S a n (mkS m ss) ta tn (marksFrom (m + n + lenSum ss) tn) da dn (marksFrom (m + n + lenSum ss + tn) dn) w3) := ⟨S1, S2, S3, i1, i2, i3, d12, d13, d23, OR.loc.out h3 (fun j h1 h3 => d13 j h1 h3) r1, OS.loc.out h3 (fun j h2 h3 => d23 j h2 h3) r2, s3⟩
  have HO : Hid (OutS S w w3) := (((OutS.of_below al).trans (h1.mono i1)).trans (h2.mono i2)).trans (h3.mono i3)
  clear h1 h2 h3 al r1 r2 r3 s3 c2
  go_wp2
  go_ret
  exact ⟨rfl, HR.out, HO.out⟩

end Go.Proofs.Ytoignmalopmlaaa
