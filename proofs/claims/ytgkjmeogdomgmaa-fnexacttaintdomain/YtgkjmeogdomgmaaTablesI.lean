import Derived.Test.YtgkjmeogdomgmaaDropP
import Derived.Test.YtgkjmeogdomgmaaBookReg2
import Derived.Test.YtgkjmeogdomgmaaL2Leave
import Derived.WalkKit
import Derived.ProofKit
import Derived.OpenShut
import Derived.ShutString
import Derived.ChangeOld
import Derived.Below
import Derived.WalkSpells
import Derived.Deep.QuietTactic
import Derived.BigQuiet
import Derived.Deep.RegionWith
import Derived.Deep.WholeRow
import Derived.Deep.DeepCutAuto
import Derived.Deep.RegionHeld2
import Derived.Deep.AppendLies
import Derived.Deep.RegionLaw
namespace Go.Proofs.Ytgkjmeogdomgmaa
open Go.ChangeShapes Go.WideShapes Go.ChangeAt Go.RowKit

set_option maxRecDepth 100000 in
theorem lastTag_calls (P : Nat) (xa : Option Addr) (xn xc : Nat) (w : World) (c2 : w.cell? ⟨P, 2, none⟩ = some (.slice xa xn xc)) :
    Calls Try.prog 96 #[.pointer (some ⟨P, 0, none⟩)] w fun e w' => e = .returned (.int .i64 xn) ∧ Below w.heap.size w w' := by
  go_enter Try.func96, Try.ntmps96
  go_wp2
  go_ret
  exact ⟨rfl, Below.refl _ _⟩

set_option maxRecDepth 100000 in
set_option maxHeartbeats 2000000 in
theorem tables_calls (P M nn : Nat) (ss : List (Int × List Int)) (D : DataW Unit) (xa : Option Addr) (xn xc : Nat) (ya : Option Addr) (yn yc : Nat) (w : World) (hb : Bk w P M (ss.length : Int) nn D) (good : Good ss) (rep : Rep ss D) (c2 : w.cell? ⟨P, 2, none⟩ = some (.slice xa xn xc)) (c3 : w.cell? ⟨P, 3, none⟩ = some (.slice ya yn yc)) :
    Calls Try.prog 45 #[.pointer (some ⟨P, 0, none⟩)] w fun e w' => ∃ b, e = .returned (.agg #[.slice (some ⟨b, 0, none⟩) ss.length ss.length, .slice xa xn xc, .slice ya yn yc]) ∧ OR (InR w.heap.size w'.heap.size) (some ⟨b, 0, none⟩) ss.length ss w' ∧ Below w.heap.size w w' := by
  have hP := hb.lt
  have al := (Below.refl w.heap.size w).alloc (Nat.le_refl _) (.cells #[.slice none 0 0, .slice none 0 0, .slice none 0 0] 36)
  have M0 := (Mm.start w).alloc3 (.slice none 0 0) (.slice none 0 0) (.slice none 0 0) 36
  have hb0 := hb.below al
  have d2 := (al.cell (p := ⟨P, 2, none⟩) hP).trans c2
  have d3 := (al.cell (p := ⟨P, 3, none⟩) hP).trans c3
  have HM := hide M0
  have HBk := hide hb0
  clear al M0 hb0
  go_enter Try.func45, Try.ntmps45
  go_wp2_with fail
  go_region_with (first
    | (go_at_call 86; refine (registry_calls P M nn ss D _ ?_ good rep).mono ?_; exact HBk.out.below (Below.refl _ _).drew; rintro e w1 ⟨b, rfl, o1, g1⟩; have M1 := HM.out.drew.below g1; have z1 := g1.size; have hX : Below (w.alloc (.cells #[.slice none 0 0, .slice none 0 0, .slice none 0 0] 36)).heap.size (w.alloc (.cells #[.slice none 0 0, .slice none 0 0, .slice none 0 0] 36)) w1 := ((Below.refl _ _).drew).trans g1; have e2 := (hX.cell (p := ⟨P, 2, none⟩) (by simp; omega)).trans d2; have e3 := (hX.cell (p := ⟨P, 3, none⟩) (by simp; omega)).trans d3; clear g1 hX; have r0 := M1.cell 0 rfl; have r1 := M1.cell 1 rfl; have r2 := M1.cell 2 rfl; have t0 := M1.fz 0 rfl; have t1 := M1.fz 1 rfl; have t2 := M1.fz 2 rfl))
  all_goals (
    have HB := hide M1.bel
    have HO := hide o1
    clear M1 o1
    go_wp2
    refine bodyPost_ret (v := .agg #[.slice (some ⟨b, 0, none⟩) ss.length ss.length, .slice xa xn xc, .slice ya yn yc]) (by simp [results, Try.results45, go_sem, r0, r1, r2]) rfl ⟨b, rfl, ?_, ((HB.out.setCell (by simp) _).setCell (by simp) _).setCell (by simp) _⟩
    exact (OR.set3 HO.out (fun e => by have h1 := e.1; simp only [World.size_drew, World.size_alloc] at h1; omega) _ _ _).mono (fun k hk => ⟨by have h1 := hk.1; simp only [World.size_drew, World.size_alloc] at h1; omega, by have := hk.2; simp; omega⟩))

end Go.Proofs.Ytgkjmeogdomgmaa
