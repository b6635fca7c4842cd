import Derived.Test.YtdokminhoihghaaObM
import Derived.Test.YtdokminhoihghaaKiA
import Derived.WalkKit
import Derived.ProofKit
import Derived.OpenShut
import Derived.ShutString
import Derived.ChangeOld
import Derived.Below
import Derived.WalkSpells
import Derived.Deep.QuietTactic
import Derived.BigQuiet
import Derived.Deep.RegionWith
import Derived.Deep.WholeRow
import Derived.Deep.DeepCutAuto
import Derived.Deep.RegionHeld2
import Derived.Deep.AppendLies
import Derived.Deep.RegionLaw
namespace Go.Proofs.Ytdokminhoihghaa
open Go.ChangeShapes Go.WideShapes Go.ChangeAt Go.RowKit

def nkC (zs : List Int) (q : Int) : Int := if thgF zs ≠ 0 then thgF zs else if inB q 0 200 = true then 0 else 3
def nkL (zs : List Int) (q : Int) : List OB := if nkC zs q = 0 then [(-1, 0, 1, zs, q, 1, [])] else []

theorem nkC_thg {zs : List Int} {q : Int} (h : thgF zs ≠ 0) : nkC zs q = thgF zs := if_pos h
theorem nkC_rng {zs : List Int} {q : Int} (h : thgF zs = 0) (h2 : inB q 0 200 = false) : nkC zs q = 3 := by unfold nkC; rw [if_neg (by rw [h]; simp), if_neg (by rw [h2]; simp)]
theorem nkC_ok {zs : List Int} {q : Int} (h : thgF zs = 0) (h2 : inB q 0 200 = true) : nkC zs q = 0 := by unfold nkC; rw [if_neg (by rw [h]; simp), if_pos h2]
theorem nkL_no {zs : List Int} {q : Int} (h : nkC zs q ≠ 0) : nkL zs q = [] := if_neg h
theorem nkL_ok {zs : List Int} {q : Int} (h : nkC zs q = 0) : nkL zs q = [(-1, 0, 1, zs, q, 1, [])] := if_pos h

theorem thgF_fault {zs : List Int} (h : fault zs ≠ 0) : thgF zs = fault zs := if_pos h
theorem thgF_no {zs : List Int} (h : fault zs = 0) (h2 : thing0 zs = false) : thgF zs = 1 := by unfold thgF; rw [if_neg (by rw [h]; simp), if_pos h2]
theorem thgF_ok {zs : List Int} (h : fault zs = 0) (h2 : thing0 zs = true) : thgF zs = 0 := by unfold thgF; rw [if_neg (by rw [h]; simp), if_neg (by rw [h2]; simp)]
theorem thgF_0 {zs : List Int} (h : thgF zs = 0) : fault zs = 0 := by
  by_cases h1 : fault zs = 0
  · exact h1
  · rw [thgF_fault h1] at h; exact absurd h h1
theorem fault_four {zs : List Int} (h : fault zs = 0) : zs.length = 4 := by
  by_cases h4 : zs.length = 4
  · exact h4
  · unfold fault at h; simp [h4] at h

/-- a row of one object, without data. -/
theorem OO.single {S : Nat → Prop} {N : Nat} {x : OB} {la : Option Addr} {lc : Nat} {w : World} (hd : x.2.2.2.2.2.2 = []) (hl : x.2.2.2.1.length ≤ 1000) (hS : S N) (hlt : N < w.heap.size) (hfz : ∀ j, w.frozen? ⟨N, j, none⟩ = false) (hc : O7 w N 0 x la lc none 0)
    (ho : OS (fun k => S k ∧ k ≠ N) la x.2.2.2.1.length x.2.2.2.1 w) : OO S (some ⟨N, 0, none⟩) 1 [x] w := by
  obtain ⟨h1, h2, h3⟩ := ho
  have e0 : gO [x] 0 = x := rfl
  have s0 : sbO (gO [x]) 0 = x.2.2.2.1 := sbO_l (gO [x]) 0
  have s1 : sbO (gO [x]) 1 = [] := (sbO_d (gO [x]) 0).trans hd
  obtain ⟨b, hb⟩ : ∃ b, OS (fun k => k = b ∧ 0 < x.2.2.2.1.length) la x.2.2.2.1.length x.2.2.2.1 w ∧ (0 < x.2.2.2.1.length → S b ∧ b ≠ N) := by
    rcases h3 with h3 | ⟨b, e, h4, h5⟩
    · exact ⟨0, ⟨h1, h2, .inl h3⟩, fun h => by omega⟩
    · by_cases hz : x.2.2.2.1.length = 0
      · exact ⟨0, ⟨h1, h2, .inl hz⟩, fun h => by omega⟩
      · exact ⟨b, ⟨h1, h2, .inr ⟨b, e, ⟨rfl, by omega⟩, h5⟩⟩, fun _ => h4⟩
  refine ⟨rfl, by simp [lenO, hd]; omega, .inr ⟨N, fun q => if q = 0 then la else none, fun q => if q = 0 then lc else 0, fun q => if q = 0 then b else 0, rfl, ⟨hS, hlt, hfz, fun i hi => ?_, fun q hq => ?_, fun q hq hp => ?_, fun q hq hp => ?_, fun q r hq hr hqr hp hp2 => ?_⟩⟩⟩
  · obtain rfl : i = 0 := by omega
    simpa [e0] using hc
  · rcases (by omega : q = 0 ∨ q = 1) with rfl | rfl
    · rw [s0]; exact hb.1
    · rw [s1]; exact ⟨rfl, by simp, .inl rfl⟩
  · rcases (by omega : q = 0 ∨ q = 1) with rfl | rfl
    · rw [s0] at hp; exact (hb.2 hp).1
    · rw [s1] at hp; simp at hp
  · rcases (by omega : q = 0 ∨ q = 1) with rfl | rfl
    · rw [s0] at hp; exact (hb.2 hp).2
    · rw [s1] at hp; simp at hp
  · rcases (by omega : q = 0 ∨ q = 1) with rfl | rfl
    · rcases (by omega : r = 0 ∨ r = 1) with rfl | rfl
      · exact absurd rfl hqr
      · rw [s1] at hp2; simp at hp2
    · rw [s1] at hp; simp at hp

end Go.Proofs.Ytdokminhoihghaa
