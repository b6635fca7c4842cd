import Derived.Test.YtdokminhoihghaaKiF
import Derived.Test.YtdokminhoihghaaKgS
import Derived.WalkKit
import Derived.ProofKit
import Derived.OpenShut
import Derived.ShutString
import Derived.ChangeOld
import Derived.Below
import Derived.WalkSpells
import Derived.Deep.QuietTactic
import Derived.BigQuiet
import Derived.Deep.RegionWith
import Derived.Deep.WholeRow
import Derived.Deep.DeepCutAuto
import Derived.Deep.RegionHeld2
import Derived.Deep.AppendLies
import Derived.Deep.RegionLaw
namespace Go.Proofs.Ytdokminhoihghaa
open Go.ChangeShapes Go.WideShapes Go.ChangeAt Go.RowKit

set_option maxRecDepth 100000 in
theorem placeFault_calls (a : Option Addr) (n c : Nat) (xs : List OB) (i : Int) (w : World) (hm : n ≤ maxLen) (hs : Sob w a n xs) (hcap : n ≤ c) : Calls Try.prog 60 #[.agg #[.slice a n c], .int .i64 i] w fun e w' => e = .returned (.int .i64 (askC xs i)) ∧ Below w.heap.size w w' := by
  have hlen := hs.1
  have hn := hm
  unfold maxLen at hn
  have M0 := (Mm.start w).allocC [.slice a n c] 29
  have HS := hide (hs.below M0.bel (Nat.le_refl _))
  go_enter Try.func60, Try.ntmps60
  go_wp2_with fail
  refine (implKernelFault_calls a n c xs _ hm HS.out hcap).mono ?_
  rintro e w1 ⟨rfl, g1⟩
  have M1 := M0.below g1
  have d0 := (M1.get 0 rfl).cell 0 rfl
  have HB := hide M1.bel
  clear M0 M1 g1 HS
  by_cases h1 : kerF xs = 0
  rotate_left
  · have HV : Hid (askC xs i = kerF xs) := if_neg h1
    have e1 : (kerF xs != 0) = true := by simpa using h1
    clear h1
    go_wp2
    go_ret
    exact ⟨ret_int HV.out.symm, HB.out⟩
  have e1 : (kerF xs != 0) = false := by simp [h1]
  have hwp : IntKind.i64.wrap ((n : Int) - 1) = (n : Int) - 1 := IntWalk.i64_in _ (by omega)
  cases h2 : up i ((n : Int) - 1) with
  | false =>
    have HV : Hid (askC xs i = 3) := by show _ = _; unfold askC; rw [if_pos h1, hlen, if_neg (by rw [← up_inB, h2]; simp)]
    clear h1
    go_wp2_with (go_at_call 52; with_reducible refine (isUpTo_is _ _ _ _ h2).mono ?_; rintro e w' ⟨rfl, hw'⟩; rw [hw']; clear hw' w')
    go_ret
    exact ⟨ret_int HV.out.symm, HB.out⟩
  | true =>
    have HV : Hid (askC xs i = 0) := by show _ = _; unfold askC; rw [if_pos h1, hlen, if_pos (by rw [← up_inB, h2])]
    clear h1
    go_wp2_with (go_at_call 52; with_reducible refine (isUpTo_is _ _ _ _ h2).mono ?_; rintro e w' ⟨rfl, hw'⟩; rw [hw']; clear hw' w')
    go_ret
    exact ⟨ret_int HV.out.symm, HB.out⟩

/-- what is in the box, as the program tells it. -/
def BX (w : World) (xs : List OB) (i : Int) (nx : Int) (ka : Option Addr) (kl : Nat) : Prop := if boxC xs i = 0 then nx = (gO xs i.toNat).2.2.2.2.2.1 ∧ kl = (kidX (gO xs) i xs.length).length ∧ S7 w ka kl (gO (kidX (gO xs) i xs.length)) else nx = 0 ∧ kl = 0

set_option maxRecDepth 100000 in
set_option maxHeartbeats 2000000 in
theorem boxOf_calls (a : Option Addr) (n c : Nat) (xs : List OB) (i : Int) (w : World) (hm : n ≤ maxLen) (hs : Sob w a n xs) (hcap : n ≤ c) : Calls Try.prog 66 #[.agg #[.slice a n c], .int .i64 i] w fun e w' => ∃ nx ka kl kc, e = .returned (.tuple #[.agg #[.int .i64 nx, .slice ka kl kc], .int .i64 (boxC xs i)]) ∧ BX w' xs i nx ka kl ∧ Below w.heap.size w w' := by
  have hlen := hs.1
  have M0 := ((Mm.start w).allocC [.slice a n c] 29).allocC [.int .i64 0, .slice none 0 0] 90
  simp only [World.size_alloc] at M0
  have HS := hide (hs.below M0.bel (Nat.le_refl _))
  go_enter Try.func66, Try.ntmps66
  go_wp2_with fail
  refine (placeFault_calls a n c xs i _ hm HS.out hcap).mono ?_
  rintro e w1 ⟨rfl, g1⟩
  have z1 : w.heap.size + 2 ≤ w1.heap.size := by have := g1.size; simpa using this
  have M1 := M0.below g1
  have d0 := (M1.get 1 rfl).cell 0 rfl
  have r0 := (M1.get 0 rfl).cell 0 rfl
  have r1 := (M1.get 0 rfl).cell 1 rfl
  have f0 := (M1.get 0 rfl).fz 0 (by simp)
  have f1 := (M1.get 0 rfl).fz 1 (by simp)
  have HB := hide M1.bel
  have HM := hide M1
  clear M0 M1 g1 HS
  by_cases h1 : askC xs i = 0
  rotate_left
  · have HV : Hid (boxC xs i = askC xs i) := if_neg h1
    have HN : Hid (boxC xs i ≠ 0) := by show _ ≠ _; rw [HV.out]; exact h1
    have e1 : (askC xs i != 0) = true := by simpa using h1
    clear h1 HM
    go_wp2
    refine bodyPost_ret (v := .tuple #[.agg #[.int .i64 0, .slice none 0 0], .int .i64 (askC xs i)]) (by simp [results, Try.results66, go_sem, r0, r1]) rfl ⟨0, none, 0, 0, by rw [HV.out], by unfold BX; rw [if_neg HN.out]; exact ⟨rfl, rfl⟩, (HB.out.setCell (by simp) _).setCell (by simp) _⟩
  have e1 : (askC xs i != 0) = false := by simp [h1]
  obtain ⟨h3, hi0, hi1⟩ := askC_inv h1
  obtain ⟨hn1, h12, hone, _⟩ := kerF_inv h3
  have HV : Hid (boxC xs i = if (gO xs i.toNat).2.2.1 = 1 then 0 else 1) := if_pos h1
  obtain ⟨q, hq⟩ : ∃ q : Nat, i = (q : Int) := ⟨i.toNat, by omega⟩
  have hqn : q < n := by omega
  have etn : i.toNat = q := by omega
  have hform := (oneF_inv (hone q (by omega))).1
  have hs7 := (hs.below HB.out (Nat.le_refl _)).s7
  rw [etn] at HV
  have HE := hide etn
  have d0' := (HM.out.get 1 rfl).cell 0 rfl
  by_cases h2 : (gO xs q).2.2.1 = 1
  · have HR : Hid (boxC xs i = 0) := HV.out.trans (if_pos h2)
    have HCA := hide (boxAt_box a n c (gO xs) q w1 (by omega) hs7 hqn hform h2)
    rw [← hq] at HCA
    clear h1 h2 h3 hi0 hi1 hone hq etn d0' hs7
    go_wp2_with fail
    refine HCA.out.mono ?_
    rintro e w2 ⟨ka, kc, rfl, h7, hfr, g2⟩
    have z2 := g2.size
    have M3 := (HM.out.below g2).allocC [.int .i64 (gO xs q).2.2.2.2.2.1, .slice ka (kidX (gO xs) i n).length kc] 90
    obtain ⟨u, hu⟩ : ∃ u, u = w2.alloc (.cells #[.int .i64 (gO xs q).2.2.2.2.2.1, .slice ka (kidX (gO xs) i n).length kc] 90) := ⟨_, rfl⟩
    rw [← hu] at M3
    have gu : Below w2.heap.size w2 u := by rw [hu]; exact (Below.refl _ _).alloc (Nat.le_refl _) _
    have HSU := hide (h7.below gu (Nat.le_refl _))
    have c0 := (M3.get 0 rfl).cell 0 rfl
    have c1 := (M3.get 0 rfl).cell 1 rfl
    have r0 := (M3.get 1 rfl).cell 0 rfl
    have r1 := (M3.get 1 rfl).cell 1 rfl
    have f0 := (M3.get 1 rfl).fz 0 (by simp)
    have f1 := (M3.get 1 rfl).fz 1 (by simp)
    have HB := hide M3.bel
    have HU := hide hu
    clear h7 HCA HM M3 g2 gu hu
    go_upto_region 5 with fail
    rw [← HU.out]
    clear HU
    go_wp2
    refine bodyPost_ret (v := .tuple #[.agg #[.int .i64 (gO xs q).2.2.2.2.2.1, .slice ka (kidX (gO xs) i n).length kc], .int .i64 0]) (by simp [results, Try.results66, go_sem, r0, r1]) rfl ⟨_, ka, _, kc, by rw [HR.out], ?_, (HB.out.setCell (by simp) _).setCell (by simp) _⟩
    unfold BX
    rw [if_pos HR.out, HE.out, hlen]
    exact ⟨rfl, rfl, (HSU.out.setC (fun ad e => by have := hfr ad e; omega)).setC (fun ad e => by have := hfr ad e; omega)⟩
  · have HR : Hid (boxC xs i = 1) := HV.out.trans (if_neg h2)
    have HCA := hide (boxAt_text a n c (gO xs) q w1 (by omega) hs7 hqn hform h2)
    rw [← hq] at HCA
    clear h1 h2 h3 hi0 hi1 hone hq etn d0' hs7
    go_wp2_with fail
    refine HCA.out.mono ?_
    rintro e w2 ⟨rfl, g2⟩
    have z2 := g2.size
    have M3 := (HM.out.below g2).allocC [.int .i64 0, .slice none 0 0] 90
    have r0 := (M3.get 1 rfl).cell 0 rfl
    have r1 := (M3.get 1 rfl).cell 1 rfl
    have f0 := (M3.get 1 rfl).fz 0 (by simp)
    have f1 := (M3.get 1 rfl).fz 1 (by simp)
    have HB := hide M3.bel
    clear HCA HM M3 g2
    go_wp2
    refine bodyPost_ret (v := .tuple #[.agg #[.int .i64 0, .slice none 0 0], .int .i64 1]) (by simp [results, Try.results66, go_sem, r0, r1]) rfl ⟨0, none, 0, 0, by rw [HR.out], by unfold BX; rw [if_neg (by rw [HR.out]; decide)]; exact ⟨rfl, rfl⟩, (HB.out.setCell (by simp) _).setCell (by simp) _⟩

end Go.Proofs.Ytdokminhoihghaa
