import Derived.Test.YtknnahchhbobbaaDoorTxtS
import Derived.WalkKit
import Derived.ProofKit
import Derived.OpenShut
import Derived.ShutString
import Derived.ChangeOld
import Derived.Below
import Derived.WalkSpells
import Derived.Deep.QuietTactic
import Derived.BigQuiet
import Derived.Deep.RegionWith
import Derived.Deep.WholeRow
import Derived.Deep.DeepCutAuto
import Derived.Deep.RegionHeld2
import Derived.Deep.AppendLies
import Derived.Deep.RegionLaw
namespace Go.Proofs.YtknnahchhbobbaaDoor
open Go.ChangeShapes Go.WideShapes Go.ChangeAt Go.RowKit

set_option maxRecDepth 100000 in
theorem l1FaultO_calls (p o : Nat) (a : Option Addr) (len cap : Nat) (zs : List Int) (w : World) (hl : len ≤ maxLen) (hp : p < w.heap.size) (hpc : w.cell? ⟨p, o, none⟩ = some (.slice a len cap)) (hs : Sl w a len zs) :
    Calls Tryd.prog 32 #[.pointer (some ⟨p, o, none⟩)] w fun e w' => e = .returned (.int .i64 (fault zs)) ∧ Below w.heap.size w w' := by
  unfold maxLen at hl
  obtain ⟨hlen, hs⟩ := hs
  by_cases h4 : len = 4
  · subst h4
    obtain ⟨b, off, rfl, hb, hc⟩ := hs (by omega)
    go_enter Tryd.func32, Tryd.ntmps32
    go_wp2
    go_loopw [3] (fun i wr => ∃ k : Nat, k ≤ 4 ∧ i = .int .i64 k ∧ Below w.heap.size w wr ∧ (zs.take k).all okI = true) (fun i _ => 4 - (intOf i).toNat)
    case atStart => exact ⟨0, Nat.zero_le _, rfl, Below.refl _ _, by simp⟩
    case round =>
      obtain ⟨k, hk, rfl, hbel, hall⟩ := hrel
      have Hall : Hid ((zs.take k).all okI = true) := hall
      clear hall
      have hpr := (hbel.cell (p := ⟨p, o, none⟩) hp).trans hpc
      by_cases hlt : k < 4
      · have hck := (hbel.cell (p := ⟨b, off + k, none⟩) hb).trans (hc k hlt)
        have HS : Hid ((zs.take (k + 1)).all okI = ((zs.take k).all okI && okI (gt zs k))) := all_take_succ zs k (by omega)
        go_wp2_with fail
        refine (in_calls _ _ _ _).mono ?_
        rintro e w1 ⟨rfl, hb1⟩
        have hbw : Below w.heap.size w w1 := hbel.trans (hb1.mono hbel.size)
        clear hb1
        cases hok : (decide (0 ≤ gt zs k) && decide (gt zs k ≤ 5)) with
        | true =>
          have Hok : Hid ((decide (0 ≤ gt zs k) && decide (gt zs k ≤ 5)) = true) := hok
          clear hok
          go_wp2
          go_roundw
          case rel => exact ⟨k + 1, by omega, by go_num, hbw, by rw [HS.out, Hall.out]; exact Hok.out⟩
          case measure => simp [intOf]; omega
        | false =>
          have Hok : Hid ((decide (0 ≤ gt zs k) && decide (gt zs k ≤ 5)) = false) := hok
          clear hok
          go_wp2
          go_ret
          exact ⟨ret_int (fault_bad zs k (by omega) hlen Hok.out).symm, hbw⟩
      · go_wp2
        go_ret
        exact ⟨ret_int (fault_ok zs hlen (by have := Hall.out; rw [List.take_of_length_le (by omega)] at this; exact this)).symm, hbel⟩
  · have hne : ((len : Int) == 4) = false := by simp; omega
    go_enter Tryd.func32, Tryd.ntmps32
    go_wp2
    go_ret
    exact ⟨ret_int (by simp [fault, hlen, h4]), Below.refl _ _⟩

set_option maxRecDepth 100000 in
theorem specLabelText_calls (a : Option Addr) (len cap : Nat) (zs : List Int) (w : World) (hl : len ≤ maxLen) (hs : Sl w a len zs) :
    Calls Tryd.prog 12 #[.agg #[.slice a len cap]] w fun e w' => e = .returned (.agg #[.int .i64 (fault zs), .string (ltS zs)]) ∧ Below w.heap.size w w' := by
  have M0 := ((Mm.start w).alloc1 (.slice a len cap) 27).alloc2 (.int .i64 0) (.string ⟨#[]⟩) 32
  simp only [World.size_alloc] at M0
  go_enter Tryd.func12, Tryd.ntmps12
  go_wp2_with fail
  refine (l1FaultO_calls w.heap.size 0 a len cap zs _ hl (M0.lt 2 rfl) (M0.cell 2 rfl) (hs.below M0.bel (Nat.le_refl _))).mono ?_
  rintro e w1 ⟨rfl, g1⟩
  have M1 := M0.below g1
  have hs1 := hs.below M1.bel (Nat.le_refl _)
  clear M0 g1
  by_cases hf : fault zs = 0
  · have HV := hide (ltS_ok hf)
    have e1 : (fault zs != 0) = false := by simp [hf]
    obtain rfl : len = 4 := by have := fault_len hf; have := hs.1; omega
    have Hf := hide hf
    clear hf
    go_wp2_with fail
    refine (l1Text_calls w.heap.size a cap zs _ Hf.out (M1.lt 2 rfl) (M1.cell 2 rfl) hs1).mono ?_
    rintro e w2 ⟨rfl, g2⟩
    have M2 := M1.below g2
    clear M1 g2 hs1
    have d0 := M2.cell 0 rfl
    have d1 := M2.cell 1 rfl
    have f0 := M2.fz 0 rfl
    have f1 := M2.fz 1 rfl
    have HB := hide M2.bel
    clear M2
    go_wp2
    exact bodyPost_ret (v := .agg #[.int .i64 0, .string (strOfNums (zs.map sg))]) (by simp [results, Tryd.results12, go_sem, d0, d1]) rfl ⟨by rw [Hf.out, HV.out], (HB.out.setCell (by simp) _).setCell (by simp) _⟩
  · have HV := hide (ltS_no hf)
    have e1 : (fault zs != 0) = true := by simpa using hf
    have d0 := M1.cell 0 rfl
    have d1 := M1.cell 1 rfl
    have f0 := M1.fz 0 rfl
    have f1 := M1.fz 1 rfl
    have HB := hide M1.bel
    clear M1 hf hs1
    go_wp2
    exact bodyPost_ret (v := .agg #[.int .i64 (fault zs), .string ⟨#[]⟩]) (by simp [results, Tryd.results12, go_sem, d0, d1]) rfl ⟨by rw [HV.out], (HB.out.setCell (by simp) _).setCell (by simp) _⟩

end Go.Proofs.YtknnahchhbobbaaDoor
