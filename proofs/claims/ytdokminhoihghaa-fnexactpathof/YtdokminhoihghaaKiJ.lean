import Derived.Test.YtdokminhoihghaaBase
import Derived.Test.YtdokminhoihghaaCsK
import Derived.WalkKit
import Derived.ProofKit
import Derived.OpenShut
import Derived.ShutString
import Derived.ChangeOld
import Derived.Below
import Derived.WalkSpells
import Derived.Deep.QuietTactic
import Derived.BigQuiet
import Derived.Deep.RegionWith
import Derived.Deep.WholeRow
import Derived.Deep.DeepCutAuto
import Derived.Deep.RegionHeld2
import Derived.Deep.AppendLies
import Derived.Deep.RegionLaw
namespace Go.Proofs.Ytdokminhoihghaa
open Go.ChangeShapes Go.WideShapes Go.ChangeAt Go.RowKit

/-- the first k and the last k places of a row are exchanged. -/
def rvK (zs : List Int) (k : Nat) : List Int := (List.range zs.length).map fun t => if t < k ∨ zs.length ≤ t + k then gt zs (zs.length - 1 - t) else gt zs t

theorem length_rvK (zs : List Int) (k : Nat) : (rvK zs k).length = zs.length := by simp [rvK]

theorem gt_rvK (zs : List Int) (k t : Nat) (h : t < zs.length) : gt (rvK zs k) t = if t < k ∨ zs.length ≤ t + k then gt zs (zs.length - 1 - t) else gt zs t := by
  unfold rvK gt
  simp [h]

theorem rvK_0 (zs : List Int) : rvK zs 0 = zs := by
  apply getD_ext (length_rvK _ _)
  intro i hi
  rw [length_rvK] at hi
  show gt (rvK zs 0) i = gt zs i
  rw [gt_rvK _ _ _ hi, if_neg (by omega)]

theorem rvK_all {zs : List Int} {k : Nat} (h : zs.length ≤ 2 * k + 1) : rvK zs k = zs.reverse := by
  apply getD_ext (by rw [length_rvK, List.length_reverse])
  intro i hi
  rw [length_rvK] at hi
  show gt (rvK zs k) i = gt zs.reverse i
  have e : gt zs.reverse i = gt zs (zs.length - 1 - i) := by
    unfold gt
    have h2 : zs.length - 1 - i < zs.length := by omega
    simp [hi, h2]
  rw [gt_rvK _ _ _ hi, e]
  by_cases c : i < k ∨ zs.length ≤ i + k
  · rw [if_pos c]
  · rw [if_neg c, show zs.length - 1 - i = i by omega]

theorem rvK_step {zs : List Int} {k : Nat} (h : 2 * k + 1 < zs.length) : rvK zs (k + 1) = ((rvK zs k).set k (gt zs (zs.length - 1 - k))).set (zs.length - 1 - k) (gt zs k) := by
  apply getD_ext (by simp [length_rvK])
  intro i hi
  rw [length_rvK] at hi
  show gt (rvK zs (k + 1)) i = gt (((rvK zs k).set k (gt zs (zs.length - 1 - k))).set (zs.length - 1 - k) (gt zs k)) i
  rw [gt_rvK _ _ _ hi]
  have s1 : ∀ (l : List Int) (p : Nat) (x : Int), p < l.length → gt (l.set p x) i = if i = p then x else gt l i := fun l p x hp => by
    unfold gt
    by_cases e : i = p
    · subst e; simp [hp]
    · rw [if_neg e]; simp [Ne.symm e]
  rw [s1 _ _ _ (by rw [List.length_set, length_rvK]; omega), s1 _ _ _ (by rw [length_rvK]; omega), gt_rvK _ _ _ hi]
  by_cases e1 : i = zs.length - 1 - k
  · rw [if_pos e1, if_pos (by omega), show zs.length - 1 - i = k by omega]
  · rw [if_neg e1]
    by_cases e2 : i = k
    · subst e2; rw [if_pos rfl, if_pos (by omega)]
    · rw [if_neg e2]
      by_cases c : i < k ∨ zs.length ≤ i + k
      · rw [if_pos c, if_pos (by omega)]
      · rw [if_neg c, if_neg (by omega)]

theorem Blk.setR {w : World} {b : Nat} {zs : List Int} (h : Blk w b zs) {i : Nat} (hi : i < zs.length) (v : Int) : Blk (w.setCell ⟨b, i, none⟩ (.int .i64 v)) b (zs.set i v) := by
  refine ⟨by simpa using h.1, fun j hj => ?_, fun j => by simpa using h.2.2 j⟩
  rw [List.length_set] at hj
  have e0 : gt (zs.set i v) j = if j = i then v else gt zs j := by
    unfold gt
    by_cases e : j = i
    · subst e; simp [hi]
    · rw [if_neg e]; simp [Ne.symm e]
  rw [e0]
  by_cases e : j = i
  · subst e; rw [if_pos rfl]; exact World.cell?_setCell_same _ _ _ (h.2.1 j hj)
  · rw [if_neg e, World.cell?_setCell_other _ _ _ _ (fun h => by injection h with _ h2; exact e h2.symm)]; exact h.2.1 j hj

set_option maxRecDepth 100000 in
set_option maxHeartbeats 4000000 in
theorem reverse_calls (b n c : Nat) (zs : List Int) (w : World) (B : Nat) (hB : B ≤ b) (hBw : B ≤ w.heap.size) (hn : n ≤ 1048576) (hl : zs.length = n) (hb : Blk w b zs) : Calls Try.prog 61 #[.slice (some ⟨b, 0, none⟩) n c] w fun e w' => e = .returned (.tuple #[]) ∧ Blk w' b zs.reverse ∧ Below B w w' := by
  have hwp : IntKind.i64.wrap ((n : Int) - 1) = (n : Int) - 1 := IntWalk.i64_in _ (by omega)
  have HB0 := hide hb
  go_enter Try.func61, Try.ntmps61
  go_wp2
  go_loopw [2, 3] (fun i j wr => ∃ k : Nat, k ≤ n ∧ i = .int .i64 (k : Int) ∧ j = .int .i64 ((n : Int) - 1 - (k : Int)) ∧ Blk wr b (rvK zs k) ∧ Below B w wr) (fun i _ _ => n - (intOf i).toNat)
  case atStart => exact ⟨0, Nat.zero_le _, rfl, by simp, by rw [rvK_0]; exact HB0.out, (Below.refl _ _).mono hBw⟩
  case round =>
    obtain ⟨k, hk, rfl, rfl, hbk, hbel⟩ := hrel
    by_cases hlt : 2 * k + 1 < n
    · have k0 : (k : Int) < (n : Int) - 1 - (k : Int) := by omega
      have ej : (n : Int) - 1 - (k : Int) = ((n - 1 - k : Nat) : Int) := by omega
      have lk := length_rvK zs k
      have ck := hbk.2.1 k (by omega)
      have cj := hbk.2.1 (n - 1 - k) (by omega)
      have fk := hbk.2.2 k
      have fj := hbk.2.2 (n - 1 - k)
      rw [gt_rvK _ _ _ (by omega), if_neg (by omega)] at ck
      rw [gt_rvK _ _ _ (by omega), if_neg (by omega)] at cj
      have HBK := hide hbk
      have HBE := hide hbel
      have HST := hide (rvK_step (zs := zs) (k := k) (by omega))
      have HL := hide hl
      obtain ⟨m, hm⟩ : ∃ m, m = n - 1 - k := ⟨_, rfl⟩
      rw [ej, ← hm]
      rw [ej, ← hm] at k0
      rw [← hm] at cj fj
      have HMM := hide hm
      have hmn : m < n := by omega
      have hkn : k < n := by omega
      have w1 : IntKind.i64.wrap ((m : Int) - 1) = (m : Int) - 1 := IntWalk.i64_in _ (by omega)
      have k1 : (k : Int) < (n : Int) := by omega
      have k2 : (m : Int) < (n : Int) := by omega
      have k3 : (0 : Int) ≤ (k : Int) := by omega
      have k4 : (0 : Int) ≤ (m : Int) := by omega
      have hne : k ≠ m := by omega
      clear hbk hbel hm ej lk hl
      go_wp2_with fail
      go_region
      all_goals (
        have hB1 := HBK.out.setR (i := k) (by rw [length_rvK, HL.out]; omega) (gt zs m)
        have hB2 := hB1.setR (i := m) (by rw [List.length_set, length_rvK, HL.out]; omega) (gt zs k)
        have hE : ((rvK zs k).set k (gt zs m)).set m (gt zs k) = rvK zs (k + 1) := by rw [HST.out, HL.out, ← HMM.out]
        rw [hE] at hB2
        have HNB := hide hB2
        have HNE : Hid (Below B w ((wr.setCell ⟨b, k, none⟩ (.int .i64 (gt zs m))).setCell ⟨b, m, none⟩ (.int .i64 (gt zs k)))) := (HBE.out.setCell (by exact hB) _).setCell (by exact hB) _
        clear hB1 hB2 hE
        go_wp2
        go_roundw
        case rel => exact ⟨k + 1, by omega, by go_num, by have := HMM.out; go_num, HNB.out, HNE.out.drew⟩
        case measure => simp [intOf]; omega)
    · have HR := hide (rvK_all (zs := zs) (k := k) (by omega))
      have k0 : ¬ ((k : Int) < (n : Int) - 1 - (k : Int)) := by omega
      rw [HR.out] at hbk
      go_wp2
      exact bodyPost_end (v := .tuple #[]) (by simp [results, Try.results61, go_sem]) rfl ⟨rfl, hbk, hbel⟩

end Go.Proofs.Ytdokminhoihghaa
