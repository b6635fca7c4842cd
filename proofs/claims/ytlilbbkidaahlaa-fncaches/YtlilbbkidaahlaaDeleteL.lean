import Derived.Test.YtlilbbkidaahlaaL4Copy
import Derived.WalkKit
import Derived.ProofKit
import Derived.OpenShut
import Derived.ShutString
import Derived.ChangeOld
import Derived.Below
import Derived.WalkSpells
import Derived.Deep.QuietTactic
import Derived.BigQuiet
import Derived.Deep.RegionWith
import Derived.Deep.WholeRow
import Derived.Deep.DeepCutAuto
import Derived.Deep.RegionHeld2
import Derived.Deep.AppendLies
import Derived.Deep.RegionLaw
namespace Go.Proofs.Ytlilbbkidaahlaa
open Go.ChangeShapes Go.WideShapes Go.ChangeAt Go.RowKit

def setL : List Int → Nat → List Int → List Int
  | ys, _, [] => ys
  | ys, o, z :: r => setL (ys.set o z) (o + 1) r

theorem setL_take : ∀ (zs ys : List Int) (o : Nat), o + zs.length ≤ ys.length → (setL ys o zs).take (o + zs.length) = ys.take o ++ zs
  | [], ys, o, _ => by simp [setL]
  | z :: r, ys, o, h => by
    simp only [List.length_cons] at h
    have := setL_take r (ys.set o z) (o + 1) (by simp; omega)
    rw [setL, List.length_cons, show o + (r.length + 1) = o + 1 + r.length by omega, this]
    have e : (ys.set o z).take (o + 1) = ys.take o ++ [z] := by
      rw [List.take_succ_eq_append_getElem (by simp; omega)]
      simp
      apply List.ext_getElem?
      intro i
      by_cases hi : i < o
      · rw [List.getElem?_take_of_lt hi, List.getElem?_take_of_lt hi, List.getElem?_set_ne (by omega)]
      · rw [List.getElem?_take_eq_none (by omega), List.getElem?_take_eq_none (by omega)]
    rw [e, List.append_assoc]
    rfl

theorem own_setL : ∀ (zs : List Int) (o : Nat) {w : World} {B g n cap : Nat} {e : TypeId} {ys : List Int}, w.ownsRow B e 3 (.slice (some ⟨g, 0, none⟩) n cap) n (ys.map (Value.int .i64)) →
    (w.setCells g o (zs.map (Value.int .i64))).ownsRow B e 3 (.slice (some ⟨g, 0, none⟩) n cap) n ((setL ys o zs).map (Value.int .i64))
  | [], _, _, _, _, _, _, _, _, h => h
  | z :: r, o, w, B, g, n, cap, e, ys, h => by
    have h1 := (h.stored o (.int .i64 z)).1
    have h2 : (w.setCell ⟨g, o, none⟩ (.int .i64 z)).ownsRow B e 3 (.slice (some ⟨g, 0, none⟩) n cap) n ((ys.set o z).map (Value.int .i64)) := by simpa [List.map_set] using h1
    exact own_setL r (o + 1) h2

theorem erase_fl3 (ls : List (Int × Int × Int)) (i : Nat) : fl3 (ls.eraseIdx i) = (fl3 ls).take (i * 3) ++ (fl3 ls).drop ((i + 1) * 3) := by
  rw [List.eraseIdx_eq_take_drop_succ, fl3_append, fl3_take, fl3_drop]

set_option maxRecDepth 100000 in
set_option maxHeartbeats 2000000 in
theorem deleteL_calls (B g n cap i : Nat) (ls : List (Int × Int × Int)) (w : World) (hn : n ≤ 1048576) (hi : i < n) (hl : ls.length = n) (ho : w.ownsRow B 28 3 (.slice (some ⟨g, 0, none⟩) n cap) n (vs3 ls)) :
    Calls Try.prog 34 #[.slice (some ⟨g, 0, none⟩) n cap, .int .i64 i, .int .i64 ((i : Int) + 1)] w fun e w' => e = .returned (.slice (some ⟨g, 0, none⟩) (n - 1) cap) ∧ w'.ownsRow B 28 3 (.slice (some ⟨g, 0, none⟩) (n - 1) cap) (n - 1) (vs3 (ls.eraseIdx i)) ∧ Below B w w' := by
  obtain ⟨i0, hi0, hz0, hz1, hz2⟩ := info_parts infoLine
  have hz : ∀ u, (zeroValue 28).run Try.prog u = .ok (.agg #[.int .i64 0, .int .i64 0, .int .i64 0]) u := fun u => by simp [go_sem]
  obtain ⟨hnc, hcm, hBg, hgw⟩ := own_room ho
  unfold maxLen at hcm
  have hvl : (fl3 ls).length = n * 3 := by rw [length_fl3, hl]
  obtain ⟨zs, hzs⟩ : ∃ zs, zs = (fl3 ls).drop ((i + 1) * 3) := ⟨_, rfl⟩
  have hzl : zs.length = (n - (i + 1)) * 3 := by rw [hzs, List.length_drop, hvl]; omega
  obtain ⟨A, hA, hsrc⟩ : ∃ A : Addr, (if cap = i + 1 then some (⟨g, 0, none⟩ : Addr) else some ⟨g, (i + 1) * 3, none⟩) = some A ∧ Hid (∀ t u, (zs.map (Value.int .i64))[t]? = some u → w.drew.cell? (A.add t) = some u) := by
    by_cases h : cap = i + 1
    · refine ⟨⟨g, 0, none⟩, by simp [h], fun t u hu => ?_⟩
      have h0 : zs.length = 0 := by rw [hzl]; omega
      rw [List.length_eq_zero_iff.1 h0] at hu
      simp at hu
    · refine ⟨⟨g, (i + 1) * 3, none⟩, by simp [h], fun t u hu => ?_⟩
      have ht : t < zs.length := by have := (List.getElem?_eq_some_iff.1 hu).1; simpa using this
      have hadd : (Addr.mk g ((i + 1) * 3) none).add t = ⟨g, (i + 1) * 3 + t, none⟩ := by cases t <;> simp [Addr.add]
      rw [hadd]
      refine (own_cell ho (j := (i + 1) * 3 + t) (by omega)).trans ?_
      rw [← hu, hzs]
      simp [gt, show (i + 1) * 3 + t < (fl3 ls).length by omega]
  have s1 : Hid ((zs.map (Value.int .i64)).length = (n - (i + 1)) * 3) := by show _ = _; rw [List.length_map]; exact hzl
  have s3 : Hid (∀ t, t < (zs.map (Value.int .i64)).length → (w.drew.cell? ⟨g, 0 + i * 3 + t, none⟩).isSome = true ∧ w.drew.frozen? ⟨g, 0 + i * 3 + t, none⟩ = false) := by
    intro t ht
    rw [s1.out] at ht
    exact ⟨by show (w.cell? _).isSome = true; rw [own_cell ho (j := 0 + i * 3 + t) (by omega)]; rfl, ho.frozenAt _⟩
  have O1 := own_setL zs (i * 3) (own_drew ho)
  obtain ⟨W1, hW1⟩ : ∃ W1, W1 = w.drew.setCells g (i * 3) (zs.map (Value.int .i64)) := ⟨_, rfl⟩
  rw [← hW1] at O1
  have hcl : ∀ ty, (Builtin.clear_ #[24] ty #[.slice (some ⟨g, (i + (n - (i + 1))) * 3, none⟩) (n - (i + (n - (i + 1)))) (cap - (i + (n - (i + 1))))]).run Try.prog W1 = .ok (.tuple #[]) (W1.setCells g ((i + (n - (i + 1))) * 3) (List.replicate ((n - (i + (n - (i + 1)))) * 3) (.int .i64 0))) :=
    fun ty => run_clear_lines W1 _ _ ty Try.underlying24 hz g _ _ _ (by omega) (fun j hj => ⟨_, own_cell O1 (by omega)⟩) (fun j => O1.frozenAt _)
  obtain ⟨ts, ht1, ht2⟩ := own_zero ((n - (i + (n - (i + 1)))) * 3) ((i + (n - (i + 1))) * 3) O1
  have HO : Hid ((W1.setCells g ((i + (n - (i + 1))) * 3) (List.replicate ((n - (i + (n - (i + 1)))) * 3) (.int .i64 0))).ownsRow B 28 3 (.slice (some ⟨g, 0, none⟩) (n - 1) cap) (n - 1) (vs3 (ls.eraseIdx i))) := by
    show World.ownsRow _ _ _ _ _ _ _
    have h := own_take ht2 (k := n - 1) (by omega)
    have e : ts.take ((n - 1) * 3) = fl3 (ls.eraseIdx i) := by
      rw [show (n - 1) * 3 = (i + (n - (i + 1))) * 3 by omega, ht1, show (i + (n - (i + 1))) * 3 = i * 3 + zs.length by omega, setL_take _ _ _ (by omega), hzs, ← erase_fl3]
    rw [← List.map_take, e] at h
    exact h
  have HB : Hid (Below B w (W1.setCells g ((i + (n - (i + 1))) * 3) (List.replicate ((n - (i + (n - (i + 1)))) * 3) (.int .i64 0)))) := by
    show Below _ _ _
    rw [hW1]
    exact below_setCells _ _ (below_setCells _ _ (Below.refl _ _).drew hBg) hBg
  have hW : Hid (W1 = w.drew.setCells g (0 + i * 3) (zs.map (Value.int .i64))) := by show _ = _; rw [hW1, Nat.zero_add]
  have hic : i ≤ cap := by omega
  have hjc : i + 1 ≤ cap := by omega
  have hkc : ¬ cap = i + (n - (i + 1)) := by omega
  have hii : ¬ i = i + 1 := by omega
  have hb1 : (0 : Int) ≤ (i : Int) + 1 := by omega
  have hb2 : (i : Int) + 1 ≤ (n : Int) := by omega
  clear hW1 O1 ht1 ht2 hzs ho
  go_enter Try.func34, Try.ntmps34
  go_wp2_with fail
  go_region_law (refine step_append_room rfl (.tmp 22) (.tmp 25) 24 rfl 28 i0 3 Try.underlying24 hi0 hz1 g 0 i cap (by simp [Act.eval, Act.put]) A (n - (i + 1)) (cap - (i + 1)) (zs.map (Value.int .i64)) (by simp [Act.eval, Act.put]) s1.out hsrc.out ints_one (by omega) s3.out ?_; rw [← hW.out])
  all_goals (
    go_wp2
    go_ret
    exact ⟨by rw [show n - 1 = i + (n - (i + 1)) by omega]; rfl, HO.out, HB.out⟩)

end Go.Proofs.Ytlilbbkidaahlaa
