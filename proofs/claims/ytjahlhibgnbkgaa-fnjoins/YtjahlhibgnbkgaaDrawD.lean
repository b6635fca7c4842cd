import Derived.Test.YtjahlhibgnbkgaaPlainD
import Derived.Test.YtjahlhibgnbkgaaDraw2
import Derived.WalkKit
import Derived.ProofKit
import Derived.OpenShut
import Derived.ShutString
import Derived.ChangeOld
import Derived.Below
import Derived.WalkSpells
import Derived.Deep.QuietTactic
import Derived.BigQuiet
import Derived.Deep.RegionWith
import Derived.Deep.WholeRow
import Derived.Deep.DeepCutAuto
import Derived.Deep.RegionHeld2
import Derived.Deep.AppendLies
import Derived.Deep.RegionLaw
namespace Go.Proofs.Ytjahlhibgnbkgaa
open Go.ChangeShapes Go.WideShapes Go.ChangeAt Go.RowKit

set_option maxRecDepth 100000 in
set_option maxHeartbeats 2000000 in
theorem l1Draw_calls (p : Nat) (a : Option Addr) (len cap t : Nat) (w : World) (ht : t ≤ 998000) (hs : Src w p a len cap t) :
    Calls Try.prog 89 #[.pointer (some ⟨p, 0, none⟩)] w fun e w' => ∃ ra rc zs t', e = .returned (.agg #[.slice ra 4 rc]) ∧ 4 ≤ rc ∧ OSl w' w.heap.size w'.heap.size ra 4 zs ∧ Src w' p a len cap t' ∧ t' ≤ t + 6 ∧ Outside p (p + 1) w w' := by
  have hp : p < w.heap.size := hs.1
  have hpn : p + 1 ≤ w.heap.size := hp
  go_enter Try.func89, Try.ntmps89
  go_wp2_with fail
  refine (l1Plain_calls p a len cap t _ (by omega) (hs.below ((Below.refl _ _).alloc (Nat.le_refl _) _))).mono ?_
  rintro e w1 ⟨ra, rc, zs, rfl, hcap, ho, s1, o1⟩
  obtain ⟨g, rfl, hgB, hgT, blk, h4⟩ := ho.four
  simp only [World.size_alloc] at hgB
  have hN1 : w.heap.size < w1.heap.size := by have := o1.size; simp at this; omega
  have rc1 : w1.cell? ⟨w.heap.size, 0, none⟩ = some (.slice none 0 0) := o1.cell (q := ⟨w.heap.size, 0, none⟩) (by simp) hpn (by go_simp)
  have rf1 : w1.frozen? ⟨w.heap.size, 0, none⟩ = false := o1.frozen (q := ⟨w.heap.size, 0, none⟩) (by simp) hpn (by go_simp)
  have o1w : Outside p (p + 1) w w1 := (Outside.alloc _ _ _ _).trans o1
  have ha := (Below.refl w1.heap.size w1).alloc (Nat.le_refl _) (.cells #[.slice (some ⟨g, 0, none⟩) 4 rc] 26)
  clear ho o1
  go_wp2_with fail
  refine (l1Chance_calls p a len cap (t + 4) 3 _ (by omega) (by omega) (by omega) (s1.below ha)).mono ?_
  rintro e w2 ⟨rb, rfl, s2, o2⟩
  have hpg : p < g := by omega
  have hp1 : p + 1 ≤ w1.heap.size := by omega
  have x2 : w2.cell? ⟨w1.heap.size, 0, none⟩ = some (.slice (some ⟨g, 0, none⟩) 4 rc) := o2.cell (q := ⟨w1.heap.size, 0, none⟩) (by simp) hp1 (by go_simp)
  have hn2 : w1.heap.size < w2.heap.size := by have := o2.size; simp at this; omega
  have hN2 : w.heap.size < w2.heap.size := by omega
  have rc2 : w2.cell? ⟨w.heap.size, 0, none⟩ = some (.slice none 0 0) := o2.cell (q := ⟨w.heap.size, 0, none⟩) (by simp; omega) hpn (by go_simp)
  have rf2 : w2.frozen? ⟨w.heap.size, 0, none⟩ = false := o2.frozen (q := ⟨w.heap.size, 0, none⟩) (by simp; omega) hpn (by go_simp)
  have blk2 : Blk w2 g zs := (blk.below ha).outside o2 hpg
  have o2w : Outside p (p + 1) w w2 := (o1w.trans (Outside.alloc _ _ _ _)).trans o2
  clear rc1 rf1 blk s1 o1w ha o2
  cases rb with
  | false =>
    go_wp2
    refine bodyPost_ret (v := .agg #[.slice (some ⟨g, 0, none⟩) 4 rc]) (by simp [results, Try.results89, go_sem, rc2]) rfl ⟨_, rc, zs, _, rfl, hcap, OSl.ofBlk (blk2.setCell (by simp; omega) _) (by omega) h4 (by omega), s2.setCell (by exact hp) _, by omega, o2w.setNew (Nat.le_refl _) _⟩
  | true =>
    have htt : t + 4 + 1 ≤ 1000000 := by omega
    have Hs2 := hide s2
    have Ho2 := hide o2w
    have Hb2 := hide blk2
    clear s2 o2w blk2
    go_wp2_with fail
    go_region_with (first
      | (go_at_call 66; refine (l1Next_calls p a len cap (t + 4 + 1) 4 _ (by decide) (by decide) htt (Src.drew Hs2.out)).mono ?_; rintro e w3 ⟨r, rfl, r0, r4, s3, o3⟩; have o23 := Outside.trans (Outside.drew (Outside.refl p (p + 1) w2)) o3; have x3 := Outside.cell (q := ⟨w1.heap.size, 0, none⟩) o23 hn2 hp1 x2; have blk3 := Blk.outside Hb2.out o23 hpg; have hx := idx_lt r0 r4; have hc3 := blk3.2.1 r.toNat (h4.symm ▸ hx); have hf3 := blk3.2.2 r.toNat; have HB3 := hide blk3; have HX := hide hx; have S3 := hide s3; have O3 := hide o23; clear blk3 hx s3 o3 o23))
    all_goals
      have hp2 : w1.heap.size ≠ g := by omega
      have hp3 : w.heap.size ≠ g := by omega
      have xu : (w3.setCell ⟨g, r.toNat, none⟩ (.int .i64 0)).cell? ⟨w1.heap.size, 0, none⟩ = some (.slice (some ⟨g, 0, none⟩) 4 rc) := by
        rw [World.cell?_setCell_other _ _ _ _ (fun e => hp2 (by injection e with e1; exact e1.symm))]; exact x3
      have ru : (w3.setCell ⟨g, r.toNat, none⟩ (.int .i64 0)).cell? ⟨w.heap.size, 0, none⟩ = some (.slice none 0 0) := by
        rw [World.cell?_setCell_other _ _ _ _ (fun e => hp3 (by injection e with e1; exact e1.symm))]; exact O3.out.cell (q := ⟨w.heap.size, 0, none⟩) hN2 hpn rc2
      have rfu : (w3.setCell ⟨g, r.toNat, none⟩ (.int .i64 0)).frozen? ⟨w.heap.size, 0, none⟩ = false := by
        rw [World.frozen?_setCell]; exact O3.out.frozen (q := ⟨w.heap.size, 0, none⟩) hN2 hpn rf2
      have bu := hide (Blk.store (x := 0) HB3.out (h4.symm ▸ HX.out))
      have su := hide (S3.out.setCell (q := ⟨g, r.toNat, none⟩) hpg (.int .i64 0))
      have ou := hide ((Ho2.out.trans O3.out).setNew (q := ⟨g, r.toNat, none⟩) (by show w.heap.size ≤ g; omega) (.int .i64 0))
      have hlen : (zs.set r.toNat 0).length = 4 := by rw [List.length_set]; exact h4
      clear x3 x2 rc2 rf2 hc3 hf3
      go_wp2
      refine bodyPost_ret (v := .agg #[.slice (some ⟨g, 0, none⟩) 4 rc]) (by simp [results, Try.results89, go_sem, ru]) rfl ⟨_, rc, _, _, rfl, hcap, OSl.ofBlk (bu.out.setCell (by simpa using hp3) _) (by omega) hlen (by omega), su.out.setCell (by exact hp) _, by omega, ou.out.setNew (Nat.le_refl _) _⟩

end Go.Proofs.Ytjahlhibgnbkgaa
