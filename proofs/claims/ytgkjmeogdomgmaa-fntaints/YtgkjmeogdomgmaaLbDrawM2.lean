import Derived.Test.YtgkjmeogdomgmaaLbDrawM
import Derived.WalkKit
import Derived.ProofKit
import Derived.OpenShut
import Derived.ShutString
import Derived.ChangeOld
import Derived.Below
import Derived.WalkSpells
import Derived.Deep.QuietTactic
import Derived.BigQuiet
import Derived.Deep.RegionWith
import Derived.Deep.WholeRow
import Derived.Deep.DeepCutAuto
import Derived.Deep.RegionHeld2
import Derived.Deep.AppendLies
import Derived.Deep.RegionLaw
namespace Go.Proofs.Ytgkjmeogdomgmaa
open Go.ChangeShapes Go.WideShapes Go.ChangeAt Go.RowKit

theorem l1PickR_calls (p : Nat) (a : Option Addr) (len cap t : Nat) (g m mc : Nat) (zs : List Int) (w : World) (hm1 : 1 ≤ m) (hm2 : m ≤ 200) (ht : t ≤ 1000000) (hs : Src w p a len cap t) (hg : p < g) (hgs : g < w.heap.size) (hz : zs.length = m)
    (hc : ∀ i, i < m → w.cell? ⟨g, i, none⟩ = some (.int .i64 (gt zs i))) :
    Calls Try.prog 113 #[.pointer (some ⟨p, 0, none⟩), .slice (some ⟨g, 0, none⟩) m mc] w fun e w' => ∃ r, e = .returned (.int .i64 r) ∧ Src w' p a len cap (t + 1) ∧ Outside p (p + 1) w w' ∧ r ∈ zs := by
  refine (l1PickM_calls p a len cap t g m mc zs w hm1 hm2 ht hs hg hgs hz hc).mono ?_
  rintro e w' ⟨j, hj, rfl, s1, o1⟩
  refine ⟨_, rfl, s1, o1, ?_⟩
  have e : gt zs j = zs[j] := by simp [gt, show j < zs.length by omega]
  rw [e]
  exact List.getElem_mem _

theorem rng_snoc {L : List Int} {r : Int} (h : ∀ v ∈ L, 0 ≤ v ∧ v ≤ 5) (hr : 0 ≤ r ∧ r ≤ 5) : ∀ v ∈ L ++ [r], 0 ≤ v ∧ v ≤ 5 := fun v hv => by
  rcases List.mem_append.1 hv with hv | hv
  · exact h v hv
  · simp at hv; subst hv; exact hr

theorem six_rng {r : Int} (h : r ∈ [2, 2, 2, 3, 4, (1 : Int)]) : 0 ≤ r ∧ r ≤ 5 := by
  simp at h
  omega

theorem rng_set {L : List Int} {k : Nat} (h : ∀ v ∈ L, 0 ≤ v ∧ v ≤ 5) : ∀ v ∈ L.set k 0, 0 ≤ v ∧ v ≤ 5 := fun v hv => by
  rcases List.mem_or_eq_of_mem_set hv with hv | rfl
  · exact h v hv
  · exact ⟨Int.le_refl _, by decide⟩

set_option maxRecDepth 100000 in
set_option maxHeartbeats 4000000 in
theorem l1PlainR_calls (p : Nat) (a : Option Addr) (len cap t : Nat) (w : World) (ht : t ≤ 999000) (hs : Src w p a len cap t) :
    Calls Try.prog 94 #[.pointer (some ⟨p, 0, none⟩)] w fun e w' => ∃ ra rc zs, e = .returned (.agg #[.slice ra 4 rc]) ∧ 4 ≤ rc ∧ OSl w' w.heap.size w'.heap.size ra 4 zs ∧ Src w' p a len cap (t + 4) ∧ Outside p (p + 1) w w' ∧ ∀ v ∈ zs, 0 ≤ v ∧ v ≤ 5 := by
  obtain ⟨i0, hi, hz0, hz1, hz2⟩ := info_parts info2
  have hp : p < w.heap.size := hs.1
  go_enter Try.func94, Try.ntmps94
  go_wp2
  go_loopw [4] (fun i wr => ∃ (k : Nat) (v : Value) (L : List Int), k ≤ 4 ∧ i = .int .i64 k ∧ wr.cell? ⟨w.heap.size + 1, 0, none⟩ = some v ∧ wr.frozen? ⟨w.heap.size + 1, 0, none⟩ = false ∧ wr.ownsRow (w.heap.size + 2) 2 1 v k (L.map (Value.int .i64)) ∧
      wr.cell? ⟨w.heap.size, 0, none⟩ = some (.slice none 0 0) ∧ wr.frozen? ⟨w.heap.size, 0, none⟩ = false ∧ Outside p (p + 1) w wr ∧ Src wr p a len cap (t + k) ∧ w.heap.size + 2 ≤ wr.heap.size ∧ ∀ v ∈ L, 0 ≤ v ∧ v ≤ 5) (fun i _ => 4 - (intOf i).toNat)
  case atStart => exact ⟨0, .slice none 0 0, [], Nat.zero_le _, rfl, by go_simp, by go_simp, World.ownsRow_nil _ _ _ _, by go_simp, by go_simp, (Outside.alloc _ _ _ _).trans (Outside.alloc _ _ _ _), hs.below (((Below.refl _ _).alloc (Nat.le_refl _) _).alloc (by simp) _), by simp, by simp⟩
  case round =>
    obtain ⟨k, v, L, hk, rfl, hv, hvf, hown, hr, hrf, hout, hsrc, hsz, hrg⟩ := hrel
    by_cases hlt : k < 4
    · have hsz1 : w.heap.size + 1 < wr.heap.size := by omega
      have hS1 : Src (wr.alloc (.cells #[.int .i64 2, .int .i64 2, .int .i64 2, .int .i64 3, .int .i64 4, .int .i64 1] 2)).drew p a len cap (t + k) := hsrc.below (((Below.refl _ _).alloc (Nat.le_refl _) _).drew)
      have hpw : p < wr.heap.size := by omega
      have htk : t + k ≤ 1000000 := by omega
      have hnp : p + 1 ≤ w.heap.size + 1 := by omega
      have hpb : p < w.heap.size + 2 := by omega
      have hgs : wr.heap.size < ((wr.alloc (.cells #[.int .i64 2, .int .i64 2, .int .i64 2, .int .i64 3, .int .i64 4, .int .i64 1] 2)).drew).heap.size := by simp
      have HGS := hide hgs
      have HRG := hide hrg
      have HO := hide hown
      have HS1 := hide hS1
      clear hown hS1 hgs hrg
      go_wp2_with fail
      go_region_law (first
        | (refine step_append_lies _ rfl _ _ 25 rfl (w.heap.size + 2) 2 i0 (.int .i64 0) 1 8 Try.underlying25 hi hz0 hz1 hz2 rfl (by decide) v k (L.map (Value.int .i64)) rfl (HO1.out.alloc _) ⟨w1.heap.size, 0, none⟩ 1 1 [.int .i64 r] rfl rfl (one_new (by go_simp)) (by simp [Value.oneCell']) (by omega) (by unfold maxLen; omega) (by omega) (by simp; omega) (w1.heap.size + 1) (by simp) ?_; intro g cp w2 hown1 hgrow hat hlt1; have gv := grow_cell' HO1.out hgrow hz2' (q := ⟨w.heap.size + 1, 0, none⟩) (by simp); rw [hv1, hvf1] at gv; obtain ⟨gv1, gv2⟩ := gv)
        | (go_simp; go_at_call 113; refine (l1PickR_calls p a len cap (t + k) wr.heap.size 6 6 [2, 2, 2, 3, 4, 1] _ (by decide) (by decide) htk HS1.out hpw HGS.out rfl ?_).mono ?_; exact six_at; rintro e w1 ⟨r, rfl, s1, o1, hrm⟩; have HRM := hide hrm; clear hrm; have o1' := Outside.trans (Outside.drew (Outside.alloc p (p + 1) wr (.cells #[.int .i64 2, .int .i64 2, .int .i64 2, .int .i64 3, .int .i64 4, .int .i64 1] 2))) o1; have hv1 := Outside.cell (q := ⟨w.heap.size + 1, 0, none⟩) o1' hsz1 hnp hv; have hvf1 := Outside.frozen (q := ⟨w.heap.size + 1, 0, none⟩) o1' hsz1 hnp hvf; have HO1 := hide (owns_outside HO.out o1' hpb); have hz2' : w.heap.size + 2 ≤ w1.heap.size := Nat.le_trans hsz o1'.size; have hz3 : w.heap.size + 1 < w1.heap.size := hz2'; have S1 := hide s1; have O1 := hide o1'; clear s1 o1 o1'))
      all_goals
        have R := app_stepO (hout.trans O1.out) (by omega : w.heap.size ≤ w.heap.size + 1) (by omega : w.heap.size + 1 < w.heap.size + 2) hz2' hp hv1 hvf1 HO1.out hgrow hown1 S1.out
        rw [ints_snoc] at R
        have hpn : p + 1 ≤ w.heap.size := hp
        have hnw : w.heap.size < wr.heap.size := by omega
        have r1 := (R.2.2.2.1 ⟨w.heap.size, 0, none⟩ (show w.heap.size < _ from by omega) (show w.heap.size ≠ _ from by omega)).1.trans (O1.out.cell (q := ⟨w.heap.size, 0, none⟩) hnw hpn hr)
        have r2 := (R.2.2.2.1 ⟨w.heap.size, 0, none⟩ (show w.heap.size < _ from by omega) (show w.heap.size ≠ _ from by omega)).2.trans (O1.out.frozen (q := ⟨w.heap.size, 0, none⟩) hnw hpn hrf)
        have HR := hide R
        have HR1 := hide r1
        have HR2 := hide r2
        clear R r1 r2 gv1 gv2 hown1 hgrow hat hlt1 hv1 hvf1 hv hvf hr hrf hpn hnw
        go_wp2
        go_roundw
        case rel => exact ⟨k + 1, _, L ++ [r], by omega, by go_num, HR.out.1, HR.out.2.1, HR.out.2.2.1, HR1.out, HR2.out, HR.out.2.2.2.2.1, HR.out.2.2.2.2.2.2, HR.out.2.2.2.2.2.1, rng_snoc HRG.out (six_rng HRM.out)⟩
        case measure => simp [intOf]; omega
    · have hkn : k = 4 := by omega
      subst hkn
      obtain ⟨ra, rc, rfl, ho⟩ := owns_osl (by omega) hown
      have hcap := owns_cap hown rfl
      clear hown
      go_wp2
      refine bodyPost_ret (v := .agg #[.slice ra 4 rc]) (by simp [results, Try.results94, go_sem, hr]) rfl ⟨ra, rc, L, rfl, hcap, ?_, hsrc.setCell (by exact hp) _, hout.setNew (Nat.le_refl _) _, hrg⟩
      exact (ho.map (fun b h1 _ hb => hb.setCell (by simp; omega) _)).mono (by omega) (by simp)

theorem l1Plain_calls (p : Nat) (a : Option Addr) (len cap t : Nat) (w : World) (ht : t ≤ 999000) (hs : Src w p a len cap t) :
    Calls Try.prog 94 #[.pointer (some ⟨p, 0, none⟩)] w fun e w' => ∃ ra rc zs, e = .returned (.agg #[.slice ra 4 rc]) ∧ 4 ≤ rc ∧ OSl w' w.heap.size w'.heap.size ra 4 zs ∧ Src w' p a len cap (t + 4) ∧ Outside p (p + 1) w w' :=
  (l1PlainR_calls p a len cap t w ht hs).mono fun _ _ ⟨ra, rc, zs, h1, h2, h3, h4, h5, _⟩ => ⟨ra, rc, zs, h1, h2, h3, h4, h5⟩

set_option maxRecDepth 100000 in
set_option maxHeartbeats 2000000 in
theorem l1DrawR_calls (p : Nat) (a : Option Addr) (len cap t : Nat) (w : World) (ht : t ≤ 998000) (hs : Src w p a len cap t) :
    Calls Try.prog 117 #[.pointer (some ⟨p, 0, none⟩)] w fun e w' => ∃ ra rc zs t', e = .returned (.agg #[.slice ra 4 rc]) ∧ 4 ≤ rc ∧ OSl w' w.heap.size w'.heap.size ra 4 zs ∧ Src w' p a len cap t' ∧ t' ≤ t + 6 ∧ Outside p (p + 1) w w' ∧ ∀ v ∈ zs, 0 ≤ v ∧ v ≤ 5 := by
  have hp : p < w.heap.size := hs.1
  have hpn : p + 1 ≤ w.heap.size := hp
  go_enter Try.func117, Try.ntmps117
  go_wp2_with fail
  refine (l1PlainR_calls p a len cap t _ (by omega) (hs.below ((Below.refl _ _).alloc (Nat.le_refl _) _))).mono ?_
  rintro e w1 ⟨ra, rc, zs, rfl, hcap, ho, s1, o1, hrg⟩
  obtain ⟨g, rfl, hgB, hgT, blk, h4⟩ := ho.four
  simp only [World.size_alloc] at hgB
  have hN1 : w.heap.size < w1.heap.size := by have := o1.size; simp at this; omega
  have rc1 : w1.cell? ⟨w.heap.size, 0, none⟩ = some (.slice none 0 0) := o1.cell (q := ⟨w.heap.size, 0, none⟩) (by simp) hpn (by go_simp)
  have rf1 : w1.frozen? ⟨w.heap.size, 0, none⟩ = false := o1.frozen (q := ⟨w.heap.size, 0, none⟩) (by simp) hpn (by go_simp)
  have o1w : Outside p (p + 1) w w1 := (Outside.alloc _ _ _ _).trans o1
  have ha := (Below.refl w1.heap.size w1).alloc (Nat.le_refl _) (.cells #[.slice (some ⟨g, 0, none⟩) 4 rc] 41)
  have HRG := hide hrg
  clear ho o1 hrg
  go_wp2_with fail
  refine (l1Chance_calls p a len cap (t + 4) 3 _ (by omega) (by omega) (by omega) (s1.below ha)).mono ?_
  rintro e w2 ⟨rb, rfl, s2, o2⟩
  have hpg : p < g := by omega
  have hp1 : p + 1 ≤ w1.heap.size := by omega
  have x2 : w2.cell? ⟨w1.heap.size, 0, none⟩ = some (.slice (some ⟨g, 0, none⟩) 4 rc) := o2.cell (q := ⟨w1.heap.size, 0, none⟩) (by simp) hp1 (by go_simp)
  have hn2 : w1.heap.size < w2.heap.size := by have := o2.size; simp at this; omega
  have hN2 : w.heap.size < w2.heap.size := by omega
  have rc2 : w2.cell? ⟨w.heap.size, 0, none⟩ = some (.slice none 0 0) := o2.cell (q := ⟨w.heap.size, 0, none⟩) (by simp; omega) hpn (by go_simp)
  have rf2 : w2.frozen? ⟨w.heap.size, 0, none⟩ = false := o2.frozen (q := ⟨w.heap.size, 0, none⟩) (by simp; omega) hpn (by go_simp)
  have blk2 : Blk w2 g zs := (blk.below ha).outside o2 hpg
  have o2w : Outside p (p + 1) w w2 := (o1w.trans (Outside.alloc _ _ _ _)).trans o2
  clear rc1 rf1 blk s1 o1w ha o2
  cases rb with
  | false =>
    go_wp2
    refine bodyPost_ret (v := .agg #[.slice (some ⟨g, 0, none⟩) 4 rc]) (by simp [results, Try.results117, go_sem, rc2]) rfl ⟨_, rc, zs, _, rfl, hcap, OSl.ofBlk (blk2.setCell (by simp; omega) _) (by omega) h4 (by omega), s2.setCell (by exact hp) _, by omega, o2w.setNew (Nat.le_refl _) _, HRG.out⟩
  | true =>
    have htt : t + 4 + 1 ≤ 1000000 := by omega
    have Hs2 := hide s2
    have Ho2 := hide o2w
    have Hb2 := hide blk2
    clear s2 o2w blk2
    go_wp2_with fail
    go_region_with (first
      | (go_at_call 53; refine (l1Next_calls p a len cap (t + 4 + 1) 4 _ (by decide) (by decide) htt (Src.drew Hs2.out)).mono ?_; rintro e w3 ⟨r, rfl, r0, r4, s3, o3⟩; have o23 := Outside.trans (Outside.drew (Outside.refl p (p + 1) w2)) o3; have x3 := Outside.cell (q := ⟨w1.heap.size, 0, none⟩) o23 hn2 hp1 x2; have blk3 := Blk.outside Hb2.out o23 hpg; have hx := idx_lt r0 r4; have hc3 := blk3.2.1 r.toNat (h4.symm ▸ hx); have hf3 := blk3.2.2 r.toNat; have HB3 := hide blk3; have HX := hide hx; have S3 := hide s3; have O3 := hide o23; clear blk3 hx s3 o3 o23))
    all_goals
      have hp2 : w1.heap.size ≠ g := by omega
      have hp3 : w.heap.size ≠ g := by omega
      have xu : (w3.setCell ⟨g, r.toNat, none⟩ (.int .i64 0)).cell? ⟨w1.heap.size, 0, none⟩ = some (.slice (some ⟨g, 0, none⟩) 4 rc) := by
        rw [World.cell?_setCell_other _ _ _ _ (fun e => hp2 (by injection e with e1; exact e1.symm))]; exact x3
      have ru : (w3.setCell ⟨g, r.toNat, none⟩ (.int .i64 0)).cell? ⟨w.heap.size, 0, none⟩ = some (.slice none 0 0) := by
        rw [World.cell?_setCell_other _ _ _ _ (fun e => hp3 (by injection e with e1; exact e1.symm))]; exact O3.out.cell (q := ⟨w.heap.size, 0, none⟩) hN2 hpn rc2
      have rfu : (w3.setCell ⟨g, r.toNat, none⟩ (.int .i64 0)).frozen? ⟨w.heap.size, 0, none⟩ = false := by
        rw [World.frozen?_setCell]; exact O3.out.frozen (q := ⟨w.heap.size, 0, none⟩) hN2 hpn rf2
      have bu := hide (Blk.store (x := 0) HB3.out (h4.symm ▸ HX.out))
      have su := hide (S3.out.setCell (q := ⟨g, r.toNat, none⟩) hpg (.int .i64 0))
      have ou := hide ((Ho2.out.trans O3.out).setNew (q := ⟨g, r.toNat, none⟩) (by show w.heap.size ≤ g; omega) (.int .i64 0))
      have hlen : (zs.set r.toNat 0).length = 4 := by rw [List.length_set]; exact h4
      clear x3 x2 rc2 rf2 hc3 hf3
      go_wp2
      refine bodyPost_ret (v := .agg #[.slice (some ⟨g, 0, none⟩) 4 rc]) (by simp [results, Try.results117, go_sem, ru]) rfl ⟨_, rc, _, _, rfl, hcap, OSl.ofBlk (bu.out.setCell (by simpa using hp3) _) (by omega) hlen (by omega), su.out.setCell (by exact hp) _, by omega, ou.out.setNew (Nat.le_refl _) _, rng_set HRG.out⟩

theorem l1Draw_calls (p : Nat) (a : Option Addr) (len cap t : Nat) (w : World) (ht : t ≤ 998000) (hs : Src w p a len cap t) :
    Calls Try.prog 117 #[.pointer (some ⟨p, 0, none⟩)] w fun e w' => ∃ ra rc zs t', e = .returned (.agg #[.slice ra 4 rc]) ∧ 4 ≤ rc ∧ OSl w' w.heap.size w'.heap.size ra 4 zs ∧ Src w' p a len cap t' ∧ t' ≤ t + 6 ∧ Outside p (p + 1) w w' :=
  (l1DrawR_calls p a len cap t w ht hs).mono fun _ _ ⟨ra, rc, zs, t', h1, h2, h3, h4, h5, h6, _⟩ => ⟨ra, rc, zs, t', h1, h2, h3, h4, h5, h6⟩

end Go.Proofs.Ytgkjmeogdomgmaa
