import Derived.Test.YtgkjmeogdomgmaaGreatG2
import Derived.Test.YtgkjmeogdomgmaaGreatG1
import Derived.Test.YtgkjmeogdomgmaaGreatG9
import Derived.Test.YtgkjmeogdomgmaaGreatG60
import Derived.Test.YtgkjmeogdomgmaaGreatG68
import Derived.Test.YtgkjmeogdomgmaaGreatG10
import Derived.Test.YtgkjmeogdomgmaaGreatG5
import Derived.Test.YtgkjmeogdomgmaaGreatG67
import Derived.Test.YtgkjmeogdomgmaaGreatG11
import Derived.Deep.AppendLies
import Derived.WalkKit
import Derived.ProofKit
import Derived.OpenShut
import Derived.ShutString
import Derived.ChangeOld
import Derived.Below
import Derived.WalkSpells
import Derived.Deep.QuietTactic
import Derived.BigQuiet
import Derived.Deep.RegionWith
import Derived.Deep.WholeRow
import Derived.Deep.DeepCutAuto
import Derived.Deep.RegionHeld2
import Derived.Deep.AppendLies
import Derived.Deep.RegionLaw
namespace Go.Proofs.YtgkjmeogdomgmaaGreat
open Go.ChangeShapes Go.WideShapes Go.ChangeAt Go.RowKit

set_option maxRecDepth 100000 in
theorem l1Max_calls (x y : Int) (w : World) : Calls Tryz.prog 164 #[.int .i64 x, .int .i64 y] w fun e w' => e = .returned (.int .i64 (max x y)) ∧ w' = w := by
  by_cases h : y < x
  · go_enter Tryz.func164, Tryz.ntmps164
    go_wp2
    go_ret
    exact ⟨ret_int (by omega), rfl⟩
  · go_enter Tryz.func164, Tryz.ntmps164
    go_wp2
    go_ret
    exact ⟨ret_int (by omega), rfl⟩

set_option maxRecDepth 100000 in
set_option maxHeartbeats 4000000 in
theorem l1JoinO_calls (p o q : Nat) (a b : Option Addr) (n ca cb : Nat) (xs ys : List Int) (w : World) (hn : n ≤ 1048576) (hp : p < w.heap.size) (hq : q < w.heap.size)
    (hpc : w.cell? ⟨p, o, none⟩ = some (.slice a n ca)) (hqc : w.cell? ⟨q, 0, none⟩ = some (.slice b n cb)) (hx : Sl w a n xs) (hy : Sl w b n ys) :
    Calls Tryz.prog 139 #[.pointer (some ⟨p, o, none⟩), .pointer (some ⟨q, 0, none⟩)] w fun e w' => ∃ ra rc, e = .returned (.agg #[.slice ra n rc]) ∧ OSl w' w.heap.size w'.heap.size ra n (mix max xs ys) ∧ Below w.heap.size w w' := by
  obtain ⟨hxl, hx⟩ := hx
  obtain ⟨hyl, hy⟩ := hy
  obtain ⟨i0, hi, hz0, hz1, hz2⟩ := info_parts info2
  go_enter Tryz.func139, Tryz.ntmps139
  go_wp2
  go_loopw [6] (fun i wr => ∃ (k : Nat) (v : Value), k ≤ n ∧ i = .int .i64 k ∧ wr.cell? ⟨w.heap.size + 1, 0, none⟩ = some v ∧ wr.frozen? ⟨w.heap.size + 1, 0, none⟩ = false ∧ wr.ownsRow (w.heap.size + 2) 2 1 v k (((mix max xs ys).take k).map (Value.int .i64)) ∧
      wr.cell? ⟨w.heap.size, 0, none⟩ = some (.slice none 0 0) ∧ wr.frozen? ⟨w.heap.size, 0, none⟩ = false ∧ Below w.heap.size w wr ∧ w.heap.size + 2 ≤ wr.heap.size) (fun i _ => n - (intOf i).toNat)
  case atStart => exact ⟨0, .slice none 0 0, Nat.zero_le _, rfl, by go_simp, by go_simp, World.ownsRow_nil _ _ _ _, by go_simp, by go_simp, ((Below.refl _ _).alloc (Nat.le_refl _) _).alloc (by simp) _, by simp⟩
  case round =>
    obtain ⟨k, v, hk, rfl, hv, hvf, hown, hr, hrf, hbel, hsz⟩ := hrel
    have hpr := (hbel.cell (p := ⟨p, o, none⟩) hp).trans hpc
    have hqr := (hbel.cell (p := ⟨q, 0, none⟩) hq).trans hqc
    by_cases hlt : k < n
    · obtain ⟨b1, o1, rfl, hb1, hc1⟩ := hx (by omega)
      obtain ⟨b2, o2, rfl, hb2, hc2⟩ := hy (by omega)
      have hck1 := (hbel.cell (p := ⟨b1, o1 + k, none⟩) hb1).trans (hc1 k hlt)
      have hck2 := (hbel.cell (p := ⟨b2, o2 + k, none⟩) hb2).trans (hc2 k hlt)
      have hki : (k : Int) < (n : Int) := by omega
      have hsz1 : w.heap.size + 1 < wr.heap.size := by omega
      have HO := hide hown
      clear hown hx hy hc1 hc2
      go_wp2_with fail
      go_region_law (first
        | (refine step_append_lies _ rfl _ _ 25 rfl (w.heap.size + 2) 2 i0 (.int .i64 0) 1 8 Tryz.underlying25 hi hz0 hz1 hz2 rfl (by decide) v k (((mix max xs ys).take k).map (Value.int .i64)) rfl (HO.out.alloc _) ⟨wr.heap.size, 0, none⟩ 1 1 [.int .i64 (max (gt xs k) (gt ys k))] rfl rfl (one_new (by go_simp)) (by simp [Value.oneCell']) (by omega) (by unfold maxLen; omega) (by omega) (by simp; omega) (wr.heap.size + 1) (by simp) ?_; intro g cp w1 hown1 hgrow hat hlt1; have gv := grow_cell HO.out hgrow hsz (p := ⟨w.heap.size + 1, 0, none⟩) (by simp); rw [hv, hvf] at gv; obtain ⟨gv1, gv2⟩ := gv)
        | (go_simp; go_at_call 164; refine (l1Max_calls _ _ _).mono ?_; rintro e w2 ⟨rfl, rfl⟩))
      all_goals
        have R := app_step hbel hsz (by omega : w.heap.size + 1 < w.heap.size + 2) (by omega) hv hvf HO.out hgrow hown1
        have RN := R.2.2.2.1 ⟨w.heap.size, 0, none⟩ (by simp) (by simp)
        rw [hr, hrf] at RN
        rw [← mix_take max xs ys k (by omega)] at R
        have HR := hide R
        have HRN := hide RN
        clear R RN gv1 gv2 hown1 hgrow hat hlt1
        go_wp2
        go_roundw
        case rel => exact ⟨k + 1, _, by omega, by go_num, HR.out.1, HR.out.2.1, HR.out.2.2.1, HRN.out.1, HRN.out.2, HR.out.2.2.2.2.1, HR.out.2.2.2.2.2⟩
        case measure => simp [intOf]; omega
    · have hkn : k = n := by omega
      subst hkn
      rw [List.take_of_length_le (by rw [length_mix]; omega)] at hown
      obtain ⟨ra, rc, rfl, ho⟩ := owns_osl hn hown
      clear hown
      go_wp2
      refine bodyPost_ret (v := .agg #[.slice ra k rc]) (by simp [results, Tryz.results139, go_sem, hr]) rfl ⟨ra, rc, rfl, ?_, hbel.setCell (by simp) _⟩
      exact (ho.map (fun b h1 _ hb => hb.setCell (by simp; omega) _)).mono (by omega) (by simp)

theorem OS.take {S : Nat → Prop} {a : Option Addr} {n k : Nat} {rs : List Int} {w : World} (h : OS S a n rs w) (hk : k ≤ n) : OS S a k (rs.take k) w := by
  obtain ⟨h1, h2, h3⟩ := h
  refine ⟨by simp; omega, by omega, ?_⟩
  rcases h3 with h3 | ⟨b, e, hb, blk⟩
  · exact .inl (by omega)
  · refine .inr ⟨b, e, hb, blk.1, fun i hi => ?_, blk.2.2⟩
    rw [List.length_take] at hi
    rw [blk.2.1 i (by omega)]
    simp [gt, show i < k by omega]

theorem Mm.alloc5 {w u : World} {cs : List (Nat × Nat × Value)} {fs : List (Nat × Nat × (World → Prop))} (h : Mm w u cs fs) (v0 v1 v2 v3 v4 : Value) (t : TypeId) : Mm w (u.alloc (.cells #[v0, v1, v2, v3, v4] t)) ((u.heap.size, 0, v0) :: (u.heap.size, 1, v1) :: (u.heap.size, 2, v2) :: (u.heap.size, 3, v3) :: (u.heap.size, 4, v4) :: cs) fs :=
  (((((h.below ((Below.refl _ _).alloc (Nat.le_refl _) (.cells #[v0, v1, v2, v3, v4] t))).cons (by simp) (by simp)).cons (by simp) (by simp)).cons (by simp) (by simp)).cons (by simp) (by simp)).cons (by simp) (by simp)

theorem below_set5 {B : Nat} {w u : World} (h : Below B w u) {P : Nat} (hP : B ≤ P) (v0 v1 v2 v3 v4 : Value) :
    Below B w (((((u.setCell ⟨P, 0, none⟩ v0).setCell ⟨P, 1, none⟩ v1).setCell ⟨P, 2, none⟩ v2).setCell ⟨P, 3, none⟩ v3).setCell ⟨P, 4, none⟩ v4) :=
  ((((h.setCell (by exact hP) v0).setCell (by exact hP) v1).setCell (by exact hP) v2).setCell (by exact hP) v3).setCell (by exact hP) v4

theorem loc_set5 {S : Nat → Prop} {Q : World → Prop} (hl : Loc S Q) {w : World} (h : Q w) {P : Nat} (hP : ¬ S P) (v0 v1 v2 v3 v4 : Value) :
    Q (((((w.setCell ⟨P, 0, none⟩ v0).setCell ⟨P, 1, none⟩ v1).setCell ⟨P, 2, none⟩ v2).setCell ⟨P, 3, none⟩ v3).setCell ⟨P, 4, none⟩ v4) :=
  hl.setC (hl.setC (hl.setC (hl.setC (hl.setC h (by exact hP) v0) (by exact hP) v1) (by exact hP) v2) (by exact hP) v3) (by exact hP) v4

theorem OT.nil (S : Nat → Prop) (w : World) (a b c : Option Addr) : OT S a 0 [] b 0 [] c 0 [] w :=
  ⟨fun _ => False, fun _ => False, fun _ => False, fun _ h => h.elim, fun _ h => h.elim, fun _ h => h.elim, fun _ h => h.elim, fun _ h => h.elim, fun _ h => h.elim, ⟨rfl, by simp [lenSum], .inl rfl⟩, ⟨rfl, by omega, .inl rfl⟩, ⟨rfl, by omega, .inl rfl⟩⟩

def td (x y : Int) : Int := if x = 0 then 0 else max x y

/-- a label joined with another one, of which the first k levels are done: where it owns, it keeps its star. -/
def tdK (k : Nat) (xs ys : List Int) : List Int := (List.range 4).map (fun j => if j < k then td (gt xs j) (gt ys j) else max (gt xs j) (gt ys j))

theorem length_tdK (k : Nat) (xs ys : List Int) : (tdK k xs ys).length = 4 := by simp [tdK]

theorem tdK_start {xs : List Int} (ys : List Int) (h : xs.length = 4) : tdK 0 xs ys = mix max xs ys := by simp [tdK, mix, h]

theorem tdK_end {xs : List Int} (ys : List Int) (h : xs.length = 4) : tdK 4 xs ys = mix td xs ys := by
  unfold tdK mix
  rw [h]
  exact List.map_congr_left (fun j hj => if_pos (by simpa using hj))

theorem tdK_star {k : Nat} {xs : List Int} (ys : List Int) (hk : k < 4) (h : gt xs k = 0) : (tdK k xs ys).set k 0 = tdK (k + 1) xs ys := by
  obtain rfl | rfl | rfl | rfl : k = 0 ∨ k = 1 ∨ k = 2 ∨ k = 3 := by omega
  all_goals simp [tdK, td, h, List.range, List.range.loop]

theorem tdK_same {k : Nat} {xs : List Int} (ys : List Int) (hk : k < 4) (h : gt xs k ≠ 0) : tdK k xs ys = tdK (k + 1) xs ys := by
  obtain rfl | rfl | rfl | rfl : k = 0 ∨ k = 1 ∨ k = 2 ∨ k = 3 := by omega
  all_goals simp [tdK, td, h, List.range, List.range.loop]

theorem blk_store {w : World} {b r : Nat} {zs : List Int} {x : Int} (h : Blk w b zs) (hr : r < zs.length) : Blk (w.setCell ⟨b, r, none⟩ (.int .i64 x)) b (zs.set r x) := by
  refine ⟨by simpa using h.1, fun i hi => ?_, fun i => by simpa using h.2.2 i⟩
  by_cases e : i = r
  · subst e
    rw [World.cell?_setCell_same _ _ _ (h.2.1 i hr)]
    simp [gt, hr]
  · rw [World.cell?_setCell_other _ _ _ _ (fun he => by injection he with _ e2; omega), h.2.1 i (by simpa using hi)]
    simp [gt, Ne.symm e]

set_option maxRecDepth 100000 in
set_option maxHeartbeats 2000000 in
theorem l3Tainted_calls (p o q : Nat) (a b : Option Addr) (ca cb : Nat) (xs ys : List Int) (w : World) (hp : p < w.heap.size) (hq : q < w.heap.size)
    (hpc : w.cell? ⟨p, o, none⟩ = some (.slice a 4 ca)) (hqc : w.cell? ⟨q, 0, none⟩ = some (.slice b 4 cb)) (hx : Sl w a 4 xs) (hy : Sl w b 4 ys) :
    Calls Tryz.prog 105 #[.pointer (some ⟨p, o, none⟩), .pointer (some ⟨q, 0, none⟩)] w fun e w' => ∃ ra rc, e = .returned (.agg #[.slice ra 4 rc]) ∧ OS (InR w.heap.size w'.heap.size) ra 4 (mix td xs ys) w' ∧ Below w.heap.size w w' := by
  have M0 := (Mm.start w).alloc1 (.slice none 0 0) 112
  have al := (Below.refl w.heap.size w).alloc (Nat.le_refl _) (.cells #[.slice none 0 0] 112)
  have hp0 : p < (w.alloc (.cells #[.slice none 0 0] 112)).heap.size := by simp; omega
  have hq0 : q < (w.alloc (.cells #[.slice none 0 0] 112)).heap.size := by simp; omega
  go_enter Tryz.func105, Tryz.ntmps105
  go_wp2_with fail
  refine (l1JoinO_calls p o q a b 4 ca cb xs ys _ (by omega) hp0 hq0 ((al.cell (p := ⟨p, o, none⟩) hp).trans hpc) ((al.cell (p := ⟨q, 0, none⟩) hq).trans hqc) (hx.below al (Nat.le_refl _)) (hy.below al (Nat.le_refl _))).mono ?_
  rintro e w1 ⟨ra, rc, rfl, o1, g1⟩
  obtain ⟨_, _, h4 | ⟨bb, rfl, hbb, blk⟩⟩ := OS.ofOSl o1
  · omega
  have z1 := g1.size
  have hb1 := hbb.1
  have hb2 := hbb.2
  simp only [World.size_alloc] at z1 hb1
  have M1 := (M0.below g1).alloc1 (.slice (some ⟨bb, 0, none⟩) 4 rc) 112
  have blk1 := blk.below ((Below.refl w1.heap.size w1).alloc (Nat.le_refl _) (.cells #[.slice (some ⟨bb, 0, none⟩) 4 rc] 112))
  rw [← tdK_start ys hx.1] at blk1
  have HM1 := hide M1
  have HBk := hide blk1
  have hxl := hx.1
  obtain ⟨_, hx⟩ := hx
  obtain ⟨xb, xo, rfl, hxb, hxc⟩ := hx (by omega)
  clear M0 M1 g1 al o1 blk blk1 hbb hp0 hq0
  go_wp2
  go_loopw [6] (fun i wr => ∃ k : Nat, k ≤ 4 ∧ i = .int .i64 k ∧ Blk wr bb (tdK k xs ys) ∧ Mm w wr [(w1.heap.size, 0, .slice (some ⟨bb, 0, none⟩) 4 rc), (w.heap.size, 0, .slice none 0 0)] []) (fun i _ => 4 - (intOf i).toNat)
  case atStart => exact ⟨0, Nat.zero_le _, rfl, HBk.out, HM1.out⟩
  case round =>
    obtain ⟨k, hk, rfl, blk, M2⟩ := hrel
    have hpr := (M2.bel.cell (p := ⟨p, o, none⟩) hp).trans hpc
    have v0 := M2.cell 0 rfl
    have r0 := M2.cell 1 rfl
    have rf := M2.fz 1 rfl
    by_cases hlt : k < 4
    · have ck := (M2.bel.cell (p := ⟨xb, xo + k, none⟩) hxb).trans (hxc k hlt)
      have hki : (k : Int) < 4 := by omega
      have bc := blk.2.1 k (by rw [length_tdK]; exact hlt)
      have bf := blk.2.2 k
      by_cases h0 : gt xs k = 0
      · have e0 : (gt xs k == 0) = true := by simp [h0]
        have HBs : Hid (Blk (wr.setCell ⟨bb, k, none⟩ (.int .i64 0)) bb (tdK (k + 1) xs ys)) := by show Blk _ _ _; rw [← tdK_star ys hlt h0]; exact blk_store blk (by rw [length_tdK]; exact hlt)
        have HMs := hide (M2.out (B := bb) (T := bb + 1) ((OutS.refl (InR bb (bb + 1)) wr).setCell (p := ⟨bb, k, none⟩) ⟨Nat.le_refl _, Nat.lt_succ_self _⟩ (.int .i64 0)) (by omega) (by simp <;> omega) (by simp))
        clear M2 blk
        go_wp2
        go_roundw
        case rel => exact ⟨k + 1, by omega, by go_num, HBs.out, HMs.out⟩
        case measure => simp [intOf]; omega
      · have e0 : (gt xs k == 0) = false := by simp [h0]
        have HBs : Hid (Blk wr bb (tdK (k + 1) xs ys)) := by show Blk _ _ _; rw [← tdK_same ys hlt h0]; exact blk
        have HMs := hide M2
        clear M2 blk
        go_wp2
        go_roundw
        case rel => exact ⟨k + 1, by omega, by go_num, HBs.out, HMs.out⟩
        case measure => simp [intOf]; omega
    · obtain rfl : k = 4 := by omega
      rw [tdK_end ys hxl] at blk
      have HBs := hide blk
      have HB := hide M2.bel
      have HLn : Hid ((mix td xs ys).length = 4) := (length_mix td xs ys).trans hxl
      clear M2 blk
      go_wp2
      refine bodyPost_ret (v := .agg #[.slice (some ⟨bb, 0, none⟩) 4 rc]) (by simp [results, Tryz.results105, go_sem, r0]) rfl ⟨_, _, rfl, ?_, HB.out.setCell (by simp) _⟩
      exact OS.ofBlk (HBs.out.setCell (by show w.heap.size ≠ _; omega) _) ⟨by omega, by have := HBs.out.1; simpa using this⟩ HLn.out (by omega)

theorem ARow.mk4 {w : World} {g : Nat} {f : Nat → Int} (h0 : w.cell? ⟨g, 0, none⟩ = some (.int .i64 (f 0))) (h1 : w.cell? ⟨g, 1, none⟩ = some (.int .i64 (f 1))) (h2 : w.cell? ⟨g, 2, none⟩ = some (.int .i64 (f 2))) (h3 : w.cell? ⟨g, 3, none⟩ = some (.int .i64 (f 3))) (hf : ∀ j, w.frozen? ⟨g, j, none⟩ = false) : ARow w g f :=
  ⟨fun j hj => by rcases (by omega : j = 0 ∨ j = 1 ∨ j = 2 ∨ j = 3) with rfl | rfl | rfl | rfl <;> assumption, hf⟩

theorem mix4 (f : Int → Int → Int) {xs ys : List Int} (h : xs.length = 4) : mix f xs ys = [f (gt xs 0) (gt ys 0), f (gt xs 1) (gt ys 1), f (gt xs 2) (gt ys 2), f (gt xs 3) (gt ys 3)] := by
  rw [list4 (zs := mix f xs ys) (by rw [length_mix]; exact h), gt_mix f xs ys 0 (by omega), gt_mix f xs ys 1 (by omega), gt_mix f xs ys 2 (by omega), gt_mix f xs ys 3 (by omega)]

set_option maxRecDepth 100000 in
theorem taintedLevel_calls (x y : Int) (w : World) : Calls Tryz.prog 182 #[.int .i64 x, .int .i64 y] w fun e w' => e = .returned (.int .i64 (td x y)) ∧ w' = w := by
  by_cases h : x = 0
  · have HV : Hid (td x y = 0) := if_pos h
    have e1 : (x == 0) = true := by simp [h]
    clear h
    go_enter Tryz.func182, Tryz.ntmps182
    go_wp2
    go_ret
    exact ⟨ret_int HV.out.symm, rfl⟩
  · have HV : Hid (td x y = max x y) := if_neg h
    have e1 : (x == 0) = false := by simp [h]
    clear h
    by_cases h2 : x < y
    · have HV2 : Hid (td x y = y) := by show _ = _; rw [HV.out]; omega
      go_enter Tryz.func182, Tryz.ntmps182
      go_wp2
      go_ret
      exact ⟨ret_int HV2.out.symm, rfl⟩
    · have HV2 : Hid (td x y = x) := by show _ = _; rw [HV.out]; omega
      go_enter Tryz.func182, Tryz.ntmps182
      go_wp2
      go_ret
      exact ⟨ret_int HV2.out.symm, rfl⟩

set_option maxRecDepth 100000 in
set_option maxHeartbeats 4000000 in
theorem mixed_td (xs ys : List Int) (w : World) :
    Calls Tryz.prog 180 #[.agg (ints4 xs), .agg (ints4 ys), .func (.func 182) #[] #[]] w fun e w' => e = .returned (.agg #[.int .i64 (td (gt xs 0) (gt ys 0)), .int .i64 (td (gt xs 1) (gt ys 1)), .int .i64 (td (gt xs 2) (gt ys 2)), .int .i64 (td (gt xs 3) (gt ys 3))]) ∧ Below w.heap.size w w' := by
  unfold ints4
  have M00 := (((Mm.start w).allocC [.int .i64 (gt xs 0), .int .i64 (gt xs 1), .int .i64 (gt xs 2), .int .i64 (gt xs 3)] 236).allocC [.int .i64 (gt ys 0), .int .i64 (gt ys 1), .int .i64 (gt ys 2), .int .i64 (gt ys 3)] 236).allocC [.int .i64 0, .int .i64 0, .int .i64 0, .int .i64 0] 236
  simp only [World.size_alloc] at M00
  obtain ⟨W, hW⟩ : ∃ W : World, W = ((w.alloc (.cells #[.int .i64 (gt xs 0), .int .i64 (gt xs 1), .int .i64 (gt xs 2), .int .i64 (gt xs 3)] 236)).alloc (.cells #[.int .i64 (gt ys 0), .int .i64 (gt ys 1), .int .i64 (gt ys 2), .int .i64 (gt ys 3)] 236)).alloc (.cells #[.int .i64 0, .int .i64 0, .int .i64 0, .int .i64 0] 236) := ⟨_, rfl⟩
  rw [← hW] at M00
  have zW : W.heap.size = w.heap.size + 3 := by rw [hW]; simp
  have HRow : Hid (ARow W w.heap.size (upTo (fun j => td (gt xs j) (gt ys j)) (gt xs) 0)) := ARow.mk4 ((M00.get 2 rfl).cell 0 rfl) ((M00.get 2 rfl).cell 1 rfl) ((M00.get 2 rfl).cell 2 rfl) ((M00.get 2 rfl).cell 3 rfl) (fun j => by rw [hW]; go_simp)
  have HM0 : Hid (Mm w W [] [(w.heap.size + 1 + 1, w.heap.size + 1 + 1 + 1, Cs (w.heap.size + 1 + 1) [.int .i64 0, .int .i64 0, .int .i64 0, .int .i64 0]), (w.heap.size + 1, w.heap.size + 1 + 1, Cs (w.heap.size + 1) [.int .i64 (gt ys 0), .int .i64 (gt ys 1), .int .i64 (gt ys 2), .int .i64 (gt ys 3)])]) := M00.sub (fun _ h => h) (fun _ h => by simp only [List.mem_cons, List.not_mem_nil, or_false] at h ⊢; rcases h with h | h <;> simp [h])
  have HW := hide hW
  clear M00 hW
  go_enter Tryz.func180, Tryz.ntmps180
  go_upto_region 1 with fail
  rw [← HW.out]
  clear HW
  go_wp2
  go_loopw [8] (fun i wr => ∃ k : Nat, k ≤ 4 ∧ i = .int .i64 k ∧ ARow wr w.heap.size (upTo (fun j => td (gt xs j) (gt ys j)) (gt xs) k) ∧ Mm w wr [] [(w.heap.size + 1 + 1, w.heap.size + 1 + 1 + 1, Cs (w.heap.size + 1 + 1) [.int .i64 0, .int .i64 0, .int .i64 0, .int .i64 0]), (w.heap.size + 1, w.heap.size + 1 + 1, Cs (w.heap.size + 1) [.int .i64 (gt ys 0), .int .i64 (gt ys 1), .int .i64 (gt ys 2), .int .i64 (gt ys 3)])]) (fun i _ => 4 - (intOf i).toNat)
  case atStart => exact ⟨0, Nat.zero_le _, rfl, HRow.out, HM0.out⟩
  case round =>
    clear HRow HM0
    obtain ⟨k, hk4, rfl, hrow, M⟩ := hrel
    by_cases hlt : k < 4
    · have hv : wr.cell? ⟨w.heap.size, k, none⟩ = some (.int .i64 (gt xs k)) := by rw [hrow.1 k hlt]; simp [upTo]
      have hf := hrow.2 k
      have hy : wr.cell? ⟨w.heap.size + 1, k, none⟩ = some (.int .i64 (gt ys k)) := by
        rcases (by omega : k = 0 ∨ k = 1 ∨ k = 2 ∨ k = 3) with rfl | rfl | rfl | rfl
        · exact (M.get 1 rfl).cell 0 rfl
        · exact (M.get 1 rfl).cell 1 rfl
        · exact (M.get 1 rfl).cell 2 rfl
        · exact (M.get 1 rfl).cell 3 rfl
      have k0 : (0 : Int) ≤ (k : Int) := by omega
      have k1 : (k : Int) < 4 := by omega
      have HR := hide (hrow.set (x := td (gt xs k) (gt ys k)) hlt (upTo_set (F := fun j => td (gt xs j) (gt ys j)) (f := gt xs) rfl))
      have HMs := hide (M.out (B := w.heap.size) (T := w.heap.size + 1) ((OutS.refl (InR w.heap.size (w.heap.size + 1)) wr).setCell (p := ⟨w.heap.size, k, none⟩) ⟨Nat.le_refl _, Nat.lt_succ_self _⟩ (.int .i64 (td (gt xs k) (gt ys k)))) (by omega) (by simp) (by simp <;> omega))
      clear hrow M
      go_wp2_with fail
      go_region_with (go_at_call 182; refine (taintedLevel_calls _ _ _).mono ?_; rintro e w1 ⟨rfl, rfl⟩)
      all_goals (
        go_wp2
        go_roundw
        case rel => exact ⟨k + 1, by omega, by go_num, HR.out, HMs.out.below (Below.refl _ _).drew⟩
        case measure => simp [intOf]; omega)
    · obtain rfl : k = 4 := by omega
      have hrow := hrow.keep (f' := fun j => td (gt xs j) (gt ys j)) (fun j hj => if_pos hj)
      have v0 := hrow.1 0 (by omega)
      have v1 := hrow.1 1 (by omega)
      have v2 := hrow.1 2 (by omega)
      have v3 := hrow.1 3 (by omega)
      have r0 := (M.get 0 rfl).cell 0 rfl
      have r1 := (M.get 0 rfl).cell 1 rfl
      have r2 := (M.get 0 rfl).cell 2 rfl
      have r3 := (M.get 0 rfl).cell 3 rfl
      have f0 := (M.get 0 rfl).fz 0 (by simp)
      have f1 := (M.get 0 rfl).fz 1 (by simp)
      have f2 := (M.get 0 rfl).fz 2 (by simp)
      have f3 := (M.get 0 rfl).fz 3 (by simp)
      have HB := hide M.bel
      clear hrow M
      go_wp2
      have n0 := set4_at0 _ _ (.int .i64 (td (gt xs 0) (gt ys 0))) (.int .i64 (td (gt xs 1) (gt ys 1))) (.int .i64 (td (gt xs 2) (gt ys 2))) (.int .i64 (td (gt xs 3) (gt ys 3))) ⟨_, r0⟩
      have n1 := set4_at1 _ _ (.int .i64 (td (gt xs 0) (gt ys 0))) (.int .i64 (td (gt xs 1) (gt ys 1))) (.int .i64 (td (gt xs 2) (gt ys 2))) (.int .i64 (td (gt xs 3) (gt ys 3))) ⟨_, r1⟩
      have n2 := set4_at2 _ _ (.int .i64 (td (gt xs 0) (gt ys 0))) (.int .i64 (td (gt xs 1) (gt ys 1))) (.int .i64 (td (gt xs 2) (gt ys 2))) (.int .i64 (td (gt xs 3) (gt ys 3))) ⟨_, r2⟩
      have n3 := set4_at3 _ _ (.int .i64 (td (gt xs 0) (gt ys 0))) (.int .i64 (td (gt xs 1) (gt ys 1))) (.int .i64 (td (gt xs 2) (gt ys 2))) (.int .i64 (td (gt xs 3) (gt ys 3))) ⟨_, r3⟩
      refine bodyPost_ret (v := .agg #[.int .i64 (td (gt xs 0) (gt ys 0)), .int .i64 (td (gt xs 1) (gt ys 1)), .int .i64 (td (gt xs 2) (gt ys 2)), .int .i64 (td (gt xs 3) (gt ys 3))]) (by simp [results, Tryz.results180, go_sem, n0, n1, n2, n3]) rfl ⟨rfl, ?_⟩
      exact (((HB.out.setCell (by simp; omega) _).setCell (by simp; omega) _).setCell (by simp; omega) _).setCell (by simp; omega) _

set_option maxRecDepth 100000 in
set_option maxHeartbeats 4000000 in
theorem taintedBy_calls (a b : Option Addr) (ca cb : Nat) (xs ys : List Int) (w : World) (hx : Sl w a 4 xs) (hy : Sl w b 4 ys) (_ : fault xs = 0) (_ : fault ys = 0) :
    Calls Tryz.prog 155 #[.agg #[.slice a 4 ca], .agg #[.slice b 4 cb]] w fun e w' => ∃ bb, e = .returned (.agg #[.slice (some ⟨bb, 0, none⟩) 4 4]) ∧ (w.heap.size ≤ bb ∧ Blk w' bb (mix td xs ys)) ∧ Below w.heap.size w w' := by
  have M0 := (((Mm.start w).allocC [.slice a 4 ca] 112).allocC [.slice b 4 cb] 112).allocC [.slice none 0 0] 112
  simp only [World.size_alloc] at M0
  have HX := hide (hx.below M0.bel (Nat.le_refl _))
  have HY := hide (hy.below M0.bel (Nat.le_refl _))
  have hxl := hx.1
  have HM4 := hide (mix4 td (ys := ys) hxl)
  have HM := hide M0
  obtain ⟨u, hu⟩ : ∃ u, u = ((w.alloc (.cells #[.slice a 4 ca] 112)).alloc (.cells #[.slice b 4 cb] 112)).alloc (.cells #[.slice none 0 0] 112) := ⟨_, rfl⟩
  rw [← hu] at HX HY HM
  have zu : u.heap.size = w.heap.size + 3 := by rw [hu]; simp
  have HU := hide hu
  have c0 : u.cell? ⟨w.heap.size, 0, none⟩ = some (.slice a 4 ca) := (HM.out.get 2 rfl).cell 0 rfl
  have c1 : u.cell? ⟨w.heap.size + 1, 0, none⟩ = some (.slice b 4 cb) := (HM.out.get 1 rfl).cell 0 rfl
  have hb : Below u.heap.size u u.drew := (Below.refl _ _).drew
  clear hx hy hu M0
  go_enter Tryz.func155, Tryz.ntmps155
  go_upto_region 1 with fail
  rw [← HU.out]
  clear HU
  go_region_with (first
    | (go_at_call_of 181 (Value.slice a 4 ca); refine (levelsOf_calls a ca xs _ (HX.out.below hb (Nat.le_refl _))).mono ?_; rintro e ua ⟨rfl, ga⟩; replace hb := hb.trans (ga.mono hb.size); have N := HM.out.below hb; have k0 := (N.get 2 rfl).cell 0 rfl; have k1 := (N.get 1 rfl).cell 0 rfl; clear N; clear ga)
    | (go_at_call_of 181 (Value.slice b 4 cb); refine (levelsOf_calls b cb ys _ (HY.out.below hb (Nat.le_refl _))).mono ?_; rintro e ub ⟨rfl, ga⟩; replace hb := hb.trans (ga.mono hb.size); have N := HM.out.below hb; have k0 := (N.get 2 rfl).cell 0 rfl; have k1 := (N.get 1 rfl).cell 0 rfl; clear N; clear ga)
    | (go_at_call 180; refine (mixed_td xs ys _).mono ?_; rintro e uc ⟨rfl, ga⟩; replace hb := hb.trans (ga.mono hb.size); clear ga)
    | (go_at_call 179; refine (labelOf_calls _ _ _ _ _).mono ?_; rintro e ud ⟨b4, rfl, hl4, blk4, ga⟩; have hz4 := hb.size; replace hb := hb.trans (ga.mono hb.size); have hz5 := ga.size; have lb4 := blk4.1; have M4 := HM.out.below hb; have r0 := (M4.get 0 rfl).cell 0 rfl; have f0 := (M4.get 0 rfl).fz 0 (by simp); have HB := hide M4.bel; clear M4; clear ga))
  all_goals (
    have HK : Hid (Blk ud b4 (mix td xs ys)) := by show Blk _ _ _; rw [HM4.out]; exact blk4
    have HBx := hide HB.out
    clear blk4 hb
    go_wp2
    refine bodyPost_ret (v := .agg #[.slice (some ⟨b4, 0, none⟩) 4 4]) (by simp [results, Tryz.results155, go_sem, r0]) rfl ⟨b4, rfl, ⟨by omega, ?_⟩, HB.out.setCell (by simp <;> omega) _⟩
    exact HK.out.setCell (p := ⟨w.heap.size + 1 + 1, 0, none⟩) (by show w.heap.size + 1 + 1 ≠ _; omega) (.slice (some ⟨b4, 0, none⟩) 4 4))

/-- what 'relabelDomain' answers. -/
def RL (P M nn : Nat) (ss : List (Int × List Int)) (q : Nat) (zs : List Int) (S : Nat → Prop) (ya : Option Addr) (dn j : Nat) (ds : List Int) (w : World) (e : Ending) (w' : World) : Prop :=
  e = .returned (.tuple #[.int .i64 (etV (leaveS ss q) zs), .int .i64 (etC (leaveS ss q) zs)]) ∧ OutS (fun k => (k = M ∨ k = P) ∨ S k) w w' ∧ KP P w w' ∧
    (etC (leaveS ss q) zs = 0 → OS S ya dn (ds.set j (enQ (leaveS ss q) zs : Int)) w' ∧ ∃ D', Bk w' P M ((enS (leaveS ss q) zs).length : Int) (nn + 1 + 1) D' ∧ Rep (enS (leaveS ss q) zs) D')

set_option maxRecDepth 100000 in
set_option maxHeartbeats 4000000 in
theorem relabelDomain_calls (P M nn j q : Nat) (ss : List (Int × List Int)) (zs : List Int) (D : DataW Unit) (S : Nat → Prop) (ya : Option Addr) (dn yc : Nat) (ds : List Int) (bb cb : Nat) (w : World) (hb : Bk w P M (ss.length : Int) nn D) (hn : nn ≤ 90) (good : Good ss) (rep : Rep ss D) (hz : fault zs = 0) (c3 : w.cell? ⟨P, 3, none⟩ = some (.slice ya dn yc)) (hrow : OS S ya dn ds w) (hSM : ¬ S M) (hSP : ¬ S P) (hbM : bb ≠ M) (hy : Blk w bb zs) (hj : j < dn) (hq : gt ds j = (q : Int)) (hql : q < ss.length) (hqp : 0 < gc ss q) (hat : atC ss (q : Int) = 0) :
    Calls Tryz.prog 154 #[.pointer (some ⟨P, 0, none⟩), .int .i64 (j : Int), .agg #[.slice (some ⟨bb, 0, none⟩) 4 cb]] w (RL P M nn ss q zs S ya dn j ds w) := by
  have al := (Below.refl w.heap.size w).alloc (Nat.le_refl _) (.cells #[.slice (some ⟨bb, 0, none⟩) 4 cb] 112)
  have M0 := (Mm.start w).alloc1 (.slice (some ⟨bb, 0, none⟩) 4 cb) 112
  have hP0 := hb.lt
  have hM0 := hb.own.lt
  obtain ⟨hdl, hd1, h0 | ⟨g, rfl, hSg, blk⟩⟩ := hrow
  · omega
  have hPg : P ≠ g := fun e => hSP (e ▸ hSg)
  have hMg : M ≠ g := fun e => hSM (e ▸ hSg)
  have blk0 := blk.below al
  have cj := blk0.2.1 j (by omega)
  rw [hq] at cj
  have c30 := (al.cell (p := ⟨P, 3, none⟩) hP0).trans c3
  have hb0 := hb.below al
  have hy0 := hy.below al
  have hzl := fault_len hz
  have gl2 := good_leave good hql hqp
  have i0 : (0 : Int) ≤ (j : Int) := by omega
  have i1 : (j : Int) < (dn : Int) := by omega
  have HB0 := hide hb0
  have HG := hide good
  have HRp := hide rep
  have HY0 := hide hy0
  have HBlk := hide blk0
  have HM0 := hide M0
  have HAl := hide al
  clear hb0 good rep hy0 blk0 M0 al hb blk hy
  go_enter Tryz.func154, Tryz.ntmps154
  go_wp2_with fail
  go_region_with (first
    | (go_at_call 176; refine (leave_calls P M nn (q : Int) ss D _ (HB0.out.below (Below.refl _ _).drew) (by omega) HG.out HRp.out).mono ?_; rintro e w1 ⟨rfl, u1, hfin⟩))
  all_goals (
    obtain ⟨D1, hb1, hrep1⟩ := hfin hat
    have hqn : ((q : Int)).toNat = q := by omega
    rw [hqn] at hrep1
    have v1 : OutS (fun k => k = M) (w.alloc (.cells #[.slice (some ⟨bb, 0, none⟩) 4 cb] 112)) w1 := (OutS.of_below ((Below.refl _ _).drew)).trans u1
    have z1 := v1.size
    simp only [World.size_alloc] at z1
    have hPM : P ≠ M := hb1.ne.symm
    have blk1 : Blk w1 g ds := (Blk.loc (S := fun k => k = g) rfl) _ _ (fun k hk hl => v1.block k hl (fun e => hMg (e.symm.trans hk))) HBlk.out
    have y1 : Blk w1 bb zs := (Blk.loc (S := fun k => k = bb) rfl) _ _ (fun k hk hl => v1.block k hl (fun e => hbM (hk.symm.trans e))) HY0.out
    have hs1 := y1.sl
    rw [hzl] at hs1
    have c31 := (World.cell?_of_block (a := ⟨P, 3, none⟩) (v1.block P (by simp; omega) hPM)).trans c30
    have lc1 := (World.cell?_of_block (a := ⟨w.heap.size, 0, none⟩) (v1.block w.heap.size (by simp) (by omega))).trans (HM0.out.cell 0 rfl)
    have HK1 : Hid (KP P w w1) := (KP.of_block (HAl.out.block P hP0)).trans (KP.of_block (v1.block P (by simp; omega) hPM))
    have HO1 : Hid (OutS (fun k => (k = M ∨ k = P) ∨ S k) w w1) := (OutS.of_below HAl.out).trans (v1.mono (fun k h => .inl (.inl h)))
    have HB1 := hide hb1
    rw [← length_leaveS ss q] at hb1
    have HB1' := hide hb1
    have HRp1 := hide hrep1
    have HS1 := hide hs1
    have HBk1 := hide blk1
    clear u1 hfin v1 hb1 hrep1 HB0 HBlk HY0 HM0 HAl HRp blk1 y1 hs1
    go_wp2_with fail
    go_region_with (first
      | (go_at_call 178; refine (markOf_calls (some ⟨bb, 0, none⟩) cb zs _ ?_).mono ?_; exact HS1.out.below (Below.refl _ _).drew (Nat.le_refl _); rintro e w2 ⟨rfl, g2⟩; have k2 := (Below.refl w1.heap.size w1).drew.trans g2; clear g2)
      | (go_at_call 177; refine (enter_calls P M (nn + 1) (leaveS ss q) zs D1 _ (HB1'.out.below k2) (by omega) gl2 HRp1.out hz).mono ?_; rintro e w3 ⟨rfl, u3, hfin3⟩))
    all_goals (
      have z2 := k2.size
      have hP1 := HB1.out.lt
      have blk3 : Blk w3 g ds := (Blk.loc (S := fun k => k = g) rfl) _ _ (fun k hk hl => u3.1.block k hl (fun e => by rcases e with e | e; exact hMg (e.symm.trans hk); exact hPg (e.symm.trans hk))) (HBk1.out.below k2)
      have HK3 : Hid (KP P w w3) := (HK1.out.trans (KP.of_block (k2.block P hP1))).trans u3.2
      have HO3 : Hid (OutS (fun k => (k = M ∨ k = P) ∨ S k) w w3) := (HO1.out.trans (OutS.of_below k2)).trans (u3.1.mono (fun k h => .inl h))
      have c33 := ((HK3.out 3).1 (by omega)).trans c3
      have cj3 := blk3.2.1 j (by omega)
      have fj3 := blk3.2.2 j
      have HBk3 := hide blk3
      clear u3 k2 HB1 HB1' HRp1 HS1 HBk1 HO1 HK1 blk3
      by_cases ht : etC (leaveS ss q) zs = 0
      · obtain ⟨D', hb3, hrep3⟩ := hfin3 ht
        have et : (etC (leaveS ss q) zs != 0) = false := by simp [ht]
        have HEV : Hid (etV (leaveS ss q) zs = (enQ (leaveS ss q) zs : Int)) := if_pos ht
        have Ht := hide ht
        have HB3 := hide (hb3.keepG (row := some g) (setC1_grown w3 g j (.int .i64 (enQ (leaveS ss q) zs : Int))) (fun e => hPg (by injection e)) (fun e => hMg (by injection e)))
        have HRep := hide hrep3
        have HO4 := hide (HO3.out.setCell (p := ⟨g, j, none⟩) (.inr hSg) (.int .i64 (enQ (leaveS ss q) zs : Int)))
        have HK4 := hide (HK3.out.trans (KP.of_block (Below.heap_setCell w3 ⟨g, j, none⟩ (.int .i64 (enQ (leaveS ss q) zs : Int)) P (fun e => hPg e))))
        have HOS : Hid (OS S (some ⟨g, 0, none⟩) dn (ds.set j (enQ (leaveS ss q) zs : Int)) (w3.setCell ⟨g, j, none⟩ (.int .i64 (enQ (leaveS ss q) zs : Int)))) := OS.ofBlk (blk_store HBk3.out (by omega)) hSg (by simpa using hdl) hd1
        rw [HEV.out]
        clear hfin3 ht hb3 hrep3
        go_wp2
        refine bodyPost_ret (v := .tuple #[.int .i64 (enQ (leaveS ss q) zs : Int), .int .i64 0]) (by simp [results, Tryz.results154, go_sem]) rfl ⟨by rw [HEV.out, Ht.out], HO4.out, HK4.out, fun _ => ⟨HOS.out, D', HB3.out, HRep.out⟩⟩
      · have et : (etC (leaveS ss q) zs != 0) = true := by simp [ht]
        have HEV : Hid (etV (leaveS ss q) zs = 0) := if_neg ht
        have Ht := hide ht
        clear hfin3 ht
        go_wp2
        refine bodyPost_ret (v := .tuple #[.int .i64 0, .int .i64 (etC (leaveS ss q) zs)]) (by simp [results, Tryz.results154, go_sem]) rfl ⟨by rw [HEV.out], HO3.out, HK3.out, fun h => absurd h Ht.out⟩))

set_option maxRecDepth 100000 in
set_option maxHeartbeats 2000000 in
theorem tables_calls (P M nn : Nat) (ss : List (Int × List Int)) (D : DataW Unit) (xa : Option Addr) (xn xc : Nat) (ya : Option Addr) (yn yc : Nat) (w : World) (hb : Bk w P M (ss.length : Int) nn D) (good : Good ss) (rep : Rep ss D) (c2 : w.cell? ⟨P, 2, none⟩ = some (.slice xa xn xc)) (c3 : w.cell? ⟨P, 3, none⟩ = some (.slice ya yn yc)) :
    Calls Tryz.prog 156 #[.pointer (some ⟨P, 0, none⟩)] w fun e w' => ∃ b, e = .returned (.agg #[.slice (some ⟨b, 0, none⟩) ss.length ss.length, .slice xa xn xc, .slice ya yn yc]) ∧ OR (InR w.heap.size w'.heap.size) (some ⟨b, 0, none⟩) ss.length ss w' ∧ Below w.heap.size w w' := by
  have hP := hb.lt
  have al := (Below.refl w.heap.size w).alloc (Nat.le_refl _) (.cells #[.slice none 0 0, .slice none 0 0, .slice none 0 0] 43)
  have M0 := (Mm.start w).alloc3 (.slice none 0 0) (.slice none 0 0) (.slice none 0 0) 43
  have hb0 := hb.below al
  have d2 := (al.cell (p := ⟨P, 2, none⟩) hP).trans c2
  have d3 := (al.cell (p := ⟨P, 3, none⟩) hP).trans c3
  have HM := hide M0
  have HBk := hide hb0
  clear al M0 hb0
  go_enter Tryz.func156, Tryz.ntmps156
  go_wp2_with fail
  go_region_with (first
    | (go_at_call 183; refine (registry_calls P M nn ss D _ ?_ good rep).mono ?_; exact HBk.out.below (Below.refl _ _).drew; rintro e w1 ⟨b, rfl, o1, g1⟩; have M1 := HM.out.drew.below g1; have z1 := g1.size; have hX : Below (w.alloc (.cells #[.slice none 0 0, .slice none 0 0, .slice none 0 0] 43)).heap.size (w.alloc (.cells #[.slice none 0 0, .slice none 0 0, .slice none 0 0] 43)) w1 := ((Below.refl _ _).drew).trans g1; have e2 := (hX.cell (p := ⟨P, 2, none⟩) (by simp; omega)).trans d2; have e3 := (hX.cell (p := ⟨P, 3, none⟩) (by simp; omega)).trans d3; clear g1 hX; have r0 := M1.cell 0 rfl; have r1 := M1.cell 1 rfl; have r2 := M1.cell 2 rfl; have t0 := M1.fz 0 rfl; have t1 := M1.fz 1 rfl; have t2 := M1.fz 2 rfl))
  all_goals (
    have HB := hide M1.bel
    have HO := hide o1
    clear M1 o1
    go_wp2
    refine bodyPost_ret (v := .agg #[.slice (some ⟨b, 0, none⟩) ss.length ss.length, .slice xa xn xc, .slice ya yn yc]) (by simp [results, Tryz.results156, go_sem, r0, r1, r2]) rfl ⟨b, rfl, ?_, ((HB.out.setCell (by simp) _).setCell (by simp) _).setCell (by simp) _⟩
    exact (OR.set3 HO.out (fun e => by have h1 := e.1; simp only [World.size_drew, World.size_alloc] at h1; omega) _ _ _).mono (fun k hk => ⟨by have h1 := hk.1; simp only [World.size_drew, World.size_alloc] at h1; omega, by have := hk.2; simp; omega⟩))

theorem fault_mix {f : Int → Int → Int} {xs ys : List Int} (hf : ∀ x y, f x y = x ∨ f x y = y) (hx : fault xs = 0) (hy : fault ys = 0) : fault (mix f xs ys) = 0 := by
  have lx := fault_len hx
  have ly := fault_len hy
  apply fault_ok
  · rw [length_mix]; exact lx
  · rw [List.all_eq_true]
    intro z hz
    obtain ⟨j, hj, rfl⟩ := List.getElem_of_mem hz
    have hj' : j < xs.length := by rw [length_mix] at hj; exact hj
    have e : (mix f xs ys)[j] = gt (mix f xs ys) j := by simp [gt, hj]
    have h1 := fault_all hx j hj'
    have h2 := fault_all hy j (by omega)
    rw [e, gt_mix f xs ys j hj']
    unfold okI
    rcases hf (gt xs j) (gt ys j) with h | h
    · rw [h]; simp; omega
    · rw [h]; simp; omega

theorem max_or (x y : Int) : max x y = x ∨ max x y = y := by
  rcases Int.le_total x y with h | h
  · exact .inr (Int.max_eq_right h)
  · exact .inl (Int.max_eq_left h)

theorem td_or (x y : Int) : td x y = x ∨ td x y = y := by
  unfold td
  split
  · rename_i h; exact .inl h.symm
  · exact max_or x y

def txQ (ds : List Int) (x : Int) : Nat := (gt ds x.toNat).toNat

def txZ (ss : List (Int × List Int)) (ds : List Int) (x : Int) (zs : List Int) : List Int := mix td (gl ss (txQ ds x)) zs

def txC (ss : List (Int × List Int)) (ts ds : List Int) (x : Int) (zs : List Int) : Int := if tabF ss ts ds = 0 then (if inC ds x = 0 then (if fault zs = 0 then (if thing0 zs = true then etC (leaveS ss (txQ ds x)) (txZ ss ds x zs) else 1) else fault zs) else inC ds x) else tabF ss ts ds

def txV (ss : List (Int × List Int)) (ts ds : List Int) (x : Int) (zs : List Int) : Int := if txC ss ts ds x zs = 0 then (enQ (leaveS ss (txQ ds x)) (txZ ss ds x zs) : Int) else 0

def txS (ss : List (Int × List Int)) (ts ds : List Int) (x : Int) (zs : List Int) : List (Int × List Int) := if txC ss ts ds x zs = 0 then enS (leaveS ss (txQ ds x)) (txZ ss ds x zs) else []

def txT (ss : List (Int × List Int)) (ts ds : List Int) (x : Int) (zs : List Int) : List Int := if txC ss ts ds x zs = 0 then ts else []

def txD (ss : List (Int × List Int)) (ts ds : List Int) (x : Int) (zs : List Int) : List Int := if txC ss ts ds x zs = 0 then ds.set x.toNat (enQ (leaveS ss (txQ ds x)) (txZ ss ds x zs) : Int) else []

theorem inC_zero {l : List Int} {i : Int} (h : inC l i = 0) : 0 ≤ i ∧ i < (l.length : Int) := by
  unfold inC at h
  split at h
  · assumption
  · cases h

set_option maxRecDepth 100000 in
set_option maxHeartbeats 4000000 in
theorem implTaintDomain_calls (a : Option Addr) (n c : Nat) (ss : List (Int × List Int)) (ta : Option Addr) (tn tc : Nat) (ts : List Int) (da : Option Addr) (dn dc : Nat) (ds : List Int) (x : Int) (b : Option Addr) (lb cb : Nat) (zs : List Int) (w : World) (hrt : RT w a n ss ta tn ts da dn ds) (hlb : lb ≤ maxLen) (hy : Sl w b lb zs) :
    Calls Tryz.prog 122 #[.agg #[.slice a n c, .slice ta tn tc, .slice da dn dc], .int .i64 x, .agg #[.slice b lb cb]] w fun e w' => ∃ ra rn rc xa xn xc ya yn yc, e = .returned (.agg #[.int .i64 (txC ss ts ds x zs), .int .i64 (txV ss ts ds x zs), .slice ra rn rc, .slice xa xn xc, .slice ya yn yc]) ∧
      OT (InR w.heap.size w'.heap.size) ra rn (txS ss ts ds x zs) xa xn (txT ss ts ds x zs) ya yn (txD ss ts ds x zs) w' ∧ Below w.heap.size w w' := by
  have M0 := (((Mm.start w).alloc3 (.slice a n c) (.slice ta tn tc) (.slice da dn dc) 43).alloc1 (.slice b lb cb) 112).alloc5 (.int .i64 0) (.int .i64 0) (.slice none 0 0) (.slice none 0 0) (.slice none 0 0) 192
  simp only [World.size_alloc] at M0
  have hrt0 := hrt.below M0.bel (Nat.le_refl _)
  have hy0 := hy.below M0.bel (Nat.le_refl _)
  go_enter Tryz.func122, Tryz.ntmps122
  go_wp2_with fail
  refine (openTables_R a n c ss ta tn tc ts da dn dc ds _ hrt0).mono ?_
  rintro e w1 ⟨sz, mo, xa, xn, xc, ya, yn, yc, rfl, g1, hled⟩
  have M1a := M0.below g1
  have zR := M1a.lt 0 rfl
  have M1 := (M0.below g1).alloc4 (.int .i64 sz) (.map mo) (.slice xa xn xc) (.slice ya yn yc) 176
  have z1 := g1.size
  simp only [World.size_alloc] at z1
  by_cases hf : tabF ss ts ds = 0
  rotate_left
  · have HC : Hid (txC ss ts ds x zs = tabF ss ts ds) := if_neg hf
    have e2 : (tabF ss ts ds != 0) = true := by simpa using hf
    have hf' : txC ss ts ds x zs ≠ 0 := by rw [HC.out]; exact hf
    have HV : Hid (txV ss ts ds x zs = 0) := if_neg hf'
    have HS : Hid (txS ss ts ds x zs = []) := if_neg hf'
    have HT : Hid (txT ss ts ds x zs = []) := if_neg hf'
    have HD : Hid (txD ss ts ds x zs = []) := if_neg hf'
    have c0 := M1a.cell 0 rfl
    have c1 := M1a.cell 1 rfl
    have c2 := M1a.cell 2 rfl
    have c3 := M1a.cell 3 rfl
    have c4 := M1a.cell 4 rfl
    have f0 := M1a.fz 0 rfl
    have f1 := M1a.fz 1 rfl
    have f2 := M1a.fz 2 rfl
    have f3 := M1a.fz 3 rfl
    have f4 := M1a.fz 4 rfl
    have HB := hide M1a.bel
    clear hf hf' M0 M1 M1a g1 hrt0 hy0 hled
    go_wp2
    refine bodyPost_ret (v := .agg #[.int .i64 (tabF ss ts ds), .int .i64 0, .slice none 0 0, .slice none 0 0, .slice none 0 0]) (by simp [results, Tryz.results122, go_sem, c0, c1, c2, c3, c4, zR]) rfl ⟨_, _, _, _, _, _, _, _, _, by rw [HC.out, HV.out], ?_, (below_set5 HB.out (by omega) _ _ _ _ _).alloc (by simp; omega) _⟩
    rw [HS.out, HT.out, HD.out]
    exact OT.nil _ _ _ _ _
  have HC1 : Hid (txC ss ts ds x zs = if inC ds x = 0 then (if fault zs = 0 then (if thing0 zs = true then etC (leaveS ss (txQ ds x)) (txZ ss ds x zs) else 1) else fault zs) else inC ds x) := if_pos hf
  obtain ⟨rfl, _, M, X1, X2, X3, rfl, l1, l2, l3, l4, l5, own, ox, oy⟩ := hled hf
  simp only [World.size_alloc] at l1
  obtain ⟨hr, hmy, hA1, hA2, _⟩ := tabF_zero hf
  have hml := many_len hmy
  have good := good_of hr
  have few := good.few
  have hyn1 : ds.length ≤ yn := Nat.le_of_eq oy.1.1
  have hyn2 : yn ≤ ds.length := Nat.le_of_eq oy.1.1.symm
  have al := (Below.refl w1.heap.size w1).alloc (Nat.le_refl _) (.cells #[.int .i64 (ss.length : Int), .map (some M), .slice xa xn xc, .slice ya yn yc] 176)
  have hbk : Bk (w1.alloc (.cells #[.int .i64 (ss.length : Int), .map (some M), .slice xa xn xc, .slice ya yn yc] 176)) w1.heap.size M (ss.length : Int) ss.length (bk ss ss.length) := ⟨by simp, by simp, by simp, fun j => by simp, ownsMap_below own al (Nat.le_refl _)⟩
  have hM1 := own.lt
  have ox1 := OS.loc.below al ox.1
  have oy1 := OS.loc.below al oy.1
  have hy1 := (hy0.below g1 (Nat.le_refl _)).below al (Nat.le_refl _)
  have p3 := M1.cell 3 rfl
  rw [hf]
  clear M0 M1a g1 hrt0 hy0 hled own ox oy al hf zR
  go_wp2_with fail
  refine (domainLabel_calls w1.heap.size M ss.length ss _ ya yn yc ds x _ hbk good (rep_bk hr) p3 oy1.sl (by omega) hA2).mono ?_
  rintro e w2 ⟨ra, rn, rc, rfl, o2, g2⟩
  have M2a := M1.below g2
  have zR := M2a.lt 4 rfl
  have z2 := g2.size
  simp only [World.size_alloc] at z2 o2
  by_cases hi : inC ds x = 0
  rotate_left
  · have HC : Hid (txC ss ts ds x zs = inC ds x) := by show _ = _; rw [HC1.out, if_neg hi]
    have e2 : (inC ds x != 0) = true := by simpa using hi
    have hf' : txC ss ts ds x zs ≠ 0 := by rw [HC.out]; exact hi
    have HV : Hid (txV ss ts ds x zs = 0) := if_neg hf'
    have HS : Hid (txS ss ts ds x zs = []) := if_neg hf'
    have HT : Hid (txT ss ts ds x zs = []) := if_neg hf'
    have HD : Hid (txD ss ts ds x zs = []) := if_neg hf'
    have c0 := M2a.cell 4 rfl
    have c1 := M2a.cell 5 rfl
    have c2 := M2a.cell 6 rfl
    have c3 := M2a.cell 7 rfl
    have c4 := M2a.cell 8 rfl
    have f0 := M2a.fz 4 rfl
    have f1 := M2a.fz 5 rfl
    have f2 := M2a.fz 6 rfl
    have f3 := M2a.fz 7 rfl
    have f4 := M2a.fz 8 rfl
    have HB := hide M2a.bel
    clear hi hf' M1 M2a g2 o2 hbk ox1 oy1 hy1 p3 HC1 hr
    go_wp2
    refine bodyPost_ret (v := .agg #[.int .i64 (inC ds x), .int .i64 0, .slice none 0 0, .slice none 0 0, .slice none 0 0]) (by simp [results, Tryz.results122, go_sem, c0, c1, c2, c3, c4, zR]) rfl ⟨_, _, _, _, _, _, _, _, _, by rw [HC.out, HV.out], ?_, (below_set5 HB.out (by omega) _ _ _ _ _).alloc (by simp; omega) _⟩
    rw [HS.out, HT.out, HD.out]
    exact OT.nil _ _ _ _ _
  have hin := inC_zero hi
  obtain ⟨j, rfl⟩ : ∃ j : Nat, x = (j : Int) := ⟨x.toNat, by omega⟩
  have hjl : j < ds.length := by omega
  have hat := atC_all hA2 hjl
  obtain ⟨q, hq, hql, hqp, hqL, _⟩ := atC_zero good hat
  have hQ : txQ ds (j : Int) = q := by unfold txQ; rw [Int.toNat_natCast, hq, Int.toNat_natCast]
  have HQ := hide hQ
  have HZ : Hid (txZ ss ds (j : Int) zs = mix td (gl ss q) zs) := by show _ = _; unfold txZ; rw [hQ]
  rw [inL_yes hjl, hqL] at o2
  have fo := good.right q hql hqp
  obtain rfl : rn = 4 := by have := o2.1; have := fault_len fo; omega
  have Hq := hide hq
  rw [hq] at hat
  have Hat := hide hat
  have Hr := hide hr
  have HC2 : Hid (txC ss ts ds (j : Int) zs = if fault zs = 0 then (if thing0 zs = true then etC (leaveS ss q) (mix td (gl ss q) zs) else 1) else fault zs) := by show _ = _; rw [HC1.out, if_pos hi, HZ.out, hQ]
  rw [hi]
  have M2 := M2a.alloc2 (.int .i64 0) (.slice ra 4 rc) 188
  have al2 := (Below.refl w2.heap.size w2).alloc (Nat.le_refl _) (.cells #[.int .i64 0, .slice ra 4 rc] 188)
  have hb2 := (hbk.below g2).below al2
  have ox2 := OS.loc.below al2 (OS.loc.below g2 ox1)
  have oy2 := OS.loc.below al2 (OS.loc.below g2 oy1)
  have ow2 := OS.loc.below al2 o2
  have hy2 := (hy1.below g2 (Nat.le_refl _)).below al2 (Nat.le_refl _)
  have lc2 := M2.cell 11 rfl
  clear M1 M2a g2 o2 hbk ox1 oy1 hy1 p3 HC1 hr hq hat hQ hqL al2 zR
  go_wp2_with fail
  refine (implLabelFault_calls b lb cb zs _ hlb hy2).mono ?_
  rintro e w3 ⟨rfl, g3⟩
  have M3 := M2.below g3
  have z3 := g3.size
  simp only [World.size_alloc] at z3
  by_cases hz : fault zs = 0
  rotate_left
  · have HC : Hid (txC ss ts ds (j : Int) zs = fault zs) := by show _ = _; rw [HC2.out, if_neg hz]
    have e2 : (fault zs != 0) = true := by simpa using hz
    have hf' : txC ss ts ds (j : Int) zs ≠ 0 := by rw [HC.out]; exact hz
    have HV : Hid (txV ss ts ds (j : Int) zs = 0) := if_neg hf'
    have HS : Hid (txS ss ts ds (j : Int) zs = []) := if_neg hf'
    have HT : Hid (txT ss ts ds (j : Int) zs = []) := if_neg hf'
    have HD : Hid (txD ss ts ds (j : Int) zs = []) := if_neg hf'
    have c0 := M3.cell 6 rfl
    have c1 := M3.cell 7 rfl
    have c2 := M3.cell 8 rfl
    have c3 := M3.cell 9 rfl
    have c4 := M3.cell 10 rfl
    have f0 := M3.fz 6 rfl
    have f1 := M3.fz 7 rfl
    have f2 := M3.fz 8 rfl
    have f3 := M3.fz 9 rfl
    have f4 := M3.fz 10 rfl
    have HB := hide M3.bel
    clear hi hz hf' M2 M3 g3 hb2 ox2 oy2 ow2 hy2 lc2 HC2
    go_wp2
    refine bodyPost_ret (v := .agg #[.int .i64 (fault zs), .int .i64 0, .slice none 0 0, .slice none 0 0, .slice none 0 0]) (by simp [results, Tryz.results122, go_sem, c0, c1, c2, c3, c4]) rfl ⟨_, _, _, _, _, _, _, _, _, by rw [HC.out, HV.out], ?_, below_set5 HB.out (by omega) _ _ _ _ _⟩
    rw [HS.out, HT.out, HD.out]
    exact OT.nil _ _ _ _ _
  obtain rfl : lb = 4 := by have := fault_len hz; have := hy.1; omega
  rw [hz]
  have M4 := M3.alloc1 (.slice b 4 cb) 112
  have al4 := (Below.refl w3.heap.size w3).alloc (Nat.le_refl _) (.cells #[.slice b 4 cb] 112)
  have hb4 := (hb2.below g3).below al4
  have ox4 := OS.loc.below al4 (OS.loc.below g3 ox2)
  have oy4 := OS.loc.below al4 (OS.loc.below g3 oy2)
  have ow4 := OS.loc.below al4 (OS.loc.below g3 ow2)
  have hy4 := (hy2.below g3 (Nat.le_refl _)).below al4 (Nat.le_refl _)
  have lc3 := M3.cell 11 rfl
  have lc4 := M4.cell 0 rfl
  clear M2 M3 g3 hb2 ox2 oy2 ow2 hy2 lc2 al4
  go_wp2_with fail
  refine (areThings_calls (some ⟨w3.heap.size, 0, none⟩) 1 1 [zs] _ (by omega) (lbs_one lc4 hlb hy4)).mono ?_
  rintro e w4 ⟨rfl, g4⟩
  rw [things_one hz]
  have M5 := M4.below g4
  have z4 := g4.size
  simp only [World.size_alloc] at z4
  by_cases ht : thing0 zs = true
  rotate_left
  · have htf : thing0 zs = false := by simpa using ht
    have HC : Hid (txC ss ts ds (j : Int) zs = 1) := by show _ = _; rw [HC2.out, if_pos hz, if_neg ht]
    rw [htf]
    have hf' : txC ss ts ds (j : Int) zs ≠ 0 := by rw [HC.out]; decide
    have HV : Hid (txV ss ts ds (j : Int) zs = 0) := if_neg hf'
    have HS : Hid (txS ss ts ds (j : Int) zs = []) := if_neg hf'
    have HT : Hid (txT ss ts ds (j : Int) zs = []) := if_neg hf'
    have HD : Hid (txD ss ts ds (j : Int) zs = []) := if_neg hf'
    have c0 := M5.cell 7 rfl
    have c1 := M5.cell 8 rfl
    have c2 := M5.cell 9 rfl
    have c3 := M5.cell 10 rfl
    have c4 := M5.cell 11 rfl
    have f0 := M5.fz 7 rfl
    have f1 := M5.fz 8 rfl
    have f2 := M5.fz 9 rfl
    have f3 := M5.fz 10 rfl
    have f4 := M5.fz 11 rfl
    have HB := hide M5.bel
    clear hi hz ht htf hf' M4 M5 g4 hb4 ox4 oy4 ow4 hy4 lc3 lc4 HC2
    go_wp2
    refine bodyPost_ret (v := .agg #[.int .i64 1, .int .i64 0, .slice none 0 0, .slice none 0 0, .slice none 0 0]) (by simp [results, Tryz.results122, go_sem, c0, c1, c2, c3, c4]) rfl ⟨_, _, _, _, _, _, _, _, _, by rw [HC.out, HV.out], ?_, below_set5 HB.out (by omega) _ _ _ _ _⟩
    rw [HS.out, HT.out, HD.out]
    exact OT.nil _ _ _ _ _
  have HC : Hid (txC ss ts ds (j : Int) zs = etC (leaveS ss q) (mix td (gl ss q) zs)) := by show _ = _; rw [HC2.out, if_pos hz, if_pos ht]
  rw [ht]
  have hb5 := hb4.below g4
  have ox5 := OS.loc.below g4 ox4
  have oy5 := OS.loc.below g4 oy4
  have ow5 := OS.loc.below g4 ow4
  have hy5 := hy4.below g4 (Nat.le_refl _)
  have wc5 := M5.cell 2 rfl
  have lc5 := M5.cell 12 rfl
  have hmz : fault (mix td (gl ss q) zs) = 0 := fault_mix td_or fo hz
  clear M4 g4 hb4 ox4 oy4 ow4 hy4 lc3 lc4 HC2 hi ht
  go_wp2_with fail
  refine (taintedBy_calls ra b rc cb (gl ss q) zs _ ow5.sl hy5 fo hz).mono ?_
  rintro e w5 ⟨bb, rfl, ⟨hbl, blk⟩, g5⟩
  have M6 := M5.below g5
  have z5 := g5.size
  have hb6 := hb5.below g5
  have ox6 := OS.loc.below g5 ox5
  have oy6 := OS.loc.below g5 oy5
  have p2 := M6.cell 5 rfl
  have p3 := M6.cell 6 rfl
  clear M5 g5 hb5 ox5 oy5 ow5 hy5 wc5 lc5
  go_wp2_with fail
  refine (relabelDomain_calls w1.heap.size M ss.length j q ss (mix td (gl ss q) zs) _ (InR X2 X3) ya yn yc ds bb 4 _ hb6 (by omega) good (rep_bk Hr.out) hmz p3 oy6 (fun e => by have := e.1; omega) (fun e => by have := e.2; omega) (by omega) blk (by omega) Hq.out hql hqp Hat.out).mono ?_
  rintro e w6 ⟨rfl, u6, k6, hfin⟩
  have z6 := u6.size
  have q2 := ((k6 2).1 (by omega)).trans p2
  have q3 := ((k6 3).1 (by omega)).trans p3
  have M7 : Mm w w6 [(w.heap.size + 1 + 1, 0, .int .i64 0), (w.heap.size + 1 + 1, 1, .int .i64 0), (w.heap.size + 1 + 1, 2, .slice none 0 0), (w.heap.size + 1 + 1, 3, .slice none 0 0), (w.heap.size + 1 + 1, 4, .slice none 0 0)] [] :=
    (M6.sub (fun _ h => by simp only [List.mem_cons, List.not_mem_nil, or_false] at h ⊢; rcases h with h | h | h | h | h <;> simp [h]) (fun _ h => by cases h)).out (B := M) (T := w1.heap.size + 1) (u6.mono (fun k hk => by rcases hk with (hk | hk) | hk; exact ⟨by omega, by omega⟩; exact ⟨by omega, by omega⟩; exact ⟨by have := hk.1; omega, by have := hk.2; omega⟩)) (by omega) (by simp <;> omega) (by simp)
  have ox7 := OS.loc.out u6 (fun k h h' => by have := h.1; have := h.2; rcases h' with (h' | h') | h'; omega; omega; have := h'.1; omega) ox6
  clear M6 u6 k6 hb6 ox6 oy6 p2 p3 blk
  by_cases het : etC (leaveS ss q) (mix td (gl ss q) zs) = 0
  rotate_left
  · have e2 : (etC (leaveS ss q) (mix td (gl ss q) zs) != 0) = true := by simpa using het
    have HEV : Hid (etV (leaveS ss q) (mix td (gl ss q) zs) = 0) := if_neg het
    rw [HEV.out]
    have hf' : txC ss ts ds (j : Int) zs ≠ 0 := by rw [HC.out]; exact het
    have HV : Hid (txV ss ts ds (j : Int) zs = 0) := if_neg hf'
    have HS : Hid (txS ss ts ds (j : Int) zs = []) := if_neg hf'
    have HT : Hid (txT ss ts ds (j : Int) zs = []) := if_neg hf'
    have HD : Hid (txD ss ts ds (j : Int) zs = []) := if_neg hf'
    have c0 := M7.cell 0 rfl
    have c1 := M7.cell 1 rfl
    have c2 := M7.cell 2 rfl
    have c3 := M7.cell 3 rfl
    have c4 := M7.cell 4 rfl
    have f0 := M7.fz 0 rfl
    have f1 := M7.fz 1 rfl
    have f2 := M7.fz 2 rfl
    have f3 := M7.fz 3 rfl
    have f4 := M7.fz 4 rfl
    have HB := hide M7.bel
    clear het hf' M7 ox7 hfin q2 q3
    go_wp2
    refine bodyPost_ret (v := .agg #[.int .i64 (etC (leaveS ss q) (mix td (gl ss q) zs)), .int .i64 0, .slice none 0 0, .slice none 0 0, .slice none 0 0]) (by simp [results, Tryz.results122, go_sem, c0, c1, c2, c3, c4]) rfl ⟨_, _, _, _, _, _, _, _, _, by rw [HC.out, HV.out], ?_, below_set5 HB.out (by omega) _ _ _ _ _⟩
    rw [HS.out, HT.out, HD.out]
    exact OT.nil _ _ _ _ _
  have HC0 : Hid (txC ss ts ds (j : Int) zs = 0) := HC.out.trans het
  have HV : Hid (txV ss ts ds (j : Int) zs = (enQ (leaveS ss q) (mix td (gl ss q) zs) : Int)) := (if_pos HC0.out).trans (by rw [HZ.out, HQ.out])
  have HS : Hid (txS ss ts ds (j : Int) zs = enS (leaveS ss q) (mix td (gl ss q) zs)) := (if_pos HC0.out).trans (by rw [HZ.out, HQ.out])
  have HT : Hid (txT ss ts ds (j : Int) zs = ts) := if_pos HC0.out
  have HD : Hid (txD ss ts ds (j : Int) zs = ds.set j (enQ (leaveS ss q) (mix td (gl ss q) zs) : Int)) := (if_pos HC0.out).trans (by rw [HZ.out, HQ.out, Int.toNat_natCast])
  obtain ⟨oy7, D3, hb7, hrep⟩ := hfin het
  have gl3 := good_enter (good_leave good hql hqp) hmz het
  have HEV : Hid (etV (leaveS ss q) (mix td (gl ss q) zs) = (enQ (leaveS ss q) (mix td (gl ss q) zs) : Int)) := if_pos het
  rw [HEV.out, het]
  generalize hEq : enQ (leaveS ss q) (mix td (gl ss q) zs) = eq at HV HD oy7 ⊢
  generalize hEs : enS (leaveS ss q) (mix td (gl ss q) zs) = es at HS gl3 hb7 hrep ⊢
  clear HEV het hfin HC hEq hEs hmz
  go_wp2_with fail
  refine (tables_calls w1.heap.size M _ es D3 xa xn xc ya yn yc _ hb7 gl3 hrep q2 q3).mono ?_
  rintro e w7 ⟨b7, rfl, o7, g7⟩
  have M8 := M7.below g7
  have z7 := g7.size
  have ox8 := OS.loc.below g7 ox7
  have oy8 := OS.loc.below g7 oy7
  have c0 := M8.cell 0 rfl
  have c1 := M8.cell 1 rfl
  have c2 := M8.cell 2 rfl
  have c3 := M8.cell 3 rfl
  have c4 := M8.cell 4 rfl
  have f0 := M8.fz 0 rfl
  have f1 := M8.fz 1 rfl
  have f2 := M8.fz 2 rfl
  have f3 := M8.fz 3 rfl
  have f4 := M8.fz 4 rfl
  have HB := hide M8.bel
  have HO : Hid (∀ v0 v1 v2 v3 v4, OT (InR w.heap.size w7.heap.size) (some ⟨b7, 0, none⟩) es.length es xa xn ts ya yn (ds.set j (eq : Int)) (((((w7.setCell ⟨w.heap.size + 1 + 1, 0, none⟩ v0).setCell ⟨w.heap.size + 1 + 1, 1, none⟩ v1).setCell ⟨w.heap.size + 1 + 1, 2, none⟩ v2).setCell ⟨w.heap.size + 1 + 1, 3, none⟩ v3).setCell ⟨w.heap.size + 1 + 1, 4, none⟩ v4)) := fun v0 v1 v2 v3 v4 =>
    OT.ofS (loc_set5 OR.loc o7 (fun e => by have := e.1; omega) v0 v1 v2 v3 v4) (loc_set5 OS.loc ox8 (fun e => by have := e.1; omega) v0 v1 v2 v3 v4) (loc_set5 OS.loc oy8 (fun e => by have := e.1; omega) v0 v1 v2 v3 v4)
      (fun k h => ⟨by have := h.1; omega, by have := h.2; omega⟩) (fun k h => ⟨by have := h.1; omega, by have := h.2; omega⟩) (fun k h => ⟨by have := h.1; omega, by have := h.2; omega⟩)
      (fun k h h' => by have := h.1; have := h'.2; omega) (fun k h h' => by have := h.1; have := h'.2; omega) (fun k h h' => by have := h.2; have := h'.1; omega)
  clear M7 M8 g7 o7 ox7 oy7 ox8 oy8 hb7 hrep q2 q3
  go_wp2
  refine bodyPost_ret (v := .agg #[.int .i64 0, .int .i64 (eq : Int), .slice (some ⟨b7, 0, none⟩) es.length es.length, .slice xa xn xc, .slice ya yn yc]) (by simp [results, Tryz.results122, go_sem, c0, c1, c2, c3, c4]) rfl ⟨_, _, _, _, _, _, _, _, _, by rw [HC0.out, HV.out], ?_, below_set5 HB.out (by omega) _ _ _ _ _⟩
  rw [HS.out, HT.out, HD.out]
  simpa using HO.out _ _ _ _ _

end Go.Proofs.YtgkjmeogdomgmaaGreat
