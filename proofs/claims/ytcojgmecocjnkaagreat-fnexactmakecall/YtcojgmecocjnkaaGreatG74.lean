import Derived.Test.YtcojgmecocjnkaaGreatG70
import Derived.Test.YtcojgmecocjnkaaGreatG35
import Derived.Test.YtcojgmecocjnkaaGreatG28
import Derived.Test.YtcojgmecocjnkaaGreatG1
import Derived.StillTailTactics
import Derived.WalkKit
import Derived.ProofKit
import Derived.OpenShut
import Derived.ShutString
import Derived.ChangeOld
import Derived.Below
import Derived.WalkSpells
import Derived.Deep.QuietTactic
import Derived.BigQuiet
import Derived.Deep.RegionWith
import Derived.Deep.WholeRow
import Derived.Deep.DeepCutAuto
import Derived.Deep.RegionHeld2
import Derived.Deep.AppendLies
import Derived.Deep.RegionLaw
namespace Go.Proofs.YtcojgmecocjnkaaGreat
open Go.ChangeShapes Go.WideShapes Go.ChangeAt Go.RowKit

theorem OutS.setNew {S : Nat → Prop} {w u : World} (h : OutS S w u) {p : Addr} (hp : S p.block ∨ w.heap.size ≤ p.block) (v : Value) : OutS S w (u.setCell p v) :=
  ⟨h.os, h.tape, h.output, by simpa using h.size, fun k hk hn => (Below.heap_setCell _ _ _ _ (fun e => by rcases hp with hp | hp; exact hn (e ▸ hp); omega)).trans (h.block k hk hn)⟩

/-- a register of the Active domain; register 0 of it written. -/
def rgC (D : SD) (i : Nat) : Int := gt (gx D.cs D.ac.toNat).1 i
def hdX (D : SD) (v : Int) : SD := { D with cs := D.cs.set D.ac.toNat ((gx D.cs D.ac.toNat).1.set 0 v, (gx D.cs D.ac.toNat).2.1, (gx D.cs D.ac.toNat).2.2) }

/-- a call of the monitor: what is said, and the system. -/
def mcS (D : SD) (c : Int) : Int := if c = 1 then tnS D (rgC D 1) else if c = 2 then rtS D (rgC D 1) (rgC D 2) (rgC D 3) else if c = 3 then 0 else if c = 4 then 0 else 1
def mcD (D : SD) (c : Int) : SD := if c = 1 then hdX (tnD D (rgC D 1)) (tnS D (rgC D 1)) else if c = 2 then hdX (rtD D (rgC D 1) (rgC D 2) (rgC D 3)) (rtS D (rgC D 1) (rgC D 2) (rgC D 3)) else if c = 3 then gtD D (rgC D 1) (rgC D 2) else if c = 4 then D else hdX D 1
def mkS8 (D : SD) (c : Int) : Int := if sysF D = 0 then mcS D c else 0
def mkD8 (D : SD) (c : Int) : SD := if sysF D = 0 then mcD D c else zeroD

theorem mkD8_bad {D : SD} {c : Int} (h : sysF D ≠ 0) : mkD8 D c = zeroD := if_neg h
theorem mkD8_ok {D : SD} {c : Int} (h : sysF D = 0) : mkD8 D c = mcD D c := if_pos h

theorem tnD_cs (D : SD) (t : Int) : (tnD D t).cs = D.cs ∧ (tnD D t).ac = D.ac := by
  unfold tnD
  split <;> exact ⟨rfl, rfl⟩

theorem rtD_cs (D : SD) (f n t : Int) : (rtD D f n t).cs = D.cs ∧ (rtD D f n t).ac = D.ac := by
  unfold rtD
  split <;> exact ⟨rfl, rfl⟩

theorem mc_1 (D : SD) : mcS D 1 = tnS D (rgC D 1) ∧ mcD D 1 = hdX (tnD D (rgC D 1)) (tnS D (rgC D 1)) := ⟨rfl, rfl⟩
theorem mc_2 (D : SD) : mcS D 2 = rtS D (rgC D 1) (rgC D 2) (rgC D 3) ∧ mcD D 2 = hdX (rtD D (rgC D 1) (rgC D 2) (rgC D 3)) (rtS D (rgC D 1) (rgC D 2) (rgC D 3)) := ⟨rfl, rfl⟩
theorem mc_3 (D : SD) : mcS D 3 = 0 ∧ mcD D 3 = gtD D (rgC D 1) (rgC D 2) := ⟨rfl, rfl⟩
theorem mc_4 (D : SD) : mcS D 4 = 0 ∧ mcD D 4 = D := ⟨rfl, rfl⟩
theorem mc_o (D : SD) {c : Int} (h1 : c ≠ 1) (h2 : c ≠ 2) (h3 : c ≠ 3) (h4 : c ≠ 4) : mcS D c = 1 ∧ mcD D c = hdX D 1 := by
  unfold mcS mcD
  simp only [if_neg h1, if_neg h2, if_neg h3, if_neg h4]
  exact ⟨trivial, trivial⟩

set_option maxRecDepth 100000 in
set_option maxHeartbeats 4000000 in
theorem l8Call_1 (P : Nat) (S : Nat → Prop) (A : SA) (D : SD) (k : Nat) (w : World) (hy : YM P 0 S A D w) (H : SysR A D k) (hS : ∀ q, S q → q < w.heap.size) :
    Calls Tryz.prog 66 #[.pointer (some ⟨P, 0, none⟩), .int .i64 1] w fun e w' => e = .returned (.int .i64 (mcS D 1)) ∧ (∃ B, YM P 0 (fun q => S q ∨ (w.heap.size ≤ q ∧ q < w'.heap.size)) B (mcD D 1) w') ∧ OutS (fun q => S q ∨ q = P) w w' := by
  have hr := hy.y.oy.rs
  obtain ⟨k0, k1, k2, k3, k4, k5, k6, k7⟩ := hr.len
  have hk : k < A.xn := by have := H.hk; have := H.xd; omega
  obtain ⟨h8, hrg, hp0, hp1⟩ := H.cx k H.hk
  have hac := H.ac
  have hact : D.ac.toNat = k := by rw [hac]; rfl
  have hPl := hy.lt
  obtain ⟨N, b, lc, ea, sN, sb, ne, nP, bP, c0, c1, c2, fz, blk, f1, f2, f3⟩ := hy.ctx hk (by omega)
  rw [h8] at c0
  have lN := World.block_lt_of_cell? _ _ c0
  have x4 := hy.cs.cell 4 rfl
  have x5 := hy.cs.cell 5 rfl
  simp only [Nat.zero_add] at x4 x5
  rw [ea] at x4
  rw [hac] at x5
  have kk0 : (0 : Int) ≤ (k : Int) := by omega
  have kk1 : (k : Int) < (A.xn : Int) := by omega
  have hsl : Sl w (some ⟨b, 0, none⟩) 8 (gx D.cs k).1 := ⟨h8, fun _ => ⟨b, 0, rfl, blk.1, fun i hi => by rw [Nat.zero_add]; exact blk.2.1 i (by omega)⟩⟩
  have HS0 : Hid (w.drew.cell? ⟨P, 4, none⟩ = some (.slice (some ⟨N, 0, none⟩) A.xn A.xc) ∧ w.drew.cell? ⟨P, 5, none⟩ = some (.int .i64 (k : Int)) ∧ w.drew.cell? ⟨N, k * 3, none⟩ = some (.slice (some ⟨b, 0, none⟩) 8 lc) ∧ Below w.heap.size w w.drew) := ⟨x4, x5, c0, (Below.refl _ _).drew⟩
  have HSL := hide hsl
  have HY := hide hy
  have HH := hide H
  have HEA := hide ea
  have HR1 : Hid (rgC D 1 = gt (gx D.cs k).1 1 ∧ rgC D 2 = gt (gx D.cs k).1 2 ∧ rgC D 3 = gt (gx D.cs k).1 3) := by unfold rgC; rw [hact]; exact ⟨rfl, rfl, rfl⟩
  clear hy hr H f1 f2 f3 fz blk c1 c2 c0 x4 x5 hsl ea
  go_enter Tryz.func66, Tryz.ntmps66
  go_wp2_with fail
  go_cut [5] (fun v wd => ∃ ra rc, v = .slice ra 8 rc ∧ Sl wd ra 8 (gx D.cs k).1 ∧ Below w.heap.size w wd)
  case first =>
    go_region_held2 (fun X => X.cell? ⟨P, 4, none⟩ = some (.slice (some ⟨N, 0, none⟩) A.xn A.xc) ∧ X.cell? ⟨P, 5, none⟩ = some (.int .i64 (k : Int)) ∧ X.cell? ⟨N, k * 3, none⟩ = some (.slice (some ⟨b, 0, none⟩) 8 lc) ∧ Below w.heap.size w X)
      (first | with_reducible exact HS0.out | with_reducible assumption)
      (first
        | (go_at_call 124; refine (l1Ints_O (some ⟨b, 0, none⟩) 8 lc (gx D.cs k).1 _ (by omega) (HSL.out.below (q3_bel (by with_reducible assumption)) (Nat.le_refl _))).mono ?_; rintro e ws ⟨ra, rc, rfl, _, os, gs⟩; have hss := q3_below hPl hPl lN (by with_reducible assumption) gs; have HOS := hide os.sl; clear gs os))
    all_goals go_wp2_with fail
    all_goals go_meet
    all_goals exact ⟨_, _, rfl, HOS.out, q3_bel (by with_reducible assumption)⟩
  case rest =>
  obtain ⟨ra, rc, rfl, sl, gd⟩ := hcut
  obtain ⟨w1, rfl⟩ : ∃ x, x = wc := ⟨wc, rfl⟩
  obtain ⟨b2, o2, rfl, hb2, hc2⟩ := sl.2 (by omega)
  have r1 := hc2 1 (by omega)
  have r2 := hc2 2 (by omega)
  have r3 := hc2 3 (by omega)
  have z1 := gd.size
  have Y1 := HY.out.below gd
  have s1 : ∀ q, S q → q < w1.heap.size := fun q e => by have := hS q e; omega
  have H1 := HH.out.move HY.out.y.oy.rs Y1.y.oy.rs
  have HU1 := hide (OutS.of_below (S := fun q => S q ∨ q = P) gd)
  clear sl hc2 gd HS0
  have HC := hide (l8Taint_gen P S A D k (gt (gx D.cs k).1 1) w1 Y1 H1 s1)
  clear Y1 H1
  go_wp2_with fail
  refine (HC.out).mono ?_
  rintro e w3 ⟨rfl, ⟨B, Y3⟩, u4⟩
  have u3 := HU1.out.trans u4
  have z4 := u4.size
  have HM : Hid (mcS D 1 = tnS D (gt (gx D.cs k).1 1) ∧ mcD D 1 = hdX (tnD D (gt (gx D.cs k).1 1)) (tnS D (gt (gx D.cs k).1 1))) := by have h := mc_1 D; rw [HR1.out.1] at h; exact h
  clear HC u4 r1 r2 r3
  have l3 : B.xn = A.xn := by
    have := Y3.y.oy.rs.len.2.2.2.2.1
    rw [(tnD_cs D (gt (gx D.cs k).1 1)).1] at this
    omega
  have hk3 : k < B.xn := by omega
  have h83 : (gx (tnD D (gt (gx D.cs k).1 1)).cs k).1.length = 8 := by rw [(tnD_cs D (gt (gx D.cs k).1 1)).1]; exact h8
  obtain ⟨N3, b3, lc3, ea3, sN3, sb3, _, nP3, bP3, d0, _, _, _, blk3, _, _, g3⟩ := Y3.ctx hk3 (by omega)
  rw [h83] at d0
  have e4 := Y3.cs.cell 4 rfl
  have e5 := Y3.cs.cell 5 rfl
  simp only [Nat.zero_add] at e4 e5
  rw [ea3] at e4
  have hac3 : (tnD D (gt (gx D.cs k).1 1)).ac = (k : Int) := by rw [(tnD_cs D (gt (gx D.cs k).1 1)).2]; exact hac
  rw [hac3] at e5
  have kk2 : (k : Int) < (B.xn : Int) := by omega
  have q0 := blk3.2.1 0 (by omega)
  have q0f := blk3.2.2 0
  have z3 := u3.size
  have HF2 : Hid (YM P 0 (fun q => S q ∨ (w.heap.size ≤ q ∧ q < (w3.setCell ⟨b3, 0, none⟩ (.int .i64 (tnS D (gt (gx D.cs k).1 1)))).heap.size)) B (hdX (tnD D (gt (gx D.cs k).1 1)) (tnS D (gt (gx D.cs k).1 1))) (w3.setCell ⟨b3, 0, none⟩ (.int .i64 (tnS D (gt (gx D.cs k).1 1))))) := by
    have h1 := g3 0 (tnS D (gt (gx D.cs k).1 1)) (by omega)
    show YM _ _ _ _ _ _
    have e9 : (tnD D (gt (gx D.cs k).1 1)).ac.toNat = k := by rw [hac3]; rfl
    unfold hdX
    rw [e9]
    refine h1.mono (fun q e => ?_) (fun e => ?_)
    · rcases e with e | e
      · exact .inl e
      · exact .inr ⟨by have h1 := e.1; (try simp only [World.size_drew] at h1); omega, by simpa using e.2⟩
    · rcases e with e | e
      · exact HY.out.ns e
      · omega
  have HU := hide (u3.setNew (p := ⟨b3, 0, none⟩) (by rcases sb3 with e | e; exact .inl (.inl e); exact .inr (by show w.heap.size ≤ b3; have h1 := e.1; (try simp only [World.size_drew] at h1); omega)) (.int .i64 (tnS D (gt (gx D.cs k).1 1))))
  obtain ⟨vv, hvv⟩ : ∃ x, x = tnS D (gt (gx D.cs k).1 1) := ⟨_, rfl⟩
  rw [← hvv] at HF2 HU ⊢
  have Hsv := hide hvv
  clear g3 blk3 Y3 u3 hvv
  go_wp2_with fail
  go_still_tail 13, (by kernel_rfl)
  have hyw : { heap := w3.heap, tape := w3.tape, drawn := w3.drawn + 1, os := w3.os, output := w3.output } = w3.drew := rfl
  try rw [hyw]
  clear hyw
  go_wp2
  go_ret
  exact ⟨ret_int (by rw [HM.out.1, Hsv.out]), ⟨B, by rw [HM.out.2, ← Hsv.out]; exact HF2.out.below (Below.refl _ _).drew⟩, HU.out.trans (OutS.of_below (Below.refl _ _).drew)⟩

set_option maxRecDepth 100000 in
set_option maxHeartbeats 4000000 in
theorem l8Call_2 (P : Nat) (S : Nat → Prop) (A : SA) (D : SD) (k : Nat) (w : World) (hy : YM P 0 S A D w) (H : SysR A D k) (hS : ∀ q, S q → q < w.heap.size) :
    Calls Tryz.prog 66 #[.pointer (some ⟨P, 0, none⟩), .int .i64 2] w fun e w' => e = .returned (.int .i64 (mcS D 2)) ∧ (∃ B, YM P 0 (fun q => S q ∨ (w.heap.size ≤ q ∧ q < w'.heap.size)) B (mcD D 2) w') ∧ OutS (fun q => S q ∨ q = P) w w' := by
  have hr := hy.y.oy.rs
  obtain ⟨k0, k1, k2, k3, k4, k5, k6, k7⟩ := hr.len
  have hk : k < A.xn := by have := H.hk; have := H.xd; omega
  obtain ⟨h8, hrg, hp0, hp1⟩ := H.cx k H.hk
  have hac := H.ac
  have hact : D.ac.toNat = k := by rw [hac]; rfl
  have hPl := hy.lt
  obtain ⟨N, b, lc, ea, sN, sb, ne, nP, bP, c0, c1, c2, fz, blk, f1, f2, f3⟩ := hy.ctx hk (by omega)
  rw [h8] at c0
  have lN := World.block_lt_of_cell? _ _ c0
  have x4 := hy.cs.cell 4 rfl
  have x5 := hy.cs.cell 5 rfl
  simp only [Nat.zero_add] at x4 x5
  rw [ea] at x4
  rw [hac] at x5
  have kk0 : (0 : Int) ≤ (k : Int) := by omega
  have kk1 : (k : Int) < (A.xn : Int) := by omega
  have hsl : Sl w (some ⟨b, 0, none⟩) 8 (gx D.cs k).1 := ⟨h8, fun _ => ⟨b, 0, rfl, blk.1, fun i hi => by rw [Nat.zero_add]; exact blk.2.1 i (by omega)⟩⟩
  have HS0 : Hid (w.drew.cell? ⟨P, 4, none⟩ = some (.slice (some ⟨N, 0, none⟩) A.xn A.xc) ∧ w.drew.cell? ⟨P, 5, none⟩ = some (.int .i64 (k : Int)) ∧ w.drew.cell? ⟨N, k * 3, none⟩ = some (.slice (some ⟨b, 0, none⟩) 8 lc) ∧ Below w.heap.size w w.drew) := ⟨x4, x5, c0, (Below.refl _ _).drew⟩
  have HSL := hide hsl
  have HY := hide hy
  have HH := hide H
  have HEA := hide ea
  have HR1 : Hid (rgC D 1 = gt (gx D.cs k).1 1 ∧ rgC D 2 = gt (gx D.cs k).1 2 ∧ rgC D 3 = gt (gx D.cs k).1 3) := by unfold rgC; rw [hact]; exact ⟨rfl, rfl, rfl⟩
  clear hy hr H f1 f2 f3 fz blk c1 c2 c0 x4 x5 hsl ea
  go_enter Tryz.func66, Tryz.ntmps66
  go_wp2_with fail
  go_cut [5] (fun v wd => ∃ ra rc, v = .slice ra 8 rc ∧ Sl wd ra 8 (gx D.cs k).1 ∧ Below w.heap.size w wd)
  case first =>
    go_region_held2 (fun X => X.cell? ⟨P, 4, none⟩ = some (.slice (some ⟨N, 0, none⟩) A.xn A.xc) ∧ X.cell? ⟨P, 5, none⟩ = some (.int .i64 (k : Int)) ∧ X.cell? ⟨N, k * 3, none⟩ = some (.slice (some ⟨b, 0, none⟩) 8 lc) ∧ Below w.heap.size w X)
      (first | with_reducible exact HS0.out | with_reducible assumption)
      (first
        | (go_at_call 124; refine (l1Ints_O (some ⟨b, 0, none⟩) 8 lc (gx D.cs k).1 _ (by omega) (HSL.out.below (q3_bel (by with_reducible assumption)) (Nat.le_refl _))).mono ?_; rintro e ws ⟨ra, rc, rfl, _, os, gs⟩; have hss := q3_below hPl hPl lN (by with_reducible assumption) gs; have HOS := hide os.sl; clear gs os))
    all_goals go_wp2_with fail
    all_goals go_meet
    all_goals exact ⟨_, _, rfl, HOS.out, q3_bel (by with_reducible assumption)⟩
  case rest =>
  obtain ⟨ra, rc, rfl, sl, gd⟩ := hcut
  obtain ⟨w1, rfl⟩ : ∃ x, x = wc := ⟨wc, rfl⟩
  obtain ⟨b2, o2, rfl, hb2, hc2⟩ := sl.2 (by omega)
  have r1 := hc2 1 (by omega)
  have r2 := hc2 2 (by omega)
  have r3 := hc2 3 (by omega)
  have z1 := gd.size
  have Y1 := HY.out.below gd
  have s1 : ∀ q, S q → q < w1.heap.size := fun q e => by have := hS q e; omega
  have H1 := HH.out.move HY.out.y.oy.rs Y1.y.oy.rs
  have HU1 := hide (OutS.of_below (S := fun q => S q ∨ q = P) gd)
  clear sl hc2 gd HS0
  have HC := hide (l8Retag_gen P S A D k (gt (gx D.cs k).1 1) (gt (gx D.cs k).1 2) (gt (gx D.cs k).1 3) w1.drew (Y1.below (Below.refl _ _).drew) (HH.out.move HY.out.y.oy.rs (Y1.below (Below.refl _ _).drew).y.oy.rs) s1)
  clear Y1 H1
  go_wp2_with fail
  go_region_with (first
    | (go_at_call 62; refine (HC.out).mono ?_; rintro e w3 ⟨rfl, ⟨B, Y3⟩, u4⟩))
  all_goals (
  have u3 := HU1.out.trans ((OutS.of_below (S := fun q => S q ∨ q = P) (Below.refl _ _).drew).trans u4)
  have z4 : w1.heap.size ≤ w3.heap.size := u4.size
  have HM : Hid (mcS D 2 = rtS D (gt (gx D.cs k).1 1) (gt (gx D.cs k).1 2) (gt (gx D.cs k).1 3) ∧ mcD D 2 = hdX (rtD D (gt (gx D.cs k).1 1) (gt (gx D.cs k).1 2) (gt (gx D.cs k).1 3)) (rtS D (gt (gx D.cs k).1 1) (gt (gx D.cs k).1 2) (gt (gx D.cs k).1 3))) := by have h := mc_2 D; rw [HR1.out.1, HR1.out.2.1, HR1.out.2.2] at h; exact h
  clear HC u4 r1 r2 r3
  have l3 : B.xn = A.xn := by
    have := Y3.y.oy.rs.len.2.2.2.2.1
    rw [(rtD_cs D (gt (gx D.cs k).1 1) (gt (gx D.cs k).1 2) (gt (gx D.cs k).1 3)).1] at this
    omega
  have hk3 : k < B.xn := by omega
  have h83 : (gx (rtD D (gt (gx D.cs k).1 1) (gt (gx D.cs k).1 2) (gt (gx D.cs k).1 3)).cs k).1.length = 8 := by rw [(rtD_cs D (gt (gx D.cs k).1 1) (gt (gx D.cs k).1 2) (gt (gx D.cs k).1 3)).1]; exact h8
  obtain ⟨N3, b3, lc3, ea3, sN3, sb3, _, nP3, bP3, d0, _, _, _, blk3, _, _, g3⟩ := Y3.ctx hk3 (by omega)
  rw [h83] at d0
  have e4 := Y3.cs.cell 4 rfl
  have e5 := Y3.cs.cell 5 rfl
  simp only [Nat.zero_add] at e4 e5
  rw [ea3] at e4
  have hac3 : (rtD D (gt (gx D.cs k).1 1) (gt (gx D.cs k).1 2) (gt (gx D.cs k).1 3)).ac = (k : Int) := by rw [(rtD_cs D (gt (gx D.cs k).1 1) (gt (gx D.cs k).1 2) (gt (gx D.cs k).1 3)).2]; exact hac
  rw [hac3] at e5
  have kk2 : (k : Int) < (B.xn : Int) := by omega
  have q0 := blk3.2.1 0 (by omega)
  have q0f := blk3.2.2 0
  have z3 := u3.size
  have HF2 : Hid (YM P 0 (fun q => S q ∨ (w.heap.size ≤ q ∧ q < (w3.setCell ⟨b3, 0, none⟩ (.int .i64 (rtS D (gt (gx D.cs k).1 1) (gt (gx D.cs k).1 2) (gt (gx D.cs k).1 3)))).heap.size)) B (hdX (rtD D (gt (gx D.cs k).1 1) (gt (gx D.cs k).1 2) (gt (gx D.cs k).1 3)) (rtS D (gt (gx D.cs k).1 1) (gt (gx D.cs k).1 2) (gt (gx D.cs k).1 3))) (w3.setCell ⟨b3, 0, none⟩ (.int .i64 (rtS D (gt (gx D.cs k).1 1) (gt (gx D.cs k).1 2) (gt (gx D.cs k).1 3))))) := by
    have h1 := g3 0 (rtS D (gt (gx D.cs k).1 1) (gt (gx D.cs k).1 2) (gt (gx D.cs k).1 3)) (by omega)
    show YM _ _ _ _ _ _
    have e9 : (rtD D (gt (gx D.cs k).1 1) (gt (gx D.cs k).1 2) (gt (gx D.cs k).1 3)).ac.toNat = k := by rw [hac3]; rfl
    unfold hdX
    rw [e9]
    refine h1.mono (fun q e => ?_) (fun e => ?_)
    · rcases e with e | e
      · exact .inl e
      · exact .inr ⟨by have h1 := e.1; (try simp only [World.size_drew] at h1); omega, by simpa using e.2⟩
    · rcases e with e | e
      · exact HY.out.ns e
      · omega
  have HU := hide (u3.setNew (p := ⟨b3, 0, none⟩) (by rcases sb3 with e | e; exact .inl (.inl e); exact .inr (by show w.heap.size ≤ b3; have h1 := e.1; (try simp only [World.size_drew] at h1); omega)) (.int .i64 (rtS D (gt (gx D.cs k).1 1) (gt (gx D.cs k).1 2) (gt (gx D.cs k).1 3))))
  obtain ⟨vv, hvv⟩ : ∃ x, x = rtS D (gt (gx D.cs k).1 1) (gt (gx D.cs k).1 2) (gt (gx D.cs k).1 3) := ⟨_, rfl⟩
  rw [← hvv] at HF2 HU ⊢
  have Hsv := hide hvv
  clear g3 blk3 Y3 u3 hvv
  go_wp2_with fail
  go_still_tail 13, (by kernel_rfl)
  have hyw : { heap := w3.heap, tape := w3.tape, drawn := w3.drawn + 1, os := w3.os, output := w3.output } = w3.drew := rfl
  try rw [hyw]
  clear hyw
  go_wp2
  go_ret
  exact ⟨ret_int (by rw [HM.out.1, Hsv.out]), ⟨B, by rw [HM.out.2, ← Hsv.out]; exact HF2.out.below (Below.refl _ _).drew⟩, HU.out.trans (OutS.of_below (Below.refl _ _).drew)⟩)

set_option maxRecDepth 100000 in
set_option maxHeartbeats 4000000 in
theorem l8Call_3 (P : Nat) (S : Nat → Prop) (A : SA) (D : SD) (k : Nat) (w : World) (hy : YM P 0 S A D w) (H : SysR A D k) (hS : ∀ q, S q → q < w.heap.size) :
    Calls Tryz.prog 66 #[.pointer (some ⟨P, 0, none⟩), .int .i64 3] w fun e w' => e = .returned (.int .i64 (mcS D 3)) ∧ (∃ B, YM P 0 (fun q => S q ∨ (w.heap.size ≤ q ∧ q < w'.heap.size)) B (mcD D 3) w') ∧ OutS (fun q => S q ∨ q = P) w w' := by
  have hr := hy.y.oy.rs
  obtain ⟨k0, k1, k2, k3, k4, k5, k6, k7⟩ := hr.len
  have hk : k < A.xn := by have := H.hk; have := H.xd; omega
  obtain ⟨h8, hrg, hp0, hp1⟩ := H.cx k H.hk
  have hac := H.ac
  have hact : D.ac.toNat = k := by rw [hac]; rfl
  have hPl := hy.lt
  obtain ⟨N, b, lc, ea, sN, sb, ne, nP, bP, c0, c1, c2, fz, blk, f1, f2, f3⟩ := hy.ctx hk (by omega)
  rw [h8] at c0
  have lN := World.block_lt_of_cell? _ _ c0
  have x4 := hy.cs.cell 4 rfl
  have x5 := hy.cs.cell 5 rfl
  simp only [Nat.zero_add] at x4 x5
  rw [ea] at x4
  rw [hac] at x5
  have kk0 : (0 : Int) ≤ (k : Int) := by omega
  have kk1 : (k : Int) < (A.xn : Int) := by omega
  have hsl : Sl w (some ⟨b, 0, none⟩) 8 (gx D.cs k).1 := ⟨h8, fun _ => ⟨b, 0, rfl, blk.1, fun i hi => by rw [Nat.zero_add]; exact blk.2.1 i (by omega)⟩⟩
  have HS0 : Hid (w.drew.cell? ⟨P, 4, none⟩ = some (.slice (some ⟨N, 0, none⟩) A.xn A.xc) ∧ w.drew.cell? ⟨P, 5, none⟩ = some (.int .i64 (k : Int)) ∧ w.drew.cell? ⟨N, k * 3, none⟩ = some (.slice (some ⟨b, 0, none⟩) 8 lc) ∧ Below w.heap.size w w.drew) := ⟨x4, x5, c0, (Below.refl _ _).drew⟩
  have HSL := hide hsl
  have HY := hide hy
  have HH := hide H
  have HEA := hide ea
  have HR1 : Hid (rgC D 1 = gt (gx D.cs k).1 1 ∧ rgC D 2 = gt (gx D.cs k).1 2 ∧ rgC D 3 = gt (gx D.cs k).1 3) := by unfold rgC; rw [hact]; exact ⟨rfl, rfl, rfl⟩
  clear hy hr H f1 f2 f3 fz blk c1 c2 c0 x4 x5 hsl ea
  go_enter Tryz.func66, Tryz.ntmps66
  go_wp2_with fail
  go_cut [5] (fun v wd => ∃ ra rc, v = .slice ra 8 rc ∧ Sl wd ra 8 (gx D.cs k).1 ∧ Below w.heap.size w wd)
  case first =>
    go_region_held2 (fun X => X.cell? ⟨P, 4, none⟩ = some (.slice (some ⟨N, 0, none⟩) A.xn A.xc) ∧ X.cell? ⟨P, 5, none⟩ = some (.int .i64 (k : Int)) ∧ X.cell? ⟨N, k * 3, none⟩ = some (.slice (some ⟨b, 0, none⟩) 8 lc) ∧ Below w.heap.size w X)
      (first | with_reducible exact HS0.out | with_reducible assumption)
      (first
        | (go_at_call 124; refine (l1Ints_O (some ⟨b, 0, none⟩) 8 lc (gx D.cs k).1 _ (by omega) (HSL.out.below (q3_bel (by with_reducible assumption)) (Nat.le_refl _))).mono ?_; rintro e ws ⟨ra, rc, rfl, _, os, gs⟩; have hss := q3_below hPl hPl lN (by with_reducible assumption) gs; have HOS := hide os.sl; clear gs os))
    all_goals go_wp2_with fail
    all_goals go_meet
    all_goals exact ⟨_, _, rfl, HOS.out, q3_bel (by with_reducible assumption)⟩
  case rest =>
  obtain ⟨ra, rc, rfl, sl, gd⟩ := hcut
  obtain ⟨w1, rfl⟩ : ∃ x, x = wc := ⟨wc, rfl⟩
  obtain ⟨b2, o2, rfl, hb2, hc2⟩ := sl.2 (by omega)
  have r1 := hc2 1 (by omega)
  have r2 := hc2 2 (by omega)
  have r3 := hc2 3 (by omega)
  have z1 := gd.size
  have Y1 := HY.out.below gd
  have s1 : ∀ q, S q → q < w1.heap.size := fun q e => by have := hS q e; omega
  have H1 := HH.out.move HY.out.y.oy.rs Y1.y.oy.rs
  have HU1 := hide (OutS.of_below (S := fun q => S q ∨ q = P) gd)
  clear sl hc2 gd HS0
  have HC := hide (l8Gate_gen P S A D k (gt (gx D.cs k).1 1) (gt (gx D.cs k).1 2) w1.drew (Y1.below (Below.refl _ _).drew) (HH.out.move HY.out.y.oy.rs (Y1.below (Below.refl _ _).drew).y.oy.rs) s1)
  clear Y1 H1
  have HM : Hid (mcS D 3 = 0 ∧ mcD D 3 = gtD D (gt (gx D.cs k).1 1) (gt (gx D.cs k).1 2)) := by have h := mc_3 D; rw [HR1.out.1, HR1.out.2.1] at h; exact h
  go_wp2_with fail
  go_region_with (first
    | (go_at_call 64; refine (HC.out).mono ?_; rintro e w3 ⟨rfl, ⟨B, Y3⟩, u4⟩))
  all_goals (
  have HU := hide (HU1.out.trans ((OutS.of_below (S := fun q => S q ∨ q = P) (Below.refl _ _).drew).trans u4))
  have z4 : w1.heap.size ≤ w3.heap.size := u4.size
  have HF := hide (Y3.mono (S' := fun q => S q ∨ (w.heap.size ≤ q ∧ q < w3.heap.size)) (fun q e => by rcases e with e | e; exact .inl e; exact .inr ⟨by have h1 := e.1; simp only [World.size_drew] at h1; omega, e.2⟩) (fun e => by rcases e with e | e; exact HY.out.ns e; omega))
  clear HC u4 r1 r2 r3 Y3
  go_wp2
  go_ret
  exact ⟨ret_int HM.out.1.symm, ⟨B, by rw [HM.out.2]; exact HF.out⟩, HU.out⟩)

set_option maxRecDepth 100000 in
set_option maxHeartbeats 4000000 in
theorem l8Call_4 (P : Nat) (S : Nat → Prop) (A : SA) (D : SD) (k : Nat) (w : World) (hy : YM P 0 S A D w) (H : SysR A D k) (hS : ∀ q, S q → q < w.heap.size) :
    Calls Tryz.prog 66 #[.pointer (some ⟨P, 0, none⟩), .int .i64 4] w fun e w' => e = .returned (.int .i64 (mcS D 4)) ∧ (∃ B, YM P 0 (fun q => S q ∨ (w.heap.size ≤ q ∧ q < w'.heap.size)) B (mcD D 4) w') ∧ OutS (fun q => S q ∨ q = P) w w' := by
  have hr := hy.y.oy.rs
  obtain ⟨k0, k1, k2, k3, k4, k5, k6, k7⟩ := hr.len
  have hk : k < A.xn := by have := H.hk; have := H.xd; omega
  obtain ⟨h8, hrg, hp0, hp1⟩ := H.cx k H.hk
  have hac := H.ac
  have hact : D.ac.toNat = k := by rw [hac]; rfl
  have hPl := hy.lt
  obtain ⟨N, b, lc, ea, sN, sb, ne, nP, bP, c0, c1, c2, fz, blk, f1, f2, f3⟩ := hy.ctx hk (by omega)
  rw [h8] at c0
  have lN := World.block_lt_of_cell? _ _ c0
  have x4 := hy.cs.cell 4 rfl
  have x5 := hy.cs.cell 5 rfl
  simp only [Nat.zero_add] at x4 x5
  rw [ea] at x4
  rw [hac] at x5
  have kk0 : (0 : Int) ≤ (k : Int) := by omega
  have kk1 : (k : Int) < (A.xn : Int) := by omega
  have hsl : Sl w (some ⟨b, 0, none⟩) 8 (gx D.cs k).1 := ⟨h8, fun _ => ⟨b, 0, rfl, blk.1, fun i hi => by rw [Nat.zero_add]; exact blk.2.1 i (by omega)⟩⟩
  have HS0 : Hid (w.drew.cell? ⟨P, 4, none⟩ = some (.slice (some ⟨N, 0, none⟩) A.xn A.xc) ∧ w.drew.cell? ⟨P, 5, none⟩ = some (.int .i64 (k : Int)) ∧ w.drew.cell? ⟨N, k * 3, none⟩ = some (.slice (some ⟨b, 0, none⟩) 8 lc) ∧ Below w.heap.size w w.drew) := ⟨x4, x5, c0, (Below.refl _ _).drew⟩
  have HSL := hide hsl
  have HY := hide hy
  have HH := hide H
  have HEA := hide ea
  have HR1 : Hid (rgC D 1 = gt (gx D.cs k).1 1 ∧ rgC D 2 = gt (gx D.cs k).1 2 ∧ rgC D 3 = gt (gx D.cs k).1 3) := by unfold rgC; rw [hact]; exact ⟨rfl, rfl, rfl⟩
  clear hy hr H f1 f2 f3 fz blk c1 c2 c0 x4 x5 hsl ea
  go_enter Tryz.func66, Tryz.ntmps66
  go_wp2_with fail
  go_cut [5] (fun v wd => ∃ ra rc, v = .slice ra 8 rc ∧ Sl wd ra 8 (gx D.cs k).1 ∧ Below w.heap.size w wd)
  case first =>
    go_region_held2 (fun X => X.cell? ⟨P, 4, none⟩ = some (.slice (some ⟨N, 0, none⟩) A.xn A.xc) ∧ X.cell? ⟨P, 5, none⟩ = some (.int .i64 (k : Int)) ∧ X.cell? ⟨N, k * 3, none⟩ = some (.slice (some ⟨b, 0, none⟩) 8 lc) ∧ Below w.heap.size w X)
      (first | with_reducible exact HS0.out | with_reducible assumption)
      (first
        | (go_at_call 124; refine (l1Ints_O (some ⟨b, 0, none⟩) 8 lc (gx D.cs k).1 _ (by omega) (HSL.out.below (q3_bel (by with_reducible assumption)) (Nat.le_refl _))).mono ?_; rintro e ws ⟨ra, rc, rfl, _, os, gs⟩; have hss := q3_below hPl hPl lN (by with_reducible assumption) gs; have HOS := hide os.sl; clear gs os))
    all_goals go_wp2_with fail
    all_goals go_meet
    all_goals exact ⟨_, _, rfl, HOS.out, q3_bel (by with_reducible assumption)⟩
  case rest =>
  obtain ⟨ra, rc, rfl, sl, gd⟩ := hcut
  obtain ⟨w1, rfl⟩ : ∃ x, x = wc := ⟨wc, rfl⟩
  obtain ⟨b2, o2, rfl, hb2, hc2⟩ := sl.2 (by omega)
  have r1 := hc2 1 (by omega)
  have r2 := hc2 2 (by omega)
  have r3 := hc2 3 (by omega)
  have z1 := gd.size
  have Y1 := HY.out.below gd
  have s1 : ∀ q, S q → q < w1.heap.size := fun q e => by have := hS q e; omega
  have H1 := HH.out.move HY.out.y.oy.rs Y1.y.oy.rs
  have HU1 := hide (OutS.of_below (S := fun q => S q ∨ q = P) gd)
  clear sl hc2 gd HS0
  have HF := hide (Y1.mono (S' := fun q => S q ∨ (w.heap.size ≤ q ∧ q < w1.heap.size)) (fun q e => .inl e) (fun e => by rcases e with e | e; exact HY.out.ns e; omega))
  clear Y1 H1 r1 r2 r3
  go_wp2
  go_ret
  exact ⟨ret_int (mc_4 D).1.symm, ⟨A, by rw [(mc_4 D).2]; exact HF.out⟩, HU1.out⟩

set_option maxRecDepth 100000 in
set_option maxHeartbeats 4000000 in
theorem l8Call_o (P : Nat) (S : Nat → Prop) (A : SA) (D : SD) (k : Nat) (c : Int) (w : World) (hy : YM P 0 S A D w) (H : SysR A D k) (hS : ∀ q, S q → q < w.heap.size) (h1 : c ≠ 1) (h2 : c ≠ 2) (h3 : c ≠ 3) (h4 : c ≠ 4) :
    Calls Tryz.prog 66 #[.pointer (some ⟨P, 0, none⟩), .int .i64 c] w fun e w' => e = .returned (.int .i64 (mcS D c)) ∧ (∃ B, YM P 0 (fun q => S q ∨ (w.heap.size ≤ q ∧ q < w'.heap.size)) B (mcD D c) w') ∧ OutS (fun q => S q ∨ q = P) w w' := by
  have hr := hy.y.oy.rs
  obtain ⟨k0, k1, k2, k3, k4, k5, k6, k7⟩ := hr.len
  have hk : k < A.xn := by have := H.hk; have := H.xd; omega
  obtain ⟨h8, hrg, hp0, hp1⟩ := H.cx k H.hk
  have hac := H.ac
  have hact : D.ac.toNat = k := by rw [hac]; rfl
  have hPl := hy.lt
  obtain ⟨N, b, lc, ea, sN, sb, ne, nP, bP, c0, c1, c2, fz, blk, f1, f2, f3⟩ := hy.ctx hk (by omega)
  rw [h8] at c0
  have lN := World.block_lt_of_cell? _ _ c0
  have x4 := hy.cs.cell 4 rfl
  have x5 := hy.cs.cell 5 rfl
  simp only [Nat.zero_add] at x4 x5
  rw [ea] at x4
  rw [hac] at x5
  have kk0 : (0 : Int) ≤ (k : Int) := by omega
  have kk1 : (k : Int) < (A.xn : Int) := by omega
  have hsl : Sl w (some ⟨b, 0, none⟩) 8 (gx D.cs k).1 := ⟨h8, fun _ => ⟨b, 0, rfl, blk.1, fun i hi => by rw [Nat.zero_add]; exact blk.2.1 i (by omega)⟩⟩
  have HS0 : Hid (w.drew.cell? ⟨P, 4, none⟩ = some (.slice (some ⟨N, 0, none⟩) A.xn A.xc) ∧ w.drew.cell? ⟨P, 5, none⟩ = some (.int .i64 (k : Int)) ∧ w.drew.cell? ⟨N, k * 3, none⟩ = some (.slice (some ⟨b, 0, none⟩) 8 lc) ∧ Below w.heap.size w w.drew) := ⟨x4, x5, c0, (Below.refl _ _).drew⟩
  have HSL := hide hsl
  have HY := hide hy
  have HH := hide H
  have HEA := hide ea
  have HR1 : Hid (rgC D 1 = gt (gx D.cs k).1 1 ∧ rgC D 2 = gt (gx D.cs k).1 2 ∧ rgC D 3 = gt (gx D.cs k).1 3) := by unfold rgC; rw [hact]; exact ⟨rfl, rfl, rfl⟩
  clear hy hr H f1 f2 f3 fz blk c1 c2 c0 x4 x5 hsl ea
  go_enter Tryz.func66, Tryz.ntmps66
  go_wp2_with fail
  go_cut [5] (fun v wd => ∃ ra rc, v = .slice ra 8 rc ∧ Sl wd ra 8 (gx D.cs k).1 ∧ Below w.heap.size w wd)
  case first =>
    go_region_held2 (fun X => X.cell? ⟨P, 4, none⟩ = some (.slice (some ⟨N, 0, none⟩) A.xn A.xc) ∧ X.cell? ⟨P, 5, none⟩ = some (.int .i64 (k : Int)) ∧ X.cell? ⟨N, k * 3, none⟩ = some (.slice (some ⟨b, 0, none⟩) 8 lc) ∧ Below w.heap.size w X)
      (first | with_reducible exact HS0.out | with_reducible assumption)
      (first
        | (go_at_call 124; refine (l1Ints_O (some ⟨b, 0, none⟩) 8 lc (gx D.cs k).1 _ (by omega) (HSL.out.below (q3_bel (by with_reducible assumption)) (Nat.le_refl _))).mono ?_; rintro e ws ⟨ra, rc, rfl, _, os, gs⟩; have hss := q3_below hPl hPl lN (by with_reducible assumption) gs; have HOS := hide os.sl; clear gs os))
    all_goals go_wp2_with fail
    all_goals go_meet
    all_goals exact ⟨_, _, rfl, HOS.out, q3_bel (by with_reducible assumption)⟩
  case rest =>
  obtain ⟨ra, rc, rfl, sl, gd⟩ := hcut
  obtain ⟨w1, rfl⟩ : ∃ x, x = wc := ⟨wc, rfl⟩
  obtain ⟨b2, o2, rfl, hb2, hc2⟩ := sl.2 (by omega)
  have r1 := hc2 1 (by omega)
  have r2 := hc2 2 (by omega)
  have r3 := hc2 3 (by omega)
  have z1 := gd.size
  have Y1 := HY.out.below gd
  have s1 : ∀ q, S q → q < w1.heap.size := fun q e => by have := hS q e; omega
  have H1 := HH.out.move HY.out.y.oy.rs Y1.y.oy.rs
  have HU1 := hide (OutS.of_below (S := fun q => S q ∨ q = P) gd)
  clear sl hc2 gd HS0
  have HM := hide (mc_o D h1 h2 h3 h4)
  have e1 : (c == 1) = false := by simpa using h1
  have e2 : (c == 2) = false := by simpa using h2
  have e3 : (c == 3) = false := by simpa using h3
  have e4' : (c == 4) = false := by simpa using h4
  obtain ⟨w3, hw3⟩ : ∃ x, x = w1 := ⟨_, rfl⟩
  obtain ⟨B, hB⟩ : ∃ x, x = A := ⟨_, rfl⟩
  have Y3 := Y1
  have u3 := HU1.out
  rw [← hw3, ← hB] at Y3
  rw [← hw3] at u3
  have l9 : B.xn = A.xn := by rw [hB]
  subst hw3
  clear Y1 H1 r1 r2 r3 h1 h2 h3 h4 hB
  have l3 : B.xn = A.xn := by
    have := Y3.y.oy.rs.len.2.2.2.2.1
    omega
  have hk3 : k < B.xn := by omega
  have h83 : (gx (D).cs k).1.length = 8 := h8
  obtain ⟨N3, b3, lc3, ea3, sN3, sb3, _, nP3, bP3, d0, _, _, _, blk3, _, _, g3⟩ := Y3.ctx hk3 (by omega)
  rw [h83] at d0
  have e4 := Y3.cs.cell 4 rfl
  have e5 := Y3.cs.cell 5 rfl
  simp only [Nat.zero_add] at e4 e5
  rw [ea3] at e4
  have hac3 : (D).ac = (k : Int) := hac
  rw [hac3] at e5
  have kk2 : (k : Int) < (B.xn : Int) := by omega
  have q0 := blk3.2.1 0 (by omega)
  have q0f := blk3.2.2 0
  have z3 := u3.size
  have HF2 : Hid (YM P 0 (fun q => S q ∨ (w.heap.size ≤ q ∧ q < (w3.setCell ⟨b3, 0, none⟩ (.int .i64 (1))).heap.size)) B (hdX (D) (1)) (w3.setCell ⟨b3, 0, none⟩ (.int .i64 (1)))) := by
    have h1 := g3 0 (1) (by omega)
    show YM _ _ _ _ _ _
    have e9 : (D).ac.toNat = k := by rw [hac3]; rfl
    unfold hdX
    rw [e9]
    refine h1.mono (fun q e => ?_) (fun e => ?_)
    · exact .inl e
    · rcases e with e | e
      · exact HY.out.ns e
      · omega
  have HU := hide (u3.setNew (p := ⟨b3, 0, none⟩) (.inl (.inl sb3)) (.int .i64 (1)))
  clear g3 blk3 Y3 u3
  go_wp2_with fail
  go_still_tail 13, (by kernel_rfl)
  have hyw : { heap := w3.heap, tape := w3.tape, drawn := w3.drawn + 1, os := w3.os, output := w3.output } = w3.drew := rfl
  try rw [hyw]
  clear hyw
  go_wp2
  go_ret
  exact ⟨ret_int (by rw [HM.out.1]), ⟨B, by rw [HM.out.2]; exact HF2.out.below (Below.refl _ _).drew⟩, HU.out.trans (OutS.of_below (Below.refl _ _).drew)⟩

theorem l8Call_gen (P : Nat) (S : Nat → Prop) (A : SA) (D : SD) (k : Nat) (c : Int) (w : World) (hy : YM P 0 S A D w) (H : SysR A D k) (hS : ∀ q, S q → q < w.heap.size) :
    Calls Tryz.prog 66 #[.pointer (some ⟨P, 0, none⟩), .int .i64 c] w fun e w' => e = .returned (.int .i64 (mcS D c)) ∧ (∃ B, YM P 0 (fun q => S q ∨ (w.heap.size ≤ q ∧ q < w'.heap.size)) B (mcD D c) w') ∧ OutS (fun q => S q ∨ q = P) w w' := by
  by_cases h1 : c = 1
  · subst h1; exact l8Call_1 P S A D k w hy H hS
  by_cases h2 : c = 2
  · subst h2; exact l8Call_2 P S A D k w hy H hS
  by_cases h3 : c = 3
  · subst h3; exact l8Call_3 P S A D k w hy H hS
  by_cases h4 : c = 4
  · subst h4; exact l8Call_4 P S A D k w hy H hS
  exact l8Call_o P S A D k c w hy H hS h1 h2 h3 h4

end Go.Proofs.YtcojgmecocjnkaaGreat
