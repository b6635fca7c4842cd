import Derived.Test.YtgkjmeogdomgmaaGreatRows
import Derived.Test.YtgkjmeogdomgmaaGreatG28
import Derived.Test.YtgkjmeogdomgmaaGreatG25
import Derived.WalkLawsBesides
import Derived.Recover
import Derived.WalkKit
import Derived.ProofKit
import Derived.OpenShut
import Derived.ShutString
import Derived.ChangeOld
import Derived.Below
import Derived.WalkSpells
import Derived.Deep.QuietTactic
import Derived.BigQuiet
import Derived.Deep.RegionWith
import Derived.Deep.WholeRow
import Derived.Deep.DeepCutAuto
import Derived.Deep.RegionHeld2
import Derived.Deep.AppendLies
import Derived.Deep.RegionLaw
namespace Go.Proofs.YtgkjmeogdomgmaaGreat
open Go.ChangeShapes Go.WideShapes Go.ChangeAt Go.RowKit

set_option maxRecDepth 100000 in
theorem insist_yes (w : World) : Calls Tryz.prog 121 #[.bool true] w fun e w' => e = .returned (.tuple #[]) ∧ w' = w := by
  go_enter Tryz.func121, Tryz.ntmps121
  go_wp2
  exact bodyPost_end (v := .tuple #[]) (by simp [results, Tryz.results121, go_sem]) rfl ⟨rfl, rfl⟩

set_option maxRecDepth 100000 in
theorem insist_no (w : World) : Calls Tryz.prog 121 #[.bool false] w fun e w' => (∃ t pv, e = .panicked [{ v := .iface t pv, recovered := false }]) ∧ w' = w := by
  go_enter Tryz.func121, Tryz.ntmps121
  go_wp2
  exact ⟨rfl, ⟨_, _, rfl⟩, rfl⟩

theorem Cs.set13 {P : Nat} {u0 u1 u2 u3 u4 u5 u6 u7 u8 u9 u10 u11 u12 : Value} {w : World} (h : Cs P [u0, u1, u2, u3, u4, u5, u6, u7, u8, u9, u10, u11, u12] w) (v0 v1 v2 v3 v4 v5 v6 v7 v8 v9 v10 v11 v12 : Value) : Cs P [v0, v1, v2, v3, v4, v5, v6, v7, v8, v9, v10, v11, v12] (((((((((((((w.setCell ⟨P, 0, none⟩ v0).setCell ⟨P, 1, none⟩ v1).setCell ⟨P, 2, none⟩ v2).setCell ⟨P, 3, none⟩ v3).setCell ⟨P, 4, none⟩ v4).setCell ⟨P, 5, none⟩ v5).setCell ⟨P, 6, none⟩ v6).setCell ⟨P, 7, none⟩ v7).setCell ⟨P, 8, none⟩ v8).setCell ⟨P, 9, none⟩ v9).setCell ⟨P, 10, none⟩ v10).setCell ⟨P, 11, none⟩ v11).setCell ⟨P, 12, none⟩ v12) := by
  have h0 := h.set 0 (by simp) v0
  simp only [List.set] at h0
  have h1 := h0.set 1 (by simp) v1
  simp only [List.set] at h1
  have h2 := h1.set 2 (by simp) v2
  simp only [List.set] at h2
  have h3 := h2.set 3 (by simp) v3
  simp only [List.set] at h3
  have h4 := h3.set 4 (by simp) v4
  simp only [List.set] at h4
  have h5 := h4.set 5 (by simp) v5
  simp only [List.set] at h5
  have h6 := h5.set 6 (by simp) v6
  simp only [List.set] at h6
  have h7 := h6.set 7 (by simp) v7
  simp only [List.set] at h7
  have h8 := h7.set 8 (by simp) v8
  simp only [List.set] at h8
  have h9 := h8.set 9 (by simp) v9
  simp only [List.set] at h9
  have h10 := h9.set 10 (by simp) v10
  simp only [List.set] at h10
  have h11 := h10.set 11 (by simp) v11
  simp only [List.set] at h11
  have h12 := h11.set 12 (by simp) v12
  simp only [List.set] at h12
  exact h12

set_option maxHeartbeats 4000000 in
theorem catch_panicking (R1 Q R : Nat) (rf : Int) (A : SA) (D : SD) (u : TypeId) (pv : Value) (older : List PanicEntry) (w : World) (q0 : w.cell? ⟨R1, 0, none⟩ = some (.int .i64 rf)) (hs : Cs Q [.slice A.a A.n A.c, .slice A.ta A.tn A.tc, .slice A.da A.dn A.dc, .slice A.wa A.wn A.wc, .slice A.xa A.xn A.xc, .int .i64 D.ac, .int .i64 D.cz, .slice A.la A.ln A.lc, .int .i64 D.dv, .slice A.oa A.on A.oc, .slice A.ga A.gn A.gc] w) (ha : Cs R [.int .i64 0, .int .i64 0, .slice none 0 0, .slice none 0 0, .slice none 0 0, .slice none 0 0, .slice none 0 0, .int .i64 0, .int .i64 0, .slice none 0 0, .int .i64 0, .slice none 0 0, .slice none 0 0] w) (hr : RS w A D) (hz : szY A D ≤ 1048576) :
    CallsD Tryz.prog 118 #[.pointer (some ⟨R1, 0, none⟩), .pointer (some ⟨Q, 0, none⟩), .pointer (some ⟨R, 0, none⟩)] (.panicking ({ v := .iface u pv, recovered := false } :: older)) w fun e u' w' =>
      e = .returned (.tuple #[]) ∧ u' = .panicking ({ v := .iface u pv, recovered := true } :: older) ∧ ∃ B : SA, Cs R [.int .i64 0, .int .i64 rf, .slice B.a B.n B.c, .slice B.ta B.tn B.tc, .slice B.da B.dn B.dc, .slice B.wa B.wn B.wc, .slice B.xa B.xn B.xc, .int .i64 D.ac, .int .i64 D.cz, .slice B.la B.ln B.lc, .int .i64 D.dv, .slice B.oa B.on B.oc, .slice B.ga B.gn B.gc] w' ∧ OY (InR w.heap.size w'.heap.size) B D w' ∧ OutS (fun q => q = R) w w' := by
  refine callsD_of_wpS Tryz.func118 rfl fun c₀ cs hu => ?_
  apply wpS_seq
  apply wpS_region
  simp [wpOpsS, go_sem, recoverD, hu, Tryz.ntmps118, Exit.thenS]
  refine wpS_cond (t := true) (by simp [Act.eval, Array.replicate]) ?_
  simp only [if_true]
  have a0 := hs.cell 0 rfl
  have a1 := hs.cell 1 rfl
  have a2 := hs.cell 2 rfl
  have a3 := hs.cell 3 rfl
  have a4 := hs.cell 4 rfl
  have a5 := hs.cell 5 rfl
  have a6 := hs.cell 6 rfl
  have a7 := hs.cell 7 rfl
  have a8 := hs.cell 8 rfl
  have a9 := hs.cell 9 rfl
  have a10 := hs.cell 10 rfl
  have c0 := ha.cell 0 rfl
  have f0 := ha.fz 0 (by simp)
  have c1 := ha.cell 1 rfl
  have f1 := ha.fz 1 (by simp)
  have c2 := ha.cell 2 rfl
  have f2 := ha.fz 2 (by simp)
  have c3 := ha.cell 3 rfl
  have f3 := ha.fz 3 (by simp)
  have c4 := ha.cell 4 rfl
  have f4 := ha.fz 4 (by simp)
  have c5 := ha.cell 5 rfl
  have f5 := ha.fz 5 (by simp)
  have c6 := ha.cell 6 rfl
  have f6 := ha.fz 6 (by simp)
  have c7 := ha.cell 7 rfl
  have f7 := ha.fz 7 (by simp)
  have c8 := ha.cell 8 rfl
  have f8 := ha.fz 8 (by simp)
  have c9 := ha.cell 9 rfl
  have f9 := ha.fz 9 (by simp)
  have c10 := ha.cell 10 rfl
  have f10 := ha.fz 10 (by simp)
  have c11 := ha.cell 11 rfl
  have f11 := ha.fz 11 (by simp)
  have c12 := ha.cell 12 rfl
  have f12 := ha.fz 12 (by simp)
  have lR := ha.1
  have lQ := hs.1
  have l1 := World.block_lt_of_cell? _ _ q0
  rw [show (#[.pointer (some ⟨R1, 0, none⟩), .pointer (some ⟨Q, 0, none⟩), .pointer (some ⟨R, 0, none⟩)] ++ ((Array.replicate 6 undef).setIfInBounds 0 (.iface u pv)).setIfInBounds 1 (.bool true) : Array Value) = #[.pointer (some ⟨R1, 0, none⟩), .pointer (some ⟨Q, 0, none⟩), .pointer (some ⟨R, 0, none⟩), .iface u pv, .bool true, undef, undef, undef, undef] from rfl]
  refine wpS_of_wp ?_
  have hrw := hr.below ((Below.refl w.heap.size w).drew) (Nat.le_refl _)
  have HA := hide ha
  clear hs ha
  go_wp2_with fail
  go_region_with (first
    | (go_at_call 119; refine (copiedSystem_O A D _ hz hrw).mono ?_; rintro e wa ⟨B, rfl, oy, ga⟩; have p0 := (ga.cell (p := ⟨R1, 0, none⟩) l1).trans q0; have d0 := (ga.cell (p := ⟨R, 0, none⟩) lR).trans c0; have h0 := (World.frozen?_of_block (a := ⟨R, 0, none⟩) (ga.block R lR)).trans f0; have d1 := (ga.cell (p := ⟨R, 1, none⟩) lR).trans c1; have h1 := (World.frozen?_of_block (a := ⟨R, 1, none⟩) (ga.block R lR)).trans f1; have d2 := (ga.cell (p := ⟨R, 2, none⟩) lR).trans c2; have h2 := (World.frozen?_of_block (a := ⟨R, 2, none⟩) (ga.block R lR)).trans f2; have d3 := (ga.cell (p := ⟨R, 3, none⟩) lR).trans c3; have h3 := (World.frozen?_of_block (a := ⟨R, 3, none⟩) (ga.block R lR)).trans f3; have d4 := (ga.cell (p := ⟨R, 4, none⟩) lR).trans c4; have h4 := (World.frozen?_of_block (a := ⟨R, 4, none⟩) (ga.block R lR)).trans f4; have d5 := (ga.cell (p := ⟨R, 5, none⟩) lR).trans c5; have h5 := (World.frozen?_of_block (a := ⟨R, 5, none⟩) (ga.block R lR)).trans f5; have d6 := (ga.cell (p := ⟨R, 6, none⟩) lR).trans c6; have h6 := (World.frozen?_of_block (a := ⟨R, 6, none⟩) (ga.block R lR)).trans f6; have d7 := (ga.cell (p := ⟨R, 7, none⟩) lR).trans c7; have h7 := (World.frozen?_of_block (a := ⟨R, 7, none⟩) (ga.block R lR)).trans f7; have d8 := (ga.cell (p := ⟨R, 8, none⟩) lR).trans c8; have h8 := (World.frozen?_of_block (a := ⟨R, 8, none⟩) (ga.block R lR)).trans f8; have d9 := (ga.cell (p := ⟨R, 9, none⟩) lR).trans c9; have h9 := (World.frozen?_of_block (a := ⟨R, 9, none⟩) (ga.block R lR)).trans f9; have d10 := (ga.cell (p := ⟨R, 10, none⟩) lR).trans c10; have h10 := (World.frozen?_of_block (a := ⟨R, 10, none⟩) (ga.block R lR)).trans f10; have d11 := (ga.cell (p := ⟨R, 11, none⟩) lR).trans c11; have h11 := (World.frozen?_of_block (a := ⟨R, 11, none⟩) (ga.block R lR)).trans f11; have d12 := (ga.cell (p := ⟨R, 12, none⟩) lR).trans c12; have h12 := (World.frozen?_of_block (a := ⟨R, 12, none⟩) (ga.block R lR)).trans f12))
  all_goals (
    have z := ga.size
    have HC := Cs.set13 (Cs.loc.below ga (Cs.loc.below ((Below.refl w.heap.size w).drew) HA.out)) (.int .i64 0) (.int .i64 rf) (.slice B.a B.n B.c) (.slice B.ta B.tn B.tc) (.slice B.da B.dn B.dc) (.slice B.wa B.wn B.wc) (.slice B.xa B.xn B.xc) (.int .i64 D.ac) (.int .i64 D.cz) (.slice B.la B.ln B.lc) (.int .i64 D.dv) (.slice B.oa B.on B.oc) (.slice B.ga B.gn B.gc)
    have HO := loc_set13 OY.loc oy.oy (P := R) (fun h => by have := h.1; simp only [World.size_drew] at this; omega) (.int .i64 0) (.int .i64 rf) (.slice B.a B.n B.c) (.slice B.ta B.tn B.tc) (.slice B.da B.dn B.dc) (.slice B.wa B.wn B.wc) (.slice B.xa B.xn B.xc) (.int .i64 D.ac) (.int .i64 D.cz) (.slice B.la B.ln B.lc) (.int .i64 D.dv) (.slice B.oa B.on B.oc) (.slice B.ga B.gn B.gc)
    have HU := outs_set13 (S := fun q => q = R) (OutS.of_below (((Below.refl w.heap.size w).drew).trans ga)) (P := R) rfl (.int .i64 0) (.int .i64 rf) (.slice B.a B.n B.c) (.slice B.ta B.tn B.tc) (.slice B.da B.dn B.dc) (.slice B.wa B.wn B.wc) (.slice B.xa B.xn B.xc) (.int .i64 D.ac) (.int .i64 D.cz) (.slice B.la B.ln B.lc) (.int .i64 D.dv) (.slice B.oa B.on B.oc) (.slice B.ga B.gn B.gc)
    refine ⟨rfl, _, rfl, .tuple #[], by simp [results, Tryz.results118, go_sem], rfl, rfl, B, HC, ?_, HU⟩
    exact HO.mono (fun q hq => ⟨by simpa using hq.1, by simpa using hq.2⟩))

theorem catch_idle (R1 Q R : Nat) (w : World) :
    CallsD Tryz.prog 118 #[.pointer (some ⟨R1, 0, none⟩), .pointer (some ⟨Q, 0, none⟩), .pointer (some ⟨R, 0, none⟩)] .returning w fun e u' w' => e = .returned (.tuple #[]) ∧ u' = .returning ∧ w' = w := by
  refine callsD_of_wpS Tryz.func118 rfl fun c₀ cs hu => ?_
  apply wpS_seq
  apply wpS_region
  simp [wpOpsS, go_sem, recoverD, hu, Tryz.ntmps118, Exit.thenS]
  refine wpS_cond (t := false) (by simp [Act.eval, Array.replicate]) ?_
  simp only [Bool.false_eq_true, if_false]
  refine wpS_of_wp (wp_skip ?_)
  cases c₀
  simp_all [bodyPostS, results, Tryz.results118]

end Go.Proofs.YtgkjmeogdomgmaaGreat
