import Derived.Test.YtgkjmeogdomgmaaLeaveP
import Derived.WalkKit
import Derived.ProofKit
import Derived.OpenShut
import Derived.ShutString
import Derived.ChangeOld
import Derived.Below
import Derived.WalkSpells
import Derived.Deep.QuietTactic
import Derived.BigQuiet
import Derived.Deep.RegionWith
import Derived.Deep.WholeRow
import Derived.Deep.DeepCutAuto
import Derived.Deep.RegionHeld2
import Derived.Deep.AppendLies
import Derived.Deep.RegionLaw
namespace Go.Proofs.Ytgkjmeogdomgmaa
open Go.ChangeShapes Go.WideShapes Go.ChangeAt Go.RowKit

set_option maxRecDepth 100000 in
set_option maxHeartbeats 2000000 in
theorem leave_calls (P M n : Nat) (p : Int) (ss : List (Int × List Int)) (D : DataW Unit) (w : World) (hb : Bk w P M (ss.length : Int) n D) (hn : n ≤ 100) (good : Good ss) (rep : Rep ss D) :
    Calls Try.prog 80 #[.pointer (some ⟨P, 0, none⟩), .int .i64 p] w (LV P M n ss p w) := by
  by_cases hc : atC ss p = 0
  · have ec : (atC ss p != 0) = false := by simp [hc]
    obtain ⟨q, rfl, hq, hp, hL, hV⟩ := atC_zero good hc
    have hf := good.right q hq hp
    have Hc := hide hc
    have HV := hide hV
    have htop := good.top q hq
    clear hc hV
    go_enter Try.func80, Try.ntmps80
    go_wp2_with fail
    refine (markAt_calls P M n _ ss D _ hb good rep).mono ?_
    rintro e w1 ⟨rfl, g1⟩
    rw [hL]
    have M1 := ((Mm.start w).below g1).alloc4 (.int .i64 (gt (gl ss q) 0)) (.int .i64 (gt (gl ss q) 1)) (.int .i64 (gt (gl ss q) 2)) (.int .i64 (gt (gl ss q) 3)) 127
    have al := (Below.refl w1.heap.size w1).alloc (Nat.le_refl _) (.cells #[.int .i64 (gt (gl ss q) 0), .int .i64 (gt (gl ss q) 1), .int .i64 (gt (gl ss q) 2), .int .i64 (gt (gl ss q) 3)] 127)
    have hbW := (hb.below g1).below al
    have hP := hbW.lt
    have b1 := hbW.c1
    have k0 := M1.cell 0 rfl
    have k1 := M1.cell 1 rfl
    have k2 := M1.cell 2 rfl
    have k3 := M1.cell 3 rfl
    have lK := M1.lt 0 rfl
    have hWb := M1.bel
    unfold ints4
    clear g1 al
    go_upto_region 4 with fail
    generalize hW : (w1.alloc (.cells #[.int .i64 (gt (gl ss q) 0), .int .i64 (gt (gl ss q) 1), .int .i64 (gt (gl ss q) 2), .int .i64 (gt (gl ss q) 3)] 127)) = W at hbW hP b1 k0 k1 k2 k3 lK hWb M1 ⊢
    clear hW
    obtain ⟨lp, lc, hat, hlook⟩ := look1_run hbW.own hf
    obtain ⟨rfl, rfl⟩ := st_inj (hat.symm.trans (rep.vals q hq hp (st 0 0)))
    have L1 := hlook n W.drew hbW.own.drew
    have L2 := hlook n ((W.alloc (.cells #[.int .i64 0, .int .i64 0] 154)).drew) (hbW.own.alloc _).drew
    unfold ints4 at L1 L2
    have nP := World.new_ne W ⟨P, 1, none⟩ b1
    have nK := World.new_ne W ⟨w1.heap.size, 0, none⟩ k0
    clear hlook hat
    go_cut [8] (fun v wc => v = .pointer (some ⟨W.heap.size, 0, none⟩) ∧ wc = (W.alloc (.cells #[.int .i64 (q : Int), .int .i64 (gc ss q)] 154)).drew)
    case first =>
      go_region_held2 (fun w' => w'.cell? ⟨P, 1, none⟩ = some (.map (some M)) ∧ w'.cell? ⟨w1.heap.size, 0, none⟩ = some (.int .i64 (gt (gl ss q) 0)) ∧ w'.cell? ⟨w1.heap.size, 1, none⟩ = some (.int .i64 (gt (gl ss q) 1)) ∧ w'.cell? ⟨w1.heap.size, 2, none⟩ = some (.int .i64 (gt (gl ss q) 2)) ∧ w'.cell? ⟨w1.heap.size, 3, none⟩ = some (.int .i64 (gt (gl ss q) 3)))
        (go_keep) (fail)
      all_goals go_wp2_with fail
      all_goals go_meet
      all_goals exact ⟨rfl, rfl⟩
    case rest =>
      obtain ⟨rfl, rfl⟩ := hcut
      clear L1 L2
      have al : Below W.heap.size W (W.alloc (.cells #[.int .i64 (q : Int), .int .i64 (gc ss q - 1)] 154)).drew := ((Below.refl _ _).alloc (Nat.le_refl _) _).drew
      have BU := hbW.below al
      have hwU := hWb.trans (al.mono hWb.size)
      have q0 := (al.cell (p := ⟨w1.heap.size, 0, none⟩) lK).trans k0
      have q1 := (al.cell (p := ⟨w1.heap.size, 1, none⟩) lK).trans k1
      have q2 := (al.cell (p := ⟨w1.heap.size, 2, none⟩) lK).trans k2
      have q3 := (al.cell (p := ⟨w1.heap.size, 3, none⟩) lK).trans k3
      have z0 : (W.alloc (.cells #[.int .i64 (q : Int), .int .i64 (gc ss q - 1)] 154)).drew.cell? ⟨W.heap.size, 0, none⟩ = some (.int .i64 (q : Int)) := by go_simp
      have z1 : (W.alloc (.cells #[.int .i64 (q : Int), .int .i64 (gc ss q - 1)] 154)).drew.cell? ⟨W.heap.size, 1, none⟩ = some (.int .i64 (gc ss q - 1)) := by go_simp
      have lU : W.heap.size < (W.alloc (.cells #[.int .i64 (q : Int), .int .i64 (gc ss q - 1)] 154)).drew.heap.size := by simp
      have lKU : w1.heap.size < (W.alloc (.cells #[.int .i64 (q : Int), .int .i64 (gc ss q - 1)] 154)).drew.heap.size := by simp; omega
      by_cases h1 : gc ss q = 1
      · have e1 : (gc ss q - 1 == 0) = true := by simp [h1]
        have H1 := hide h1
        clear h1 al
        go_upto_region 7 with fail
        generalize hU : (W.alloc (.cells #[.int .i64 (q : Int), .int .i64 (gc ss q - 1)] 154)).drew = U at BU hwU q0 q1 q2 q3 z0 z1 lU lKU ⊢
        clear hU
        have neM := BU.ne
        obtain ⟨es, clock, hbM, _⟩ := BU.own
        have nc : ∀ k v, U.cell? ⟨k, 0, none⟩ = some v → k ≠ M := fun k v hc e => by
          subst e
          simp [World.cell?, hbM] at hc
        have nK := nc _ _ q0
        have nZ := nc _ _ z0
        have kP := BU.lt
        obtain ⟨w4, hup, own4, tu4⟩ := (BU.own.drew).drop lawK Try.underlying76 (key_mk hf) 0
        have gr4 := tu4.grown
        have Hown := hide (own4.mono (Nat.le_succ n))
        have blkM : ∀ k, k < U.heap.size → k ≠ M → w4.heap[k]? = U.heap[k]? := fun k hk hne => gr4.block k hk (fun e => hne (by injection e))
        have HSa : Hid (U.drew.cell? ⟨P, 1, none⟩ = some (.map (some M)) ∧ U.drew.cell? ⟨w1.heap.size, 0, none⟩ = some (.int .i64 (gt (gl ss q) 0)) ∧ U.drew.cell? ⟨w1.heap.size, 1, none⟩ = some (.int .i64 (gt (gl ss q) 1)) ∧ U.drew.cell? ⟨w1.heap.size, 2, none⟩ = some (.int .i64 (gt (gl ss q) 2)) ∧ U.drew.cell? ⟨w1.heap.size, 3, none⟩ = some (.int .i64 (gt (gl ss q) 3)) ∧ U.drew.cell? ⟨W.heap.size, 0, none⟩ = some (.int .i64 (q : Int)) ∧ U.drew.cell? ⟨W.heap.size, 1, none⟩ = some (.int .i64 (gc ss q - 1))) := ⟨BU.c1, q0, q1, q2, q3, z0, z1⟩
        have HSb : Hid (w4.cell? ⟨P, 1, none⟩ = some (.map (some M)) ∧ w4.cell? ⟨w1.heap.size, 0, none⟩ = some (.int .i64 (gt (gl ss q) 0)) ∧ w4.cell? ⟨w1.heap.size, 1, none⟩ = some (.int .i64 (gt (gl ss q) 1)) ∧ w4.cell? ⟨w1.heap.size, 2, none⟩ = some (.int .i64 (gt (gl ss q) 2)) ∧ w4.cell? ⟨w1.heap.size, 3, none⟩ = some (.int .i64 (gt (gl ss q) 3)) ∧ w4.cell? ⟨W.heap.size, 0, none⟩ = some (.int .i64 (q : Int)) ∧ w4.cell? ⟨W.heap.size, 1, none⟩ = some (.int .i64 (gc ss q - 1))) :=
          ⟨(World.cell?_of_block (a := ⟨P, 1, none⟩) (blkM P kP neM.symm)).trans BU.c1, (World.cell?_of_block (a := ⟨w1.heap.size, 0, none⟩) (blkM _ lKU nK)).trans q0, (World.cell?_of_block (a := ⟨w1.heap.size, 1, none⟩) (blkM _ lKU nK)).trans q1, (World.cell?_of_block (a := ⟨w1.heap.size, 2, none⟩) (blkM _ lKU nK)).trans q2, (World.cell?_of_block (a := ⟨w1.heap.size, 3, none⟩) (blkM _ lKU nK)).trans q3, (World.cell?_of_block (a := ⟨W.heap.size, 0, none⟩) (blkM _ lU nZ)).trans z0, (World.cell?_of_block (a := ⟨W.heap.size, 1, none⟩) (blkM _ lU nZ)).trans z1⟩
        have y1 := HSb.out.2.2.2.2.2.2
        have HBk : Hid (Bk w4 P M (ss.length : Int) (n + 1) (leaveD ss q D)) := by
          refine ⟨by have := gr4.size; simp at this; omega, (World.cell?_of_block (a := ⟨P, 0, none⟩) (blkM P kP neM.symm)).trans BU.c0, HSb.out.1, fun j => (World.frozen?_of_block (a := ⟨P, j, none⟩) (blkM P kP neM.symm)).trans (BU.f j), ?_⟩
          unfold leaveD
          rw [if_pos H1.out]
          exact Hown.out
        have HO : Hid (OutS (fun k => k = M) w w4) := (OutS.of_below hwU).trans ⟨gr4.os, gr4.tape, gr4.output, gr4.size, fun k hk hn => blkM k hk hn⟩
        have HR := hide (rep_leave good rep hb.own.isMap hq hp)
        unfold ints4 at hup
        clear own4 gr4 blkM hbM nc nK nZ q0 q1 q2 q3 z0 z1 tu4
        go_wp2_with fail
        go_region_held2 (fun w' => w'.cell? ⟨P, 1, none⟩ = some (.map (some M)) ∧ w'.cell? ⟨w1.heap.size, 0, none⟩ = some (.int .i64 (gt (gl ss q) 0)) ∧ w'.cell? ⟨w1.heap.size, 1, none⟩ = some (.int .i64 (gt (gl ss q) 1)) ∧ w'.cell? ⟨w1.heap.size, 2, none⟩ = some (.int .i64 (gt (gl ss q) 2)) ∧ w'.cell? ⟨w1.heap.size, 3, none⟩ = some (.int .i64 (gt (gl ss q) 3)) ∧ w'.cell? ⟨W.heap.size, 0, none⟩ = some (.int .i64 (q : Int)) ∧ w'.cell? ⟨W.heap.size, 1, none⟩ = some (.int .i64 (gc ss q - 1)))
          (first | with_reducible exact HSa.out | with_reducible exact HSb.out | with_reducible assumption) (fail)
        all_goals go_wp2
        all_goals refine bodyPost_ret (v := .tuple #[.int .i64 (gc ss q - 1), .int .i64 0]) (by simp [results, Try.results80, go_sem]) rfl ⟨by rw [HV.out, Hc.out], HO.out, fun _ => ⟨_, HBk.out, HR.out⟩⟩
      · have e1 : (gc ss q - 1 == 0) = false := by simp; omega
        have H1 := hide h1
        clear h1 al
        go_upto_region 8 with fail
        generalize hU : (W.alloc (.cells #[.int .i64 (q : Int), .int .i64 (gc ss q - 1)] 154)).drew = U at BU hwU q0 q1 q2 q3 z0 z1 lU lKU ⊢
        clear hU
        have neM := BU.ne
        obtain ⟨es, clock, hbM, _⟩ := BU.own
        have nc : ∀ k v, U.cell? ⟨k, 0, none⟩ = some v → k ≠ M := fun k v hc e => by
          subst e
          simp [World.cell?, hbM] at hc
        have nK := nc _ _ q0
        have nZ := nc _ _ z0
        have kP := BU.lt
        obtain ⟨w4, hup, own4, gr4⟩ := (BU.own.drew).update lawK Try.underlying76 (by unfold maxLen; omega) (key_mk hf) (Rst_mk (q : Int) (gc ss q - 1))
        have Hown := hide own4
        have blkM : ∀ k, k < U.heap.size → k ≠ M → w4.heap[k]? = U.heap[k]? := fun k hk hne => gr4.block k hk (fun e => hne (by injection e))
        have HSa : Hid (U.drew.cell? ⟨P, 1, none⟩ = some (.map (some M)) ∧ U.drew.cell? ⟨w1.heap.size, 0, none⟩ = some (.int .i64 (gt (gl ss q) 0)) ∧ U.drew.cell? ⟨w1.heap.size, 1, none⟩ = some (.int .i64 (gt (gl ss q) 1)) ∧ U.drew.cell? ⟨w1.heap.size, 2, none⟩ = some (.int .i64 (gt (gl ss q) 2)) ∧ U.drew.cell? ⟨w1.heap.size, 3, none⟩ = some (.int .i64 (gt (gl ss q) 3)) ∧ U.drew.cell? ⟨W.heap.size, 0, none⟩ = some (.int .i64 (q : Int)) ∧ U.drew.cell? ⟨W.heap.size, 1, none⟩ = some (.int .i64 (gc ss q - 1))) := ⟨BU.c1, q0, q1, q2, q3, z0, z1⟩
        have HSb : Hid (w4.cell? ⟨P, 1, none⟩ = some (.map (some M)) ∧ w4.cell? ⟨w1.heap.size, 0, none⟩ = some (.int .i64 (gt (gl ss q) 0)) ∧ w4.cell? ⟨w1.heap.size, 1, none⟩ = some (.int .i64 (gt (gl ss q) 1)) ∧ w4.cell? ⟨w1.heap.size, 2, none⟩ = some (.int .i64 (gt (gl ss q) 2)) ∧ w4.cell? ⟨w1.heap.size, 3, none⟩ = some (.int .i64 (gt (gl ss q) 3)) ∧ w4.cell? ⟨W.heap.size, 0, none⟩ = some (.int .i64 (q : Int)) ∧ w4.cell? ⟨W.heap.size, 1, none⟩ = some (.int .i64 (gc ss q - 1))) :=
          ⟨(World.cell?_of_block (a := ⟨P, 1, none⟩) (blkM P kP neM.symm)).trans BU.c1, (World.cell?_of_block (a := ⟨w1.heap.size, 0, none⟩) (blkM _ lKU nK)).trans q0, (World.cell?_of_block (a := ⟨w1.heap.size, 1, none⟩) (blkM _ lKU nK)).trans q1, (World.cell?_of_block (a := ⟨w1.heap.size, 2, none⟩) (blkM _ lKU nK)).trans q2, (World.cell?_of_block (a := ⟨w1.heap.size, 3, none⟩) (blkM _ lKU nK)).trans q3, (World.cell?_of_block (a := ⟨W.heap.size, 0, none⟩) (blkM _ lU nZ)).trans z0, (World.cell?_of_block (a := ⟨W.heap.size, 1, none⟩) (blkM _ lU nZ)).trans z1⟩
        have y1 := HSb.out.2.2.2.2.2.2
        have HBk : Hid (Bk w4 P M (ss.length : Int) (n + 1) (leaveD ss q D)) := by
          refine ⟨by have := gr4.size; simp at this; omega, (World.cell?_of_block (a := ⟨P, 0, none⟩) (blkM P kP neM.symm)).trans BU.c0, HSb.out.1, fun j => (World.frozen?_of_block (a := ⟨P, j, none⟩) (blkM P kP neM.symm)).trans (BU.f j), ?_⟩
          unfold leaveD
          rw [if_neg H1.out]
          exact Hown.out
        have HO : Hid (OutS (fun k => k = M) w w4) := (OutS.of_below hwU).trans ⟨gr4.os, gr4.tape, gr4.output, gr4.size, fun k hk hn => blkM k hk hn⟩
        have HR := hide (rep_leave good rep hb.own.isMap hq hp)
        unfold ints4 at hup
        clear own4 gr4 blkM hbM nc nK nZ q0 q1 q2 q3 z0 z1
        go_wp2_with fail
        go_region_held2 (fun w' => w'.cell? ⟨P, 1, none⟩ = some (.map (some M)) ∧ w'.cell? ⟨w1.heap.size, 0, none⟩ = some (.int .i64 (gt (gl ss q) 0)) ∧ w'.cell? ⟨w1.heap.size, 1, none⟩ = some (.int .i64 (gt (gl ss q) 1)) ∧ w'.cell? ⟨w1.heap.size, 2, none⟩ = some (.int .i64 (gt (gl ss q) 2)) ∧ w'.cell? ⟨w1.heap.size, 3, none⟩ = some (.int .i64 (gt (gl ss q) 3)) ∧ w'.cell? ⟨W.heap.size, 0, none⟩ = some (.int .i64 (q : Int)) ∧ w'.cell? ⟨W.heap.size, 1, none⟩ = some (.int .i64 (gc ss q - 1)))
          (first | with_reducible exact HSa.out | with_reducible exact HSb.out | with_reducible assumption) (fail)
        all_goals go_wp2
        all_goals refine bodyPost_ret (v := .tuple #[.int .i64 (gc ss q - 1), .int .i64 0]) (by simp [results, Try.results80, go_sem]) rfl ⟨by rw [HV.out, Hc.out], HO.out, fun _ => ⟨_, HBk.out, HR.out⟩⟩
  · have ec : (atC ss p != 0) = true := by simp [hc]
    have HV : Hid (lvV ss p = 0) := if_neg hc
    have Hc := hide hc
    clear hc
    go_enter Try.func80, Try.ntmps80
    go_wp2_with fail
    refine (markAt_calls P M n _ ss D _ hb good rep).mono ?_
    rintro e w1 ⟨rfl, g1⟩
    unfold ints4
    have HE := hide (OutS.of_below (S := fun k => k = M) (g1.alloc g1.size (.cells #[.int .i64 (gt (atL ss p) 0), .int .i64 (gt (atL ss p) 1), .int .i64 (gt (atL ss p) 2), .int .i64 (gt (atL ss p) 3)] 127)))
    clear g1
    go_wp2
    refine bodyPost_ret (v := .tuple #[.int .i64 0, .int .i64 (atC ss p)]) (by simp [results, Try.results80, go_sem]) rfl ⟨by rw [HV.out], HE.out, fun h => absurd h Hc.out⟩

end Go.Proofs.Ytgkjmeogdomgmaa
