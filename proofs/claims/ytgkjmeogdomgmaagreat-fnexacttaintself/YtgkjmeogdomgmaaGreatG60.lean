import Derived.Test.YtgkjmeogdomgmaaGreatG6
import Derived.Test.YtgkjmeogdomgmaaGreatG3
import Derived.Test.YtgkjmeogdomgmaaGreatG23
import Derived.Test.YtgkjmeogdomgmaaGreatG8
import Derived.Test.YtgkjmeogdomgmaaGreatG2
import Derived.Laws.OwnMore
import Derived.Deep.Onto
import Derived.WalkKit
import Derived.ProofKit
import Derived.OpenShut
import Derived.ShutString
import Derived.ChangeOld
import Derived.Below
import Derived.WalkSpells
import Derived.Deep.QuietTactic
import Derived.BigQuiet
import Derived.Deep.RegionWith
import Derived.Deep.WholeRow
import Derived.Deep.DeepCutAuto
import Derived.Deep.RegionHeld2
import Derived.Deep.AppendLies
import Derived.Deep.RegionLaw
namespace Go.Proofs.YtgkjmeogdomgmaaGreat
open Go.ChangeShapes Go.WideShapes Go.ChangeAt Go.RowKit

theorem gc_set (ss : List (Int × List Int)) (q j : Nat) (x : Int × List Int) (h : q < ss.length) : gc (ss.set q x) j = if j = q then x.1 else gc ss j := by
  unfold gc
  by_cases e : j = q
  · subst e; simp [h]
  · rw [if_neg e]; simp [Ne.symm e]

theorem gl_set (ss : List (Int × List Int)) (q j : Nat) (x : Int × List Int) (h : q < ss.length) : gl (ss.set q x) j = if j = q then x.2 else gl ss j := by
  unfold gl
  by_cases e : j = q
  · subst e; simp [h]
  · rw [if_neg e]; simp [Ne.symm e]

/-- a slot meant once less. -/
def leaveX (ss : List (Int × List Int)) (q : Nat) : Int × List Int := if gc ss q = 1 then (0, []) else (gc ss q - 1, gl ss q)

def leaveS (ss : List (Int × List Int)) (q : Nat) : List (Int × List Int) := ss.set q (leaveX ss q)

theorem length_leaveS (ss : List (Int × List Int)) (q : Nat) : (leaveS ss q).length = ss.length := by simp [leaveS]

theorem leaveX_1 (ss : List (Int × List Int)) (q : Nat) : (leaveX ss q).1 = gc ss q - 1 := by
  unfold leaveX
  split
  · rename_i h; rw [h]; rfl
  · rfl

theorem leaveX_2 (ss : List (Int × List Int)) (q : Nat) : (leaveX ss q).2 = if gc ss q = 1 then [] else gl ss q := by
  unfold leaveX
  split <;> rfl

theorem gc_leave {ss : List (Int × List Int)} {q : Nat} (hq : q < ss.length) (j : Nat) : gc (leaveS ss q) j = if j = q then gc ss q - 1 else gc ss j := by
  unfold leaveS
  rw [gc_set ss q j _ hq, leaveX_1]

theorem gl_leave {ss : List (Int × List Int)} {q : Nat} (hq : q < ss.length) (j : Nat) : gl (leaveS ss q) j = if j = q then (if gc ss q = 1 then [] else gl ss q) else gl ss j := by
  unfold leaveS
  rw [gl_set ss q j _ hq, leaveX_2]

theorem good_leave {ss : List (Int × List Int)} (g : Good ss) {q : Nat} (hq : q < ss.length) (hp : 0 < gc ss q) : Good (leaveS ss q) := by
  have live : ∀ j, j < ss.length → 0 < gc (leaveS ss q) j → 0 < gc ss j ∧ gl (leaveS ss q) j = gl ss j := fun j hj h => by
    rw [gc_leave hq] at h
    rw [gl_leave hq]
    by_cases e : j = q
    · subst e
      rw [if_pos rfl] at h ⊢
      exact ⟨hp, if_neg (by omega)⟩
    · rw [if_neg e] at h ⊢
      exact ⟨h, rfl⟩
  refine ⟨by rw [length_leaveS]; exact g.few, fun j hj => ?_, fun j hj => ?_, fun j hj h0 => ?_, fun j hj h => ?_, fun i j hi hj pi pj e => ?_⟩
  · rw [length_leaveS] at hj
    rw [gc_leave hq]
    split
    · omega
    · exact g.low j hj
  · rw [length_leaveS] at hj
    rw [gc_leave hq]
    split
    · have := g.top q hq; omega
    · exact g.top j hj
  · rw [length_leaveS] at hj
    rw [gc_leave hq] at h0
    rw [gl_leave hq]
    by_cases e : j = q
    · rw [if_pos e] at h0 ⊢
      rw [if_pos (by omega)]
    · rw [if_neg e] at h0 ⊢
      exact g.empty j hj h0
  · rw [length_leaveS] at hj
    obtain ⟨h1, h2⟩ := live j hj h
    rw [h2]
    exact g.right j hj h1
  · rw [length_leaveS] at hi hj
    obtain ⟨h1, h2⟩ := live i hi pi
    obtain ⟨h3, h4⟩ := live j hj pj
    rw [h2, h4] at e
    exact g.uniq i j hi hj h1 h3 e

def leaveD (ss : List (Int × List Int)) (q : Nat) (D : DataW Unit) : DataW Unit := if gc ss q = 1 then D.del (kl (gl ss q)) else D.put (kl (gl ss q)) (st (q : Int) (gc ss q - 1))

theorem rep_leave {ss : List (Int × List Int)} (g : Good ss) {D : DataW Unit} (r : Rep ss D) (hm : Go.Maps.IsMap D) {q : Nat} (hq : q < ss.length) (hp : 0 < gc ss q) : Rep (leaveS ss q) (leaveD ss q D) := by
  have hne : ∀ j, j < ss.length → 0 < gc ss j → j ≠ q → kl (gl ss j) ≠ kl (gl ss q) := fun j hj hpj e h => e (g.uniq j q hj hq hpj hp (kl_inj (g.right j hj hpj) (g.right q hq hp) h))
  by_cases h1 : gc ss q = 1
  · unfold leaveD
    rw [if_pos h1]
    refine ⟨fun k => ?_, fun j hj hpj z => ?_⟩
    · rw [length_leaveS]
      constructor
      · intro h
        have hk : k ≠ kl (gl ss q) := fun e => by rw [e, Go.Maps.has_del_same] at h; cases h
        rw [Go.Maps.has_del_other hk] at h
        obtain ⟨j, hj, hpj, rfl⟩ := (r.keys k).1 h
        have hjq : j ≠ q := fun e => hk (by rw [e])
        exact ⟨j, hj, by rw [gc_leave hq, if_neg hjq]; exact hpj, by rw [gl_leave hq, if_neg hjq]⟩
      · rintro ⟨j, hj, hpj, rfl⟩
        have hjq : j ≠ q := fun e => by rw [gc_leave hq, if_pos e] at hpj; omega
        rw [gc_leave hq, if_neg hjq] at hpj
        rw [gl_leave hq, if_neg hjq, Go.Maps.has_del_other (hne j hj hpj hjq)]
        exact (r.keys _).2 ⟨j, hj, hpj, rfl⟩
    · rw [length_leaveS] at hj
      have hjq : j ≠ q := fun e => by rw [gc_leave hq, if_pos e] at hpj; omega
      rw [gc_leave hq, if_neg hjq] at hpj ⊢
      rw [gl_leave hq, if_neg hjq, Go.Maps.atKey_del_other (hne j hj hpj hjq)]
      exact r.vals j hj hpj z
  · unfold leaveD
    rw [if_neg h1]
    have hlive : ∀ j, 0 < gc (leaveS ss q) j ↔ 0 < gc ss j := fun j => by
      rw [gc_leave hq]
      by_cases e : j = q
      · rw [if_pos e, e]; omega
      · rw [if_neg e]
    have hlab : ∀ j, gl (leaveS ss q) j = gl ss j := fun j => by
      rw [gl_leave hq]
      by_cases e : j = q
      · rw [if_pos e, if_neg h1, e]
      · rw [if_neg e]
    refine ⟨fun k => ?_, fun j hj hpj z => ?_⟩
    · rw [length_leaveS]
      by_cases hk : k = kl (gl ss q)
      · rw [hk, Go.Maps.has_put_same hm (kl_key _)]
        exact ⟨fun _ => ⟨q, hq, (hlive q).2 hp, by rw [hlab]⟩, fun _ => rfl⟩
      · rw [Go.Maps.has_put_other hk, r.keys k]
        constructor
        · rintro ⟨j, hj, hpj, e⟩
          exact ⟨j, hj, (hlive j).2 hpj, by rw [hlab]; exact e⟩
        · rintro ⟨j, hj, hpj, e⟩
          exact ⟨j, hj, (hlive j).1 hpj, by rw [hlab] at e; exact e⟩
    · rw [length_leaveS] at hj
      have hpj' := (hlive j).1 hpj
      rw [hlab, gc_leave hq]
      by_cases e : j = q
      · subst e
        rw [if_pos rfl, Go.Maps.atKey_put_same hm (kl_key _)]
      · rw [if_neg e, Go.Maps.atKey_put_other (hne j hj hpj' e)]
        exact r.vals j hj hpj' z

def lvV (ss : List (Int × List Int)) (p : Int) : Int := if atC ss p = 0 then gc ss p.toNat - 1 else 0

theorem atC_zero {ss : List (Int × List Int)} {p : Int} (good : Good ss) (h : atC ss p = 0) : ∃ q : Nat, p = (q : Int) ∧ q < ss.length ∧ 0 < gc ss q ∧ atL ss p = gl ss q ∧ lvV ss p = gc ss q - 1 := by
  have h2 := h
  unfold atC at h2
  split at h2
  · cases h2
  · split at h2
    · cases h2
    · rename_i h3 h4
      exact ⟨p.toNat, by omega, by omega, by have := good.low p.toNat (by omega); omega, if_pos h, if_pos h⟩

theorem look1_run {w : World} {M n : Nat} {D : DataW Unit} {zs : List Int} (h : w.ownsMap Tryz.prog 239 Rst M n D) (hf : fault zs = 0) :
    ∃ p c, D.atKey (kl zs) (st 0 0) = st p c ∧ ∀ (n' : Nat) (w' : World), w'.ownsMap Tryz.prog 239 Rst M n' D →
      (Instr.lookup 172 (.map (some M)) (.agg (ints4 zs)) false).run Tryz.prog w' = .ok (.agg #[.int .i64 p, .int .i64 c]) w' := by
  obtain ⟨v, ps, _, hv⟩ := h.lookup lawK Tryz.underlying172 (zeroSt w) (Rst_mk 0 0) (key_mk hf)
  obtain ⟨p, c, rfl, hy⟩ := Rst_inv hv
  have hat : D.atKey (kl zs) (st 0 0) = st p c := by injection hy
  refine ⟨p, c, hat, fun n' w' h' => ?_⟩
  obtain ⟨v', ps', hrun, hv'⟩ := h'.lookup lawK Tryz.underlying172 (zeroSt w') (Rst_mk 0 0) (key_mk hf)
  obtain ⟨p', c', rfl, hy'⟩ := Rst_inv hv'
  have hat' : D.atKey (kl zs) (st 0 0) = st p' c' := by injection hy'
  obtain ⟨rfl, rfl⟩ := st_inj (hat.symm.trans hat')
  exact hrun

/-- what 'leave' answers. -/
def LV (P M n : Nat) (ss : List (Int × List Int)) (p : Int) (w : World) (e : Ending) (w' : World) : Prop :=
  e = .returned (.tuple #[.int .i64 (lvV ss p), .int .i64 (atC ss p)]) ∧ OutS (fun k => k = M) w w' ∧ (atC ss p = 0 → ∃ D', Bk w' P M (ss.length : Int) (n + 1) D' ∧ Rep (leaveS ss p.toNat) D')

set_option maxRecDepth 100000 in
set_option maxHeartbeats 2000000 in
theorem leave_calls (P M n : Nat) (p : Int) (ss : List (Int × List Int)) (D : DataW Unit) (w : World) (hb : Bk w P M (ss.length : Int) n D) (hn : n ≤ 100) (good : Good ss) (rep : Rep ss D) :
    Calls Tryz.prog 176 #[.pointer (some ⟨P, 0, none⟩), .int .i64 p] w (LV P M n ss p w) := by
  by_cases hc : atC ss p = 0
  · have ec : (atC ss p != 0) = false := by simp [hc]
    obtain ⟨q, rfl, hq, hp, hL, hV⟩ := atC_zero good hc
    have hf := good.right q hq hp
    have Hc := hide hc
    have HV := hide hV
    have htop := good.top q hq
    clear hc hV
    go_enter Tryz.func176, Tryz.ntmps176
    go_wp2_with fail
    refine (markAt_calls P M n _ ss D _ hb good rep).mono ?_
    rintro e w1 ⟨rfl, g1⟩
    rw [hL]
    have M1 := ((Mm.start w).below g1).alloc4 (.int .i64 (gt (gl ss q) 0)) (.int .i64 (gt (gl ss q) 1)) (.int .i64 (gt (gl ss q) 2)) (.int .i64 (gt (gl ss q) 3)) 239
    have al := (Below.refl w1.heap.size w1).alloc (Nat.le_refl _) (.cells #[.int .i64 (gt (gl ss q) 0), .int .i64 (gt (gl ss q) 1), .int .i64 (gt (gl ss q) 2), .int .i64 (gt (gl ss q) 3)] 239)
    have hbW := (hb.below g1).below al
    have hP := hbW.lt
    have b1 := hbW.c1
    have k0 := M1.cell 0 rfl
    have k1 := M1.cell 1 rfl
    have k2 := M1.cell 2 rfl
    have k3 := M1.cell 3 rfl
    have lK := M1.lt 0 rfl
    have hWb := M1.bel
    unfold ints4
    clear g1 al
    go_upto_region 4 with fail
    generalize hW : (w1.alloc (.cells #[.int .i64 (gt (gl ss q) 0), .int .i64 (gt (gl ss q) 1), .int .i64 (gt (gl ss q) 2), .int .i64 (gt (gl ss q) 3)] 239)) = W at hbW hP b1 k0 k1 k2 k3 lK hWb M1 ⊢
    clear hW
    obtain ⟨lp, lc, hat, hlook⟩ := look1_run hbW.own hf
    obtain ⟨rfl, rfl⟩ := st_inj (hat.symm.trans (rep.vals q hq hp (st 0 0)))
    have L1 := hlook n W.drew hbW.own.drew
    have L2 := hlook n ((W.alloc (.cells #[.int .i64 0, .int .i64 0] 247)).drew) (hbW.own.alloc _).drew
    unfold ints4 at L1 L2
    have nP := World.new_ne W ⟨P, 1, none⟩ b1
    have nK := World.new_ne W ⟨w1.heap.size, 0, none⟩ k0
    clear hlook hat
    go_cut [8] (fun v wc => v = .pointer (some ⟨W.heap.size, 0, none⟩) ∧ wc = (W.alloc (.cells #[.int .i64 (q : Int), .int .i64 (gc ss q)] 247)).drew)
    case first =>
      go_region_held2 (fun w' => w'.cell? ⟨P, 1, none⟩ = some (.map (some M)) ∧ w'.cell? ⟨w1.heap.size, 0, none⟩ = some (.int .i64 (gt (gl ss q) 0)) ∧ w'.cell? ⟨w1.heap.size, 1, none⟩ = some (.int .i64 (gt (gl ss q) 1)) ∧ w'.cell? ⟨w1.heap.size, 2, none⟩ = some (.int .i64 (gt (gl ss q) 2)) ∧ w'.cell? ⟨w1.heap.size, 3, none⟩ = some (.int .i64 (gt (gl ss q) 3)))
        (go_keep) (fail)
      all_goals go_wp2_with fail
      all_goals go_meet
      all_goals exact ⟨rfl, rfl⟩
    case rest =>
      obtain ⟨rfl, rfl⟩ := hcut
      clear L1 L2
      have al : Below W.heap.size W (W.alloc (.cells #[.int .i64 (q : Int), .int .i64 (gc ss q - 1)] 247)).drew := ((Below.refl _ _).alloc (Nat.le_refl _) _).drew
      have BU := hbW.below al
      have hwU := hWb.trans (al.mono hWb.size)
      have q0 := (al.cell (p := ⟨w1.heap.size, 0, none⟩) lK).trans k0
      have q1 := (al.cell (p := ⟨w1.heap.size, 1, none⟩) lK).trans k1
      have q2 := (al.cell (p := ⟨w1.heap.size, 2, none⟩) lK).trans k2
      have q3 := (al.cell (p := ⟨w1.heap.size, 3, none⟩) lK).trans k3
      have z0 : (W.alloc (.cells #[.int .i64 (q : Int), .int .i64 (gc ss q - 1)] 247)).drew.cell? ⟨W.heap.size, 0, none⟩ = some (.int .i64 (q : Int)) := by go_simp
      have z1 : (W.alloc (.cells #[.int .i64 (q : Int), .int .i64 (gc ss q - 1)] 247)).drew.cell? ⟨W.heap.size, 1, none⟩ = some (.int .i64 (gc ss q - 1)) := by go_simp
      have lU : W.heap.size < (W.alloc (.cells #[.int .i64 (q : Int), .int .i64 (gc ss q - 1)] 247)).drew.heap.size := by simp
      have lKU : w1.heap.size < (W.alloc (.cells #[.int .i64 (q : Int), .int .i64 (gc ss q - 1)] 247)).drew.heap.size := by simp; omega
      by_cases h1 : gc ss q = 1
      · have e1 : (gc ss q - 1 == 0) = true := by simp [h1]
        have H1 := hide h1
        clear h1 al
        go_upto_region 7 with fail
        generalize hU : (W.alloc (.cells #[.int .i64 (q : Int), .int .i64 (gc ss q - 1)] 247)).drew = U at BU hwU q0 q1 q2 q3 z0 z1 lU lKU ⊢
        clear hU
        have neM := BU.ne
        obtain ⟨es, clock, hbM, _⟩ := BU.own
        have nc : ∀ k v, U.cell? ⟨k, 0, none⟩ = some v → k ≠ M := fun k v hc e => by
          subst e
          simp [World.cell?, hbM] at hc
        have nK := nc _ _ q0
        have nZ := nc _ _ z0
        have kP := BU.lt
        obtain ⟨w4, hup, own4, tu4⟩ := (BU.own.drew).drop lawK Tryz.underlying172 (key_mk hf) 0
        have gr4 := tu4.grown
        have Hown := hide (own4.mono (Nat.le_succ n))
        have blkM : ∀ k, k < U.heap.size → k ≠ M → w4.heap[k]? = U.heap[k]? := fun k hk hne => gr4.block k hk (fun e => hne (by injection e))
        have HSa : Hid (U.drew.cell? ⟨P, 1, none⟩ = some (.map (some M)) ∧ U.drew.cell? ⟨w1.heap.size, 0, none⟩ = some (.int .i64 (gt (gl ss q) 0)) ∧ U.drew.cell? ⟨w1.heap.size, 1, none⟩ = some (.int .i64 (gt (gl ss q) 1)) ∧ U.drew.cell? ⟨w1.heap.size, 2, none⟩ = some (.int .i64 (gt (gl ss q) 2)) ∧ U.drew.cell? ⟨w1.heap.size, 3, none⟩ = some (.int .i64 (gt (gl ss q) 3)) ∧ U.drew.cell? ⟨W.heap.size, 0, none⟩ = some (.int .i64 (q : Int)) ∧ U.drew.cell? ⟨W.heap.size, 1, none⟩ = some (.int .i64 (gc ss q - 1))) := ⟨BU.c1, q0, q1, q2, q3, z0, z1⟩
        have HSb : Hid (w4.cell? ⟨P, 1, none⟩ = some (.map (some M)) ∧ w4.cell? ⟨w1.heap.size, 0, none⟩ = some (.int .i64 (gt (gl ss q) 0)) ∧ w4.cell? ⟨w1.heap.size, 1, none⟩ = some (.int .i64 (gt (gl ss q) 1)) ∧ w4.cell? ⟨w1.heap.size, 2, none⟩ = some (.int .i64 (gt (gl ss q) 2)) ∧ w4.cell? ⟨w1.heap.size, 3, none⟩ = some (.int .i64 (gt (gl ss q) 3)) ∧ w4.cell? ⟨W.heap.size, 0, none⟩ = some (.int .i64 (q : Int)) ∧ w4.cell? ⟨W.heap.size, 1, none⟩ = some (.int .i64 (gc ss q - 1))) :=
          ⟨(World.cell?_of_block (a := ⟨P, 1, none⟩) (blkM P kP neM.symm)).trans BU.c1, (World.cell?_of_block (a := ⟨w1.heap.size, 0, none⟩) (blkM _ lKU nK)).trans q0, (World.cell?_of_block (a := ⟨w1.heap.size, 1, none⟩) (blkM _ lKU nK)).trans q1, (World.cell?_of_block (a := ⟨w1.heap.size, 2, none⟩) (blkM _ lKU nK)).trans q2, (World.cell?_of_block (a := ⟨w1.heap.size, 3, none⟩) (blkM _ lKU nK)).trans q3, (World.cell?_of_block (a := ⟨W.heap.size, 0, none⟩) (blkM _ lU nZ)).trans z0, (World.cell?_of_block (a := ⟨W.heap.size, 1, none⟩) (blkM _ lU nZ)).trans z1⟩
        have y1 := HSb.out.2.2.2.2.2.2
        have HBk : Hid (Bk w4 P M (ss.length : Int) (n + 1) (leaveD ss q D)) := by
          refine ⟨by have := gr4.size; simp at this; omega, (World.cell?_of_block (a := ⟨P, 0, none⟩) (blkM P kP neM.symm)).trans BU.c0, HSb.out.1, fun j => (World.frozen?_of_block (a := ⟨P, j, none⟩) (blkM P kP neM.symm)).trans (BU.f j), ?_⟩
          unfold leaveD
          rw [if_pos H1.out]
          exact Hown.out
        have HO : Hid (OutS (fun k => k = M) w w4) := (OutS.of_below hwU).trans ⟨gr4.os, gr4.tape, gr4.output, gr4.size, fun k hk hn => blkM k hk hn⟩
        have HR := hide (rep_leave good rep hb.own.isMap hq hp)
        unfold ints4 at hup
        clear own4 gr4 blkM hbM nc nK nZ q0 q1 q2 q3 z0 z1 tu4
        go_wp2_with fail
        go_region_held2 (fun w' => w'.cell? ⟨P, 1, none⟩ = some (.map (some M)) ∧ w'.cell? ⟨w1.heap.size, 0, none⟩ = some (.int .i64 (gt (gl ss q) 0)) ∧ w'.cell? ⟨w1.heap.size, 1, none⟩ = some (.int .i64 (gt (gl ss q) 1)) ∧ w'.cell? ⟨w1.heap.size, 2, none⟩ = some (.int .i64 (gt (gl ss q) 2)) ∧ w'.cell? ⟨w1.heap.size, 3, none⟩ = some (.int .i64 (gt (gl ss q) 3)) ∧ w'.cell? ⟨W.heap.size, 0, none⟩ = some (.int .i64 (q : Int)) ∧ w'.cell? ⟨W.heap.size, 1, none⟩ = some (.int .i64 (gc ss q - 1)))
          (first | with_reducible exact HSa.out | with_reducible exact HSb.out | with_reducible assumption) (fail)
        all_goals go_wp2
        all_goals refine bodyPost_ret (v := .tuple #[.int .i64 (gc ss q - 1), .int .i64 0]) (by simp [results, Tryz.results176, go_sem]) rfl ⟨by rw [HV.out, Hc.out], HO.out, fun _ => ⟨_, HBk.out, HR.out⟩⟩
      · have e1 : (gc ss q - 1 == 0) = false := by simp; omega
        have H1 := hide h1
        clear h1 al
        go_upto_region 8 with fail
        generalize hU : (W.alloc (.cells #[.int .i64 (q : Int), .int .i64 (gc ss q - 1)] 247)).drew = U at BU hwU q0 q1 q2 q3 z0 z1 lU lKU ⊢
        clear hU
        have neM := BU.ne
        obtain ⟨es, clock, hbM, _⟩ := BU.own
        have nc : ∀ k v, U.cell? ⟨k, 0, none⟩ = some v → k ≠ M := fun k v hc e => by
          subst e
          simp [World.cell?, hbM] at hc
        have nK := nc _ _ q0
        have nZ := nc _ _ z0
        have kP := BU.lt
        obtain ⟨w4, hup, own4, gr4⟩ := (BU.own.drew).update lawK Tryz.underlying172 (by unfold maxLen; omega) (key_mk hf) (Rst_mk (q : Int) (gc ss q - 1))
        have Hown := hide own4
        have blkM : ∀ k, k < U.heap.size → k ≠ M → w4.heap[k]? = U.heap[k]? := fun k hk hne => gr4.block k hk (fun e => hne (by injection e))
        have HSa : Hid (U.drew.cell? ⟨P, 1, none⟩ = some (.map (some M)) ∧ U.drew.cell? ⟨w1.heap.size, 0, none⟩ = some (.int .i64 (gt (gl ss q) 0)) ∧ U.drew.cell? ⟨w1.heap.size, 1, none⟩ = some (.int .i64 (gt (gl ss q) 1)) ∧ U.drew.cell? ⟨w1.heap.size, 2, none⟩ = some (.int .i64 (gt (gl ss q) 2)) ∧ U.drew.cell? ⟨w1.heap.size, 3, none⟩ = some (.int .i64 (gt (gl ss q) 3)) ∧ U.drew.cell? ⟨W.heap.size, 0, none⟩ = some (.int .i64 (q : Int)) ∧ U.drew.cell? ⟨W.heap.size, 1, none⟩ = some (.int .i64 (gc ss q - 1))) := ⟨BU.c1, q0, q1, q2, q3, z0, z1⟩
        have HSb : Hid (w4.cell? ⟨P, 1, none⟩ = some (.map (some M)) ∧ w4.cell? ⟨w1.heap.size, 0, none⟩ = some (.int .i64 (gt (gl ss q) 0)) ∧ w4.cell? ⟨w1.heap.size, 1, none⟩ = some (.int .i64 (gt (gl ss q) 1)) ∧ w4.cell? ⟨w1.heap.size, 2, none⟩ = some (.int .i64 (gt (gl ss q) 2)) ∧ w4.cell? ⟨w1.heap.size, 3, none⟩ = some (.int .i64 (gt (gl ss q) 3)) ∧ w4.cell? ⟨W.heap.size, 0, none⟩ = some (.int .i64 (q : Int)) ∧ w4.cell? ⟨W.heap.size, 1, none⟩ = some (.int .i64 (gc ss q - 1))) :=
          ⟨(World.cell?_of_block (a := ⟨P, 1, none⟩) (blkM P kP neM.symm)).trans BU.c1, (World.cell?_of_block (a := ⟨w1.heap.size, 0, none⟩) (blkM _ lKU nK)).trans q0, (World.cell?_of_block (a := ⟨w1.heap.size, 1, none⟩) (blkM _ lKU nK)).trans q1, (World.cell?_of_block (a := ⟨w1.heap.size, 2, none⟩) (blkM _ lKU nK)).trans q2, (World.cell?_of_block (a := ⟨w1.heap.size, 3, none⟩) (blkM _ lKU nK)).trans q3, (World.cell?_of_block (a := ⟨W.heap.size, 0, none⟩) (blkM _ lU nZ)).trans z0, (World.cell?_of_block (a := ⟨W.heap.size, 1, none⟩) (blkM _ lU nZ)).trans z1⟩
        have y1 := HSb.out.2.2.2.2.2.2
        have HBk : Hid (Bk w4 P M (ss.length : Int) (n + 1) (leaveD ss q D)) := by
          refine ⟨by have := gr4.size; simp at this; omega, (World.cell?_of_block (a := ⟨P, 0, none⟩) (blkM P kP neM.symm)).trans BU.c0, HSb.out.1, fun j => (World.frozen?_of_block (a := ⟨P, j, none⟩) (blkM P kP neM.symm)).trans (BU.f j), ?_⟩
          unfold leaveD
          rw [if_neg H1.out]
          exact Hown.out
        have HO : Hid (OutS (fun k => k = M) w w4) := (OutS.of_below hwU).trans ⟨gr4.os, gr4.tape, gr4.output, gr4.size, fun k hk hn => blkM k hk hn⟩
        have HR := hide (rep_leave good rep hb.own.isMap hq hp)
        unfold ints4 at hup
        clear own4 gr4 blkM hbM nc nK nZ q0 q1 q2 q3 z0 z1
        go_wp2_with fail
        go_region_held2 (fun w' => w'.cell? ⟨P, 1, none⟩ = some (.map (some M)) ∧ w'.cell? ⟨w1.heap.size, 0, none⟩ = some (.int .i64 (gt (gl ss q) 0)) ∧ w'.cell? ⟨w1.heap.size, 1, none⟩ = some (.int .i64 (gt (gl ss q) 1)) ∧ w'.cell? ⟨w1.heap.size, 2, none⟩ = some (.int .i64 (gt (gl ss q) 2)) ∧ w'.cell? ⟨w1.heap.size, 3, none⟩ = some (.int .i64 (gt (gl ss q) 3)) ∧ w'.cell? ⟨W.heap.size, 0, none⟩ = some (.int .i64 (q : Int)) ∧ w'.cell? ⟨W.heap.size, 1, none⟩ = some (.int .i64 (gc ss q - 1)))
          (first | with_reducible exact HSa.out | with_reducible exact HSb.out | with_reducible assumption) (fail)
        all_goals go_wp2
        all_goals refine bodyPost_ret (v := .tuple #[.int .i64 (gc ss q - 1), .int .i64 0]) (by simp [results, Tryz.results176, go_sem]) rfl ⟨by rw [HV.out, Hc.out], HO.out, fun _ => ⟨_, HBk.out, HR.out⟩⟩
  · have ec : (atC ss p != 0) = true := by simp [hc]
    have HV : Hid (lvV ss p = 0) := if_neg hc
    have Hc := hide hc
    clear hc
    go_enter Tryz.func176, Tryz.ntmps176
    go_wp2_with fail
    refine (markAt_calls P M n _ ss D _ hb good rep).mono ?_
    rintro e w1 ⟨rfl, g1⟩
    unfold ints4
    have HE := hide (OutS.of_below (S := fun k => k = M) (g1.alloc g1.size (.cells #[.int .i64 (gt (atL ss p) 0), .int .i64 (gt (atL ss p) 1), .int .i64 (gt (atL ss p) 2), .int .i64 (gt (atL ss p) 3)] 239)))
    clear g1
    go_wp2
    refine bodyPost_ret (v := .tuple #[.int .i64 0, .int .i64 (atC ss p)]) (by simp [results, Tryz.results176, go_sem]) rfl ⟨by rw [HV.out], HE.out, fun h => absurd h Hc.out⟩

/-- a row of n slots that is filled in an order that nobody knows: those of V are there, the others are empty. -/
structure HalfU (w : World) (N n : Nat) (ss : List (Int × List Int)) (V : Nat → Bool) (lb : Nat → Nat) : Prop where
  lt : N < w.heap.size
  fz : ∀ j, w.frozen? ⟨N, j, none⟩ = false
  c0 : ∀ j, j < n → w.cell? ⟨N, j * 2, none⟩ = some (.int .i64 (if V j = true then gc ss j else 0))
  c1 : ∀ j, j < n → w.cell? ⟨N, j * 2 + 1, none⟩ = some (if V j = true then .slice (some ⟨lb j, 0, none⟩) 4 4 else .slice none 0 0)
  gt : ∀ j, j < n → V j = true → N < lb j
  blk : ∀ j, j < n → V j = true → Blk w (lb j) (gl ss j)
  ap : ∀ i j, i < n → j < n → V i = true → V j = true → i ≠ j → lb i ≠ lb j

theorem HalfU.below {w w' : World} {N n : Nat} {ss : List (Int × List Int)} {V : Nat → Bool} {lb : Nat → Nat} (h : HalfU w N n ss V lb) (hb : Below w.heap.size w w') : HalfU w' N n ss V lb :=
  ⟨by have := hb.size; have := h.lt; omega, fun j => (hb.frozen (p := ⟨N, j, none⟩) h.lt).trans (h.fz j), fun j hj => (hb.cell (p := ⟨N, j * 2, none⟩) h.lt).trans (h.c0 j hj), fun j hj => (hb.cell (p := ⟨N, j * 2 + 1, none⟩) h.lt).trans (h.c1 j hj), h.gt, fun j hj hv => (h.blk j hj hv).below hb, h.ap⟩

theorem HalfU.keep {w w' : World} {N n r : Nat} {ss : List (Int × List Int)} {V : Nat → Bool} {lb : Nat → Nat} (h : HalfU w N n ss V lb) (hg : w.grownBy w' (some r)) (hr : r ≠ N) (hl : ∀ j, j < n → V j = true → lb j ≠ r) : HalfU w' N n ss V lb := by
  have e := hg.block N h.lt (fun e => hr (by injection e with e; exact e.symm))
  refine ⟨by have := hg.size; have := h.lt; omega, fun j => (World.frozen?_of_block (a := ⟨N, j, none⟩) e).trans (h.fz j), fun j hj => (World.cell?_of_block (a := ⟨N, j * 2, none⟩) e).trans (h.c0 j hj), fun j hj => (World.cell?_of_block (a := ⟨N, j * 2 + 1, none⟩) e).trans (h.c1 j hj), h.gt, fun j hj hv => ?_, h.ap⟩
  have hb := h.blk j hj hv
  exact Blk.loc (S := fun k => k = lb j) rfl w w' (fun k hk hl' => hg.block k hl' (fun e => hl j hj hv (by injection e with e; exact hk.symm.trans e))) hb

theorem made2 (n j : Nat) (h : j < n) : (madeCells #[.int .i64 0, .slice none 0 0] (n * 2))[j * 2]? = some (.int .i64 0) ∧ (madeCells #[.int .i64 0, .slice none 0 0] (n * 2))[j * 2 + 1]? = some (.slice none 0 0) := by
  constructor
  · have h1 : j * 2 < n * 2 := by omega
    simp [madeCells, h1]
  · have h1 : j * 2 + 1 < n * 2 := by omega
    have h2 : (j * 2 + 1) % 2 = 1 := by omega
    simp [madeCells, h1, h2]

theorem HalfU.start (w : World) (n : Nat) (ss : List (Int × List Int)) (t : TypeId) (lb : Nat → Nat) : HalfU (w.alloc (.cells (madeCells #[.int .i64 0, .slice none 0 0] (n * 2)) t)) w.heap.size n ss (fun _ => false) lb := by
  refine ⟨by simp, fun j => by simp, fun j hj => ?_, fun j hj => ?_, fun j _ h => (by cases h), fun j _ h => (by cases h), fun i j _ _ h => (by cases h)⟩
  · rw [World.cell?_alloc_new, (made2 n j hj).1]; rfl
  · rw [World.cell?_alloc_new, (made2 n j hj).2]; rfl

theorem HalfU.store {w0 w : World} {N n q b : Nat} {ss : List (Int × List Int)} {V : Nat → Bool} {lb : Nat → Nat} (h0 : HalfU w0 N n ss V lb) (hw : Below w0.heap.size w0 w) (hq : q < n) (hb : w0.heap.size ≤ b) (hB : Blk w b (gl ss q)) :
    HalfU ((w.setCell ⟨N, q * 2, none⟩ (.int .i64 (gc ss q))).setCell ⟨N, q * 2 + 1, none⟩ (.slice (some ⟨b, 0, none⟩) 4 4)) N n ss (fun j => if j = q then true else V j) (fun j => if j = q then b else lb j) := by
  have h := h0.below hw
  have hNb : N < b := by have := h0.lt; omega
  have ne1 : ∀ i, i ≠ q * 2 → i ≠ q * 2 + 1 → ((w.setCell ⟨N, q * 2, none⟩ (.int .i64 (gc ss q))).setCell ⟨N, q * 2 + 1, none⟩ (.slice (some ⟨b, 0, none⟩) 4 4)).cell? ⟨N, i, none⟩ = w.cell? ⟨N, i, none⟩ := fun i a b => by
    rw [World.cell?_setCell_other _ _ _ _ (fun e => b (by injection e with _ e2; exact e2.symm)), World.cell?_setCell_other _ _ _ _ (fun e => a (by injection e with _ e2; exact e2.symm))]
  have hold : ∀ j, j < n → V j = true → lb j < w0.heap.size := fun j hj hv => (h0.blk j hj hv).1
  refine ⟨by simpa [World.setCell] using h.lt, fun j => by simpa using h.fz j, fun j hj => ?_, fun j hj => ?_, fun j hj hv => ?_, fun j hj hv => ?_, fun i j hi hj hvi hvj hij => ?_⟩
  · by_cases e : j = q
    · subst e
      rw [if_pos rfl, if_pos rfl, World.cell?_setCell_other _ _ _ _ (fun e => by injection e with _ e2; omega)]
      exact World.cell?_setCell_same _ _ _ (h.c0 j hj)
    · rw [if_neg e]
      exact (ne1 _ (by omega) (by omega)).trans (h.c0 j hj)
  · by_cases e : j = q
    · subst e
      rw [if_pos rfl, if_pos rfl, if_pos rfl]
      exact World.cell?_setCell_same _ _ _ ((World.cell?_setCell_other _ _ _ _ (fun e => by injection e with _ e2; omega)).trans (h.c1 j hj))
    · rw [if_neg e, if_neg e]
      exact (ne1 _ (by omega) (by omega)).trans (h.c1 j hj)
  · by_cases e : j = q
    · rw [if_pos e]; exact hNb
    · rw [if_neg e] at hv ⊢; exact h.gt j hj hv
  · by_cases e : j = q
    · subst e; rw [if_pos rfl]; exact (hB.setCell (by show N ≠ b; omega) _).setCell (by show N ≠ b; omega) _
    · rw [if_neg e] at hv ⊢
      have := h.gt j hj hv
      exact ((h.blk j hj hv).setCell (by show N ≠ lb j; omega) _).setCell (by show N ≠ lb j; omega) _
  · by_cases e : i = q
    · have e2 : j ≠ q := by omega
      rw [if_pos e, if_neg e2]
      rw [if_neg e2] at hvj
      have := hold j hj hvj
      omega
    · rw [if_neg e] at hvi ⊢
      by_cases e2 : j = q
      · rw [if_pos e2]
        have := hold i hi hvi
        omega
      · rw [if_neg e2] at hvj ⊢
        exact h.ap i j hi hj hvi hvj hij

theorem lenSum_few : ∀ (ss : List (Int × List Int)), (∀ j, j < ss.length → (gl ss j).length ≤ 4) → lenSum ss ≤ ss.length * 4
  | [], _ => by simp [lenSum]
  | s :: r, h => by
    have h0 := h 0 (by simp)
    have ih := lenSum_few r (fun j hj => by have := h (j + 1) (by simpa using hj); simpa [gl] using this)
    simp [lenSum, gl] at h0 ⊢
    omega

theorem good_len {ss : List (Int × List Int)} (good : Good ss) (j : Nat) (hj : j < ss.length) : (gl ss j).length ≤ 4 := by
  by_cases h : 0 < gc ss j
  · exact Nat.le_of_eq (fault_len (good.right j hj h))
  · rw [good.empty j hj (by have := good.low j hj; omega)]
    simp

theorem good_sum {ss : List (Int × List Int)} (good : Good ss) : ss.length + lenSum ss ≤ 1048576 := by
  have h1 := lenSum_few ss (good_len good)
  have := good.few
  omega

/-- all that are meant are there: the row is owned. -/
theorem HalfU.or {w : World} {N B : Nat} {ss : List (Int × List Int)} {V : Nat → Bool} {lb : Nat → Nat} (h : HalfU w N ss.length ss V lb) (good : Good ss) (hV : ∀ j, j < ss.length → V j = decide (0 < gc ss j)) (hB : B ≤ N) : OR (InR B w.heap.size) (some ⟨N, 0, none⟩) ss.length ss w := by
  have live : ∀ i, i < ss.length → 0 < (gl ss i).length → V i = true := fun i hi hl => by
    rw [hV i hi]
    by_cases hp : 0 < gc ss i
    · simpa using hp
    · rw [good.empty i hi (by have := good.low i hi; omega)] at hl
      simp at hl
  refine ⟨rfl, good_sum good, .inr ⟨N, fun j => if 0 < gc ss j then some ⟨lb j, 0, none⟩ else none, fun j => if 0 < gc ss j then 4 else 0, lb, rfl, ⟨hB, h.lt⟩, h.lt, h.fz, fun i hi => ?_, fun i j hi hj hij li lj => h.ap i j hi hj (live i hi li) (live j hj lj) hij⟩⟩
  have c0 := h.c0 i hi
  have c1 := h.c1 i hi
  rw [hV i hi] at c0 c1
  by_cases hp : 0 < gc ss i
  · have hl := fault_len (good.right i hi hp)
    have hv : V i = true := by rw [hV i hi]; simpa using hp
    simp only [hp, decide_true, if_true] at c0 c1 ⊢
    exact ⟨c0, by rw [hl]; exact c1, ⟨rfl, by omega, .inr ⟨lb i, rfl, ⟨rfl, by omega⟩, h.blk i hi hv⟩⟩, fun _ => ⟨⟨by have := h.gt i hi hv; omega, (h.blk i hi hv).1⟩, by have := h.gt i hi hv; omega⟩⟩
  · have h0 : gc ss i = 0 := by have := good.low i hi; omega
    have hl := good.empty i hi h0
    have hd : decide (0 < gc ss i) = false := by simp [h0]
    rw [hd] at c0 c1
    simp only [hp, if_false]
    exact ⟨by rw [h0]; exact c0, by rw [hl]; exact c1, ⟨rfl, by rw [hl]; simp, .inl (by rw [hl]; rfl)⟩, fun hl2 => by rw [hl] at hl2; simp at hl2⟩

theorem keep6 {X : World} {a b N i1 i2 : Nat} {u0 u1 v0 v1 v2 v3 y1 y2 : Value} (ha : a ≠ N) (hb : b ≠ N) (h : X.cell? ⟨a, 0, none⟩ = some u0 ∧ X.cell? ⟨a, 1, none⟩ = some u1 ∧ X.cell? ⟨b, 0, none⟩ = some v0 ∧ X.cell? ⟨b, 1, none⟩ = some v1 ∧ X.cell? ⟨b, 2, none⟩ = some v2 ∧ X.cell? ⟨b, 3, none⟩ = some v3) : ((X.setCell ⟨N, i1, none⟩ y1).setCell ⟨N, i2, none⟩ y2).cell? ⟨a, 0, none⟩ = some u0 ∧ ((X.setCell ⟨N, i1, none⟩ y1).setCell ⟨N, i2, none⟩ y2).cell? ⟨a, 1, none⟩ = some u1 ∧ ((X.setCell ⟨N, i1, none⟩ y1).setCell ⟨N, i2, none⟩ y2).cell? ⟨b, 0, none⟩ = some v0 ∧ ((X.setCell ⟨N, i1, none⟩ y1).setCell ⟨N, i2, none⟩ y2).cell? ⟨b, 1, none⟩ = some v1 ∧ ((X.setCell ⟨N, i1, none⟩ y1).setCell ⟨N, i2, none⟩ y2).cell? ⟨b, 2, none⟩ = some v2 ∧ ((X.setCell ⟨N, i1, none⟩ y1).setCell ⟨N, i2, none⟩ y2).cell? ⟨b, 3, none⟩ = some v3 := by
  have k : ∀ c o, c ≠ N → ((X.setCell ⟨N, i1, none⟩ y1).setCell ⟨N, i2, none⟩ y2).cell? ⟨c, o, none⟩ = X.cell? ⟨c, o, none⟩ := fun c o hc => by
    rw [World.cell?_setCell_other _ _ _ _ (fun e => by injection e with e1 _; exact hc e1.symm), World.cell?_setCell_other _ _ _ _ (fun e => by injection e with e1 _; exact hc e1.symm)]
  exact ⟨(k _ _ ha).trans h.1, (k _ _ ha).trans h.2.1, (k _ _ hb).trans h.2.2.1, (k _ _ hb).trans h.2.2.2.1, (k _ _ hb).trans h.2.2.2.2.1, (k _ _ hb).trans h.2.2.2.2.2⟩

theorem setC2_grown (w : World) (N : Nat) (v : Nat × Value) (u : Nat × Value) : w.grownBy ((w.setCell ⟨N, v.1, none⟩ v.2).setCell ⟨N, u.1, none⟩ u.2) (some N) :=
  ⟨rfl, rfl, rfl, by simp, fun k _ hn => by
    have h : N ≠ k := fun e => hn (by rw [e])
    rw [Below.heap_setCell _ _ _ _ (fun e => h e.symm), Below.heap_setCell _ _ _ _ (fun e => h e.symm)]⟩

theorem map_ne_cells {w : World} {M n N o : Nat} {D : DataW Unit} {v : Value} (h : w.ownsMap Tryz.prog 239 Rst M n D) (hc : w.cell? ⟨N, o, none⟩ = some v) (e : M = N) : False := by
  obtain ⟨es, clock, hb, _⟩ := h
  rw [e] at hb
  simp [World.cell?, hb] at hc

theorem HalfU.congr {w : World} {N n : Nat} {ss : List (Int × List Int)} {V V' : Nat → Bool} {lb : Nat → Nat} (h : HalfU w N n ss V lb) (e : ∀ j, j < n → V j = V' j) : HalfU w N n ss V' lb :=
  ⟨h.lt, h.fz, fun j hj => by rw [← e j hj]; exact h.c0 j hj, fun j hj => by rw [← e j hj]; exact h.c1 j hj, fun j hj hv => h.gt j hj (by rw [e j hj]; exact hv), fun j hj hv => h.blk j hj (by rw [e j hj]; exact hv), fun i j hi hj a b => h.ap i j hi hj (by rw [e i hi]; exact a) (by rw [e j hj]; exact b)⟩

set_option maxRecDepth 100000 in
set_option maxHeartbeats 2000000 in
theorem registry_calls (P M n : Nat) (ss : List (Int × List Int)) (D : DataW Unit) (w : World) (hb : Bk w P M (ss.length : Int) n D) (good : Good ss) (rep : Rep ss D) :
    Calls Tryz.prog 183 #[.pointer (some ⟨P, 0, none⟩)] w fun e w' => ∃ b, e = .returned (.agg #[.slice (some ⟨b, 0, none⟩) ss.length ss.length]) ∧ OR (InR w.heap.size w'.heap.size) (some ⟨b, 0, none⟩) ss.length ss w' ∧ Below w.heap.size w w' := by
  have few := good.few
  have hP := hb.lt
  have c0 := hb.c0
  have c1 := hb.c1
  obtain ⟨i0, hi, hz0, hz1, hz2⟩ := info_parts infoSlot
  have hmk : ∀ u : World, (Instr.makeSlice 39 (.int .i64 (ss.length : Int)) (.int .i64 (ss.length : Int))).run Tryz.prog u =
      .ok (.slice (some ⟨u.heap.size, 0, none⟩) ss.length ss.length) (u.alloc (.cells (madeCells #[.int .i64 0, .slice none 0 0] (ss.length * 2)) 150)) := fun u => by
    have h := run_make (P := Tryz.prog) u 39 150 i0 (.agg #[.int .i64 0, .slice none 0 0]) Tryz.underlying39 hi hz0 .i64 .i64 (ss.length : Int) (ss.length : Int) (by omega) (Int.le_refl _) (by rw [hz2]; omega) (by omega)
    simpa [hz1, Value.cells] using h
  have own0 := (hb.own.alloc (.cells #[.slice none 0 0] 41)).alloc (.cells (madeCells #[.int .i64 0, .slice none 0 0] (ss.length * 2)) 150)
  have hU0 := HalfU.start (w.alloc (.cells #[.slice none 0 0] 41)) ss.length ss 150 (fun _ => 0)
  have bel0 := ((Below.refl w.heap.size w).alloc (Nat.le_refl _) (.cells #[.slice none 0 0] 41)).alloc (by simp) (.cells (madeCells #[.int .i64 0, .slice none 0 0] (ss.length * 2)) 150)
  have c1a : ((w.alloc (.cells #[.slice none 0 0] 41)).alloc (.cells (madeCells #[.int .i64 0, .slice none 0 0] (ss.length * 2)) 150)).cell? ⟨P, 1, none⟩ = some (.map (some M)) := (bel0.cell (p := ⟨P, 1, none⟩) hP).trans c1
  simp only [World.size_alloc] at hU0
  have HU0 := hide hU0
  have HB0 := hide bel0
  clear hU0 bel0
  go_enter Tryz.func183, Tryz.ntmps183
  go_wp2_with (first
    | (at_range; refine wpList_range_own _ rfl _ 172 rfl 239 247 lawK Tryz.underlying172 _ M n _ rfl own0 ?_; intro w0 hrg0 hg0 hs0)
    | go_in)
  try go_frame
  have hz : ((w.alloc (.cells #[.slice none 0 0] 41)).alloc (.cells (madeCells #[.int .i64 0, .slice none 0 0] (ss.length * 2)) 150)).heap.size = w.heap.size + 1 + 1 := by simp
  rw [hz] at hrg0 hs0
  try rw [hz]
  have gb0 : Below ((w.alloc (.cells #[.slice none 0 0] 41)).alloc (.cells (madeCells #[.int .i64 0, .slice none 0 0] (ss.length * 2)) 150)).heap.size ((w.alloc (.cells #[.slice none 0 0] 41)).alloc (.cells (madeCells #[.int .i64 0, .slice none 0 0] (ss.length * 2)) 150)) w0 := ⟨hg0.os, hg0.tape, hg0.output, hg0.size, fun k hk => hg0.block k hk (by simp)⟩
  have r0 : w0.cell? ⟨w.heap.size, 0, none⟩ = some (.slice none 0 0) := (gb0.cell (p := ⟨w.heap.size, 0, none⟩) (by simp; omega)).trans (by rw [World.cell?_alloc_past _ _ _ (by simp)]; go_simp)
  have f0 : w0.frozen? ⟨w.heap.size, 0, none⟩ = false := (gb0.frozen (p := ⟨w.heap.size, 0, none⟩) (by simp; omega)).trans (by rw [World.frozen?_alloc_old _ _ _ (by simp)]; go_simp)
  have HU1 := hide (HU0.out.below gb0)
  have HB1 := hide (HB0.out.trans (gb0.mono HB0.out.size))
  have HG1 := hide (RngB.start rep hrg0)
  have HZ : Hid (w0.heap.size = w.heap.size + 1 + 1 + 1) := hs0
  clear hrg0 hg0 hs0 hz gb0 HU0 HB0 own0 c1a
  go_loopw [16] (fun _ wr => ∃ (L : Nat → Bool) (cn : Nat) (lb : Nat → Nat), RngB wr M (w.heap.size + 1 + 1) n ss D L cn ∧ HalfU wr (w.heap.size + 1) ss.length ss (fun j => decide (0 < gc ss j) && !L j) lb ∧ (∀ j, j < ss.length → (decide (0 < gc ss j) && !L j) = true → w.heap.size + 1 + 1 < lb j) ∧ Below w.heap.size w wr ∧ w.heap.size + 1 + 1 < wr.heap.size ∧
      wr.cell? ⟨w.heap.size, 0, none⟩ = some (.slice none 0 0) ∧ wr.frozen? ⟨w.heap.size, 0, none⟩ = false) (fun _ wr => wr.rangeLeft M (w.heap.size + 1 + 1))
  case atStart => exact ⟨_, _, _, HG1.out, HU1.out.congr (fun j _ => by simp), fun j _ h => (by simp at h), HB1.out, by have := HZ.out; omega, r0, f0⟩
  case round =>
    clear r0 f0 HU1 HB1 HG1
    obtain ⟨L, cn, lb, hrg, hU, hlb, hbel, hsz, r0, f0⟩ := hrel
    go_wp2_with (first
      | (at_next; refine next_book _ rfl _ rfl M (w.heap.size + 1 + 1) n good rep rfl hrg ?_ ?_)
      | go_in)
    · intro hc0 hl0
      have HO := hide (HalfU.or (B := w.heap.size + 1) (hU.congr (V' := fun j => decide (0 < gc ss j)) (fun j hj => by (by_cases h : 0 < gc ss j); (rw [hl0 j hj h]; simp); simp [h])) good (fun _ _ => rfl) (Nat.le_refl _))
      have HE := hide hbel
      clear hl0 hbel hU hlb hrg
      go_wp2
      refine bodyPost_ret (v := .agg #[.slice (some ⟨w.heap.size + 1, 0, none⟩) ss.length ss.length]) (by simp [results, Tryz.results183, go_sem, r0]) rfl ⟨_, rfl, ?_, HE.out.setCell (Nat.le_refl _) _⟩
      exact (OR.loc.setC HO.out (fun e => by have := e.1; simp at this; omega) _).mono (fun k hk => ⟨by have := hk.1; omega, by simpa using hk.2⟩)
    · intro j hj hp hLj w1 cnt1 hrg1 hlt1 hg1 hs1 hen
      have hM : M ≠ w.heap.size + 1 + 1 := hrg.ne.symm
      have hU1 := hU.keep hg1 (by omega) (fun i hi hv => by have := hlb i hi hv; omega)
      have e1 := hg1.block w.heap.size (by omega) (fun e => by injection e; omega)
      have r1 := (World.cell?_of_block (a := ⟨w.heap.size, 0, none⟩) e1).trans r0
      have g1 := (World.frozen?_of_block (a := ⟨w.heap.size, 0, none⟩) e1).trans f0
      have hbel1 := bel_grown hbel hg1 (by omega) hbel.size
      have al : Below w1.heap.size w1 ((w1.alloc (.cells #[.int .i64 (gt (gl ss j) 0), .int .i64 (gt (gl ss j) 1), .int .i64 (gt (gl ss j) 2), .int .i64 (gt (gl ss j) 3)] 239)).alloc (.cells #[.int .i64 (j : Int), .int .i64 (gc ss j)] 247)) := ((Below.refl _ _).alloc (Nat.le_refl _) _).alloc (by simp) _
      have HU2 := hide hU1
      have HRG := hide hrg
      have HRG1 := hide hrg1
      have HLT := hide hlt1
      have HB1 := hide hbel1
      have HR1 : Hid (w1.cell? ⟨w.heap.size, 0, none⟩ = some (.slice none 0 0) ∧ w1.frozen? ⟨w.heap.size, 0, none⟩ = false) := ⟨r1, g1⟩
      have HLB := hide hlb
      have HAL := hide al
      have hlen4 := fault_len (good.right j hj hp)
      have i0' : (0 : Int) ≤ (j : Int) := by omega
      have i1' : (j : Int) < (ss.length : Int) := by omega
      have hs1' : w.heap.size + 1 + 1 < w1.heap.size := by omega
      have hnA : w1.heap.size + 1 ≠ w.heap.size + 1 := by omega
      have hnB : w1.heap.size ≠ w.heap.size + 1 := by omega
      clear hrg hrg1 hlt1 hg1 hU hU1 hbel hbel1 hlb al r0 f0 r1 g1 e1 hs1
      go_wp2_with fail
      have HSX : Hid (((w1.alloc (.cells #[.int .i64 (gt (gl ss j) 0), .int .i64 (gt (gl ss j) 1), .int .i64 (gt (gl ss j) 2), .int .i64 (gt (gl ss j) 3)] 239)).alloc (.cells #[.int .i64 (j : Int), .int .i64 (gc ss j)] 247)).drew.cell? ⟨w1.heap.size + 1, 0, none⟩ = some (.int .i64 (j : Int)) ∧ ((w1.alloc (.cells #[.int .i64 (gt (gl ss j) 0), .int .i64 (gt (gl ss j) 1), .int .i64 (gt (gl ss j) 2), .int .i64 (gt (gl ss j) 3)] 239)).alloc (.cells #[.int .i64 (j : Int), .int .i64 (gc ss j)] 247)).drew.cell? ⟨w1.heap.size + 1, 1, none⟩ = some (.int .i64 (gc ss j)) ∧ ((w1.alloc (.cells #[.int .i64 (gt (gl ss j) 0), .int .i64 (gt (gl ss j) 1), .int .i64 (gt (gl ss j) 2), .int .i64 (gt (gl ss j) 3)] 239)).alloc (.cells #[.int .i64 (j : Int), .int .i64 (gc ss j)] 247)).drew.cell? ⟨w1.heap.size, 0, none⟩ = some (.int .i64 (gt (gl ss j) 0)) ∧ ((w1.alloc (.cells #[.int .i64 (gt (gl ss j) 0), .int .i64 (gt (gl ss j) 1), .int .i64 (gt (gl ss j) 2), .int .i64 (gt (gl ss j) 3)] 239)).alloc (.cells #[.int .i64 (j : Int), .int .i64 (gc ss j)] 247)).drew.cell? ⟨w1.heap.size, 1, none⟩ = some (.int .i64 (gt (gl ss j) 1)) ∧ ((w1.alloc (.cells #[.int .i64 (gt (gl ss j) 0), .int .i64 (gt (gl ss j) 1), .int .i64 (gt (gl ss j) 2), .int .i64 (gt (gl ss j) 3)] 239)).alloc (.cells #[.int .i64 (j : Int), .int .i64 (gc ss j)] 247)).drew.cell? ⟨w1.heap.size, 2, none⟩ = some (.int .i64 (gt (gl ss j) 2)) ∧ ((w1.alloc (.cells #[.int .i64 (gt (gl ss j) 0), .int .i64 (gt (gl ss j) 1), .int .i64 (gt (gl ss j) 2), .int .i64 (gt (gl ss j) 3)] 239)).alloc (.cells #[.int .i64 (j : Int), .int .i64 (gc ss j)] 247)).drew.cell? ⟨w1.heap.size, 3, none⟩ = some (.int .i64 (gt (gl ss j) 3))) := ⟨by go_simp, by go_simp, by go_simp, by go_simp, by go_simp, by go_simp⟩
      go_region_held2 (fun w' => w'.cell? ⟨w1.heap.size + 1, 0, none⟩ = some (.int .i64 (j : Int)) ∧ w'.cell? ⟨w1.heap.size + 1, 1, none⟩ = some (.int .i64 (gc ss j)) ∧ w'.cell? ⟨w1.heap.size, 0, none⟩ = some (.int .i64 (gt (gl ss j) 0)) ∧ w'.cell? ⟨w1.heap.size, 1, none⟩ = some (.int .i64 (gt (gl ss j) 1)) ∧ w'.cell? ⟨w1.heap.size, 2, none⟩ = some (.int .i64 (gt (gl ss j) 2)) ∧ w'.cell? ⟨w1.heap.size, 3, none⟩ = some (.int .i64 (gt (gl ss j) 3)))
        (first | with_reducible exact HSX.out | with_reducible assumption | (with_reducible refine keep6 hnA hnB ?_; with_reducible assumption))
        (first
        | (go_at_call 179; refine (labelOf_calls _ _ _ _ _).mono ?_; rintro e w2 ⟨b, rfl, hbN, blk, g2⟩; rw [← list4 hlen4] at blk; have h12 : Below w1.heap.size w1 w2 := (HAL.out.drew).trans (g2.mono (HAL.out.drew).size); have hU3 := HU2.out.below h12; obtain ⟨y0, s0⟩ : ∃ v, w2.cell? ⟨w.heap.size + 1, j * 2, none⟩ = some v := ⟨_, hU3.c0 j hj⟩; obtain ⟨y1, s1⟩ : ∃ v, w2.cell? ⟨w.heap.size + 1, j * 2 + 1, none⟩ = some v := ⟨_, hU3.c1 j hj⟩; have t0 := hU3.fz (j * 2); have t1 := hU3.fz (j * 2 + 1); have hs2 : w2.cell? ⟨w1.heap.size + 1, 0, none⟩ = some (.int .i64 (j : Int)) ∧ w2.cell? ⟨w1.heap.size + 1, 1, none⟩ = some (.int .i64 (gc ss j)) ∧ w2.cell? ⟨w1.heap.size, 0, none⟩ = some (.int .i64 (gt (gl ss j) 0)) ∧ w2.cell? ⟨w1.heap.size, 1, none⟩ = some (.int .i64 (gt (gl ss j) 1)) ∧ w2.cell? ⟨w1.heap.size, 2, none⟩ = some (.int .i64 (gt (gl ss j) 2)) ∧ w2.cell? ⟨w1.heap.size, 3, none⟩ = some (.int .i64 (gt (gl ss j) 3)) := ⟨(g2.cell (p := ⟨w1.heap.size + 1, 0, none⟩) (by simp)).trans HSX.out.1, (g2.cell (p := ⟨w1.heap.size + 1, 1, none⟩) (by simp)).trans HSX.out.2.1, (g2.cell (p := ⟨w1.heap.size, 0, none⟩) (by simp; omega)).trans HSX.out.2.2.1, (g2.cell (p := ⟨w1.heap.size, 1, none⟩) (by simp; omega)).trans HSX.out.2.2.2.1, (g2.cell (p := ⟨w1.heap.size, 2, none⟩) (by simp; omega)).trans HSX.out.2.2.2.2.1, (g2.cell (p := ⟨w1.heap.size, 3, none⟩) (by simp; omega)).trans HSX.out.2.2.2.2.2⟩; have HST := hide (HU2.out.store h12 hj (by simp at hbN; omega) blk); have HRG2 := hide (HRG1.out.below h12); have HB2 := hide (HB1.out.trans (h12.mono HB1.out.size)); have HR2 : Hid (w2.cell? ⟨w.heap.size, 0, none⟩ = some (.slice none 0 0) ∧ w2.frozen? ⟨w.heap.size, 0, none⟩ = false) := ⟨(h12.cell (p := ⟨w.heap.size, 0, none⟩) (by show w.heap.size < _; omega)).trans HR1.out.1, (h12.frozen (p := ⟨w.heap.size, 0, none⟩) (by show w.heap.size < _; omega)).trans HR1.out.2⟩; have hsz2 : w.heap.size + 1 + 1 < w2.heap.size := (by have := h12.size; omega); have hbb : w.heap.size + 1 + 1 < b := (by simp at hbN; omega); clear g2 blk h12 hU3))
      all_goals (
        go_wp2
        go_roundw
        case rel =>
          refine ⟨_, cnt1, _, (HRG2.out.kept (row := some (w.heap.size + 1)) (setC2_grown w2 (w.heap.size + 1) (j * 2, .int .i64 (gc ss j)) (j * 2 + 1, .slice (some ⟨b, 0, none⟩) 4 4)) (by have := HRG2.out.owns; intro e; injection e with e; exact map_ne_cells HRG2.out.owns s0 e) (by simp)), HST.out.congr (fun i hi => ?_), fun i hi hv => ?_, (HB2.out.setCell (by simp) _).setCell (by simp) _, by simpa using hsz2, ?_, by simpa using HR2.out.2⟩
          · by_cases e : i = j
            · subst e; simp [hp]
            · have e2 : (i == j) = false := by simpa using e
              rw [if_neg e, e2]; simp
          · by_cases e : i = j
            · rw [if_pos e]; exact hbb
            · rw [if_neg e]; exact HLB.out i hi (by have e2 : (i == j) = false := (by simpa using e); rw [e2] at hv; simpa using hv)
          · rw [World.cell?_setCell_other _ _ _ _ (fun e => by injection e with e1 _; omega), World.cell?_setCell_other _ _ _ _ (fun e => by injection e with e1 _; omega)]
            exact HR2.out.1
        case measure =>
          rw [(HRG2.out.kept (row := some (w.heap.size + 1)) (setC2_grown w2 (w.heap.size + 1) (j * 2, .int .i64 (gc ss j)) (j * 2 + 1, .slice (some ⟨b, 0, none⟩) 4 4)) (by intro e; injection e with e; exact map_ne_cells HRG2.out.owns s0 e) (by simp)).left_eq, HRG.out.left_eq]
          exact HLT.out)

/-- the first empty slot, or the number of slots. -/
def fe (ss : List (Int × List Int)) : Nat := ss.findIdx (fun s => s.1 == 0)

theorem fe_eq {ss : List (Int × List Int)} {k : Nat} (hk : k < ss.length) (h0 : gc ss k = 0) (hl : ∀ j, j < k → gc ss j ≠ 0) : fe ss = k := by
  unfold fe
  rw [List.findIdx_eq hk]
  refine ⟨by simpa [gc, hk] using h0, fun j hj => ?_⟩
  have := hl j hj
  have hj' : j < ss.length := by omega
  simpa [gc, hj'] using this

theorem fe_all {ss : List (Int × List Int)} (hl : ∀ j, j < ss.length → gc ss j ≠ 0) : fe ss = ss.length := by
  unfold fe
  rw [List.findIdx_eq_length]
  intro x hx
  obtain ⟨j, hj, rfl⟩ := List.mem_iff_getElem.1 hx
  have := hl j hj
  simpa [gc, hj] using this

/-- ten cells that tell which slots are full. -/
def Full (wr : World) (B : Nat) (V : Nat → Bool) : Prop := B < wr.heap.size ∧ (∀ i, i < 10 → wr.cell? ⟨B, i, none⟩ = some (.bool (V i))) ∧ ∀ i, wr.frozen? ⟨B, i, none⟩ = false

theorem Full.block {w w' : World} {B : Nat} {V : Nat → Bool} (h : Full w B V) (e : w'.heap[B]? = w.heap[B]?) (hs : w.heap.size ≤ w'.heap.size) : Full w' B V :=
  ⟨by have := h.1; omega, fun i hi => (World.cell?_of_block (a := ⟨B, i, none⟩) e).trans (h.2.1 i hi), fun i => (World.frozen?_of_block (a := ⟨B, i, none⟩) e).trans (h.2.2 i)⟩

theorem Full.below {w w' : World} {B : Nat} {V : Nat → Bool} (h : Full w B V) (hb : Below w.heap.size w w') : Full w' B V := h.block (hb.block B h.1) hb.size

theorem Full.set {w : World} {B j : Nat} {V : Nat → Bool} (h : Full w B V) (hj : j < 10) : Full (w.setCell ⟨B, j, none⟩ (.bool true)) B (fun i => if i = j then true else V i) := by
  refine ⟨by simpa using h.1, fun i hi => ?_, fun i => by simpa using h.2.2 i⟩
  by_cases e : i = j
  · subst e; simp only [if_true]; exact World.cell?_setCell_same _ _ _ (h.2.1 i hi)
  · simp only [if_neg e]; rw [World.cell?_setCell_other _ _ _ _ (fun h => by injection h with _ h2; omega)]; exact h.2.1 i hi

theorem Full.congr {w : World} {B : Nat} {V V' : Nat → Bool} (h : Full w B V) (e : ∀ i, i < 10 → V i = V' i) : Full w B V' := ⟨h.1, fun i hi => by rw [← e i hi]; exact h.2.1 i hi, h.2.2⟩

theorem Full.start (w : World) (t : TypeId) : Full (w.alloc (.cells #[.bool false, .bool false, .bool false, .bool false, .bool false, .bool false, .bool false, .bool false, .bool false, .bool false] t)) w.heap.size (fun _ => false) := by
  refine ⟨by simp, fun i hi => ?_, fun i => by simp⟩
  rw [World.cell?_alloc_new]
  obtain rfl | rfl | rfl | rfl | rfl | rfl | rfl | rfl | rfl | rfl : i = 0 ∨ i = 1 ∨ i = 2 ∨ i = 3 ∨ i = 4 ∨ i = 5 ∨ i = 6 ∨ i = 7 ∨ i = 8 ∨ i = 9 := by omega
  all_goals rfl

theorem setC1_grown (w : World) (N i : Nat) (y : Value) : w.grownBy (w.setCell ⟨N, i, none⟩ y) (some N) :=
  ⟨rfl, rfl, rfl, by simp, fun k _ hn => Below.heap_setCell _ _ _ _ (fun e => hn (by rw [e]))⟩

set_option maxRecDepth 100000 in
set_option maxHeartbeats 2000000 in
theorem firstEmpty_calls (P M n : Nat) (ss : List (Int × List Int)) (D : DataW Unit) (w : World) (hb : Bk w P M (ss.length : Int) n D) (good : Good ss) (rep : Rep ss D) :
    Calls Tryz.prog 190 #[.pointer (some ⟨P, 0, none⟩)] w fun e w' => e = .returned (.int .i64 (fe ss)) ∧ Below w.heap.size w w' := by
  have few := good.few
  have hP := hb.lt
  have c0 := hb.c0
  have c1 := hb.c1
  have own0 := hb.own.alloc (.cells #[.bool false, .bool false, .bool false, .bool false, .bool false, .bool false, .bool false, .bool false, .bool false, .bool false] 254)
  have hF0 := Full.start w 254
  have bel0 := (Below.refl w.heap.size w).alloc (Nat.le_refl _) (.cells #[.bool false, .bool false, .bool false, .bool false, .bool false, .bool false, .bool false, .bool false, .bool false, .bool false] 254)
  have HF0 := hide hF0
  have HB0 := hide bel0
  clear hF0 bel0
  go_enter Tryz.func190, Tryz.ntmps190
  go_wp2_with (first
    | (at_range; refine wpList_range_own _ rfl _ 172 rfl 239 247 lawK Tryz.underlying172 _ M n _ rfl own0 ?_; intro w0 hrg0 hg0 hs0)
    | go_in)
  try go_frame
  have hz : (w.alloc (.cells #[.bool false, .bool false, .bool false, .bool false, .bool false, .bool false, .bool false, .bool false, .bool false, .bool false] 254)).heap.size = w.heap.size + 1 := by simp
  rw [hz] at hrg0 hs0
  try rw [hz]
  have gb0 : Below (w.alloc (.cells #[.bool false, .bool false, .bool false, .bool false, .bool false, .bool false, .bool false, .bool false, .bool false, .bool false] 254)).heap.size (w.alloc (.cells #[.bool false, .bool false, .bool false, .bool false, .bool false, .bool false, .bool false, .bool false, .bool false, .bool false] 254)) w0 := ⟨hg0.os, hg0.tape, hg0.output, hg0.size, fun k hk => hg0.block k hk (by simp)⟩
  have HF1 := hide (HF0.out.below gb0)
  have HB1 := hide (HB0.out.trans (gb0.mono HB0.out.size))
  have HG1 := hide (RngB.start rep hrg0)
  have HZ : Hid (w0.heap.size = w.heap.size + 1 + 1) := hs0
  clear hrg0 hg0 hs0 hz gb0 HF0 HB0 own0
  go_loopw [12] (fun _ wr => ∃ (L : Nat → Bool) (cn : Nat), RngB wr M (w.heap.size + 1) n ss D L cn ∧ Full wr w.heap.size (fun i => decide (i < ss.length ∧ 0 < gc ss i) && !L i) ∧ Below w.heap.size w wr ∧ w.heap.size + 1 < wr.heap.size) (fun _ wr => wr.rangeLeft M (w.heap.size + 1))
  case atStart => exact ⟨_, _, HG1.out, HF1.out.congr (fun i _ => by simp), HB1.out, by have := HZ.out; omega⟩
  case round =>
    obtain ⟨L, cn, hrg, hF, hbel, hsz⟩ := hrel
    clear HG1 HF1 HB1
    go_wp2_with (first
      | (at_next; refine next_book _ rfl _ rfl M (w.heap.size + 1) n good rep rfl hrg ?_ ?_)
      | go_in)
    · intro hc0 hl0
      have hF2 := hF.congr (V' := fun i => decide (i < ss.length ∧ 0 < gc ss i)) (fun i hi => by (by_cases h : i < ss.length ∧ 0 < gc ss i); (rw [hl0 i h.1 h.2]; simp); simp [h])
      have k0 := (hbel.cell (p := ⟨P, 0, none⟩) hP).trans c0
      have HE := hide hbel
      clear hl0 hbel hF hrg hc0
      go_wp2
      go_loop [23] (fun i => ∃ k : Nat, k ≤ ss.length ∧ i = .int .i64 k ∧ ∀ j, j < k → gc ss j ≠ 0) (fun i => ss.length - (intOf i).toNat)
      case atStart => exact ⟨0, Nat.zero_le _, rfl, fun j hj => by omega⟩
      case round =>
        obtain ⟨k, hk, rfl, hno⟩ := hrel
        have HN := hide hno
        clear hno
        by_cases hlt : k < ss.length
        · have hck : wr.cell? ⟨w.heap.size, k, none⟩ = some (.bool (decide (k < ss.length ∧ 0 < gc ss k))) := hF2.2.1 k (by omega)
          have i1 : (k : Int) < (ss.length : Int) := by omega
          have i2 : (k : Int) < 10 := by omega
          by_cases h0 : gc ss k = 0
          · have ed : decide (k < ss.length ∧ 0 < gc ss k) = false := by simp [h0]
            rw [ed] at hck
            have HR := hide (fe_eq hlt h0 HN.out)
            go_wp2
            go_ret
            exact ⟨by rw [HR.out]; rfl, HE.out⟩
          · have ed : decide (k < ss.length ∧ 0 < gc ss k) = true := by have := good.low k hlt; simp; omega
            rw [ed] at hck
            go_wp2
            go_round
            case rel => exact ⟨k + 1, by omega, by go_num, fun j hj => by (by_cases e : j = k); (rw [e]; exact h0); exact HN.out j (by omega)⟩
            case measure => simp [intOf]; omega
        · have e : k = ss.length := by omega
          subst e
          have HR := hide (fe_all HN.out)
          go_wp2
          go_ret
          exact ⟨by rw [HR.out]; rfl, HE.out⟩
    · intro j hj hp hLj w1 cnt1 hrg1 hlt1 hg1 hs1 hen
      have e1 := hg1.block w.heap.size (by omega) (fun e => by injection e; omega)
      have hF1 := hF.block e1 hg1.size
      obtain ⟨vv, hck⟩ : ∃ v, w1.cell? ⟨w.heap.size, j, none⟩ = some (.bool v) := ⟨_, hF1.2.1 j (by omega)⟩
      have hfz := hF1.2.2 j
      have HB2 := hide (bel_grown hbel hg1 (by omega) hbel.size)
      have HF2 := hide hF1
      have HR1 := hide hrg1
      have HLT := hide hlt1
      have HRG := hide hrg
      have i1 : (j : Int) < 10 := by omega
      have hz1 : w.heap.size + 1 < w1.heap.size := by omega
      have hnA : w1.heap.size ≠ w.heap.size := by omega
      have al0 : Below w1.heap.size w1 (w1.alloc (.cells #[.int .i64 (j : Int), .int .i64 (gc ss j)] 247)) := (Below.refl _ _).alloc (Nat.le_refl _) _
      have ck2 := (al0.cell (p := ⟨w.heap.size, j, none⟩) (by show w.heap.size < _; omega)).trans hck
      have fz2 := (al0.frozen (p := ⟨w.heap.size, j, none⟩) (by show w.heap.size < _; omega)).trans hfz
      have ij : (0 : Int) ≤ (j : Int) := by omega
      clear hrg hrg1 hlt1 hg1 hF hF1 hbel e1 hs1 al0
      go_wp2
      go_roundw
      case rel =>
        have al : Below w1.heap.size w1 (w1.alloc (.cells #[.int .i64 (j : Int), .int .i64 (gc ss j)] 247)) := (Below.refl _ _).alloc (Nat.le_refl _) _
        have r2 := HR1.out.below al
        refine ⟨_, cnt1, r2.kept (row := some w.heap.size) (setC1_grown _ w.heap.size j (.bool true)) (fun e => by injection e with e; exact map_ne_cells HR1.out.owns hck e) (by simp), ((HF2.out.below al).set (by omega)).congr (fun i hi => ?_), (HB2.out.trans (al.mono HB2.out.size)).setCell (Nat.le_refl _) _, by simp; omega⟩
        by_cases e : i = j
        · subst e; simp [hp, hj]
        · have e2 : (i == j) = false := by simpa using e
          simp only [if_neg e]
          simp [e2]
      case measure =>
        have al : Below w1.heap.size w1 (w1.alloc (.cells #[.int .i64 (j : Int), .int .i64 (gc ss j)] 247)) := (Below.refl _ _).alloc (Nat.le_refl _) _
        rw [((HR1.out.below al).kept (row := some w.heap.size) (setC1_grown _ w.heap.size j (.bool true)) (fun e => by injection e with e; exact map_ne_cells HR1.out.owns hck e) (by simp)).left_eq, HRG.out.left_eq]
        exact HLT.out

/-- a slot laid at place q: in the row, or behind it. -/
def layS (ss : List (Int × List Int)) (q : Nat) (x : Int × List Int) : List (Int × List Int) := if q < ss.length then ss.set q x else ss ++ [x]

theorem length_layS {ss : List (Int × List Int)} {q : Nat} (x : Int × List Int) (hq : q ≤ ss.length) : (layS ss q x).length = max ss.length (q + 1) := by
  unfold layS
  split
  · simp; omega
  · simp; omega

theorem gc_put {ss : List (Int × List Int)} {q : Nat} (x : Int × List Int) (hq : q ≤ ss.length) (j : Nat) : gc (layS ss q x) j = if j = q then x.1 else gc ss j := by
  unfold layS
  split
  · rename_i h; exact gc_set ss q j x h
  · have e : q = ss.length := by omega
    subst e
    unfold gc
    by_cases e : j = ss.length
    · subst e; simp
    · rw [if_neg e]
      by_cases h : j < ss.length
      · simp [h, List.getElem?_append_left]
      · simp only [List.getD_eq_getElem?_getD]
        rw [List.getElem?_eq_none (by simp; omega), List.getElem?_eq_none (by omega)]

theorem gl_put {ss : List (Int × List Int)} {q : Nat} (x : Int × List Int) (hq : q ≤ ss.length) (j : Nat) : gl (layS ss q x) j = if j = q then x.2 else gl ss j := by
  unfold layS
  split
  · rename_i h; exact gl_set ss q j x h
  · have e : q = ss.length := by omega
    subst e
    unfold gl
    by_cases e : j = ss.length
    · subst e; simp
    · rw [if_neg e]
      by_cases h : j < ss.length
      · simp [h, List.getElem?_append_left]
      · simp only [List.getD_eq_getElem?_getD]
        rw [List.getElem?_eq_none (by simp; omega), List.getElem?_eq_none (by omega)]

theorem good_put {ss : List (Int × List Int)} (g : Good ss) {q : Nat} (hq : q ≤ ss.length) (h10 : q < 10) {c : Int} {zs : List Int} (hz : fault zs = 0) (h1 : 1 ≤ c) (h99 : c ≤ 99) (hu : ∀ j, j < ss.length → 0 < gc ss j → gl ss j = zs → j = q) : Good (layS ss q (c, zs)) := by
  have hl := length_layS (c, zs) hq
  have few := g.few
  have lt : ∀ j, j < (layS ss q (c, zs)).length → j ≠ q → j < ss.length := fun j hj e => by omega
  refine ⟨by omega, fun j hj => ?_, fun j hj => ?_, fun j hj h0 => ?_, fun j hj h => ?_, fun i j hi hj pi pj e => ?_⟩
  · rw [gc_put _ hq]
    split
    · simp; omega
    · rename_i e; exact g.low j (lt j hj e)
  · rw [gc_put _ hq]
    split
    · exact h99
    · rename_i e; exact g.top j (lt j hj e)
  · rw [gc_put _ hq] at h0
    rw [gl_put _ hq]
    by_cases e : j = q
    · rw [if_pos e] at h0; simp at h0; omega
    · rw [if_neg e] at h0 ⊢; exact g.empty j (lt j hj e) h0
  · rw [gc_put _ hq] at h
    rw [gl_put _ hq]
    by_cases e : j = q
    · rw [if_pos e]; exact hz
    · rw [if_neg e] at h ⊢; exact g.right j (lt j hj e) h
  · rw [gc_put _ hq] at pi pj
    rw [gl_put _ hq, gl_put _ hq] at e
    by_cases ei : i = q
    · by_cases ej : j = q
      · omega
      · rw [if_neg ej] at pj e
        rw [if_pos ei] at e
        have := hu j (lt j hj ej) pj e.symm
        omega
    · rw [if_neg ei] at pi e
      by_cases ej : j = q
      · rw [if_pos ej] at e
        have := hu i (lt i hi ei) pi e
        omega
      · rw [if_neg ej] at pj e
        exact g.uniq i j (lt i hi ei) (lt j hj ej) pi pj e

theorem rep_put {ss : List (Int × List Int)} (g : Good ss) {D : DataW Unit} (r : Rep ss D) (hm : Go.Maps.IsMap D) {q : Nat} (hq : q ≤ ss.length) {c : Int} {zs : List Int} (hz : fault zs = 0) (h1 : 1 ≤ c) (hu : ∀ j, j < ss.length → 0 < gc ss j → gl ss j = zs → j = q) (ho : q < ss.length → 0 < gc ss q → gl ss q = zs) : Rep (layS ss q (c, zs)) (D.put (kl zs) (st (q : Int) c)) := by
  have hl := length_layS (c, zs) hq
  have lt : ∀ j, j < (layS ss q (c, zs)).length → j ≠ q → j < ss.length := fun j hj e => by omega
  have hql : q < (layS ss q (c, zs)).length := by omega
  have hne : ∀ j, j < ss.length → 0 < gc ss j → j ≠ q → kl (gl ss j) ≠ kl zs := fun j hj hpj e h => e (hu j hj hpj (kl_inj (g.right j hj hpj) hz h))
  refine ⟨fun k => ?_, fun j hj hpj z => ?_⟩
  · by_cases hk : k = kl zs
    · rw [hk, Go.Maps.has_put_same hm (kl_key _)]
      exact ⟨fun _ => ⟨q, hql, by rw [gc_put _ hq, if_pos rfl]; exact (by omega : 0 < c), by rw [gl_put _ hq, if_pos rfl]⟩, fun _ => rfl⟩
    · rw [Go.Maps.has_put_other hk, r.keys k]
      constructor
      · rintro ⟨j, hj, hpj, rfl⟩
        have e : j ≠ q := fun e => hk (by rw [e, ho (e ▸ hj) (e ▸ hpj)])
        exact ⟨j, by omega, by rw [gc_put _ hq, if_neg e]; exact hpj, by rw [gl_put _ hq, if_neg e]⟩
      · rintro ⟨j, hj, hpj, rfl⟩
        have e : j ≠ q := fun e => hk (by rw [gl_put _ hq, if_pos e])
        rw [gc_put _ hq, if_neg e] at hpj
        exact ⟨j, lt j hj e, hpj, by rw [gl_put _ hq, if_neg e]⟩
  · rw [gc_put _ hq] at hpj ⊢
    rw [gl_put _ hq]
    by_cases e : j = q
    · rw [if_pos e, if_pos e, Go.Maps.atKey_put_same hm (kl_key _), e]
    · rw [if_neg e] at hpj
      rw [if_neg e, if_neg e, Go.Maps.atKey_put_other (hne j (lt j hj e) hpj e)]
      exact r.vals j (lt j hj e) hpj z

/-- where a label would stand, and how often it is meant till now. -/
def enQ (ss : List (Int × List Int)) (zs : List Int) : Nat := if at2 ss zs < 0 then fe ss else (at2 ss zs).toNat

def enN (ss : List (Int × List Int)) (zs : List Int) : Int := if at2 ss zs < 0 then 0 else gc ss (at2 ss zs).toNat

def etC (ss : List (Int × List Int)) (zs : List Int) : Int := if enQ ss zs = 10 ∨ enN ss zs = 99 then 7 else 0

def enS (ss : List (Int × List Int)) (zs : List Int) : List (Int × List Int) := layS ss (enQ ss zs) (enN ss zs + 1, zs)

theorem fe_le (ss : List (Int × List Int)) : fe ss ≤ ss.length := List.findIdx_le_length

theorem fe_gc {ss : List (Int × List Int)} (h : fe ss < ss.length) : gc ss (fe ss) = 0 := by
  have := List.findIdx_getElem (w := h)
  unfold gc
  unfold fe at h ⊢
  simpa [h] using this

theorem en_facts {ss : List (Int × List Int)} (g : Good ss) {zs : List Int} :
    enQ ss zs ≤ ss.length ∧ 0 ≤ enN ss zs ∧ enN ss zs ≤ 99 ∧ (∀ j, j < ss.length → 0 < gc ss j → gl ss j = zs → j = enQ ss zs) ∧ (enQ ss zs < ss.length → 0 < gc ss (enQ ss zs) → gl ss (enQ ss zs) = zs) := by
  rcases at2_cases ss zs with ⟨h1, h2⟩ | ⟨j, hj, h1, h2⟩
  · have e1 : enQ ss zs = fe ss := if_pos (by omega)
    have e2 : enN ss zs = 0 := if_pos (by omega)
    rw [e1, e2]
    refine ⟨fe_le ss, by omega, by omega, fun j hj hp e => ?_, fun h hp => ?_⟩
    · have := h2 j hj
      simp [hit, hp, e] at this
    · rw [fe_gc h] at hp
      omega
  · have hh : 0 < gc ss j ∧ gl ss j = zs := by simpa [hit] using h2
    have e1 : enQ ss zs = j := by unfold enQ; rw [if_neg (by omega), h1]; omega
    have e2 : enN ss zs = gc ss j := by unfold enN; rw [if_neg (by omega), h1]; rfl
    rw [e1, e2]
    exact ⟨by omega, g.low j hj, g.top j hj, fun i hi hp e => g.uniq i j hi hj hp hh.1 (by rw [e, hh.2]), fun _ _ => hh.2⟩

theorem good_enter {ss : List (Int × List Int)} (g : Good ss) {zs : List Int} (hz : fault zs = 0) (h : etC ss zs = 0) : Good (enS ss zs) := by
  obtain ⟨h1, h2, h3, h4, _⟩ := en_facts g (zs := zs)
  have hn : ¬ (enQ ss zs = 10 ∨ enN ss zs = 99) := fun e => by unfold etC at h; rw [if_pos e] at h; cases h
  have := g.few
  exact good_put g h1 (by omega) hz (by omega) (by omega) h4

theorem rep_enter {ss : List (Int × List Int)} (g : Good ss) {D : DataW Unit} (r : Rep ss D) (hm : Go.Maps.IsMap D) {zs : List Int} (hz : fault zs = 0) : Rep (enS ss zs) (D.put (kl zs) (st (enQ ss zs : Int) (enN ss zs + 1))) := by
  obtain ⟨h1, h2, h3, h4, h5⟩ := en_facts g (zs := zs)
  exact rep_put g r hm h1 hz (by omega) h4 h5

theorem CPx.of {w : World} {B n rc : Nat} {ss : List (Int × List Int)} {a : Option Addr} {xs : List Value} (ho : OR (InR B w.heap.size) a n ss w) (hx : w.ownsRow B 150 2 (.slice a n rc) n xs) : ∃ la lc lb, CPx w B ss n (.slice a n rc) la lc lb xs := by
  by_cases h0 : n = 0
  · exact ⟨fun _ => none, fun _ => 0, fun _ => 0, hx, fun j hj => by omega, fun j hj => by omega, fun j hj => by omega, fun j hj => by omega, fun j hj => by omega, fun i j hi => by omega⟩
  · obtain ⟨N, la, lc, lb, rfl, hb⟩ := ho.body (by omega)
    refine ⟨la, lc, lb, hx, fun j hj => ?_, fun j hj => ?_, hb.os, fun j hj hl => hb.lS j hj hl, fun j hj hl e => hb.ne j hj hl (by injection e with e; exact e.symm), hb.ap⟩
    · rw [← hx.cellAt (j * 2) (by omega)]; exact hb.c0 j hj
    · rw [← hx.cellAt (j * 2 + 1) (by omega)]; exact hb.c1 j hj

theorem CPx.congr {wr : World} {B : Nat} {ss rr : List (Int × List Int)} {k : Nat} {v : Value} {la : Nat → Option Addr} {lc lb : Nat → Nat} {xs : List Value} (h : CPx wr B ss k v la lc lb xs) (h1 : ∀ j, j < k → gc ss j = gc rr j) (h2 : ∀ j, j < k → gl ss j = gl rr j) : CPx wr B rr k v la lc lb xs :=
  ⟨h.own, fun j hj => h1 j hj ▸ h.x0 j hj, fun j hj => h2 j hj ▸ h.x1 j hj, fun j hj => h2 j hj ▸ h.os j hj, fun j hj hl => h.ge j hj (by rw [h2 j hj]; exact hl), fun j hj hl => h.ne j hj (by rw [h2 j hj]; exact hl), fun i j hi hj e a b => h.ap i j hi hj e (by rw [h2 i hi]; exact a) (by rw [h2 j hj]; exact b)⟩

/-- a whole slot is laid into the row. -/
theorem ORb.lay {S : Nat → Prop} {N n : Nat} {la : Nat → Option Addr} {lc lb : Nat → Nat} {fc : Nat → Int} {fl : Nat → List Int} {w : World} (h : ORb S N n la lc lb fc fl w) {i : Nat} (hi : i < n) {c : Int} {zs : List Int} {ra : Option Addr} {rc b : Nat} (ho : OS (fun k => k = b ∧ 0 < zs.length) ra zs.length zs w) (hbS : 0 < zs.length → S b) (hbN : 0 < zs.length → b ≠ N) (hap : ∀ j, j < n → 0 < (fl j).length → lb j ≠ b) :
    ORb S N n (upd la i ra) (upd lc i rc) (upd lb i b) (upd fc i c) (upd fl i zs) ((w.setCell ⟨N, i * 2, none⟩ (.int .i64 c)).setCell ⟨N, i * 2 + 1, none⟩ (.slice ra zs.length rc)) := by
  refine ⟨h.hS, by simpa using h.lt, fun j => by simpa using h.fz j, fun j hj => ?_, fun j hj => ?_, fun j hj => ?_, fun j hj l => ?_, fun j hj l => ?_, fun x y hx hy e lx ly => ?_⟩
  · unfold upd
    rw [World.cell?_setCell_other _ _ _ _ (fun h => by injection h with _ h2; omega)]
    by_cases e : j = i
    · subst e; rw [if_pos rfl]; exact World.cell?_setCell_same _ _ _ (h.c0 j hj)
    · rw [if_neg e, World.cell?_setCell_other _ _ _ _ (fun h => by injection h with _ h2; omega)]; exact h.c0 j hj
  · unfold upd
    by_cases e : j = i
    · subst e
      simp only [if_true]
      exact World.cell?_setCell_same _ _ _ ((World.cell?_setCell_other _ _ _ _ (fun h => by injection h with _ h2; omega)).trans (h.c1 j hj))
    · simp only [if_neg e]
      rw [World.cell?_setCell_other _ _ _ _ (fun h => by injection h with _ h2; omega), World.cell?_setCell_other _ _ _ _ (fun h => by injection h with _ h2; omega)]
      exact h.c1 j hj
  · unfold upd
    by_cases e : j = i
    · subst e
      simp only [if_true]
      exact OS.loc.setC (OS.loc.setC ho (fun e => hbN e.2 (e.1.symm)) _) (fun e => hbN e.2 (e.1.symm)) _
    · simp only [if_neg e]
      exact OS.loc.setC (OS.loc.setC (h.os j hj) (fun e => h.ne j hj e.2 (e.1.symm)) _) (fun e => h.ne j hj e.2 (e.1.symm)) _
  · unfold upd at l ⊢
    by_cases e : j = i
    · rw [if_pos e] at l ⊢; exact hbS l
    · rw [if_neg e] at l ⊢; exact h.lS j hj l
  · unfold upd at l ⊢
    by_cases e : j = i
    · rw [if_pos e] at l ⊢; exact hbN l
    · rw [if_neg e] at l ⊢; exact h.ne j hj l
  · unfold upd at lx ly ⊢
    by_cases ex : x = i
    · have ey : y ≠ i := by omega
      rw [if_neg ey] at ly ⊢
      rw [if_pos ex]
      exact fun h2 => hap y hy ly h2.symm
    · rw [if_neg ex] at lx ⊢
      by_cases ey : y = i
      · rw [if_pos ey]; exact hap x hx lx
      · rw [if_neg ey] at ly ⊢; exact h.ap x y hx hy e lx ly

theorem CPx.step2 {wr X w1 : World} {B : Nat} {ss : List (Int × List Int)} {k : Nat} {v : Value} {la : Nat → Option Addr} {lc lb : Nat → Nat} {xs : List Value} (h : CPx wr B ss k v la lc lb xs) (hB : B ≤ wr.heap.size)
    (hc : Below wr.heap.size wr X) {ra : Option Addr} {ll rc g cp : Nat} (hll : (gl ss k).length = ll) (ho : OS (InR wr.heap.size X.heap.size) ra ll (gl ss k) X) (hg : X.grownBy w1 v.ownBlock) (hat : v.ownBlock = some g ∨ g = X.heap.size)
    (hown : w1.ownsRow B 150 2 (.slice (some ⟨g, 0, none⟩) (k + 1) cp) (k + 1) (xs ++ [.int .i64 (gc ss k), .slice ra ll rc])) :
    ∃ la' lc' lb', (∀ j, j < k + 1 → 0 < (gl ss j).length → lb' j < wr.heap.size → j < k ∧ lb' j = lb j) ∧ CPx w1 B ss (k + 1) (.slice (some ⟨g, 0, none⟩) (k + 1) cp) la' lc' lb' (xs ++ [.int .i64 (gc ss k), .slice ra ll rc]) := by
  subst hll
  obtain ⟨b, ob, hb⟩ := ho.one
  have hx : xs.length = k * 2 := h.own.1
  have hsz := hc.size
  have hgs := hg.size
  have hvb : ∀ q, v.ownBlock = some q → q < wr.heap.size := fun q e => (h.own.lt q e).2
  have hgne : ∀ q, q < X.heap.size → v.ownBlock ≠ some q → g ≠ q := fun q hq hv e => by
    rcases hat with hat | hat
    · exact hv (by rw [hat, e])
    · omega
  have keep : ∀ {S : Nat → Prop} {a : Option Addr} {n : Nat} {zs : List Int}, (∀ q, S q → q < X.heap.size ∧ v.ownBlock ≠ some q) → OS S a n zs X → OS S a n zs w1 := fun hS h0 =>
    OS.loc X w1 (fun q hq hlt => hg.block q hlt (fun e => (hS q hq).2 e.symm)) h0
  refine ⟨fun j => if j = k then ra else la j, fun j => if j = k then rc else lc j, fun j => if j = k then b else lb j, fun j hj hl hlt => ?_, hown, fun j hj => ?_, fun j hj => ?_, fun j hj => ?_, fun j hj hl => ?_, fun j hj hl => ?_, fun i j hi hj hij li lj => ?_⟩
  · by_cases e : j = k
    · simp only [if_pos e] at hlt
      subst e
      have := hb hl
      omega
    · simp only [if_neg e]
      exact ⟨by omega, trivial⟩
  · by_cases e : j = k
    · subst e; rw [List.getElem?_append_right (by omega)]; simp [hx]
    · rw [List.getElem?_append_left (by omega)]; exact h.x0 j (by omega)
  · by_cases e : j = k
    · subst e; rw [if_pos rfl, if_pos rfl, List.getElem?_append_right (by omega)]; simp [hx]
    · rw [if_neg e, if_neg e, List.getElem?_append_left (by omega)]; exact h.x1 j (by omega)
  · by_cases e : j = k
    · subst e
      simp only [if_true]
      exact keep (fun q hq => ⟨by have := hb hq.2; have := hq.1; omega, fun e => by have := hvb q e; have := hb hq.2; have := hq.1; omega⟩) ob
    · simp only [if_neg e]
      have hj' : j < k := by omega
      exact keep (fun q hq => ⟨by have := (h.ge j hj' hq.2).2; have := hq.1; omega, fun e => h.ne j hj' hq.2 (by rw [e, hq.1])⟩) (OS.loc.below hc (h.os j hj'))
  · by_cases e : j = k
    · subst e; rw [if_pos rfl]; have := hb hl; omega
    · rw [if_neg e]; have := h.ge j (by omega) hl; omega
  · by_cases e : j = k
    · subst e
      rw [if_pos rfl]
      have := hb hl
      intro e2
      injection e2 with e2
      exact hgne b (by omega) (fun e3 => by have := hvb b e3; omega) e2
    · rw [if_neg e]
      have hj' : j < k := by omega
      have := (h.ge j hj' hl).2
      intro e2
      injection e2 with e2
      exact hgne (lb j) (by omega) (h.ne j hj' hl) e2
  · by_cases e : i = k
    · rw [if_pos e, if_neg (by omega)]
      have := h.ge j (by omega) lj
      subst e
      have := hb li
      omega
    · rw [if_neg e]
      by_cases e2 : j = k
      · rw [if_pos e2]
        have := h.ge i (by omega) li
        subst e2
        have := hb lj
        omega
      · rw [if_neg e2]
        exact h.ap i j (by omega) (by omega) hij li lj

theorem CPx.setFar {wr : World} {B : Nat} {ss : List (Int × List Int)} {k : Nat} {v : Value} {la : Nat → Option Addr} {lc lb : Nat → Nat} {xs : List Value} (h : CPx wr B ss k v la lc lb xs) {P : Nat} (hv : v.ownBlock ≠ some P) (hl : ∀ j, j < k → 0 < (gl ss j).length → lb j ≠ P) (y : Value) : CPx (wr.setCell ⟨P, 0, none⟩ y) B ss k v la lc lb xs :=
  ⟨h.own.kept (setC1_grown wr P 0 y) (.inr hv), h.x0, h.x1, fun j hj => OS.loc.setC (h.os j hj) (fun e => hl j hj e.2 e.1.symm) y, fun j hj l => by simpa using h.ge j hj l, h.ne, h.ap⟩

theorem keepQS {X : World} {q r N i1 i2 : Nat} {u v y1 y2 : Value} (hq : q ≠ N) (hr : r ≠ N) (h : X.cell? ⟨q, 0, none⟩ = some u ∧ X.cell? ⟨r, 0, none⟩ = some v) : ((X.setCell ⟨N, i1, none⟩ y1).setCell ⟨N, i2, none⟩ y2).cell? ⟨q, 0, none⟩ = some u ∧ ((X.setCell ⟨N, i1, none⟩ y1).setCell ⟨N, i2, none⟩ y2).cell? ⟨r, 0, none⟩ = some v := by
  have k : ∀ c o, c ≠ N → ((X.setCell ⟨N, i1, none⟩ y1).setCell ⟨N, i2, none⟩ y2).cell? ⟨c, o, none⟩ = X.cell? ⟨c, o, none⟩ := fun c o hc => by
    rw [World.cell?_setCell_other _ _ _ _ (fun e => by injection e with e1 _; exact hc e1.symm), World.cell?_setCell_other _ _ _ _ (fun e => by injection e with e1 _; exact hc e1.symm)]
  exact ⟨(k _ _ hq).trans h.1, (k _ _ hr).trans h.2⟩

/-- q's cells from the second on are as they were. -/
def KQ (q : Nat) (w w' : World) : Prop := ∀ j, (1 ≤ j → w'.cell? ⟨q, j, none⟩ = w.cell? ⟨q, j, none⟩) ∧ w'.frozen? ⟨q, j, none⟩ = w.frozen? ⟨q, j, none⟩

theorem KQ.of_block {q : Nat} {w w' : World} (h : w'.heap[q]? = w.heap[q]?) : KQ q w w' := fun j => ⟨fun _ => World.cell?_of_block (a := ⟨q, j, none⟩) h, World.frozen?_of_block (a := ⟨q, j, none⟩) h⟩

theorem KQ.trans {q : Nat} {w u v : World} (h : KQ q w u) (k : KQ q u v) : KQ q w v := fun j => ⟨fun hj => ((k j).1 hj).trans ((h j).1 hj), (k j).2.trans (h j).2⟩

theorem KQ.set0 {q : Nat} {w u : World} (h : KQ q w u) (v : Value) : KQ q w (u.setCell ⟨q, 0, none⟩ v) := fun j => ⟨fun hj => (World.cell?_setCell_other _ _ _ _ (fun e => by injection e with _ e2; omega)).trans ((h j).1 hj), by rw [World.frozen?_setCell]; exact (h j).2⟩

theorem KQ.setN {q N i : Nat} {w u : World} (h : KQ q w u) (hn : q ≠ N) (v : Value) : KQ q w (u.setCell ⟨N, i, none⟩ v) := h.trans (KQ.of_block (Below.heap_setCell _ _ _ _ (fun e => hn e)))

/-- the registry's variable behind an entering: in its old blocks S or in new ones; its row is its own. -/
def ERs (q B : Nat) (S : Nat → Prop) (ss : List (Int × List Int)) (zs : List Int) (w : World) (e : Ending) (w' : World) : Prop :=
  e = .returned (.int .i64 (if etC ss zs = 0 then (enQ ss zs : Int) else -1)) ∧
    (etC ss zs = 0 → ∃ a' ca', w'.cell? ⟨q, 0, none⟩ = some (.slice a' (enS ss zs).length ca') ∧ OR (fun k => S k ∨ InR w.heap.size w'.heap.size k) a' (enS ss zs).length (enS ss zs) w' ∧ ∃ ys, w'.ownsRow B 150 2 (.slice a' (enS ss zs).length ca') (enS ss zs).length ys) ∧
    (etC ss zs ≠ 0 → Below w.heap.size w w') ∧ OutS (fun k => S k ∨ k = q) w w' ∧ KQ q w w'

theorem enter_layS {S : Nat → Prop} {N n k : Nat} {la : Nat → Option Addr} {lc lb : Nat → Nat} {ss : List (Int × List Int)} {zs : List Int} {w w1 w2 : World} {ra : Option Addr} {rc nb : Nat} (hb : ORb S N n la lc lb (gc ss) (gl ss) w2) (hk : k < n) (h4 : zs.length = 4) (ob : OS (fun j => j = nb ∧ 0 < 4) ra 4 zs w2) (hnb : 0 < 4 → w1.drew.heap.size ≤ nb ∧ nb < w2.heap.size)
    (hz1 : w.heap.size ≤ w1.heap.size) (hSw : ∀ k, S k → k < w.heap.size) (hF : enQ ss zs = k) (hN : enN ss zs = 0) (hlen : ss.length = n) (hL : (enS ss zs).length = n) (hm : n + lenSum (enS ss zs) ≤ 1048576) :
    OR (fun j => S j ∨ InR w.heap.size ((w2.setCell ⟨N, k * 2, none⟩ (.int .i64 1)).setCell ⟨N, k * 2 + 1, none⟩ (.slice ra 4 rc)).heap.size j) (some ⟨N, 0, none⟩) n (enS ss zs) ((w2.setCell ⟨N, k * 2, none⟩ (.int .i64 1)).setCell ⟨N, k * 2 + 1, none⟩ (.slice ra 4 rc)) := by
  have hnb' := hnb (by omega)
  simp only [World.size_drew] at hnb'
  have hNw := hSw N hb.hS
  have hmono : ORb (fun j => S j ∨ InR w.heap.size w2.heap.size j) N n la lc lb (gc ss) (gl ss) w2 := ⟨.inl hb.hS, hb.lt, hb.fz, hb.c0, hb.c1, hb.os, fun i hi hl => .inl (hb.lS i hi hl), hb.ne, hb.ap⟩
  have h := hmono.lay hk (c := 1) (zs := zs) (ra := ra) (rc := rc) (b := nb) (by rw [h4]; exact ob) (fun _ => .inr ⟨by omega, hnb'.2⟩) (fun _ => by omega) (fun j hj hl e => by have := hSw _ (hb.lS j hj hl); omega)
  rw [h4] at h
  have h2 := h.congr (fc' := gc (enS ss zs)) (fl' := gl (enS ss zs)) (fun i hi => by unfold enS; rw [gc_put _ (by omega), hF, hN]; rfl) (fun i hi => by unfold enS; rw [gl_put _ (by omega), hF]; rfl)
  exact (ORb.or h2 hL hm).mono (fun j hj => hj.imp id (fun h => ⟨h.1, by simpa using h.2⟩))

theorem far_qS {w1 X w5 : World} {o : Obj} {S : Nat → Prop} {q : Nat} {v y : Value} (hv : ∀ g, v.ownBlock = some g → S g) (hc : Below w1.heap.size w1 X) (hg : (X.alloc o).grownBy w5 v.ownBlock) (h1 : w1.cell? ⟨q, 0, none⟩ = some y) (h2 : w1.frozen? ⟨q, 0, none⟩ = false) (hT : ¬ S q) (hq : q < w1.heap.size) : w5.cell? ⟨q, 0, none⟩ = some y ∧ w5.frozen? ⟨q, 0, none⟩ = false := by
  have hb := hc.alloc hc.size o
  have hsz := hb.size
  have far : w5.heap[q]? = w1.heap[q]? := (hg.block q (by omega) (fun e => hT (hv q e.symm))).trans (hb.block q hq)
  exact ⟨(World.cell?_of_block (a := ⟨q, 0, none⟩) far).trans h1, (World.frozen?_of_block (a := ⟨q, 0, none⟩) far).trans h2⟩

theorem CPx.ofS {w : World} {S : Nat → Prop} {B n rc : Nat} {ss : List (Int × List Int)} {a : Option Addr} {xs : List Value} (ho : OR S a n ss w) (hS : ∀ k, S k → B ≤ k ∧ k < w.heap.size) (hx : w.ownsRow B 150 2 (.slice a n rc) n xs) : ∃ la lc lb, (∀ j, j < n → 0 < (gl ss j).length → S (lb j)) ∧ CPx w B ss n (.slice a n rc) la lc lb xs := by
  by_cases h0 : n = 0
  · exact ⟨fun _ => none, fun _ => 0, fun _ => 0, fun j hj => by omega, hx, fun j hj => by omega, fun j hj => by omega, fun j hj => by omega, fun j hj => by omega, fun j hj => by omega, fun i j hi => by omega⟩
  · obtain ⟨N, la, lc, lb, rfl, hb⟩ := ho.body (by omega)
    refine ⟨la, lc, lb, fun j hj hl => hb.lS j hj hl, hx, fun j hj => ?_, fun j hj => ?_, hb.os, fun j hj hl => hS _ (hb.lS j hj hl), fun j hj hl e => hb.ne j hj hl (by injection e with e; exact e.symm), hb.ap⟩
    · rw [← hx.cellAt (j * 2) (by omega)]; exact hb.c0 j hj
    · rw [← hx.cellAt (j * 2 + 1) (by omega)]; exact hb.c1 j hj

theorem CPx.orT {wr : World} {B n g cap : Nat} {ss : List (Int × List Int)} {la : Nat → Option Addr} {lc lb : Nat → Nat} {xs : List Value} (h : CPx wr B ss n (.slice (some ⟨g, 0, none⟩) n cap) la lc lb xs) (hn : ss.length = n) (hm : n + lenSum ss ≤ 1048576) {S : Nat → Prop} (hg : S g) (hl : ∀ j, j < n → 0 < (gl ss j).length → S (lb j)) : OR S (some ⟨g, 0, none⟩) n ss wr :=
  ⟨hn, hm, .inr ⟨g, la, lc, lb, rfl, hg, (h.own.lt g rfl).2, h.own.frozenAt, fun i hi => ⟨(h.own.cellAt (i * 2) (by omega)).trans (h.x0 i hi), (h.own.cellAt (i * 2 + 1) (by omega)).trans (h.x1 i hi), h.os i hi, fun l => ⟨hl i hi l, fun e => h.ne i hi l (by rw [e]; rfl)⟩⟩, h.ap⟩⟩

theorem enter_appS {S : Nat → Prop} {q B k g cp rc : Nat} {a ra : Option Addr} {ca : Nat} {la : Nat → Option Addr} {lc lb : Nat → Nat} {rr : List (Int × List Int)} {zs : List Int} {xs : List Value} {w w1 X w5 : World} (h : CPx w1 B rr k (.slice a k ca) la lc lb xs) (hlb : ∀ j, j < k → 0 < (gl rr j).length → S (lb j)) (hvT : ∀ g, (Value.slice a k ca).ownBlock = some g → S g)
    (hG : Below w.heap.size w w1) (hq : q < w.heap.size) (hqS : ¬ S q) (hB : B ≤ w.heap.size) (hc : Below w1.heap.size w1 X) (hll : gl rr k = zs) (h4 : zs.length = 4) (hgc : gc rr k = 1) (ho : OS (InR w1.heap.size X.heap.size) ra 4 zs X) (hg : X.grownBy w5 (Value.slice a k ca).ownBlock) (hat : (Value.slice a k ca).ownBlock = some g ∨ g = X.heap.size)
    (hown : w5.ownsRow B 150 2 (.slice (some ⟨g, 0, none⟩) (k + 1) cp) (k + 1) (xs ++ [.int .i64 1, .slice ra 4 rc])) (hL : rr.length = k + 1) (hm : k + 1 + lenSum rr ≤ 1048576) (hqc : w1.cell? ⟨q, 0, none⟩ = some (.slice a k ca)) (y : Value) (hy : y = .slice (some ⟨g, 0, none⟩) (k + 1) cp) :
    (w5.setCell ⟨q, 0, none⟩ y).cell? ⟨q, 0, none⟩ = some (.slice (some ⟨g, 0, none⟩) (k + 1) cp) ∧ OR (fun j => S j ∨ InR w.heap.size (w5.setCell ⟨q, 0, none⟩ y).heap.size j) (some ⟨g, 0, none⟩) (k + 1) rr (w5.setCell ⟨q, 0, none⟩ y) ∧ (∃ ys, (w5.setCell ⟨q, 0, none⟩ y).ownsRow B 150 2 (.slice (some ⟨g, 0, none⟩) (k + 1) cp) (k + 1) ys) ∧ OutS (fun k => S k ∨ k = q) w (w5.setCell ⟨q, 0, none⟩ y) ∧ KQ q w (w5.setCell ⟨q, 0, none⟩ y) := by
  subst hy
  have z1 := hG.size
  have z2 := hc.size
  have z3 := hg.size
  have hgq : g ≠ q := fun e => by
    rcases hat with hat | hat
    · exact hqS (e ▸ hvT g hat)
    · omega
  have hqb : w5.heap[q]? = w1.heap[q]? := (hg.block q (by omega) (fun e => hqS (hvT q e.symm))).trans (hc.block q (by omega))
  obtain ⟨la', lc', lb', hlb', hx⟩ := h.step2 (by omega) hc (by rw [hll, h4]) (by rw [hll]; exact ho) hg hat (by rw [hgc]; exact hown)
  have hne : ∀ j, j < k + 1 → 0 < (gl rr j).length → lb' j ≠ q := fun j hj hl e => by
    obtain ⟨h1, h2⟩ := hlb' j hj hl (by omega)
    exact hqS (by rw [← e, h2]; exact hlb j h1 hl)
  have hx2 := hx.setFar (P := q) (by intro e; injection e with e; exact hgq e) hne (.slice (some ⟨g, 0, none⟩) (k + 1) cp)
  refine ⟨World.cell?_setCell_same _ _ _ ((World.cell?_of_block (a := ⟨q, 0, none⟩) hqb).trans hqc), ?_, ⟨_, hx2.own⟩, ?_, ((KQ.of_block (hG.block q hq)).trans (KQ.of_block hqb)).set0 _⟩
  · rw [hgc] at hx2
    refine hx2.orT hL hm ?_ (fun j hj hl => ?_)
    · have hgl := hx2.own.lt g rfl
      rcases hat with hat | hat
      · exact .inl (hvT g hat)
      · exact .inr ⟨by omega, hgl.2⟩
    · have hge := hx2.ge j hj hl
      by_cases hlt : lb' j < w1.heap.size
      · obtain ⟨h1, h2⟩ := hlb' j hj hl hlt
        exact .inl (by rw [h2]; exact hlb j h1 hl)
      · exact .inr ⟨by omega, hge.2⟩
  · refine OutS.setCell ((OutS.of_below (hG.mono (Nat.le_refl _))).trans ((OutS.of_below hc).trans ⟨hg.os, hg.tape, hg.output, hg.size, fun j hj hn => hg.block j hj (fun e => hn (.inl (hvT j e.symm)))⟩)) (.inr rfl) _

set_option maxRecDepth 100000 in
set_option maxHeartbeats 2000000 in
theorem l2Enter_S (q r B : Nat) (S : Nat → Prop) (a b : Option Addr) (n ca cb : Nat) (ss : List (Int × List Int)) (zs : List Int) (xs : List Value) (w : World) (hq : q < w.heap.size) (hqS : ¬ S q) (hr : r < w.heap.size) (hrS : ¬ S r) (hBw : B ≤ w.heap.size) (hS : ∀ k, S k → B ≤ k ∧ k < w.heap.size) (hqc : w.cell? ⟨q, 0, none⟩ = some (.slice a n ca)) (hqf : w.frozen? ⟨q, 0, none⟩ = false) (hrc : w.cell? ⟨r, 0, none⟩ = some (.slice b 4 cb))
    (ho : OR S a n ss w) (hown : w.ownsRow B 150 2 (.slice a n ca) n xs) (hvT : ∀ g, (Value.slice a n ca).ownBlock = some g → S g) (good : Good ss) (hy : Sl w b 4 zs) (hz : fault zs = 0) :
    Calls Tryz.prog 108 #[.pointer (some ⟨q, 0, none⟩), .pointer (some ⟨r, 0, none⟩)] w (ERs q B S ss zs w) := by
  have few := good.few
  have hlen := ho.1
  go_enter Tryz.func108, Tryz.ntmps108
  go_wp2_with fail
  refine (l2At_calls q r 0 a b n ca 4 cb ss zs _ (by unfold maxLen; omega) (by unfold maxLen; omega) hq hr hqc hrc ho.sls hy).mono ?_
  rintro e w1 ⟨rfl, g1⟩
  have hz1 := g1.size
  have qc := (g1.cell (p := ⟨q, 0, none⟩) hq).trans hqc
  have qf := (g1.frozen (p := ⟨q, 0, none⟩) hq).trans hqf
  have rc := (g1.cell (p := ⟨r, 0, none⟩) hr).trans hrc
  have o1 := OR.loc.below g1 ho
  have HY := hide (hy.below g1 (Nat.le_refl _))
  have HW := hide (owns_out hown g1)
  have HO1 := hide o1
  have HG := hide g1
  clear g1 hqc hqf hrc ho hown hy
  rcases at2_cases ss zs with ⟨ha, hno⟩ | ⟨j, hj, ha, hh⟩
  · have HQ : Hid (enQ ss zs = fe ss) := if_pos (by omega)
    have HN : Hid (enN ss zs = 0) := if_pos (by omega)
    rw [ha]
    clear hno
    go_wp2
    go_loop [6] (fun i => ∃ k : Nat, k ≤ n ∧ i = .int .i64 k ∧ ∀ j, j < k → gc ss j ≠ 0) (fun i => n - (intOf i).toNat)
    case atStart => exact ⟨0, Nat.zero_le _, rfl, fun j hj => by omega⟩
    case round =>
      obtain ⟨k, hk, rfl, hno⟩ := hrel
      have HNO := hide hno
      clear hno
      by_cases hlt : k < n
      · obtain ⟨N, la, lc, lb, rfl, hb⟩ := o1.body (by omega)
        have k0 := hb.c0 k hlt
        by_cases h0 : gc ss k = 0
        · have e0 : (gc ss k == 0) = true := by simp [h0]
          have HF : Hid (enQ ss zs = k) := HQ.out.trans (fe_eq (by omega) h0 HNO.out)
          have HC : Hid (etC ss zs = 0) := if_neg (fun e => by have := HF.out; have := HN.out; rcases e with e | e <;> omega)
          have HL : Hid ((enS ss zs).length = n) := by
            show (enS ss zs).length = n
            unfold enS
            rw [HF.out, length_layS _ (by omega)]
            omega
          have hm := good_sum (good_enter good hz HC.out)
          rw [HL.out] at hm
          have Hm := hide hm
          have Hlen := hide (fault_len hz)
          have hN := hb.hS
          have hNq : q ≠ N := fun e => hqS (e ▸ hN)
          have hNr : r ≠ N := fun e => hrS (e ▸ hN)
          have HBd := hide hb
          have hqw : q < w1.heap.size := by omega
          have hrw : r < w1.heap.size := by omega
          have HS0 : Hid (w1.drew.cell? ⟨q, 0, none⟩ = some (.slice (some ⟨N, 0, none⟩) n ca) ∧ w1.drew.cell? ⟨r, 0, none⟩ = some (.slice b 4 cb)) := ⟨qc, rc⟩
          clear hb o1 hm
          go_upto_region 11 with fail
          go_cut [] (fun wd => OutS (fun k => S k ∨ k = q) w wd ∧ wd.cell? ⟨q, 0, none⟩ = some (.slice (some ⟨N, 0, none⟩) n ca) ∧ OR (fun k => S k ∨ InR w.heap.size wd.heap.size k) (some ⟨N, 0, none⟩) n (enS ss zs) wd ∧ (∃ ys, wd.ownsRow B 150 2 (.slice (some ⟨N, 0, none⟩) n ca) n ys) ∧ KQ q w wd)
          case first =>
            go_region_held2 (fun w' => w'.cell? ⟨q, 0, none⟩ = some (.slice (some ⟨N, 0, none⟩) n ca) ∧ w'.cell? ⟨r, 0, none⟩ = some (.slice b 4 cb))
              (first | with_reducible exact HS0.out | with_reducible assumption | (with_reducible refine keepQS hNq hNr ?_; with_reducible assumption))
              (first
              | (go_at_call 61; refine (l1Copy_O b 4 cb zs _ (by omega) (HY.out.below (Below.refl w1.heap.size w1).drew (Nat.le_refl _))).mono ?_; rintro e w2 ⟨ra, rc2, rfl, os2, g2⟩; have h12 : Below w1.heap.size w1 w2 := ((Below.refl w1.heap.size w1).drew).trans g2; obtain ⟨nb, ob, hnb⟩ := os2.one; have hs2 : w2.cell? ⟨q, 0, none⟩ = some (.slice (some ⟨N, 0, none⟩) n ca) ∧ w2.cell? ⟨r, 0, none⟩ = some (.slice b 4 cb) := ⟨(h12.cell (p := ⟨q, 0, none⟩) hqw).trans qc, (h12.cell (p := ⟨r, 0, none⟩) hrw).trans rc⟩; have hb2 := HBd.out.below h12; have s0 := hb2.c0 k hlt; have s1 := hb2.c1 k hlt; have t0 := hb2.fz (k * 2); have t1 := hb2.fz (k * 2 + 1); have HST := hide (enter_layS (S := S) (w := w) hb2 hlt Hlen.out ob hnb hz1 (fun k hk => (hS k hk).2) HF.out HN.out hlen HL.out Hm.out (rc := rc2)); have HOut := hide (((OutS.of_below (S := fun k => S k ∨ k = q) HG.out).trans (OutS.of_below h12)).setCell (p := ⟨N, k * 2, none⟩) (.inl hN) (.int .i64 1)); have HWr := hide (((owns_out HW.out h12).stored (k * 2) (.int .i64 1)).1.stored (k * 2 + 1) (.slice ra 4 rc2)).1; have HOut2 := hide (HOut.out.setCell (p := ⟨N, k * 2 + 1, none⟩) (.inl hN) (.slice ra 4 rc2)); have HKQ := hide ((((KQ.of_block (HG.out.block q hq)).trans (KQ.of_block (h12.block q hqw))).setN (i := k * 2) hNq (.int .i64 1)).setN (i := k * 2 + 1) hNq (.slice ra 4 rc2)); clear g2 os2 h12 hb2 ob hnb HOut))
            all_goals go_wp2_with fail
            all_goals go_meet
            all_goals exact ⟨HOut2.out, And.left (by with_reducible assumption), HST.out, ⟨_, HWr.out⟩, HKQ.out⟩
          case rest =>
            obtain ⟨u5, u6, u7, u9, u8⟩ := hcut
            have HU5 := hide u5
            have HU6 := hide u6
            have HU7 := hide u7
            have HU8 := hide u8
            have HU9 := hide u9
            clear u5 u6 u7 u8 u9
            go_wp2
            go_ret
            exact ⟨by rw [HC.out, HF.out]; rfl, fun _ => ⟨_, _, by rw [HL.out]; exact HU6.out, by rw [HL.out]; exact HU7.out, by rw [HL.out]; exact HU9.out⟩, fun h => absurd HC.out h, HU5.out, HU8.out⟩
        · have e0 : (gc ss k == 0) = false := by simp [h0]
          clear hb
          go_wp2
          go_round
          case rel => exact ⟨k + 1, by omega, by go_num, fun j hj => by (by_cases e : j = k); (rw [e]; exact h0); exact HNO.out j (by omega)⟩
          case measure => simp [intOf]; omega
      · have e : k = n := by omega
        subst e
        have HF : Hid (enQ ss zs = k) := HQ.out.trans ((fe_all (fun j hj => HNO.out j (by omega))).trans hlen)
        by_cases h10 : 10 ≤ k
        · have HC : Hid (etC ss zs = 7) := if_pos (.inl (by have := HF.out; omega))
          have ed : decide ((10 : Int) ≤ (k : Int)) = true := by simp; omega
          clear o1
          go_wp2
          go_ret
          exact ⟨by rw [HC.out]; rfl, fun h => absurd (HC.out.symm.trans h) (by decide), fun _ => HG.out, OutS.of_below HG.out, KQ.of_block (HG.out.block q hq)⟩
        · have ed : decide ((10 : Int) ≤ (k : Int)) = false := by simp; omega
          have HC : Hid (etC ss zs = 0) := if_neg (fun e => by have := HF.out; have := HN.out; rcases e with e | e <;> omega)
          have HL : Hid ((enS ss zs).length = k + 1) := by
            show (enS ss zs).length = k + 1
            unfold enS
            rw [HF.out, length_layS _ (by omega)]
            omega
          have hm := good_sum (good_enter good hz HC.out)
          rw [HL.out] at hm
          obtain ⟨i0, hi, hz0, hzz1, hzz2⟩ := info_parts infoSlot
          obtain ⟨la, lc, lb, hlb, hx⟩ := CPx.ofS o1 (fun k hk => ⟨(hS k hk).1, Nat.lt_of_lt_of_le (hS k hk).2 hz1⟩) HW.out
          have hgl : ∀ j, j < k → gl ss j = gl (enS ss zs) j := fun j hj => by unfold enS; rw [gl_put _ (by have := HF.out; omega), if_neg (by have := HF.out; omega)]
          have HX := hide (hx.congr (rr := enS ss zs) (fun j hj => by unfold enS; rw [gc_put _ (by have := HF.out; omega), if_neg (by have := HF.out; omega)]) hgl)
          have HLb : Hid (∀ j, j < k → 0 < (gl (enS ss zs) j).length → S (lb j)) := fun j hj hl => hlb j hj (by rw [hgl j hj]; exact hl)
          have HG4 : Hid (gl (enS ss zs) k = zs) := by show gl _ _ = _; unfold enS; rw [gl_put _ (by have := HF.out; omega), if_pos HF.out.symm]
          have HG1 : Hid (gc (enS ss zs) k = 1) := by show gc _ _ = _; unfold enS; rw [gc_put _ (by have := HF.out; omega), if_pos HF.out.symm, HN.out]; rfl
          have Hm := hide hm
          have Hlen := hide (fault_len hz)
          have HvT := hide hvT
          have hqw : q < w1.heap.size := by omega
          have hrw : r < w1.heap.size := by omega
          have hBw1 : B ≤ w1.heap.size := by omega
          have HQc := hide qc
          clear hx hlb hgl hm o1 hvT
          go_upto_region 15 with fail
          go_cut [] (fun wd => ∃ g cp, wd.cell? ⟨q, 0, none⟩ = some (.slice (some ⟨g, 0, none⟩) (k + 1) cp) ∧ OR (fun j => S j ∨ InR w.heap.size wd.heap.size j) (some ⟨g, 0, none⟩) (k + 1) (enS ss zs) wd ∧ (∃ ys, wd.ownsRow B 150 2 (.slice (some ⟨g, 0, none⟩) (k + 1) cp) (k + 1) ys) ∧ OutS (fun k => S k ∨ k = q) w wd ∧ KQ q w wd)
          case first =>
            go_region_law (first
              | (refine step_append_lies _ rfl _ _ 39 rfl B 150 i0 (.agg #[.int .i64 0, .slice none 0 0]) 2 32 Tryz.underlying39 hi hz0 hzz1 hzz2 rfl (by decide) (.slice a k ca) k xs rfl (HWc.out.alloc _) ⟨wc.heap.size, 0, none⟩ 1 1 [.int .i64 1, .slice ra 4 rc2] rfl rfl (two_new (by go_simp) (by go_simp)) (by simp [Value.oneCell']) (by omega) (by unfold maxLen; omega) (by omega) (by simp; omega) (wc.heap.size + 1) (by simp) ?_; intro g cp w5 hown5 hgrow hat hlt5; have gq : w5.cell? ⟨q, 0, none⟩ = some (.slice a k ca) ∧ w5.frozen? ⟨q, 0, none⟩ = false := (far_qS HvT.out HCc.out hgrow HQc.out qf hqS hqw); obtain ⟨gv1, gv2⟩ := gq; have HST := hide (enter_appS HX.out HLb.out HvT.out HG.out hq hqS hBw (HCc.out.trans (((Below.refl _ _).alloc (Nat.le_refl _) _).mono HCc.out.size)) HG4.out Hlen.out HG1.out ((OS.loc.alloc HOc.out _).mono (fun q hq => ⟨hq.1, Nat.lt_of_lt_of_le hq.2 (by simp)⟩)) hgrow (by rw [World.size_alloc]; exact hat) hown5 HL.out Hm.out HQc.out _ rfl); clear hown5 hgrow hat)
              | (go_simp; go_at_call 61; refine (l1Copy_O b 4 cb zs _ (by omega) (HY.out.below (Below.refl w1.heap.size w1).drew (Nat.le_refl _))).mono ?_; rintro e wc ⟨ra, rc2, rfl, os, gw⟩; have k1 := (gw.cell (p := ⟨q, 0, none⟩) (by simpa using hqw)).trans qc; have k2 := (gw.frozen (p := ⟨q, 0, none⟩) (by simpa using hqw)).trans qf; have k3 := (gw.cell (p := ⟨r, 0, none⟩) (by simpa using hrw)).trans rc; have HCc : Hid (Below w1.heap.size w1 wc) := (by have := (Below.refl w1.heap.size w1).drew; exact this.trans gw); have HOc : Hid (OS (InR w1.heap.size wc.heap.size) ra 4 zs wc) := os; have HWc := hide (owns_out HW.out HCc.out); have hqw' : q < wc.heap.size := (by have := gw.size; simp at this; omega); have hBc : B ≤ wc.heap.size := Nat.le_trans hBw1 HCc.out.size; clear os gw))
            all_goals go_wp2_with fail
            all_goals go_meet
            all_goals exact ⟨_, _, HST.out⟩
          case rest =>
            obtain ⟨g, cp, c5, o5, r5, u5, v5⟩ := hcut
            have HR5 := hide r5
            clear r5
            have HO5 := hide o5
            have HU5 := hide u5
            have HC5 := hide c5
            have HV5 := hide v5
            clear o5 u5 v5
            go_wp2
            go_ret
            exact ⟨by rw [HC.out, HF.out]; simp [go_sem], fun _ => ⟨_, _, by rw [HL.out]; exact HC5.out, by rw [HL.out]; exact HO5.out, by rw [HL.out]; exact HR5.out⟩, fun h => absurd HC.out h, HU5.out, HV5.out⟩
  · have hg : 0 < gc ss j ∧ gl ss j = zs := by simpa [hit] using hh
    have e1 : enQ ss zs = j := by unfold enQ; rw [if_neg (by omega), ha]; omega
    have e2 : enN ss zs = gc ss j := by unfold enN; rw [if_neg (by omega), ha]; rfl
    have t9 := good.top j hj
    rw [ha]
    obtain ⟨N, la, lc, lb, rfl, hb⟩ := o1.body (by omega)
    have k0 := hb.c0 j (by omega)
    have f0 := hb.fz (j * 2)
    have hN := hb.hS
    clear hh
    by_cases h99 : gc ss j = 99
    · have eg : decide (99 ≤ gc ss j) = true := by simp; omega
      have HC : Hid (etC ss zs = 7) := if_pos (.inr (e2.trans h99))
      clear hb o1
      go_wp2
      go_ret
      exact ⟨by rw [HC.out]; rfl, fun h => absurd (HC.out.symm.trans h) (by decide), fun _ => HG.out, OutS.of_below HG.out, KQ.of_block (HG.out.block q hq)⟩
    · have HC : Hid (etC ss zs = 0) := if_neg (fun e => by rcases e with e | e; omega; omega)
      have HL : Hid ((enS ss zs).length = n) := by
        show (enS ss zs).length = n
        unfold enS
        rw [e1, length_layS _ (by omega)]
        omega
      have hm := good_sum (good_enter good hz HC.out)
      have HR := hide (ORb.or ((hb.setCount (by omega : j < n) (gc ss j + 1)).congr (fc' := gc (enS ss zs)) (fl' := gl (enS ss zs)) (fun i hi => by unfold enS; rw [gc_put _ (by omega), e1, e2]; rfl) (fun i hi => by unfold enS; rw [gl_put _ (by omega), e1]; split; (rename_i e; rw [e]; exact hg.2); rfl)) HL.out (by rw [HL.out] at hm; exact hm))
      have HQ : Hid (enQ ss zs = j) := e1
      have HOut := hide (OutS.setCell (OutS.of_below (S := fun k => S k ∨ k = q) HG.out) (p := ⟨N, j * 2, none⟩) (.inl hN) (.int .i64 (gc ss j + 1)))
      have hNq : N ≠ q := fun e => hqS (e ▸ hN)
      have HWr := hide (HW.out.stored (j * 2) (.int .i64 (gc ss j + 1))).1
      have HKQ := hide ((KQ.of_block (HG.out.block q hq)).setN (i := j * 2) hNq.symm (.int .i64 (gc ss j + 1)))
      clear hb o1 hm
      go_wp2
      go_ret
      exact ⟨by rw [HC.out, HQ.out]; rfl, fun _ => ⟨some ⟨N, 0, none⟩, ca, by rw [HL.out]; exact (World.cell?_setCell_other _ _ _ _ (fun e => by injection e with e1 _; exact hNq e1)).trans qc, by rw [HL.out]; exact HR.out.mono (fun k hk => .inl hk), by rw [HL.out]; exact ⟨_, HWr.out⟩⟩, fun h => absurd HC.out h, HOut.out, HKQ.out⟩

end Go.Proofs.YtgkjmeogdomgmaaGreat
