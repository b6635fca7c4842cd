import Derived.Test.YtnlkigjgloeonaaGreatImplReg
import Derived.WalkKit
import Derived.ProofKit
import Derived.OpenShut
import Derived.ShutString
import Derived.ChangeOld
import Derived.Below
import Derived.WalkSpells
import Derived.Deep.QuietTactic
import Derived.BigQuiet
import Derived.Deep.RegionWith
import Derived.Deep.WholeRow
import Derived.Deep.DeepCutAuto
import Derived.Deep.RegionHeld2
import Derived.Deep.AppendLies
import Derived.Deep.RegionLaw
namespace Go.Proofs.YtnlkigjgloeonaaGreat
open Go.ChangeShapes Go.WideShapes Go.ChangeAt Go.RowKit

def putS (D : DataW Unit) (sz c : Int) (zs : List Int) : DataW Unit := if 0 < c then D.put (kl zs) (st sz c) else D

theorem putS_pos {D : DataW Unit} {sz c : Int} {zs : List Int} (h : 0 < c) : putS D sz c zs = D.put (kl zs) (st sz c) := if_pos h

theorem putS_neg {D : DataW Unit} {sz c : Int} {zs : List Int} (h : ¬ 0 < c) : putS D sz c zs = D := if_neg h

theorem bk_size {w : World} {P M n : Nat} {sz sz' : Int} {D : DataW Unit} (hne : M ≠ P) (hP : P < w.heap.size) (c0 : w.cell? ⟨P, 0, none⟩ = some (.int .i64 sz)) (c1 : w.cell? ⟨P, 1, none⟩ = some (.map (some M))) (f : ∀ j, w.frozen? ⟨P, j, none⟩ = false)
    (own : w.ownsMap Tryz.prog 232 Rst M n D) : Bk (w.setCell ⟨P, 0, none⟩ (.int .i64 sz')) P M sz' n D :=
  ⟨by simpa [World.setCell] using hP, World.cell?_setCell_same _ _ _ c0, (World.cell?_setCell_other _ _ _ _ (fun e => by injection e with _ e2; cases e2)).trans c1, fun j => by simpa using f j, own.setCell hne _⟩

set_option maxRecDepth 100000 in
theorem take_calls (P M n : Nat) (sz c : Int) (D : DataW Unit) (a : Option Addr) (len cap : Nat) (zs : List Int) (w : World) (hl : len ≤ maxLen) (hs : Sl w a len zs) (hb : Bk w P M sz n D) (hn : n ≤ 100) (hsz : 0 ≤ sz ∧ sz ≤ 100) :
    Calls Tryz.prog 149 #[.pointer (some ⟨P, 0, none⟩), .agg #[.int .i64 c, .slice a len cap]] w fun e w' => e = .returned (.int .i64 (takeC D c zs)) ∧ But P M w w' ∧
      (takeC D c zs = 0 → Bk w' P M (sz + 1) (n + 1) (putS D sz c zs)) := by
  have HS := hide fun o1 => hs.below ((Below.refl w.heap.size w).alloc (Nat.le_refl _) o1) (Nat.le_refl _)
  have HB := hide fun o1 => (Below.refl w.heap.size w).alloc (Nat.le_refl _) o1
  by_cases h1 : slot1 c zs = 0
  · have e1 : (slot1 c zs != 0) = false := by simp [h1]
    by_cases hp : 0 < c
    · have hf : fault zs = 0 := by
        have h := h1
        unfold slot1 at h
        by_cases hr : (decide (0 ≤ c) && decide (c ≤ 99)) = false
        · rw [if_pos hr] at h; cases h
        · rw [if_neg hr, if_pos hp] at h; exact h
      have h4 : len = 4 := by rw [← hs.1]; exact fault_len hf
      subst h4
      have Hf := hide hf
      clear hf
      go_enter Tryz.func149, Tryz.ntmps149
      go_wp2_with fail
      refine (slotFault_calls c a 4 cap zs _ hl (HS.out _)).mono ?_
      rintro e w1 ⟨rfl, g1⟩
      have s0 : w1.cell? ⟨w.heap.size, 0, none⟩ = some (.int .i64 c) := (g1.cell (p := ⟨w.heap.size, 0, none⟩) (by simp)).trans (by go_simp)
      have s1 : w1.cell? ⟨w.heap.size, 1, none⟩ = some (.slice a 4 cap) := (g1.cell (p := ⟨w.heap.size, 1, none⟩) (by simp)).trans (by go_simp)
      have hw1 : Below w.heap.size w w1 := (HB.out (.cells #[.int .i64 c, .slice a 4 cap] 180)).trans (g1.mono (HB.out _).size)
      have hz1 : w.heap.size < w1.heap.size := by have := g1.size; simp at this; omega
      clear g1
      go_wp2_with fail
      refine (markOf_calls a cap zs _ (hs.below hw1 (Nat.le_refl _))).mono ?_
      rintro e w2 ⟨rfl, g2⟩
      have t0 := (g2.cell (p := ⟨w.heap.size, 0, none⟩) hz1).trans s0
      have hw2 := hw1.trans (g2.mono hw1.size)
      have hz2 : w.heap.size < w2.heap.size := by have := g2.size; omega
      have B2 := hb.below hw2
      have b0 := B2.c0
      have b1 := B2.c1
      clear g2 s0 s1
      unfold ints4
      go_wp2_with fail
      have al := (Below.refl w2.heap.size w2).alloc (Nat.le_refl _) (.cells #[.int .i64 (gt zs 0), .int .i64 (gt zs 1), .int .i64 (gt zs 2), .int .i64 (gt zs 3)] 232)
      have k0 : (w2.alloc (.cells #[.int .i64 (gt zs 0), .int .i64 (gt zs 1), .int .i64 (gt zs 2), .int .i64 (gt zs 3)] 232)).cell? ⟨w2.heap.size, 0, none⟩ = some (.int .i64 (gt zs 0)) := by go_simp
      have k1 : (w2.alloc (.cells #[.int .i64 (gt zs 0), .int .i64 (gt zs 1), .int .i64 (gt zs 2), .int .i64 (gt zs 3)] 232)).cell? ⟨w2.heap.size, 1, none⟩ = some (.int .i64 (gt zs 1)) := by go_simp
      have k2 : (w2.alloc (.cells #[.int .i64 (gt zs 0), .int .i64 (gt zs 1), .int .i64 (gt zs 2), .int .i64 (gt zs 3)] 232)).cell? ⟨w2.heap.size, 2, none⟩ = some (.int .i64 (gt zs 2)) := by go_simp
      have k3 : (w2.alloc (.cells #[.int .i64 (gt zs 0), .int .i64 (gt zs 1), .int .i64 (gt zs 2), .int .i64 (gt zs 3)] 232)).cell? ⟨w2.heap.size, 3, none⟩ = some (.int .i64 (gt zs 3)) := by go_simp
      have B3 := B2.below al
      have hw3 := hw2.trans (al.mono hw2.size)
      have t3 := (al.cell (p := ⟨w.heap.size, 0, none⟩) hz2).trans t0
      have zz : w2.heap.size < (w2.alloc (.cells #[.int .i64 (gt zs 0), .int .i64 (gt zs 1), .int .i64 (gt zs 2), .int .i64 (gt zs 3)] 232)).heap.size := by simp
      clear al b0 b1 B2 t0 hw2
      generalize hW : (w2.alloc (.cells #[.int .i64 (gt zs 0), .int .i64 (gt zs 1), .int .i64 (gt zs 2), .int .i64 (gt zs 3)] 232)) = W at k0 k1 k2 k3 B3 hw3 t3 zz ⊢
      clear hW
      obtain ⟨lp, lc, hat, hlook⟩ := look_run B3.own Hf.out
      have L1 := hlook W.drew B3.own.drew
      have L2 := hlook ((W.alloc (.cells #[.int .i64 0, .int .i64 0] 241)).drew) (B3.own.alloc _).drew
      unfold ints4 at L1 L2
      have b1 := B3.c1
      have b0 := B3.c0
      have nP := World.new_ne W ⟨P, 1, none⟩ b1
      have nK := World.new_ne W ⟨w2.heap.size, 0, none⟩ k0
      have H3 := hide B3
      have Hlook := hide hlook
      clear B3 hlook
      cases hh : Go.Maps.has D (kl zs) with
      | true =>
        rw [hh] at L1 L2
        have H8 : Hid (takeC D c zs = 8) := hide (by unfold takeC; rw [if_neg (by simp [h1]), if_pos ⟨hp, hh⟩])
        go_region_held2 (fun w' => w'.cell? ⟨P, 1, none⟩ = some (.map (some M)) ∧ w'.cell? ⟨w2.heap.size, 0, none⟩ = some (.int .i64 (gt zs 0)) ∧ w'.cell? ⟨w2.heap.size, 1, none⟩ = some (.int .i64 (gt zs 1)) ∧ w'.cell? ⟨w2.heap.size, 2, none⟩ = some (.int .i64 (gt zs 2)) ∧ w'.cell? ⟨w2.heap.size, 3, none⟩ = some (.int .i64 (gt zs 3)))
          (go_keep) (fail)
        all_goals go_wp2
        all_goals go_ret
        all_goals exact ⟨ret_int H8.out.symm, But.of_below ((hw3.alloc hw3.size _).drew), fun h => absurd (H8.out.symm.trans h) (by decide)⟩
      | false =>
        rw [hh] at L1 L2
        have H0 : Hid (takeC D c zs = 0) := hide (by unfold takeC; rw [if_neg (by simp [h1]), if_neg (by rw [hh]; simp)])
        go_upto_region 6 with fail
        go_cut [8] (fun v wc => v = .bool false ∧ wc = (W.alloc (.cells #[.int .i64 lp, .int .i64 lc] 241)).drew)
        case first =>
          go_region_held2 (fun w' => w'.cell? ⟨P, 1, none⟩ = some (.map (some M)) ∧ w'.cell? ⟨w2.heap.size, 0, none⟩ = some (.int .i64 (gt zs 0)) ∧ w'.cell? ⟨w2.heap.size, 1, none⟩ = some (.int .i64 (gt zs 1)) ∧ w'.cell? ⟨w2.heap.size, 2, none⟩ = some (.int .i64 (gt zs 2)) ∧ w'.cell? ⟨w2.heap.size, 3, none⟩ = some (.int .i64 (gt zs 3)))
            (go_keep) (fail)
          all_goals go_wp2_with fail
          all_goals go_meet
          all_goals exact ⟨rfl, rfl⟩
        case rest =>
          obtain ⟨rfl, rfl⟩ := hcut
          clear L1 L2
          have al : Below W.heap.size W (W.alloc (.cells #[.int .i64 lp, .int .i64 lc] 241)).drew := ((Below.refl _ _).alloc (Nat.le_refl _) _).drew
          have BU := H3.out.below al
          have hwU := hw3.trans (al.mono hw3.size)
          have q0 := (al.cell (p := ⟨w2.heap.size, 0, none⟩) zz).trans k0
          have q1 := (al.cell (p := ⟨w2.heap.size, 1, none⟩) zz).trans k1
          have q2 := (al.cell (p := ⟨w2.heap.size, 2, none⟩) zz).trans k2
          have q3 := (al.cell (p := ⟨w2.heap.size, 3, none⟩) zz).trans k3
          have qt := (al.cell (p := ⟨w.heap.size, 0, none⟩) (by have := hw3.size; show w.heap.size < _; omega)).trans t3
          have zU : w2.heap.size < (W.alloc (.cells #[.int .i64 lp, .int .i64 lc] 241)).drew.heap.size := by have := al.size; omega
          clear al k0 k1 k2 k3 t3 b0 b1 nP nK H3 Hlook hat
          generalize hU : (W.alloc (.cells #[.int .i64 lp, .int .i64 lc] 241)).drew = U at BU hwU q0 q1 q2 q3 qt zU ⊢
          clear hU
          have neM := BU.ne
          obtain ⟨w4, hup, own4, gr4⟩ := (BU.own.drew).update lawK Tryz.underlying150 (by unfold maxLen; omega) (key_mk Hf.out) (Rst_mk sz c)
          have blkM : ∀ k, k < U.heap.size → k ≠ M → w4.heap[k]? = U.heap[k]? := fun k hk hne => gr4.block k hk (fun e => hne (by injection e))
          obtain ⟨es, clock, hbM, _⟩ := BU.own
          have nc : ∀ k v, U.cell? ⟨k, 0, none⟩ = some v → k ≠ M := fun k v hc e => by
            subst e
            simp [World.cell?, hbM] at hc
          have hbm : M < U.heap.size := (Array.getElem?_eq_some_iff.1 hbM).1
          have n2 := nc _ _ q0
          have nw := nc _ _ qt
          have kP := BU.lt
          have kw : w.heap.size < U.heap.size := by have := hwU.size; omega
          have HSa : Hid (U.drew.cell? ⟨P, 1, none⟩ = some (.map (some M)) ∧ U.drew.cell? ⟨w2.heap.size, 0, none⟩ = some (.int .i64 (gt zs 0)) ∧ U.drew.cell? ⟨w2.heap.size, 1, none⟩ = some (.int .i64 (gt zs 1)) ∧ U.drew.cell? ⟨w2.heap.size, 2, none⟩ = some (.int .i64 (gt zs 2)) ∧ U.drew.cell? ⟨w2.heap.size, 3, none⟩ = some (.int .i64 (gt zs 3)) ∧ U.drew.cell? ⟨P, 0, none⟩ = some (.int .i64 sz) ∧ U.drew.cell? ⟨w.heap.size, 0, none⟩ = some (.int .i64 c)) := ⟨BU.c1, q0, q1, q2, q3, BU.c0, qt⟩
          have HSb : Hid (w4.cell? ⟨P, 1, none⟩ = some (.map (some M)) ∧ w4.cell? ⟨w2.heap.size, 0, none⟩ = some (.int .i64 (gt zs 0)) ∧ w4.cell? ⟨w2.heap.size, 1, none⟩ = some (.int .i64 (gt zs 1)) ∧ w4.cell? ⟨w2.heap.size, 2, none⟩ = some (.int .i64 (gt zs 2)) ∧ w4.cell? ⟨w2.heap.size, 3, none⟩ = some (.int .i64 (gt zs 3)) ∧ w4.cell? ⟨P, 0, none⟩ = some (.int .i64 sz) ∧ w4.cell? ⟨w.heap.size, 0, none⟩ = some (.int .i64 c)) :=
            ⟨(World.cell?_of_block (a := ⟨P, 1, none⟩) (blkM P kP neM.symm)).trans BU.c1, (World.cell?_of_block (a := ⟨w2.heap.size, 0, none⟩) (blkM _ zU n2)).trans q0, (World.cell?_of_block (a := ⟨w2.heap.size, 1, none⟩) (blkM _ zU n2)).trans q1, (World.cell?_of_block (a := ⟨w2.heap.size, 2, none⟩) (blkM _ zU n2)).trans q2, (World.cell?_of_block (a := ⟨w2.heap.size, 3, none⟩) (blkM _ zU n2)).trans q3, (World.cell?_of_block (a := ⟨P, 0, none⟩) (blkM P kP neM.symm)).trans BU.c0, (World.cell?_of_block (a := ⟨w.heap.size, 0, none⟩) (blkM _ kw nw)).trans qt⟩
          have c40 := HSb.out.2.2.2.2.2.1
          have c41 := HSb.out.1
          have f4 : ∀ j, w4.frozen? ⟨P, j, none⟩ = false := fun j => (World.frozen?_of_block (a := ⟨P, j, none⟩) (blkM P kP neM.symm)).trans (BU.f j)
          have f40 := f4 0
          have Hf4 := hide f4
          have Hown := hide own4
          have HBut : Hid (But P M w w4) := (But.of_below hwU).grown ⟨gr4.os, gr4.tape, gr4.output, gr4.size, gr4.block⟩
          have hP4 : P < w4.heap.size := by have := gr4.size; simp at this; omega
          unfold ints4 at hup
          clear f4 own4 gr4 blkM hbM nc n2 nw q0 q1 q2 q3 qt
          obtain ⟨sz0, sz1⟩ := hsz
          go_wp2_with fail
          go_region_held2 (fun w' => w'.cell? ⟨P, 1, none⟩ = some (.map (some M)) ∧ w'.cell? ⟨w2.heap.size, 0, none⟩ = some (.int .i64 (gt zs 0)) ∧ w'.cell? ⟨w2.heap.size, 1, none⟩ = some (.int .i64 (gt zs 1)) ∧ w'.cell? ⟨w2.heap.size, 2, none⟩ = some (.int .i64 (gt zs 2)) ∧ w'.cell? ⟨w2.heap.size, 3, none⟩ = some (.int .i64 (gt zs 3)) ∧ w'.cell? ⟨P, 0, none⟩ = some (.int .i64 sz) ∧ w'.cell? ⟨w.heap.size, 0, none⟩ = some (.int .i64 c))
            (first | with_reducible exact HSa.out | with_reducible exact HSb.out | with_reducible assumption) (fail)
          all_goals go_wp2
          all_goals go_ret
          all_goals exact ⟨ret_int H0.out.symm, HBut.out.setCell _, fun _ => by rw [putS_pos hp]; exact bk_size neM hP4 c40 c41 Hf4.out Hown.out⟩
    · have H0 : Hid (takeC D c zs = 0) := hide (by unfold takeC; rw [if_neg (by simp [h1]), if_neg (fun h => hp h.1)])
      go_enter Tryz.func149, Tryz.ntmps149
      go_wp2_with fail
      refine (slotFault_calls c a len cap zs _ hl (HS.out _)).mono ?_
      rintro e w1 ⟨rfl, g1⟩
      have s0 : w1.cell? ⟨w.heap.size, 0, none⟩ = some (.int .i64 c) := (g1.cell (p := ⟨w.heap.size, 0, none⟩) (by simp)).trans (by go_simp)
      have hw1 : Below w.heap.size w w1 := (HB.out (.cells #[.int .i64 c, .slice a len cap] 180)).trans (g1.mono (HB.out _).size)
      have B1 := hb.below hw1
      have b0 := B1.c0
      have f0 := B1.f 0
      have H1 := hide B1
      clear g1 B1
      obtain ⟨sz0, sz1⟩ := hsz
      go_wp2
      go_ret
      exact ⟨ret_int H0.out.symm, (But.of_below hw1).setCell _, fun _ => by rw [putS_neg (by omega)]; exact bk_size H1.out.ne H1.out.lt H1.out.c0 H1.out.c1 H1.out.f (H1.out.own.mono (Nat.le_succ _))⟩
  · have e1 : (slot1 c zs != 0) = true := by simp [h1]
    have H1 : Hid (takeC D c zs = slot1 c zs) := if_pos h1
    have H2 := hide h1
    clear h1
    go_enter Tryz.func149, Tryz.ntmps149
    go_wp2_with fail
    refine (slotFault_calls c a len cap zs _ hl (HS.out _)).mono ?_
    rintro e w1 ⟨rfl, g1⟩
    have HE := hide ((HB.out (.cells #[.int .i64 c, .slice a len cap] 180)).trans (g1.mono (HB.out _).size))
    go_wp2
    go_ret
    exact ⟨ret_int H1.out.symm, But.of_below HE.out, fun h => absurd (H1.out.symm.trans h) H2.out⟩

theorem mkMap (u : World) : (Instr.makeMap 150 none).run Tryz.prog u = .ok (.map (some u.heap.size)) (u.alloc (.map #[] 0)) := run_makeMap _ u

theorem bk_succ (ss : List (Int × List Int)) (k : Nat) : putS (bk ss k) (k : Int) (gc ss k) (gl ss k) = bk ss (k + 1) := rfl

set_option maxRecDepth 100000 in
theorem openRegistry_calls (a : Option Addr) (n ca : Nat) (ss : List (Int × List Int)) (w : World) (hn : n ≤ maxLen) (hx : Sls w a n ss) :
    Calls Tryz.prog 131 #[.agg #[.slice a n ca]] w fun e w' => ∃ sz mo, e = .returned (.tuple #[.agg #[.int .i64 sz, .map mo], .int .i64 (faultR ss)]) ∧ Below w.heap.size w w' ∧
      (faultR ss = 0 → sz = (n : Int) ∧ ∃ M, mo = some M ∧ w.heap.size ≤ M ∧ w'.ownsMap Tryz.prog 232 Rst M n (bk ss n)) := by
  have hx0 := hx
  have hnm := hn
  unfold maxLen at hn
  obtain ⟨hlen, hx⟩ := hx
  by_cases h10 : 10 < n
  · have HF := hide (faultR_many (ss := ss) (by omega))
    go_enter Tryz.func131, Tryz.ntmps131
    go_wp2
    refine bodyPost_ret (v := .tuple #[.agg #[.int .i64 0, .map none], .int .i64 2]) (by simp [results, Tryz.results131, go_sem]) rfl ⟨0, none, by rw [HF.out], ?_, fun h => absurd (HF.out.symm.trans h) (by decide)⟩
    exact ((Below.refl _ _).alloc (Nat.le_refl _) _).alloc (by simp) _
  · have HN : Hid (ss.length ≤ 10) := by show ss.length ≤ 10; omega
    go_enter Tryz.func131, Tryz.ntmps131
    have hmk := fun u : World => mkMap u
    go_wp2
    go_loopw [18] (fun i wr => ∃ k : Nat, k ≤ n ∧ i = .int .i64 k ∧ Below w.heap.size w wr ∧ Bk wr (w.heap.size + 1 + 1 + 1) (w.heap.size + 1 + 1) (k : Int) k (bk ss k) ∧
      (wr.cell? ⟨w.heap.size + 1, 0, none⟩ = some (.int .i64 0) ∧ wr.cell? ⟨w.heap.size + 1, 1, none⟩ = some (.map none) ∧ ∀ j, wr.frozen? ⟨w.heap.size + 1, j, none⟩ = false) ∧ ∀ j, j < k → slotF ss j = 0) (fun i _ => n - (intOf i).toNat)
    case atStart =>
      refine ⟨0, Nat.zero_le _, rfl, ?_, ?_, ?_, fun j hj => by omega⟩
      · exact ((((Below.refl _ _).alloc (Nat.le_refl _) _).alloc (by simp) _).alloc (by simp; omega) _).alloc (by simp; omega) _
      · refine ⟨by simp, by go_simp, by go_simp, fun j => by go_simp, ?_⟩
        have h := (World.ownsMap_made (H := Unit) ((w.alloc (.cells #[.slice a n ca] 52)).alloc (.cells #[.int .i64 0, .map none] 152)) Tryz.prog 232 Rst).alloc (.cells #[.int .i64 0, .map (some (w.heap.size + 1 + 1))] 152)
        simpa only [World.size_alloc, bk] using h
      · exact ⟨by go_simp, by go_simp, fun j => by go_simp⟩
    case round =>
      obtain ⟨k, hk, rfl, hbel, hbk, ⟨r0, r1, rf⟩, hall⟩ := hrel
      have Hall := hide hall
      by_cases hlt : k < n
      · obtain ⟨b, off, rfl, hb, hc⟩ := hx (by omega)
        obtain ⟨hc0, la, ll, lc, hc1, hll, hsl⟩ := hc k hlt
        have hck0 := (hbel.cell (p := ⟨b, off + k * 2, none⟩) hb).trans hc0
        have hck1 := (hbel.cell (p := ⟨b, off + k * 2 + 1, none⟩) hb).trans hc1
        have kL : k < ss.length := by omega
        have al := (Below.refl wr.heap.size wr).alloc (Nat.le_refl _) (.cells #[.int .i64 (gc ss k), .slice la ll lc] 180)
        have hsl1 := (hsl.below hbel (Nat.le_refl _)).below al (Nat.le_refl _)
        have hbk1 := hbk.below al
        have heq := takeC_eq kL hall
        have zN := hbk.lt
        have g0 := (al.cell (p := ⟨w.heap.size + 1, 0, none⟩) (by show w.heap.size + 1 < _; omega)).trans r0
        have g1 := (al.cell (p := ⟨w.heap.size + 1, 1, none⟩) (by show w.heap.size + 1 < _; omega)).trans r1
        have gf := fun j => (al.frozen (p := ⟨w.heap.size + 1, j, none⟩) (by show w.heap.size + 1 < _; omega)).trans (rf j)
        have hbel1 := hbel.trans (al.mono hbel.size)
        clear hall hbk r0 r1 rf al hsl
        by_cases hF : slotF ss k = 0
        · have HF := hide hF
          have eF : (slotF ss k != 0) = false := by simp [hF]
          clear hF
          go_wp2_with fail
          refine (take_calls (w.heap.size + 1 + 1 + 1) (w.heap.size + 1 + 1) k (k : Int) (gc ss k) (bk ss k) la ll lc (gl ss k) _ hll hsl1 hbk1 (by have := HN.out; omega) (by have := HN.out; omega)).mono ?_
          rintro e w1 ⟨rfl, bt, hB⟩
          rw [heq] at hB ⊢
          have hB1 := hB HF.out
          rw [bk_succ] at hB1
          have e0 := bt.block (w.heap.size + 1) (by simp; omega) (by omega) (by omega)
          have HR : Hid (w1.cell? ⟨w.heap.size + 1, 0, none⟩ = some (.int .i64 0) ∧ w1.cell? ⟨w.heap.size + 1, 1, none⟩ = some (.map none) ∧ ∀ j, w1.frozen? ⟨w.heap.size + 1, j, none⟩ = false) :=
            ⟨(World.cell?_of_block (a := ⟨w.heap.size + 1, 0, none⟩) e0).trans g0, (World.cell?_of_block (a := ⟨w.heap.size + 1, 1, none⟩) e0).trans g1, fun j => (World.frozen?_of_block (a := ⟨w.heap.size + 1, j, none⟩) e0).trans (gf j)⟩
          have HE := hide (hbel1.trans (bt.below (B := w.heap.size) (by omega) (by omega) hbel1.size))
          have HB1 := hide hB1
          clear bt hB hB1 e0 g0 g1 gf hbk1 hsl1 hbel1 heq
          go_wp2
          go_roundw
          case rel => exact ⟨k + 1, by omega, by go_num, HE.out, by exact_mod_cast HB1.out, HR.out, fun j hj => by (by_cases e : j = k); (subst e; exact HF.out); exact Hall.out j (by omega)⟩
          case measure => simp [intOf]; omega
        · have HF := hide hF
          have eF : (slotF ss k != 0) = true := by simp [hF]
          have HR := hide (faultR_hit HN.out kL Hall.out hF)
          clear hF
          go_wp2_with fail
          refine (take_calls (w.heap.size + 1 + 1 + 1) (w.heap.size + 1 + 1) k (k : Int) (gc ss k) (bk ss k) la ll lc (gl ss k) _ hll hsl1 hbk1 (by have := HN.out; omega) (by have := HN.out; omega)).mono ?_
          rintro e w1 ⟨rfl, bt, _⟩
          rw [heq]
          have e0 := bt.block (w.heap.size + 1) (by simp; omega) (by omega) (by omega)
          have s0 := (World.cell?_of_block (a := ⟨w.heap.size + 1, 0, none⟩) e0).trans g0
          have s1 := (World.cell?_of_block (a := ⟨w.heap.size + 1, 1, none⟩) e0).trans g1
          have f0 := (World.frozen?_of_block (a := ⟨w.heap.size + 1, 0, none⟩) e0).trans (gf 0)
          have f1 := (World.frozen?_of_block (a := ⟨w.heap.size + 1, 1, none⟩) e0).trans (gf 1)
          have HE := hide (hbel1.trans (bt.below (B := w.heap.size) (by omega) (by omega) hbel1.size))
          clear bt e0 g0 g1 gf hbk1 hsl1 hbel1 heq
          go_wp2
          refine bodyPost_ret (v := .tuple #[.agg #[.int .i64 0, .map none], .int .i64 (slotF ss k)]) (by simp [results, Tryz.results131, go_sem, s0, s1]) rfl ⟨0, none, by rw [HR.out], ?_, fun h => absurd (HR.out.symm.trans h) HF.out⟩
          exact (HE.out.setCell (by simp) _).setCell (by simp) _
      · have hkn : k = n := by omega
        subst hkn
        have HF := hide (faultR_ok HN.out (fun j hj => hall j (by omega)))
        have p0 := hbk.c0
        have p1 := hbk.c1
        have f0 := rf 0
        have f1 := rf 1
        have HB := hide hbk
        clear hall hbk
        go_wp2
        refine bodyPost_ret (v := .tuple #[.agg #[.int .i64 (k : Int), .map (some (w.heap.size + 1 + 1))], .int .i64 0]) (by simp [results, Tryz.results131, go_sem, r0, r1]) rfl ⟨(k : Int), some (w.heap.size + 1 + 1), by rw [HF.out], ?_, fun _ => ⟨rfl, w.heap.size + 1 + 1, rfl, by omega, ?_⟩⟩
        · exact (hbel.setCell (by simp) _).setCell (by simp) _
        · exact (HB.out.own.setCell (by simp) _).setCell (by simp) _

end Go.Proofs.YtnlkigjgloeonaaGreat
