import Derived.Test.YtgkjmeogdomgmaaGreatG16
import Derived.Test.YtgkjmeogdomgmaaGreatG13
import Derived.WalkKit
import Derived.ProofKit
import Derived.OpenShut
import Derived.ShutString
import Derived.ChangeOld
import Derived.Below
import Derived.WalkSpells
import Derived.Deep.QuietTactic
import Derived.BigQuiet
import Derived.Deep.RegionWith
import Derived.Deep.WholeRow
import Derived.Deep.DeepCutAuto
import Derived.Deep.RegionHeld2
import Derived.Deep.AppendLies
import Derived.Deep.RegionLaw
namespace Go.Proofs.YtgkjmeogdomgmaaGreat
open Go.ChangeShapes Go.WideShapes Go.ChangeAt Go.RowKit

theorem inUp_is (v m : Int) (b : Bool) (w : World) (h : up v m = b) : Calls Tryz.prog 99 #[.int .i64 v, .int .i64 0, .int .i64 m] w fun e w' => e = .returned (.bool b) ∧ w' = w := h ▸ inUp_calls v m w

set_option maxRecDepth 100000 in
theorem inOne_calls (v m : Int) (w : World) :
    Calls Tryz.prog 99 #[.int .i64 v, .int .i64 1, .int .i64 m] w fun e w' => e = .returned (.bool (decide (1 ≤ v) && decide (v ≤ m))) ∧ w' = w := by
  by_cases h1 : 1 ≤ v
  · by_cases h2 : v ≤ m
    all_goals
      go_enter Tryz.func99, Tryz.ntmps99
      go_wp2
      go_ret
      exact ⟨ret_bool (by simp [h1, h2]), rfl⟩
  · go_enter Tryz.func99, Tryz.ntmps99
    go_wp2
    go_ret
    exact ⟨ret_bool (by simp; omega), rfl⟩

set_option maxRecDepth 100000 in
theorem hasDomain_is (P : Nat) (a : Option Addr) (n c : Nat) (p : Int) (b : Bool) (w : World) (hn : n ≤ maxLen) (hc : w.cell? ⟨P, 2, none⟩ = some (.slice a n c)) (hb : up p ((n : Int) - 1) = b) :
    Calls Tryz.prog 51 #[.pointer (some ⟨P, 0, none⟩), .int .i64 p] w fun e w' => e = .returned (.bool b) ∧ w' = w := by
  unfold maxLen at hn
  subst hb
  go_enter Tryz.func51, Tryz.ntmps51
  go_wp2_with fail
  refine (inUp_calls _ _ _).mono ?_
  rintro e w' ⟨rfl, rfl⟩
  go_wp2
  go_ret
  exact ⟨rfl, rfl⟩

set_option maxRecDepth 100000 in
theorem hasTag_is (P : Nat) (a : Option Addr) (n c : Nat) (p : Int) (b : Bool) (w : World) (hc : w.cell? ⟨P, 1, none⟩ = some (.slice a n c)) (hb : hasT n p = b) :
    Calls Tryz.prog 52 #[.pointer (some ⟨P, 0, none⟩), .int .i64 p] w fun e w' => e = .returned (.bool b) ∧ w' = w := by
  subst hb
  go_enter Tryz.func52, Tryz.ntmps52
  go_wp2_with fail
  refine (inOne_calls _ _ _).mono ?_
  rintro e w' ⟨rfl, rfl⟩
  go_wp2
  go_ret
  exact ⟨rfl, rfl⟩

set_option maxRecDepth 100000 in
theorem l7Context_calls (b o : Nat) (a : Option Addr) (n c : Nat) (p : Int) (h : Bool) (zs : List Int) (w : World) (_hn : n ≤ maxLen) (c0 : w.cell? ⟨b, o, none⟩ = some (.slice a n c)) (c1 : w.cell? ⟨b, o + 1, none⟩ = some (.int .i64 p)) (hs : Sl w a n zs) :
    Calls Tryz.prog 100 #[.pointer (some ⟨b, o, none⟩)] w fun e w' => e = .returned (.int .i64 (ctxF (zs, p, h))) ∧ w' = w := by
  obtain ⟨hlen, hs⟩ := hs
  by_cases h8 : n = 8
  rotate_left
  · have HR := hide (ctxF_len (c := (zs, p, h)) (by show zs.length ≠ 8; omega))
    have e1 : ((n : Int) != 8) = true := by simp; omega
    clear hs
    go_enter Tryz.func100, Tryz.ntmps100
    go_wp2
    go_ret
    exact ⟨ret_int HR.out.symm, rfl⟩
  have e1 : ((n : Int) != 8) = false := by simp; omega
  go_enter Tryz.func100, Tryz.ntmps100
  go_wp2
  clear e1
  go_loop [3] (fun i => ∃ k : Nat, k ≤ n ∧ i = .int .i64 k ∧ ∀ j, j < k → okv (gt zs j) = true) (fun i => n - (intOf i).toNat)
  case atStart => exact ⟨0, Nat.zero_le _, rfl, fun j hj => by omega⟩
  case round =>
    obtain ⟨k, hk, rfl, hno⟩ := hrel
    have Hno := hide hno
    clear hno
    by_cases hlt : k < n
    · obtain ⟨bk, off, rfl, hb, hc⟩ := hs (by omega)
      have hck := hc k hlt
      clear hc
      cases h2 : up (gt zs k) 65535 with
      | false =>
        have HR : Hid (ctxF (zs, p, h) = 3) := ctxF_bad (by show zs.length = 8; omega) (by rw [all_okv (k := k) (by show k < zs.length; omega) h2]; rfl)
        go_wp2_with (go_at_call 99; refine (inUp_is _ _ _ _ h2).mono ?_; rintro e w' ⟨rfl, rfl⟩)
        go_ret
        exact ⟨ret_int HR.out.symm, rfl⟩
      | true =>
        have HN : Hid (∀ j, j < k + 1 → okv (gt zs j) = true) := fun j hj => by
          by_cases e : j = k
          · subst e; exact h2
          · exact Hno.out j (by omega)
        go_wp2_with (go_at_call 99; refine (inUp_is _ _ _ _ h2).mono ?_; rintro e w' ⟨rfl, rfl⟩)
        go_round
        case rel => exact ⟨k + 1, by omega, by go_num, HN.out⟩
        case measure => simp [intOf]; omega
    · have hall : zs.all okv = true := all_okv_yes (fun j hj => Hno.out j (by omega))
      clear hs
      cases h2 : up p 65535 with
      | false =>
        have HR : Hid (ctxF (zs, p, h) = 3) := ctxF_bad (by show zs.length = 8; omega) (by rw [Bool.and_eq_false_iff]; exact .inr h2)
        clear hall
        go_wp2_with (go_at_call 99; refine (inUp_is _ _ _ _ h2).mono ?_; rintro e w' ⟨rfl, rfl⟩)
        go_ret
        exact ⟨ret_int HR.out.symm, rfl⟩
      | true =>
        have HR := hide (ctxF_ok (c := (zs, p, h)) (by show zs.length = 8; omega) hall h2)
        clear hall
        go_wp2_with (go_at_call 99; refine (inUp_is _ _ _ _ h2).mono ?_; rintro e w' ⟨rfl, rfl⟩)
        go_ret
        exact ⟨ret_int HR.out.symm, rfl⟩

set_option maxRecDepth 100000 in
theorem l7Contexts_calls (P : Nat) (a : Option Addr) (n c : Nat) (cs : List (List Int × Int × Bool)) (da : Option Addr) (dn dc : Nat) (w : World) (hn : n ≤ maxLen) (hdn : dn ≤ maxLen) (c4 : w.cell? ⟨P, 4, none⟩ = some (.slice a n c)) (c2 : w.cell? ⟨P, 2, none⟩ = some (.slice da dn dc)) (hs : Scx w a n cs) :
    Calls Tryz.prog 50 #[.pointer (some ⟨P, 0, none⟩)] w fun e w' => e = .returned (.int .i64 (ctxsF dn cs)) ∧ Below w.heap.size w w' := by
  unfold maxLen at hn hdn
  obtain ⟨hlen, hs⟩ := hs
  have lP := World.block_lt_of_cell? _ _ c4
  by_cases hd : n = dn
  rotate_left
  · have HR : Hid (ctxsF dn cs = 1) := by show _ = _; unfold ctxsF; rw [if_neg (by omega)]
    have e1 : ((n : Int) != (dn : Int)) = true := by simp; omega
    clear hs
    go_enter Tryz.func50, Tryz.ntmps50
    go_wp2_with fail
    go_quiet (fail)
    go_wp2
    go_ret
    exact ⟨ret_int HR.out.symm, bdrewN (Below.refl _ _) _⟩
  subst hd
  have e1 : ((n : Int) != (n : Int)) = false := by simp
  by_cases h0 : n = 0
  · have HR : Hid (ctxsF n cs = 1) := by show _ = _; unfold ctxsF; rw [if_neg (by omega)]
    subst h0
    clear hs
    go_enter Tryz.func50, Tryz.ntmps50
    go_wp2_with fail
    go_quiet (fail)
    go_wp2
    go_ret
    exact ⟨ret_int HR.out.symm, bdrewN (Below.refl _ _) _⟩
  have e0 : ((n : Int) == 0) = false := by simp; omega
  have HX : Hid (ctxsF n cs = ffst n (fun i => ctxF (gx cs i))) := by show _ = _; unfold ctxsF; rw [if_pos (by omega)]
  go_enter Tryz.func50, Tryz.ntmps50
  go_wp2_with fail
  go_quiet (fail)
  go_wp2
  clear e0 e1
  go_loopw [3] (fun i wr => ∃ k : Nat, k ≤ n ∧ i = .int .i64 k ∧ Below w.heap.size w wr ∧ ∀ j, j < k → ctxF (gx cs j) = 0) (fun i _ => n - (intOf i).toNat)
  case atStart => exact ⟨0, Nat.zero_le _, rfl, bdrewN (Below.refl _ _) _, fun j hj => by omega⟩
  case round =>
    obtain ⟨k, hk, rfl, hbel, hno⟩ := hrel
    have Hno := hide hno
    clear hno
    have c4' := (hbel.cell (p := ⟨P, 4, none⟩) lP).trans c4
    clear c4 c2
    by_cases hlt : k < n
    · obtain ⟨b, off, rfl, hb, hc⟩ := hs (by omega)
      obtain ⟨la, ll, lc, hc0, hc1, hc2, hll, hsl⟩ := hc k hlt
      have hck0 := (hbel.cell (p := ⟨b, off + k * 3, none⟩) hb).trans hc0
      have hck1 := (hbel.cell (p := ⟨b, off + k * 3 + 1, none⟩) hb).trans hc1
      have hsl2 := hsl.below hbel (Nat.le_refl _)
      clear hc hc0 hc1 hc2 hsl
      go_wp2_with fail
      refine (l7Context_calls b (off + k * 3) la ll lc (gx cs k).2.1 (gx cs k).2.2 (gx cs k).1 _ hll hck0 hck1 hsl2).mono ?_
      rintro e w1 ⟨rfl, rfl⟩
      have eq : ((gx cs k).1, (gx cs k).2.1, (gx cs k).2.2) = gx cs k := rfl
      rw [eq]
      clear hck0 hck1 hsl2 eq
      by_cases hz : ctxF (gx cs k) = 0
      · have e2 : (ctxF (gx cs k) != 0) = false := by simp [hz]
        have HN : Hid (∀ j, j < k + 1 → ctxF (gx cs j) = 0) := fun j hj => by
          by_cases e : j = k
          · subst e; exact hz
          · exact Hno.out j (by omega)
        clear hz
        go_wp2
        go_roundw
        case rel => exact ⟨k + 1, by omega, by go_num, hbel, HN.out⟩
        case measure => simp [intOf]; omega
      · have e2 : (ctxF (gx cs k) != 0) = true := by simpa using hz
        have HR : Hid (ctxsF n cs = ctxF (gx cs k)) := by show _ = _; rw [HX.out]; exact ffst_hit hlt (fun j hj => Hno.out j hj) hz
        clear hz
        go_wp2
        go_ret
        exact ⟨ret_int HR.out.symm, hbel⟩
    · have HR : Hid (ctxsF n cs = 0) := by show _ = _; rw [HX.out]; exact ffst_ok (fun j hj => Hno.out j (by omega))
      clear hs
      go_wp2
      go_ret
      exact ⟨ret_int HR.out.symm, hbel⟩

set_option maxRecDepth 100000 in
set_option maxHeartbeats 1000000 in
theorem l7Ends_calls (P : Nat) (da : Option Addr) (dn dc : Nat) (oa : Option Addr) (on oc : Nat) (os : List Int) (ga : Option Addr) (gn gc : Nat) (gs : List (Int × Int)) (w : World) (hdn : dn ≤ maxLen) (c2 : w.cell? ⟨P, 2, none⟩ = some (.slice da dn dc)) (c9 : w.cell? ⟨P, 9, none⟩ = some (.slice oa on oc)) (c10 : w.cell? ⟨P, 10, none⟩ = some (.slice ga gn gc)) (ho : Sl w oa on os) (hg : Swd w ga gn gs) :
    Calls Tryz.prog 55 #[.pointer (some ⟨P, 0, none⟩)] w fun e w' => e = .returned (.int .i64 (endsF dn os gs)) ∧ Below w.heap.size w w' := by
  obtain ⟨hol, ho⟩ := ho
  obtain ⟨hgl, hg⟩ := hg
  have lP := World.block_lt_of_cell? _ _ c2
  by_cases h40 : 40 < on
  · have HR : Hid (endsF dn os gs = 2) := by show _ = _; unfold endsF; rw [if_pos (by omega)]
    clear ho hg
    go_enter Tryz.func55, Tryz.ntmps55
    go_wp2
    go_ret
    exact ⟨ret_int HR.out.symm, Below.refl _ _⟩
  by_cases h3 : 3 < gn
  · have HR : Hid (endsF dn os gs = 2) := by show _ = _; unfold endsF; rw [if_pos (by omega)]
    clear ho hg
    go_enter Tryz.func55, Tryz.ntmps55
    go_wp2
    go_ret
    exact ⟨ret_int HR.out.symm, Below.refl _ _⟩
  have HX : Hid (endsF dn os gs = if os.all okv = true then (if gs.all (gateB dn) = true then 0 else 3) else 3) := by show _ = _; unfold endsF; rw [if_neg (by omega)]
  have b40 : (on : Int) ≤ 40 := by omega
  have b3 : (gn : Int) ≤ 3 := by omega
  go_enter Tryz.func55, Tryz.ntmps55
  go_wp2
  go_loop [3] (fun i => ∃ k : Nat, k ≤ on ∧ i = .int .i64 k ∧ ∀ j, j < k → okv (gt os j) = true) (fun i => on - (intOf i).toNat)
  case atStart => exact ⟨0, Nat.zero_le _, rfl, fun j hj => by omega⟩
  case round =>
    obtain ⟨k, hk, rfl, hno⟩ := hrel
    have Hno := hide hno
    clear hno
    by_cases hlt : k < on
    · obtain ⟨bk, off, rfl, hb, hc⟩ := ho (by omega)
      have hck := hc k hlt
      clear hc
      cases h2 : up (gt os k) 65535 with
      | false =>
        have HR : Hid (endsF dn os gs = 3) := by show _ = _; rw [HX.out, all_okv (k := k) (by omega) h2]; rfl
        clear HX
        go_wp2_with (go_at_call 99; refine (inUp_is _ _ _ _ h2).mono ?_; rintro e w' ⟨rfl, rfl⟩)
        go_ret
        exact ⟨ret_int HR.out.symm, Below.refl _ _⟩
      | true =>
        have HN : Hid (∀ j, j < k + 1 → okv (gt os j) = true) := fun j hj => by
          by_cases e : j = k
          · subst e; exact h2
          · exact Hno.out j (by omega)
        go_wp2_with (go_at_call 99; refine (inUp_is _ _ _ _ h2).mono ?_; rintro e w' ⟨rfl, rfl⟩)
        go_round
        case rel => exact ⟨k + 1, by omega, by go_num, HN.out⟩
        case measure => simp [intOf]; omega
    · have hall : os.all okv = true := all_okv_yes (fun j hj => Hno.out j (by omega))
      have HY : Hid (endsF dn os gs = if gs.all (gateB dn) = true then 0 else 3) := by show _ = _; rw [HX.out, if_pos hall]
      clear ho hall HX
      go_wp2
      go_loopw [4] (fun i wr => ∃ k : Nat, k ≤ gn ∧ i = .int .i64 k ∧ Below w.heap.size w wr ∧ ∀ j, j < k → gateB dn (gw gs j) = true) (fun i _ => gn - (intOf i).toNat)
      case atStart => exact ⟨0, Nat.zero_le _, rfl, Below.refl _ _, fun j hj => by omega⟩
      case round =>
        obtain ⟨q, hq, rfl, hbel, hnq⟩ := hrel
        have Hnq := hide hnq
        have d2 := (hbel.cell (p := ⟨P, 2, none⟩) lP).trans c2
        have d10 := (hbel.cell (p := ⟨P, 10, none⟩) lP).trans c10
        clear hnq c2 c9 c10
        by_cases hql : q < gn
        · obtain ⟨bk, off, rfl, hb, hc⟩ := hg (by omega)
          obtain ⟨r0, r1⟩ := cellsw hc hql
          have s0 := (hbel.cell (p := ⟨bk, off + q * 2, none⟩) hb).trans r0
          have s1 := (hbel.cell (p := ⟨bk, off + q * 2 + 1, none⟩) hb).trans r1
          have i0 : (0 : Int) ≤ (q : Int) := by omega
          have i1 : (q : Int) < (gn : Int) := by omega
          clear hc r0 r1
          cases h1 : up (gw gs q).1 ((dn : Int) - 1) with
          | false =>
            have HR : Hid (endsF dn os gs = 3) := by show _ = _; rw [HY.out, gates_no (k := q) (by omega) (by unfold gateB; rw [h1]; rfl)]; rfl
            clear HY
            go_wp2_with fail
            go_quiet (first | (go_at_call 51; refine Calls.quiet_of_same (hasDomain_is P da dn dc _ _ _ hdn d2 h1)))
            go_wp2
            go_ret
            exact ⟨ret_int HR.out.symm, bdrewN hbel _⟩
          | true =>
            cases h2 : up (gw gs q).2 65535 with
            | false =>
              have HR : Hid (endsF dn os gs = 3) := by show _ = _; rw [HY.out, gates_no (k := q) (by omega) (by unfold gateB okv; rw [h1, h2]; rfl)]; rfl
              clear HY
              go_wp2_with fail
              go_quiet (first | (go_at_call 51; refine Calls.quiet_of_same (hasDomain_is P da dn dc _ _ _ hdn d2 h1)) | (go_at_call 99; refine Calls.quiet_of_same (inUp_is _ _ _ _ h2)))
              go_wp2
              go_ret
              exact ⟨ret_int HR.out.symm, bdrewN hbel _⟩
            | true =>
              have HN : Hid (∀ j, j < q + 1 → gateB dn (gw gs j) = true) := fun j hj => by
                by_cases e : j = q
                · subst e; unfold gateB okv; rw [h1, h2]; rfl
                · exact Hnq.out j (by omega)
              go_wp2_with fail
              go_quiet (first | (go_at_call 51; refine Calls.quiet_of_same (hasDomain_is P da dn dc _ _ _ hdn d2 h1)) | (go_at_call 99; refine Calls.quiet_of_same (inUp_is _ _ _ _ h2)))
              go_wp2
              go_roundw
              case rel => exact ⟨q + 1, by omega, by go_num, bdrewN hbel _, HN.out⟩
              case measure => simp [intOf]; omega
        · have HR : Hid (endsF dn os gs = 0) := by show _ = _; rw [HY.out, if_pos (gates_yes (fun j hj => Hnq.out j (by omega)))]
          clear hg HY
          go_wp2
          go_ret
          exact ⟨ret_int HR.out.symm, hbel⟩

set_option maxRecDepth 100000 in
set_option maxHeartbeats 2000000 in
theorem l7Fault_calls (P : Nat) (A : SA) (D : SD) (w : World) (hp : Cs P [.slice A.a A.n A.c, .slice A.ta A.tn A.tc, .slice A.da A.dn A.dc, .slice A.wa A.wn A.wc, .slice A.xa A.xn A.xc, .int .i64 D.ac, .int .i64 D.cz, .slice A.la A.ln A.lc, .int .i64 D.dv, .slice A.oa A.on A.oc, .slice A.ga A.gn A.gc] w) (hr : RS w A D) :
    Calls Tryz.prog 19 #[.pointer (some ⟨P, 0, none⟩)] w fun e w' => e = .returned (.int .i64 (sysF D)) ∧ Below w.heap.size w w' := by
  obtain ⟨k0, k1, k2, k3, k4, k5, k6, k7⟩ := hr.len
  have lP := hp.1
  have M0 : Mm w w [] [(P, P + 1, Cs P [.slice A.a A.n A.c, .slice A.ta A.tn A.tc, .slice A.da A.dn A.dc, .slice A.wa A.wn A.wc, .slice A.xa A.xn A.xc, .int .i64 D.ac, .int .i64 D.cz, .slice A.la A.ln A.lc, .int .i64 D.dv, .slice A.oa A.on A.oc, .slice A.ga A.gn A.gc])] := (Mm.start w).fact Cs.loc hp
  have hdn := hr.rt.2.2.2.2.1
  go_enter Tryz.func19, Tryz.ntmps19
  go_wp2_with fail
  refine (l3Fault_calls P A.a A.n A.c D.ss A.ta A.tn A.tc D.ts A.da A.dn A.dc D.ds _ lP (hp.cell 0 rfl) (hp.cell 1 rfl) (hp.cell 2 rfl) hr.rt).mono ?_
  rintro e w1 ⟨rfl, g1⟩
  have M1 := M0.below g1
  clear g1 M0 hp
  by_cases t1 : tabF D.ss D.ts D.ds = 0
  rotate_left
  · have HR : Hid (sysF D = tabF D.ss D.ts D.ds) := by show _ = _; unfold sysF; rw [if_pos t1]
    have e1 : (tabF D.ss D.ts D.ds != 0) = true := by simpa using t1
    have HB := hide M1.bel
    clear M1 t1
    go_wp2
    go_ret
    exact ⟨ret_int HR.out.symm, HB.out⟩
  have e1 : (tabF D.ss D.ts D.ds != 0) = false := by simp [t1]
  have q1 := (M1.get 0 rfl).cell 1 rfl
  have q3 := (M1.get 0 rfl).cell 3 rfl
  have rw1 := hr.ws.below M1.bel (Nat.le_refl _)
  go_wp2_with fail
  go_quiet (first | (go_at_call 49; refine Calls.quiet_of_same (l6Fault3_calls P A.wa A.wn A.wc D.ws _ _ hr.wm q3 rw1)))
  have g2 : Below w1.heap.size w1 (w1.drewN nq) := bdrewN (Below.refl _ _) _
  obtain ⟨w2, hw2⟩ : ∃ x, x = w1.drewN nq := ⟨_, rfl⟩
  rw [← hw2] at g2 ⊢
  have M2 := M1.below g2
  clear hw2 g2 M1 q1 q3 rw1 e1
  by_cases t2 : mfC (A.tn : Int) D.ws = 0
  rotate_left
  · have HR : Hid (sysF D = mfC (A.tn : Int) D.ws) := by show _ = _; unfold sysF; rw [if_neg (by simp [t1]), k1, if_pos t2]
    have e1 : (mfC (A.tn : Int) D.ws != 0) = true := by simpa using t2
    have HB := hide M2.bel
    clear M2 t2 t1
    go_wp2
    go_ret
    exact ⟨ret_int HR.out.symm, HB.out⟩
  have e2 : (mfC (A.tn : Int) D.ws != 0) = false := by simp [t2]
  go_wp2_with fail
  refine (l7Contexts_calls P A.xa A.xn A.xc D.cs A.da A.dn A.dc _ hr.xm hdn ((M2.get 0 rfl).cell 4 rfl) ((M2.get 0 rfl).cell 2 rfl) (hr.xs.below M2.bel (Nat.le_refl _))).mono ?_
  rintro e w3 ⟨rfl, g3⟩
  have M3 := M2.below g3
  clear g3 M2 e2
  by_cases t3 : ctxsF A.dn D.cs = 0
  rotate_left
  · have HR : Hid (sysF D = ctxsF A.dn D.cs) := by show _ = _; unfold sysF; rw [if_neg (by simp [t1]), k1, if_neg (by simp [t2]), k2, if_pos t3]
    have e1 : (ctxsF A.dn D.cs != 0) = true := by simpa using t3
    have HB := hide M3.bel
    clear M3 t3 t2 t1
    go_wp2
    go_ret
    exact ⟨ret_int HR.out.symm, HB.out⟩
  have e3 : (ctxsF A.dn D.cs != 0) = false := by simp [t3]
  have s1 := (M3.get 0 rfl).cell 1 rfl
  have s2 := (M3.get 0 rfl).cell 2 rfl
  have s5 := (M3.get 0 rfl).cell 5 rfl
  have s8 := (M3.get 0 rfl).cell 8 rfl
  have HX : Hid (sysF D = if (up D.ac ((A.dn : Int) - 1) && hasT A.tn D.dv) = false then 4
      else if faultC D.cz D.ls ≠ 0 then faultC D.cz D.ls
      else if allT D.ss D.ts D.ds D.ls = false then 8
      else endsF A.dn D.os D.gs) := by show _ = _; unfold sysF; rw [if_neg (by simp [t1]), k1, if_neg (by simp [t2]), k2, if_neg (by simp [t3])]
  have Ht1 := hide t1
  clear t1 t2 t3
  cases h1 : up D.ac ((A.dn : Int) - 1) with
  | false =>
    have HR : Hid (sysF D = 4) := by show _ = _; rw [HX.out, h1]; rfl
    have HB := hide M3.bel
    clear M3 HX
    go_wp2_with fail
    go_quiet (first | (go_at_call 51; refine Calls.quiet_of_same (hasDomain_is P A.da A.dn A.dc _ _ _ hdn s2 h1)))
    go_wp2
    go_ret
    exact ⟨ret_int HR.out.symm, bdrewN HB.out _⟩
  | true =>
  cases h2 : hasT A.tn D.dv with
  | false =>
    have HR : Hid (sysF D = 4) := by show _ = _; rw [HX.out, h1, h2]; rfl
    have HB := hide M3.bel
    clear M3 HX
    go_wp2_with fail
    go_quiet (first | (go_at_call 51; refine Calls.quiet_of_same (hasDomain_is P A.da A.dn A.dc _ _ _ hdn s2 h1)) | (go_at_call 52; refine Calls.quiet_of_same (hasTag_is P A.ta A.tn A.tc _ _ _ s1 h2)))
    go_wp2
    go_ret
    exact ⟨ret_int HR.out.symm, bdrewN HB.out _⟩
  | true =>
  have HY : Hid (sysF D = if faultC D.cz D.ls ≠ 0 then faultC D.cz D.ls
      else if allT D.ss D.ts D.ds D.ls = false then 8
      else endsF A.dn D.os D.gs) := by show _ = _; rw [HX.out, h1, h2, if_neg (by simp)]
  clear HX
  go_wp2_with fail
  go_quiet (first | (go_at_call 51; refine Calls.quiet_of_same (hasDomain_is P A.da A.dn A.dc _ _ _ hdn s2 h1)) | (go_at_call 52; refine Calls.quiet_of_same (hasTag_is P A.ta A.tn A.tc _ _ _ s1 h2)))
  have g4 : Below w3.heap.size w3 (w3.drewN nq) := bdrewN (Below.refl _ _) _
  obtain ⟨w4, hw4⟩ : ∃ x, x = w3.drewN nq := ⟨_, rfl⟩
  rw [← hw4] at g4 ⊢
  have M4 := M3.below g4
  clear hw4 g4 M3 s1 s2 s5 s8 e3 h1 h2
  go_wp2_with fail
  refine (l4Fault7_calls P D.cz A.la A.ln A.lc D.ls _ hr.lm ((M4.get 0 rfl).cell 6 rfl) ((M4.get 0 rfl).cell 7 rfl) (hr.ls.below M4.bel (Nat.le_refl _))).mono ?_
  rintro e w5 ⟨rfl, g5⟩
  have M5 := M4.below g5
  clear g5 M4
  by_cases t4 : faultC D.cz D.ls = 0
  rotate_left
  · have HR : Hid (sysF D = faultC D.cz D.ls) := by show _ = _; rw [HY.out, if_pos t4]
    have e1 : (faultC D.cz D.ls != 0) = true := by simpa using t4
    have HB := hide M5.bel
    clear M5 t4 HY
    go_wp2
    go_ret
    exact ⟨ret_int HR.out.symm, HB.out⟩
  have e4 : (faultC D.cz D.ls != 0) = false := by simp [t4]
  have HZ : Hid (sysF D = if allT D.ss D.ts D.ds D.ls = false then 8 else endsF A.dn D.os D.gs) := by show _ = _; rw [HY.out, if_neg (by simp [t4])]
  clear HY t4
  have lP5 : P < w5.heap.size := (M5.get 0 rfl).1
  have rt5 := hr.rt.below M5.bel (Nat.le_refl _)
  have rl5 := hr.ls.below M5.bel (Nat.le_refl _)
  have HS0 : Hid (Below w5.heap.size w5 w5.drew) := (Below.refl _ _).drew
  have HP5 := hide (M5.get 0 rfl)
  go_wp2_with fail
  go_region_held2 (fun w' => Below w5.heap.size w5 w')
    (first | with_reducible exact HS0.out | with_reducible assumption)
    (first
      | (go_at_call 54; refine (l4True7_calls P P A.la A.ln A.lc D.ls A.a A.n A.c D.ss A.ta A.tn A.tc D.ts A.da A.dn A.dc D.ds _ hr.lm (Nat.lt_of_lt_of_le lP5 (Below.size (by with_reducible assumption))) (Nat.lt_of_lt_of_le lP5 (Below.size (by with_reducible assumption))) ((Cs.loc.belowB HP5.out (by with_reducible assumption)).cell 7 rfl) ((Cs.loc.belowB HP5.out (by with_reducible assumption)).cell 0 rfl) ((Cs.loc.belowB HP5.out (by with_reducible assumption)).cell 1 rfl) ((Cs.loc.belowB HP5.out (by with_reducible assumption)).cell 2 rfl) (rl5.below (by with_reducible assumption) (Nat.le_refl _)) (rt5.below (by with_reducible assumption) (Nat.le_refl _)) Ht1.out).mono ?_; rintro e v1 ⟨rfl, ga⟩; have hs1 := Below.trans (by with_reducible assumption : Below w5.heap.size w5 _) (ga.mono (Below.size (by with_reducible assumption))); clear ga))
  have M6 := M5.below hs1
  clear HS0 HP5 rt5 rl5 hs1 M5 e4
  cases h4 : allT D.ss D.ts D.ds D.ls with
  | false =>
    have HR : Hid (sysF D = 8) := by show _ = _; rw [HZ.out, if_pos h4]
    have HB := hide M6.bel
    clear M6 HZ
    go_wp2
    go_ret
    exact ⟨ret_int HR.out.symm, HB.out⟩
  | true =>
    have HR : Hid (sysF D = endsF A.dn D.os D.gs) := by show _ = _; rw [HZ.out, if_neg (by simp [h4])]
    clear HZ
    go_wp2_with fail
    refine (l7Ends_calls P A.da A.dn A.dc A.oa A.on A.oc D.os A.ga A.gn A.gc D.gs _ hdn ((M6.get 0 rfl).cell 2 rfl) ((M6.get 0 rfl).cell 9 rfl) ((M6.get 0 rfl).cell 10 rfl) (hr.os.below M6.bel (Nat.le_refl _)) (hr.gs.below M6.bel (Nat.le_refl _))).mono ?_
    rintro e w7 ⟨rfl, g7⟩
    have HB := hide (M6.below g7).bel
    clear M6 g7
    go_wp2
    go_ret
    exact ⟨ret_int HR.out.symm, HB.out⟩

end Go.Proofs.YtgkjmeogdomgmaaGreat
