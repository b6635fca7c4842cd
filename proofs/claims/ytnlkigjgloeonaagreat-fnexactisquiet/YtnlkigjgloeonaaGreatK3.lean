import Derived.Test.YtnlkigjgloeonaaGreatK5
import Derived.Test.YtnlkigjgloeonaaGreatChFT
import Derived.Test.YtnlkigjgloeonaaGreatK6
import Derived.WalkKit
import Derived.ProofKit
import Derived.OpenShut
import Derived.ShutString
import Derived.ChangeOld
import Derived.Below
import Derived.WalkSpells
import Derived.Deep.QuietTactic
import Derived.BigQuiet
import Derived.Deep.RegionWith
import Derived.Deep.WholeRow
import Derived.Deep.DeepCutAuto
import Derived.Deep.RegionHeld2
import Derived.Deep.AppendLies
import Derived.Deep.RegionLaw
namespace Go.Proofs.YtnlkigjgloeonaaGreat
open Go.ChangeShapes Go.WideShapes Go.ChangeAt Go.RowKit

theorem inUp_is (v m : Int) (b : Bool) (w : World) (h : up v m = b) : Calls Tryz.prog 71 #[.int .i64 v, .int .i64 0, .int .i64 m] w fun e w' => e = .returned (.bool b) ∧ w' = w := h ▸ inUp_calls v m w

set_option maxRecDepth 100000 in
theorem inOne_calls (v m : Int) (w : World) :
    Calls Tryz.prog 71 #[.int .i64 v, .int .i64 1, .int .i64 m] w fun e w' => e = .returned (.bool (decide (1 ≤ v) && decide (v ≤ m))) ∧ w' = w := by
  by_cases h1 : 1 ≤ v
  · by_cases h2 : v ≤ m
    all_goals
      go_enter Tryz.func71, Tryz.ntmps71
      go_wp2
      go_ret
      exact ⟨ret_bool (by simp [h1, h2]), rfl⟩
  · go_enter Tryz.func71, Tryz.ntmps71
    go_wp2
    go_ret
    exact ⟨ret_bool (by simp; omega), rfl⟩

set_option maxRecDepth 100000 in
theorem hasDomain_is (P : Nat) (a : Option Addr) (n c : Nat) (p : Int) (b : Bool) (w : World) (hn : n ≤ maxLen) (hc : w.cell? ⟨P, 2, none⟩ = some (.slice a n c)) (hb : up p ((n : Int) - 1) = b) :
    Calls Tryz.prog 66 #[.pointer (some ⟨P, 0, none⟩), .int .i64 p] w fun e w' => e = .returned (.bool b) ∧ w' = w := by
  unfold maxLen at hn
  subst hb
  go_enter Tryz.func66, Tryz.ntmps66
  go_wp2_with fail
  refine (inUp_calls _ _ _).mono ?_
  rintro e w' ⟨rfl, rfl⟩
  go_wp2
  go_ret
  exact ⟨rfl, rfl⟩

set_option maxRecDepth 100000 in
theorem hasTag_is (P : Nat) (a : Option Addr) (n c : Nat) (p : Int) (b : Bool) (w : World) (hc : w.cell? ⟨P, 1, none⟩ = some (.slice a n c)) (hb : hasT n p = b) :
    Calls Tryz.prog 67 #[.pointer (some ⟨P, 0, none⟩), .int .i64 p] w fun e w' => e = .returned (.bool b) ∧ w' = w := by
  subst hb
  go_enter Tryz.func67, Tryz.ntmps67
  go_wp2_with fail
  refine (inOne_calls _ _ _).mono ?_
  rintro e w' ⟨rfl, rfl⟩
  go_wp2
  go_ret
  exact ⟨rfl, rfl⟩

set_option maxRecDepth 100000 in
theorem l7Context_calls (b o : Nat) (a : Option Addr) (n c : Nat) (p : Int) (h : Bool) (zs : List Int) (w : World) (_hn : n ≤ maxLen) (c0 : w.cell? ⟨b, o, none⟩ = some (.slice a n c)) (c1 : w.cell? ⟨b, o + 1, none⟩ = some (.int .i64 p)) (hs : Sl w a n zs) :
    Calls Tryz.prog 118 #[.pointer (some ⟨b, o, none⟩)] w fun e w' => e = .returned (.int .i64 (ctxF (zs, p, h))) ∧ w' = w := by
  obtain ⟨hlen, hs⟩ := hs
  by_cases h8 : n = 8
  rotate_left
  · have HR := hide (ctxF_len (c := (zs, p, h)) (by show zs.length ≠ 8; omega))
    have e1 : ((n : Int) != 8) = true := by simp; omega
    clear hs
    go_enter Tryz.func118, Tryz.ntmps118
    go_wp2
    go_ret
    exact ⟨ret_int HR.out.symm, rfl⟩
  have e1 : ((n : Int) != 8) = false := by simp; omega
  go_enter Tryz.func118, Tryz.ntmps118
  go_wp2
  clear e1
  go_loop [3] (fun i => ∃ k : Nat, k ≤ n ∧ i = .int .i64 k ∧ ∀ j, j < k → okv (gt zs j) = true) (fun i => n - (intOf i).toNat)
  case atStart => exact ⟨0, Nat.zero_le _, rfl, fun j hj => by omega⟩
  case round =>
    obtain ⟨k, hk, rfl, hno⟩ := hrel
    have Hno := hide hno
    clear hno
    by_cases hlt : k < n
    · obtain ⟨bk, off, rfl, hb, hc⟩ := hs (by omega)
      have hck := hc k hlt
      clear hc
      cases h2 : up (gt zs k) 65535 with
      | false =>
        have HR : Hid (ctxF (zs, p, h) = 3) := ctxF_bad (by show zs.length = 8; omega) (by rw [all_okv (k := k) (by show k < zs.length; omega) h2]; rfl)
        go_wp2_with (go_at_call 71; refine (inUp_is _ _ _ _ h2).mono ?_; rintro e w' ⟨rfl, rfl⟩)
        go_ret
        exact ⟨ret_int HR.out.symm, rfl⟩
      | true =>
        have HN : Hid (∀ j, j < k + 1 → okv (gt zs j) = true) := fun j hj => by
          by_cases e : j = k
          · subst e; exact h2
          · exact Hno.out j (by omega)
        go_wp2_with (go_at_call 71; refine (inUp_is _ _ _ _ h2).mono ?_; rintro e w' ⟨rfl, rfl⟩)
        go_round
        case rel => exact ⟨k + 1, by omega, by go_num, HN.out⟩
        case measure => simp [intOf]; omega
    · have hall : zs.all okv = true := all_okv_yes (fun j hj => Hno.out j (by omega))
      clear hs
      cases h2 : up p 65535 with
      | false =>
        have HR : Hid (ctxF (zs, p, h) = 3) := ctxF_bad (by show zs.length = 8; omega) (by rw [Bool.and_eq_false_iff]; exact .inr h2)
        clear hall
        go_wp2_with (go_at_call 71; refine (inUp_is _ _ _ _ h2).mono ?_; rintro e w' ⟨rfl, rfl⟩)
        go_ret
        exact ⟨ret_int HR.out.symm, rfl⟩
      | true =>
        have HR := hide (ctxF_ok (c := (zs, p, h)) (by show zs.length = 8; omega) hall h2)
        clear hall
        go_wp2_with (go_at_call 71; refine (inUp_is _ _ _ _ h2).mono ?_; rintro e w' ⟨rfl, rfl⟩)
        go_ret
        exact ⟨ret_int HR.out.symm, rfl⟩

set_option maxRecDepth 100000 in
theorem l7Contexts_calls (P : Nat) (a : Option Addr) (n c : Nat) (cs : List (List Int × Int × Bool)) (da : Option Addr) (dn dc : Nat) (w : World) (hn : n ≤ maxLen) (hdn : dn ≤ maxLen) (c4 : w.cell? ⟨P, 4, none⟩ = some (.slice a n c)) (c2 : w.cell? ⟨P, 2, none⟩ = some (.slice da dn dc)) (hs : Scx w a n cs) :
    Calls Tryz.prog 65 #[.pointer (some ⟨P, 0, none⟩)] w fun e w' => e = .returned (.int .i64 (ctxsF dn cs)) ∧ Below w.heap.size w w' := by
  unfold maxLen at hn hdn
  obtain ⟨hlen, hs⟩ := hs
  have lP := World.block_lt_of_cell? _ _ c4
  by_cases hd : n = dn
  rotate_left
  · have HR : Hid (ctxsF dn cs = 1) := by show _ = _; unfold ctxsF; rw [if_neg (by omega)]
    have e1 : ((n : Int) != (dn : Int)) = true := by simp; omega
    clear hs
    go_enter Tryz.func65, Tryz.ntmps65
    go_wp2_with fail
    go_quiet (fail)
    go_wp2
    go_ret
    exact ⟨ret_int HR.out.symm, bdrewN (Below.refl _ _) _⟩
  subst hd
  have e1 : ((n : Int) != (n : Int)) = false := by simp
  by_cases h0 : n = 0
  · have HR : Hid (ctxsF n cs = 1) := by show _ = _; unfold ctxsF; rw [if_neg (by omega)]
    subst h0
    clear hs
    go_enter Tryz.func65, Tryz.ntmps65
    go_wp2_with fail
    go_quiet (fail)
    go_wp2
    go_ret
    exact ⟨ret_int HR.out.symm, bdrewN (Below.refl _ _) _⟩
  have e0 : ((n : Int) == 0) = false := by simp; omega
  have HX : Hid (ctxsF n cs = ffst n (fun i => ctxF (gx cs i))) := by show _ = _; unfold ctxsF; rw [if_pos (by omega)]
  go_enter Tryz.func65, Tryz.ntmps65
  go_wp2_with fail
  go_quiet (fail)
  go_wp2
  clear e0 e1
  go_loopw [3] (fun i wr => ∃ k : Nat, k ≤ n ∧ i = .int .i64 k ∧ Below w.heap.size w wr ∧ ∀ j, j < k → ctxF (gx cs j) = 0) (fun i _ => n - (intOf i).toNat)
  case atStart => exact ⟨0, Nat.zero_le _, rfl, bdrewN (Below.refl _ _) _, fun j hj => by omega⟩
  case round =>
    obtain ⟨k, hk, rfl, hbel, hno⟩ := hrel
    have Hno := hide hno
    clear hno
    have c4' := (hbel.cell (p := ⟨P, 4, none⟩) lP).trans c4
    clear c4 c2
    by_cases hlt : k < n
    · obtain ⟨b, off, rfl, hb, hc⟩ := hs (by omega)
      obtain ⟨la, ll, lc, hc0, hc1, hc2, hll, hsl⟩ := hc k hlt
      have hck0 := (hbel.cell (p := ⟨b, off + k * 3, none⟩) hb).trans hc0
      have hck1 := (hbel.cell (p := ⟨b, off + k * 3 + 1, none⟩) hb).trans hc1
      have hsl2 := hsl.below hbel (Nat.le_refl _)
      clear hc hc0 hc1 hc2 hsl
      go_wp2_with fail
      refine (l7Context_calls b (off + k * 3) la ll lc (gx cs k).2.1 (gx cs k).2.2 (gx cs k).1 _ hll hck0 hck1 hsl2).mono ?_
      rintro e w1 ⟨rfl, rfl⟩
      have eq : ((gx cs k).1, (gx cs k).2.1, (gx cs k).2.2) = gx cs k := rfl
      rw [eq]
      clear hck0 hck1 hsl2 eq
      by_cases hz : ctxF (gx cs k) = 0
      · have e2 : (ctxF (gx cs k) != 0) = false := by simp [hz]
        have HN : Hid (∀ j, j < k + 1 → ctxF (gx cs j) = 0) := fun j hj => by
          by_cases e : j = k
          · subst e; exact hz
          · exact Hno.out j (by omega)
        clear hz
        go_wp2
        go_roundw
        case rel => exact ⟨k + 1, by omega, by go_num, hbel, HN.out⟩
        case measure => simp [intOf]; omega
      · have e2 : (ctxF (gx cs k) != 0) = true := by simpa using hz
        have HR : Hid (ctxsF n cs = ctxF (gx cs k)) := by show _ = _; rw [HX.out]; exact ffst_hit hlt (fun j hj => Hno.out j hj) hz
        clear hz
        go_wp2
        go_ret
        exact ⟨ret_int HR.out.symm, hbel⟩
    · have HR : Hid (ctxsF n cs = 0) := by show _ = _; rw [HX.out]; exact ffst_ok (fun j hj => Hno.out j (by omega))
      clear hs
      go_wp2
      go_ret
      exact ⟨ret_int HR.out.symm, hbel⟩

set_option maxRecDepth 100000 in
theorem l4At7_calls (P : Nat) (a : Option Addr) (n c : Nat) (ls : List (Int × Int × Int)) (d t : Int) (w : World) (hn : n ≤ maxLen) (h0 : w.cell? ⟨P, 7, none⟩ = some (.slice a n c)) (hs : Sln w a n ls) :
    Calls Tryz.prog 120 #[.pointer (some ⟨P, 6, none⟩), .int .i64 d, .int .i64 t] w fun e w' => e = .returned (.int .i64 (atK ls d t)) ∧ Below w.heap.size w w' := by
  unfold maxLen at hn
  obtain ⟨hlen, hs⟩ := hs
  go_enter Tryz.func120, Tryz.ntmps120
  go_wp2
  go_loop [7] (fun i => ∃ k : Nat, k ≤ n ∧ i = .int .i64 k ∧ ∀ j, j < k → hitL d t (g3 ls j) = false) (fun i => n - (intOf i).toNat)
  case atStart => exact ⟨0, Nat.zero_le _, rfl, fun j hj => by omega⟩
  case round =>
    obtain ⟨k, hk, rfl, hno⟩ := hrel
    by_cases hlt : k < n
    · obtain ⟨b, off, rfl, hb, hc⟩ := hs (by omega)
      obtain ⟨hc0, hc1, _⟩ := cells3 hc hlt
      clear hc
      by_cases h1 : (g3 ls k).1 = d
      · have e1 : ((g3 ls k).1 == d) = true := by simpa using h1
        by_cases h2 : (g3 ls k).2.1 = t
        · have e2 : ((g3 ls k).2.1 == t) = true := by simpa using h2
          have HR := hide (atK_hit (by omega) hno (show hitL d t (g3 ls k) = true by simp [hitL, h1, h2]))
          clear h1 h2
          go_wp2
          go_ret
          exact ⟨ret_int HR.out.symm, Below.refl _ _⟩
        · have e2 : ((g3 ls k).2.1 == t) = false := by simpa using h2
          have HN : Hid (∀ j, j < k + 1 → hitL d t (g3 ls j) = false) := fun j hj => by
            by_cases e : j = k
            · subst e; simp [hitL, h2]
            · exact hno j (by omega)
          clear h1 h2
          go_wp2
          go_round
          case rel => exact ⟨k + 1, by omega, by go_num, HN.out⟩
          case measure => simp [intOf]; omega
      · have e1 : ((g3 ls k).1 == d) = false := by simpa using h1
        have HN : Hid (∀ j, j < k + 1 → hitL d t (g3 ls j) = false) := fun j hj => by
          by_cases e : j = k
          · subst e; simp [hitL, h1]
          · exact hno j (by omega)
        clear h1
        go_wp2
        go_round
        case rel => exact ⟨k + 1, by omega, by go_num, HN.out⟩
        case measure => simp [intOf]; omega
    · have HR := hide (atK_none (ls := ls) (fun j hj => hno j (by omega)))
      go_wp2
      go_ret
      exact ⟨ret_int HR.out.symm, Below.refl _ _⟩

set_option maxRecDepth 100000 in
set_option maxHeartbeats 1000000 in
theorem l4Fault7_calls (P : Nat) (s : Int) (a : Option Addr) (n c : Nat) (ls : List (Int × Int × Int)) (w : World) (hn : n ≤ maxLen) (hp0 : w.cell? ⟨P, 6, none⟩ = some (.int .i64 s)) (hp1 : w.cell? ⟨P, 7, none⟩ = some (.slice a n c)) (hs : Sln w a n ls) :
    Calls Tryz.prog 68 #[.pointer (some ⟨P, 6, none⟩)] w fun e w' => e = .returned (.int .i64 (faultC s ls)) ∧ Below w.heap.size w w' := by
  have hn' := hn
  unfold maxLen at hn
  have hP : P < w.heap.size := World.block_lt_of_cell? _ _ hp0
  have hlen := hs.1
  have HPP := hide hp1
  by_cases h1 : (decide (0 ≤ s) && decide (s ≤ 6)) = true
  · go_enter Tryz.func68, Tryz.ntmps68
    go_wp2_with fail
    refine (in_calls s 0 6 _).mono ?_
    rintro e w1 ⟨rfl, g1⟩
    rw [h1]
    have c0 := (g1.cell (p := ⟨P, 6, none⟩) hP).trans hp0
    have c1 := (g1.cell (p := ⟨P, 7, none⟩) hP).trans hp1
    clear hp0 hp1
    by_cases h2 : s < (n : Int)
    · have HR := hide (faultC_many (ls := ls) h1 (by omega))
      have HB := hide g1
      clear g1 h1
      go_wp2_with fail
      go_quiet (fail)
      go_wp2
      go_ret
      exact ⟨ret_int HR.out.symm, bdrewN HB.out _⟩
    · have HG := hide g1
      have HH1 := hide h1
      have HP1 := HPP
      clear g1 h1
      go_wp2_with fail
      go_quiet (fail)
      go_wp2
      go_loopw [3] (fun i wr => ∃ k : Nat, k ≤ n ∧ i = .int .i64 k ∧ Below w.heap.size w wr ∧ ∀ j, j < k → lineF ls j = 0) (fun i _ => n - (intOf i).toNat)
      case atStart => exact ⟨0, Nat.zero_le _, rfl, bdrewN HG.out _, fun j hj => by omega⟩
      case round =>
        obtain ⟨k, hk, rfl, hbel, hno⟩ := hrel
        have q1 := (hbel.cell (p := ⟨P, 7, none⟩) hP).trans HP1.out
        by_cases hlt : k < n
        · have hsr := hs.below hbel (Nat.le_refl _)
          have HSR := hide hsr
          obtain ⟨_, hsr⟩ := hsr
          obtain ⟨b, off, rfl, hb, hc⟩ := hsr (by omega)
          obtain ⟨r0, r1, r2⟩ := cells3 hc hlt
          clear hc
          have hPr : P < wr.heap.size := by have := hbel.size; omega
          cases hok : okL (g3 ls k) with
          | false =>
            have HR := hide (faultC_at (c := 3) HH1.out (by omega) (by omega) hno (lineF_range hok) (by omega))
            go_wp2_with fail
            refine (l4Line_calls b (off + k * 3) _ _ _ _ r0 r1 r2).mono ?_
            rintro e w2 ⟨rfl, g2⟩
            have hok' : okL ((g3 ls k).1, (g3 ls k).2.1, (g3 ls k).2.2) = false := hok
            rw [hok']
            have HB := hide (hbel.trans (g2.mono hbel.size))
            clear g2 hok hok' r0 r1 r2 q1
            go_wp2
            go_ret
            exact ⟨ret_int HR.out.symm, HB.out⟩
          | true =>
            go_wp2_with fail
            refine (l4Line_calls b (off + k * 3) _ _ _ _ r0 r1 r2).mono ?_
            rintro e w2 ⟨rfl, g2⟩
            have hok' : okL ((g3 ls k).1, (g3 ls k).2.1, (g3 ls k).2.2) = true := hok
            rw [hok']
            have s0 := (g2.cell (p := ⟨b, off + k * 3, none⟩) hb).trans r0
            have s1 := (g2.cell (p := ⟨b, off + k * 3 + 1, none⟩) hb).trans r1
            have s2 := (g2.cell (p := ⟨P, 7, none⟩) hPr).trans q1
            have HS2 := hide (HSR.out.below g2 (Nat.le_refl _))
            have HB := hide (hbel.trans (g2.mono hbel.size))
            have k1 : b < w2.heap.size := by have := g2.size; omega
            have k2 : P < w2.heap.size := by have := g2.size; omega
            have HOK := hide hok
            have i0 : (0 : Int) ≤ (k : Int) := by omega
            have i1 : (k : Int) < (n : Int) := by omega
            have HS0 : Hid (w2.drew.cell? ⟨b, off + k * 3, none⟩ = some (.int .i64 (g3 ls k).1) ∧ w2.drew.cell? ⟨b, off + k * 3 + 1, none⟩ = some (.int .i64 (g3 ls k).2.1) ∧ w2.drew.cell? ⟨P, 7, none⟩ = some (.slice (some ⟨b, off, none⟩) n c) ∧ Below w2.heap.size w2 w2.drew) := ⟨s0, s1, s2, (Below.refl _ _).drew⟩
            by_cases hat : atK ls (g3 ls k).1 (g3 ls k).2.1 = (k : Int)
            · have hne : (atK ls (g3 ls k).1 (g3 ls k).2.1 != (k : Int)) = false := by simp [hat]
              have HN : Hid (∀ j, j < k + 1 → lineF ls j = 0) := fun j hj => by
                by_cases e : j = k
                · subst e; exact lineF_ok HOK.out hat
                · exact hno j (by omega)
              clear hat g2 hok hok' r0 r1 r2 q1 hno hbel
              go_wp2_with fail
              clear s0 s1 s2
              go_region_held2 (fun w' => w'.cell? ⟨b, off + k * 3, none⟩ = some (.int .i64 (g3 ls k).1) ∧ w'.cell? ⟨b, off + k * 3 + 1, none⟩ = some (.int .i64 (g3 ls k).2.1) ∧ w'.cell? ⟨P, 7, none⟩ = some (.slice (some ⟨b, off, none⟩) n c) ∧ Below w2.heap.size w2 w')
                (first | with_reducible exact HS0.out | with_reducible assumption)
                (first
                  | (go_at_call 120; refine (l4At7_calls P _ n c ls _ _ _ hn' (And.left (And.right (And.right (by with_reducible assumption)))) ?_).mono ?_; exact HS2.out.below (And.right (And.right (And.right (by with_reducible assumption)))) (Nat.le_refl _); rintro e v1 ⟨rfl, ga⟩; have hs1 := held3 (W := w2) k1 k1 k2 (by with_reducible assumption) ga; clear ga))
              have HE := hide (HB.out.trans (hs1.2.2.2.mono HB.out.size))
              clear hs1 HS0
              go_wp2
              go_roundw
              case rel => exact ⟨k + 1, by omega, by go_num, HE.out, HN.out⟩
              case measure => simp [intOf]; omega
            · have hne : (atK ls (g3 ls k).1 (g3 ls k).2.1 != (k : Int)) = true := by simp [hat]
              have HR := hide (faultC_at (c := 8) HH1.out (by omega) (by omega) hno (lineF_state HOK.out hat) (by omega))
              clear hat g2 hok hok' r0 r1 r2 q1 hno hbel
              go_wp2_with fail
              clear s0 s1 s2
              go_region_held2 (fun w' => w'.cell? ⟨b, off + k * 3, none⟩ = some (.int .i64 (g3 ls k).1) ∧ w'.cell? ⟨b, off + k * 3 + 1, none⟩ = some (.int .i64 (g3 ls k).2.1) ∧ w'.cell? ⟨P, 7, none⟩ = some (.slice (some ⟨b, off, none⟩) n c) ∧ Below w2.heap.size w2 w')
                (first | with_reducible exact HS0.out | with_reducible assumption)
                (first
                  | (go_at_call 120; refine (l4At7_calls P _ n c ls _ _ _ hn' (And.left (And.right (And.right (by with_reducible assumption)))) ?_).mono ?_; exact HS2.out.below (And.right (And.right (And.right (by with_reducible assumption)))) (Nat.le_refl _); rintro e v1 ⟨rfl, ga⟩; have hs1 := held3 (W := w2) k1 k1 k2 (by with_reducible assumption) ga; clear ga))
              have HE := hide (HB.out.trans (hs1.2.2.2.mono HB.out.size))
              clear hs1 HS0
              go_wp2
              go_ret
              exact ⟨ret_int HR.out.symm, HE.out⟩
        · have HR := hide (faultC_ok HH1.out (by omega) (fun j hj => hno j (by omega)))
          go_wp2
          go_ret
          exact ⟨ret_int HR.out.symm, hbel⟩
  · have h1' : (decide (0 ≤ s) && decide (s ≤ 6)) = false := by simpa using h1
    have HR := hide (faultC_size (ls := ls) h1')
    clear h1
    go_enter Tryz.func68, Tryz.ntmps68
    go_wp2_with fail
    refine (in_calls s 0 6 _).mono ?_
    rintro e w1 ⟨rfl, g1⟩
    rw [h1']
    have HB := hide g1
    clear g1
    go_wp2
    go_ret
    exact ⟨ret_int HR.out.symm, HB.out⟩

set_option maxRecDepth 100000 in
set_option maxHeartbeats 4000000 in
theorem l4True7_calls (P Q : Nat) (a : Option Addr) (n c : Nat) (ls : List (Int × Int × Int)) (ra : Option Addr) (rn rc : Nat) (ss : List (Int × List Int)) (ta : Option Addr) (tn tc : Nat) (ts : List Int) (da : Option Addr) (dn dc : Nat) (ds : List Int) (w : World) (hn : n ≤ maxLen) (hP : P < w.heap.size) (hQ : Q < w.heap.size)
    (hp1 : w.cell? ⟨P, 7, none⟩ = some (.slice a n c)) (hq0 : w.cell? ⟨Q, 0, none⟩ = some (.slice ra rn rc)) (hq1 : w.cell? ⟨Q, 1, none⟩ = some (.slice ta tn tc)) (hq2 : w.cell? ⟨Q, 2, none⟩ = some (.slice da dn dc))
    (hs : Sln w a n ls) (hrt : RT w ra rn ss ta tn ts da dn ds) (hf : tabF ss ts ds = 0) :
    Calls Tryz.prog 69 #[.pointer (some ⟨P, 6, none⟩), .pointer (some ⟨Q, 0, none⟩)] w fun e w' => e = .returned (.bool (allT ss ts ds ls)) ∧ Below w.heap.size w w' := by
  unfold maxLen at hn
  have hlen := hs.1
  obtain ⟨hr, hm, hA1, hA2, _⟩ := tabF_zero hf
  have hml := many_len hm
  have good := good_of hr
  have htl := hrt.2.2.2.1.1
  have hdl := hrt.2.2.2.2.2.1
  have HP1 := hide hp1
  have HQ0 := hide hq0
  have HQ1 := hide hq1
  have HQ2 := hide hq2
  have Hf := hide hf
  have hund : undef = Value.tuple #[] := rfl
  clear hf hr hm
  go_enter Tryz.func69, Tryz.ntmps69
  go_wp2
  clear hp1 hq0 hq1 hq2
  go_loopw [5] (fun i wr => ∃ k : Nat, k ≤ n ∧ i = .int .i64 k ∧ Below w.heap.size w wr ∧ ∀ j, j < k → lineT ss ts ds (g3 ls j) = true) (fun i _ => n - (intOf i).toNat)
  case atStart => exact ⟨0, Nat.zero_le _, rfl, Below.refl _ _, fun j hj => by omega⟩
  case round =>
    obtain ⟨k, hk, rfl, hbel, hall⟩ := hrel
    have p1 := (hbel.cell (p := ⟨P, 7, none⟩) hP).trans HP1.out
    by_cases hlt : k < n
    · obtain ⟨_, hs'⟩ := hs
      obtain ⟨b, off, rfl, hb, hc⟩ := hs' (by omega)
      obtain ⟨r0, r1, r2⟩ := cells3 hc hlt
      have x0 := (hbel.cell (p := ⟨b, off + k * 3, none⟩) hb).trans r0
      have x1 := (hbel.cell (p := ⟨b, off + k * 3 + 1, none⟩) hb).trans r1
      have x2 := (hbel.cell (p := ⟨b, off + k * 3 + 2, none⟩) hb).trans r2
      have y0 := (hbel.cell (p := ⟨Q, 0, none⟩) hQ).trans HQ0.out
      have y1 := (hbel.cell (p := ⟨Q, 1, none⟩) hQ).trans HQ1.out
      have y2 := (hbel.cell (p := ⟨Q, 2, none⟩) hQ).trans HQ2.out
      have hrr := hrt.below hbel (Nat.le_refl _)
      have kb : b < wr.heap.size := by have := hbel.size; omega
      have kQ : Q < wr.heap.size := by have := hbel.size; omega
      have i0 : (0 : Int) ≤ (k : Int) := by omega
      have i1 : (k : Int) < (n : Int) := by omega
      clear hc r0 r1 r2
      go_upto_region 5 with fail
      go_cut [61] (fun v wd => v = .bool (!lineT ss ts ds (g3 ls k)) ∧ Below wr.heap.size wr wd)
      case first =>
        by_cases hd : 0 ≤ (g3 ls k).1 ∧ (g3 ls k).1 < (dn : Int)
        rotate_left
        · have ed : decide (0 ≤ (g3 ls k).1 ∧ (g3 ls k).1 < (dn : Int)) = false := decide_eq_false hd
          have HL : Hid (lineT ss ts ds (g3 ls k) = false) := by
            have hno : inC ds (g3 ls k).1 = 4 := inC_no (by rw [hdl]; exact hd)
            have := (pm_nodom (t := (g3 ls k).2.1) Hf.out (show inC ds (g3 ls k).1 ≠ 0 by rw [hno]; omega)).1
            show _ = _
            simp [lineT, this]
          clear hd
          have HS0 : Hid (wr.drew.cell? ⟨b, off + k * 3, none⟩ = some (.int .i64 (g3 ls k).1) ∧ wr.drew.cell? ⟨b, off + k * 3 + 1, none⟩ = some (.int .i64 (g3 ls k).2.1) ∧ wr.drew.cell? ⟨b, off + k * 3 + 2, none⟩ = some (.int .i64 (g3 ls k).2.2) ∧ wr.drew.cell? ⟨Q, 0, none⟩ = some (.slice ra rn rc) ∧ wr.drew.cell? ⟨Q, 1, none⟩ = some (.slice ta tn tc) ∧ wr.drew.cell? ⟨Q, 2, none⟩ = some (.slice da dn dc) ∧ Below wr.heap.size wr wr.drew) := ⟨x0, x1, x2, y0, y1, y2, (Below.refl _ _).drew⟩
          clear x0 x1 x2 y0 y1 y2 p1
          refine wp_region_held_drew (S := (fun w' => w'.cell? ⟨b, off + k * 3, none⟩ = some (.int .i64 (g3 ls k).1) ∧ w'.cell? ⟨b, off + k * 3 + 1, none⟩ = some (.int .i64 (g3 ls k).2.1) ∧ w'.cell? ⟨b, off + k * 3 + 2, none⟩ = some (.int .i64 (g3 ls k).2.2) ∧ w'.cell? ⟨Q, 0, none⟩ = some (.slice ra rn rc) ∧ w'.cell? ⟨Q, 1, none⟩ = some (.slice ta tn tc) ∧ w'.cell? ⟨Q, 2, none⟩ = some (.slice da dn dc) ∧ Below wr.heap.size wr w')) (by kernel_rfl) HS0.out (fun hHeld => ?_)
          refine wpAnyH_take (i := 0) (oi := { dst := some 22, op := Go.Op.move (Go.Operand.tmp 1), type := 109, pos := "l04_cache.go:131", after := #[], guard := none }) (v := ?_) rfl (by kernel_rfl) (by kernel_rfl) (by kernel_rfl) (fun _ _ _ h => h) (Or.inl ⟨by rfl, ?_⟩) (by assumption) ?_
          rotate_left
          · (intro w hSw; (try dsimp only at hSw); go_simp; (try with_reducible rfl))
          (try simp only [Act.put, List.setIfInBounds_toArray, List.set_cons_zero, List.set_cons_succ])
          refine wpAnyH_take (i := 1) (oi := { dst := some 23, op := Go.Op.move (Go.Operand.tmp 6), type := 191, pos := "l04_cache.go:131", after := #[], guard := none }) (v := ?_) rfl (by kernel_rfl) (by kernel_rfl) (by kernel_rfl) (fun _ _ _ h => h) (Or.inl ⟨by rfl, ?_⟩) (by assumption) ?_
          rotate_left
          · (intro w hSw; (try dsimp only at hSw); go_simp; (try with_reducible rfl))
          (try simp only [Act.put, List.setIfInBounds_toArray, List.set_cons_zero, List.set_cons_succ])
          refine wpAnyH_take (i := 2) (oi := { dst := some 24, op := Go.Op.nilCheck (Go.Operand.tmp 23), type := 0, pos := "l04_cache.go:131", after := #[{ on := 1, ground := Go.Ground.data }], guard := none }) (v := ?_) rfl (by kernel_rfl) (by kernel_rfl) (by kernel_rfl) (fun _ _ _ h => h) (Or.inl ⟨by rfl, ?_⟩) (by assumption) ?_
          rotate_left
          · (intro w hSw; (try dsimp only at hSw); go_simp; (try with_reducible rfl))
          (try simp only [Act.put, List.setIfInBounds_toArray, List.set_cons_zero, List.set_cons_succ])
          refine wpAnyH_take (i := 3) (oi := { dst := some 25, op := Go.Op.fieldAddr 193 (Go.Operand.tmp 24) 0, type := 0, pos := "l04_cache.go:131", after := #[{ on := 2, ground := Go.Ground.data }], guard := none }) (v := ?_) rfl (by kernel_rfl) (by kernel_rfl) (by kernel_rfl) (fun _ _ _ h => h) (Or.inl ⟨by rfl, ?_⟩) (by assumption) ?_
          rotate_left
          · (intro w hSw; (try dsimp only at hSw); go_simp; (try with_reducible rfl))
          (try simp only [Act.put, List.setIfInBounds_toArray, List.set_cons_zero, List.set_cons_succ])
          refine wpAnyH_take (i := 4) (oi := { dst := some 26, op := Go.Op.load 2 (Go.Operand.tmp 25), type := 2, pos := "l04_cache.go:131", after := #[{ on := 3, ground := Go.Ground.data }], guard := none }) (v := ?_) rfl (by kernel_rfl) (by kernel_rfl) (by kernel_rfl) (fun _ _ _ h => h) (Or.inl ⟨by rfl, ?_⟩) (by assumption) ?_
          rotate_left
          · (intro w hSw; (try dsimp only at hSw); go_simp; (try with_reducible rfl))
          (try simp only [Act.put, List.setIfInBounds_toArray, List.set_cons_zero, List.set_cons_succ])
          refine wpAnyH_ready (rs := [5]) (by kernel_rfl) (by simp) ?_
          refine AllReadyH.cons (o := { dst := some 27, op := Go.Op.call { callee := Go.Callee.value (Go.Operand.func 66), args := #[Go.Operand.tmp 22, Go.Operand.tmp 26], argTypes := #[109, 2] }, type := 4, pos := "l04_cache.go:131", after := #[{ on := 0, ground := Go.Ground.data }, { on := 4, ground := Go.Ground.data }], guard := none }) rfl (fun K hK => ?_) AllReadyH.nil
          go_simp
          go_wp2_with (go_at_call 66; refine (l3HasDomain_calls Q da dn dc _ _ (by omega) (And.left (And.right (And.right (And.right (And.right (And.right (by with_reducible assumption)))))))).mono ?_; rintro e wa ⟨rfl, ga⟩; rw [ed]; have ha := held6 (W := wr) kb kb kb kQ kQ kQ (by with_reducible assumption) ga; clear ga)
          refine hK.out _ _ ha (fun hHeld => ?_)
          clear hK K
          (try simp only [Act.put, List.setIfInBounds_toArray, List.set_cons_zero, List.set_cons_succ])
          refine wpAnyH_take (i := 6) (oi := { dst := some 28, op := Go.Op.unOp Go.UnOp.not 4 (Go.Operand.tmp 27), type := 4, pos := "l04_cache.go:131", after := #[{ on := 5, ground := Go.Ground.data }], guard := none }) (v := ?_) rfl (by kernel_rfl) (by kernel_rfl) (by kernel_rfl) (fun _ _ _ h => h) (Or.inl ⟨by rfl, ?_⟩) (by assumption) ?_
          rotate_left
          · (intro w hSw; (try dsimp only at hSw); go_simp; (try with_reducible rfl))
          (try simp only [Act.put, List.setIfInBounds_toArray, List.set_cons_zero, List.set_cons_succ])
          refine wpAnyH_take (i := 7) (oi := { dst := some 29, op := Go.Op.move (Go.Operand.tmp 28), type := 4, pos := "l04_cache.go:131", after := #[{ on := 6, ground := Go.Ground.data }, { on := 5, ground := Go.Ground.chain }], guard := none }) (v := ?_) rfl (by kernel_rfl) (by kernel_rfl) (by kernel_rfl) (fun _ _ _ h => h) (Or.inl ⟨by rfl, ?_⟩) (by assumption) ?_
          rotate_left
          · (intro w hSw; (try dsimp only at hSw); go_simp; (try with_reducible rfl))
          (try simp only [Act.put, List.setIfInBounds_toArray, List.set_cons_zero, List.set_cons_succ])
          refine wpAnyH_take (i := 8) (oi := { dst := some 30, op := Go.Op.move (Go.Operand.tmp 6), type := 191, pos := "l04_cache.go:131", after := #[{ on := 7, ground := Go.Ground.guard }], guard := some (7, false) }) (v := undef) rfl (by kernel_rfl) (by kernel_rfl) (by kernel_rfl) (fun _ _ _ h => h) (Or.inr ⟨by rfl, rfl⟩) (by assumption) ?_
          (try simp only [Act.put, List.setIfInBounds_toArray, List.set_cons_zero, List.set_cons_succ])
          refine wpAnyH_take (i := 9) (oi := { dst := some 31, op := Go.Op.nilCheck (Go.Operand.tmp 30), type := 0, pos := "l04_cache.go:131", after := #[{ on := 8, ground := Go.Ground.data }, { on := 7, ground := Go.Ground.guard }], guard := some (7, false) }) (v := undef) rfl (by kernel_rfl) (by kernel_rfl) (by kernel_rfl) (fun _ _ _ h => h) (Or.inr ⟨by rfl, rfl⟩) (by assumption) ?_
          (try simp only [Act.put, List.setIfInBounds_toArray, List.set_cons_zero, List.set_cons_succ])
          refine wpAnyH_take (i := 10) (oi := { dst := some 32, op := Go.Op.fieldAddr 193 (Go.Operand.tmp 31) 1, type := 0, pos := "l04_cache.go:131", after := #[{ on := 9, ground := Go.Ground.data }, { on := 7, ground := Go.Ground.guard }], guard := some (7, false) }) (v := undef) rfl (by kernel_rfl) (by kernel_rfl) (by kernel_rfl) (fun _ _ _ h => h) (Or.inr ⟨by rfl, rfl⟩) (by assumption) ?_
          (try simp only [Act.put, List.setIfInBounds_toArray, List.set_cons_zero, List.set_cons_succ])
          refine wpAnyH_take (i := 11) (oi := { dst := some 33, op := Go.Op.load 2 (Go.Operand.tmp 32), type := 2, pos := "l04_cache.go:131", after := #[{ on := 10, ground := Go.Ground.data }, { on := 7, ground := Go.Ground.guard }], guard := some (7, false) }) (v := undef) rfl (by kernel_rfl) (by kernel_rfl) (by kernel_rfl) (fun _ _ _ h => h) (Or.inr ⟨by rfl, rfl⟩) (by assumption) ?_
          (try simp only [Act.put, List.setIfInBounds_toArray, List.set_cons_zero, List.set_cons_succ])
          refine wpAnyH_take (i := 12) (oi := { dst := some 34, op := Go.Op.binOp Go.BinOp.neq 2 (Go.Operand.tmp 33) (Go.Operand.const (Go.Value.int Go.IntKind.i64 0)) 2, type := 4, pos := "l04_cache.go:131", after := #[{ on := 11, ground := Go.Ground.data }, { on := 7, ground := Go.Ground.guard }], guard := some (7, false) }) (v := undef) rfl (by kernel_rfl) (by kernel_rfl) (by kernel_rfl) (fun _ _ _ h => h) (Or.inr ⟨by rfl, rfl⟩) (by assumption) ?_
          (try simp only [Act.put, List.setIfInBounds_toArray, List.set_cons_zero, List.set_cons_succ])
          refine wpAnyH_take (i := 13) (oi := { dst := some 35, op := Go.Op.move (Go.Operand.tmp 34), type := 4, pos := "l04_cache.go:131", after := #[{ on := 12, ground := Go.Ground.data }, { on := 7, ground := Go.Ground.chain }, { on := 7, ground := Go.Ground.guard }], guard := some (7, false) }) (v := undef) rfl (by kernel_rfl) (by kernel_rfl) (by kernel_rfl) (fun _ _ _ h => h) (Or.inr ⟨by rfl, rfl⟩) (by assumption) ?_
          (try simp only [Act.put, List.setIfInBounds_toArray, List.set_cons_zero, List.set_cons_succ])
          refine wpAnyH_take (i := 14) (oi := { dst := some 36, op := Go.Op.move (Go.Operand.tmp 1), type := 109, pos := "l04_cache.go:131", after := #[{ on := 13, ground := Go.Ground.guard }], guard := some (13, true) }) (v := undef) rfl (by kernel_rfl) (by kernel_rfl) (by kernel_rfl) (fun _ _ _ h => h) (Or.inr ⟨by rfl, rfl⟩) (by assumption) ?_
          (try simp only [Act.put, List.setIfInBounds_toArray, List.set_cons_zero, List.set_cons_succ])
          refine wpAnyH_take (i := 15) (oi := { dst := some 37, op := Go.Op.move (Go.Operand.tmp 6), type := 191, pos := "l04_cache.go:131", after := #[{ on := 13, ground := Go.Ground.guard }], guard := some (13, true) }) (v := undef) rfl (by kernel_rfl) (by kernel_rfl) (by kernel_rfl) (fun _ _ _ h => h) (Or.inr ⟨by rfl, rfl⟩) (by assumption) ?_
          (try simp only [Act.put, List.setIfInBounds_toArray, List.set_cons_zero, List.set_cons_succ])
          refine wpAnyH_take (i := 16) (oi := { dst := some 38, op := Go.Op.nilCheck (Go.Operand.tmp 37), type := 0, pos := "l04_cache.go:131", after := #[{ on := 15, ground := Go.Ground.data }, { on := 13, ground := Go.Ground.guard }], guard := some (13, true) }) (v := undef) rfl (by kernel_rfl) (by kernel_rfl) (by kernel_rfl) (fun _ _ _ h => h) (Or.inr ⟨by rfl, rfl⟩) (by assumption) ?_
          (try simp only [Act.put, List.setIfInBounds_toArray, List.set_cons_zero, List.set_cons_succ])
          refine wpAnyH_take (i := 17) (oi := { dst := some 39, op := Go.Op.fieldAddr 193 (Go.Operand.tmp 38) 1, type := 0, pos := "l04_cache.go:131", after := #[{ on := 16, ground := Go.Ground.data }, { on := 13, ground := Go.Ground.guard }], guard := some (13, true) }) (v := undef) rfl (by kernel_rfl) (by kernel_rfl) (by kernel_rfl) (fun _ _ _ h => h) (Or.inr ⟨by rfl, rfl⟩) (by assumption) ?_
          (try simp only [Act.put, List.setIfInBounds_toArray, List.set_cons_zero, List.set_cons_succ])
          refine wpAnyH_take (i := 18) (oi := { dst := some 40, op := Go.Op.load 2 (Go.Operand.tmp 39), type := 2, pos := "l04_cache.go:131", after := #[{ on := 17, ground := Go.Ground.data }, { on := 13, ground := Go.Ground.guard }], guard := some (13, true) }) (v := undef) rfl (by kernel_rfl) (by kernel_rfl) (by kernel_rfl) (fun _ _ _ h => h) (Or.inr ⟨by rfl, rfl⟩) (by assumption) ?_
          (try simp only [Act.put, List.setIfInBounds_toArray, List.set_cons_zero, List.set_cons_succ])
          refine wpAnyH_take (i := 19) (oi := { dst := some 41, op := Go.Op.call { callee := Go.Callee.value (Go.Operand.func 67), args := #[Go.Operand.tmp 36, Go.Operand.tmp 40], argTypes := #[109, 2] }, type := 4, pos := "l04_cache.go:131", after := #[{ on := 14, ground := Go.Ground.data }, { on := 18, ground := Go.Ground.data }, { on := 13, ground := Go.Ground.chain }, { on := 13, ground := Go.Ground.guard }], guard := some (13, true) }) (v := undef) rfl (by kernel_rfl) (by kernel_rfl) (by kernel_rfl) (fun _ _ _ h => h) (Or.inr ⟨by rfl, rfl⟩) (by assumption) ?_
          (try simp only [Act.put, List.setIfInBounds_toArray, List.set_cons_zero, List.set_cons_succ])
          refine wpAnyH_take (i := 20) (oi := { dst := some 42, op := Go.Op.unOp Go.UnOp.not 4 (Go.Operand.tmp 41), type := 4, pos := "l04_cache.go:131", after := #[{ on := 19, ground := Go.Ground.data }, { on := 13, ground := Go.Ground.guard }], guard := some (13, true) }) (v := undef) rfl (by kernel_rfl) (by kernel_rfl) (by kernel_rfl) (fun _ _ _ h => h) (Or.inr ⟨by rfl, rfl⟩) (by assumption) ?_
          (try simp only [Act.put, List.setIfInBounds_toArray, List.set_cons_zero, List.set_cons_succ])
          refine wpAnyH_take (i := 21) (oi := { dst := some 43, op := Go.Op.pick (Go.Operand.tmp 35) (Go.Operand.tmp 42) (Go.Operand.const (Go.Value.bool false)), type := 4, pos := "l04_cache.go:131", after := #[{ on := 13, ground := Go.Ground.data }, { on := 20, ground := Go.Ground.data }, { on := 7, ground := Go.Ground.guard }], guard := some (7, false) }) (v := undef) rfl (by kernel_rfl) (by kernel_rfl) (by kernel_rfl) (fun _ _ _ h => h) (Or.inr ⟨by rfl, rfl⟩) (by assumption) ?_
          (try simp only [Act.put, List.setIfInBounds_toArray, List.set_cons_zero, List.set_cons_succ])
          refine wpAnyH_take (i := 22) (oi := { dst := some 44, op := Go.Op.pick (Go.Operand.tmp 29) (Go.Operand.const (Go.Value.bool true)) (Go.Operand.tmp 43), type := 4, pos := "l04_cache.go:131", after := #[{ on := 7, ground := Go.Ground.data }, { on := 21, ground := Go.Ground.data }], guard := none }) (v := ?_) rfl (by kernel_rfl) (by kernel_rfl) (by kernel_rfl) (fun _ _ _ h => h) (Or.inl ⟨by rfl, ?_⟩) (by assumption) ?_
          rotate_left
          · (intro w hSw; (try dsimp only at hSw); go_simp; (try with_reducible rfl))
          (try simp only [Act.put, List.setIfInBounds_toArray, List.set_cons_zero, List.set_cons_succ])
          refine wpAnyH_take (i := 23) (oi := { dst := some 45, op := Go.Op.move (Go.Operand.tmp 44), type := 4, pos := "l04_cache.go:131", after := #[{ on := 22, ground := Go.Ground.data }, { on := 19, ground := Go.Ground.chain }], guard := none }) (v := ?_) rfl (by kernel_rfl) (by kernel_rfl) (by kernel_rfl) (fun _ _ _ h => h) (Or.inl ⟨by rfl, ?_⟩) (by assumption) ?_
          rotate_left
          · (intro w hSw; (try dsimp only at hSw); go_simp; (try with_reducible rfl))
          (try simp only [Act.put, List.setIfInBounds_toArray, List.set_cons_zero, List.set_cons_succ])
          refine wpAnyH_take (i := 24) (oi := { dst := some 46, op := Go.Op.move (Go.Operand.tmp 1), type := 109, pos := "l04_cache.go:131", after := #[{ on := 23, ground := Go.Ground.guard }], guard := some (23, false) }) (v := undef) rfl (by kernel_rfl) (by kernel_rfl) (by kernel_rfl) (fun _ _ _ h => h) (Or.inr ⟨by rfl, rfl⟩) (by assumption) ?_
          (try simp only [Act.put, List.setIfInBounds_toArray, List.set_cons_zero, List.set_cons_succ])
          refine wpAnyH_take (i := 25) (oi := { dst := some 47, op := Go.Op.move (Go.Operand.tmp 6), type := 191, pos := "l04_cache.go:131", after := #[{ on := 23, ground := Go.Ground.guard }], guard := some (23, false) }) (v := undef) rfl (by kernel_rfl) (by kernel_rfl) (by kernel_rfl) (fun _ _ _ h => h) (Or.inr ⟨by rfl, rfl⟩) (by assumption) ?_
          (try simp only [Act.put, List.setIfInBounds_toArray, List.set_cons_zero, List.set_cons_succ])
          refine wpAnyH_take (i := 26) (oi := { dst := some 48, op := Go.Op.nilCheck (Go.Operand.tmp 47), type := 0, pos := "l04_cache.go:131", after := #[{ on := 25, ground := Go.Ground.data }, { on := 23, ground := Go.Ground.guard }], guard := some (23, false) }) (v := undef) rfl (by kernel_rfl) (by kernel_rfl) (by kernel_rfl) (fun _ _ _ h => h) (Or.inr ⟨by rfl, rfl⟩) (by assumption) ?_
          (try simp only [Act.put, List.setIfInBounds_toArray, List.set_cons_zero, List.set_cons_succ])
          refine wpAnyH_take (i := 27) (oi := { dst := some 49, op := Go.Op.fieldAddr 193 (Go.Operand.tmp 48) 0, type := 0, pos := "l04_cache.go:131", after := #[{ on := 26, ground := Go.Ground.data }, { on := 23, ground := Go.Ground.guard }], guard := some (23, false) }) (v := undef) rfl (by kernel_rfl) (by kernel_rfl) (by kernel_rfl) (fun _ _ _ h => h) (Or.inr ⟨by rfl, rfl⟩) (by assumption) ?_
          (try simp only [Act.put, List.setIfInBounds_toArray, List.set_cons_zero, List.set_cons_succ])
          refine wpAnyH_take (i := 28) (oi := { dst := some 50, op := Go.Op.load 2 (Go.Operand.tmp 49), type := 2, pos := "l04_cache.go:131", after := #[{ on := 27, ground := Go.Ground.data }, { on := 23, ground := Go.Ground.guard }], guard := some (23, false) }) (v := undef) rfl (by kernel_rfl) (by kernel_rfl) (by kernel_rfl) (fun _ _ _ h => h) (Or.inr ⟨by rfl, rfl⟩) (by assumption) ?_
          (try simp only [Act.put, List.setIfInBounds_toArray, List.set_cons_zero, List.set_cons_succ])
          refine wpAnyH_take (i := 29) (oi := { dst := some 51, op := Go.Op.move (Go.Operand.tmp 6), type := 191, pos := "l04_cache.go:131", after := #[{ on := 23, ground := Go.Ground.guard }], guard := some (23, false) }) (v := undef) rfl (by kernel_rfl) (by kernel_rfl) (by kernel_rfl) (fun _ _ _ h => h) (Or.inr ⟨by rfl, rfl⟩) (by assumption) ?_
          (try simp only [Act.put, List.setIfInBounds_toArray, List.set_cons_zero, List.set_cons_succ])
          refine wpAnyH_take (i := 30) (oi := { dst := some 52, op := Go.Op.nilCheck (Go.Operand.tmp 51), type := 0, pos := "l04_cache.go:131", after := #[{ on := 29, ground := Go.Ground.data }, { on := 23, ground := Go.Ground.guard }], guard := some (23, false) }) (v := undef) rfl (by kernel_rfl) (by kernel_rfl) (by kernel_rfl) (fun _ _ _ h => h) (Or.inr ⟨by rfl, rfl⟩) (by assumption) ?_
          (try simp only [Act.put, List.setIfInBounds_toArray, List.set_cons_zero, List.set_cons_succ])
          refine wpAnyH_take (i := 31) (oi := { dst := some 53, op := Go.Op.fieldAddr 193 (Go.Operand.tmp 52) 1, type := 0, pos := "l04_cache.go:131", after := #[{ on := 30, ground := Go.Ground.data }, { on := 23, ground := Go.Ground.guard }], guard := some (23, false) }) (v := undef) rfl (by kernel_rfl) (by kernel_rfl) (by kernel_rfl) (fun _ _ _ h => h) (Or.inr ⟨by rfl, rfl⟩) (by assumption) ?_
          (try simp only [Act.put, List.setIfInBounds_toArray, List.set_cons_zero, List.set_cons_succ])
          refine wpAnyH_take (i := 32) (oi := { dst := some 54, op := Go.Op.load 2 (Go.Operand.tmp 53), type := 2, pos := "l04_cache.go:131", after := #[{ on := 31, ground := Go.Ground.data }, { on := 23, ground := Go.Ground.guard }], guard := some (23, false) }) (v := undef) rfl (by kernel_rfl) (by kernel_rfl) (by kernel_rfl) (fun _ _ _ h => h) (Or.inr ⟨by rfl, rfl⟩) (by assumption) ?_
          (try simp only [Act.put, List.setIfInBounds_toArray, List.set_cons_zero, List.set_cons_succ])
          refine wpAnyH_take (i := 33) (oi := { dst := some 55, op := Go.Op.call { callee := Go.Callee.value (Go.Operand.func 121), args := #[Go.Operand.tmp 46, Go.Operand.tmp 50, Go.Operand.tmp 54], argTypes := #[109, 2, 2] }, type := 2, pos := "l04_cache.go:131", after := #[{ on := 24, ground := Go.Ground.data }, { on := 28, ground := Go.Ground.data }, { on := 32, ground := Go.Ground.data }, { on := 23, ground := Go.Ground.chain }, { on := 23, ground := Go.Ground.guard }], guard := some (23, false) }) (v := undef) rfl (by kernel_rfl) (by kernel_rfl) (by kernel_rfl) (fun _ _ _ h => h) (Or.inr ⟨by rfl, rfl⟩) (by assumption) ?_
          (try simp only [Act.put, List.setIfInBounds_toArray, List.set_cons_zero, List.set_cons_succ])
          refine wpAnyH_take (i := 34) (oi := { dst := some 56, op := Go.Op.move (Go.Operand.tmp 6), type := 191, pos := "l04_cache.go:131", after := #[{ on := 23, ground := Go.Ground.guard }], guard := some (23, false) }) (v := undef) rfl (by kernel_rfl) (by kernel_rfl) (by kernel_rfl) (fun _ _ _ h => h) (Or.inr ⟨by rfl, rfl⟩) (by assumption) ?_
          (try simp only [Act.put, List.setIfInBounds_toArray, List.set_cons_zero, List.set_cons_succ])
          refine wpAnyH_take (i := 35) (oi := { dst := some 57, op := Go.Op.nilCheck (Go.Operand.tmp 56), type := 0, pos := "l04_cache.go:131", after := #[{ on := 34, ground := Go.Ground.data }, { on := 23, ground := Go.Ground.guard }], guard := some (23, false) }) (v := undef) rfl (by kernel_rfl) (by kernel_rfl) (by kernel_rfl) (fun _ _ _ h => h) (Or.inr ⟨by rfl, rfl⟩) (by assumption) ?_
          (try simp only [Act.put, List.setIfInBounds_toArray, List.set_cons_zero, List.set_cons_succ])
          refine wpAnyH_take (i := 36) (oi := { dst := some 58, op := Go.Op.fieldAddr 193 (Go.Operand.tmp 57) 2, type := 0, pos := "l04_cache.go:131", after := #[{ on := 35, ground := Go.Ground.data }, { on := 23, ground := Go.Ground.guard }], guard := some (23, false) }) (v := undef) rfl (by kernel_rfl) (by kernel_rfl) (by kernel_rfl) (fun _ _ _ h => h) (Or.inr ⟨by rfl, rfl⟩) (by assumption) ?_
          (try simp only [Act.put, List.setIfInBounds_toArray, List.set_cons_zero, List.set_cons_succ])
          refine wpAnyH_take (i := 37) (oi := { dst := some 59, op := Go.Op.load 2 (Go.Operand.tmp 58), type := 2, pos := "l04_cache.go:131", after := #[{ on := 36, ground := Go.Ground.data }, { on := 23, ground := Go.Ground.guard }], guard := some (23, false) }) (v := undef) rfl (by kernel_rfl) (by kernel_rfl) (by kernel_rfl) (fun _ _ _ h => h) (Or.inr ⟨by rfl, rfl⟩) (by assumption) ?_
          (try simp only [Act.put, List.setIfInBounds_toArray, List.set_cons_zero, List.set_cons_succ])
          refine wpAnyH_take (i := 38) (oi := { dst := some 60, op := Go.Op.binOp Go.BinOp.neq 2 (Go.Operand.tmp 55) (Go.Operand.tmp 59) 2, type := 4, pos := "l04_cache.go:131", after := #[{ on := 33, ground := Go.Ground.data }, { on := 37, ground := Go.Ground.data }, { on := 23, ground := Go.Ground.guard }], guard := some (23, false) }) (v := undef) rfl (by kernel_rfl) (by kernel_rfl) (by kernel_rfl) (fun _ _ _ h => h) (Or.inr ⟨by rfl, rfl⟩) (by assumption) ?_
          (try simp only [Act.put, List.setIfInBounds_toArray, List.set_cons_zero, List.set_cons_succ])
          refine wpAnyH_take (i := 39) (oi := { dst := some 61, op := Go.Op.pick (Go.Operand.tmp 45) (Go.Operand.const (Go.Value.bool true)) (Go.Operand.tmp 60), type := 4, pos := "l04_cache.go:131", after := #[{ on := 23, ground := Go.Ground.data }, { on := 38, ground := Go.Ground.data }], guard := none }) (v := ?_) rfl (by kernel_rfl) (by kernel_rfl) (by kernel_rfl) (fun _ _ _ h => h) (Or.inl ⟨by rfl, ?_⟩) (by assumption) ?_
          rotate_left
          · (intro w hSw; (try dsimp only at hSw); go_simp; (try with_reducible rfl))
          (try simp only [Act.put, List.setIfInBounds_toArray, List.set_cons_zero, List.set_cons_succ])
          refine wpAnyH_done (by kernel_rfl) ?_ _
          go_wp2_with fail
          go_meet
          exact ⟨by rw [HL.out]; rfl, ha.2.2.2.2.2.2⟩
        · obtain ⟨i, hi⟩ : ∃ i : Nat, (g3 ls k).1 = (i : Int) := ⟨(g3 ls k).1.toNat, by omega⟩
          have hid : i < dn := by omega
          have ed : decide (0 ≤ (i : Int) ∧ (i : Int) < (dn : Int)) = true := decide_eq_true (by omega)
          have HI := hide (inC_yes (l := ds) (j := i) (by omega))
          have HIL := hide (inL_yes (ss := ss) (l := ds) (j := i) (by omega))
          by_cases h0 : (g3 ls k).2.1 = 0
          · have HL : Hid (lineT ss ts ds (g3 ls k) = ((0 : Int) == (g3 ls k).2.2)) := by
              have hp := pm_own (ss := ss) (ts := ts) (d := (g3 ls k).1) Hf.out (by rw [hi]; exact HI.out)
              show _ = _
              rw [Bool.eq_iff_iff]
              simp [lineT, h0, hp.1, hp.2]
            rw [hi] at x0
            rw [h0] at x1
            have e0 : ((0 : Int) != 0) = false := by simp
            clear hd h0 hi
            have HS0 : Hid (wr.drew.cell? ⟨b, off + k * 3, none⟩ = some (.int .i64 (i : Int)) ∧ wr.drew.cell? ⟨b, off + k * 3 + 1, none⟩ = some (.int .i64 0) ∧ wr.drew.cell? ⟨b, off + k * 3 + 2, none⟩ = some (.int .i64 (g3 ls k).2.2) ∧ wr.drew.cell? ⟨Q, 0, none⟩ = some (.slice ra rn rc) ∧ wr.drew.cell? ⟨Q, 1, none⟩ = some (.slice ta tn tc) ∧ wr.drew.cell? ⟨Q, 2, none⟩ = some (.slice da dn dc) ∧ Below wr.heap.size wr wr.drew) := ⟨x0, x1, x2, y0, y1, y2, (Below.refl _ _).drew⟩
            clear x0 x1 x2 y0 y1 y2 p1
            refine wp_region_held_drew (S := (fun w' => w'.cell? ⟨b, off + k * 3, none⟩ = some (.int .i64 (i : Int)) ∧ w'.cell? ⟨b, off + k * 3 + 1, none⟩ = some (.int .i64 0) ∧ w'.cell? ⟨b, off + k * 3 + 2, none⟩ = some (.int .i64 (g3 ls k).2.2) ∧ w'.cell? ⟨Q, 0, none⟩ = some (.slice ra rn rc) ∧ w'.cell? ⟨Q, 1, none⟩ = some (.slice ta tn tc) ∧ w'.cell? ⟨Q, 2, none⟩ = some (.slice da dn dc) ∧ Below wr.heap.size wr w')) (by kernel_rfl) HS0.out (fun hHeld => ?_)
            refine wpAnyH_take (i := 0) (oi := { dst := some 22, op := Go.Op.move (Go.Operand.tmp 1), type := 109, pos := "l04_cache.go:131", after := #[], guard := none }) (v := ?_) rfl (by kernel_rfl) (by kernel_rfl) (by kernel_rfl) (fun _ _ _ h => h) (Or.inl ⟨by rfl, ?_⟩) (by assumption) ?_
            rotate_left
            · (intro w hSw; (try dsimp only at hSw); go_simp; (try with_reducible rfl))
            (try simp only [Act.put, List.setIfInBounds_toArray, List.set_cons_zero, List.set_cons_succ])
            refine wpAnyH_take (i := 1) (oi := { dst := some 23, op := Go.Op.move (Go.Operand.tmp 6), type := 191, pos := "l04_cache.go:131", after := #[], guard := none }) (v := ?_) rfl (by kernel_rfl) (by kernel_rfl) (by kernel_rfl) (fun _ _ _ h => h) (Or.inl ⟨by rfl, ?_⟩) (by assumption) ?_
            rotate_left
            · (intro w hSw; (try dsimp only at hSw); go_simp; (try with_reducible rfl))
            (try simp only [Act.put, List.setIfInBounds_toArray, List.set_cons_zero, List.set_cons_succ])
            refine wpAnyH_take (i := 2) (oi := { dst := some 24, op := Go.Op.nilCheck (Go.Operand.tmp 23), type := 0, pos := "l04_cache.go:131", after := #[{ on := 1, ground := Go.Ground.data }], guard := none }) (v := ?_) rfl (by kernel_rfl) (by kernel_rfl) (by kernel_rfl) (fun _ _ _ h => h) (Or.inl ⟨by rfl, ?_⟩) (by assumption) ?_
            rotate_left
            · (intro w hSw; (try dsimp only at hSw); go_simp; (try with_reducible rfl))
            (try simp only [Act.put, List.setIfInBounds_toArray, List.set_cons_zero, List.set_cons_succ])
            refine wpAnyH_take (i := 3) (oi := { dst := some 25, op := Go.Op.fieldAddr 193 (Go.Operand.tmp 24) 0, type := 0, pos := "l04_cache.go:131", after := #[{ on := 2, ground := Go.Ground.data }], guard := none }) (v := ?_) rfl (by kernel_rfl) (by kernel_rfl) (by kernel_rfl) (fun _ _ _ h => h) (Or.inl ⟨by rfl, ?_⟩) (by assumption) ?_
            rotate_left
            · (intro w hSw; (try dsimp only at hSw); go_simp; (try with_reducible rfl))
            (try simp only [Act.put, List.setIfInBounds_toArray, List.set_cons_zero, List.set_cons_succ])
            refine wpAnyH_take (i := 4) (oi := { dst := some 26, op := Go.Op.load 2 (Go.Operand.tmp 25), type := 2, pos := "l04_cache.go:131", after := #[{ on := 3, ground := Go.Ground.data }], guard := none }) (v := ?_) rfl (by kernel_rfl) (by kernel_rfl) (by kernel_rfl) (fun _ _ _ h => h) (Or.inl ⟨by rfl, ?_⟩) (by assumption) ?_
            rotate_left
            · (intro w hSw; (try dsimp only at hSw); go_simp; (try with_reducible rfl))
            (try simp only [Act.put, List.setIfInBounds_toArray, List.set_cons_zero, List.set_cons_succ])
            refine wpAnyH_ready (rs := [5]) (by kernel_rfl) (by simp) ?_
            refine AllReadyH.cons (o := { dst := some 27, op := Go.Op.call { callee := Go.Callee.value (Go.Operand.func 66), args := #[Go.Operand.tmp 22, Go.Operand.tmp 26], argTypes := #[109, 2] }, type := 4, pos := "l04_cache.go:131", after := #[{ on := 0, ground := Go.Ground.data }, { on := 4, ground := Go.Ground.data }], guard := none }) rfl (fun K hK => ?_) AllReadyH.nil
            go_simp
            go_wp2_with (go_at_call 66; refine (l3HasDomain_calls Q da dn dc _ _ (by omega) (And.left (And.right (And.right (And.right (And.right (And.right (by with_reducible assumption)))))))).mono ?_; rintro e wa ⟨rfl, ga⟩; rw [ed]; have ha := held6 (W := wr) kb kb kb kQ kQ kQ (by with_reducible assumption) ga; clear ga)
            refine hK.out _ _ ha (fun hHeld => ?_)
            clear hK K
            (try simp only [Act.put, List.setIfInBounds_toArray, List.set_cons_zero, List.set_cons_succ])
            refine wpAnyH_take (i := 6) (oi := { dst := some 28, op := Go.Op.unOp Go.UnOp.not 4 (Go.Operand.tmp 27), type := 4, pos := "l04_cache.go:131", after := #[{ on := 5, ground := Go.Ground.data }], guard := none }) (v := ?_) rfl (by kernel_rfl) (by kernel_rfl) (by kernel_rfl) (fun _ _ _ h => h) (Or.inl ⟨by rfl, ?_⟩) (by assumption) ?_
            rotate_left
            · (intro w hSw; (try dsimp only at hSw); go_simp; (try with_reducible rfl))
            (try simp only [Act.put, List.setIfInBounds_toArray, List.set_cons_zero, List.set_cons_succ])
            refine wpAnyH_take (i := 7) (oi := { dst := some 29, op := Go.Op.move (Go.Operand.tmp 28), type := 4, pos := "l04_cache.go:131", after := #[{ on := 6, ground := Go.Ground.data }, { on := 5, ground := Go.Ground.chain }], guard := none }) (v := ?_) rfl (by kernel_rfl) (by kernel_rfl) (by kernel_rfl) (fun _ _ _ h => h) (Or.inl ⟨by rfl, ?_⟩) (by assumption) ?_
            rotate_left
            · (intro w hSw; (try dsimp only at hSw); go_simp; (try with_reducible rfl))
            (try simp only [Act.put, List.setIfInBounds_toArray, List.set_cons_zero, List.set_cons_succ])
            refine wpAnyH_take (i := 8) (oi := { dst := some 30, op := Go.Op.move (Go.Operand.tmp 6), type := 191, pos := "l04_cache.go:131", after := #[{ on := 7, ground := Go.Ground.guard }], guard := some (7, false) }) (v := ?_) rfl (by kernel_rfl) (by kernel_rfl) (by kernel_rfl) (fun _ _ _ h => h) (Or.inl ⟨by rfl, ?_⟩) (by assumption) ?_
            rotate_left
            · (intro w hSw; (try dsimp only at hSw); go_simp; (try with_reducible rfl))
            (try simp only [Act.put, List.setIfInBounds_toArray, List.set_cons_zero, List.set_cons_succ])
            refine wpAnyH_take (i := 9) (oi := { dst := some 31, op := Go.Op.nilCheck (Go.Operand.tmp 30), type := 0, pos := "l04_cache.go:131", after := #[{ on := 8, ground := Go.Ground.data }, { on := 7, ground := Go.Ground.guard }], guard := some (7, false) }) (v := ?_) rfl (by kernel_rfl) (by kernel_rfl) (by kernel_rfl) (fun _ _ _ h => h) (Or.inl ⟨by rfl, ?_⟩) (by assumption) ?_
            rotate_left
            · (intro w hSw; (try dsimp only at hSw); go_simp; (try with_reducible rfl))
            (try simp only [Act.put, List.setIfInBounds_toArray, List.set_cons_zero, List.set_cons_succ])
            refine wpAnyH_take (i := 10) (oi := { dst := some 32, op := Go.Op.fieldAddr 193 (Go.Operand.tmp 31) 1, type := 0, pos := "l04_cache.go:131", after := #[{ on := 9, ground := Go.Ground.data }, { on := 7, ground := Go.Ground.guard }], guard := some (7, false) }) (v := ?_) rfl (by kernel_rfl) (by kernel_rfl) (by kernel_rfl) (fun _ _ _ h => h) (Or.inl ⟨by rfl, ?_⟩) (by assumption) ?_
            rotate_left
            · (intro w hSw; (try dsimp only at hSw); go_simp; (try with_reducible rfl))
            (try simp only [Act.put, List.setIfInBounds_toArray, List.set_cons_zero, List.set_cons_succ])
            refine wpAnyH_take (i := 11) (oi := { dst := some 33, op := Go.Op.load 2 (Go.Operand.tmp 32), type := 2, pos := "l04_cache.go:131", after := #[{ on := 10, ground := Go.Ground.data }, { on := 7, ground := Go.Ground.guard }], guard := some (7, false) }) (v := ?_) rfl (by kernel_rfl) (by kernel_rfl) (by kernel_rfl) (fun _ _ _ h => h) (Or.inl ⟨by rfl, ?_⟩) (by assumption) ?_
            rotate_left
            · (intro w hSw; (try dsimp only at hSw); go_simp; (try with_reducible rfl))
            (try simp only [Act.put, List.setIfInBounds_toArray, List.set_cons_zero, List.set_cons_succ])
            refine wpAnyH_take (i := 12) (oi := { dst := some 34, op := Go.Op.binOp Go.BinOp.neq 2 (Go.Operand.tmp 33) (Go.Operand.const (Go.Value.int Go.IntKind.i64 0)) 2, type := 4, pos := "l04_cache.go:131", after := #[{ on := 11, ground := Go.Ground.data }, { on := 7, ground := Go.Ground.guard }], guard := some (7, false) }) (v := ?_) rfl (by kernel_rfl) (by kernel_rfl) (by kernel_rfl) (fun _ _ _ h => h) (Or.inl ⟨by rfl, ?_⟩) (by assumption) ?_
            rotate_left
            · (intro w hSw; (try dsimp only at hSw); go_simp; (try with_reducible rfl))
            (try simp only [Act.put, List.setIfInBounds_toArray, List.set_cons_zero, List.set_cons_succ])
            refine wpAnyH_take (i := 13) (oi := { dst := some 35, op := Go.Op.move (Go.Operand.tmp 34), type := 4, pos := "l04_cache.go:131", after := #[{ on := 12, ground := Go.Ground.data }, { on := 7, ground := Go.Ground.chain }, { on := 7, ground := Go.Ground.guard }], guard := some (7, false) }) (v := ?_) rfl (by kernel_rfl) (by kernel_rfl) (by kernel_rfl) (fun _ _ _ h => h) (Or.inl ⟨by rfl, ?_⟩) (by assumption) ?_
            rotate_left
            · (intro w hSw; (try dsimp only at hSw); go_simp; (try with_reducible rfl))
            (try simp only [Act.put, List.setIfInBounds_toArray, List.set_cons_zero, List.set_cons_succ])
            refine wpAnyH_take (i := 14) (oi := { dst := some 36, op := Go.Op.move (Go.Operand.tmp 1), type := 109, pos := "l04_cache.go:131", after := #[{ on := 13, ground := Go.Ground.guard }], guard := some (13, true) }) (v := undef) rfl (by kernel_rfl) (by kernel_rfl) (by kernel_rfl) (fun _ _ _ h => h) (Or.inr ⟨by rfl, rfl⟩) (by assumption) ?_
            (try simp only [Act.put, List.setIfInBounds_toArray, List.set_cons_zero, List.set_cons_succ])
            refine wpAnyH_take (i := 15) (oi := { dst := some 37, op := Go.Op.move (Go.Operand.tmp 6), type := 191, pos := "l04_cache.go:131", after := #[{ on := 13, ground := Go.Ground.guard }], guard := some (13, true) }) (v := undef) rfl (by kernel_rfl) (by kernel_rfl) (by kernel_rfl) (fun _ _ _ h => h) (Or.inr ⟨by rfl, rfl⟩) (by assumption) ?_
            (try simp only [Act.put, List.setIfInBounds_toArray, List.set_cons_zero, List.set_cons_succ])
            refine wpAnyH_take (i := 16) (oi := { dst := some 38, op := Go.Op.nilCheck (Go.Operand.tmp 37), type := 0, pos := "l04_cache.go:131", after := #[{ on := 15, ground := Go.Ground.data }, { on := 13, ground := Go.Ground.guard }], guard := some (13, true) }) (v := undef) rfl (by kernel_rfl) (by kernel_rfl) (by kernel_rfl) (fun _ _ _ h => h) (Or.inr ⟨by rfl, rfl⟩) (by assumption) ?_
            (try simp only [Act.put, List.setIfInBounds_toArray, List.set_cons_zero, List.set_cons_succ])
            refine wpAnyH_take (i := 17) (oi := { dst := some 39, op := Go.Op.fieldAddr 193 (Go.Operand.tmp 38) 1, type := 0, pos := "l04_cache.go:131", after := #[{ on := 16, ground := Go.Ground.data }, { on := 13, ground := Go.Ground.guard }], guard := some (13, true) }) (v := undef) rfl (by kernel_rfl) (by kernel_rfl) (by kernel_rfl) (fun _ _ _ h => h) (Or.inr ⟨by rfl, rfl⟩) (by assumption) ?_
            (try simp only [Act.put, List.setIfInBounds_toArray, List.set_cons_zero, List.set_cons_succ])
            refine wpAnyH_take (i := 18) (oi := { dst := some 40, op := Go.Op.load 2 (Go.Operand.tmp 39), type := 2, pos := "l04_cache.go:131", after := #[{ on := 17, ground := Go.Ground.data }, { on := 13, ground := Go.Ground.guard }], guard := some (13, true) }) (v := undef) rfl (by kernel_rfl) (by kernel_rfl) (by kernel_rfl) (fun _ _ _ h => h) (Or.inr ⟨by rfl, rfl⟩) (by assumption) ?_
            (try simp only [Act.put, List.setIfInBounds_toArray, List.set_cons_zero, List.set_cons_succ])
            refine wpAnyH_take (i := 19) (oi := { dst := some 41, op := Go.Op.call { callee := Go.Callee.value (Go.Operand.func 67), args := #[Go.Operand.tmp 36, Go.Operand.tmp 40], argTypes := #[109, 2] }, type := 4, pos := "l04_cache.go:131", after := #[{ on := 14, ground := Go.Ground.data }, { on := 18, ground := Go.Ground.data }, { on := 13, ground := Go.Ground.chain }, { on := 13, ground := Go.Ground.guard }], guard := some (13, true) }) (v := undef) rfl (by kernel_rfl) (by kernel_rfl) (by kernel_rfl) (fun _ _ _ h => h) (Or.inr ⟨by rfl, rfl⟩) (by assumption) ?_
            (try simp only [Act.put, List.setIfInBounds_toArray, List.set_cons_zero, List.set_cons_succ])
            refine wpAnyH_take (i := 20) (oi := { dst := some 42, op := Go.Op.unOp Go.UnOp.not 4 (Go.Operand.tmp 41), type := 4, pos := "l04_cache.go:131", after := #[{ on := 19, ground := Go.Ground.data }, { on := 13, ground := Go.Ground.guard }], guard := some (13, true) }) (v := undef) rfl (by kernel_rfl) (by kernel_rfl) (by kernel_rfl) (fun _ _ _ h => h) (Or.inr ⟨by rfl, rfl⟩) (by assumption) ?_
            (try simp only [Act.put, List.setIfInBounds_toArray, List.set_cons_zero, List.set_cons_succ])
            refine wpAnyH_take (i := 21) (oi := { dst := some 43, op := Go.Op.pick (Go.Operand.tmp 35) (Go.Operand.tmp 42) (Go.Operand.const (Go.Value.bool false)), type := 4, pos := "l04_cache.go:131", after := #[{ on := 13, ground := Go.Ground.data }, { on := 20, ground := Go.Ground.data }, { on := 7, ground := Go.Ground.guard }], guard := some (7, false) }) (v := ?_) rfl (by kernel_rfl) (by kernel_rfl) (by kernel_rfl) (fun _ _ _ h => h) (Or.inl ⟨by rfl, ?_⟩) (by assumption) ?_
            rotate_left
            · (intro w hSw; (try dsimp only at hSw); go_simp; (try with_reducible rfl))
            (try simp only [Act.put, List.setIfInBounds_toArray, List.set_cons_zero, List.set_cons_succ])
            refine wpAnyH_take (i := 22) (oi := { dst := some 44, op := Go.Op.pick (Go.Operand.tmp 29) (Go.Operand.const (Go.Value.bool true)) (Go.Operand.tmp 43), type := 4, pos := "l04_cache.go:131", after := #[{ on := 7, ground := Go.Ground.data }, { on := 21, ground := Go.Ground.data }], guard := none }) (v := ?_) rfl (by kernel_rfl) (by kernel_rfl) (by kernel_rfl) (fun _ _ _ h => h) (Or.inl ⟨by rfl, ?_⟩) (by assumption) ?_
            rotate_left
            · (intro w hSw; (try dsimp only at hSw); go_simp; (try with_reducible rfl))
            (try simp only [Act.put, List.setIfInBounds_toArray, List.set_cons_zero, List.set_cons_succ])
            refine wpAnyH_take (i := 23) (oi := { dst := some 45, op := Go.Op.move (Go.Operand.tmp 44), type := 4, pos := "l04_cache.go:131", after := #[{ on := 22, ground := Go.Ground.data }, { on := 19, ground := Go.Ground.chain }], guard := none }) (v := ?_) rfl (by kernel_rfl) (by kernel_rfl) (by kernel_rfl) (fun _ _ _ h => h) (Or.inl ⟨by rfl, ?_⟩) (by assumption) ?_
            rotate_left
            · (intro w hSw; (try dsimp only at hSw); go_simp; (try with_reducible rfl))
            (try simp only [Act.put, List.setIfInBounds_toArray, List.set_cons_zero, List.set_cons_succ])
            refine wpAnyH_take (i := 24) (oi := { dst := some 46, op := Go.Op.move (Go.Operand.tmp 1), type := 109, pos := "l04_cache.go:131", after := #[{ on := 23, ground := Go.Ground.guard }], guard := some (23, false) }) (v := ?_) rfl (by kernel_rfl) (by kernel_rfl) (by kernel_rfl) (fun _ _ _ h => h) (Or.inl ⟨by rfl, ?_⟩) (by assumption) ?_
            rotate_left
            · (intro w hSw; (try dsimp only at hSw); go_simp; (try with_reducible rfl))
            (try simp only [Act.put, List.setIfInBounds_toArray, List.set_cons_zero, List.set_cons_succ])
            refine wpAnyH_take (i := 25) (oi := { dst := some 47, op := Go.Op.move (Go.Operand.tmp 6), type := 191, pos := "l04_cache.go:131", after := #[{ on := 23, ground := Go.Ground.guard }], guard := some (23, false) }) (v := ?_) rfl (by kernel_rfl) (by kernel_rfl) (by kernel_rfl) (fun _ _ _ h => h) (Or.inl ⟨by rfl, ?_⟩) (by assumption) ?_
            rotate_left
            · (intro w hSw; (try dsimp only at hSw); go_simp; (try with_reducible rfl))
            (try simp only [Act.put, List.setIfInBounds_toArray, List.set_cons_zero, List.set_cons_succ])
            refine wpAnyH_take (i := 26) (oi := { dst := some 48, op := Go.Op.nilCheck (Go.Operand.tmp 47), type := 0, pos := "l04_cache.go:131", after := #[{ on := 25, ground := Go.Ground.data }, { on := 23, ground := Go.Ground.guard }], guard := some (23, false) }) (v := ?_) rfl (by kernel_rfl) (by kernel_rfl) (by kernel_rfl) (fun _ _ _ h => h) (Or.inl ⟨by rfl, ?_⟩) (by assumption) ?_
            rotate_left
            · (intro w hSw; (try dsimp only at hSw); go_simp; (try with_reducible rfl))
            (try simp only [Act.put, List.setIfInBounds_toArray, List.set_cons_zero, List.set_cons_succ])
            refine wpAnyH_take (i := 27) (oi := { dst := some 49, op := Go.Op.fieldAddr 193 (Go.Operand.tmp 48) 0, type := 0, pos := "l04_cache.go:131", after := #[{ on := 26, ground := Go.Ground.data }, { on := 23, ground := Go.Ground.guard }], guard := some (23, false) }) (v := ?_) rfl (by kernel_rfl) (by kernel_rfl) (by kernel_rfl) (fun _ _ _ h => h) (Or.inl ⟨by rfl, ?_⟩) (by assumption) ?_
            rotate_left
            · (intro w hSw; (try dsimp only at hSw); go_simp; (try with_reducible rfl))
            (try simp only [Act.put, List.setIfInBounds_toArray, List.set_cons_zero, List.set_cons_succ])
            refine wpAnyH_take (i := 28) (oi := { dst := some 50, op := Go.Op.load 2 (Go.Operand.tmp 49), type := 2, pos := "l04_cache.go:131", after := #[{ on := 27, ground := Go.Ground.data }, { on := 23, ground := Go.Ground.guard }], guard := some (23, false) }) (v := ?_) rfl (by kernel_rfl) (by kernel_rfl) (by kernel_rfl) (fun _ _ _ h => h) (Or.inl ⟨by rfl, ?_⟩) (by assumption) ?_
            rotate_left
            · (intro w hSw; (try dsimp only at hSw); go_simp; (try with_reducible rfl))
            (try simp only [Act.put, List.setIfInBounds_toArray, List.set_cons_zero, List.set_cons_succ])
            refine wpAnyH_take (i := 29) (oi := { dst := some 51, op := Go.Op.move (Go.Operand.tmp 6), type := 191, pos := "l04_cache.go:131", after := #[{ on := 23, ground := Go.Ground.guard }], guard := some (23, false) }) (v := ?_) rfl (by kernel_rfl) (by kernel_rfl) (by kernel_rfl) (fun _ _ _ h => h) (Or.inl ⟨by rfl, ?_⟩) (by assumption) ?_
            rotate_left
            · (intro w hSw; (try dsimp only at hSw); go_simp; (try with_reducible rfl))
            (try simp only [Act.put, List.setIfInBounds_toArray, List.set_cons_zero, List.set_cons_succ])
            refine wpAnyH_take (i := 30) (oi := { dst := some 52, op := Go.Op.nilCheck (Go.Operand.tmp 51), type := 0, pos := "l04_cache.go:131", after := #[{ on := 29, ground := Go.Ground.data }, { on := 23, ground := Go.Ground.guard }], guard := some (23, false) }) (v := ?_) rfl (by kernel_rfl) (by kernel_rfl) (by kernel_rfl) (fun _ _ _ h => h) (Or.inl ⟨by rfl, ?_⟩) (by assumption) ?_
            rotate_left
            · (intro w hSw; (try dsimp only at hSw); go_simp; (try with_reducible rfl))
            (try simp only [Act.put, List.setIfInBounds_toArray, List.set_cons_zero, List.set_cons_succ])
            refine wpAnyH_take (i := 31) (oi := { dst := some 53, op := Go.Op.fieldAddr 193 (Go.Operand.tmp 52) 1, type := 0, pos := "l04_cache.go:131", after := #[{ on := 30, ground := Go.Ground.data }, { on := 23, ground := Go.Ground.guard }], guard := some (23, false) }) (v := ?_) rfl (by kernel_rfl) (by kernel_rfl) (by kernel_rfl) (fun _ _ _ h => h) (Or.inl ⟨by rfl, ?_⟩) (by assumption) ?_
            rotate_left
            · (intro w hSw; (try dsimp only at hSw); go_simp; (try with_reducible rfl))
            (try simp only [Act.put, List.setIfInBounds_toArray, List.set_cons_zero, List.set_cons_succ])
            refine wpAnyH_take (i := 32) (oi := { dst := some 54, op := Go.Op.load 2 (Go.Operand.tmp 53), type := 2, pos := "l04_cache.go:131", after := #[{ on := 31, ground := Go.Ground.data }, { on := 23, ground := Go.Ground.guard }], guard := some (23, false) }) (v := ?_) rfl (by kernel_rfl) (by kernel_rfl) (by kernel_rfl) (fun _ _ _ h => h) (Or.inl ⟨by rfl, ?_⟩) (by assumption) ?_
            rotate_left
            · (intro w hSw; (try dsimp only at hSw); go_simp; (try with_reducible rfl))
            (try simp only [Act.put, List.setIfInBounds_toArray, List.set_cons_zero, List.set_cons_succ])
            refine wpAnyH_take (i := 34) (oi := { dst := some 56, op := Go.Op.move (Go.Operand.tmp 6), type := 191, pos := "l04_cache.go:131", after := #[{ on := 23, ground := Go.Ground.guard }], guard := some (23, false) }) (v := ?_) rfl (by kernel_rfl) (by kernel_rfl) (by kernel_rfl) (fun _ _ _ h => h) (Or.inl ⟨by rfl, ?_⟩) (by assumption) ?_
            rotate_left
            · (intro w hSw; (try dsimp only at hSw); go_simp; (try with_reducible rfl))
            (try simp only [Act.put, List.setIfInBounds_toArray, List.set_cons_zero, List.set_cons_succ])
            refine wpAnyH_take (i := 35) (oi := { dst := some 57, op := Go.Op.nilCheck (Go.Operand.tmp 56), type := 0, pos := "l04_cache.go:131", after := #[{ on := 34, ground := Go.Ground.data }, { on := 23, ground := Go.Ground.guard }], guard := some (23, false) }) (v := ?_) rfl (by kernel_rfl) (by kernel_rfl) (by kernel_rfl) (fun _ _ _ h => h) (Or.inl ⟨by rfl, ?_⟩) (by assumption) ?_
            rotate_left
            · (intro w hSw; (try dsimp only at hSw); go_simp; (try with_reducible rfl))
            (try simp only [Act.put, List.setIfInBounds_toArray, List.set_cons_zero, List.set_cons_succ])
            refine wpAnyH_take (i := 36) (oi := { dst := some 58, op := Go.Op.fieldAddr 193 (Go.Operand.tmp 57) 2, type := 0, pos := "l04_cache.go:131", after := #[{ on := 35, ground := Go.Ground.data }, { on := 23, ground := Go.Ground.guard }], guard := some (23, false) }) (v := ?_) rfl (by kernel_rfl) (by kernel_rfl) (by kernel_rfl) (fun _ _ _ h => h) (Or.inl ⟨by rfl, ?_⟩) (by assumption) ?_
            rotate_left
            · (intro w hSw; (try dsimp only at hSw); go_simp; (try with_reducible rfl))
            (try simp only [Act.put, List.setIfInBounds_toArray, List.set_cons_zero, List.set_cons_succ])
            refine wpAnyH_take (i := 37) (oi := { dst := some 59, op := Go.Op.load 2 (Go.Operand.tmp 58), type := 2, pos := "l04_cache.go:131", after := #[{ on := 36, ground := Go.Ground.data }, { on := 23, ground := Go.Ground.guard }], guard := some (23, false) }) (v := ?_) rfl (by kernel_rfl) (by kernel_rfl) (by kernel_rfl) (fun _ _ _ h => h) (Or.inl ⟨by rfl, ?_⟩) (by assumption) ?_
            rotate_left
            · (intro w hSw; (try dsimp only at hSw); go_simp; (try with_reducible rfl))
            (try simp only [Act.put, List.setIfInBounds_toArray, List.set_cons_zero, List.set_cons_succ])
            refine wpAnyH_ready (rs := [33]) (by kernel_rfl) (by simp) ?_
            refine AllReadyH.cons (o := { dst := some 55, op := Go.Op.call { callee := Go.Callee.value (Go.Operand.func 121), args := #[Go.Operand.tmp 46, Go.Operand.tmp 50, Go.Operand.tmp 54], argTypes := #[109, 2, 2] }, type := 2, pos := "l04_cache.go:131", after := #[{ on := 24, ground := Go.Ground.data }, { on := 28, ground := Go.Ground.data }, { on := 32, ground := Go.Ground.data }, { on := 23, ground := Go.Ground.chain }, { on := 23, ground := Go.Ground.guard }], guard := some (23, false) }) rfl (fun K hK => ?_) AllReadyH.nil
            go_simp
            go_wp2_with (go_at_call 121; refine (l3Perm0_calls Q _ _).mono ?_; rintro e wc ⟨rfl, gc⟩; have hc2 := held6 (W := wr) kb kb kb kQ kQ kQ ha gc; clear gc)
            refine hK.out _ _ hc2 (fun hHeld => ?_)
            clear hK K
            (try simp only [Act.put, List.setIfInBounds_toArray, List.set_cons_zero, List.set_cons_succ])
            refine wpAnyH_take (i := 38) (oi := { dst := some 60, op := Go.Op.binOp Go.BinOp.neq 2 (Go.Operand.tmp 55) (Go.Operand.tmp 59) 2, type := 4, pos := "l04_cache.go:131", after := #[{ on := 33, ground := Go.Ground.data }, { on := 37, ground := Go.Ground.data }, { on := 23, ground := Go.Ground.guard }], guard := some (23, false) }) (v := ?_) rfl (by kernel_rfl) (by kernel_rfl) (by kernel_rfl) (fun _ _ _ h => h) (Or.inl ⟨by rfl, ?_⟩) (by assumption) ?_
            rotate_left
            · (intro w hSw; (try dsimp only at hSw); go_simp; (try with_reducible rfl))
            (try simp only [Act.put, List.setIfInBounds_toArray, List.set_cons_zero, List.set_cons_succ])
            refine wpAnyH_take (i := 39) (oi := { dst := some 61, op := Go.Op.pick (Go.Operand.tmp 45) (Go.Operand.const (Go.Value.bool true)) (Go.Operand.tmp 60), type := 4, pos := "l04_cache.go:131", after := #[{ on := 23, ground := Go.Ground.data }, { on := 38, ground := Go.Ground.data }], guard := none }) (v := ?_) rfl (by kernel_rfl) (by kernel_rfl) (by kernel_rfl) (fun _ _ _ h => h) (Or.inl ⟨by rfl, ?_⟩) (by assumption) ?_
            rotate_left
            · (intro w hSw; (try dsimp only at hSw); go_simp; (try with_reducible rfl))
            (try simp only [Act.put, List.setIfInBounds_toArray, List.set_cons_zero, List.set_cons_succ])
            refine wpAnyH_done (by kernel_rfl) ?_ _
            go_wp2_with fail
            go_meet
            exact ⟨by rw [HL.out]; rfl, hc2.2.2.2.2.2.2⟩
          · by_cases ht : 0 ≤ (g3 ls k).2.1 - 1 ∧ (g3 ls k).2.1 - 1 < (tn : Int)
            rotate_left
            · have HL : Hid (lineT ss ts ds (g3 ls k) = false) := by
                have hp := (pm_notag (ss := ss) (ts := ts) (d := (g3 ls k).1) (t := (g3 ls k).2.1) Hf.out (by rw [hi]; exact HI.out) h0 (inC_no (by rw [htl]; exact ht))).1
                show _ = _
                simp [lineT, hp]
              have et : decide (0 ≤ (g3 ls k).2.1 - 1 ∧ (g3 ls k).2.1 - 1 < (tn : Int)) = false := decide_eq_false ht
              have e0 : ((g3 ls k).2.1 != 0) = true := by simpa using h0
              rw [hi] at x0
              clear hd h0 hi ht
              have HS0 : Hid (wr.drew.cell? ⟨b, off + k * 3, none⟩ = some (.int .i64 (i : Int)) ∧ wr.drew.cell? ⟨b, off + k * 3 + 1, none⟩ = some (.int .i64 (g3 ls k).2.1) ∧ wr.drew.cell? ⟨b, off + k * 3 + 2, none⟩ = some (.int .i64 (g3 ls k).2.2) ∧ wr.drew.cell? ⟨Q, 0, none⟩ = some (.slice ra rn rc) ∧ wr.drew.cell? ⟨Q, 1, none⟩ = some (.slice ta tn tc) ∧ wr.drew.cell? ⟨Q, 2, none⟩ = some (.slice da dn dc) ∧ Below wr.heap.size wr wr.drew) := ⟨x0, x1, x2, y0, y1, y2, (Below.refl _ _).drew⟩
              clear x0 x1 x2 y0 y1 y2 p1
              refine wp_region_held_drew (S := (fun w' => w'.cell? ⟨b, off + k * 3, none⟩ = some (.int .i64 (i : Int)) ∧ w'.cell? ⟨b, off + k * 3 + 1, none⟩ = some (.int .i64 (g3 ls k).2.1) ∧ w'.cell? ⟨b, off + k * 3 + 2, none⟩ = some (.int .i64 (g3 ls k).2.2) ∧ w'.cell? ⟨Q, 0, none⟩ = some (.slice ra rn rc) ∧ w'.cell? ⟨Q, 1, none⟩ = some (.slice ta tn tc) ∧ w'.cell? ⟨Q, 2, none⟩ = some (.slice da dn dc) ∧ Below wr.heap.size wr w')) (by kernel_rfl) HS0.out (fun hHeld => ?_)
              refine wpAnyH_take (i := 0) (oi := { dst := some 22, op := Go.Op.move (Go.Operand.tmp 1), type := 109, pos := "l04_cache.go:131", after := #[], guard := none }) (v := ?_) rfl (by kernel_rfl) (by kernel_rfl) (by kernel_rfl) (fun _ _ _ h => h) (Or.inl ⟨by rfl, ?_⟩) (by assumption) ?_
              rotate_left
              · (intro w hSw; (try dsimp only at hSw); go_simp; (try with_reducible rfl))
              (try simp only [Act.put, List.setIfInBounds_toArray, List.set_cons_zero, List.set_cons_succ])
              refine wpAnyH_take (i := 1) (oi := { dst := some 23, op := Go.Op.move (Go.Operand.tmp 6), type := 191, pos := "l04_cache.go:131", after := #[], guard := none }) (v := ?_) rfl (by kernel_rfl) (by kernel_rfl) (by kernel_rfl) (fun _ _ _ h => h) (Or.inl ⟨by rfl, ?_⟩) (by assumption) ?_
              rotate_left
              · (intro w hSw; (try dsimp only at hSw); go_simp; (try with_reducible rfl))
              (try simp only [Act.put, List.setIfInBounds_toArray, List.set_cons_zero, List.set_cons_succ])
              refine wpAnyH_take (i := 2) (oi := { dst := some 24, op := Go.Op.nilCheck (Go.Operand.tmp 23), type := 0, pos := "l04_cache.go:131", after := #[{ on := 1, ground := Go.Ground.data }], guard := none }) (v := ?_) rfl (by kernel_rfl) (by kernel_rfl) (by kernel_rfl) (fun _ _ _ h => h) (Or.inl ⟨by rfl, ?_⟩) (by assumption) ?_
              rotate_left
              · (intro w hSw; (try dsimp only at hSw); go_simp; (try with_reducible rfl))
              (try simp only [Act.put, List.setIfInBounds_toArray, List.set_cons_zero, List.set_cons_succ])
              refine wpAnyH_take (i := 3) (oi := { dst := some 25, op := Go.Op.fieldAddr 193 (Go.Operand.tmp 24) 0, type := 0, pos := "l04_cache.go:131", after := #[{ on := 2, ground := Go.Ground.data }], guard := none }) (v := ?_) rfl (by kernel_rfl) (by kernel_rfl) (by kernel_rfl) (fun _ _ _ h => h) (Or.inl ⟨by rfl, ?_⟩) (by assumption) ?_
              rotate_left
              · (intro w hSw; (try dsimp only at hSw); go_simp; (try with_reducible rfl))
              (try simp only [Act.put, List.setIfInBounds_toArray, List.set_cons_zero, List.set_cons_succ])
              refine wpAnyH_take (i := 4) (oi := { dst := some 26, op := Go.Op.load 2 (Go.Operand.tmp 25), type := 2, pos := "l04_cache.go:131", after := #[{ on := 3, ground := Go.Ground.data }], guard := none }) (v := ?_) rfl (by kernel_rfl) (by kernel_rfl) (by kernel_rfl) (fun _ _ _ h => h) (Or.inl ⟨by rfl, ?_⟩) (by assumption) ?_
              rotate_left
              · (intro w hSw; (try dsimp only at hSw); go_simp; (try with_reducible rfl))
              (try simp only [Act.put, List.setIfInBounds_toArray, List.set_cons_zero, List.set_cons_succ])
              refine wpAnyH_ready (rs := [5]) (by kernel_rfl) (by simp) ?_
              refine AllReadyH.cons (o := { dst := some 27, op := Go.Op.call { callee := Go.Callee.value (Go.Operand.func 66), args := #[Go.Operand.tmp 22, Go.Operand.tmp 26], argTypes := #[109, 2] }, type := 4, pos := "l04_cache.go:131", after := #[{ on := 0, ground := Go.Ground.data }, { on := 4, ground := Go.Ground.data }], guard := none }) rfl (fun K hK => ?_) AllReadyH.nil
              go_simp
              go_wp2_with (go_at_call 66; refine (l3HasDomain_calls Q da dn dc _ _ (by omega) (And.left (And.right (And.right (And.right (And.right (And.right (by with_reducible assumption)))))))).mono ?_; rintro e wa ⟨rfl, ga⟩; rw [ed]; have ha := held6 (W := wr) kb kb kb kQ kQ kQ (by with_reducible assumption) ga; clear ga)
              refine hK.out _ _ ha (fun hHeld => ?_)
              clear hK K
              (try simp only [Act.put, List.setIfInBounds_toArray, List.set_cons_zero, List.set_cons_succ])
              refine wpAnyH_take (i := 6) (oi := { dst := some 28, op := Go.Op.unOp Go.UnOp.not 4 (Go.Operand.tmp 27), type := 4, pos := "l04_cache.go:131", after := #[{ on := 5, ground := Go.Ground.data }], guard := none }) (v := ?_) rfl (by kernel_rfl) (by kernel_rfl) (by kernel_rfl) (fun _ _ _ h => h) (Or.inl ⟨by rfl, ?_⟩) (by assumption) ?_
              rotate_left
              · (intro w hSw; (try dsimp only at hSw); go_simp; (try with_reducible rfl))
              (try simp only [Act.put, List.setIfInBounds_toArray, List.set_cons_zero, List.set_cons_succ])
              refine wpAnyH_take (i := 7) (oi := { dst := some 29, op := Go.Op.move (Go.Operand.tmp 28), type := 4, pos := "l04_cache.go:131", after := #[{ on := 6, ground := Go.Ground.data }, { on := 5, ground := Go.Ground.chain }], guard := none }) (v := ?_) rfl (by kernel_rfl) (by kernel_rfl) (by kernel_rfl) (fun _ _ _ h => h) (Or.inl ⟨by rfl, ?_⟩) (by assumption) ?_
              rotate_left
              · (intro w hSw; (try dsimp only at hSw); go_simp; (try with_reducible rfl))
              (try simp only [Act.put, List.setIfInBounds_toArray, List.set_cons_zero, List.set_cons_succ])
              refine wpAnyH_take (i := 8) (oi := { dst := some 30, op := Go.Op.move (Go.Operand.tmp 6), type := 191, pos := "l04_cache.go:131", after := #[{ on := 7, ground := Go.Ground.guard }], guard := some (7, false) }) (v := ?_) rfl (by kernel_rfl) (by kernel_rfl) (by kernel_rfl) (fun _ _ _ h => h) (Or.inl ⟨by rfl, ?_⟩) (by assumption) ?_
              rotate_left
              · (intro w hSw; (try dsimp only at hSw); go_simp; (try with_reducible rfl))
              (try simp only [Act.put, List.setIfInBounds_toArray, List.set_cons_zero, List.set_cons_succ])
              refine wpAnyH_take (i := 9) (oi := { dst := some 31, op := Go.Op.nilCheck (Go.Operand.tmp 30), type := 0, pos := "l04_cache.go:131", after := #[{ on := 8, ground := Go.Ground.data }, { on := 7, ground := Go.Ground.guard }], guard := some (7, false) }) (v := ?_) rfl (by kernel_rfl) (by kernel_rfl) (by kernel_rfl) (fun _ _ _ h => h) (Or.inl ⟨by rfl, ?_⟩) (by assumption) ?_
              rotate_left
              · (intro w hSw; (try dsimp only at hSw); go_simp; (try with_reducible rfl))
              (try simp only [Act.put, List.setIfInBounds_toArray, List.set_cons_zero, List.set_cons_succ])
              refine wpAnyH_take (i := 10) (oi := { dst := some 32, op := Go.Op.fieldAddr 193 (Go.Operand.tmp 31) 1, type := 0, pos := "l04_cache.go:131", after := #[{ on := 9, ground := Go.Ground.data }, { on := 7, ground := Go.Ground.guard }], guard := some (7, false) }) (v := ?_) rfl (by kernel_rfl) (by kernel_rfl) (by kernel_rfl) (fun _ _ _ h => h) (Or.inl ⟨by rfl, ?_⟩) (by assumption) ?_
              rotate_left
              · (intro w hSw; (try dsimp only at hSw); go_simp; (try with_reducible rfl))
              (try simp only [Act.put, List.setIfInBounds_toArray, List.set_cons_zero, List.set_cons_succ])
              refine wpAnyH_take (i := 11) (oi := { dst := some 33, op := Go.Op.load 2 (Go.Operand.tmp 32), type := 2, pos := "l04_cache.go:131", after := #[{ on := 10, ground := Go.Ground.data }, { on := 7, ground := Go.Ground.guard }], guard := some (7, false) }) (v := ?_) rfl (by kernel_rfl) (by kernel_rfl) (by kernel_rfl) (fun _ _ _ h => h) (Or.inl ⟨by rfl, ?_⟩) (by assumption) ?_
              rotate_left
              · (intro w hSw; (try dsimp only at hSw); go_simp; (try with_reducible rfl))
              (try simp only [Act.put, List.setIfInBounds_toArray, List.set_cons_zero, List.set_cons_succ])
              refine wpAnyH_take (i := 12) (oi := { dst := some 34, op := Go.Op.binOp Go.BinOp.neq 2 (Go.Operand.tmp 33) (Go.Operand.const (Go.Value.int Go.IntKind.i64 0)) 2, type := 4, pos := "l04_cache.go:131", after := #[{ on := 11, ground := Go.Ground.data }, { on := 7, ground := Go.Ground.guard }], guard := some (7, false) }) (v := ?_) rfl (by kernel_rfl) (by kernel_rfl) (by kernel_rfl) (fun _ _ _ h => h) (Or.inl ⟨by rfl, ?_⟩) (by assumption) ?_
              rotate_left
              · (intro w hSw; (try dsimp only at hSw); go_simp; (try with_reducible rfl))
              (try simp only [Act.put, List.setIfInBounds_toArray, List.set_cons_zero, List.set_cons_succ])
              refine wpAnyH_take (i := 13) (oi := { dst := some 35, op := Go.Op.move (Go.Operand.tmp 34), type := 4, pos := "l04_cache.go:131", after := #[{ on := 12, ground := Go.Ground.data }, { on := 7, ground := Go.Ground.chain }, { on := 7, ground := Go.Ground.guard }], guard := some (7, false) }) (v := ?_) rfl (by kernel_rfl) (by kernel_rfl) (by kernel_rfl) (fun _ _ _ h => h) (Or.inl ⟨by rfl, ?_⟩) (by assumption) ?_
              rotate_left
              · (intro w hSw; (try dsimp only at hSw); go_simp; (try with_reducible rfl))
              (try simp only [Act.put, List.setIfInBounds_toArray, List.set_cons_zero, List.set_cons_succ])
              refine wpAnyH_take (i := 14) (oi := { dst := some 36, op := Go.Op.move (Go.Operand.tmp 1), type := 109, pos := "l04_cache.go:131", after := #[{ on := 13, ground := Go.Ground.guard }], guard := some (13, true) }) (v := ?_) rfl (by kernel_rfl) (by kernel_rfl) (by kernel_rfl) (fun _ _ _ h => h) (Or.inl ⟨by rfl, ?_⟩) (by assumption) ?_
              rotate_left
              · (intro w hSw; (try dsimp only at hSw); go_simp; (try with_reducible rfl))
              (try simp only [Act.put, List.setIfInBounds_toArray, List.set_cons_zero, List.set_cons_succ])
              refine wpAnyH_take (i := 15) (oi := { dst := some 37, op := Go.Op.move (Go.Operand.tmp 6), type := 191, pos := "l04_cache.go:131", after := #[{ on := 13, ground := Go.Ground.guard }], guard := some (13, true) }) (v := ?_) rfl (by kernel_rfl) (by kernel_rfl) (by kernel_rfl) (fun _ _ _ h => h) (Or.inl ⟨by rfl, ?_⟩) (by assumption) ?_
              rotate_left
              · (intro w hSw; (try dsimp only at hSw); go_simp; (try with_reducible rfl))
              (try simp only [Act.put, List.setIfInBounds_toArray, List.set_cons_zero, List.set_cons_succ])
              refine wpAnyH_take (i := 16) (oi := { dst := some 38, op := Go.Op.nilCheck (Go.Operand.tmp 37), type := 0, pos := "l04_cache.go:131", after := #[{ on := 15, ground := Go.Ground.data }, { on := 13, ground := Go.Ground.guard }], guard := some (13, true) }) (v := ?_) rfl (by kernel_rfl) (by kernel_rfl) (by kernel_rfl) (fun _ _ _ h => h) (Or.inl ⟨by rfl, ?_⟩) (by assumption) ?_
              rotate_left
              · (intro w hSw; (try dsimp only at hSw); go_simp; (try with_reducible rfl))
              (try simp only [Act.put, List.setIfInBounds_toArray, List.set_cons_zero, List.set_cons_succ])
              refine wpAnyH_take (i := 17) (oi := { dst := some 39, op := Go.Op.fieldAddr 193 (Go.Operand.tmp 38) 1, type := 0, pos := "l04_cache.go:131", after := #[{ on := 16, ground := Go.Ground.data }, { on := 13, ground := Go.Ground.guard }], guard := some (13, true) }) (v := ?_) rfl (by kernel_rfl) (by kernel_rfl) (by kernel_rfl) (fun _ _ _ h => h) (Or.inl ⟨by rfl, ?_⟩) (by assumption) ?_
              rotate_left
              · (intro w hSw; (try dsimp only at hSw); go_simp; (try with_reducible rfl))
              (try simp only [Act.put, List.setIfInBounds_toArray, List.set_cons_zero, List.set_cons_succ])
              refine wpAnyH_take (i := 18) (oi := { dst := some 40, op := Go.Op.load 2 (Go.Operand.tmp 39), type := 2, pos := "l04_cache.go:131", after := #[{ on := 17, ground := Go.Ground.data }, { on := 13, ground := Go.Ground.guard }], guard := some (13, true) }) (v := ?_) rfl (by kernel_rfl) (by kernel_rfl) (by kernel_rfl) (fun _ _ _ h => h) (Or.inl ⟨by rfl, ?_⟩) (by assumption) ?_
              rotate_left
              · (intro w hSw; (try dsimp only at hSw); go_simp; (try with_reducible rfl))
              (try simp only [Act.put, List.setIfInBounds_toArray, List.set_cons_zero, List.set_cons_succ])
              refine wpAnyH_ready (rs := [19]) (by kernel_rfl) (by simp) ?_
              refine AllReadyH.cons (o := { dst := some 41, op := Go.Op.call { callee := Go.Callee.value (Go.Operand.func 67), args := #[Go.Operand.tmp 36, Go.Operand.tmp 40], argTypes := #[109, 2] }, type := 4, pos := "l04_cache.go:131", after := #[{ on := 14, ground := Go.Ground.data }, { on := 18, ground := Go.Ground.data }, { on := 13, ground := Go.Ground.chain }, { on := 13, ground := Go.Ground.guard }], guard := some (13, true) }) rfl (fun K hK => ?_) AllReadyH.nil
              go_simp
              go_wp2_with (go_at_call 67; refine (l3HasTag_calls Q ta tn tc _ _ (by omega) (And.left (And.right (And.right (And.right (And.right (by with_reducible assumption))))))).mono ?_; rintro e wb ⟨rfl, gb⟩; rw [et]; have hb2 := held6 (W := wr) kb kb kb kQ kQ kQ ha gb; clear gb)
              refine hK.out _ _ hb2 (fun hHeld => ?_)
              clear hK K
              (try simp only [Act.put, List.setIfInBounds_toArray, List.set_cons_zero, List.set_cons_succ])
              refine wpAnyH_take (i := 20) (oi := { dst := some 42, op := Go.Op.unOp Go.UnOp.not 4 (Go.Operand.tmp 41), type := 4, pos := "l04_cache.go:131", after := #[{ on := 19, ground := Go.Ground.data }, { on := 13, ground := Go.Ground.guard }], guard := some (13, true) }) (v := ?_) rfl (by kernel_rfl) (by kernel_rfl) (by kernel_rfl) (fun _ _ _ h => h) (Or.inl ⟨by rfl, ?_⟩) (by assumption) ?_
              rotate_left
              · (intro w hSw; (try dsimp only at hSw); go_simp; (try with_reducible rfl))
              (try simp only [Act.put, List.setIfInBounds_toArray, List.set_cons_zero, List.set_cons_succ])
              refine wpAnyH_take (i := 21) (oi := { dst := some 43, op := Go.Op.pick (Go.Operand.tmp 35) (Go.Operand.tmp 42) (Go.Operand.const (Go.Value.bool false)), type := 4, pos := "l04_cache.go:131", after := #[{ on := 13, ground := Go.Ground.data }, { on := 20, ground := Go.Ground.data }, { on := 7, ground := Go.Ground.guard }], guard := some (7, false) }) (v := ?_) rfl (by kernel_rfl) (by kernel_rfl) (by kernel_rfl) (fun _ _ _ h => h) (Or.inl ⟨by rfl, ?_⟩) (by assumption) ?_
              rotate_left
              · (intro w hSw; (try dsimp only at hSw); go_simp; (try with_reducible rfl))
              (try simp only [Act.put, List.setIfInBounds_toArray, List.set_cons_zero, List.set_cons_succ])
              refine wpAnyH_take (i := 22) (oi := { dst := some 44, op := Go.Op.pick (Go.Operand.tmp 29) (Go.Operand.const (Go.Value.bool true)) (Go.Operand.tmp 43), type := 4, pos := "l04_cache.go:131", after := #[{ on := 7, ground := Go.Ground.data }, { on := 21, ground := Go.Ground.data }], guard := none }) (v := ?_) rfl (by kernel_rfl) (by kernel_rfl) (by kernel_rfl) (fun _ _ _ h => h) (Or.inl ⟨by rfl, ?_⟩) (by assumption) ?_
              rotate_left
              · (intro w hSw; (try dsimp only at hSw); go_simp; (try with_reducible rfl))
              (try simp only [Act.put, List.setIfInBounds_toArray, List.set_cons_zero, List.set_cons_succ])
              refine wpAnyH_take (i := 23) (oi := { dst := some 45, op := Go.Op.move (Go.Operand.tmp 44), type := 4, pos := "l04_cache.go:131", after := #[{ on := 22, ground := Go.Ground.data }, { on := 19, ground := Go.Ground.chain }], guard := none }) (v := ?_) rfl (by kernel_rfl) (by kernel_rfl) (by kernel_rfl) (fun _ _ _ h => h) (Or.inl ⟨by rfl, ?_⟩) (by assumption) ?_
              rotate_left
              · (intro w hSw; (try dsimp only at hSw); go_simp; (try with_reducible rfl))
              (try simp only [Act.put, List.setIfInBounds_toArray, List.set_cons_zero, List.set_cons_succ])
              refine wpAnyH_take (i := 24) (oi := { dst := some 46, op := Go.Op.move (Go.Operand.tmp 1), type := 109, pos := "l04_cache.go:131", after := #[{ on := 23, ground := Go.Ground.guard }], guard := some (23, false) }) (v := undef) rfl (by kernel_rfl) (by kernel_rfl) (by kernel_rfl) (fun _ _ _ h => h) (Or.inr ⟨by rfl, rfl⟩) (by assumption) ?_
              (try simp only [Act.put, List.setIfInBounds_toArray, List.set_cons_zero, List.set_cons_succ])
              refine wpAnyH_take (i := 25) (oi := { dst := some 47, op := Go.Op.move (Go.Operand.tmp 6), type := 191, pos := "l04_cache.go:131", after := #[{ on := 23, ground := Go.Ground.guard }], guard := some (23, false) }) (v := undef) rfl (by kernel_rfl) (by kernel_rfl) (by kernel_rfl) (fun _ _ _ h => h) (Or.inr ⟨by rfl, rfl⟩) (by assumption) ?_
              (try simp only [Act.put, List.setIfInBounds_toArray, List.set_cons_zero, List.set_cons_succ])
              refine wpAnyH_take (i := 26) (oi := { dst := some 48, op := Go.Op.nilCheck (Go.Operand.tmp 47), type := 0, pos := "l04_cache.go:131", after := #[{ on := 25, ground := Go.Ground.data }, { on := 23, ground := Go.Ground.guard }], guard := some (23, false) }) (v := undef) rfl (by kernel_rfl) (by kernel_rfl) (by kernel_rfl) (fun _ _ _ h => h) (Or.inr ⟨by rfl, rfl⟩) (by assumption) ?_
              (try simp only [Act.put, List.setIfInBounds_toArray, List.set_cons_zero, List.set_cons_succ])
              refine wpAnyH_take (i := 27) (oi := { dst := some 49, op := Go.Op.fieldAddr 193 (Go.Operand.tmp 48) 0, type := 0, pos := "l04_cache.go:131", after := #[{ on := 26, ground := Go.Ground.data }, { on := 23, ground := Go.Ground.guard }], guard := some (23, false) }) (v := undef) rfl (by kernel_rfl) (by kernel_rfl) (by kernel_rfl) (fun _ _ _ h => h) (Or.inr ⟨by rfl, rfl⟩) (by assumption) ?_
              (try simp only [Act.put, List.setIfInBounds_toArray, List.set_cons_zero, List.set_cons_succ])
              refine wpAnyH_take (i := 28) (oi := { dst := some 50, op := Go.Op.load 2 (Go.Operand.tmp 49), type := 2, pos := "l04_cache.go:131", after := #[{ on := 27, ground := Go.Ground.data }, { on := 23, ground := Go.Ground.guard }], guard := some (23, false) }) (v := undef) rfl (by kernel_rfl) (by kernel_rfl) (by kernel_rfl) (fun _ _ _ h => h) (Or.inr ⟨by rfl, rfl⟩) (by assumption) ?_
              (try simp only [Act.put, List.setIfInBounds_toArray, List.set_cons_zero, List.set_cons_succ])
              refine wpAnyH_take (i := 29) (oi := { dst := some 51, op := Go.Op.move (Go.Operand.tmp 6), type := 191, pos := "l04_cache.go:131", after := #[{ on := 23, ground := Go.Ground.guard }], guard := some (23, false) }) (v := undef) rfl (by kernel_rfl) (by kernel_rfl) (by kernel_rfl) (fun _ _ _ h => h) (Or.inr ⟨by rfl, rfl⟩) (by assumption) ?_
              (try simp only [Act.put, List.setIfInBounds_toArray, List.set_cons_zero, List.set_cons_succ])
              refine wpAnyH_take (i := 30) (oi := { dst := some 52, op := Go.Op.nilCheck (Go.Operand.tmp 51), type := 0, pos := "l04_cache.go:131", after := #[{ on := 29, ground := Go.Ground.data }, { on := 23, ground := Go.Ground.guard }], guard := some (23, false) }) (v := undef) rfl (by kernel_rfl) (by kernel_rfl) (by kernel_rfl) (fun _ _ _ h => h) (Or.inr ⟨by rfl, rfl⟩) (by assumption) ?_
              (try simp only [Act.put, List.setIfInBounds_toArray, List.set_cons_zero, List.set_cons_succ])
              refine wpAnyH_take (i := 31) (oi := { dst := some 53, op := Go.Op.fieldAddr 193 (Go.Operand.tmp 52) 1, type := 0, pos := "l04_cache.go:131", after := #[{ on := 30, ground := Go.Ground.data }, { on := 23, ground := Go.Ground.guard }], guard := some (23, false) }) (v := undef) rfl (by kernel_rfl) (by kernel_rfl) (by kernel_rfl) (fun _ _ _ h => h) (Or.inr ⟨by rfl, rfl⟩) (by assumption) ?_
              (try simp only [Act.put, List.setIfInBounds_toArray, List.set_cons_zero, List.set_cons_succ])
              refine wpAnyH_take (i := 32) (oi := { dst := some 54, op := Go.Op.load 2 (Go.Operand.tmp 53), type := 2, pos := "l04_cache.go:131", after := #[{ on := 31, ground := Go.Ground.data }, { on := 23, ground := Go.Ground.guard }], guard := some (23, false) }) (v := undef) rfl (by kernel_rfl) (by kernel_rfl) (by kernel_rfl) (fun _ _ _ h => h) (Or.inr ⟨by rfl, rfl⟩) (by assumption) ?_
              (try simp only [Act.put, List.setIfInBounds_toArray, List.set_cons_zero, List.set_cons_succ])
              refine wpAnyH_take (i := 33) (oi := { dst := some 55, op := Go.Op.call { callee := Go.Callee.value (Go.Operand.func 121), args := #[Go.Operand.tmp 46, Go.Operand.tmp 50, Go.Operand.tmp 54], argTypes := #[109, 2, 2] }, type := 2, pos := "l04_cache.go:131", after := #[{ on := 24, ground := Go.Ground.data }, { on := 28, ground := Go.Ground.data }, { on := 32, ground := Go.Ground.data }, { on := 23, ground := Go.Ground.chain }, { on := 23, ground := Go.Ground.guard }], guard := some (23, false) }) (v := undef) rfl (by kernel_rfl) (by kernel_rfl) (by kernel_rfl) (fun _ _ _ h => h) (Or.inr ⟨by rfl, rfl⟩) (by assumption) ?_
              (try simp only [Act.put, List.setIfInBounds_toArray, List.set_cons_zero, List.set_cons_succ])
              refine wpAnyH_take (i := 34) (oi := { dst := some 56, op := Go.Op.move (Go.Operand.tmp 6), type := 191, pos := "l04_cache.go:131", after := #[{ on := 23, ground := Go.Ground.guard }], guard := some (23, false) }) (v := undef) rfl (by kernel_rfl) (by kernel_rfl) (by kernel_rfl) (fun _ _ _ h => h) (Or.inr ⟨by rfl, rfl⟩) (by assumption) ?_
              (try simp only [Act.put, List.setIfInBounds_toArray, List.set_cons_zero, List.set_cons_succ])
              refine wpAnyH_take (i := 35) (oi := { dst := some 57, op := Go.Op.nilCheck (Go.Operand.tmp 56), type := 0, pos := "l04_cache.go:131", after := #[{ on := 34, ground := Go.Ground.data }, { on := 23, ground := Go.Ground.guard }], guard := some (23, false) }) (v := undef) rfl (by kernel_rfl) (by kernel_rfl) (by kernel_rfl) (fun _ _ _ h => h) (Or.inr ⟨by rfl, rfl⟩) (by assumption) ?_
              (try simp only [Act.put, List.setIfInBounds_toArray, List.set_cons_zero, List.set_cons_succ])
              refine wpAnyH_take (i := 36) (oi := { dst := some 58, op := Go.Op.fieldAddr 193 (Go.Operand.tmp 57) 2, type := 0, pos := "l04_cache.go:131", after := #[{ on := 35, ground := Go.Ground.data }, { on := 23, ground := Go.Ground.guard }], guard := some (23, false) }) (v := undef) rfl (by kernel_rfl) (by kernel_rfl) (by kernel_rfl) (fun _ _ _ h => h) (Or.inr ⟨by rfl, rfl⟩) (by assumption) ?_
              (try simp only [Act.put, List.setIfInBounds_toArray, List.set_cons_zero, List.set_cons_succ])
              refine wpAnyH_take (i := 37) (oi := { dst := some 59, op := Go.Op.load 2 (Go.Operand.tmp 58), type := 2, pos := "l04_cache.go:131", after := #[{ on := 36, ground := Go.Ground.data }, { on := 23, ground := Go.Ground.guard }], guard := some (23, false) }) (v := undef) rfl (by kernel_rfl) (by kernel_rfl) (by kernel_rfl) (fun _ _ _ h => h) (Or.inr ⟨by rfl, rfl⟩) (by assumption) ?_
              (try simp only [Act.put, List.setIfInBounds_toArray, List.set_cons_zero, List.set_cons_succ])
              refine wpAnyH_take (i := 38) (oi := { dst := some 60, op := Go.Op.binOp Go.BinOp.neq 2 (Go.Operand.tmp 55) (Go.Operand.tmp 59) 2, type := 4, pos := "l04_cache.go:131", after := #[{ on := 33, ground := Go.Ground.data }, { on := 37, ground := Go.Ground.data }, { on := 23, ground := Go.Ground.guard }], guard := some (23, false) }) (v := undef) rfl (by kernel_rfl) (by kernel_rfl) (by kernel_rfl) (fun _ _ _ h => h) (Or.inr ⟨by rfl, rfl⟩) (by assumption) ?_
              (try simp only [Act.put, List.setIfInBounds_toArray, List.set_cons_zero, List.set_cons_succ])
              refine wpAnyH_take (i := 39) (oi := { dst := some 61, op := Go.Op.pick (Go.Operand.tmp 45) (Go.Operand.const (Go.Value.bool true)) (Go.Operand.tmp 60), type := 4, pos := "l04_cache.go:131", after := #[{ on := 23, ground := Go.Ground.data }, { on := 38, ground := Go.Ground.data }], guard := none }) (v := ?_) rfl (by kernel_rfl) (by kernel_rfl) (by kernel_rfl) (fun _ _ _ h => h) (Or.inl ⟨by rfl, ?_⟩) (by assumption) ?_
              rotate_left
              · (intro w hSw; (try dsimp only at hSw); go_simp; (try with_reducible rfl))
              (try simp only [Act.put, List.setIfInBounds_toArray, List.set_cons_zero, List.set_cons_succ])
              refine wpAnyH_done (by kernel_rfl) ?_ _
              go_wp2_with fail
              go_meet
              exact ⟨by rw [HL.out]; rfl, hb2.2.2.2.2.2.2⟩
            · obtain ⟨j, hj⟩ : ∃ j : Nat, (g3 ls k).2.1 = (j : Int) + 1 := ⟨((g3 ls k).2.1 - 1).toNat, by omega⟩
              have hjt : j < tn := by omega
              have HL : Hid (lineT ss ts ds (g3 ls k) = (permV (atL ss (gt ds i)) (atL ss (gt ts j)) == (g3 ls k).2.2)) := by
                have hp := pm_yes (ss := ss) (ts := ts) (d := (g3 ls k).1) (t := (g3 ls k).2.1) Hf.out (by rw [hi]; exact HI.out) h0 (by rw [hj, show (j : Int) + 1 - 1 = (j : Int) by omega]; exact inC_yes (by omega))
                have hv : pmV ss ts ds (g3 ls k).1 (g3 ls k).2.1 = permV (atL ss (gt ds i)) (atL ss (gt ts j)) := by
                  rw [hp.2, hi, hj, show (j : Int) + 1 - 1 = (j : Int) by omega, HIL.out, inL_yes (by omega)]
                show _ = _
                rw [Bool.eq_iff_iff]
                simp [lineT, hp.1, hv]
              have et : decide (0 ≤ (j : Int) + 1 - 1 ∧ (j : Int) + 1 - 1 < (tn : Int)) = true := decide_eq_true (by omega)
              have e0 : ((j : Int) + 1 != 0) = true := by simp; omega
              rw [hi] at x0
              rw [hj] at x1
              clear hd h0 hi ht hj
              have HS0 : Hid (wr.drew.cell? ⟨b, off + k * 3, none⟩ = some (.int .i64 (i : Int)) ∧ wr.drew.cell? ⟨b, off + k * 3 + 1, none⟩ = some (.int .i64 ((j : Int) + 1)) ∧ wr.drew.cell? ⟨b, off + k * 3 + 2, none⟩ = some (.int .i64 (g3 ls k).2.2) ∧ wr.drew.cell? ⟨Q, 0, none⟩ = some (.slice ra rn rc) ∧ wr.drew.cell? ⟨Q, 1, none⟩ = some (.slice ta tn tc) ∧ wr.drew.cell? ⟨Q, 2, none⟩ = some (.slice da dn dc) ∧ Below wr.heap.size wr wr.drew) := ⟨x0, x1, x2, y0, y1, y2, (Below.refl _ _).drew⟩
              clear x0 x1 x2 y0 y1 y2 p1
              go_region_held2 (fun w' => w'.cell? ⟨b, off + k * 3, none⟩ = some (.int .i64 (i : Int)) ∧ w'.cell? ⟨b, off + k * 3 + 1, none⟩ = some (.int .i64 ((j : Int) + 1)) ∧ w'.cell? ⟨b, off + k * 3 + 2, none⟩ = some (.int .i64 (g3 ls k).2.2) ∧ w'.cell? ⟨Q, 0, none⟩ = some (.slice ra rn rc) ∧ w'.cell? ⟨Q, 1, none⟩ = some (.slice ta tn tc) ∧ w'.cell? ⟨Q, 2, none⟩ = some (.slice da dn dc) ∧ Below wr.heap.size wr w')
                (first | with_reducible exact HS0.out | with_reducible assumption)
                (first
                  | (go_at_call 66; refine (l3HasDomain_calls Q da dn dc _ _ (by omega) (And.left (And.right (And.right (And.right (And.right (And.right (by with_reducible assumption)))))))).mono ?_; rintro e wa ⟨rfl, ga⟩; rw [ed]; have ha := held6 (W := wr) kb kb kb kQ kQ kQ (by with_reducible assumption) ga; clear ga)
                  | (go_at_call 67; refine (l3HasTag_calls Q ta tn tc _ _ (by omega) (And.left (And.right (And.right (And.right (And.right (by with_reducible assumption))))))).mono ?_; rintro e wb ⟨rfl, gb⟩; rw [et]; have hb2 := held6 (W := wr) kb kb kb kQ kQ kQ ha gb; clear gb)
                  | (go_at_call 121; refine (l3Perm_calls Q ra rn rc ss ta tn tc ts da dn dc ds i j _ good (by omega) (by omega) (by have := hb2.2.2.2.2.2.2.size; omega) hb2.2.2.2.1 hb2.2.2.2.2.1 hb2.2.2.2.2.2.1 (hrr.below hb2.2.2.2.2.2.2 (Nat.le_refl _)) hA1 hA2 hid hjt).mono ?_; rintro e wc ⟨rfl, gc⟩; have hc2 := held6 (W := wr) kb kb kb kQ kQ kQ hb2 gc; clear gc))
              all_goals go_wp2_with fail
              all_goals go_meet
              all_goals exact ⟨by rw [HL.out]; rfl, hc2.2.2.2.2.2.2⟩
      case rest =>
        obtain ⟨rfl, gc⟩ := hcut
        obtain ⟨w2, rfl⟩ : ∃ x, x = wc := ⟨wc, rfl⟩
        have HB := hide (hbel.trans (gc.mono hbel.size))
        cases hT : lineT ss ts ds (g3 ls k) with
        | true =>
          have HN : Hid (∀ j, j < k + 1 → lineT ss ts ds (g3 ls j) = true) := fun j hj => by
            by_cases e : j = k
            · subst e; exact hT
            · exact hall j (by omega)
          clear hT gc x0 x1 x2 y0 y1 y2 p1 hbel
          go_wp2
          go_roundw
          case rel => exact ⟨k + 1, by omega, by go_num, HB.out, HN.out⟩
          case measure => simp [intOf]; omega
        | false =>
          have HR := hide (allT_no (ls := ls) (k := k) (by omega) hT)
          clear hT gc x0 x1 x2 y0 y1 y2 p1 hbel
          go_wp2
          go_ret
          exact ⟨ret_bool HR.out.symm, HB.out⟩
    · have HR := hide (allT_yes (ls := ls) (fun j hj => hall j (by omega)))
      go_wp2
      go_ret
      exact ⟨ret_bool HR.out.symm, hbel⟩

set_option maxRecDepth 100000 in
set_option maxHeartbeats 1000000 in
theorem l7Ends_calls (P : Nat) (da : Option Addr) (dn dc : Nat) (oa : Option Addr) (on oc : Nat) (os : List Int) (ga : Option Addr) (gn gc : Nat) (gs : List (Int × Int)) (w : World) (hdn : dn ≤ maxLen) (c2 : w.cell? ⟨P, 2, none⟩ = some (.slice da dn dc)) (c9 : w.cell? ⟨P, 9, none⟩ = some (.slice oa on oc)) (c10 : w.cell? ⟨P, 10, none⟩ = some (.slice ga gn gc)) (ho : Sl w oa on os) (hg : Swd w ga gn gs) :
    Calls Tryz.prog 70 #[.pointer (some ⟨P, 0, none⟩)] w fun e w' => e = .returned (.int .i64 (endsF dn os gs)) ∧ Below w.heap.size w w' := by
  obtain ⟨hol, ho⟩ := ho
  obtain ⟨hgl, hg⟩ := hg
  have lP := World.block_lt_of_cell? _ _ c2
  by_cases h40 : 40 < on
  · have HR : Hid (endsF dn os gs = 2) := by show _ = _; unfold endsF; rw [if_pos (by omega)]
    clear ho hg
    go_enter Tryz.func70, Tryz.ntmps70
    go_wp2
    go_ret
    exact ⟨ret_int HR.out.symm, Below.refl _ _⟩
  by_cases h3 : 3 < gn
  · have HR : Hid (endsF dn os gs = 2) := by show _ = _; unfold endsF; rw [if_pos (by omega)]
    clear ho hg
    go_enter Tryz.func70, Tryz.ntmps70
    go_wp2
    go_ret
    exact ⟨ret_int HR.out.symm, Below.refl _ _⟩
  have HX : Hid (endsF dn os gs = if os.all okv = true then (if gs.all (gateB dn) = true then 0 else 3) else 3) := by show _ = _; unfold endsF; rw [if_neg (by omega)]
  have b40 : (on : Int) ≤ 40 := by omega
  have b3 : (gn : Int) ≤ 3 := by omega
  go_enter Tryz.func70, Tryz.ntmps70
  go_wp2
  go_loop [3] (fun i => ∃ k : Nat, k ≤ on ∧ i = .int .i64 k ∧ ∀ j, j < k → okv (gt os j) = true) (fun i => on - (intOf i).toNat)
  case atStart => exact ⟨0, Nat.zero_le _, rfl, fun j hj => by omega⟩
  case round =>
    obtain ⟨k, hk, rfl, hno⟩ := hrel
    have Hno := hide hno
    clear hno
    by_cases hlt : k < on
    · obtain ⟨bk, off, rfl, hb, hc⟩ := ho (by omega)
      have hck := hc k hlt
      clear hc
      cases h2 : up (gt os k) 65535 with
      | false =>
        have HR : Hid (endsF dn os gs = 3) := by show _ = _; rw [HX.out, all_okv (k := k) (by omega) h2]; rfl
        clear HX
        go_wp2_with (go_at_call 71; refine (inUp_is _ _ _ _ h2).mono ?_; rintro e w' ⟨rfl, rfl⟩)
        go_ret
        exact ⟨ret_int HR.out.symm, Below.refl _ _⟩
      | true =>
        have HN : Hid (∀ j, j < k + 1 → okv (gt os j) = true) := fun j hj => by
          by_cases e : j = k
          · subst e; exact h2
          · exact Hno.out j (by omega)
        go_wp2_with (go_at_call 71; refine (inUp_is _ _ _ _ h2).mono ?_; rintro e w' ⟨rfl, rfl⟩)
        go_round
        case rel => exact ⟨k + 1, by omega, by go_num, HN.out⟩
        case measure => simp [intOf]; omega
    · have hall : os.all okv = true := all_okv_yes (fun j hj => Hno.out j (by omega))
      have HY : Hid (endsF dn os gs = if gs.all (gateB dn) = true then 0 else 3) := by show _ = _; rw [HX.out, if_pos hall]
      clear ho hall HX
      go_wp2
      go_loopw [4] (fun i wr => ∃ k : Nat, k ≤ gn ∧ i = .int .i64 k ∧ Below w.heap.size w wr ∧ ∀ j, j < k → gateB dn (gw gs j) = true) (fun i _ => gn - (intOf i).toNat)
      case atStart => exact ⟨0, Nat.zero_le _, rfl, Below.refl _ _, fun j hj => by omega⟩
      case round =>
        obtain ⟨q, hq, rfl, hbel, hnq⟩ := hrel
        have Hnq := hide hnq
        have d2 := (hbel.cell (p := ⟨P, 2, none⟩) lP).trans c2
        have d10 := (hbel.cell (p := ⟨P, 10, none⟩) lP).trans c10
        clear hnq c2 c9 c10
        by_cases hql : q < gn
        · obtain ⟨bk, off, rfl, hb, hc⟩ := hg (by omega)
          obtain ⟨r0, r1⟩ := cellsw hc hql
          have s0 := (hbel.cell (p := ⟨bk, off + q * 2, none⟩) hb).trans r0
          have s1 := (hbel.cell (p := ⟨bk, off + q * 2 + 1, none⟩) hb).trans r1
          have i0 : (0 : Int) ≤ (q : Int) := by omega
          have i1 : (q : Int) < (gn : Int) := by omega
          clear hc r0 r1
          cases h1 : up (gw gs q).1 ((dn : Int) - 1) with
          | false =>
            have HR : Hid (endsF dn os gs = 3) := by show _ = _; rw [HY.out, gates_no (k := q) (by omega) (by unfold gateB; rw [h1]; rfl)]; rfl
            clear HY
            go_wp2_with fail
            go_quiet (first | (go_at_call 66; refine Calls.quiet_of_same (hasDomain_is P da dn dc _ _ _ hdn d2 h1)))
            go_wp2
            go_ret
            exact ⟨ret_int HR.out.symm, bdrewN hbel _⟩
          | true =>
            cases h2 : up (gw gs q).2 65535 with
            | false =>
              have HR : Hid (endsF dn os gs = 3) := by show _ = _; rw [HY.out, gates_no (k := q) (by omega) (by unfold gateB okv; rw [h1, h2]; rfl)]; rfl
              clear HY
              go_wp2_with fail
              go_quiet (first | (go_at_call 66; refine Calls.quiet_of_same (hasDomain_is P da dn dc _ _ _ hdn d2 h1)) | (go_at_call 71; refine Calls.quiet_of_same (inUp_is _ _ _ _ h2)))
              go_wp2
              go_ret
              exact ⟨ret_int HR.out.symm, bdrewN hbel _⟩
            | true =>
              have HN : Hid (∀ j, j < q + 1 → gateB dn (gw gs j) = true) := fun j hj => by
                by_cases e : j = q
                · subst e; unfold gateB okv; rw [h1, h2]; rfl
                · exact Hnq.out j (by omega)
              go_wp2_with fail
              go_quiet (first | (go_at_call 66; refine Calls.quiet_of_same (hasDomain_is P da dn dc _ _ _ hdn d2 h1)) | (go_at_call 71; refine Calls.quiet_of_same (inUp_is _ _ _ _ h2)))
              go_wp2
              go_roundw
              case rel => exact ⟨q + 1, by omega, by go_num, bdrewN hbel _, HN.out⟩
              case measure => simp [intOf]; omega
        · have HR : Hid (endsF dn os gs = 0) := by show _ = _; rw [HY.out, if_pos (gates_yes (fun j hj => Hnq.out j (by omega)))]
          clear hg HY
          go_wp2
          go_ret
          exact ⟨ret_int HR.out.symm, hbel⟩

set_option maxRecDepth 100000 in
set_option maxHeartbeats 2000000 in
theorem l7Fault_calls (P : Nat) (A : SA) (D : SD) (w : World) (hp : Cs P [.slice A.a A.n A.c, .slice A.ta A.tn A.tc, .slice A.da A.dn A.dc, .slice A.wa A.wn A.wc, .slice A.xa A.xn A.xc, .int .i64 D.ac, .int .i64 D.cz, .slice A.la A.ln A.lc, .int .i64 D.dv, .slice A.oa A.on A.oc, .slice A.ga A.gn A.gc] w) (hr : RS w A D) :
    Calls Tryz.prog 26 #[.pointer (some ⟨P, 0, none⟩)] w fun e w' => e = .returned (.int .i64 (sysF D)) ∧ Below w.heap.size w w' := by
  obtain ⟨k0, k1, k2, k3, k4, k5, k6, k7⟩ := hr.len
  have lP := hp.1
  have M0 : Mm w w [] [(P, P + 1, Cs P [.slice A.a A.n A.c, .slice A.ta A.tn A.tc, .slice A.da A.dn A.dc, .slice A.wa A.wn A.wc, .slice A.xa A.xn A.xc, .int .i64 D.ac, .int .i64 D.cz, .slice A.la A.ln A.lc, .int .i64 D.dv, .slice A.oa A.on A.oc, .slice A.ga A.gn A.gc])] := (Mm.start w).fact Cs.loc hp
  have hdn := hr.rt.2.2.2.2.1
  go_enter Tryz.func26, Tryz.ntmps26
  go_wp2_with fail
  refine (l3Fault_calls P A.a A.n A.c D.ss A.ta A.tn A.tc D.ts A.da A.dn A.dc D.ds _ lP (hp.cell 0 rfl) (hp.cell 1 rfl) (hp.cell 2 rfl) hr.rt).mono ?_
  rintro e w1 ⟨rfl, g1⟩
  have M1 := M0.below g1
  clear g1 M0 hp
  by_cases t1 : tabF D.ss D.ts D.ds = 0
  rotate_left
  · have HR : Hid (sysF D = tabF D.ss D.ts D.ds) := by show _ = _; unfold sysF; rw [if_pos t1]
    have e1 : (tabF D.ss D.ts D.ds != 0) = true := by simpa using t1
    have HB := hide M1.bel
    clear M1 t1
    go_wp2
    go_ret
    exact ⟨ret_int HR.out.symm, HB.out⟩
  have e1 : (tabF D.ss D.ts D.ds != 0) = false := by simp [t1]
  have q1 := (M1.get 0 rfl).cell 1 rfl
  have q3 := (M1.get 0 rfl).cell 3 rfl
  have rw1 := hr.ws.below M1.bel (Nat.le_refl _)
  go_wp2_with fail
  go_quiet (first | (go_at_call 64; refine Calls.quiet_of_same (l6Fault3_calls P A.wa A.wn A.wc D.ws _ _ hr.wm q3 rw1)))
  have g2 : Below w1.heap.size w1 (w1.drewN nq) := bdrewN (Below.refl _ _) _
  obtain ⟨w2, hw2⟩ : ∃ x, x = w1.drewN nq := ⟨_, rfl⟩
  rw [← hw2] at g2 ⊢
  have M2 := M1.below g2
  clear hw2 g2 M1 q1 q3 rw1 e1
  by_cases t2 : mfC (A.tn : Int) D.ws = 0
  rotate_left
  · have HR : Hid (sysF D = mfC (A.tn : Int) D.ws) := by show _ = _; unfold sysF; rw [if_neg (by simp [t1]), k1, if_pos t2]
    have e1 : (mfC (A.tn : Int) D.ws != 0) = true := by simpa using t2
    have HB := hide M2.bel
    clear M2 t2 t1
    go_wp2
    go_ret
    exact ⟨ret_int HR.out.symm, HB.out⟩
  have e2 : (mfC (A.tn : Int) D.ws != 0) = false := by simp [t2]
  go_wp2_with fail
  refine (l7Contexts_calls P A.xa A.xn A.xc D.cs A.da A.dn A.dc _ hr.xm hdn ((M2.get 0 rfl).cell 4 rfl) ((M2.get 0 rfl).cell 2 rfl) (hr.xs.below M2.bel (Nat.le_refl _))).mono ?_
  rintro e w3 ⟨rfl, g3⟩
  have M3 := M2.below g3
  clear g3 M2 e2
  by_cases t3 : ctxsF A.dn D.cs = 0
  rotate_left
  · have HR : Hid (sysF D = ctxsF A.dn D.cs) := by show _ = _; unfold sysF; rw [if_neg (by simp [t1]), k1, if_neg (by simp [t2]), k2, if_pos t3]
    have e1 : (ctxsF A.dn D.cs != 0) = true := by simpa using t3
    have HB := hide M3.bel
    clear M3 t3 t2 t1
    go_wp2
    go_ret
    exact ⟨ret_int HR.out.symm, HB.out⟩
  have e3 : (ctxsF A.dn D.cs != 0) = false := by simp [t3]
  have s1 := (M3.get 0 rfl).cell 1 rfl
  have s2 := (M3.get 0 rfl).cell 2 rfl
  have s5 := (M3.get 0 rfl).cell 5 rfl
  have s8 := (M3.get 0 rfl).cell 8 rfl
  have HX : Hid (sysF D = if (up D.ac ((A.dn : Int) - 1) && hasT A.tn D.dv) = false then 4
      else if faultC D.cz D.ls ≠ 0 then faultC D.cz D.ls
      else if allT D.ss D.ts D.ds D.ls = false then 8
      else endsF A.dn D.os D.gs) := by show _ = _; unfold sysF; rw [if_neg (by simp [t1]), k1, if_neg (by simp [t2]), k2, if_neg (by simp [t3])]
  have Ht1 := hide t1
  clear t1 t2 t3
  cases h1 : up D.ac ((A.dn : Int) - 1) with
  | false =>
    have HR : Hid (sysF D = 4) := by show _ = _; rw [HX.out, h1]; rfl
    have HB := hide M3.bel
    clear M3 HX
    go_wp2_with fail
    go_quiet (first | (go_at_call 66; refine Calls.quiet_of_same (hasDomain_is P A.da A.dn A.dc _ _ _ hdn s2 h1)))
    go_wp2
    go_ret
    exact ⟨ret_int HR.out.symm, bdrewN HB.out _⟩
  | true =>
  cases h2 : hasT A.tn D.dv with
  | false =>
    have HR : Hid (sysF D = 4) := by show _ = _; rw [HX.out, h1, h2]; rfl
    have HB := hide M3.bel
    clear M3 HX
    go_wp2_with fail
    go_quiet (first | (go_at_call 66; refine Calls.quiet_of_same (hasDomain_is P A.da A.dn A.dc _ _ _ hdn s2 h1)) | (go_at_call 67; refine Calls.quiet_of_same (hasTag_is P A.ta A.tn A.tc _ _ _ s1 h2)))
    go_wp2
    go_ret
    exact ⟨ret_int HR.out.symm, bdrewN HB.out _⟩
  | true =>
  have HY : Hid (sysF D = if faultC D.cz D.ls ≠ 0 then faultC D.cz D.ls
      else if allT D.ss D.ts D.ds D.ls = false then 8
      else endsF A.dn D.os D.gs) := by show _ = _; rw [HX.out, h1, h2, if_neg (by simp)]
  clear HX
  go_wp2_with fail
  go_quiet (first | (go_at_call 66; refine Calls.quiet_of_same (hasDomain_is P A.da A.dn A.dc _ _ _ hdn s2 h1)) | (go_at_call 67; refine Calls.quiet_of_same (hasTag_is P A.ta A.tn A.tc _ _ _ s1 h2)))
  have g4 : Below w3.heap.size w3 (w3.drewN nq) := bdrewN (Below.refl _ _) _
  obtain ⟨w4, hw4⟩ : ∃ x, x = w3.drewN nq := ⟨_, rfl⟩
  rw [← hw4] at g4 ⊢
  have M4 := M3.below g4
  clear hw4 g4 M3 s1 s2 s5 s8 e3 h1 h2
  go_wp2_with fail
  refine (l4Fault7_calls P D.cz A.la A.ln A.lc D.ls _ hr.lm ((M4.get 0 rfl).cell 6 rfl) ((M4.get 0 rfl).cell 7 rfl) (hr.ls.below M4.bel (Nat.le_refl _))).mono ?_
  rintro e w5 ⟨rfl, g5⟩
  have M5 := M4.below g5
  clear g5 M4
  by_cases t4 : faultC D.cz D.ls = 0
  rotate_left
  · have HR : Hid (sysF D = faultC D.cz D.ls) := by show _ = _; rw [HY.out, if_pos t4]
    have e1 : (faultC D.cz D.ls != 0) = true := by simpa using t4
    have HB := hide M5.bel
    clear M5 t4 HY
    go_wp2
    go_ret
    exact ⟨ret_int HR.out.symm, HB.out⟩
  have e4 : (faultC D.cz D.ls != 0) = false := by simp [t4]
  have HZ : Hid (sysF D = if allT D.ss D.ts D.ds D.ls = false then 8 else endsF A.dn D.os D.gs) := by show _ = _; rw [HY.out, if_neg (by simp [t4])]
  clear HY t4
  have lP5 : P < w5.heap.size := (M5.get 0 rfl).1
  have rt5 := hr.rt.below M5.bel (Nat.le_refl _)
  have rl5 := hr.ls.below M5.bel (Nat.le_refl _)
  have HS0 : Hid (Below w5.heap.size w5 w5.drew) := (Below.refl _ _).drew
  have HP5 := hide (M5.get 0 rfl)
  go_wp2_with fail
  go_region_held2 (fun w' => Below w5.heap.size w5 w')
    (first | with_reducible exact HS0.out | with_reducible assumption)
    (first
      | (go_at_call 69; refine (l4True7_calls P P A.la A.ln A.lc D.ls A.a A.n A.c D.ss A.ta A.tn A.tc D.ts A.da A.dn A.dc D.ds _ hr.lm (Nat.lt_of_lt_of_le lP5 (Below.size (by with_reducible assumption))) (Nat.lt_of_lt_of_le lP5 (Below.size (by with_reducible assumption))) ((Cs.loc.belowB HP5.out (by with_reducible assumption)).cell 7 rfl) ((Cs.loc.belowB HP5.out (by with_reducible assumption)).cell 0 rfl) ((Cs.loc.belowB HP5.out (by with_reducible assumption)).cell 1 rfl) ((Cs.loc.belowB HP5.out (by with_reducible assumption)).cell 2 rfl) (rl5.below (by with_reducible assumption) (Nat.le_refl _)) (rt5.below (by with_reducible assumption) (Nat.le_refl _)) Ht1.out).mono ?_; rintro e v1 ⟨rfl, ga⟩; have hs1 := Below.trans (by with_reducible assumption : Below w5.heap.size w5 _) (ga.mono (Below.size (by with_reducible assumption))); clear ga))
  have M6 := M5.below hs1
  clear HS0 HP5 rt5 rl5 hs1 M5 e4
  cases h4 : allT D.ss D.ts D.ds D.ls with
  | false =>
    have HR : Hid (sysF D = 8) := by show _ = _; rw [HZ.out, if_pos h4]
    have HB := hide M6.bel
    clear M6 HZ
    go_wp2
    go_ret
    exact ⟨ret_int HR.out.symm, HB.out⟩
  | true =>
    have HR : Hid (sysF D = endsF A.dn D.os D.gs) := by show _ = _; rw [HZ.out, if_neg (by simp [h4])]
    clear HZ
    go_wp2_with fail
    refine (l7Ends_calls P A.da A.dn A.dc A.oa A.on A.oc D.os A.ga A.gn A.gc D.gs _ hdn ((M6.get 0 rfl).cell 2 rfl) ((M6.get 0 rfl).cell 9 rfl) ((M6.get 0 rfl).cell 10 rfl) (hr.os.below M6.bel (Nat.le_refl _)) (hr.gs.below M6.bel (Nat.le_refl _))).mono ?_
    rintro e w7 ⟨rfl, g7⟩
    have HB := hide (M6.below g7).bel
    clear M6 g7
    go_wp2
    go_ret
    exact ⟨ret_int HR.out.symm, HB.out⟩

end Go.Proofs.YtnlkigjgloeonaaGreat
