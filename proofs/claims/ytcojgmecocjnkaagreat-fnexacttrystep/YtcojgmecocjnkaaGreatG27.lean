import Derived.Test.YtcojgmecocjnkaaGreatG17
import Derived.Test.YtcojgmecocjnkaaGreatG34
import Derived.WalkKit
import Derived.ProofKit
import Derived.OpenShut
import Derived.ShutString
import Derived.ChangeOld
import Derived.Below
import Derived.WalkSpells
import Derived.Deep.QuietTactic
import Derived.BigQuiet
import Derived.Deep.RegionWith
import Derived.Deep.WholeRow
import Derived.Deep.DeepCutAuto
import Derived.Deep.RegionHeld2
import Derived.Deep.AppendLies
import Derived.Deep.RegionLaw
namespace Go.Proofs.YtcojgmecocjnkaaGreat
open Go.ChangeShapes Go.WideShapes Go.ChangeAt Go.RowKit

set_option maxRecDepth 100000 in
theorem l4AtO_calls (P o : Nat) (a : Option Addr) (n c : Nat) (ls : List (Int × Int × Int)) (d t : Int) (w : World) (hn : n ≤ maxLen) (h0 : w.cell? ⟨P, o + 1, none⟩ = some (.slice a n c)) (hs : Sln w a n ls) :
    Calls Tryz.prog 150 #[.pointer (some ⟨P, o, none⟩), .int .i64 d, .int .i64 t] w fun e w' => e = .returned (.int .i64 (atK ls d t)) ∧ w' = w := by
  unfold maxLen at hn
  obtain ⟨hlen, hs⟩ := hs
  go_enter Tryz.func150, Tryz.ntmps150
  go_wp2
  go_loop [7] (fun i => ∃ k : Nat, k ≤ n ∧ i = .int .i64 k ∧ ∀ j, j < k → hitL d t (g3 ls j) = false) (fun i => n - (intOf i).toNat)
  case atStart => exact ⟨0, Nat.zero_le _, rfl, fun j hj => by omega⟩
  case round =>
    obtain ⟨k, hk, rfl, hno⟩ := hrel
    by_cases hlt : k < n
    · obtain ⟨b, off, rfl, hb, hc⟩ := hs (by omega)
      obtain ⟨hc0, hc1, _⟩ := cells3 hc hlt
      clear hc
      by_cases h1 : (g3 ls k).1 = d
      · have e1 : ((g3 ls k).1 == d) = true := by simpa using h1
        by_cases h2 : (g3 ls k).2.1 = t
        · have e2 : ((g3 ls k).2.1 == t) = true := by simpa using h2
          have HR := hide (atK_hit (by omega) hno (show hitL d t (g3 ls k) = true by simp [hitL, h1, h2]))
          clear h1 h2
          go_wp2
          go_ret
          exact ⟨ret_int HR.out.symm, rfl⟩
        · have e2 : ((g3 ls k).2.1 == t) = false := by simpa using h2
          have HN : Hid (∀ j, j < k + 1 → hitL d t (g3 ls j) = false) := fun j hj => by
            by_cases e : j = k
            · subst e; simp [hitL, h2]
            · exact hno j (by omega)
          clear h1 h2
          go_wp2
          go_round
          case rel => exact ⟨k + 1, by omega, by go_num, HN.out⟩
          case measure => simp [intOf]; omega
      · have e1 : ((g3 ls k).1 == d) = false := by simpa using h1
        have HN : Hid (∀ j, j < k + 1 → hitL d t (g3 ls j) = false) := fun j hj => by
          by_cases e : j = k
          · subst e; simp [hitL, h1]
          · exact hno j (by omega)
        clear h1
        go_wp2
        go_round
        case rel => exact ⟨k + 1, by omega, by go_num, HN.out⟩
        case measure => simp [intOf]; omega
    · have HR := hide (atK_none (ls := ls) (fun j hj => hno j (by omega)))
      go_wp2
      go_ret
      exact ⟨ret_int HR.out.symm, rfl⟩

/-- a number modulo 65536. -/
def wrp (v : Int) : Int := v % 65536

theorem wrp_in (v : Int) : 0 ≤ wrp v ∧ wrp v ≤ 65535 := by unfold wrp; omega

/-- how an asking for a tag with a bit goes. -/
def askK (D : SD) (tag bit : Int) : Int := if atK D.ls D.ac tag < 0 then 2 else if (g3 D.ls (atK D.ls D.ac tag).toNat).2.2 / bit % 2 = 0 then 3 else 1

/-- how an asking for a word goes, and its tag. -/
def plK (D : SD) (p bit : Int) : Int := if up p ((D.ws.length : Int) - 1) = true then askK D (gw D.ws p.toNat).2 bit else 3

def plT (D : SD) (p : Int) : Int := if up p ((D.ws.length : Int) - 1) = true then (gw D.ws p.toNat).2 else 0

theorem askK_cases (D : SD) (tag bit : Int) : askK D tag bit = 1 ∨ askK D tag bit = 2 ∨ askK D tag bit = 3 := by
  unfold askK
  split
  · exact .inr (.inl rfl)
  · split
    · exact .inr (.inr rfl)
    · exact .inl rfl

theorem plK_cases (D : SD) (p bit : Int) : plK D p bit = 1 ∨ plK D p bit = 2 ∨ plK D p bit = 3 := by
  unfold plK
  split
  · exact askK_cases _ _ _
  · exact .inr (.inr rfl)

set_option maxRecDepth 100000 in
theorem l7Wrap_calls (v : Int) (w : World) (h1 : -65536 ≤ v) (h2 : v ≤ 1048576) :
    Calls Tryz.prog 82 #[.int .i64 v] w fun e w' => e = .returned (.int .i64 (wrp v)) ∧ w' = w := by
  by_cases h0 : 0 ≤ v
  · have HE : Hid ((v % 65536 + 65536) % 65536 = wrp v) := by show _ = _; unfold wrp; omega
    go_enter Tryz.func82, Tryz.ntmps82
    go_wp2
    go_ret
    exact ⟨ret_int (by first | exact HE.out | (have := HE.out; omega)), rfl⟩
  · have ht : v.tmod 65536 = -((-v) % 65536) := by
      have h : v = -(-v) := by omega
      rw [h, Int.neg_tmod, Int.tmod_eq_emod_of_nonneg (by omega)]
      simp
    have HE : Hid ((-((-v) % 65536) + 65536) % 65536 = wrp v) := by show _ = _; unfold wrp; omega
    have b1 : 0 ≤ -((-v) % 65536) + 65536 := by omega
    go_enter Tryz.func82, Tryz.ntmps82
    go_wp2
    go_ret
    exact ⟨ret_int (by first | exact HE.out | (simp only [ht]; exact HE.out) | (have := HE.out; omega)), rfl⟩

/-- the cells of a block from o on. -/
def CsO (P o : Nat) (vs : List Value) (w : World) : Prop := ∀ i, i < vs.length → w.cell? ⟨P, o + i, none⟩ = some (vs.getD i undef)

theorem CsO.cell {P o : Nat} {vs : List Value} {w : World} (h : CsO P o vs w) (i : Nat) {v : Value} (hv : vs[i]? = some v) : w.cell? ⟨P, o + i, none⟩ = some v := by
  obtain ⟨hi, e⟩ := List.getElem?_eq_some_iff.1 hv
  rw [h i hi]
  simp [hi, e]

set_option maxRecDepth 100000 in
theorem l6Has_is (P o : Nat) (a : Option Addr) (n c : Nat) (p : Int) (b : Bool) (w : World) (hn : n ≤ maxLen) (hc : w.cell? ⟨P, o, none⟩ = some (.slice a n c)) (hb : up p ((n : Int) - 1) = b) :
    Calls Tryz.prog 152 #[.pointer (some ⟨P, o, none⟩), .int .i64 p] w fun e w' => e = .returned (.bool b) ∧ w' = w := by
  unfold maxLen at hn
  subst hb
  go_enter Tryz.func152, Tryz.ntmps152
  go_wp2_with fail
  refine (inUp_calls _ _ _).mono ?_
  rintro e w' ⟨rfl, rfl⟩
  go_wp2
  go_ret
  exact ⟨rfl, rfl⟩

/-- the rows of a cache that a step goes on with: few, each one within its bounds. -/
def LB (ls : List (Int × Int × Int)) : Prop := ls.length ≤ 8 ∧ ∀ j, j < ls.length → okL (g3 ls j) = true

theorem LB.of {s : Int} {ls : List (Int × Int × Int)} (h : faultC s ls = 0) : LB ls := by
  obtain ⟨h1, h2, h3, h4⟩ := faultC_inv h
  exact ⟨by omega, fun j hj => (h4 j hj).1⟩

/-- a bit that may be asked for, and a Perm of a right line. -/
theorem perm_in {ls : List (Int × Int × Int)} (h : LB ls) {j : Nat} (hj : j < ls.length) : 0 ≤ (g3 ls j).2.2 ∧ (g3 ls j).2.2 ≤ 7 := by
  have h1 := h.2 j hj
  unfold okL at h1
  simp at h1
  omega

set_option maxRecDepth 100000 in
theorem l7Asked_calls (P o : Nat) (A : SA) (D : SD) (tag bit : Int) (w : World) (hf : LB D.ls) (hb : bit = 1 ∨ bit = 2 ∨ bit = 4) (hp : CsO P o [.slice A.a A.n A.c, .slice A.ta A.tn A.tc, .slice A.da A.dn A.dc, .slice A.wa A.wn A.wc, .slice A.xa A.xn A.xc, .int .i64 D.ac, .int .i64 D.cz, .slice A.la A.ln A.lc, .int .i64 D.dv, .slice A.oa A.on A.oc, .slice A.ga A.gn A.gc] w) (hr : RS w A D) :
    Calls Tryz.prog 153 #[.pointer (some ⟨P, o, none⟩), .int .i64 tag, .int .i64 bit] w fun e w' => e = .returned (.int .i64 (askK D tag bit)) ∧ Below w.heap.size w w' := by
  have c5 := hp.cell 5 rfl
  have c7 := hp.cell 7 rfl
  have e7 : o + 6 + 1 = o + 7 := by omega
  have hl := atK_lt D.ls D.ac tag
  have hlen := hr.ls.1
  by_cases hat : atK D.ls D.ac tag < 0
  · have HR : Hid (askK D tag bit = 2) := by show _ = _; unfold askK; rw [if_pos hat]
    have hAT : ∀ n : Nat, Calls Tryz.prog 150 #[.pointer (some ⟨P, o + 6, none⟩), .int .i64 D.ac, .int .i64 tag] (w.drewN n) fun e w' => e = .returned (.int .i64 (atK D.ls D.ac tag)) ∧ w' = w.drewN n := fun n =>
      l4AtO_calls P (o + 6) A.la A.ln A.lc D.ls _ _ _ hr.lm (by rw [e7]; exact c7) (hr.ls.below (bdrewN (Below.refl _ _) _) (Nat.le_refl _))
    have HAT := hide hAT
    clear hAT hp
    go_enter Tryz.func153, Tryz.ntmps153
    go_wp2_with fail
    go_quiet (first | (go_at_call 150; refine Calls.quiet_of_same (HAT.out _)))
    go_wp2
    go_ret
    exact ⟨ret_int HR.out.symm, bdrewN (Below.refl _ _) _⟩
  · obtain ⟨j, hj⟩ : ∃ j : Nat, atK D.ls D.ac tag = (j : Int) := ⟨(atK D.ls D.ac tag).toNat, by omega⟩
    have hjn : j < A.ln := by omega
    obtain ⟨pl, ph⟩ := perm_in hf (j := j) (by omega)
    obtain ⟨bk, off, hla, hbk, hc⟩ := hr.ls.2 (by omega)
    obtain ⟨_, _, r2⟩ := cells3 hc hjn
    have HX : Hid (askK D tag bit = if (g3 D.ls j).2.2 / bit % 2 = 0 then 3 else 1) := by
      show _ = _
      unfold askK
      rw [if_neg hat, hj]
      rfl
    have hat2 : Hid (atK D.ls D.ac tag = (j : Int)) := hj
    have i0 : (0 : Int) ≤ (j : Int) := by omega
    have i1 : (j : Int) < (A.ln : Int) := by omega
    generalize (g3 D.ls j).2.2 = pv at *
    have hAT : ∀ n : Nat, Calls Tryz.prog 150 #[.pointer (some ⟨P, o + 6, none⟩), .int .i64 D.ac, .int .i64 tag] (w.drewN n) fun e w' => e = .returned (.int .i64 (j : Int)) ∧ w' = w.drewN n := fun n => by
      rw [← hat2.out]
      exact l4AtO_calls P (o + 6) A.la A.ln A.lc D.ls _ _ _ hr.lm (by rw [e7]; exact c7) (hr.ls.below (bdrewN (Below.refl _ _) _) (Nat.le_refl _))
    have HAT := hide hAT
    have c7' := c7
    rw [hla] at c7'
    clear hc hat hl hj hp hAT c7 hla
    rcases hb with rfl | rfl | rfl
    · have HX' : Hid (askK D tag 1 = if pv % 2 = 0 then 3 else 1) := by show _ = _; rw [HX.out]; rw [Int.ediv_one]
      by_cases hz : pv % 2 = 0
      · have HR : Hid (askK D tag 1 = 3) := by show _ = _; rw [HX'.out, if_pos hz]
        have ez : (pv % 2 == 0) = true := by simpa using hz
        clear HX HX'
        go_enter Tryz.func153, Tryz.ntmps153
        go_wp2_with fail
        go_quiet (first | (go_at_call 150; refine Calls.quiet_of_same (HAT.out _)))
        go_wp2
        go_ret
        exact ⟨ret_int HR.out.symm, bdrewN (Below.refl _ _) _⟩
      · have HR : Hid (askK D tag 1 = 1) := by show _ = _; rw [HX'.out, if_neg hz]
        have ez : (pv % 2 == 0) = false := by simpa using hz
        clear HX HX'
        go_enter Tryz.func153, Tryz.ntmps153
        go_wp2_with fail
        go_quiet (first | (go_at_call 150; refine Calls.quiet_of_same (HAT.out _)))
        go_wp2
        go_ret
        exact ⟨ret_int HR.out.symm, bdrewN (Below.refl _ _) _⟩
    · have HX' : Hid (askK D tag 2 = if pv / 2 % 2 = 0 then 3 else 1) := by show _ = _; rw [HX.out]
      by_cases hz : pv / 2 % 2 = 0
      · have HR : Hid (askK D tag 2 = 3) := by show _ = _; rw [HX'.out, if_pos hz]
        have ez : (pv / 2 % 2 == 0) = true := by simpa using hz
        clear HX HX'
        go_enter Tryz.func153, Tryz.ntmps153
        go_wp2_with fail
        go_quiet (first | (go_at_call 150; refine Calls.quiet_of_same (HAT.out _)))
        go_wp2
        go_ret
        exact ⟨ret_int HR.out.symm, bdrewN (Below.refl _ _) _⟩
      · have HR : Hid (askK D tag 2 = 1) := by show _ = _; rw [HX'.out, if_neg hz]
        have ez : (pv / 2 % 2 == 0) = false := by simpa using hz
        clear HX HX'
        go_enter Tryz.func153, Tryz.ntmps153
        go_wp2_with fail
        go_quiet (first | (go_at_call 150; refine Calls.quiet_of_same (HAT.out _)))
        go_wp2
        go_ret
        exact ⟨ret_int HR.out.symm, bdrewN (Below.refl _ _) _⟩
    · have HX' : Hid (askK D tag 4 = if pv / 4 % 2 = 0 then 3 else 1) := by show _ = _; rw [HX.out]
      by_cases hz : pv / 4 % 2 = 0
      · have HR : Hid (askK D tag 4 = 3) := by show _ = _; rw [HX'.out, if_pos hz]
        have ez : (pv / 4 % 2 == 0) = true := by simpa using hz
        clear HX HX'
        go_enter Tryz.func153, Tryz.ntmps153
        go_wp2_with fail
        go_quiet (first | (go_at_call 150; refine Calls.quiet_of_same (HAT.out _)))
        go_wp2
        go_ret
        exact ⟨ret_int HR.out.symm, bdrewN (Below.refl _ _) _⟩
      · have HR : Hid (askK D tag 4 = 1) := by show _ = _; rw [HX'.out, if_neg hz]
        have ez : (pv / 4 % 2 == 0) = false := by simpa using hz
        clear HX HX'
        go_enter Tryz.func153, Tryz.ntmps153
        go_wp2_with fail
        go_quiet (first | (go_at_call 150; refine Calls.quiet_of_same (HAT.out _)))
        go_wp2
        go_ret
        exact ⟨ret_int HR.out.symm, bdrewN (Below.refl _ _) _⟩

set_option maxRecDepth 100000 in
theorem l7Place_calls (P o : Nat) (A : SA) (D : SD) (p bit : Int) (w : World) (hf : LB D.ls) (hb : bit = 1 ∨ bit = 2 ∨ bit = 4) (hp : CsO P o [.slice A.a A.n A.c, .slice A.ta A.tn A.tc, .slice A.da A.dn A.dc, .slice A.wa A.wn A.wc, .slice A.xa A.xn A.xc, .int .i64 D.ac, .int .i64 D.cz, .slice A.la A.ln A.lc, .int .i64 D.dv, .slice A.oa A.on A.oc, .slice A.ga A.gn A.gc] w) (hr : RS w A D) :
    Calls Tryz.prog 80 #[.pointer (some ⟨P, o, none⟩), .int .i64 p, .int .i64 bit] w fun e w' => e = .returned (.tuple #[.int .i64 (plK D p bit), .int .i64 (plT D p)]) ∧ Below w.heap.size w w' := by
  have c3 := hp.cell 3 rfl
  have hlen := hr.ws.1
  cases hu : up p ((A.wn : Int) - 1) with
  | false =>
    have HR : Hid (plK D p bit = 3 ∧ plT D p = 0) := ⟨by unfold plK; rw [hlen, hu]; rfl, by unfold plT; rw [hlen, hu]; rfl⟩
    go_enter Tryz.func80, Tryz.ntmps80
    go_wp2_with fail
    refine (l6Has_is P (o + 3) A.wa A.wn A.wc _ _ _ hr.wm c3 hu).mono ?_
    rintro e w' ⟨rfl, hw'⟩
    rw [hw']
    go_wp2
    refine bodyPost_ret (v := .tuple #[.int .i64 3, .int .i64 0]) (by simp [results, Tryz.results80, go_sem]) rfl ⟨by rw [HR.out.1, HR.out.2], Below.refl _ _⟩
  | true =>
    have hux := up_iff.1 hu
    obtain ⟨j, rfl⟩ : ∃ j : Nat, p = (j : Int) := ⟨p.toNat, by omega⟩
    have hj : j < A.wn := by omega
    have HR : Hid (plK D (j : Int) bit = askK D (gw D.ws j).2 bit ∧ plT D (j : Int) = (gw D.ws j).2) := ⟨by unfold plK; rw [hlen, if_pos hu]; rfl, by unfold plT; rw [hlen, if_pos hu]; rfl⟩
    obtain ⟨bk, off, hwa, hbk, hc⟩ := hr.ws.2 (by omega)
    obtain ⟨_, r1⟩ := cellsw hc hj
    have c3' := c3
    rw [hwa] at c3'
    have i0 : (0 : Int) ≤ (j : Int) := by omega
    have i1 : (j : Int) < (A.wn : Int) := by omega
    clear hc hux hwa
    go_enter Tryz.func80, Tryz.ntmps80
    go_wp2_with fail
    refine (l6Has_is P (o + 3) A.wa A.wn A.wc _ _ _ hr.wm c3 hu).mono ?_
    rintro e w' ⟨rfl, hw'⟩
    rw [hw']
    clear hw' w' c3
    go_wp2_with fail
    refine (l7Asked_calls P o A D _ bit _ hf hb hp hr).mono ?_
    rintro e w1 ⟨rfl, g1⟩
    clear hp
    go_wp2
    refine bodyPost_ret (v := .tuple #[.int .i64 (askK D (gw D.ws j).2 bit), .int .i64 (gw D.ws j).2]) (by simp [results, Tryz.results80, go_sem]) rfl ⟨by rw [HR.out.1, HR.out.2], g1⟩

theorem gx_set (cs : List (List Int × Int × Bool)) {i : Nat} (hi : i < cs.length) (x : List Int × Int × Bool) (j : Nat) : gx (cs.set i x) j = if j = i then x else gx cs j := by
  unfold gx
  by_cases e : j = i
  · subst e; simp [hi]
  · rw [if_neg e]
    simp [Ne.symm e]

theorem gt_set (zs : List Int) {i : Nat} (hi : i < zs.length) (x : Int) (j : Nat) : gt (zs.set i x) j = if j = i then x else gt zs j := by
  unfold gt
  by_cases e : j = i
  · subst e; simp [hi]
  · rw [if_neg e]
    simp [Ne.symm e]

theorem gw_set (ws : List (Int × Int)) {i : Nat} (hi : i < ws.length) (x : Int × Int) (j : Nat) : gw (ws.set i x) j = if j = i then x else gw ws j := by
  unfold gw
  by_cases e : j = i
  · subst e; simp [hi]
  · rw [if_neg e]
    simp [Ne.symm e]

theorem lenX_set {cs : List (List Int × Int × Bool)} {i : Nat} (hi : i < cs.length) {x : List Int × Int × Bool} (hx : x.1.length = (gx cs i).1.length) : lenX (cs.set i x) = lenX cs :=
  lenX_congr _ _ (by simp) (fun j hj => by
    rw [gx_set cs hi]
    by_cases e : j = i
    · subst e; rw [if_pos rfl, hx]
    · rw [if_neg e])

/-- one number of a block is written. -/
theorem Blk.set {w : World} {b : Nat} {zs : List Int} (h : Blk w b zs) {i : Nat} (hi : i < zs.length) (v : Int) : Blk (w.setCell ⟨b, i, none⟩ (.int .i64 v)) b (zs.set i v) := by
  refine ⟨by simpa using h.1, fun j hj => ?_, fun j => by simpa using h.2.2 j⟩
  rw [List.length_set] at hj
  rw [gt_set zs hi]
  by_cases e : j = i
  · subst e; rw [if_pos rfl]; exact World.cell?_setCell_same _ _ _ (h.2.1 j hj)
  · rw [if_neg e, World.cell?_setCell_other _ _ _ _ (fun h => by injection h with _ h2; exact e h2.symm)]; exact h.2.1 j hj

/-- a context among owned ones: where its registers lie; what is written into it. -/
theorem OX.at {S : Nat → Prop} {a : Option Addr} {n : Nat} {cs : List (List Int × Int × Bool)} {w : World} (h : OX S a n cs w) {i : Nat} (hi : i < n) (h8 : 0 < (gx cs i).1.length) :
    ∃ N b lc, a = some ⟨N, 0, none⟩ ∧ S N ∧ S b ∧ b ≠ N ∧ w.cell? ⟨N, i * 3, none⟩ = some (.slice (some ⟨b, 0, none⟩) (gx cs i).1.length lc) ∧ w.cell? ⟨N, i * 3 + 1, none⟩ = some (.int .i64 (gx cs i).2.1) ∧ w.cell? ⟨N, i * 3 + 2, none⟩ = some (.bool (gx cs i).2.2) ∧ (∀ j, w.frozen? ⟨N, j, none⟩ = false) ∧ Blk w b (gx cs i).1 ∧
      (∀ v, OX S (some ⟨N, 0, none⟩) n (cs.set i ((gx cs i).1, v, (gx cs i).2.2)) (w.setCell ⟨N, i * 3 + 1, none⟩ (.int .i64 v))) ∧
      (∀ v, OX S (some ⟨N, 0, none⟩) n (cs.set i ((gx cs i).1, (gx cs i).2.1, v)) (w.setCell ⟨N, i * 3 + 2, none⟩ (.bool v))) ∧
      (∀ k v, k < (gx cs i).1.length → OX S (some ⟨N, 0, none⟩) n (cs.set i ((gx cs i).1.set k v, (gx cs i).2.1, (gx cs i).2.2)) (w.setCell ⟨b, k, none⟩ (.int .i64 v))) := by
  obtain ⟨h1, h2, h3⟩ := h
  rcases h3 with h3 | ⟨N, la, lc, lb, rfl, hb⟩
  · omega
  · have hil : i < cs.length := by omega
    obtain ⟨_, _, o3⟩ := hb.os i hi
    rcases o3 with o3 | ⟨b, hla, ⟨hbl, _⟩, blk⟩
    · omega
    · have hc0 := hb.c0 i hi
      rw [hla] at hc0
      subst hbl
      have mk : ∀ x : List Int × Int × Bool, x.1.length = (gx cs i).1.length → ∀ w', OXb S N n la lc lb (fun j => if j = i then x.1 else (gx cs j).1) (fun j => if j = i then x.2.1 else (gx cs j).2.1) (fun j => if j = i then x.2.2 else (gx cs j).2.2) w' → OX S (some ⟨N, 0, none⟩) n (cs.set i x) w' := fun x hx w' hw' =>
        ⟨by simpa using h1, by rw [lenX_set hil hx]; exact h2, .inr ⟨N, la, lc, lb, rfl, hw'.congr (fun j _ => by rw [gx_set cs hil]; by_cases e : j = i <;> simp [e]) (fun j _ => by rw [gx_set cs hil]; by_cases e : j = i <;> simp [e]) (fun j _ => by rw [gx_set cs hil]; by_cases e : j = i <;> simp [e])⟩⟩
      refine ⟨N, lb i, lc i, rfl, hb.hS, hb.lS i hi h8, hb.ne i hi h8, hc0, hb.c1 i hi, hb.c2 i hi, hb.fz, blk, fun v => ?_, fun v => ?_, fun k v hk => ?_⟩
      · refine mk ((gx cs i).1, v, (gx cs i).2.2) rfl _ ((hb.setPc hi v).congr (fun j _ => ?_) (fun j _ => ?_) (fun j _ => ?_))
        · by_cases e : j = i
          · subst e; rw [if_pos rfl]
          · rw [if_neg e]
        · rfl
        · by_cases e : j = i
          · subst e; rw [if_pos rfl]
          · rw [if_neg e]
      · refine mk ((gx cs i).1, (gx cs i).2.1, v) rfl _ ((hb.setHalt hi v).congr (fun j _ => ?_) (fun j _ => ?_) (fun j _ => ?_))
        · by_cases e : j = i
          · subst e; rw [if_pos rfl]
          · rw [if_neg e]
        · by_cases e : j = i
          · subst e; rw [if_pos rfl]
          · rw [if_neg e]
        · rfl
      · refine mk ((gx cs i).1.set k v, (gx cs i).2.1, (gx cs i).2.2) (by simp) _ ((hb.setRegs hi (zs := (gx cs i).1.set k v) (by simp) ((OutS.refl _ _).setCell ⟨rfl, h8⟩ _) ⟨by simp, by have := gx_le cs i hil; omega, .inr ⟨lb i, hla, ⟨rfl, h8⟩, blk.set hk v⟩⟩).congr (fun j _ => rfl) (fun j _ => ?_) (fun j _ => ?_))
        · by_cases e : j = i
          · subst e; rw [if_pos rfl]
          · rw [if_neg e]
        · by_cases e : j = i
          · subst e; rw [if_pos rfl]
          · rw [if_neg e]

theorem flw_set (ws : List (Int × Int)) {i : Nat} (hi : i < ws.length) (v : Int) : (flw ws).set (i * 2) v = flw (ws.set i (v, (gw ws i).2)) := by
  refine getD_ext (by rw [List.length_set, length_flw, length_flw, List.length_set]) (fun j hj => ?_)
  rw [List.length_set, length_flw] at hj
  rw [gt_set _ (by rw [length_flw]; omega)]
  obtain ⟨a0, a1⟩ := gt_flw ws (j / 2)
  obtain ⟨b0, b1⟩ := gt_flw (ws.set i (v, (gw ws i).2)) (j / 2)
  rw [gw_set ws hi] at b0 b1
  rcases (show j = j / 2 * 2 ∨ j = j / 2 * 2 + 1 by omega) with e | e
  · rw [← e] at a0 b0
    rw [b0]
    by_cases e2 : j = i * 2
    · rw [if_pos e2, if_pos (by omega)]
    · rw [if_neg e2, if_neg (by omega)]; exact a0
  · rw [← e] at a1 b1
    rw [b1, if_neg (by omega)]
    by_cases e2 : j / 2 = i
    · rw [if_pos e2, a1, e2]
    · rw [if_neg e2]; exact a1

/-- a word among owned ones; its value is written. -/
theorem OWd.at {S : Nat → Prop} {a : Option Addr} {n : Nat} {ws : List (Int × Int)} {w : World} (h : OWd S a n ws w) {i : Nat} (hi : i < n) :
    ∃ b, a = some ⟨b, 0, none⟩ ∧ S b ∧ b < w.heap.size ∧ w.cell? ⟨b, i * 2, none⟩ = some (.int .i64 (gw ws i).1) ∧ w.cell? ⟨b, i * 2 + 1, none⟩ = some (.int .i64 (gw ws i).2) ∧ (∀ j, w.frozen? ⟨b, j, none⟩ = false) ∧
      ∀ v, OWd S (some ⟨b, 0, none⟩) n (ws.set i (v, (gw ws i).2)) (w.setCell ⟨b, i * 2, none⟩ (.int .i64 v)) := by
  obtain ⟨h1, h2, h3⟩ := h
  rcases h3 with h3 | ⟨b, rfl, hb, blk⟩
  · omega
  · obtain ⟨g0, g1⟩ := gt_flw ws i
    refine ⟨b, rfl, hb, blk.1, ?_, ?_, blk.2.2, fun v => ⟨by simpa using h1, h2, .inr ⟨b, rfl, hb, ?_⟩⟩⟩
    · rw [blk.2.1 (i * 2) (by rw [length_flw]; omega), g0]
    · rw [blk.2.1 (i * 2 + 1) (by rw [length_flw]; omega), g1]
    · have := blk.set (i := i * 2) (by rw [length_flw]; omega) v
      rw [flw_set ws (by omega)] at this
      exact this

/-- what is written into the contexts of an owned system leaves the rest as it was. -/
theorem OYR.setX {S : Nat → Prop} {A : SA} {D : SD} {w : World} {Q : Nat → Nat → Prop} (q1 : ∀ i k, Q i k → S k) (q2 : ∀ i j k, i ≠ j → Q i k → ¬ Q j k) (q3 : szY A D ≤ 1048576) (q4 : A.ln ≤ A.lc) (q5 : OYb Q A D w) (q6 : RwY Q A D w)
    {N o : Nat} {v : Value} {cs : List (List Int × Int × Bool)} (hN : Q 2 N) (hz : lenX cs = lenX D.cs) (hx : OX (Q 2) A.xa A.xn cs (w.setCell ⟨N, o, none⟩ v)) : OYR S A { D with cs := cs } (w.setCell ⟨N, o, none⟩ v) := by
  have hk : ∀ j k, j ≠ 2 → Q j k → k < w.heap.size → (w.setCell ⟨N, o, none⟩ v).heap[k]? = w.heap[k]? := fun j k hj e _ => Below.heap_setCell _ _ _ _ (fun h => q2 j 2 k hj e (by have : k = N := h; rw [this]; exact hN))
  refine ⟨Q, q1, q2, by unfold szY at q3 ⊢; simp only [hz]; exact q3, q4, ⟨OT.loc _ _ (fun k e hl => hk 0 k (by decide) e hl) q5.t, OWd.loc _ _ (fun k e hl => hk 1 k (by decide) e hl) q5.m, hx, OL.loc _ _ (fun k e hl => hk 3 k (by decide) e hl) q5.l, OS.loc _ _ (fun k e hl => hk 4 k (by decide) e hl) q5.o, OWd.loc _ _ (fun k e hl => hk 5 k (by decide) e hl) q5.g⟩, RwY.keep (fun j k hj e hl => hk j k (by omega) e hl) q6⟩

theorem OYR.setW {S : Nat → Prop} {A : SA} {D : SD} {w : World} {Q : Nat → Nat → Prop} (q1 : ∀ i k, Q i k → S k) (q2 : ∀ i j k, i ≠ j → Q i k → ¬ Q j k) (q3 : szY A D ≤ 1048576) (q4 : A.ln ≤ A.lc) (q5 : OYb Q A D w) (q6 : RwY Q A D w)
    {N o : Nat} {v : Value} {ws : List (Int × Int)} (hN : Q 1 N) (hx : OWd (Q 1) A.wa A.wn ws (w.setCell ⟨N, o, none⟩ v)) : OYR S A { D with ws := ws } (w.setCell ⟨N, o, none⟩ v) := by
  have hk : ∀ j k, j ≠ 1 → Q j k → k < w.heap.size → (w.setCell ⟨N, o, none⟩ v).heap[k]? = w.heap[k]? := fun j k hj e _ => Below.heap_setCell _ _ _ _ (fun h => q2 j 1 k hj e (by have : k = N := h; rw [this]; exact hN))
  refine ⟨Q, q1, q2, q3, q4, ⟨OT.loc _ _ (fun k e hl => hk 0 k (by decide) e hl) q5.t, hx, OX.loc _ _ (fun k e hl => hk 2 k (by decide) e hl) q5.x, OL.loc _ _ (fun k e hl => hk 3 k (by decide) e hl) q5.l, OS.loc _ _ (fun k e hl => hk 4 k (by decide) e hl) q5.o, OWd.loc _ _ (fun k e hl => hk 5 k (by decide) e hl) q5.g⟩, RwY.keep (fun j k hj e hl => hk j k (by omega) e hl) q6⟩

/-- a system of our own behind the pointer ⟨P, o⟩: what it holds lies in blocks of S, P is none of them. -/
structure YM (P o : Nat) (S : Nat → Prop) (A : SA) (D : SD) (w : World) : Prop where
  cs : CsO P o [.slice A.a A.n A.c, .slice A.ta A.tn A.tc, .slice A.da A.dn A.dc, .slice A.wa A.wn A.wc, .slice A.xa A.xn A.xc, .int .i64 D.ac, .int .i64 D.cz, .slice A.la A.ln A.lc, .int .i64 D.dv, .slice A.oa A.on A.oc, .slice A.ga A.gn A.gc] w
  fz : ∀ j, w.frozen? ⟨P, j, none⟩ = false
  ns : ¬ S P
  lt : P < w.heap.size
  y : OYR S A D w

theorem CsO.off {P o : Nat} {vs : List Value} {w : World} (h : CsO P o vs w) {N q : Nat} (hN : N ≠ P) (v : Value) : CsO P o vs (w.setCell ⟨N, q, none⟩ v) := fun i hi => by
  rw [World.cell?_setCell_other _ _ _ _ (fun e => by injection e with e1 _; exact hN e1)]
  exact h i hi

theorem YM.loc {P o : Nat} {S : Nat → Prop} {A : SA} {D : SD} {w w' : World} (h : YM P o S A D w) (hz : w.heap.size ≤ w'.heap.size) (hk : ∀ k, (k = P ∨ S k) → k < w.heap.size → w'.heap[k]? = w.heap[k]?) : YM P o S A D w' :=
  ⟨fun i hi => (World.cell?_of_block (a := ⟨P, o + i, none⟩) (hk P (.inl rfl) h.lt)).trans (h.cs i hi), fun j => (World.frozen?_of_block (a := ⟨P, j, none⟩) (hk P (.inl rfl) h.lt)).trans (h.fz j), h.ns, Nat.lt_of_lt_of_le h.lt hz, OYR.loc w w' (fun k e hl => hk k (.inr e) hl) h.y⟩

/-- a context of such a system: where it lies, what is written into it. -/
theorem YM.ctx {P o : Nat} {S : Nat → Prop} {A : SA} {D : SD} {w : World} (h : YM P o S A D w) {i : Nat} (hi : i < A.xn) (h8 : 0 < (gx D.cs i).1.length) :
    ∃ N b lc, A.xa = some ⟨N, 0, none⟩ ∧ S N ∧ S b ∧ b ≠ N ∧ N ≠ P ∧ b ≠ P ∧ w.cell? ⟨N, i * 3, none⟩ = some (.slice (some ⟨b, 0, none⟩) (gx D.cs i).1.length lc) ∧ w.cell? ⟨N, i * 3 + 1, none⟩ = some (.int .i64 (gx D.cs i).2.1) ∧ w.cell? ⟨N, i * 3 + 2, none⟩ = some (.bool (gx D.cs i).2.2) ∧ (∀ j, w.frozen? ⟨N, j, none⟩ = false) ∧ Blk w b (gx D.cs i).1 ∧
      (∀ v, YM P o S A { D with cs := D.cs.set i ((gx D.cs i).1, v, (gx D.cs i).2.2) } (w.setCell ⟨N, i * 3 + 1, none⟩ (.int .i64 v))) ∧
      (∀ v, YM P o S A { D with cs := D.cs.set i ((gx D.cs i).1, (gx D.cs i).2.1, v) } (w.setCell ⟨N, i * 3 + 2, none⟩ (.bool v))) ∧
      (∀ k v, k < (gx D.cs i).1.length → YM P o S A { D with cs := D.cs.set i ((gx D.cs i).1.set k v, (gx D.cs i).2.1, (gx D.cs i).2.2) } (w.setCell ⟨b, k, none⟩ (.int .i64 v))) := by
  obtain ⟨Q, q1, q2, q3, q4, q5, q6⟩ := h.y
  have hl : i < D.cs.length := by have := q5.x.1; omega
  obtain ⟨N, b, lc, ea, sN, sb, ne, c0, c1, c2, fz, blk, f1, f2, f3⟩ := q5.x.at hi h8
  have nP : N ≠ P := fun e => h.ns (e ▸ q1 _ _ sN)
  have bP : b ≠ P := fun e => h.ns (e ▸ q1 _ _ sb)
  refine ⟨N, b, lc, ea, q1 _ _ sN, q1 _ _ sb, ne, nP, bP, c0, c1, c2, fz, blk, fun v => ?_, fun v => ?_, fun k v hk => ?_⟩
  · exact ⟨h.cs.off nP _, fun j => by simpa using h.fz j, h.ns, by simpa using h.lt, OYR.setX q1 q2 q3 q4 q5 q6 sN (lenX_set hl rfl) (by rw [ea]; exact f1 v)⟩
  · exact ⟨h.cs.off nP _, fun j => by simpa using h.fz j, h.ns, by simpa using h.lt, OYR.setX q1 q2 q3 q4 q5 q6 sN (lenX_set hl rfl) (by rw [ea]; exact f2 v)⟩
  · exact ⟨h.cs.off bP _, fun j => by simpa using h.fz j, h.ns, by simpa using h.lt, OYR.setX q1 q2 q3 q4 q5 q6 sb (lenX_set hl (by simp)) (by rw [ea]; exact f3 k v hk)⟩

/-- a word of such a system; its value is written. -/
theorem YM.word {P o : Nat} {S : Nat → Prop} {A : SA} {D : SD} {w : World} (h : YM P o S A D w) {i : Nat} (hi : i < A.wn) :
    ∃ b, A.wa = some ⟨b, 0, none⟩ ∧ S b ∧ b ≠ P ∧ b < w.heap.size ∧ w.cell? ⟨b, i * 2, none⟩ = some (.int .i64 (gw D.ws i).1) ∧ w.cell? ⟨b, i * 2 + 1, none⟩ = some (.int .i64 (gw D.ws i).2) ∧ (∀ j, w.frozen? ⟨b, j, none⟩ = false) ∧
      ∀ v, YM P o S A { D with ws := D.ws.set i (v, (gw D.ws i).2) } (w.setCell ⟨b, i * 2, none⟩ (.int .i64 v)) := by
  obtain ⟨Q, q1, q2, q3, q4, q5, q6⟩ := h.y
  obtain ⟨b, ea, sb, lb, c0, c1, fz, f⟩ := q5.m.at hi
  have bP : b ≠ P := fun e => h.ns (e ▸ q1 _ _ sb)
  exact ⟨b, ea, q1 _ _ sb, bP, lb, c0, c1, fz, fun v => ⟨h.cs.off bP _, fun j => by simpa using h.fz j, h.ns, by simpa using h.lt, OYR.setW q1 q2 q3 q4 q5 q6 sb (by rw [ea]; exact f v)⟩⟩

theorem YM.below {P o : Nat} {S : Nat → Prop} {A : SA} {D : SD} {w w' : World} (h : YM P o S A D w) (hb : Below w.heap.size w w') : YM P o S A D w' := h.loc hb.size (fun k _ hk => hb.block k hk)

theorem YM.mono {P o : Nat} {S S' : Nat → Prop} {A : SA} {D : SD} {w : World} (h : YM P o S A D w) (hs : ∀ k, S k → S' k) (hp : ¬ S' P) : YM P o S' A D w := ⟨h.cs, h.fz, hp, h.lt, h.y.mono hs⟩

/-- a system of nothing. -/
def zeroD : SD := ⟨[], [], [], [], [], 0, 0, [], 0, [], []⟩

def zeroA : SA := ⟨none, 0, 0, none, 0, 0, none, 0, 0, none, 0, 0, none, 0, 0, none, 0, 0, none, 0, 0, none, 0, 0⟩

theorem OY.zero (S : Nat → Prop) (w : World) : OY S zeroA zeroD w :=
  ⟨fun _ _ => False, fun _ _ h => h.elim, fun _ _ _ _ h => h.elim, by simp [szY, zeroA, zeroD, lenSum, lenX], Nat.le_refl _,
    ⟨⟨fun _ => False, fun _ => False, fun _ => False, fun _ h => h.elim, fun _ h => h.elim, fun _ h => h.elim, fun _ h => h.elim, fun _ h => h.elim, fun _ h => h.elim, ⟨rfl, by simp [lenSum, zeroD, zeroA], .inl rfl⟩, ⟨rfl, by simp [zeroA], .inl rfl⟩, ⟨rfl, by simp [zeroA], .inl rfl⟩⟩, ⟨rfl, by simp [zeroA], .inl rfl⟩, ⟨rfl, by simp [zeroA, zeroD, lenX], .inl rfl⟩, ⟨rfl, by simp [zeroA], .inl rfl⟩, ⟨rfl, by simp [zeroA], .inl rfl⟩, ⟨rfl, by simp [zeroA], .inl rfl⟩⟩⟩

/-- what is known of a right system. -/
structure SysR (A : SA) (D : SD) (k : Nat) : Prop where
  ac : D.ac = (k : Int)
  hk : k < A.dn
  xd : A.xn = A.dn
  d4 : A.dn ≤ 4
  t6 : A.tn ≤ 6
  g3 : A.gn ≤ 3
  o40 : A.on ≤ 40
  good : Good D.ss
  sd : allS D.ss D.ds = true
  st : allS D.ss D.ts = true
  fc : LB D.ls
  tf : tabF D.ss D.ts D.ds = 0
  mf : mfC (D.ts.length : Int) D.ws = 0
  cx : ∀ j, j < A.dn → (gx D.cs j).1.length = 8 ∧ (∀ i, i < 8 → 0 ≤ gt (gx D.cs j).1 i ∧ gt (gx D.cs j).1 i ≤ 65535) ∧ 0 ≤ (gx D.cs j).2.1 ∧ (gx D.cs j).2.1 ≤ 65535
  gg : ∀ g, g < A.gn → 0 ≤ (gw D.gs g).1 ∧ (gw D.gs g).1 < (A.dn : Int) ∧ 0 ≤ (gw D.gs g).2 ∧ (gw D.gs g).2 ≤ 65535

theorem okv_in {v : Int} (h : okv v = true) : 0 ≤ v ∧ v ≤ 65535 := by
  have := up_iff.1 h
  omega

theorem endsF_inv {dn : Nat} {os : List Int} {gs : List (Int × Int)} (h : endsF dn os gs = 0) : os.length ≤ 40 ∧ gs.length ≤ 3 ∧ gs.all (gateB dn) = true := by
  unfold endsF at h
  by_cases h1 : 40 < os.length ∨ 3 < gs.length
  · rw [if_pos h1] at h; omega
  · rw [if_neg h1] at h
    by_cases h2 : os.all okv = true
    · rw [if_pos h2] at h
      by_cases h3 : gs.all (gateB dn) = true
      · exact ⟨by omega, by omega, h3⟩
      · rw [if_neg h3] at h; omega
    · rw [if_neg h2] at h; omega

theorem RS.right {w : World} {A : SA} {D : SD} (hr : RS w A D) (hf : sysF D = 0) : ∃ k, SysR A D k := by
  obtain ⟨k0, k1, k2, k3, k4, k5, k6, k7⟩ := hr.len
  obtain ⟨h1, h2, _, h4, _, h6, _, h8⟩ := sysF_inv hf
  obtain ⟨x1, x2, x3, x4⟩ := sysF_ctx hf
  obtain ⟨r1, r2, r3, r4, _⟩ := tabF_zero h1
  have hm := many_len r2
  have hu := up_iff.1 h4
  obtain ⟨e1, e2, e3⟩ := endsF_inv h8
  refine ⟨D.ac.toNat, by omega, by omega, by omega, by omega, by omega, by omega, by omega, good_of r1, r4, r3, LB.of h6, h1, h2, fun j hj => ?_, fun g hg => ?_⟩
  · obtain ⟨a, b, c⟩ := x4 j (by omega)
    refine ⟨a, fun i hi => ?_, okv_in c⟩
    rw [List.all_eq_true] at b
    have hm := b ((gx D.cs j).1[i]'(by omega)) (List.getElem_mem _)
    have := okv_in hm
    have hi' : i < (gx D.cs j).1.length := by omega
    have e : gt (gx D.cs j).1 i = (gx D.cs j).1[i] := by unfold gt; simp [hi']
    rw [e]
    exact this
  · rw [List.all_eq_true] at e3
    have := e3 _ (gw_mem (by omega : g < D.gs.length))
    unfold gateB at this
    rw [Bool.and_eq_true] at this
    have a := up_iff.1 this.1
    have b := okv_in this.2
    omega

theorem CsO.ofCs {P : Nat} {vs : List Value} {w : World} (h : Cs P vs w) : CsO P 0 vs w := fun i hi => by rw [Nat.zero_add]; exact (h.2 i hi).1

/-- what is known of a system is known of it where else it lies. -/
theorem SysR.move {w w' : World} {A B : SA} {D : SD} {k : Nat} (h : SysR A D k) (ha : RS w A D) (hb : RS w' B D) : SysR B D k := by
  obtain ⟨a0, a1, a2, a3, a4, a5, a6, a7⟩ := ha.len
  obtain ⟨b0, b1, b2, b3, b4, b5, b6, b7⟩ := hb.len
  have e1 : B.dn = A.dn := by omega
  have e2 : B.gn = A.gn := by omega
  exact ⟨h.ac, by have := h.hk; omega, by have := h.xd; omega, by have := h.d4; omega, by have := h.t6; omega, by have := h.g3; omega, by have := h.o40; omega, h.good, h.sd, h.st, h.fc, h.tf, h.mf, fun j hj => h.cx j (by omega), fun g hg => by rw [e1]; exact h.gg g (by omega)⟩

end Go.Proofs.YtcojgmecocjnkaaGreat
