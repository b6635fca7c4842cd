import Derived.Test.YtbfmdnnbiidlkaaGreatG105
import Derived.Test.YtbfmdnnbiidlkaaGreatG16
import Derived.WalkKit
import Derived.ProofKit
import Derived.OpenShut
import Derived.ShutString
import Derived.ChangeOld
import Derived.Below
import Derived.WalkSpells
import Derived.Deep.QuietTactic
import Derived.BigQuiet
import Derived.Deep.RegionWith
import Derived.Deep.WholeRow
import Derived.Deep.DeepCutAuto
import Derived.Deep.RegionHeld2
import Derived.Deep.AppendLies
import Derived.Deep.RegionLaw
namespace Go.Proofs.YtbfmdnnbiidlkaaGreat
open Go.ChangeShapes Go.WideShapes Go.ChangeAt Go.RowKit

theorem u16_wrp (v : Int) : wrap64 (IntKind.u16.wrap v) = wrp v := by
  have h : IntKind.u16.wrap v = v % 65536 := rfl
  rw [h]
  unfold wrap64 wrp
  omega

set_option maxRecDepth 100000 in
theorem wrapped_calls (v : Int) (w : World) : Calls Tryz.prog 182 #[.int .i64 v] w fun e w' => e = .returned (.int .i64 (wrp v)) ∧ w' = w := by
  have H := hide (u16_wrp v)
  go_enter Tryz.func182, Tryz.ntmps182
  go_wp2
  go_ret
  exact ⟨ret_int H.out, rfl⟩

set_option maxRecDepth 100000 in
theorem hasWords_calls (a : Option Addr) (n c : Nat) (f k : Int) (w : World) (hn : n ≤ maxLen) :
    Calls Tryz.prog 179 #[.agg #[.slice a n c], .int .i64 f, .int .i64 k] w fun e w' => e = .returned (.bool (hasW n f k)) ∧ Below w.heap.size w w' := by
  unfold maxLen at hn
  have HB := hide ((Below.refl w.heap.size w).alloc (Nat.le_refl _) (.cells #[.slice a n c] 40))
  cases h0 : up f (n : Int) with
  | false =>
    have HR : Hid (hasW n f k = false) := by show _ = _; unfold hasW; rw [h0]; rfl
    go_enter Tryz.func179, Tryz.ntmps179
    go_wp2_with (go_at_call 52; refine (isUpTo_calls _ _ _).mono ?_; rintro e w' ⟨rfl, rfl⟩)
    go_ret
    exact ⟨ret_bool HR.out.symm, HB.out⟩
  | true =>
    obtain ⟨h1, h2⟩ := up_iff.1 h0
    have HR : Hid (hasW n f k = up k ((n : Int) - f)) := by show _ = _; unfold hasW; rw [h0]; rfl
    go_enter Tryz.func179, Tryz.ntmps179
    go_wp2_with (go_at_call 52; refine (isUpTo_calls _ _ _).mono ?_; rintro e w' ⟨rfl, rfl⟩)
    go_ret
    exact ⟨ret_bool HR.out.symm, HB.out⟩

set_option maxRecDepth 100000 in
theorem contextV_calls (P : Nat) (A : SA) (D : SD) (k N o : Nat) (w : World) (hy : YV P A D w) (hac : D.ac = (k : Int)) (hk : k < A.xn) (ea : A.xa = some ⟨N, o, none⟩) :
    Calls Tryz.prog 135 #[.pointer (some ⟨P, 0, none⟩)] w fun e w' => e = .returned (.pointer (some ⟨N, o + k * 3, none⟩)) ∧ Below w.heap.size w w' := by
  have x4 := hy.cell 4 rfl
  have x5 := hy.cell 5 rfl
  rw [ea] at x4
  rw [hac] at x5
  have k0 : (0 : Int) ≤ (k : Int) := by omega
  have k1 : (k : Int) < (A.xn : Int) := by omega
  clear hy hac ea
  go_enter Tryz.func135, Tryz.ntmps135
  go_wp2_with fail
  go_quiet (fail)
  go_wp2
  go_ret
  exact ⟨rfl, bdrewN (Below.refl _ _) _⟩

set_option maxRecDepth 100000 in
set_option maxHeartbeats 2000000 in
theorem placeV_calls (P : Nat) (A : SA) (D : SD) (k ib : Nat) (op xa im : Int) (w : World) (hy : YV P A D w) (H : SysR A D k) (hib : ib < 8) (him : 0 ≤ im ∧ im ≤ 63) :
    Calls Tryz.prog 138 #[.pointer (some ⟨P, 0, none⟩), .agg #[.int .i64 op, .int .i64 xa, .int .i64 (ib : Int), .int .i64 im]] w fun e w' => e = .returned (.int .i64 (wrp (gt (gx D.cs k).1 ib + im))) ∧ Below w.heap.size w w' := by
  have hkx : k < A.xn := by rw [H.xd]; exact H.hk
  obtain ⟨h8, hrg, _⟩ := H.cx k H.hk
  have hrb := hrg ib hib
  have b0' : (0 : Int) ≤ (ib : Int) := by omega
  have b1' : (ib : Int) < 8 := by omega
  obtain ⟨W, hW⟩ : ∃ x, x = w.alloc (.cells #[.int .i64 op, .int .i64 xa, .int .i64 (ib : Int), .int .i64 im] 199) := ⟨_, rfl⟩
  have BW : Below w.heap.size w W := by rw [hW]; exact (Below.refl _ _).alloc (Nat.le_refl _) _
  have zW : W.heap.size = w.heap.size + 1 := by rw [hW]; simp
  have lI : w.heap.size < W.heap.size := by omega
  have i2 : W.cell? ⟨w.heap.size, 2, none⟩ = some (.int .i64 (ib : Int)) := by rw [hW]; simp
  have i3 : W.cell? ⟨w.heap.size, 3, none⟩ = some (.int .i64 im) := by rw [hW]; simp
  have yW := hy.below BW
  obtain ⟨N, o, b, q, lc, ea, lN, lb, c0, _, _, creg⟩ := yW.ctx hkx h8
  have rB := creg ib hib
  have HW := hide hW
  have HC := hide (contextV_calls P A D k N o W.drew (yW.below (Below.refl _ _).drew) H.ac hkx ea)
  have hwp : IntKind.i64.wrap (gt (gx D.cs k).1 ib + im) = gt (gx D.cs k).1 ib + im := IntWalk.i64_in _ (by omega)
  have HS0 : Hid (W.drew.cell? ⟨w.heap.size, 2, none⟩ = some (.int .i64 (ib : Int)) ∧ W.drew.cell? ⟨w.heap.size, 3, none⟩ = some (.int .i64 im) ∧ W.drew.cell? ⟨N, o + k * 3, none⟩ = some (.slice (some ⟨b, q, none⟩) 8 lc) ∧ W.drew.cell? ⟨b, q + ib, none⟩ = some (.int .i64 (gt (gx D.cs k).1 ib)) ∧ Below W.heap.size W W.drew) := ⟨i2, i3, c0, rB, (Below.refl _ _).drew⟩
  clear hy H yW ea hW creg hrg i2 i3 c0 rB
  go_enter Tryz.func138, Tryz.ntmps138
  go_wp2_with fail
  rw [← HW.out]
  go_region_held2 (fun X => X.cell? ⟨w.heap.size, 2, none⟩ = some (.int .i64 (ib : Int)) ∧ X.cell? ⟨w.heap.size, 3, none⟩ = some (.int .i64 im) ∧ X.cell? ⟨N, o + k * 3, none⟩ = some (.slice (some ⟨b, q, none⟩) 8 lc) ∧ X.cell? ⟨b, q + ib, none⟩ = some (.int .i64 (gt (gx D.cs k).1 ib)) ∧ Below W.heap.size W X)
    (first | with_reducible exact HS0.out | with_reducible assumption)
    (first | (go_at_call 135; refine HC.out.mono ?_; rintro e w1 ⟨rfl, g1⟩; have hs1 := q4_below lI lI lN lb (by with_reducible assumption) g1; clear g1) | (go_at_call 182; refine (wrapped_calls _ _).mono ?_; rintro e w' ⟨rfl, hw'⟩; rw [hw']; clear hw' w'))
  all_goals (
    go_wp2
    go_ret
    exact ⟨rfl, BW.trans ((q4_bel (by with_reducible assumption)).mono (by omega))⟩)

set_option maxRecDepth 100000 in
set_option maxHeartbeats 2000000 in
theorem wordAccess_calls (P : Nat) (A : SA) (D : SD) (k : Nat) (p bit : Int) (w : World) (hy : YV P A D w) (H : SysR A D k) (hb : bit = 1 ∨ bit = 2 ∨ bit = 4) :
    Calls Tryz.prog 136 #[.pointer (some ⟨P, 0, none⟩), .int .i64 p, .int .i64 bit] w fun e w' => ∃ a n c, e = .returned (.slice a n c) ∧ (a = none → n = 0 ∧ c = 0) ∧ c = n ∧ w'.ownsRow w.heap.size 91 5 (.slice a n c) n (vsA (wdA D k p bit)) ∧ OA (InR w.heap.size w'.heap.size) a n (wdA D k p bit) w' ∧ Below w.heap.size w w' := by
  have hl := hy.rs.len.2.2.2.1
  have x3 := hy.cell 3 rfl
  have hPl := hy.lt
  have HW := hide (hasWords_calls A.wa A.wn A.wc p 1 w hy.rs.wm)
  cases hu : up p ((A.wn : Int) - 1) with
  | false =>
    have hw : hasW A.wn p 1 = false := by rw [hasW_one]; exact hu
    have HL : Hid (wdA D k p bit = []) := by show _ = _; unfold wdA; rw [hl, if_neg (by rw [hu]; simp)]
    clear hy H hl
    go_enter Tryz.func136, Tryz.ntmps136
    go_wp2_with fail
    refine HW.out.mono ?_
    rintro e w1 ⟨rfl, g1⟩
    rw [hw]
    have HG := hide g1
    clear g1
    go_wp2
    go_ret
    refine ⟨none, 0, 0, rfl, fun _ => ⟨rfl, rfl⟩, rfl, ?_, ?_, HG.out⟩
    · rw [HL.out]; exact World.ownsRow_nil _ _ _ _
    · rw [HL.out]; exact OA.nil _ _ _
  | true =>
    have hux := up_iff.1 hu
    obtain ⟨j, rfl⟩ : ∃ j : Nat, p = (j : Int) := ⟨p.toNat, by omega⟩
    have hw : hasW A.wn (j : Int) 1 = true := by rw [hasW_one]; exact hu
    have hj : j < A.wn := by omega
    have HL : Hid (wdA D k (j : Int) bit = [acA D k (j : Int) (gw D.ws j).2 bit]) := by show _ = _; unfold wdA; rw [hl, if_pos hu]; rfl
    obtain ⟨N2, o2, ew, hN2, _, r1⟩ := hy.word hj
    have ht := mf_tag H.mf (m := j) (by omega)
    rw [hy.rs.len.2.1] at ht
    have j0 : (0 : Int) ≤ (j : Int) := by omega
    have j1 : (j : Int) < (A.wn : Int) := by omega
    have HEW := hide ew
    have HY := hide hy
    have HH := hide H
    clear hy H hl ew hux
    go_enter Tryz.func136, Tryz.ntmps136
    go_wp2_with fail
    refine HW.out.mono ?_
    rintro e w1 ⟨rfl, g1⟩
    rw [hw]
    have y3 := (g1.cell (p := ⟨P, 3, none⟩) hPl).trans x3
    rw [HEW.out] at y3
    have y4 := (g1.cell (p := ⟨N2, o2 + j * 2 + 1, none⟩) hN2).trans r1
    have HA := hide (access_calls P A D k (j : Int) (gw D.ws j).2 bit w1 (HY.out.below g1) HH.out ht hb)
    have HG := hide g1
    have z1 := g1.size
    clear x3 r1 g1
    go_wp2_with fail
    refine HA.out.mono ?_
    rintro e w2 ⟨rfl, g2⟩
    have z2 := g2.size
    have HG2 := hide (HG.out.trans (g2.mono (by omega)))
    clear g2 y3 y4
    go_wp2
    go_ret
    refine ⟨_, 1, 1, rfl, fun h => (by cases h), rfl, ?_, ?_, HG2.out.alloc (by omega) _⟩
    · rw [HL.out]; exact World.ownsRow_lit w2 #[.int .i64 (k : Int), .int .i64 bit, .int .i64 (j : Int), .int .i64 (gw D.ws j).2, .bool (dnB D k (gw D.ws j).2 bit)] 1 (by omega) (by unfold maxLen; omega) rfl
    · rw [HL.out]; exact OA.lit w2 (acA D k (j : Int) (gw D.ws j).2 bit) _ (by omega) (by simp)

set_option maxRecDepth 100000 in
set_option maxHeartbeats 2000000 in
theorem deviceAccess_calls (P : Nat) (A : SA) (D : SD) (k : Nat) (w : World) (hy : YV P A D w) (H : SysR A D k) (hdv : 0 ≤ D.dv ∧ D.dv ≤ (A.tn : Int)) :
    Calls Tryz.prog 139 #[.pointer (some ⟨P, 0, none⟩)] w fun e w' => ∃ a n c, e = .returned (.slice a n c) ∧ (a = none → n = 0 ∧ c = 0) ∧ c = n ∧ w'.ownsRow w.heap.size 91 5 (.slice a n c) n (vsA (dvA D k)) ∧ OA (InR w.heap.size w'.heap.size) a n (dvA D k) w' ∧ Below w.heap.size w w' := by
  have hl := hy.rs.len.2.2.2.2.2.2.1
  have x9 := hy.cell 9 rfl
  have x8 := hy.cell 8 rfl
  by_cases ho : A.on < 40
  · have HL : Hid (dvA D k = [acA D k (-1) D.dv 2]) := by show _ = _; unfold dvA; rw [hl, if_pos ho]
    have ho' : ¬ ((A.on : Int) ≥ 40) := by omega
    have HA := hide (access_calls P A D k (-1) D.dv 2 w hy H hdv (.inr (.inl rfl)))
    clear hy H hl ho
    go_enter Tryz.func139, Tryz.ntmps139
    go_wp2_with fail
    refine HA.out.mono ?_
    rintro e w2 ⟨rfl, g2⟩
    have z2 := g2.size
    have HG2 := hide g2
    clear g2 x8 x9
    go_wp2
    go_ret
    refine ⟨_, 1, 1, rfl, fun h => (by cases h), rfl, ?_, ?_, HG2.out.alloc (by omega) _⟩
    · rw [HL.out]; exact World.ownsRow_lit w2 #[.int .i64 (k : Int), .int .i64 2, .int .i64 (-1), .int .i64 D.dv, .bool (dnB D k D.dv 2)] 1 (by omega) (by unfold maxLen; omega) rfl
    · rw [HL.out]; exact OA.lit w2 (acA D k (-1) D.dv 2) _ (by omega) (by simp)
  · have HL : Hid (dvA D k = []) := by show _ = _; unfold dvA; rw [hl, if_neg ho]
    have ho' : (A.on : Int) ≥ 40 := by omega
    clear hy H hl ho
    go_enter Tryz.func139, Tryz.ntmps139
    go_wp2
    go_ret
    refine ⟨none, 0, 0, rfl, fun _ => ⟨rfl, rfl⟩, rfl, ?_, ?_, Below.refl _ _⟩
    · rw [HL.out]; exact World.ownsRow_nil _ _ _ _
    · rw [HL.out]; exact OA.nil _ _ _

theorem up_true {v m : Int} (h : up v m = true) : 0 ≤ v ∧ v ≤ m := by
  unfold up at h
  simpa using h

theorem u16_in {n : Int} (h : 0 ≤ n ∧ n ≤ 65535) : IntKind.u16.wrap n = n := by
  unfold IntKind.wrap
  have e : (2 ^ IntKind.u16.bits : Int) = 65536 := by decide
  have s : IntKind.u16.signed = false := by decide
  simp only [e, s, Bool.false_and]
  show n % 65536 = n
  omega

theorem w64_in {n : Int} (h : -9223372036854775808 ≤ n ∧ n ≤ 9223372036854775807) : wrap64 n = n := by
  unfold wrap64
  omega

theorem quo_in {x m : Int} (h0 : 0 ≤ x) (h1 : x ≤ 65535) (hm : 1 ≤ m) : IntKind.u16.wrap (x.tdiv m) = x / m := by
  rw [Int.tdiv_eq_ediv_of_nonneg h0]
  have := Int.ediv_nonneg h0 (show 0 ≤ m by omega)
  have : x / m ≤ x := Int.ediv_le_self m h0
  exact u16_in (by omega)

theorem rem_in {x m : Int} (h0 : 0 ≤ x) : x.tmod m = x % m := Int.tmod_eq_emod_of_nonneg h0

set_option maxRecDepth 100000 in
theorem unpack_calls (x : Int) (w : World) (h0 : 0 ≤ x) (h1 : x ≤ 65535) :
    Calls Tryz.prog 181 #[.int .u16 x] w fun e w' => e = .returned (.agg #[.int .i64 (x / 4096), .int .i64 (x / 512 % 8), .int .i64 (x / 64 % 8), .int .i64 (x % 64)]) ∧ Below w.heap.size w w' := by
  have HB := hide fun o1 => (Below.refl w.heap.size w).alloc (Nat.le_refl _) o1
  have e1 := hide (quo_in (m := 4096) h0 h1 (by omega))
  have e2 := hide (quo_in (m := 512) h0 h1 (by omega))
  have e3 := hide (quo_in (m := 64) h0 h1 (by omega))
  have r2 := hide (rem_in (x := x / 512) (m := 8) (by omega))
  have r3 := hide (rem_in (x := x / 64) (m := 8) (by omega))
  have v1 := hide (w64_in (n := x / 4096) (by omega))
  have v2 := hide (w64_in (n := x / 512 % 8) (by omega))
  have v3 := hide (w64_in (n := x / 64 % 8) (by omega))
  go_enter Tryz.func181, Tryz.ntmps181
  go_wp2
  rw [e1.out, e2.out, e3.out, r2.out, r3.out, v1.out, v2.out, v3.out]
  exact bodyPost_ret (v := .agg #[.int .i64 (x / 4096), .int .i64 (x / 512 % 8), .int .i64 (x / 64 % 8), .int .i64 (x % 64)]) (by simp [results, Tryz.results181, go_sem]) rfl ⟨rfl, HB.out _⟩

/-- DecodeWord's code, and a part of what it gives beside it. -/
def dwC (x : Int) : Int := if up x 65535 = true then 0 else 3

def dwV (x v : Int) : Int := if up x 65535 = true then v else 0

set_option maxRecDepth 100000 in
theorem implDecodeWord_calls (x : Int) (w : World) :
    Calls Tryz.prog 137 #[.int .i64 x] w fun e w' => e = .returned (.agg #[.int .i64 (dwC x), .int .i64 (dwV x (x / 4096)), .int .i64 (dwV x (x / 512 % 8)), .int .i64 (dwV x (x / 64 % 8)), .int .i64 (dwV x (x % 64))]) ∧ Below w.heap.size w w' := by
  have M0 := (Mm.start w).alloc5 (.int .i64 0) (.int .i64 0) (.int .i64 0) (.int .i64 0) (.int .i64 0) 209
  cases h : up x 65535 with
  | false =>
    have HC : Hid (dwC x = 3) := if_neg (by rw [h]; simp)
    have HV : Hid (∀ v, dwV x v = 0) := fun v => if_neg (by rw [h]; simp)
    have HB := hide fun o1 => (Below.refl w.heap.size w).alloc (Nat.le_refl _) o1
    clear M0
    go_enter Tryz.func137, Tryz.ntmps137
    go_wp2_with (go_at_call 52; refine (isUpTo_calls _ _ _).mono ?_; rintro e w' ⟨rfl, rfl⟩)
    exact bodyPost_ret (v := .agg #[.int .i64 3, .int .i64 0, .int .i64 0, .int .i64 0, .int .i64 0]) (by simp [results, Tryz.results137, go_sem]) rfl ⟨by rw [HC.out, HV.out, HV.out, HV.out, HV.out], HB.out _⟩
  | true =>
    obtain ⟨h0, h1⟩ := up_true h
    have HC : Hid (dwC x = 0) := if_pos h
    have HV : Hid (∀ v, dwV x v = v) := fun v => if_pos h
    have ec : IntKind.u16.wrap x = x := u16_in ⟨h0, h1⟩
    go_enter Tryz.func137, Tryz.ntmps137
    go_wp2_with (go_at_call 52; refine (isUpTo_calls _ _ _).mono ?_; rintro e w' ⟨rfl, rfl⟩)
    refine (unpack_calls x _ h0 h1).mono ?_
    rintro e w1 ⟨rfl, g1⟩
    have M1 := M0.below g1
    have c0 := M1.cell 0 rfl
    have c1 := M1.cell 1 rfl
    have c2 := M1.cell 2 rfl
    have c3 := M1.cell 3 rfl
    have c4 := M1.cell 4 rfl
    have f0 := M1.fz 0 rfl
    have f1 := M1.fz 1 rfl
    have f2 := M1.fz 2 rfl
    have f3 := M1.fz 3 rfl
    have f4 := M1.fz 4 rfl
    have HB := hide M1.bel
    clear M0 M1 g1
    go_wp2
    exact bodyPost_ret (v := .agg #[.int .i64 0, .int .i64 (x / 4096), .int .i64 (x / 512 % 8), .int .i64 (x / 64 % 8), .int .i64 (x % 64)]) (by simp [results, Tryz.results137, go_sem, c0, c1, c2, c3, c4]) rfl ⟨by rw [HC.out, HV.out, HV.out, HV.out, HV.out], below_set5 HB.out (by omega) _ _ _ _ _⟩

set_option maxRecDepth 100000 in
set_option maxHeartbeats 4000000 in
theorem accesses_calls (P : Nat) (A : SA) (D : SD) (k : Nat) (w : World) (hy : YV P A D w) (H : SysR A D k) (hdv : 0 ≤ D.dv ∧ D.dv ≤ (A.tn : Int)) :
    Calls Tryz.prog 70 #[.pointer (some ⟨P, 0, none⟩)] w fun e w' => ∃ a n c, e = .returned (.slice a n c) ∧ OA (InR w.heap.size w'.heap.size) a n (accA D k) w' ∧ Below w.heap.size w w' := by
  obtain ⟨i0, hi, hz0, hz1, hz2⟩ := info_parts infoAccess
  have hkx : k < A.xn := by rw [H.xd]; exact H.hk
  obtain ⟨h8, _, hpc⟩ := H.cx k H.hk
  obtain ⟨N, o, b, q, lc, ea, hN, hb, _, c1, c2, _⟩ := hy.ctx hkx h8
  have HC := hide (contextV_calls P A D k N o w hy H.ac hkx ea)
  have HY := hide hy
  have HH := hide H
  have hP := hy.lt
  have hwl := hide hy.rs.len.2.2.2.1
  have htl := hide hy.rs.len.2.1
  clear hy ea H
  go_enter Tryz.func70, Tryz.ntmps70
  go_wp2_with fail
  refine HC.out.mono ?_
  rintro e u ⟨rfl, gu⟩
  have zu := gu.size
  have HYU := hide (HY.out.below gu)
  have u1 := (gu.cell (p := ⟨N, o + k * 3 + 1, none⟩) hN).trans c1
  have u2 := (gu.cell (p := ⟨N, o + k * 3 + 2, none⟩) hN).trans c2
  have HGU := hide gu
  obtain ⟨pc, epc⟩ : ∃ x, x = (gx D.cs k).2.1 := ⟨_, rfl⟩
  rw [← epc] at u1 hpc
  have EPC := hide epc
  clear c1 c2 epc gu HC HY
  cases hh : (gx D.cs k).2.2 with
  | true =>
    have HL : Hid (accA D k = []) := by show _ = _; unfold accA; rw [if_pos hh]
    rw [hh] at u2
    go_wp2
    go_ret
    refine ⟨none, 0, 0, rfl, ?_, HGU.out⟩
    rw [HL.out]; exact OA.nil _ _ _
  | false =>
    rw [hh] at u2
    have lN : N < u.heap.size := by omega
    go_wp2_with fail
    refine (wordAccess_calls P A D k pc 4 _ HYU.out HH.out (.inr (.inr rfl))).mono ?_
    rintro e v ⟨la, ln, lcp, rfl, hnl, hcn, own, oa1, gv⟩
    have zv := gv.size
    have HYV := hide (HYU.out.below gv)
    have HGV := hide (HGU.out.trans (gv.mono (by omega)))
    have v1 := (gv.cell (p := ⟨N, o + k * 3 + 1, none⟩) lN).trans u1
    clear gv u1 u2 HYU HGU
    cases hup : up pc ((A.wn : Int) - 1) with
    | false =>
      have hw : wdA D k pc 4 = [] := by unfold wdA; rw [hwl.out, if_neg (by rw [hup]; simp)]
      have HL : Hid (accA D k = []) := by show _ = _; unfold accA; rw [if_neg (by rw [hh]; simp), hwl.out, if_neg (by rw [← EPC.out, hup]; simp)]
      rw [hw] at oa1
      obtain rfl : ln = 0 := by have := oa1.1; simpa using this.symm
      clear own hw oa1 hcn
      go_wp2
      go_ret
      refine ⟨la, 0, lcp, rfl, ?_, HGV.out⟩
      rw [HL.out]; exact OA.nil _ _ _
    | true =>
      have hux := up_iff.1 hup
      obtain ⟨j, rfl⟩ : ∃ j : Nat, pc = (j : Int) := ⟨pc.toNat, by omega⟩
      have hj : j < A.wn := by omega
      obtain ⟨x, ex⟩ : ∃ y, y = (gw D.ws j).1 := ⟨_, rfl⟩
      obtain ⟨tg, et⟩ : ∃ y, y = (gw D.ws j).2 := ⟨_, rfl⟩
      have hw : wdA D k (j : Int) 4 = [acA D k (j : Int) tg 4] := by unfold wdA; rw [hwl.out, if_pos hup, et]; rfl
      rw [hw] at own oa1
      obtain rfl : ln = 1 := by have := oa1.1; simpa using this.symm
      subst hcn
      obtain ⟨g, eg, gin, gba⟩ := oa1.2.2.resolve_left (by omega)
      subst eg
      have g4 : v.cell? ⟨g, 4, none⟩ = some (.bool (dnB D k tg 4)) := (gba.2.1 0 (by omega)).2.2.2.2
      have lg : g < v.heap.size := gba.1
      have gL : u.heap.size ≤ g := gin.1
      have HA : Hid (accA D k = if dnB D k tg 4 = true then acA D k (j : Int) tg 4 :: dtA D k (opX D k) (ibX D k) (imX D k) else [acA D k (j : Int) tg 4]) := by
        show _ = _
        unfold accA
        rw [if_neg (by rw [hh]; simp), hwl.out, if_pos (by rw [← EPC.out]; exact hup), ← EPC.out, et]
        rfl
      have EX : Hid (wdX D k = x) := by show _ = _; unfold wdX; rw [← EPC.out, ex]; rfl
      cases hd : dnB D k tg 4 with
      | false =>
        rw [hd] at g4
        have HL : Hid (accA D k = [acA D k (j : Int) tg 4]) := by show _ = _; rw [HA.out, if_neg (by rw [hd]; simp)]
        have HF := hide oa1
        have hone : ((1 : Int) == 0) = false := by decide
        clear own oa1 gba gin
        go_wp2
        go_ret
        refine ⟨_, 1, 1, rfl, ?_, HGV.out⟩
        rw [HL.out]
        exact HF.out.mono (fun q e => ⟨by have := e.1; omega, e.2⟩)
      | true =>
        rw [hd] at g4
        obtain ⟨N2, o2, ew, hN2, r0, r1⟩ := HYV.out.word hj
        rw [← ex] at r0
        have x3 := HYV.out.cell 3 rfl
        rw [ew] at x3
        have hx := mf_val HH.out.mf (m := j) (by rw [hwl.out]; exact hj)
        rw [← ex] at hx
        have j0 : (0 : Int) ≤ (j : Int) := by omega
        have j1 : (j : Int) < (A.wn : Int) := by omega
        obtain ⟨ib, hib⟩ : ∃ y : Nat, x / 64 % 8 = (y : Int) := ⟨(x / 64 % 8).toNat, by omega⟩
        have hup6 : up x 65535 = true := up_iff.2 hx
        have HV : Hid (dwC x = 0 ∧ dwV x (x / 4096) = x / 4096 ∧ dwV x (x / 512 % 8) = x / 512 % 8 ∧ dwV x (x / 64 % 8) = (ib : Int) ∧ dwV x (x % 64) = x % 64) := ⟨if_pos hup6, if_pos hup6, if_pos hup6, (if_pos hup6).trans hib, if_pos hup6⟩
        have HL : Hid (accA D k = [acA D k (j : Int) tg 4] ++ dtA D k (x / 4096) ib (x % 64)) := by
          show _ = _
          rw [HA.out, if_pos hd]
          have : ibX D k = ib := by unfold ibX; rw [EX.out]; omega
          rw [this]
          unfold opX imX
          rw [EX.out]
          rfl
        have hib8 : ib < 8 := by omega
        have him : 0 ≤ x % 64 ∧ x % 64 ≤ 63 := by omega
        have HO0 := hide own
        have lN : N < v.heap.size := by omega
        have lP : P < v.heap.size := by omega
        have HIB := hide hib
        have fdI : ∀ (c a1 a2 a3 a4 : Value) (u : World), (Instr.field 209 (.agg #[c, a1, a2, a3, a4]) 1).run Tryz.prog u = .ok (.agg #[a1, a2, a3, a4]) u := fun _ _ _ _ _ _ => rfl
        have hone : ((1 : Int) == 0) = false := by decide
        have HS0 : Hid (v.drew.cell? ⟨P, 3, none⟩ = some (.slice (some ⟨N2, o2, none⟩) A.wn A.wc) ∧ v.drew.cell? ⟨N, o + k * 3 + 1, none⟩ = some (.int .i64 (j : Int)) ∧ v.drew.cell? ⟨N2, o2 + j * 2, none⟩ = some (.int .i64 x) ∧ Below v.heap.size v v.drew) := ⟨x3, v1, r0, (Below.refl _ _).drew⟩
        clear own oa1 gba gin hux hup hup6 ew r1 ex et hib hx hw hnl
        go_wp2_with fail
        go_cut [5] (fun y wd => ∃ I, y = .pointer (some ⟨I, 0, none⟩) ∧ v.heap.size ≤ I ∧ I < wd.heap.size ∧ (wd.cell? ⟨I, 0, none⟩ = some (.int .i64 (x / 4096)) ∧ wd.cell? ⟨I, 1, none⟩ = some (.int .i64 (x / 512 % 8)) ∧ wd.cell? ⟨I, 2, none⟩ = some (.int .i64 (ib : Int)) ∧ wd.cell? ⟨I, 3, none⟩ = some (.int .i64 (x % 64))) ∧ Below v.heap.size v wd)
        case first =>
          go_region_held2 (fun X => X.cell? ⟨P, 3, none⟩ = some (.slice (some ⟨N2, o2, none⟩) A.wn A.wc) ∧ X.cell? ⟨N, o + k * 3 + 1, none⟩ = some (.int .i64 (j : Int)) ∧ X.cell? ⟨N2, o2 + j * 2, none⟩ = some (.int .i64 x) ∧ Below v.heap.size v X)
            (first | with_reducible exact HS0.out | (repeat (first | with_reducible assumption | with_reducible refine q3_allocd lP lN hN2 ?_ _ | with_reducible refine q3_alloc lP lN hN2 ?_ _ | with_reducible refine q3_set lP lN hN2 ?_ ?_ _ | (show (_ : Nat) ≤ _; exact Nat.le_refl _) | (show (_ : Nat) ≤ _; dsimp only; omega))))
            (first
              | (go_at_call 137; refine (implDecodeWord_calls x _).mono ?_; rintro e ws ⟨rfl, gs⟩; rw [HV.out.1, HV.out.2.1, HV.out.2.2.1, HV.out.2.2.2.1, HV.out.2.2.2.2]; have hss := q3_below lP lN hN2 (by with_reducible assumption) gs; have hzs := gs.size; have hws := (q3_bel hss).size; obtain ⟨bcs, bfs⟩ := bcellQ gs; (try simp only [World.size_alloc, World.size_drew] at hzs bcs bfs); (try have hts := Nat.lt_of_succ_le hzs); clear gs))
          all_goals go_wp2_with fail
          all_goals go_meet
          all_goals (
            refine ⟨_, rfl, ?lo, ?hi, ⟨?c0, ?c1, ?c2, ?c3⟩, ?b⟩
            case b => exact q3_bel (by with_reducible assumption)
            case lo => first | exact Nat.le_refl _ | omega
            case hi => first | (simp; done) | (simp; omega)
            case c0 => first | (go_simp; done) | (with_reducible refine set4_at0 _ _ _ _ _ _ ?_; go_simp; done)
            case c1 => first | (go_simp; done) | (with_reducible refine set4_at1 _ _ _ _ _ _ ?_; go_simp; done)
            case c2 => first | (go_simp; done) | (with_reducible refine set4_at2 _ _ _ _ _ _ ?_; go_simp; done)
            case c3 => first | (go_simp; done) | (with_reducible refine set4_at3 _ _ _ _ _ _ ?_; go_simp; done))
        case rest =>
        obtain ⟨I, rfl, iL, iH, ⟨p0, p1, p2, p3⟩, gd⟩ := hcut
        obtain ⟨w3, rfl⟩ : ∃ y, y = wc := ⟨wc, rfl⟩
        have z3 := gd.size
        have HY3 := hide (HYV.out.below gd)
        have HG3 := hide (HGV.out.trans (gd.mono (by omega)))
        have HO3 := hide (ownR_below HO0.out gd)
        obtain ⟨op, eop⟩ : ∃ y, y = x / 4096 := ⟨_, rfl⟩
        rw [← eop] at p0
        have EOP := hide eop
        clear gd eop HO0 HYV HGV v1 x3 r0 HS0 g4
        by_cases h4 : op = 4
        · skip
          subst h4
          have HDT : Hid (dtA D k (x / 4096) ib (x % 64) = wdA D k (wrp (gt (gx D.cs k).1 ib + x % 64)) 1) := by show _ = _; rw [← EOP.out]; unfold dtA; rw [if_pos rfl]
          go_wp2_with (first | (go_at_call 138; fail))
          refine (placeV_calls P A D k ib _ _ (x % 64) _ HY3.out HH.out hib8 him).mono ?_
          rintro e w5 ⟨rfl, g5⟩
          have z5 := g5.size
          have HY5 := hide (HY3.out.below g5)
          have HG5 := hide (HG3.out.trans (g5.mono (by omega)))
          have HO5 := hide (ownR_below HO3.out g5)
          clear g5 HY3 HG3 HO3
          go_wp2_with (first | (go_at_call 136; fail))
          refine (wordAccess_calls P A D k (wrp (gt (gx D.cs k).1 ib + x % 64)) 1 _ HY5.out HH.out (.inl rfl)).mono ?_
          rintro e w7 ⟨a2, n2, c2, rfl, hnil, hc2, _, oa, g7⟩
          clear hc2
          have z7 := g7.size
          have HO := hide (ownR_below HO5.out g7)
          have HB7 := hide (HG5.out.trans (g7.mono (by omega)))
          clear g7 HO5 HY5 HG5 p0 p1 p2 p3
          have hl2 := oa.1
          have hn2 : n2 ≤ 1 := by rw [← hl2]; exact wdA_le _ _ _ _
          cases a2 with
          | none =>
            obtain ⟨rfl, rfl⟩ := hnil rfl
            have hys : Hid (wdA D k (wrp (gt (gx D.cs k).1 ib + x % 64)) 1 = []) := List.length_eq_zero_iff.1 hl2
            have hap := fun ty => run_append_owned_none (P := Tryz.prog) (w := w7) u.heap.size 72 ty 91 i0 5 Tryz.underlying72 hi _ 1 _ HO.out
            obtain ⟨ra, rc, hv, ho⟩ := own_oa (n := 1) (by omega) rfl HO.out
            have HF := hide ho
            have HV := hide hv
            clear ho hv oa hnil hl2
            go_wp2
            go_ret
            refine ⟨ra, 1, rc, congrArg Ending.returned HV.out, ?_, HB7.out⟩
            rw [HL.out, HDT.out, hys.out, List.append_nil]
            exact HF.out.mono (fun q e => ⟨by have := e.1; omega, e.2⟩)
          | some ad =>
            have hnews : Hid (∀ j u, (vsA (wdA D k (wrp (gt (gx D.cs k).1 ib + x % 64)) 1))[j]? = some u → w7.cell? (ad.add j) = some u) := by
              show ∀ j u, _
              rcases oa.2.2 with h | ⟨b2, e2, h⟩
              · have : wdA D k (wrp (gt (gx D.cs k).1 ib + x % 64)) 1 = [] := List.length_eq_zero_iff.1 (hl2.trans h)
                rw [this]
                intro j u hj
                simp [vsA] at hj
              · injection e2 with e2
                subst e2
                intro j u hj
                refine OA.news (S := fun _ => True) (n := n2) (xs := wdA D k (wrp (gt (gx D.cs k).1 ib + x % 64)) 1) (w := w7) ⟨hl2, by omega, .inr ⟨b2, rfl, trivial, h.2⟩⟩ ?_ j u hj
                have := (List.getElem?_eq_some_iff.1 hj).1
                rw [length_vsA] at this
                omega
            have HL2 : Hid ((vsA (wdA D k (wrp (gt (gx D.cs k).1 ib + x % 64)) 1)).length = n2 * 5) := by show _ = _; rw [length_vsA, hl2]
            have HM1 : Hid (1 + n2 ≤ maxLen) := by show _ ≤ _; unfold maxLen; omega
            have HM2 : Hid ((1 + n2) * 40 ≤ 140737488355328) := by show _ ≤ _; omega
            have HBS : Hid (u.heap.size ≤ w7.heap.size) := by show _ ≤ _; omega
            have HLE : Hid (([acA D k (j : Int) tg 4] ++ wdA D k (wrp (gt (gx D.cs k).1 ib + x % 64)) 1).length = 1 + n2) := by show _ = _; rw [List.length_append, hl2]; rfl
            clear oa hnil hl2
            go_wp2_with (first
              | (at_builtin; refine wpList_append_own _ rfl _ _ 72 rfl u.heap.size 91 i0 (.agg #[.int .i64 0, .int .i64 0, .int .i64 0, .int .i64 0, .bool false]) 5 40 Tryz.underlying72 hi hz0 hz1 hz2 rfl (by decide) _ 1 (vsA [acA D k (j : Int) tg 4]) rfl HO.out ad n2 c2 (vsA (wdA D k (wrp (gt (gx D.cs k).1 ib + x % 64)) 1)) rfl HL2.out hnews.out vsA_one HM1.out HM2.out HBS.out ?_)
              | go_in)
            intro v' w9 hown' hgrow _
            rw [← vsA_append] at hown'
            obtain ⟨ra, rc, hv, ho⟩ := own_oa (by omega) HLE.out hown'
            have HF := hide ho
            have HG9 := hide (HB7.out.grown hgrow (by omega) (fun q hq => by simp [Value.ownBlock] at hq; omega))
            subst hv
            clear ho hown' hgrow hnews HL2 HM1 HM2 HBS
            go_wp2
            go_ret
            refine ⟨ra, 1 + n2, rc, rfl, ?_, HG9.out⟩
            rw [HL.out, HDT.out]
            exact HF.out.mono (fun q e => ⟨by have := e.1; omega, e.2⟩)
        by_cases h5 : op = 5
        · skip
          subst h5
          have HDT : Hid (dtA D k (x / 4096) ib (x % 64) = wdA D k (wrp (gt (gx D.cs k).1 ib + x % 64)) 2) := by show _ = _; rw [← EOP.out]; unfold dtA; rw [if_neg (by decide), if_pos rfl]
          go_wp2_with (first | (go_at_call 138; fail))
          refine (placeV_calls P A D k ib _ _ (x % 64) _ HY3.out HH.out hib8 him).mono ?_
          rintro e w5 ⟨rfl, g5⟩
          have z5 := g5.size
          have HY5 := hide (HY3.out.below g5)
          have HG5 := hide (HG3.out.trans (g5.mono (by omega)))
          have HO5 := hide (ownR_below HO3.out g5)
          clear g5 HY3 HG3 HO3
          go_wp2_with (first | (go_at_call 136; fail))
          refine (wordAccess_calls P A D k (wrp (gt (gx D.cs k).1 ib + x % 64)) 2 _ HY5.out HH.out (.inr (.inl rfl))).mono ?_
          rintro e w7 ⟨a2, n2, c2, rfl, hnil, hc2, _, oa, g7⟩
          clear hc2
          have z7 := g7.size
          have HO := hide (ownR_below HO5.out g7)
          have HB7 := hide (HG5.out.trans (g7.mono (by omega)))
          clear g7 HO5 HY5 HG5 p0 p1 p2 p3
          have hl2 := oa.1
          have hn2 : n2 ≤ 1 := by rw [← hl2]; exact wdA_le _ _ _ _
          cases a2 with
          | none =>
            obtain ⟨rfl, rfl⟩ := hnil rfl
            have hys : Hid (wdA D k (wrp (gt (gx D.cs k).1 ib + x % 64)) 2 = []) := List.length_eq_zero_iff.1 hl2
            have hap := fun ty => run_append_owned_none (P := Tryz.prog) (w := w7) u.heap.size 72 ty 91 i0 5 Tryz.underlying72 hi _ 1 _ HO.out
            obtain ⟨ra, rc, hv, ho⟩ := own_oa (n := 1) (by omega) rfl HO.out
            have HF := hide ho
            have HV := hide hv
            clear ho hv oa hnil hl2
            go_wp2
            go_ret
            refine ⟨ra, 1, rc, congrArg Ending.returned HV.out, ?_, HB7.out⟩
            rw [HL.out, HDT.out, hys.out, List.append_nil]
            exact HF.out.mono (fun q e => ⟨by have := e.1; omega, e.2⟩)
          | some ad =>
            have hnews : Hid (∀ j u, (vsA (wdA D k (wrp (gt (gx D.cs k).1 ib + x % 64)) 2))[j]? = some u → w7.cell? (ad.add j) = some u) := by
              show ∀ j u, _
              rcases oa.2.2 with h | ⟨b2, e2, h⟩
              · have : wdA D k (wrp (gt (gx D.cs k).1 ib + x % 64)) 2 = [] := List.length_eq_zero_iff.1 (hl2.trans h)
                rw [this]
                intro j u hj
                simp [vsA] at hj
              · injection e2 with e2
                subst e2
                intro j u hj
                refine OA.news (S := fun _ => True) (n := n2) (xs := wdA D k (wrp (gt (gx D.cs k).1 ib + x % 64)) 2) (w := w7) ⟨hl2, by omega, .inr ⟨b2, rfl, trivial, h.2⟩⟩ ?_ j u hj
                have := (List.getElem?_eq_some_iff.1 hj).1
                rw [length_vsA] at this
                omega
            have HL2 : Hid ((vsA (wdA D k (wrp (gt (gx D.cs k).1 ib + x % 64)) 2)).length = n2 * 5) := by show _ = _; rw [length_vsA, hl2]
            have HM1 : Hid (1 + n2 ≤ maxLen) := by show _ ≤ _; unfold maxLen; omega
            have HM2 : Hid ((1 + n2) * 40 ≤ 140737488355328) := by show _ ≤ _; omega
            have HBS : Hid (u.heap.size ≤ w7.heap.size) := by show _ ≤ _; omega
            have HLE : Hid (([acA D k (j : Int) tg 4] ++ wdA D k (wrp (gt (gx D.cs k).1 ib + x % 64)) 2).length = 1 + n2) := by show _ = _; rw [List.length_append, hl2]; rfl
            clear oa hnil hl2
            go_wp2_with (first
              | (at_builtin; refine wpList_append_own _ rfl _ _ 72 rfl u.heap.size 91 i0 (.agg #[.int .i64 0, .int .i64 0, .int .i64 0, .int .i64 0, .bool false]) 5 40 Tryz.underlying72 hi hz0 hz1 hz2 rfl (by decide) _ 1 (vsA [acA D k (j : Int) tg 4]) rfl HO.out ad n2 c2 (vsA (wdA D k (wrp (gt (gx D.cs k).1 ib + x % 64)) 2)) rfl HL2.out hnews.out vsA_one HM1.out HM2.out HBS.out ?_)
              | go_in)
            intro v' w9 hown' hgrow _
            rw [← vsA_append] at hown'
            obtain ⟨ra, rc, hv, ho⟩ := own_oa (by omega) HLE.out hown'
            have HF := hide ho
            have HG9 := hide (HB7.out.grown hgrow (by omega) (fun q hq => by simp [Value.ownBlock] at hq; omega))
            subst hv
            clear ho hown' hgrow hnews HL2 HM1 HM2 HBS
            go_wp2
            go_ret
            refine ⟨ra, 1 + n2, rc, rfl, ?_, HG9.out⟩
            rw [HL.out, HDT.out]
            exact HF.out.mono (fun q e => ⟨by have := e.1; omega, e.2⟩)
        have e4 : (op == 4) = false := by simpa using h4
        have e5 : (op == 5) = false := by simpa using h5
        by_cases h9 : op = 9
        · subst h9
          have HDT : Hid (dtA D k (x / 4096) ib (x % 64) = dvA D k) := by show _ = _; rw [← EOP.out]; unfold dtA; rw [if_neg (by decide), if_neg (by decide), if_pos rfl]
          go_wp2_with (first | (go_at_call 139; fail))
          refine (deviceAccess_calls P A D k _ HY3.out HH.out hdv).mono ?_
          rintro e w7 ⟨a2, n2, c2, rfl, hnil, hc2, _, oa, g7⟩
          clear hc2
          have z7 := g7.size
          have HO := hide (ownR_below HO3.out g7)
          have HB7 := hide (HG3.out.trans (g7.mono (by omega)))
          clear g7 HO3 HY3 HG3 p0 p1 p2 p3
          have hl2 := oa.1
          have hn2 : n2 ≤ 1 := by rw [← hl2]; exact by unfold dvA; split <;> simp
          cases a2 with
          | none =>
            obtain ⟨rfl, rfl⟩ := hnil rfl
            have hys : Hid (dvA D k = []) := List.length_eq_zero_iff.1 hl2
            have hap := fun ty => run_append_owned_none (P := Tryz.prog) (w := w7) u.heap.size 72 ty 91 i0 5 Tryz.underlying72 hi _ 1 _ HO.out
            obtain ⟨ra, rc, hv, ho⟩ := own_oa (n := 1) (by omega) rfl HO.out
            have HF := hide ho
            have HV := hide hv
            clear ho hv oa hnil hl2
            go_wp2
            go_ret
            refine ⟨ra, 1, rc, congrArg Ending.returned HV.out, ?_, HB7.out⟩
            rw [HL.out, HDT.out, hys.out, List.append_nil]
            exact HF.out.mono (fun q e => ⟨by have := e.1; omega, e.2⟩)
          | some ad =>
            have hnews : Hid (∀ j u, (vsA (dvA D k))[j]? = some u → w7.cell? (ad.add j) = some u) := by
              show ∀ j u, _
              rcases oa.2.2 with h | ⟨b2, e2, h⟩
              · have : dvA D k = [] := List.length_eq_zero_iff.1 (hl2.trans h)
                rw [this]
                intro j u hj
                simp [vsA] at hj
              · injection e2 with e2
                subst e2
                intro j u hj
                refine OA.news (S := fun _ => True) (n := n2) (xs := dvA D k) (w := w7) ⟨hl2, by omega, .inr ⟨b2, rfl, trivial, h.2⟩⟩ ?_ j u hj
                have := (List.getElem?_eq_some_iff.1 hj).1
                rw [length_vsA] at this
                omega
            have HL2 : Hid ((vsA (dvA D k)).length = n2 * 5) := by show _ = _; rw [length_vsA, hl2]
            have HM1 : Hid (1 + n2 ≤ maxLen) := by show _ ≤ _; unfold maxLen; omega
            have HM2 : Hid ((1 + n2) * 40 ≤ 140737488355328) := by show _ ≤ _; omega
            have HBS : Hid (u.heap.size ≤ w7.heap.size) := by show _ ≤ _; omega
            have HLE : Hid (([acA D k (j : Int) tg 4] ++ dvA D k).length = 1 + n2) := by show _ = _; rw [List.length_append, hl2]; rfl
            clear oa hnil hl2
            go_wp2_with (first
              | (at_builtin; refine wpList_append_own _ rfl _ _ 72 rfl u.heap.size 91 i0 (.agg #[.int .i64 0, .int .i64 0, .int .i64 0, .int .i64 0, .bool false]) 5 40 Tryz.underlying72 hi hz0 hz1 hz2 rfl (by decide) _ 1 (vsA [acA D k (j : Int) tg 4]) rfl HO.out ad n2 c2 (vsA (dvA D k)) rfl HL2.out hnews.out vsA_one HM1.out HM2.out HBS.out ?_)
              | go_in)
            intro v' w9 hown' hgrow _
            rw [← vsA_append] at hown'
            obtain ⟨ra, rc, hv, ho⟩ := own_oa (by omega) HLE.out hown'
            have HF := hide ho
            have HG9 := hide (HB7.out.grown hgrow (by omega) (fun q hq => by simp [Value.ownBlock] at hq; omega))
            subst hv
            clear ho hown' hgrow hnews HL2 HM1 HM2 HBS
            go_wp2
            go_ret
            refine ⟨ra, 1 + n2, rc, rfl, ?_, HG9.out⟩
            rw [HL.out, HDT.out]
            exact HF.out.mono (fun q e => ⟨by have := e.1; omega, e.2⟩)
        have e9 : (op == 9) = false := by simpa using h9
        have HDT : Hid (dtA D k (x / 4096) ib (x % 64) = []) := by show _ = _; rw [← EOP.out]; unfold dtA; rw [if_neg h4, if_neg h5, if_neg h9]
        obtain ⟨ra, rc, hv, ho⟩ := own_oa (n := 1) (by omega) rfl HO3.out
        have HF := hide ho
        have HV2 := hide hv
        clear ho hv h4 h5 h9 HO3
        go_wp2
        go_ret
        refine ⟨ra, 1, rc, congrArg Ending.returned HV2.out, ?_, HG3.out⟩
        rw [HL.out, HDT.out, List.append_nil]
        exact HF.out.mono (fun q e => ⟨by have := e.1; omega, e.2⟩)

set_option maxRecDepth 100000 in
set_option maxHeartbeats 4000000 in
theorem implAccessesOf_calls (A : SA) (D : SD) (w : World) (hr : RS w A D) (hk : A.ln ≤ A.lc) :
    Calls Tryz.prog 27 #[.agg #[.slice A.a A.n A.c, .slice A.ta A.tn A.tc, .slice A.da A.dn A.dc, .slice A.wa A.wn A.wc, .slice A.xa A.xn A.xc, .int .i64 D.ac, .int .i64 D.cz, .slice A.la A.ln A.lc, .int .i64 D.dv, .slice A.oa A.on A.oc, .slice A.ga A.gn A.gc]] w fun e w' => ∃ ra rn rc, e = .returned (.agg #[.int .i64 (sysF D), .slice ra rn rc]) ∧ OA (InR w.heap.size w'.heap.size) ra rn (aoL D) w' ∧ Below w.heap.size w w' := by
  have M0 := ((Mm.start w).allocC [.slice A.a A.n A.c, .slice A.ta A.tn A.tc, .slice A.da A.dn A.dc, .slice A.wa A.wn A.wc, .slice A.xa A.xn A.xc, .int .i64 D.ac, .int .i64 D.cz, .slice A.la A.ln A.lc, .int .i64 D.dv, .slice A.oa A.on A.oc, .slice A.ga A.gn A.gc] 47).alloc2 (.int .i64 0) (.slice none 0 0) 74
  simp only [World.size_alloc] at M0
  go_enter Tryz.func27, Tryz.ntmps27
  go_wp2_with fail
  refine (implSystemFault_calls A D _ (hr.below M0.bel (Nat.le_refl _)) hk).mono ?_
  rintro e w1 ⟨rfl, g1⟩
  have z1 : w.heap.size + 2 ≤ w1.heap.size := by have := g1.size; simpa using this
  have M1 := M0.below g1
  clear g1 M0
  by_cases hf : sysF D = 0
  rotate_left
  · have HL : Hid (aoL D = []) := if_neg hf
    have hne : (sysF D != 0) = true := by simpa using hf
    have r0 := M1.cell 0 rfl
    have r1 := M1.cell 1 rfl
    have f0 := M1.fz 0 rfl
    have f1 := M1.fz 1 rfl
    have HB := hide M1.bel
    clear M1 hf
    go_wp2
    refine bodyPost_ret (v := .agg #[.int .i64 (sysF D), .slice none 0 0]) (by simp [results, Tryz.results27, go_sem, r0, r1]) rfl ⟨none, 0, 0, rfl, ?_, (HB.out.setCell (by simp) _).setCell (by simp) _⟩
    rw [HL.out]
    exact OA.nil _ _ _
  have hne : (sysF D != 0) = false := by simp [hf]
  obtain ⟨k, H⟩ := hr.right hf
  have hdv : 0 ≤ D.dv ∧ D.dv ≤ (A.tn : Int) := by
    have h5 := (sysF_inv hf).2.2.2.2.1
    rw [hr.len.2.1] at h5
    unfold hasT at h5
    simp at h5
    omega
  have HL : Hid (aoL D = accA D k) := by show _ = _; unfold aoL; rw [if_pos hf, H.ac]; rfl
  have HF := hide hf
  have HR := hide (fun (u : World) (g : Below w.heap.size w u) => hr.below g (Nat.le_refl _))
  have a0 := (M1.get 0 rfl).cell 0 rfl
  have a1 := (M1.get 0 rfl).cell 1 rfl
  have a2 := (M1.get 0 rfl).cell 2 rfl
  have a3 := (M1.get 0 rfl).cell 3 rfl
  have a4 := (M1.get 0 rfl).cell 4 rfl
  have a5 := (M1.get 0 rfl).cell 5 rfl
  have a6 := (M1.get 0 rfl).cell 6 rfl
  have a7 := (M1.get 0 rfl).cell 7 rfl
  have a8 := (M1.get 0 rfl).cell 8 rfl
  have a9 := (M1.get 0 rfl).cell 9 rfl
  have a10 := (M1.get 0 rfl).cell 10 rfl
  obtain ⟨u, hu⟩ : ∃ y, y = w1.alloc (.cells #[.slice A.a A.n A.c, .slice A.ta A.tn A.tc, .slice A.da A.dn A.dc, .slice A.wa A.wn A.wc, .slice A.xa A.xn A.xc, .int .i64 D.ac, .int .i64 D.cz, .slice A.la A.ln A.lc, .int .i64 D.dv, .slice A.oa A.on A.oc, .slice A.ga A.gn A.gc, .int .i64 0, .int .i64 0] 132) := ⟨_, rfl⟩
  have al : Below w1.heap.size w1 u := by rw [hu]; exact (Below.refl _ _).alloc (Nat.le_refl _) _
  have zu : u.heap.size = w1.heap.size + 1 := by rw [hu]; simp
  have HCs : Cs w1.heap.size [.slice A.a A.n A.c, .slice A.ta A.tn A.tc, .slice A.da A.dn A.dc, .slice A.wa A.wn A.wc, .slice A.xa A.xn A.xc, .int .i64 D.ac, .int .i64 D.cz, .slice A.la A.ln A.lc, .int .i64 D.dv, .slice A.oa A.on A.oc, .slice A.ga A.gn A.gc, .int .i64 0, .int .i64 0] u := by rw [hu]; exact Cs.alloc w1 [.slice A.a A.n A.c, .slice A.ta A.tn A.tc, .slice A.da A.dn A.dc, .slice A.wa A.wn A.wc, .slice A.xa A.xn A.xc, .int .i64 D.ac, .int .i64 D.cz, .slice A.la A.ln A.lc, .int .i64 D.dv, .slice A.oa A.on A.oc, .slice A.ga A.gn A.gc, .int .i64 0, .int .i64 0] _
  have M1b := M1.below al
  have HY : Hid (YV w1.heap.size A D u) := ⟨by omega, fun i hi => by
    have h := (HCs.2 i (by simp at hi ⊢; omega)).1
    rw [Nat.zero_add, h]
    have hi' : i < 11 := by simpa using hi
    rcases (by omega : i = 0 ∨ i = 1 ∨ i = 2 ∨ i = 3 ∨ i = 4 ∨ i = 5 ∨ i = 6 ∨ i = 7 ∨ i = 8 ∨ i = 9 ∨ i = 10) with rfl | rfl | rfl | rfl | rfl | rfl | rfl | rfl | rfl | rfl | rfl <;> rfl, HR.out _ M1b.bel⟩
  have Hu := hide hu
  clear hf hu al HCs M1
  go_upto_region 5 with fail
  rw [← Hu.out]
  go_wp2_with fail
  refine (accesses_calls w1.heap.size A D k _ HY.out H hdv).mono ?_
  rintro e w2 ⟨ra, rn, rc, rfl, oa, g2⟩
  have z2 := g2.size
  have M2 := (M1b.below g2).fact OA.loc oa
  clear g2 oa M1b a0 a1 a2 a3 a4 a5 a6 a7 a8 a9 a10 Hu
  have r0 := M2.cell 0 rfl
  have r1 := M2.cell 1 rfl
  have f0 := M2.fz 0 rfl
  have f1 := M2.fz 1 rfl
  have HB := hide M2.bel
  have HO := hide (M2.get 0 rfl)
  clear M2
  go_wp2
  refine bodyPost_ret (v := .agg #[.int .i64 0, .slice ra rn rc]) (by simp [results, Tryz.results27, go_sem, r0, r1]) rfl ⟨ra, rn, rc, by rw [HF.out], ?_, (HB.out.setCell (by simp) _).setCell (by simp) _⟩
  rw [HL.out]
  exact (OA.loc.setC (OA.loc.setC HO.out (fun h => by have := h.1; simp at this; omega) _) (fun h => by have := h.1; simp at this; omega) _).mono (fun q e => ⟨by have := e.1; omega, by have := e.2; simp; omega⟩)

end Go.Proofs.YtbfmdnnbiidlkaaGreat
