import Derived.Test.YtpcdfeccmiiglaaMpP
import Derived.Test.YtpcdfeccmiiglaaKiL
import Derived.Test.YtpcdfeccmiiglaaCsK
import Derived.Test.YtpcdfeccmiiglaaQs
import Derived.WalkKit
import Derived.ProofKit
import Derived.OpenShut
import Derived.ShutString
import Derived.ChangeOld
import Derived.Below
import Derived.WalkSpells
import Derived.Deep.QuietTactic
import Derived.BigQuiet
import Derived.Deep.RegionWith
import Derived.Deep.WholeRow
import Derived.Deep.DeepCutAuto
import Derived.Deep.RegionHeld2
import Derived.Deep.AppendLies
import Derived.Deep.RegionLaw
namespace Go.Proofs.Ytpcdfeccmiiglaa
open Go.ChangeShapes Go.WideShapes Go.ChangeAt Go.RowKit

def whoF (xs : List OB) (ws : List Int) : Int := if kerF xs = 0 then fault ws else kerF xs

set_option maxRecDepth 100000 in
theorem askerFault_calls (a : Option Addr) (n c : Nat) (xs : List OB) (wa : Option Addr) (wn wc : Nat) (ws : List Int) (w : World) (hm : n ≤ maxLen) (hs : Sob w a n xs) (hcap : n ≤ c) (hwm : wn ≤ maxLen) (hw : Sl w wa wn ws) :
    Calls Try.prog 63 #[.agg #[.slice a n c], .agg #[.slice wa wn wc]] w fun e w' => e = .returned (.int .i64 (whoF xs ws)) ∧ Below w.heap.size w w' := by
  have M0 := ((Mm.start w).allocC [.slice a n c] 26).allocC [.slice wa wn wc] 47
  simp only [World.size_alloc] at M0
  have HS := hide (hs.below M0.bel (Nat.le_refl _))
  have HW := hide (hw.below M0.bel (Nat.le_refl _))
  clear hs hw
  go_enter Try.func63, Try.ntmps63
  go_wp2_with fail
  refine (implKernelFault_calls a n c xs _ hm HS.out hcap).mono ?_
  rintro e w1 ⟨rfl, g1⟩
  have M1 := M0.below g1
  have c0 := (M1.get 0 rfl).cell 0 rfl
  have HB := hide M1.bel
  have HM := hide M1
  have HW1 := hide (HW.out.below g1 (Nat.le_refl _))
  clear M0 M1 g1 HS HW
  by_cases h1 : kerF xs = 0
  rotate_left
  · have HV : Hid (whoF xs ws = kerF xs) := if_neg h1
    have e1 : (kerF xs != 0) = true := by simpa using h1
    clear h1
    go_wp2
    go_ret
    exact ⟨ret_int HV.out.symm, HB.out⟩
  have HV : Hid (whoF xs ws = fault ws) := if_pos h1
  have e1 : (kerF xs != 0) = false := by simp [h1]
  clear h1
  go_wp2_with fail
  refine (implLabelFault_calls wa wn wc ws _ hwm HW1.out).mono ?_
  rintro e w2 ⟨rfl, g2⟩
  have HE := hide (HM.out.below g2).bel
  clear g2
  go_wp2
  go_ret
  exact ⟨ret_int HV.out.symm, HE.out⟩

/-- a keeper: the cells of the objects and of who asks. -/
structure Kp (Q : Nat) (a : Option Addr) (n c : Nat) (xs : List OB) (wa : Option Addr) (wn wc : Nat) (ws : List Int) (w : World) : Prop where
  lt : Q < w.heap.size
  c0 : w.cell? ⟨Q, 0, none⟩ = some (.slice a n c)
  c1 : w.cell? ⟨Q, 1, none⟩ = some (.slice wa wn wc)
  so : Sob w a n xs
  wm : wn ≤ maxLen
  sw : Sl w wa wn ws

theorem Kp.below {Q : Nat} {a : Option Addr} {n c : Nat} {xs : List OB} {wa : Option Addr} {wn wc : Nat} {ws : List Int} {w w' : World} (h : Kp Q a n c xs wa wn wc ws w) (hb : Below w.heap.size w w') : Kp Q a n c xs wa wn wc ws w' :=
  ⟨by have := hb.size; have := h.lt; omega, (hb.cell (p := ⟨Q, 0, none⟩) h.lt).trans h.c0, (hb.cell (p := ⟨Q, 1, none⟩) h.lt).trans h.c1, h.so.below hb (Nat.le_refl _), h.wm, h.sw.below hb (Nat.le_refl _)⟩

def obV : Bool → Value
  | true => .nilIface
  | false => .iface 151 (.agg #[])
def psV : Bool → Int → Value
  | true, i => .tuple #[.int .i64 i, .nilIface]
  | false, _ => .tuple #[.int .i64 0, .iface 135 (.agg #[.int .i64 4])]
theorem psV_t (i : Int) : psV true i = .tuple #[.int .i64 i, .nilIface] := rfl
theorem psV_f (i : Int) : psV false i = .tuple #[.int .i64 0, .iface 135 (.agg #[.int .i64 4])] := rfl

set_option maxRecDepth 100000 in
set_option maxHeartbeats 2000000 in
theorem observe_is (Q : Nat) (a : Option Addr) (n c : Nat) (xs : List OB) (wa : Option Addr) (wn wc : Nat) (ws : List Int) (i : Nat) (b : Bool) (w : World) (hk : Kp Q a n c xs wa wn wc ws w) (hi : i < n) (hb : obsB ws (gO xs i).2.2.2.1 = b) :
    Calls Try.prog 88 #[.pointer (some ⟨Q, 0, none⟩), .int .i64 (i : Int)] w fun e w' => e = .returned (obV b) ∧ Below w.heap.size w w' := by
  obtain ⟨hQ, hc0, hc1, hso, hwm, hsw⟩ := hk
  obtain ⟨bk, off, rfl, hbk, hc⟩ := hso.2 (by omega)
  obtain ⟨la, lc, _, _, ⟨_, _, _, t3, _, _, _⟩, hll, hsl, _⟩ := hc i hi
  have i0 : (0 : Int) ≤ (i : Int) := by omega
  have i1 : (i : Int) < (n : Int) := by omega
  have HS0 : Hid (w.drew.cell? ⟨Q, 0, none⟩ = some (.slice (some ⟨bk, off, none⟩) n c) ∧ w.drew.cell? ⟨Q, 1, none⟩ = some (.slice wa wn wc) ∧ w.drew.cell? ⟨bk, off + i * 7 + 3, none⟩ = some (.slice la (gO xs i).2.2.2.1.length lc) ∧ Below w.heap.size w w.drew) := ⟨hc0, hc1, t3, (Below.refl _ _).drew⟩
  have HW := hide hsw
  have HL := hide hsl
  have HB := hide hb
  clear hc hso hc0 hc1 t3 hsw hsl hb
  go_enter Try.func88, Try.ntmps88
  go_upto_region 1 with fail
  go_region_held2 (fun X => X.cell? ⟨Q, 0, none⟩ = some (.slice (some ⟨bk, off, none⟩) n c) ∧ X.cell? ⟨Q, 1, none⟩ = some (.slice wa wn wc) ∧ X.cell? ⟨bk, off + i * 7 + 3, none⟩ = some (.slice la (gO xs i).2.2.2.1.length lc) ∧ Below w.heap.size w X)
    (first | with_reducible exact HS0.out | with_reducible assumption)
    (first
      | (go_at_call 103; (with_reducible refine (implCanObserve_calls wa la wn wc _ lc ws (gO xs i).2.2.2.1 _ hwm hll ?_ ?_).mono ?_); exact HW.out.below (q3_bel (by with_reducible assumption)) (Nat.le_refl _); exact HL.out.below (q3_bel (by with_reducible assumption)) (Nat.le_refl _); rintro e y1 ⟨rfl, ga⟩; rw [HB.out]; have hs1 := q3_below hQ hQ hbk (by with_reducible assumption) ga; clear ga))
  have HE := hide (q3_bel hs1)
  clear hs1 HS0
  cases b with
  | true =>
    go_wp2
    go_ret
    exact ⟨rfl, HE.out⟩
  | false =>
    go_wp2
    go_ret
    exact ⟨rfl, HE.out⟩

theorem err_nn (W : World) : (binOp .neq 103 .nilIface .nilIface).run Try.prog W = .ok (.bool false) W := by kernel_rfl
theorem err_nd (W : World) : (binOp .neq 103 (.iface 151 (.agg #[])) .nilIface).run Try.prog W = .ok (.bool true) W := by kernel_rfl
theorem err_en (W : World) : (binOp .eql 103 .nilIface .nilIface).run Try.prog W = .ok (.bool true) W := by kernel_rfl
theorem err_eu (c : Int) (W : World) : (binOp .eql 103 (.iface 135 (.agg #[.int .i64 c])) .nilIface).run Try.prog W = .ok (.bool false) W := by kernel_rfl

set_option maxRecDepth 100000 in
set_option maxHeartbeats 4000000 in
theorem pass_calls (Q : Nat) (a : Option Addr) (n c : Nat) (xs : List OB) (wa : Option Addr) (wn wc : Nat) (ws : List Int) (za : Option Addr) (zn zc : Nat) (zs : List Int) (w : World) (hk : Kp Q a n c xs wa wn wc ws w) (hker : kerF xs = 0) (hfw : fault ws = 0) (hz : zn ≤ 1048576) (ht : Sl w za zn zs) :
    Calls Try.prog 64 #[.pointer (some ⟨Q, 0, none⟩), .slice za zn zc] w fun e w' => e = .returned (psV (psB xs ws zs) (findO (gO xs) n zs)) ∧ Below w.heap.size w w' := by
  have hlen := hk.so.1
  have hn1 := (kerF_inv hker).1
  have hn12 : n ≤ 12 := by have := (kerF_inv hker).2.1; omega
  have hf0 := one_first ((kerF_inv hker).2.2.1 0 (by omega))
  have HF0 := hide hf0
  have HOB : Hid (∀ i, i < n → obsB ws (gO xs i).2.2.2.1 = obX ws (gO xs) i) := fun i hi => obX_obs hker hfw (by omega)
  have HIN := hide (findO_in (gO xs) n (by omega))
  have HK := hide hk
  have hQ := hk.lt
  have hc0 := hk.c0
  have HP1 : Hid (findO (gO xs) n zs < 0 → psB xs ws zs = false) := fun h => psB_neg (by rw [hlen]; exact h)
  have HP2 : Hid (∀ k, k < zn → obX ws (gO xs) (findO (gO xs) n (zs.take k)).toNat = false → psB xs ws zs = false) := fun k hk2 h => by
    unfold psB; rw [hlen, downB_no (by have := ht.1; omega : k < zs.length) h, Bool.and_false]
  have HP3 : Hid (0 ≤ findO (gO xs) n zs → (∀ j, j < zn → obX ws (gO xs) (findO (gO xs) n (zs.take j)).toNat = true) → psB xs ws zs = true) := fun h0 h => by
    unfold psB; rw [hlen, decide_eq_true h0, downB_yes (fun j hj => h j (by have := ht.1; omega)), Bool.true_and]
  have hnn := err_nn
  have hnd := err_nd
  clear hk hker hfw hf0
  obtain ⟨htl, ht⟩ := ht
  go_enter Try.func64, Try.ntmps64
  go_wp2
  go_loopw [11, 6] (fun i at_ wr => ∃ k : Nat, k ≤ zn ∧ i = .int .i64 k ∧ at_ = .int .i64 (findO (gO xs) n (zs.take k)) ∧ 0 ≤ findO (gO xs) n (zs.take k) ∧ (∀ j, j < k → obX ws (gO xs) (findO (gO xs) n (zs.take j)).toNat = true) ∧ Below w.heap.size w wr) (fun i _ _ => zn - (intOf i).toNat)
  case atStart => exact ⟨0, Nat.zero_le _, rfl, by simp [findO], by simp [findO], fun j hj => by omega, Below.refl _ _⟩
  case round =>
    obtain ⟨k, hk, rfl, rfl, hpos, hall, gwr⟩ := hrel
    have HGW := hide gwr
    have HALL := hide hall
    have hin := HIN.out (zs.take k)
    by_cases hlt : k < zn
    · obtain ⟨bz, oz, rfl, hbz, hcz⟩ := ht (by omega)
      have ck := (gwr.cell (p := ⟨bz, oz + k, none⟩) hbz).trans (hcz k hlt)
      have k0 : (k : Int) < (zn : Int) := by omega
      have k1 : (0 : Int) ≤ (k : Int) := by omega
      obtain ⟨p, hp⟩ : ∃ p : Nat, findO (gO xs) n (zs.take k) = (p : Int) := ⟨(findO (gO xs) n (zs.take k)).toNat, by omega⟩
      have hpn : p < n := by omega
      have hpt : (findO (gO xs) n (zs.take k)).toNat = p := by omega
      have hstep : findO (gO xs) n (zs.take (k + 1)) = pinA (gO xs) n (p : Int) (gt zs k) := by
        rw [findO_take (by omega), hp, pin_kid (by rw [HF0.out]; omega)]
        exact if_neg (by omega)
      have HST := hide hstep
      have hKw := HK.out.below gwr
      have HPI := hide (fun W (hW : Below w.heap.size w W) => placeIn_calls a n c (gO xs) (p : Int) (gt zs k) W (by unfold maxLen; omega) ((HK.out.so.below hW (Nat.le_refl _)).s7))
      have d0 := (gwr.cell (p := ⟨Q, 0, none⟩) hQ).trans hc0
      have HC0 := hide hc0
      cases hob : obX ws (gO xs) p with
      | false =>
        have HR := hide (HP2.out k hlt (by rw [hpt]; exact hob))
        have HO := hide (observe_is Q a n c xs wa wn wc ws p false wr hKw hpn (by rw [HOB.out p hpn]; exact hob))
        rw [hp]
        clear hp hpt hstep hin hpos hall gwr hcz hob hKw
        go_wp2_with fail
        refine HO.out.mono ?_
        rintro e w2 ⟨rfl, g2⟩
        rw [show obV false = .iface 151 (.agg #[]) from rfl]
        have HE := hide (HGW.out.trans (g2.mono HGW.out.size))
        clear g2 d0 ck HO
        go_wp2
        refine bodyPost_ret (v := .tuple #[.int .i64 0, .iface 135 (.agg #[.int .i64 4])]) (by simp [results, Try.results64, go_sem]) rfl ⟨by rw [HR.out]; rfl, HE.out⟩
      | true =>
        have HN : Hid (∀ j, j < k + 1 → obX ws (gO xs) (findO (gO xs) n (zs.take j)).toNat = true) := fun j hj => by
          by_cases ej : j = k
          · subst ej; rw [hpt]; exact hob
          · exact HALL.out j (by omega)
        have HO := hide (observe_is Q a n c xs wa wn wc ws p true wr hKw hpn (by rw [HOB.out p hpn]; exact hob))
        rw [hp]
        clear hp hpt hstep hin hpos hall gwr hcz hob hKw hc0
        go_wp2_with fail
        refine HO.out.mono ?_
        rintro e w2 ⟨rfl, g2⟩
        rw [show obV true = .nilIface from rfl]
        have HE := hide (HGW.out.trans (g2.mono HGW.out.size))
        have d2 := (HE.out.cell (p := ⟨Q, 0, none⟩) hQ).trans HC0.out
        have HPW := hide (HPI.out w2 HE.out)
        clear g2 d0 ck HO HPI
        go_wp2_with fail
        refine HPW.out.mono ?_
        rintro e w3 ⟨rfl, g3⟩
        have HE3 := hide (HE.out.trans (g3.mono HE.out.size))
        clear g3 d2 HPW
        by_cases h2 : pinA (gO xs) n (p : Int) (gt zs k) < 0
        · have HR : Hid (psB xs ws zs = false) := HP1.out (by rw [findO_neg (k := k + 1) (by rw [HST.out]; exact h2), HST.out]; exact h2)
          go_wp2
          refine bodyPost_ret (v := .tuple #[.int .i64 0, .iface 135 (.agg #[.int .i64 4])]) (by simp [results, Try.results64, go_sem]) rfl ⟨by rw [HR.out]; rfl, HE3.out⟩
        · have hc0 := HC0.out
          go_wp2
          go_roundw
          case rel => exact ⟨k + 1, by omega, by go_num, by rw [HST.out], by rw [HST.out]; omega, HN.out, HE3.out⟩
          case measure => simp [intOf]; omega
    · have et : zs.take k = zs := List.take_of_length_le (by omega)
      obtain rfl : k = zn := by omega
      have HR : Hid (psB xs ws zs = true) := HP3.out (by rw [← et]; exact hpos) HALL.out
      rw [et]
      clear ht et hpos hall hin gwr hc0
      go_wp2
      refine bodyPost_ret (v := .tuple #[.int .i64 (findO (gO xs) n zs), .nilIface]) (by simp [results, Try.results64, go_sem]) rfl ⟨by rw [HR.out]; rfl, HGW.out⟩

set_option maxRecDepth 100000 in
set_option maxHeartbeats 2000000 in
theorem implMayPass_calls (a : Option Addr) (n c : Nat) (xs : List OB) (wa : Option Addr) (wn wc : Nat) (ws : List Int) (za : Option Addr) (zn zc : Nat) (zs : List Int) (w : World) (hm : n ≤ maxLen) (hs : Sob w a n xs) (hcap : n ≤ c) (hwm : wn ≤ maxLen) (hw : Sl w wa wn ws) (hz : zn ≤ 1048576) (ht : Sl w za zn zs) :
    Calls Try.prog 31 #[.agg #[.slice a n c], .agg #[.slice wa wn wc], .slice za zn zc] w fun e w' => e = .returned (.bool (mpB xs ws zs)) ∧ Below w.heap.size w w' := by
  have M0 := ((Mm.start w).allocC [.slice a n c] 26).allocC [.slice wa wn wc] 47
  simp only [World.size_alloc] at M0
  have HS := hide (hs.below M0.bel (Nat.le_refl _))
  have HW := hide (hw.below M0.bel (Nat.le_refl _))
  have HT := hide (ht.below M0.bel (Nat.le_refl _))
  have hen := err_en
  have heu := err_eu
  clear hs hw ht
  go_enter Try.func31, Try.ntmps31
  go_wp2_with fail
  refine (askerFault_calls a n c xs wa wn wc ws _ hm HS.out hcap hwm HW.out).mono ?_
  rintro e w1 ⟨rfl, g1⟩
  have M1 := M0.below g1
  have z1 := g1.size
  simp only [World.size_alloc] at z1
  have c0 := (M1.get 1 rfl).cell 0 rfl
  have c1 := (M1.get 0 rfl).cell 0 rfl
  have HM := hide M1
  have HB := hide M1.bel
  have HS1 := hide (HS.out.below g1 (Nat.le_refl _))
  have HW1 := hide (HW.out.below g1 (Nat.le_refl _))
  have HT1 := hide (HT.out.below g1 (Nat.le_refl _))
  clear M0 M1 g1 HS HW HT
  by_cases h1 : kerF xs = 0 ∧ fault ws = 0
  rotate_left
  · have HV : Hid (mpB xs ws zs = false) := if_neg h1
    obtain ⟨cd, hcd⟩ : ∃ cd, cd = whoF xs ws := ⟨_, rfl⟩
    have e1 : (cd != 0) = true := by
      rw [hcd]
      unfold whoF
      by_cases h2 : kerF xs = 0
      · rw [if_pos h2]; simpa using fun e => h1 ⟨h2, e⟩
      · rw [if_neg h2]; simpa using h2
    rw [← hcd]
    clear h1 hcd
    go_wp2
    go_ret
    exact ⟨ret_bool HV.out.symm, HB.out⟩
  obtain ⟨h1, h2⟩ := h1
  have HV : Hid (mpB xs ws zs = psB xs ws zs) := if_pos ⟨h1, h2⟩
  rw [show whoF xs ws = 0 from (if_pos h1).trans h2]
  have M2 := HM.out.allocC [.slice a n c, .slice wa wn wc] 101
  have HK : Hid (Kp w1.heap.size a n c xs wa wn wc ws (w1.alloc (.cells #[.slice a n c, .slice wa wn wc] 101))) := by
    have hb : Below w1.heap.size w1 (w1.alloc (.cells #[.slice a n c, .slice wa wn wc] 101)) := (Below.refl _ _).alloc (Nat.le_refl _) _
    exact ⟨by simp, (M2.get 0 rfl).cell 0 rfl, (M2.get 0 rfl).cell 1 rfl, HS1.out.below hb (Nat.le_refl _), hwm, HW1.out.below hb (Nat.le_refl _)⟩
  have HP := hide (pass_calls w1.heap.size a n c xs wa wn wc ws za zn zc zs _ HK.out h1 h2 hz (HT1.out.below ((Below.refl _ _).alloc (Nat.le_refl _) _) (Nat.le_refl _)))
  have HM2 := hide M2
  clear h1 h2 M2 HM HK
  go_wp2_with fail
  refine HP.out.mono ?_
  rintro e w2 ⟨rfl, g2⟩
  have HE := hide (HM2.out.below g2).bel
  clear g2 HP
  cases hps : psB xs ws zs with
  | true =>
    have HR : Hid (mpB xs ws zs = true) := HV.out.trans hps
    rw [psV_t]
    clear hps
    go_wp2
    go_ret
    exact ⟨ret_bool HR.out.symm, HE.out⟩
  | false =>
    have HR : Hid (mpB xs ws zs = false) := HV.out.trans hps
    rw [psV_f]
    clear hps
    go_wp2
    go_ret
    exact ⟨ret_bool HR.out.symm, HE.out⟩

end Go.Proofs.Ytpcdfeccmiiglaa
