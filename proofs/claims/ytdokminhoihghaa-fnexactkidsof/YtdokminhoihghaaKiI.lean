import Derived.Test.YtdokminhoihghaaKiH
import Derived.Test.YtdokminhoihghaaKgK
import Derived.WalkKit
import Derived.ProofKit
import Derived.OpenShut
import Derived.ShutString
import Derived.ChangeOld
import Derived.Below
import Derived.WalkSpells
import Derived.Deep.QuietTactic
import Derived.BigQuiet
import Derived.Deep.RegionWith
import Derived.Deep.WholeRow
import Derived.Deep.DeepCutAuto
import Derived.Deep.RegionHeld2
import Derived.Deep.AppendLies
import Derived.Deep.RegionLaw
namespace Go.Proofs.Ytdokminhoihghaa
open Go.ChangeShapes Go.WideShapes Go.ChangeAt Go.RowKit

set_option maxRecDepth 100000 in
set_option maxHeartbeats 4000000 in
theorem names_calls (nx : Int) (ka : Option Addr) (kl kc : Nat) (ks : List OB) (w : World) (hkl12 : kl ≤ 12) (hkl : kl = ks.length) (hk : S7 w ka kl (gO ks)) : Calls Try.prog 68 #[.agg #[.int .i64 nx, .slice ka kl kc]] w fun e w' => ∃ ra rc, e = .returned (.slice ra kl rc) ∧ OS (InR w.heap.size w'.heap.size) ra kl (ks.map (fun x => x.2.1)) w' ∧ Below w.heap.size w w' := by
  have M0 := (Mm.start w).allocC [.int .i64 nx, .slice ka kl kc] 90
  obtain ⟨u, hu⟩ : ∃ u, u = w.alloc (.cells #[.int .i64 nx, .slice ka kl kc] 90) := ⟨_, rfl⟩
  rw [← hu] at M0
  have HK7 := hide (hk.below M0.bel (Nat.le_refl _))
  have zu : w.heap.size < u.heap.size := by rw [hu]; simp
  obtain ⟨i0, hi, hz0, hz1, hz2⟩ := info_parts info2
  have hmk : ∀ W : World, (Instr.makeSlice 33 (.int .i64 0) (.int .i64 (kl : Int))).run Try.prog W = .ok (.slice (some ⟨W.heap.size, 0, none⟩) 0 kl) (W.alloc (.cells (madeCells #[.int .i64 0] kl) 2)) := fun W => by
    have h := run_make (P := Try.prog) W 33 2 i0 (.int .i64 0) Try.underlying33 hi hz0 .i64 .i64 0 (kl : Int) (Int.le_refl _) (by omega) (by rw [hz2]; omega) (by omega)
    simpa [hz1, Value.cells] using h
  have HOW0 := hide (World.ownsRow_made (base := u.heap.size) (e := 2) (size := 1) u (madeCells #[.int .i64 0] kl) kl (Nat.le_refl _) (by unfold maxLen; omega) (by rw [size_madeCells]; omega))
  have HB2 : Hid (Below u.heap.size u (u.alloc (.cells (madeCells #[.int .i64 0] kl) 2))) := (Below.refl _ _).alloc (Nat.le_refl _) _
  have HM := hide M0
  have HU := hide hu
  have HKL := hide hkl
  have c0 := (M0.get 0 rfl).cell 0 rfl
  have c1 := (M0.get 0 rfl).cell 1 rfl
  clear M0 hu hk hkl
  go_enter Try.func68, Try.ntmps68
  go_upto_region 1 with fail
  rw [← HU.out]
  clear HU
  go_wp2
  clear c0 c1
  go_loopw [13, 3] (fun q v wr => ∃ k : Nat, k ≤ kl ∧ q = .int .i64 k ∧ wr.ownsRow u.heap.size 2 1 v k (((ks.map (fun x => x.2.1)).take k).map (Value.int .i64)) ∧ Below u.heap.size u wr) (fun q _ _ => kl - (intOf q).toNat)
  case atStart => exact ⟨0, Nat.zero_le _, rfl, HOW0.out, HB2.out⟩
  case round =>
    obtain ⟨k, hkn, rfl, own, gwr⟩ := hrel
    have HOW := hide own
    have hB := gwr.size
    have hs7 := HK7.out.below gwr (Nat.le_refl _)
    have HGW := hide gwr
    by_cases hlt : k < kl
    · obtain ⟨b, off, rfl, hb, hc⟩ := hs7 (by omega)
      obtain ⟨la, lc, da, dc, h7⟩ := hc k hlt
      obtain ⟨r0, r1, r2, r3, r4, r5, r6⟩ := h7
      have k0 : (0 : Int) ≤ (k : Int) := by omega
      have k1 : (k : Int) < (kl : Int) := by omega
      have HC1 : Hid (Below wr.heap.size wr ((wr.alloc (.cells #[.int .i64 (gO ks k).1, .int .i64 (gO ks k).2.1, .int .i64 (gO ks k).2.2.1, .slice la (gO ks k).2.2.2.1.length lc, .int .i64 (gO ks k).2.2.2.2.1, .int .i64 (gO ks k).2.2.2.2.2.1, .slice da (gO ks k).2.2.2.2.2.2.length dc] 67)).alloc (.cells #[.int .i64 (gO ks k).2.1] 2))) := ((Below.refl wr.heap.size wr).alloc (Nat.le_refl _) _).alloc (by simp) _
      have HN : Hid (((ks.map (fun x => x.2.1)).take (k + 1)).map (Value.int .i64) = ((ks.map (fun x => x.2.1)).take k).map (Value.int .i64) ++ [.int .i64 (gO ks k).2.1]) := by
        show _ = _
        have hk' : k < ks.length := by have := HKL.out; omega
        rw [List.take_succ_eq_append_getElem (by simpa using hk'), List.map_append]
        simp [gO, hk']
      clear own gwr hs7 hc
      go_wp2_with (first
        | (at_builtin; go_loud (refine wpList_append_lies _ rfl _ _ 33 rfl u.heap.size 2 i0 (.int .i64 0) 1 8 Try.underlying33 hi hz0 hz1 hz2 rfl (by decide) _ k _ rfl (ownR_below HOW.out HC1.out) ⟨wr.heap.size + 1, 0, none⟩ 1 1 [.int .i64 (gO ks k).2.1] rfl rfl (one_new (by go_simp)) (by simp [Value.oneCell']) (by omega) (by unfold maxLen; omega) (by omega) (by simp; omega) (wr.heap.size + 2) (by simp) ?_))
        | go_in)
      intro g cp w5 hown5 hg5 hat5 hlt5
      have HG5 : Hid (Below u.heap.size u w5) := ((HGW.out.trans (HC1.out.mono HGW.out.size)).grown hg5 (by simp; omega) (fun q e => (HOW.out.lt q e).1))
      have HOW5 := hide hown5
      clear hown5 hg5 hat5 hlt5 r0 r1 r2 r3 r4 r5 r6
      go_wp2
      go_roundw
      case rel => exact ⟨k + 1, by omega, by go_num, by rw [HN.out]; simpa using HOW5.out, HG5.out⟩
      case measure => simp [intOf]; omega
    · obtain rfl : k = kl := by omega
      obtain ⟨ra, rc, rfl, fr⟩ := owns_osl (by omega) own
      have fr2 : OS (InR u.heap.size wr.heap.size) ra k ((ks.map (fun x => x.2.1)).take k) wr := OS.ofOSl fr
      have HB := hide (HM.out.bel.trans (gwr.mono HM.out.bel.size))
      have HO := hide fr2
      have HT : Hid (((ks.map (fun x => x.2.1)).take k) = ks.map (fun x => x.2.1)) := List.take_of_length_le (by simp; have := HKL.out; omega)
      clear own fr fr2 gwr HGW HOW hs7 hlt
      go_wp2
      go_ret
      refine ⟨ra, rc, rfl, ?_, HB.out⟩
      rw [← HT.out]
      exact HO.out.mono (fun q e => ⟨by have := e.1; omega, e.2⟩)

set_option maxRecDepth 100000 in
set_option maxHeartbeats 4000000 in
theorem implKidsOf_calls (a : Option Addr) (n c : Nat) (xs : List OB) (i : Int) (w : World) (hm : n ≤ maxLen) (hs : Sob w a n xs) (hcap : n ≤ c) : Calls Try.prog 37 #[.agg #[.slice a n c], .int .i64 i] w fun e w' => ∃ ra rn rc, e = .returned (.agg #[.int .i64 (boxC xs i), .slice ra rn rc]) ∧ OS (InR w.heap.size w'.heap.size) ra rn (kidL xs i) w' ∧ Below w.heap.size w w' := by
  have hlen := hs.1
  have M0 := ((Mm.start w).allocC [.slice a n c] 29).allocC [.int .i64 0, .slice none 0 0] 55
  simp only [World.size_alloc] at M0
  have HS := hide (hs.below M0.bel (Nat.le_refl _))
  go_enter Try.func37, Try.ntmps37
  go_wp2_with fail
  refine (boxOf_calls a n c xs i _ hm HS.out hcap).mono ?_
  rintro e w1 ⟨nx, ka, kl, kc, rfl, hbx, g1⟩
  have z1 : w.heap.size + 2 ≤ w1.heap.size := by have := g1.size; simpa using this
  have M1 := (M0.below g1).allocC [.int .i64 nx, .slice ka kl kc] 90
  obtain ⟨u, hu⟩ : ∃ u, u = w1.alloc (.cells #[.int .i64 nx, .slice ka kl kc] 90) := ⟨_, rfl⟩
  rw [← hu] at M1
  have gu : Below w1.heap.size w1 u := by rw [hu]; exact (Below.refl _ _).alloc (Nat.le_refl _) _
  have zu : w1.heap.size < u.heap.size := by rw [hu]; simp
  have HBX := hide (hbx.congr gu)
  have HM := hide M1
  have HU := hide hu
  clear M0 M1 g1 HS hbx gu hu
  go_upto_region 2 with fail
  rw [← HU.out]
  clear HU
  by_cases h1 : boxC xs i = 0
  rotate_left
  · have HV : Hid (kidL xs i = []) := if_neg h1
    have e1 : (boxC xs i != 0) = true := by simpa using h1
    have r0 := (HM.out.get 1 rfl).cell 0 rfl
    have r1 := (HM.out.get 1 rfl).cell 1 rfl
    have f0 := (HM.out.get 1 rfl).fz 0 (by simp)
    have f1 := (HM.out.get 1 rfl).fz 1 (by simp)
    have HB := hide HM.out.bel
    clear h1 HM
    go_wp2
    refine bodyPost_ret (v := .agg #[.int .i64 (boxC xs i), .slice none 0 0]) (by simp [results, Try.results37, go_sem, r0, r1]) rfl ⟨none, 0, 0, rfl, ?_, (HB.out.setCell (by simp) _).setCell (by simp) _⟩
    rw [HV.out]
    exact ⟨rfl, by omega, .inl rfl⟩
  have e1 : (boxC xs i != 0) = false := by simp [h1]
  have HC0 := hide h1
  have hb0 := HBX.out
  unfold BX at hb0
  rw [if_pos h1] at hb0
  obtain ⟨rfl, hkl, hk7⟩ := hb0
  obtain ⟨h2, hkind⟩ := boxC_inv h1
  obtain ⟨h3, hi0, hi1⟩ := askC_inv h2
  obtain ⟨hn1, h12, hone, _⟩ := kerF_inv h3
  have hf0 := one_first (hone 0 (by omega))
  have hkid := kidX_kid (f := gO xs) (p := i) (by rw [hf0]; omega) xs.length
  have hkl12 : kl ≤ 12 := by have := (box_quotas (i := i) h3).1; omega
  obtain ⟨ks, hks⟩ : ∃ ks, ks = kidX (gO xs) i xs.length := ⟨_, rfl⟩
  rw [← hks] at hkid hkl hk7
  have HV : Hid (kidL xs i = ks.map (fun x => x.2.1)) := by show _ = _; unfold kidL; rw [if_pos h1, hkid]
  have c0 := (HM.out.get 0 rfl).cell 0 rfl
  have c1 := (HM.out.get 0 rfl).cell 1 rfl
  obtain ⟨nx, hnx⟩ : ∃ nx, nx = (gO xs i.toNat).2.2.2.2.2.1 := ⟨_, rfl⟩
  rw [← hnx] at c0 HM ⊢
  have HNA := hide (names_calls nx ka kl kc ks u hkl12 hkl hk7)
  clear h1 h2 h3 hi0 hi1 hone hkind hf0 hkid HBX hlen hks hk7 hkl hnx
  go_wp2_with fail
  refine HNA.out.mono ?_
  rintro e w3 ⟨ra, rc, rfl, ho, g3⟩
  have z3 := g3.size
  have M5 := HM.out.below g3
  have c0_ := (M5.get 1 rfl).cell 0 rfl
  have c1_ := (M5.get 1 rfl).cell 1 rfl
  have f0_ := (M5.get 1 rfl).fz 0 (by simp)
  have f1_ := (M5.get 1 rfl).fz 1 (by simp)
  have HB := hide M5.bel
  have HO := hide ho
  clear M5 ho g3 HM c0 c1 HNA
  go_wp2
  refine bodyPost_ret (v := .agg #[.int .i64 0, .slice ra kl rc]) (by simp [results, Try.results37, go_sem, c0_, c1_]) rfl ⟨ra, _, rc, by rw [HC0.out], ?_, (HB.out.setCell (by simp) _).setCell (by simp) _⟩
  rw [HV.out]
  exact (OS.loc.setC (OS.loc.setC HO.out (fun h => by have := h.1; simp at this; omega) _) (fun h => by have := h.1; simp at this; omega) _).mono (fun q e => ⟨by have := e.1; omega, by have := e.2; simp; omega⟩)

end Go.Proofs.Ytdokminhoihghaa
