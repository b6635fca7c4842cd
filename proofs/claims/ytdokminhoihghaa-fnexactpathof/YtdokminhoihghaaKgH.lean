import Derived.Test.YtdokminhoihghaaKgS
import Derived.Test.YtdokminhoihghaaCsK
import Derived.Test.YtdokminhoihghaaApp
import Derived.Deep.AppendLies
import Derived.WalkKit
import Derived.ProofKit
import Derived.OpenShut
import Derived.ShutString
import Derived.ChangeOld
import Derived.Below
import Derived.WalkSpells
import Derived.Deep.QuietTactic
import Derived.BigQuiet
import Derived.Deep.RegionWith
import Derived.Deep.WholeRow
import Derived.Deep.DeepCutAuto
import Derived.Deep.RegionHeld2
import Derived.Deep.AppendLies
import Derived.Deep.RegionLaw
namespace Go.Proofs.Ytdokminhoihghaa
open Go.ChangeShapes Go.WideShapes Go.ChangeAt Go.RowKit

theorem ownR_mono {w : World} {B B' e s : Nat} {v : Value} {k : Nat} {xs : List Value} (h : w.ownsRow B e s v k xs) (hb : B' ≤ B) : w.ownsRow B' e s v k xs :=
  ⟨h.1, h.2.imp id (fun ⟨g, cap, cur, hv, hB, r⟩ => ⟨g, cap, cur, hv, by omega, r⟩)⟩

set_option maxRecDepth 100000 in
set_option maxHeartbeats 8000000 in
theorem l11Path_calls (P : Nat) (a : Option Addr) (n c : Nat) (xs : List OB) (hn : n ≤ 12) (hu : ∀ j, 0 < j → j < n → 0 ≤ (gO xs j).1 ∧ (gO xs j).1 < (j : Int)) : ∀ (m p : Nat) (w : World), p ≤ m → p < n → KR P a n c xs w → Calls Try.prog 59 #[.pointer (some ⟨P, 0, none⟩), .int .i64 (p : Int)] w fun e w' => ∃ v, e = .returned v ∧ w'.ownsRow w.heap.size 2 1 v (pathO (gO xs) p p).length ((pathO (gO xs) p p).map (Value.int .i64)) ∧ Below w.heap.size w w' := by
  obtain ⟨i0, hi, hz0, hz1, hz2⟩ := info_parts info2
  intro m
  induction m with
  | zero =>
    intro p w hp _ _
    obtain rfl : p = 0 := by omega
    have HO := hide (World.ownsRow_lit (base := w.heap.size) (e := 2) (size := 1) w #[] 0 (Nat.le_refl _) (Nat.zero_le _) rfl)
    go_enter Try.func59, Try.ntmps59
    go_wp2
    go_ret
    exact ⟨_, rfl, HO.out, (Below.refl _ _).alloc (Nat.le_refl _) _⟩
  | succ m ih =>
    intro p w hp hpn hk
    by_cases h0 : p = 0
    · subst h0
      have HO := hide (World.ownsRow_lit (base := w.heap.size) (e := 2) (size := 1) w #[] 0 (Nat.le_refl _) (Nat.zero_le _) rfl)
      go_enter Try.func59, Try.ntmps59
      go_wp2
      go_ret
      exact ⟨_, rfl, HO.out, (Below.refl _ _).alloc (Nat.le_refl _) _⟩
    have e0 : ((p : Int) == 0) = false := by simp; omega
    have hup := hu p (by omega) hpn
    obtain ⟨q, eq⟩ : ∃ q : Nat, (gO xs p).1 = (q : Int) := ⟨(gO xs p).1.toNat, by omega⟩
    have HP : Hid (pathO (gO xs) p p = pathO (gO xs) q q ++ [(gO xs p).2.1]) := by
      show _ = _
      obtain ⟨r, rfl⟩ : ∃ r, p = r + 1 := ⟨p - 1, by omega⟩
      conv => lhs; unfold pathO
      rw [if_neg h0, eq]
      have := pathO_more (f := gO xs) (n := n) hu r q (by omega) (by omega)
      rw [show ((q : Int)).toNat = q from rfl, this]
    have hql := pathO_le (gO xs) q q
    have c0 := hk.c0
    have hPl := hk.lt
    obtain ⟨b, off, ea, hb, hc⟩ := hk.so.2 (by omega)
    rw [ea] at c0
    obtain ⟨_, _, _, _, ⟨t0, t1, _, _, _, _, _⟩, _⟩ := hc p hpn
    rw [eq] at t0
    have p0 : (0 : Int) ≤ (p : Int) := by omega
    have p1 : (p : Int) < (n : Int) := by omega
    have HK := hide hk
    have hqp : q < p := by omega
    have hqm : q ≤ m := by omega
    have hqn : q < n := by omega
    clear hk hc ea hup eq
    go_enter Try.func59, Try.ntmps59
    go_wp2_with fail
    go_region_law (first
      | (refine step_append_lies _ rfl _ _ 33 rfl w.heap.size 2 i0 (.int .i64 0) 1 8 Try.underlying33 hi hz0 hz1 hz2 rfl (by decide) v _ _ rfl (by first | exact HW.out | exact HW.out.alloc _) ⟨_, 0, none⟩ 1 1 [.int .i64 (gO xs p).2.1] rfl rfl (one_new (by first | (go_simp; done) | exact (GC.out.cell (p := ⟨w.heap.size, 0, none⟩) (by simp)).trans (by simp))) (by simp [Value.oneCell']) (by omega) (by unfold maxLen; omega) (by omega) (by have := HC.out.size; first | omega | (simp; omega)) _ rfl ?_; intro g cp w5 hown1 hgrow hat hlt1; have HF := hide hown1; have HG : Hid (Below w.heap.size w w5) := (by first | exact HC.out.grown hgrow (by have := HC.out.size; omega) (fun k hk => (HW.out.lt k hk).1) | exact (HC.out.alloc HC.out.size _).grown hgrow (by have := HC.out.size; simp; omega) (fun k hk => (HW.out.lt k hk).1)); clear hown1 hgrow hat)
      | (go_simp; go_at_call 59; refine (ih q _ hqm hqn (HK.out.below (by first | exact (Below.refl _ _).drew | exact ((Below.refl _ _).alloc (Nat.le_refl _) _) | exact ((Below.refl _ _).alloc (Nat.le_refl _) _).drew | exact ((Below.refl _ _).drew.alloc (Nat.le_refl _) _)))).mono ?_; rintro e wc ⟨v, rfl, own, gc⟩; have HC : Hid (Below w.heap.size w wc) := (by first | exact (Below.refl _ _).drew.trans gc | exact ((Below.refl _ _).alloc (Nat.le_refl _) _).trans (gc.mono (by simp)) | exact ((Below.refl _ _).alloc (Nat.le_refl _) _).drew.trans (gc.mono (by simp)) | exact ((Below.refl _ _).drew.alloc (Nat.le_refl _) _).trans (gc.mono (by simp))); have HW := hide (ownR_mono (B' := w.heap.size) own (by simp)); have j0 := (HC.out.cell (p := ⟨P, 0, none⟩) hPl).trans c0; have j1 := (HC.out.cell (p := ⟨b, off + p * 7 + 1, none⟩) hb).trans t1; have GC := hide gc; have lwc := HC.out.size; clear own gc))
    all_goals (
      go_wp2
      go_ret
      exact ⟨_, rfl, by rw [HP.out, List.length_append, List.map_append]; exact HF.out, HG.out⟩)

set_option maxRecDepth 100000 in
theorem specPathOf_calls (a : Option Addr) (n c : Nat) (xs : List OB) (i : Int) (w : World) (hm : n ≤ maxLen) (hs : Sob w a n xs) (_hcap : n ≤ c) : Calls Try.prog 28 #[.agg #[.slice a n c], .int .i64 i] w fun e w' => ∃ ra rn rc, e = .returned (.agg #[.int .i64 (askC xs i), .slice ra rn rc]) ∧ OS (InR w.heap.size w'.heap.size) ra rn (pathL xs i) w' ∧ Below w.heap.size w w' := by
  have M0 := ((Mm.start w).alloc1 (.slice a n c) 29).alloc2 (.int .i64 0) (.slice none 0 0) 55
  simp only [World.size_alloc] at M0
  have HK : Hid (KR w.heap.size a n c xs ((w.alloc (.cells #[.slice a n c] 29)).alloc (.cells #[.int .i64 0, .slice none 0 0] 55))) := ⟨by simp; omega, M0.cell 2 rfl, hm, hs.below M0.bel (Nat.le_refl _)⟩
  go_enter Try.func28, Try.ntmps28
  go_wp2_with fail
  refine (l11Asked_calls _ a n c xs i _ HK.out).mono ?_
  rintro e w1 ⟨rfl, g1⟩
  have z1 : w.heap.size + 2 ≤ w1.heap.size := by have := g1.size; simpa using this
  have M1 := M0.below g1
  have HK1 := hide (HK.out.below g1)
  clear M0 g1 HK
  by_cases h1 : askC xs i = 0
  rotate_left
  · have HV : Hid (pathL xs i = []) := if_neg h1
    have e1 : (askC xs i != 0) = true := by simpa using h1
    have r0 := M1.cell 0 rfl
    have r1 := M1.cell 1 rfl
    have f0 := M1.fz 0 rfl
    have f1 := M1.fz 1 rfl
    have HB := hide M1.bel
    clear h1 M1
    go_wp2
    refine bodyPost_ret (v := .agg #[.int .i64 (askC xs i), .slice none 0 0]) (by simp [results, Try.results28, go_sem, r0, r1]) rfl ⟨none, 0, 0, rfl, ?_, (HB.out.setCell (by simp) _).setCell (by simp) _⟩
    rw [HV.out]
    exact ⟨rfl, by omega, .inl rfl⟩
  have e1 : (askC xs i != 0) = false := by simp [h1]
  obtain ⟨h3, hi0, hi1⟩ := askC_inv h1
  have h12 := (kerF_inv h3).2.1
  have hlen := hs.1
  obtain ⟨q, rfl⟩ : ∃ q : Nat, i = (q : Int) := ⟨i.toNat, by omega⟩
  have HV : Hid (pathL xs (q : Int) = pathO (gO xs) q q) := if_pos h1
  have HC := hide h1
  have HPT := hide (l11Path_calls w.heap.size a n c xs (by omega) (fun j h0 hj => up_of h3 h0 (by omega)) q q w1 (Nat.le_refl _) (by omega) HK1.out)
  have hql := pathO_le (gO xs) q q
  have hq12 : q ≤ 12 := by omega
  clear h1 h3 hi1
  go_wp2_with fail
  refine HPT.out.mono ?_
  rintro e w2 ⟨v, rfl, own, g2⟩
  have z2 := g2.size
  obtain ⟨ra, rc, rfl, fr⟩ := owns_osl (by omega) own
  have M2 := (M1.below g2).fact OS.loc (OS.ofOSl fr)
  have r0 := M2.cell 0 rfl
  have r1 := M2.cell 1 rfl
  have f0 := M2.fz 0 rfl
  have f1 := M2.fz 1 rfl
  have HB := hide M2.bel
  have HO := hide (M2.get 0 rfl)
  clear M1 M2 g2 own fr
  go_wp2
  refine bodyPost_ret (v := .agg #[.int .i64 0, .slice ra (pathO (gO xs) q q).length rc]) (by simp [results, Try.results28, go_sem, r0, r1]) rfl ⟨ra, _, rc, by rw [HC.out], ?_, (HB.out.setCell (by simp) _).setCell (by simp) _⟩
  rw [HV.out]
  exact (OS.loc.setC (OS.loc.setC HO.out (fun h => by have := h.1; simp at this; omega) _) (fun h => by have := h.1; simp at this; omega) _).mono (fun q e => ⟨by have := e.1; omega, by have := e.2; simp; omega⟩)

end Go.Proofs.Ytdokminhoihghaa
