import Derived.Test.YtpcdfeccmiiglaaDrawPO
import Derived.Test.YtpcdfeccmiiglaaKiK
import Derived.Deep.AppendLies
import Derived.WalkKit
import Derived.ProofKit
import Derived.OpenShut
import Derived.ShutString
import Derived.ChangeOld
import Derived.Below
import Derived.WalkSpells
import Derived.Deep.QuietTactic
import Derived.BigQuiet
import Derived.Deep.RegionWith
import Derived.Deep.WholeRow
import Derived.Deep.DeepCutAuto
import Derived.Deep.RegionHeld2
import Derived.Deep.AppendLies
import Derived.Deep.RegionLaw
namespace Go.Proofs.Ytpcdfeccmiiglaa
open Go.ChangeShapes Go.WideShapes Go.ChangeAt Go.RowKit

/-- what l11DrawPath gives. -/
def DrewPth (p : Nat) (a : Option Addr) (len cap t : Nat) (w : World) (e : Ending) (w' : World) : Prop :=
  ∃ (ra : Option Addr) (rn rc : Nat) (zs : List Int) (t' : Nat), e = .returned (.slice ra rn rc) ∧ rn ≤ 2 ∧ FrS (InR w.heap.size w'.heap.size) ra rn zs w' ∧ Src w' p a len cap t' ∧ t' ≤ t + 10 ∧ Outside p (p + 1) w w'

set_option maxRecDepth 100000 in
set_option maxHeartbeats 2000000 in
theorem l11DrawPath_calls (p : Nat) (a : Option Addr) (len cap t : Nat) (w : World) (ht : t ≤ 990000) (hs : Src w p a len cap t) : Calls Try.prog 40 #[.pointer (some ⟨p, 0, none⟩)] w (DrewPth p a len cap t w) := by
  have hp : p < w.heap.size := hs.1
  obtain ⟨i0, hi, hz0, hz1, hz2⟩ := info_parts info2
  have own0 := owns_empty w w.heap.size 2 1 (Nat.le_refl _)
  have s0 := hs.below ((Below.refl _ _).alloc (Nat.le_refl _) (.cells #[] 2))
  have u0 := Outside.alloc p (p + 1) w (.cells #[] 2)
  have HOWN := hide own0
  clear own0
  go_enter Try.func40, Try.ntmps40
  go_wp2_with fail
  refine (l1Next_calls p a len cap t 3 _ (by omega) (by omega) (by omega) s0).mono ?_
  rintro e w1 ⟨r, rfl, r0, r1, s1, o1⟩
  obtain ⟨m0, rfl⟩ : ∃ q : Nat, r = (q : Int) := ⟨r.toNat, by omega⟩
  have hm0 : m0 ≤ 2 := by omega
  have HO1 := hide (owns_outside HOWN.out o1 hp)
  have HU1 := hide (u0.trans o1)
  have HS1 := hide s1
  clear HOWN s0 u0 s1 o1 r0 r1 hs
  go_wp2
  go_loopw [4, 3] (fun q v wr => ∃ (m : Nat) (L : List Int) (vg vc t' : Nat), q = .int .i64 (m : Int) ∧ L.length + m ≤ 2 ∧ v = .slice (some ⟨vg, 0, none⟩) L.length vc ∧ wr.ownsRow w.heap.size 2 1 v L.length (L.map (Value.int .i64)) ∧ Src wr p a len cap t' ∧ t' + m ≤ t + 5 ∧ Outside p (p + 1) w wr) (fun q _ _ => (intOf q).toNat)
  case atStart => exact ⟨m0, [], _, _, t + 1, rfl, by simpa using hm0, rfl, HO1.out, HS1.out, by omega, HU1.out⟩
  case round =>
    obtain ⟨m, L, vg, vc, t', rfl, hLm, rfl, own, s, htm, u⟩ := hrel
    have HOW := hide own
    have HS := hide s
    have HU := hide u
    have zw := u.size
    by_cases hm : m = 0
    · subst hm
      have e0 : ¬ (((0 : Nat) : Int) > 0) := by omega
      obtain ⟨hvg, hbk⟩ := owns_blk0 own
      have HF : Hid (FrS (InR w.heap.size wr.heap.size) (some ⟨vg, 0, none⟩) L.length L wr) := (OS.ofBlk (S := InR w.heap.size wr.heap.size) hbk ⟨hvg, hbk.1⟩ rfl (by omega)).frS (fun _ e => e)
      clear own s u hbk HO1 HU1 HS1
      go_wp2
      go_ret
      exact ⟨_, _, _, _, t', rfl, by omega, HF.out, HS.out, by omega, HU.out⟩
    · have hm1 : (m : Int) > 0 := by omega
      obtain ⟨k, rfl⟩ : ∃ k, m = k + 1 := ⟨m - 1, by omega⟩
      clear own s u HO1 HU1 HS1 hm
      go_wp2_with fail
      refine (l1Next_calls p a len cap t' 3 wr (by omega) (by omega) (by omega) HS.out).mono ?_
      rintro e w7 ⟨r, rfl, r0, r1, s7, o7⟩
      have HO7 := hide (owns_outside HOW.out o7 hp)
      have z7 := o7.size
      have HC7 : Hid (Below w7.heap.size w7 (w7.alloc (.cells #[.int .i64 (1 + r)] 2))) := (Below.refl w7.heap.size w7).alloc (Nat.le_refl _) _
      have HS7 := hide s7
      have HU7 := hide (HU.out.trans o7)
      clear s7 o7 HOW HU HS
      go_wp2_with (first
        | (at_builtin; go_loud (refine wpList_append_lies _ rfl _ _ 29 rfl w.heap.size 2 i0 (.int .i64 0) 1 8 Try.underlying29 hi hz0 hz1 hz2 rfl (by decide) _ L.length _ rfl (ownR_below HO7.out HC7.out) ⟨w7.heap.size, 0, none⟩ 1 1 [.int .i64 (1 + r)] rfl rfl (one_new (by go_simp)) (by simp [Value.oneCell']) (by omega) (by unfold maxLen; omega) (by omega) (by simp; omega) (w7.heap.size + 1) (by simp) ?_))
        | go_in)
      intro g cp w8 hown8 hg8 hat8 hlt8
      have bl : Below w.heap.size w7 w8 := (HC7.out.mono (by omega)).grown hg8 (by simp; omega) (fun q e => (HO7.out.lt q e).1)
      have HO8 := hide hown8
      have HS8 := hide (HS7.out.belowB bl hp)
      have HU8 : Hid (Outside p (p + 1) w w8) := HU7.out.transB bl (Nat.le_refl _)
      clear hown8 hg8 hat8 hlt8 bl HO7 HC7
      go_wp2
      go_roundw
      case rel => exact ⟨k, L ++ [1 + r], g, cp, t' + 1, by go_num, by simp; omega, by rw [List.length_append]; rfl, by rw [List.length_append, List.map_append]; exact HO8.out, HS8.out, by omega, HU8.out⟩
      case measure => simp [intOf]

/-- what a draw of a kernel and a path gives. -/
def DrewFO (w : World) (e : Ending) (w' : World) : Prop :=
  ∃ (ra : Option Addr) (n rc : Nat) (xs : List OB) (za : Option Addr) (zn zc : Nat) (zs : List Int), e = .returned (.tuple #[.agg #[.slice ra n rc], .slice za zn zc]) ∧ SobS (InR w.heap.size w'.heap.size) ra n xs w' ∧ n ≤ rc ∧ zn ≤ 2 ∧ FrS (InR w.heap.size w'.heap.size) za zn zs w' ∧ Below w.heap.size w w'

set_option maxRecDepth 100000 in
set_option maxHeartbeats 2000000 in
theorem drawFindObject_calls (a : Option Addr) (len cap : Nat) (w : World) (hc : Cd w a len) :
    Calls Try.prog 9 #[.slice a len cap] w (DrewFO w) := by
  have M0 := (Mm.start w).alloc1 (.slice none 0 0) 26
  have S0 := (hc.below M0.bel).src (cap := cap) 108
  have M1 := M0.below ((Below.refl _ _).alloc (Nat.le_refl _) (.cells #[.slice a len cap, .int .i64 0] 108))
  simp only [World.size_alloc] at S0
  clear M0
  go_enter Try.func9, Try.ntmps9
  go_wp2_with (go_at_call 35; refine (l1Source_calls a len cap _).mono ?_; rintro e w0 ⟨rfl, rfl⟩)
  refine (l11Bent_calls (w.heap.size + 1) a len cap 0 _ (by omega) S0).mono ?_
  rintro e w1 ⟨ra, n, rc, xs, t1, rfl, tb, hnc, s1, ht1, u1⟩
  have z1 := u1.size
  simp only [World.size_alloc] at z1 tb
  have M2 := (M1.out (OutS.of_outside u1) (by omega) (by simp) (by simp)).fact SobS.loc tb
  clear M1 S0 u1 tb
  go_wp2_with fail
  refine (l11DrawPath_calls (w.heap.size + 1) a len cap t1 _ (by omega) s1).mono ?_
  rintro e w2 ⟨za, zn, zc, zs, t2, rfl, hzn, fr, s2, ht2, u2⟩
  have M3 := M2.out (OutS.of_outside u2) (by omega) (by simp) (by simp <;> omega)
  have z2 := u2.size
  clear M2 s1 u2
  have c0 := M3.cell 0 rfl
  have f0 := M3.fz 0 rfl
  have HM := hide M3
  have HF := hide fr
  clear M3 fr
  go_wp2
  obtain ⟨h1, h2⟩ := sob_fin HM.out (by omega) (by omega) (.slice ra n rc)
  exact bodyPost_ret (v := .tuple #[.agg #[.slice ra n rc], .slice za zn zc]) (by simp [results, Try.results9, go_sem, c0]) rfl ⟨ra, n, rc, xs, za, zn, zc, zs, rfl, h1, hnc, hzn, (FrS.loc.setC HF.out (q := ⟨w.heap.size, 0, none⟩) (fun e => by have := e.1; simp only at this; omega) _).mono (fun k hk => ⟨by have := hk.1; omega, by have := hk.2; simpa using this⟩), h2⟩

end Go.Proofs.Ytpcdfeccmiiglaa
