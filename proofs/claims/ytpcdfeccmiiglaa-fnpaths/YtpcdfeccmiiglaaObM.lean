import Derived.Test.YtpcdfeccmiiglaaObL
import Derived.Test.YtpcdfeccmiiglaaRegO
import Derived.WalkKit
import Derived.ProofKit
import Derived.OpenShut
import Derived.ShutString
import Derived.ChangeOld
import Derived.Below
import Derived.WalkSpells
import Derived.Deep.QuietTactic
import Derived.BigQuiet
import Derived.Deep.RegionWith
import Derived.Deep.WholeRow
import Derived.Deep.DeepCutAuto
import Derived.Deep.RegionHeld2
import Derived.Deep.AppendLies
import Derived.Deep.RegionLaw
namespace Go.Proofs.Ytpcdfeccmiiglaa
open Go.ChangeShapes Go.WideShapes Go.ChangeAt Go.RowKit



theorem O7.of_eq {w : World} {b o : Nat} {x y : OB} {la : Option Addr} {lc : Nat} {da : Option Addr} {dc : Nat} (h : O7 w b o x la lc da dc) (h0 : x.1 = y.1) (h1 : x.2.1 = y.2.1) (h2 : x.2.2.1 = y.2.2.1) (h3 : x.2.2.2.1.length = y.2.2.2.1.length) (h4 : x.2.2.2.2.1 = y.2.2.2.2.1) (h5 : x.2.2.2.2.2.1 = y.2.2.2.2.2.1) (h6 : x.2.2.2.2.2.2.length = y.2.2.2.2.2.2.length) : O7 w b o y la lc da dc := by
  unfold O7 at *
  rw [← h0, ← h1, ← h2, ← h3, ← h4, ← h5, ← h6]
  exact h

theorem OOb.congr {S : Nat → Prop} {N n : Nat} {la : Nat → Option Addr} {lc lb : Nat → Nat} {f : Nat → OB} {g : Nat → OB} {w : World} (h : OOb S N n la lc lb f w) (e : ∀ i, i < n → f i = g i) : OOb S N n la lc lb g w := by
  have hs : ∀ q, q < 2 * n → sbO f q = sbO g q := fun q hq => by unfold sbO; rw [e _ (by omega)]
  exact ⟨h.hS, h.lt, h.fz, fun i hi => e i hi ▸ h.c i hi, fun q hq => hs q hq ▸ h.os q hq, fun q hq hl => h.lS q hq (by rw [hs q hq]; exact hl), fun q hq hl => h.ne q hq (by rw [hs q hq]; exact hl), fun q r hq hr a b c => h.ap q r hq hr a (by rw [hs q hq]; exact b) (by rw [hs r hr]; exact c)⟩

/-- numbers of object i are written. -/
theorem OOb.setV {S : Nat → Prop} {N n : Nat} {la : Nat → Option Addr} {lc lb : Nat → Nat} {f : Nat → OB} {w : World} (h : OOb S N n la lc lb f w) {i : Nat} (hi : i < n) (x : OB) (hl : x.2.2.2.1 = (f i).2.2.2.1) (hd : x.2.2.2.2.2.2 = (f i).2.2.2.2.2.2) (o : Nat) (vs : List Value) (hv : o + vs.length ≤ 7) (hx : O7 (setL w N (i * 7 + o) vs) N (i * 7) x (la (2 * i)) (lc (2 * i)) (la (2 * i + 1)) (lc (2 * i + 1))) : OOb S N n la lc lb (fun j => if j = i then x else f j) (setL w N (i * 7 + o) vs) := by
  have hs : sbO (fun j => if j = i then x else f j) = sbO f := by
    funext q
    unfold sbO
    by_cases e : q / 2 = i
    · simp only [e, if_true, hl, hd]
    · simp only [e, if_false]
  refine ⟨h.hS, by rw [setL_size]; exact h.lt, fun j => by rw [setL_fz]; exact h.fz j, fun j hj => ?_, ?_, ?_, ?_, ?_⟩
  · by_cases e : j = i
    · subst e; rw [if_pos rfl]; exact hx
    · rw [if_neg e]; exact O7_other (h.c j hj) _ (by omega)
  · rw [hs]; exact fun q hq => OS.loc w _ (fun k hk _ => setL_blk _ _ _ _ _ (fun e => h.ne q hq hk.2 (hk.1.symm.trans e))) (h.os q hq)
  · rw [hs]; exact h.lS
  · rw [hs]; exact h.ne
  · rw [hs]; exact h.ap

/-- the row q is written. -/
theorem OOb.setRow {S : Nat → Prop} {N n : Nat} {la : Nat → Option Addr} {lc lb : Nat → Nat} {f : Nat → OB} {w w' : World} (h : OOb S N n la lc lb f w) {q : Nat} (hq : q < 2 * n) (g : Nat → OB) (hg : ∀ i, i < n → (f i).1 = (g i).1 ∧ (f i).2.1 = (g i).2.1 ∧ (f i).2.2.1 = (g i).2.2.1 ∧ (f i).2.2.2.2.1 = (g i).2.2.2.2.1 ∧ (f i).2.2.2.2.2.1 = (g i).2.2.2.2.2.1) (hz : (sbO g q).length = (sbO f q).length) (hr : ∀ r, r ≠ q → sbO g r = sbO f r) (ho : OutS (fun k => k = lb q ∧ 0 < (sbO f q).length) w w') (hs : OS (fun k => k = lb q ∧ 0 < (sbO f q).length) (la q) (sbO f q).length (sbO g q) w') : OOb S N n la lc lb g w' := by
  have eN := ho.block N h.lt (fun e => h.ne q hq e.2 e.1.symm)
  have hlen : ∀ r, (sbO g r).length = (sbO f r).length := fun r => by
    by_cases e : r = q
    · subst e; exact hz
    · rw [hr r e]
  refine ⟨h.hS, by have := ho.size; have := h.lt; omega, fun j => (World.frozen?_of_block (a := ⟨N, j, none⟩) eN).trans (h.fz j), fun i hi => ?_, fun r hr2 => ?_, fun r hr2 hl => h.lS r hr2 (by rw [hlen] at hl; exact hl), fun r hr2 hl => h.ne r hr2 (by rw [hlen] at hl; exact hl), fun a b ha hb e ea eb => h.ap a b ha hb e (by rw [hlen] at ea; exact ea) (by rw [hlen] at eb; exact eb)⟩
  · obtain ⟨g0, g1, g2, g4, g5⟩ := hg i hi
    have l0 := hlen (2 * i)
    have l1 := hlen (2 * i + 1)
    rw [sbO_l, sbO_l] at l0
    rw [sbO_d, sbO_d] at l1
    exact ((h.c i hi).of_block eN).of_eq g0 g1 g2 l0.symm g4 g5 l1.symm
  · rw [hlen]
    by_cases e : r = q
    · subst e; exact hs
    · rw [hr r e]; exact OS.loc.out ho (fun k hk e2 => h.ap r q hr2 hq e hk.2 e2.2 (hk.1.symm.trans e2.1)) (h.os r hr2)

/-- the mark at which object j begins, marks from m on. -/
def moC (m : Int) (xs : List OB) (j : Nat) : Int := m + 5 * (j : Int) + (lenO (xs.take j) : Int)

def mk1 (u : Int) (x : OB) : OB := (u, u + 1, u + 1 + 1, marksFrom (u + 1 + 1 + 1) x.2.2.2.1.length, u + 1 + 1 + 1 + (x.2.2.2.1.length : Int), u + 1 + 1 + 1 + (x.2.2.2.1.length : Int) + 1, marksFrom (u + 1 + 1 + 1 + (x.2.2.2.1.length : Int) + 1 + 1) x.2.2.2.2.2.2.length)

def mkO (m : Int) (xs : List OB) : List OB := (List.range xs.length).map (fun j => mk1 (moC m xs j) (gO xs j))

theorem length_mkO (m : Int) (xs : List OB) : (mkO m xs).length = xs.length := by simp [mkO]

theorem gO_mkO (m : Int) (xs : List OB) (j : Nat) (h : j < xs.length) : gO (mkO m xs) j = mk1 (moC m xs j) (gO xs j) := by simp [mkO, gO, h]

theorem lenO_congr : ∀ (xs ys : List OB), xs.length = ys.length → (∀ j, j < xs.length → (gO xs j).2.2.2.1.length + (gO xs j).2.2.2.2.2.2.length = (gO ys j).2.2.2.1.length + (gO ys j).2.2.2.2.2.2.length) → lenO xs = lenO ys
  | [], [], _, _ => rfl
  | [], _ :: _, h, _ => by simp at h
  | _ :: _, [], h, _ => by simp at h
  | x :: r, y :: s, h, hc => by
    have h0 := hc 0 (by simp)
    have ih := lenO_congr r s (by simpa using h) (fun j hj => by have := hc (j + 1) (by simpa using hj); simpa [gO] using this)
    simp [gO] at h0
    simp only [lenO]
    omega

theorem lenO_mkO (m : Int) (xs : List OB) : lenO (mkO m xs) = lenO xs :=
  lenO_congr _ _ (length_mkO m xs) (fun j hj => by rw [length_mkO] at hj; rw [gO_mkO m xs j hj]; simp [mk1, length_marksFrom])

theorem moC_succ (m : Int) (xs : List OB) (j : Nat) (h : j < xs.length) : moC m xs (j + 1) = moC m xs j + 1 + 1 + 1 + ((gO xs j).2.2.2.1.length : Int) + 1 + 1 + ((gO xs j).2.2.2.2.2.2.length : Int) := by
  unfold moC
  rw [lenO_take xs j h]
  omega

theorem moC_le (m : Int) (xs : List OB) (j : Nat) : moC m xs j ≤ m + 5 * (j : Int) + (lenO xs : Int) := by
  unfold moC
  have := lenO_le xs j
  omega

theorem moC_ge (m : Int) (xs : List OB) (j : Nat) : m ≤ moC m xs j := by
  unfold moC
  omega

theorem moC_all (m : Int) (xs : List OB) : moC m xs xs.length = m + 5 * (xs.length : Int) + (lenO xs : Int) := by
  unfold moC
  rw [List.take_length]

end Go.Proofs.Ytpcdfeccmiiglaa
