import Derived.Test.YtcojgmecocjnkaaGreatG42
import Derived.Test.YtcojgmecocjnkaaGreatG43
import Derived.Test.YtcojgmecocjnkaaGreatG27
import Derived.Test.YtcojgmecocjnkaaGreatG60
import Derived.WalkKit
import Derived.ProofKit
import Derived.OpenShut
import Derived.ShutString
import Derived.ChangeOld
import Derived.Below
import Derived.WalkSpells
import Derived.Deep.QuietTactic
import Derived.BigQuiet
import Derived.Deep.RegionWith
import Derived.Deep.WholeRow
import Derived.Deep.DeepCutAuto
import Derived.Deep.RegionHeld2
import Derived.Deep.AppendLies
import Derived.Deep.RegionLaw
namespace Go.Proofs.YtcojgmecocjnkaaGreat
open Go.ChangeShapes Go.WideShapes Go.ChangeAt Go.RowKit

/-- what an instruction does to a right system: the system, the kind, the tag asked for. -/
def doD (D : SD) (k : Nat) (op : Int) (ia ib : Nat) (im : Int) : SD :=
  if op = 0 then { D with cs := D.cs.set k ((gx D.cs k).1, wrp ((gx D.cs k).2.1 - 1), true) } else if op = 1 then { D with cs := D.cs.set k ((gx D.cs k).1.set ia (im), (gx D.cs k).2.1, (gx D.cs k).2.2) } else if op = 2 then { D with cs := D.cs.set k ((gx D.cs k).1.set ia (wrp (gt (gx D.cs k).1 ia + gt (gx D.cs k).1 ib)), (gx D.cs k).2.1, (gx D.cs k).2.2) } else if op = 3 then { D with cs := D.cs.set k ((gx D.cs k).1.set ia (wrp (gt (gx D.cs k).1 ia - gt (gx D.cs k).1 ib)), (gx D.cs k).2.1, (gx D.cs k).2.2) } else if op = 4 then mvD D k 4 ia ib im else if op = 5 then mvD D k 5 ia ib im else if op = 6 then { D with cs := D.cs.set k ((gx D.cs k).1, im, (gx D.cs k).2.2) } else if op = 7 then (if gt (gx D.cs k).1 ia = 0 then { D with cs := D.cs.set k ((gx D.cs k).1, im, (gx D.cs k).2.2) } else D) else if op = 9 then sdD D (gt (gx D.cs k).1 ia) else if op = 10 then { D with cs := D.cs.set k ((gx D.cs k).1.set ia (gt (gx D.cs k).1 ib), (gx D.cs k).2.1, (gx D.cs k).2.2) } else D

def doK (D : SD) (k : Nat) (op : Int) (ib : Nat) (im : Int) : Int := if op = 4 then plK D (wrp (gt (gx D.cs k).1 ib + im)) 1 else if op = 5 then plK D (wrp (gt (gx D.cs k).1 ib + im)) 2 else if op = 8 then 4 else if op = 9 then sdK D else if op < 0 ∨ 10 < op then 3 else 1

def doT (D : SD) (k : Nat) (op : Int) (ib : Nat) (im : Int) : Int := if op = 4 ∨ op = 5 then plT D (wrp (gt (gx D.cs k).1 ib + im)) else if op = 9 then sdT D else 0

theorem l7Do_calls (P o : Nat) (S : Nat → Prop) (A : SA) (D : SD) (I oi k ia ib : Nat) (op im : Int) (w : World) (H : DoH P o S A D I oi k ia ib op im w) :
    Calls Tryz.prog 83 #[.pointer (some ⟨P, o, none⟩), .pointer (some ⟨I, oi, none⟩)] w (DoP P o S (doD D k op ia ib im) (doK D k op ib im) (doT D k op ib im) w) := by
  rcases (by omega : op = 0 ∨ op = 1 ∨ op = 2 ∨ op = 3 ∨ op = 4 ∨ op = 5 ∨ op = 6 ∨ op = 7 ∨ op = 8 ∨ op = 9 ∨ op = 10 ∨ (op < 0 ∨ 10 < op)) with h | h | h | h | h | h | h | h | h | h | h | h
  · have e := l7Do_halt P o S A D I oi k ia ib op im w H h
    subst h
    exact e
  · have e := l7Do_set P o S A D I oi k ia ib op im w H h
    subst h
    exact e
  · have e := l7Do_add P o S A D I oi k ia ib op im w H h
    subst h
    exact e
  · have e := l7Do_sub P o S A D I oi k ia ib op im w H h
    subst h
    exact e
  · have e := l7Do_load P o S A D I oi k ia ib op im w H h
    subst h
    exact e
  · have e := l7Do_store P o S A D I oi k ia ib op im w H h
    subst h
    exact e
  · have e := l7Do_jump P o S A D I oi k ia ib op im w H h
    subst h
    exact e
  · by_cases hr : gt (gx D.cs k).1 ia = 0
    · have e := l7Do_zero0 P o S A D I oi k ia ib op im w H ⟨h, hr⟩
      subst h
      have ed : doD D k 7 ia ib im = _ := if_pos hr
      rw [ed]
      exact e
    · have e := l7Do_zero1 P o S A D I oi k ia ib op im w H ⟨h, hr⟩
      subst h
      have ed : doD D k 7 ia ib im = _ := if_neg hr
      rw [ed]
      exact e
  · have e := l7Do_call P o S A D I oi k ia ib op im w H h
    subst h
    exact e
  · have e := l7Do_out P o S A D I oi k ia ib op im w H h
    subst h
    exact e
  · have e := l7Do_copy P o S A D I oi k ia ib op im w H h
    subst h
    exact e
  · have e := l7Do_bad P o S A D I oi k ia ib op im w H h
    have e1 : doD D k op ia ib im = D := by unfold doD; simp only [if_neg (show ¬ op = 0 by omega), if_neg (show ¬ op = 1 by omega), if_neg (show ¬ op = 2 by omega), if_neg (show ¬ op = 3 by omega), if_neg (show ¬ op = 4 by omega), if_neg (show ¬ op = 5 by omega), if_neg (show ¬ op = 6 by omega), if_neg (show ¬ op = 7 by omega), if_neg (show ¬ op = 9 by omega), if_neg (show ¬ op = 10 by omega)]
    have e2 : doK D k op ib im = 3 := by unfold doK; rw [if_neg (by omega), if_neg (by omega), if_neg (by omega), if_neg (by omega), if_pos h]
    have e3 : doT D k op ib im = 0 := by unfold doT; rw [if_neg (by omega), if_neg (by omega)]
    rw [e1, e2, e3]
    exact e

theorem lenX_few : ∀ (cs : List (List Int × Int × Bool)), (∀ j, j < cs.length → (gx cs j).1.length ≤ 8) → lenX cs ≤ cs.length * 8
  | [], _ => by simp [lenX]
  | s :: r, h => by
    have h0 := h 0 (by simp)
    have ih := lenX_few r (fun j hj => by have := h (j + 1) (by simpa using hj); simpa [gx] using this)
    simp [lenX, gx] at h0 ⊢
    omega

/-- a right system is small. -/
theorem SysR.small {w : World} {A : SA} {D : SD} {k : Nat} (h : SysR A D k) (hr : RS w A D) : szY A D ≤ 400 := by
  obtain ⟨k0, k1, k2, k3, k4, k5, k6, k7⟩ := hr.len
  have a1 := lenSum_few D.ss (good_len h.good)
  have a2 := h.good.few
  have a3 := lenX_few D.cs (fun j hj => Nat.le_of_eq (h.cx j (by have := h.xd; omega)).1)
  have a4 := mfC_len h.mf
  have a5 := h.fc.1
  have := h.xd
  have := h.d4
  have := h.t6
  have := h.g3
  have := h.o40
  unfold szY
  omega

def wdX (D : SD) (k : Nat) : Int := (gw D.ws (gx D.cs k).2.1.toNat).1
def opX (D : SD) (k : Nat) : Int := wdX D k / 4096
def iaX (D : SD) (k : Nat) : Nat := (wdX D k / 512 % 8).toNat
def ibX (D : SD) (k : Nat) : Nat := (wdX D k / 64 % 8).toNat
def imX (D : SD) (k : Nat) : Int := wdX D k % 64

/-- Pc is one more. -/
def nxD (D : SD) (k : Nat) : SD := { D with cs := D.cs.set k ((gx D.cs k).1, wrp ((gx D.cs k).2.1 + 1), (gx D.cs k).2.2) }

def k0X (D : SD) (k : Nat) : Int := if (gx D.cs k).2.2 = true then 5 else plK D (gx D.cs k).2.1 4
def t0X (D : SD) (k : Nat) : Int := if (gx D.cs k).2.2 = true then 0 else if plK D (gx D.cs k).2.1 4 = 2 then plT D (gx D.cs k).2.1 else 0
def kdX (D : SD) (k : Nat) : Int := doK (nxD D k) k (opX D k) (ibX D k) (imX D k)

/-- TryStep of a right system: its kind, its tag, its call, its system. -/
def tyK (D : SD) (k : Nat) : Int := if k0X D k = 1 then kdX D k else k0X D k
def tyT (D : SD) (k : Nat) : Int := if k0X D k = 1 then (if kdX D k = 2 then doT (nxD D k) k (opX D k) (ibX D k) (imX D k) else 0) else t0X D k
def tyC (D : SD) (k : Nat) : Int := if k0X D k = 1 then (if kdX D k = 4 then imX D k else 0) else 0
def tyD (D : SD) (k : Nat) : SD := if k0X D k = 1 then (if kdX D k = 2 ∨ kdX D k = 3 then D else doD (nxD D k) k (opX D k) (iaX D k) (ibX D k) (imX D k)) else D

theorem ty_no {D : SD} {k : Nat} (h : k0X D k ≠ 1) : tyK D k = k0X D k ∧ tyT D k = t0X D k ∧ tyC D k = 0 ∧ tyD D k = D := ⟨if_neg h, if_neg h, if_neg h, if_neg h⟩

theorem doK_cases (D : SD) (k : Nat) (op : Int) (ib : Nat) (im : Int) : doK D k op ib im = 1 ∨ doK D k op ib im = 2 ∨ doK D k op ib im = 3 ∨ doK D k op ib im = 4 := by
  unfold doK
  split
  · have := plK_cases D (wrp (gt (gx D.cs k).1 ib + im)) 1; omega
  · split
    · have := plK_cases D (wrp (gt (gx D.cs k).1 ib + im)) 2; omega
    · split
      · omega
      · split
        · unfold sdK
          split
          · omega
          · have := askK_cases D D.dv 2; omega
        · split <;> omega

end Go.Proofs.YtcojgmecocjnkaaGreat
