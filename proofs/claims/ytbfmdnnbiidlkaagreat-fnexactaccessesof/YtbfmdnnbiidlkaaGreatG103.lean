import Derived.Test.YtbfmdnnbiidlkaaGreatG1
import Derived.Test.YtbfmdnnbiidlkaaGreatG102
import Derived.Test.YtbfmdnnbiidlkaaGreatG11
import Derived.Test.YtbfmdnnbiidlkaaGreatG16
import Derived.StillTailTactics
import Derived.WalkKit
import Derived.ProofKit
import Derived.OpenShut
import Derived.ShutString
import Derived.ChangeOld
import Derived.Below
import Derived.WalkSpells
import Derived.Deep.QuietTactic
import Derived.BigQuiet
import Derived.Deep.RegionWith
import Derived.Deep.WholeRow
import Derived.Deep.DeepCutAuto
import Derived.Deep.RegionHeld2
import Derived.Deep.AppendLies
import Derived.Deep.RegionLaw
namespace Go.Proofs.YtbfmdnnbiidlkaaGreat
open Go.ChangeShapes Go.WideShapes Go.ChangeAt Go.RowKit

theorem below_set5 {B : Nat} {w u : World} (h : Below B w u) {P : Nat} (hP : B ≤ P) (v0 v1 v2 v3 v4 : Value) : Below B w (((((u.setCell ⟨P, 0, none⟩ v0).setCell ⟨P, 1, none⟩ v1).setCell ⟨P, 2, none⟩ v2).setCell ⟨P, 3, none⟩ v3).setCell ⟨P, 4, none⟩ v4) :=
  (Below.setCell (Below.setCell (Below.setCell (Below.setCell (Below.setCell h (by exact hP) v0) (by exact hP) v1) (by exact hP) v2) (by exact hP) v3) (by exact hP) v4)

theorem set5_at0 (X : World) (P : Nat) (v0 v1 v2 v3 v4 : Value) (h : ∃ u, X.cell? ⟨P, 0, none⟩ = some u) : (((((X.setCell ⟨P, 0, none⟩ v0).setCell ⟨P, 1, none⟩ v1).setCell ⟨P, 2, none⟩ v2).setCell ⟨P, 3, none⟩ v3).setCell ⟨P, 4, none⟩ v4).cell? ⟨P, 0, none⟩ = some v0 := by
  obtain ⟨u, h⟩ := h
  rw [World.cell?_setCell_other _ _ _ _ (fun e => by injection e with _ e2; omega)]
  rw [World.cell?_setCell_other _ _ _ _ (fun e => by injection e with _ e2; omega)]
  rw [World.cell?_setCell_other _ _ _ _ (fun e => by injection e with _ e2; omega)]
  rw [World.cell?_setCell_other _ _ _ _ (fun e => by injection e with _ e2; omega)]
  exact World.cell?_setCell_same _ _ _ h

theorem set5_at1 (X : World) (P : Nat) (v0 v1 v2 v3 v4 : Value) (h : ∃ u, X.cell? ⟨P, 1, none⟩ = some u) : (((((X.setCell ⟨P, 0, none⟩ v0).setCell ⟨P, 1, none⟩ v1).setCell ⟨P, 2, none⟩ v2).setCell ⟨P, 3, none⟩ v3).setCell ⟨P, 4, none⟩ v4).cell? ⟨P, 1, none⟩ = some v1 := by
  obtain ⟨u, h⟩ := h
  rw [World.cell?_setCell_other _ _ _ _ (fun e => by injection e with _ e2; omega)]
  rw [World.cell?_setCell_other _ _ _ _ (fun e => by injection e with _ e2; omega)]
  rw [World.cell?_setCell_other _ _ _ _ (fun e => by injection e with _ e2; omega)]
  exact World.cell?_setCell_same _ _ _ ((World.cell?_setCell_other _ _ _ _ (fun e => by injection e with _ e2; omega)).trans h)

theorem set5_at2 (X : World) (P : Nat) (v0 v1 v2 v3 v4 : Value) (h : ∃ u, X.cell? ⟨P, 2, none⟩ = some u) : (((((X.setCell ⟨P, 0, none⟩ v0).setCell ⟨P, 1, none⟩ v1).setCell ⟨P, 2, none⟩ v2).setCell ⟨P, 3, none⟩ v3).setCell ⟨P, 4, none⟩ v4).cell? ⟨P, 2, none⟩ = some v2 := by
  obtain ⟨u, h⟩ := h
  rw [World.cell?_setCell_other _ _ _ _ (fun e => by injection e with _ e2; omega)]
  rw [World.cell?_setCell_other _ _ _ _ (fun e => by injection e with _ e2; omega)]
  exact World.cell?_setCell_same _ _ _ ((World.cell?_setCell_other _ _ _ _ (fun e => by injection e with _ e2; omega)).trans ((World.cell?_setCell_other _ _ _ _ (fun e => by injection e with _ e2; omega)).trans h))

theorem set5_at3 (X : World) (P : Nat) (v0 v1 v2 v3 v4 : Value) (h : ∃ u, X.cell? ⟨P, 3, none⟩ = some u) : (((((X.setCell ⟨P, 0, none⟩ v0).setCell ⟨P, 1, none⟩ v1).setCell ⟨P, 2, none⟩ v2).setCell ⟨P, 3, none⟩ v3).setCell ⟨P, 4, none⟩ v4).cell? ⟨P, 3, none⟩ = some v3 := by
  obtain ⟨u, h⟩ := h
  rw [World.cell?_setCell_other _ _ _ _ (fun e => by injection e with _ e2; omega)]
  exact World.cell?_setCell_same _ _ _ ((World.cell?_setCell_other _ _ _ _ (fun e => by injection e with _ e2; omega)).trans ((World.cell?_setCell_other _ _ _ _ (fun e => by injection e with _ e2; omega)).trans ((World.cell?_setCell_other _ _ _ _ (fun e => by injection e with _ e2; omega)).trans h)))

theorem set5_at4 (X : World) (P : Nat) (v0 v1 v2 v3 v4 : Value) (h : ∃ u, X.cell? ⟨P, 4, none⟩ = some u) : (((((X.setCell ⟨P, 0, none⟩ v0).setCell ⟨P, 1, none⟩ v1).setCell ⟨P, 2, none⟩ v2).setCell ⟨P, 3, none⟩ v3).setCell ⟨P, 4, none⟩ v4).cell? ⟨P, 4, none⟩ = some v4 := by
  obtain ⟨u, h⟩ := h
  exact World.cell?_setCell_same _ _ _ ((World.cell?_setCell_other _ _ _ _ (fun e => by injection e with _ e2; omega)).trans ((World.cell?_setCell_other _ _ _ _ (fun e => by injection e with _ e2; omega)).trans ((World.cell?_setCell_other _ _ _ _ (fun e => by injection e with _ e2; omega)).trans ((World.cell?_setCell_other _ _ _ _ (fun e => by injection e with _ e2; omega)).trans h))))

/-- what is known of a right system. -/
structure SysR (A : SA) (D : SD) (k : Nat) : Prop where
  ac : D.ac = (k : Int)
  hk : k < A.dn
  xd : A.xn = A.dn
  d4 : A.dn ≤ 4
  t6 : A.tn ≤ 6
  g3 : A.gn ≤ 3
  o40 : A.on ≤ 40
  good : Good D.ss
  sd : allS D.ss D.ds = true
  st : allS D.ss D.ts = true
  fc : LB D.ls
  tf : tabF D.ss D.ts D.ds = 0
  mf : mfC (D.ts.length : Int) D.ws = 0
  cx : ∀ j, j < A.dn → (gx D.cs j).1.length = 8 ∧ (∀ i, i < 8 → 0 ≤ gt (gx D.cs j).1 i ∧ gt (gx D.cs j).1 i ≤ 65535) ∧ 0 ≤ (gx D.cs j).2.1 ∧ (gx D.cs j).2.1 ≤ 65535
  gg : ∀ g, g < A.gn → 0 ≤ (gw D.gs g).1 ∧ (gw D.gs g).1 < (A.dn : Int) ∧ 0 ≤ (gw D.gs g).2 ∧ (gw D.gs g).2 ≤ 65535

theorem okv_in {v : Int} (h : okv v = true) : 0 ≤ v ∧ v ≤ 65535 := by
  have := up_iff.1 h
  omega

theorem endsF_inv {dn : Nat} {os : List Int} {gs : List (Int × Int)} (h : endsF dn os gs = 0) : os.length ≤ 40 ∧ gs.length ≤ 3 ∧ gs.all (gateB dn) = true := by
  unfold endsF at h
  by_cases h1 : 40 < os.length ∨ 3 < gs.length
  · rw [if_pos h1] at h; omega
  · rw [if_neg h1] at h
    by_cases h2 : os.all okv = true
    · rw [if_pos h2] at h
      by_cases h3 : gs.all (gateB dn) = true
      · exact ⟨by omega, by omega, h3⟩
      · rw [if_neg h3] at h; omega
    · rw [if_neg h2] at h; omega

theorem RS.right {w : World} {A : SA} {D : SD} (hr : RS w A D) (hf : sysF D = 0) : ∃ k, SysR A D k := by
  obtain ⟨k0, k1, k2, k3, k4, k5, k6, k7⟩ := hr.len
  obtain ⟨h1, h2, _, h4, _, h6, _, h8⟩ := sysF_inv hf
  obtain ⟨x1, x2, x3, x4⟩ := sysF_ctx hf
  obtain ⟨r1, r2, r3, r4, _⟩ := tabF_zero h1
  have hm := many_len r2
  have hu := up_iff.1 h4
  obtain ⟨e1, e2, e3⟩ := endsF_inv h8
  refine ⟨D.ac.toNat, by omega, by omega, by omega, by omega, by omega, by omega, by omega, good_of r1, r4, r3, LB.of h6, h1, h2, fun j hj => ?_, fun g hg => ?_⟩
  · obtain ⟨a, b, c⟩ := x4 j (by omega)
    refine ⟨a, fun i hi => ?_, okv_in c⟩
    rw [List.all_eq_true] at b
    have hm := b ((gx D.cs j).1[i]'(by omega)) (List.getElem_mem _)
    have := okv_in hm
    have hi' : i < (gx D.cs j).1.length := by omega
    have e : gt (gx D.cs j).1 i = (gx D.cs j).1[i] := by unfold gt; simp [hi']
    rw [e]
    exact this
  · rw [List.all_eq_true] at e3
    have := e3 _ (gw_mem (by omega : g < D.gs.length))
    unfold gateB at this
    rw [Bool.and_eq_true] at this
    have a := up_iff.1 this.1
    have b := okv_in this.2
    omega

theorem mf_tag {t : Int} {ls : List (Int × Int)} (h : mfC t ls = 0) {m : Nat} (hm : m < ls.length) : 0 ≤ (gw ls m).2 ∧ (gw ls m).2 ≤ t := by
  have hl := mfC_len h
  unfold mfC at h
  by_cases h1 : up t 6 = false
  · rw [if_pos h1] at h; omega
  · rw [if_neg h1, if_neg (by omega)] at h
    by_cases h2 : ls.all (okW t) = true
    · rw [List.all_eq_true] at h2
      have := h2 _ (gw_mem hm)
      unfold okW at this
      rw [Bool.and_eq_true] at this
      exact up_iff.1 this.2
    · rw [if_neg h2] at h; omega

theorem pmV_in (ss : List (Int × List Int)) (ts ds : List Int) (d t : Int) : pmV ss ts ds d t = 0 ∨ pmV ss ts ds d t = 5 ∨ pmV ss ts ds d t = 7 := by
  unfold pmV permV
  split
  · split
    · exact .inl rfl
    · split
      · exact .inr (.inr rfl)
      · split
        · exact .inr (.inl rfl)
        · exact .inl rfl
  · exact .inl rfl

theorem mf_val {t : Int} {ls : List (Int × Int)} (h : mfC t ls = 0) {m : Nat} (hm : m < ls.length) : 0 ≤ (gw ls m).1 ∧ (gw ls m).1 ≤ 65535 := by
  have hl := mfC_len h
  unfold mfC at h
  by_cases h1 : up t 6 = false
  · rw [if_pos h1] at h; omega
  · rw [if_neg h1, if_neg (by omega)] at h
    by_cases h2 : ls.all (okW t) = true
    · rw [List.all_eq_true] at h2
      have := h2 _ (gw_mem hm)
      unfold okW at this
      rw [Bool.and_eq_true] at this
      exact up_iff.1 this.1
    · rw [if_neg h2] at h; omega

def wdX (D : SD) (k : Nat) : Int := (gw D.ws (gx D.cs k).2.1.toNat).1
def opX (D : SD) (k : Nat) : Int := wdX D k / 4096
def ibX (D : SD) (k : Nat) : Nat := (wdX D k / 64 % 8).toNat
def imX (D : SD) (k : Nat) : Int := wdX D k % 64

theorem l3PermY (P : Nat) (A : SA) (D : SD) (k : Nat) (t : Int) (w : World) (c0 : w.cell? ⟨P, 0, none⟩ = some (.slice A.a A.n A.c)) (c1 : w.cell? ⟨P, 1, none⟩ = some (.slice A.ta A.tn A.tc)) (c2 : w.cell? ⟨P, 2, none⟩ = some (.slice A.da A.dn A.dc)) (hl : P < w.heap.size) (hrt : RT w A.a A.n D.ss A.ta A.tn D.ts A.da A.dn D.ds) (H : SysR A D k) (ht : 0 ≤ t ∧ t ≤ (A.tn : Int)) :
    Calls Tryz.prog 164 #[.pointer (some ⟨P, 0, none⟩), .int .i64 (k : Int), .int .i64 t] w fun e w' => e = .returned (.int .i64 (pmV D.ss D.ts D.ds (k : Int) t)) ∧ Below w.heap.size w w' := by
  have l1 := hrt.2.2.2.1.1
  have l2 := hrt.2.2.2.2.2.1
  have hk := H.hk
  by_cases h0 : t = 0
  · subst h0
    rw [(pm_own H.tf (inC_yes (l := D.ds) (j := k) (by omega))).2]
    exact l3Perm0_calls P _ w
  · obtain ⟨j, rfl⟩ : ∃ j : Nat, t = (j : Int) + 1 := ⟨(t - 1).toNat, by omega⟩
    have e : (j : Int) + 1 - 1 = (j : Int) := by omega
    rw [(pm_yes H.tf (inC_yes (l := D.ds) (j := k) (by omega)) h0 (by rw [e]; exact inC_yes (by omega))).2, e, inL_yes (by omega), inL_yes (by omega)]
    have := H.t6
    have := H.d4
    exact l3Perm_calls P A.a A.n A.c D.ss A.ta A.tn A.tc D.ts A.da A.dn A.dc D.ds k j w H.good (by omega) (by omega) hl c0 c1 c2 hrt H.st H.sd hk (by omega)

theorem CsO.ofCs {P : Nat} {vs : List Value} {w : World} (h : Cs P vs w) : CsO P 0 vs w := fun i hi => by rw [Nat.zero_add]; exact (h.2 i hi).1

theorem Mm.alloc5 {w u : World} {cs : List (Nat × Nat × Value)} {fs : List (Nat × Nat × (World → Prop))} (h : Mm w u cs fs) (v0 v1 v2 v3 v4 : Value) (t : TypeId) : Mm w (u.alloc (.cells #[v0, v1, v2, v3, v4] t)) ((u.heap.size, 0, v0) :: (u.heap.size, 1, v1) :: (u.heap.size, 2, v2) :: (u.heap.size, 3, v3) :: (u.heap.size, 4, v4) :: cs) fs :=
  (((((h.below ((Below.refl _ _).alloc (Nat.le_refl _) (.cells #[v0, v1, v2, v3, v4] t))).cons (by simp) (by simp)).cons (by simp) (by simp)).cons (by simp) (by simp)).cons (by simp) (by simp)).cons (by simp) (by simp)

theorem set2_at0 (X : World) (P : Nat) (v0 v1 : Value) (h : ∃ u, X.cell? ⟨P, 0, none⟩ = some u) : ((X.setCell ⟨P, 0, none⟩ v0).setCell ⟨P, 1, none⟩ v1).cell? ⟨P, 0, none⟩ = some v0 := by
  obtain ⟨u, h⟩ := h
  rw [World.cell?_setCell_other _ _ _ _ (fun e => by injection e with _ e2; omega)]
  exact World.cell?_setCell_same _ _ _ h

theorem set2_at1 (X : World) (P : Nat) (v0 v1 : Value) (h : ∃ u, X.cell? ⟨P, 1, none⟩ = some u) : ((X.setCell ⟨P, 0, none⟩ v0).setCell ⟨P, 1, none⟩ v1).cell? ⟨P, 1, none⟩ = some v1 := by
  obtain ⟨u, h⟩ := h
  exact World.cell?_setCell_same _ _ _ ((World.cell?_setCell_other _ _ _ _ (fun e => by injection e with _ e2; omega)).trans h)

/-- whether what one may (by the labels) has a bit. -/
def dnB (D : SD) (k : Nat) (tag bit : Int) : Bool := pmV D.ss D.ts D.ds (k : Int) tag / bit % 2 == 1

/-- an access of the domain k. -/
def acA (D : SD) (k : Nat) (p tag bit : Int) : AC := ((k : Int), bit, p, tag, dnB D k tag bit)

/-- the access to a word: none where there is no such word. -/
def wdA (D : SD) (k : Nat) (p bit : Int) : List AC := if up p ((D.ws.length : Int) - 1) = true then [acA D k p (gw D.ws p.toNat).2 bit] else []

/-- the access to the device: none where it has no room. -/
def dvA (D : SD) (k : Nat) : List AC := if D.os.length < 40 then [acA D k (-1) D.dv 2] else []

/-- what an instruction asks for, but itself. -/
def dtA (D : SD) (k : Nat) (op : Int) (ib : Nat) (im : Int) : List AC := if op = 4 then wdA D k (wrp (gt (gx D.cs k).1 ib + im)) 1 else if op = 5 then wdA D k (wrp (gt (gx D.cs k).1 ib + im)) 2 else if op = 9 then dvA D k else []

/-- what the next step asks for. -/
def accA (D : SD) (k : Nat) : List AC := if (gx D.cs k).2.2 = true then [] else if up (gx D.cs k).2.1 ((D.ws.length : Int) - 1) = true then (if dnB D k (gw D.ws (gx D.cs k).2.1.toNat).2 4 = true then acA D k (gx D.cs k).2.1 (gw D.ws (gx D.cs k).2.1.toNat).2 4 :: dtA D k (opX D k) (ibX D k) (imX D k) else [acA D k (gx D.cs k).2.1 (gw D.ws (gx D.cs k).2.1.toNat).2 4]) else []

def aoL (D : SD) : List AC := if sysF D = 0 then accA D D.ac.toNat else []

theorem wdA_le (D : SD) (k : Nat) (p bit : Int) : (wdA D k p bit).length ≤ 1 := by unfold wdA; split <;> simp
theorem dtA_le (D : SD) (k : Nat) (op : Int) (ib : Nat) (im : Int) : (dtA D k op ib im).length ≤ 1 := by
  unfold dtA dvA
  split
  · exact wdA_le _ _ _ _
  · split
    · exact wdA_le _ _ _ _
    · split
      · split <;> simp
      · simp

/-- a system behind the pointer ⟨P, 0⟩ that is only read. -/
structure YV (P : Nat) (A : SA) (D : SD) (w : World) : Prop where
  lt : P < w.heap.size
  cs : CsO P 0 [.slice A.a A.n A.c, .slice A.ta A.tn A.tc, .slice A.da A.dn A.dc, .slice A.wa A.wn A.wc, .slice A.xa A.xn A.xc, .int .i64 D.ac, .int .i64 D.cz, .slice A.la A.ln A.lc, .int .i64 D.dv, .slice A.oa A.on A.oc, .slice A.ga A.gn A.gc] w
  rs : RS w A D

theorem YV.below {P : Nat} {A : SA} {D : SD} {w w' : World} (h : YV P A D w) (hb : Below w.heap.size w w') : YV P A D w' :=
  ⟨by have := hb.size; have := h.lt; omega, fun i hi => (hb.cell (p := ⟨P, 0 + i, none⟩) h.lt).trans (h.cs i hi), h.rs.below hb (Nat.le_refl _)⟩

theorem YV.cell {P : Nat} {A : SA} {D : SD} {w : World} (h : YV P A D w) (i : Nat) {v : Value} (hv : [Value.slice A.a A.n A.c, .slice A.ta A.tn A.tc, .slice A.da A.dn A.dc, .slice A.wa A.wn A.wc, .slice A.xa A.xn A.xc, .int .i64 D.ac, .int .i64 D.cz, .slice A.la A.ln A.lc, .int .i64 D.dv, .slice A.oa A.on A.oc, .slice A.ga A.gn A.gc][i]? = some v) : w.cell? ⟨P, i, none⟩ = some v := by
  have := h.cs.cell i hv
  rwa [Nat.zero_add] at this

/-- the context of the domain that is active: where it lies, what it holds. -/
theorem YV.ctx {P : Nat} {A : SA} {D : SD} {w : World} (h : YV P A D w) {k : Nat} (hk : k < A.xn) (h8 : (gx D.cs k).1.length = 8) : ∃ N o b q lc, A.xa = some ⟨N, o, none⟩ ∧ N < w.heap.size ∧ b < w.heap.size ∧ w.cell? ⟨N, o + k * 3, none⟩ = some (.slice (some ⟨b, q, none⟩) 8 lc) ∧ w.cell? ⟨N, o + k * 3 + 1, none⟩ = some (.int .i64 (gx D.cs k).2.1) ∧ w.cell? ⟨N, o + k * 3 + 2, none⟩ = some (.bool (gx D.cs k).2.2) ∧ ∀ j, j < 8 → w.cell? ⟨b, q + j, none⟩ = some (.int .i64 (gt (gx D.cs k).1 j)) := by
  obtain ⟨_, hs⟩ := h.rs.xs
  obtain ⟨N, o, ea, hN, hc⟩ := hs (by omega)
  obtain ⟨la, ll, lc, c0, c1, c2, _, sl⟩ := hc k hk
  obtain ⟨hl, hsl⟩ := sl
  obtain rfl : ll = 8 := by omega
  obtain ⟨b, q, rfl, hb, hcl⟩ := hsl (by omega)
  exact ⟨N, o, b, q, lc, ea, hN, hb, c0, c1, c2, fun j hj => hcl j hj⟩

/-- a word: where it lies, what it holds. -/
theorem YV.word {P : Nat} {A : SA} {D : SD} {w : World} (h : YV P A D w) {j : Nat} (hj : j < A.wn) : ∃ N o, A.wa = some ⟨N, o, none⟩ ∧ N < w.heap.size ∧ w.cell? ⟨N, o + j * 2, none⟩ = some (.int .i64 (gw D.ws j).1) ∧ w.cell? ⟨N, o + j * 2 + 1, none⟩ = some (.int .i64 (gw D.ws j).2) := by
  obtain ⟨_, hs⟩ := h.rs.ws
  obtain ⟨N, o, ea, hN, hc⟩ := hs (by omega)
  obtain ⟨r0, r1⟩ := cellsw hc hj
  exact ⟨N, o, ea, hN, r0, r1⟩

theorem infoAccess : (Tryz.prog.info? 91).map (fun i => (i.zero, i.size, i.bytes)) = some (some (.agg #[.int .i64 0, .int .i64 0, .int .i64 0, .int .i64 0, .bool false]), 5, 40) := by kernel_rfl

theorem ownR_below {w w' : World} {B n size : Nat} {e : TypeId} {v : Value} {xs : List Value} (h : w.ownsRow B e size v n xs) (hb : Below w.heap.size w w') : w'.ownsRow B e size v n xs := by
  refine ⟨h.1, ?_⟩
  rcases h.2 with h' | ⟨g, cap, cur, h', hB, hg, r⟩
  · exact .inl h'
  · exact .inr ⟨g, cap, cur, h', hB, (hb.block g (Array.getElem?_eq_some_iff.1 hg).1).trans hg, r⟩

set_option maxRecDepth 100000 in
set_option maxHeartbeats 4000000 in
theorem l10Access_calls (P : Nat) (A : SA) (D : SD) (k : Nat) (p tag bit : Int) (w : World) (hy : YV P A D w) (H : SysR A D k) (ht : 0 ≤ tag ∧ tag ≤ (A.tn : Int)) (hb : bit = 1 ∨ bit = 2 ∨ bit = 4) :
    Calls Tryz.prog 130 #[.pointer (some ⟨P, 0, none⟩), .int .i64 p, .int .i64 tag, .int .i64 bit] w fun e w' => e = .returned (.agg #[.int .i64 (k : Int), .int .i64 bit, .int .i64 p, .int .i64 tag, .bool (dnB D k tag bit)]) ∧ Below w.heap.size w w' := by
  have M0 := (Mm.start w).alloc5 (.int .i64 0) (.int .i64 0) (.int .i64 0) (.int .i64 0) (.bool false) 91
  obtain ⟨W, hW⟩ : ∃ x, x = w.alloc (.cells #[.int .i64 0, .int .i64 0, .int .i64 0, .int .i64 0, .bool false] 91) := ⟨_, rfl⟩
  rw [← hW] at M0
  have zW : W.heap.size = w.heap.size + 1 := by rw [hW]; simp
  have yW := hy.below M0.bel
  have c0 := yW.cell 0 rfl
  have c1 := yW.cell 1 rfl
  have c2 := yW.cell 2 rfl
  have c5 := yW.cell 5 rfl
  rw [H.ac] at c5
  have hl := yW.lt
  have HW := hide hW
  have HC := hide (l3PermY P A D k tag W.drew c0 c1 c2 hl (yW.rs.rt.below (Below.refl _ _).drew (Nat.le_refl _)) H ht)
  clear hy yW H ht hW
  rcases pmV_in D.ss D.ts D.ds (k : Int) tag with hv | hv | hv <;> rcases hb with rfl | rfl | rfl
  all_goals (
    have HV := hide hv
    clear hv
    have HS0 : Hid (W.drew.cell? ⟨P, 5, none⟩ = some (.int .i64 (k : Int)) ∧ Below W.heap.size W W.drew) := ⟨c5, (Below.refl _ _).drew⟩
    go_enter Tryz.func130, Tryz.ntmps130
    go_wp2_with fail
    rw [← HW.out]
    go_region_held2 (fun X => X.cell? ⟨P, 5, none⟩ = some (.int .i64 (k : Int)) ∧ Below W.heap.size W X)
      (first | with_reducible exact HS0.out | with_reducible assumption)
      (first | (go_at_call 164; refine HC.out.mono ?_; rintro e wa ⟨rfl, ga⟩; rw [HV.out]; have ha : wa.cell? ⟨P, 5, none⟩ = some (.int .i64 (k : Int)) ∧ Below W.heap.size W wa := ⟨(ga.cell (p := ⟨P, 5, none⟩) hl).trans c5, (Below.refl _ _).drew.trans ga⟩; clear ga))
    have M1 := M0.below ha.2
    have a5 := ha.1
    have c0_ := M1.cell 0 rfl
    have f0_ := M1.fz 0 rfl
    have c1_ := M1.cell 1 rfl
    have f1_ := M1.fz 1 rfl
    have c2_ := M1.cell 2 rfl
    have f2_ := M1.fz 2 rfl
    have c3_ := M1.cell 3 rfl
    have f3_ := M1.fz 3 rfl
    have c4_ := M1.cell 4 rfl
    have f4_ := M1.fz 4 rfl
    have HM := hide M1.bel
    have zM := M1.bel.size
    clear M1 M0
    go_wp2_with fail
    go_still_tail 13, (by kernel_rfl)
    go_wp2
    have hdn := fun b => (show dnB D k tag b = _ from by unfold dnB; rw [HV.out])
    refine bodyPost_ret (v := .agg #[.int .i64 (k : Int), .int .i64 _, .int .i64 p, .int .i64 tag, .bool (dnB D k tag _)]) ?_ rfl ⟨rfl, (below_set5 HM.out (P := w.heap.size) (Nat.le_refl _) _ _ _ _ _).drew⟩
    have r0 := fun v0 v1 v2 v3 v4 => set5_at0 wa w.heap.size v0 v1 v2 v3 v4 ⟨_, c0_⟩
    have r1 := fun v0 v1 v2 v3 v4 => set5_at1 wa w.heap.size v0 v1 v2 v3 v4 ⟨_, c1_⟩
    have r2 := fun v0 v1 v2 v3 v4 => set5_at2 wa w.heap.size v0 v1 v2 v3 v4 ⟨_, c2_⟩
    have r3 := fun v0 v1 v2 v3 v4 => set5_at3 wa w.heap.size v0 v1 v2 v3 v4 ⟨_, c3_⟩
    have r4 := fun v0 v1 v2 v3 v4 => set5_at4 wa w.heap.size v0 v1 v2 v3 v4 ⟨_, c4_⟩
    simp [results, Tryz.results130, go_sem, r0, r1, r2, r3, r4, hdn] <;> first | decide | rfl | exact (by decide +kernel))

end Go.Proofs.YtbfmdnnbiidlkaaGreat
