import Derived.Test.YtgkjmeogdomgmaaGreatG62
import Derived.Test.YtgkjmeogdomgmaaGreatG70
import Derived.Test.YtgkjmeogdomgmaaGreatG29
import Derived.Test.YtgkjmeogdomgmaaGreatG11
import Derived.Test.YtgkjmeogdomgmaaGreatG69
import Derived.Test.YtgkjmeogdomgmaaGreatG63
import Derived.Test.YtgkjmeogdomgmaaGreatG1
import Derived.WalkKit
import Derived.ProofKit
import Derived.OpenShut
import Derived.ShutString
import Derived.ChangeOld
import Derived.Below
import Derived.WalkSpells
import Derived.Deep.QuietTactic
import Derived.BigQuiet
import Derived.Deep.RegionWith
import Derived.Deep.WholeRow
import Derived.Deep.DeepCutAuto
import Derived.Deep.RegionHeld2
import Derived.Deep.AppendLies
import Derived.Deep.RegionLaw
namespace Go.Proofs.YtgkjmeogdomgmaaGreat
open Go.ChangeShapes Go.WideShapes Go.ChangeAt Go.RowKit

theorem set5_at0 (X : World) (P : Nat) (v0 v1 v2 v3 v4 : Value) (h : ∃ u, X.cell? ⟨P, 0, none⟩ = some u) : (((((X.setCell ⟨P, 0, none⟩ v0).setCell ⟨P, 1, none⟩ v1).setCell ⟨P, 2, none⟩ v2).setCell ⟨P, 3, none⟩ v3).setCell ⟨P, 4, none⟩ v4).cell? ⟨P, 0, none⟩ = some v0 := by
  obtain ⟨u, h⟩ := h
  rw [World.cell?_setCell_other _ _ _ _ (fun e => by injection e with _ e2; omega)]
  rw [World.cell?_setCell_other _ _ _ _ (fun e => by injection e with _ e2; omega)]
  rw [World.cell?_setCell_other _ _ _ _ (fun e => by injection e with _ e2; omega)]
  rw [World.cell?_setCell_other _ _ _ _ (fun e => by injection e with _ e2; omega)]
  exact World.cell?_setCell_same _ _ _ h

theorem set5_at2 (X : World) (P : Nat) (v0 v1 v2 v3 v4 : Value) (h : ∃ u, X.cell? ⟨P, 2, none⟩ = some u) : (((((X.setCell ⟨P, 0, none⟩ v0).setCell ⟨P, 1, none⟩ v1).setCell ⟨P, 2, none⟩ v2).setCell ⟨P, 3, none⟩ v3).setCell ⟨P, 4, none⟩ v4).cell? ⟨P, 2, none⟩ = some v2 := by
  obtain ⟨u, h⟩ := h
  rw [World.cell?_setCell_other _ _ _ _ (fun e => by injection e with _ e2; omega)]
  rw [World.cell?_setCell_other _ _ _ _ (fun e => by injection e with _ e2; omega)]
  exact World.cell?_setCell_same _ _ _ ((World.cell?_setCell_other _ _ _ _ (fun e => by injection e with _ e2; omega)).trans ((World.cell?_setCell_other _ _ _ _ (fun e => by injection e with _ e2; omega)).trans h))

theorem set5_at3 (X : World) (P : Nat) (v0 v1 v2 v3 v4 : Value) (h : ∃ u, X.cell? ⟨P, 3, none⟩ = some u) : (((((X.setCell ⟨P, 0, none⟩ v0).setCell ⟨P, 1, none⟩ v1).setCell ⟨P, 2, none⟩ v2).setCell ⟨P, 3, none⟩ v3).setCell ⟨P, 4, none⟩ v4).cell? ⟨P, 3, none⟩ = some v3 := by
  obtain ⟨u, h⟩ := h
  rw [World.cell?_setCell_other _ _ _ _ (fun e => by injection e with _ e2; omega)]
  exact World.cell?_setCell_same _ _ _ ((World.cell?_setCell_other _ _ _ _ (fun e => by injection e with _ e2; omega)).trans ((World.cell?_setCell_other _ _ _ _ (fun e => by injection e with _ e2; omega)).trans ((World.cell?_setCell_other _ _ _ _ (fun e => by injection e with _ e2; omega)).trans h)))

theorem set5_at4 (X : World) (P : Nat) (v0 v1 v2 v3 v4 : Value) (h : ∃ u, X.cell? ⟨P, 4, none⟩ = some u) : (((((X.setCell ⟨P, 0, none⟩ v0).setCell ⟨P, 1, none⟩ v1).setCell ⟨P, 2, none⟩ v2).setCell ⟨P, 3, none⟩ v3).setCell ⟨P, 4, none⟩ v4).cell? ⟨P, 4, none⟩ = some v4 := by
  obtain ⟨u, h⟩ := h
  exact World.cell?_setCell_same _ _ _ ((World.cell?_setCell_other _ _ _ _ (fun e => by injection e with _ e2; omega)).trans ((World.cell?_setCell_other _ _ _ _ (fun e => by injection e with _ e2; omega)).trans ((World.cell?_setCell_other _ _ _ _ (fun e => by injection e with _ e2; omega)).trans ((World.cell?_setCell_other _ _ _ _ (fun e => by injection e with _ e2; omega)).trans h))))

theorem q5_bel {W X : World} {A0 A1 A2 A3 A4 : Addr} {v0 v1 v2 v3 v4 : Value} (h : X.cell? A0 = some v0 ∧ X.cell? A1 = some v1 ∧ X.cell? A2 = some v2 ∧ X.cell? A3 = some v3 ∧ X.cell? A4 = some v4 ∧ Below W.heap.size W X) : Below W.heap.size W X := h.2.2.2.2.2

theorem q5_below {W X Y : World} {A0 A1 A2 A3 A4 : Addr} {v0 v1 v2 v3 v4 : Value} (h0 : A0.block < W.heap.size) (h1 : A1.block < W.heap.size) (h2 : A2.block < W.heap.size) (h3 : A3.block < W.heap.size) (h4 : A4.block < W.heap.size) (h : X.cell? A0 = some v0 ∧ X.cell? A1 = some v1 ∧ X.cell? A2 = some v2 ∧ X.cell? A3 = some v3 ∧ X.cell? A4 = some v4 ∧ Below W.heap.size W X) (g : Below X.heap.size X Y) : Y.cell? A0 = some v0 ∧ Y.cell? A1 = some v1 ∧ Y.cell? A2 = some v2 ∧ Y.cell? A3 = some v3 ∧ Y.cell? A4 = some v4 ∧ Below W.heap.size W Y := by
  have hz := (h.2.2.2.2.2).size
  exact ⟨(g.cell (by omega)).trans h.1, (g.cell (by omega)).trans h.2.1, (g.cell (by omega)).trans h.2.2.1, (g.cell (by omega)).trans h.2.2.2.1, (g.cell (by omega)).trans h.2.2.2.2.1, (h.2.2.2.2.2).trans (g.mono hz)⟩

theorem q5_alloc {W X : World} {A0 A1 A2 A3 A4 : Addr} {v0 v1 v2 v3 v4 : Value} (h0 : A0.block < W.heap.size) (h1 : A1.block < W.heap.size) (h2 : A2.block < W.heap.size) (h3 : A3.block < W.heap.size) (h4 : A4.block < W.heap.size) (h : X.cell? A0 = some v0 ∧ X.cell? A1 = some v1 ∧ X.cell? A2 = some v2 ∧ X.cell? A3 = some v3 ∧ X.cell? A4 = some v4 ∧ Below W.heap.size W X) (o : Obj) : (X.alloc o).cell? A0 = some v0 ∧ (X.alloc o).cell? A1 = some v1 ∧ (X.alloc o).cell? A2 = some v2 ∧ (X.alloc o).cell? A3 = some v3 ∧ (X.alloc o).cell? A4 = some v4 ∧ Below W.heap.size W (X.alloc o) := q5_below h0 h1 h2 h3 h4 h ((Below.refl _ _).alloc (Nat.le_refl _) o)

theorem q5_allocd {W X : World} {A0 A1 A2 A3 A4 : Addr} {v0 v1 v2 v3 v4 : Value} (h0 : A0.block < W.heap.size) (h1 : A1.block < W.heap.size) (h2 : A2.block < W.heap.size) (h3 : A3.block < W.heap.size) (h4 : A4.block < W.heap.size) (h : X.drew.cell? A0 = some v0 ∧ X.drew.cell? A1 = some v1 ∧ X.drew.cell? A2 = some v2 ∧ X.drew.cell? A3 = some v3 ∧ X.drew.cell? A4 = some v4 ∧ Below W.heap.size W X.drew) (o : Obj) : (X.alloc o).drew.cell? A0 = some v0 ∧ (X.alloc o).drew.cell? A1 = some v1 ∧ (X.alloc o).drew.cell? A2 = some v2 ∧ (X.alloc o).drew.cell? A3 = some v3 ∧ (X.alloc o).drew.cell? A4 = some v4 ∧ Below W.heap.size W (X.alloc o).drew := q5_alloc h0 h1 h2 h3 h4 h o

theorem q5_set {W X : World} {A0 A1 A2 A3 A4 : Addr} {v0 v1 v2 v3 v4 : Value} (h0 : A0.block < W.heap.size) (h1 : A1.block < W.heap.size) (h2 : A2.block < W.heap.size) (h3 : A3.block < W.heap.size) (h4 : A4.block < W.heap.size) (h : X.cell? A0 = some v0 ∧ X.cell? A1 = some v1 ∧ X.cell? A2 = some v2 ∧ X.cell? A3 = some v3 ∧ X.cell? A4 = some v4 ∧ Below W.heap.size W X) {p : Addr} (hp : W.heap.size ≤ p.block) (y : Value) : (X.setCell p y).cell? A0 = some v0 ∧ (X.setCell p y).cell? A1 = some v1 ∧ (X.setCell p y).cell? A2 = some v2 ∧ (X.setCell p y).cell? A3 = some v3 ∧ (X.setCell p y).cell? A4 = some v4 ∧ Below W.heap.size W (X.setCell p y) :=
  ⟨(World.cell?_setCell_other _ _ _ _ (fun e => by rw [e] at hp; omega)).trans h.1, (World.cell?_setCell_other _ _ _ _ (fun e => by rw [e] at hp; omega)).trans h.2.1, (World.cell?_setCell_other _ _ _ _ (fun e => by rw [e] at hp; omega)).trans h.2.2.1, (World.cell?_setCell_other _ _ _ _ (fun e => by rw [e] at hp; omega)).trans h.2.2.2.1, (World.cell?_setCell_other _ _ _ _ (fun e => by rw [e] at hp; omega)).trans h.2.2.2.2.1, (h.2.2.2.2.2).setCell hp y⟩

theorem OT.allocR {B B' : Nat} {a : Option Addr} {n : Nat} {ss : List (Int × List Int)} {ta : Option Addr} {tn : Nat} {ts : List Int} {da : Option Addr} {dn : Nat} {ds : List Int} {ws : World} {o : Obj} (h : OT (InR B' ws.heap.size) a n ss ta tn ts da dn ds ws) (hB : B ≤ B') : OT (InR B (ws.alloc o).heap.size) a n ss ta tn ts da dn ds (ws.alloc o) :=
  OT.mono (OT.loc.alloc h o) (fun k hk => ⟨by have := hk.1; omega, by have := hk.2; simp; omega⟩)

theorem OT.set5R {B B' P : Nat} {a : Option Addr} {n : Nat} {ss : List (Int × List Int)} {ta : Option Addr} {tn : Nat} {ts : List Int} {da : Option Addr} {dn : Nat} {ds : List Int} {ws : World} (h : OT (InR B' ws.heap.size) a n ss ta tn ts da dn ds ws) (hB : B ≤ B') (hP : P < B') (v0 v1 v2 v3 v4 : Value) :
    OT (InR B (((((ws.setCell ⟨P, 0, none⟩ v0).setCell ⟨P, 1, none⟩ v1).setCell ⟨P, 2, none⟩ v2).setCell ⟨P, 3, none⟩ v3).setCell ⟨P, 4, none⟩ v4).heap.size) a n ss ta tn ts da dn ds (((((ws.setCell ⟨P, 0, none⟩ v0).setCell ⟨P, 1, none⟩ v1).setCell ⟨P, 2, none⟩ v2).setCell ⟨P, 3, none⟩ v3).setCell ⟨P, 4, none⟩ v4) :=
  OT.mono (loc_set5 OT.loc h (fun e => by have := e.1; omega) v0 v1 v2 v3 v4) (fun k hk => ⟨by have := hk.1; omega, by have := hk.2; simpa using this⟩)

theorem YM.newTL {P : Nat} {S : Nat → Prop} {A : SA} {D : SD} {X w' : World} (h : YM P 0 S A D X) (hS : ∀ q, S q → q < X.heap.size) (ho : OutS (fun q => q = P) X w') {ra xa ya fa : Option Addr} {rn rc xn xc yn yc fn fc b1 e1 b2 e2 : Nat} {ss : List (Int × List Int)} {ts ds : List Int} {ls : List (Int × Int × Int)}
    (hc : CsO P 0 [.slice ra rn rc, .slice xa xn xc, .slice ya yn yc, .slice A.wa A.wn A.wc, .slice A.xa A.xn A.xc, .int .i64 D.ac, .int .i64 D.cz, .slice fa fn fc, .int .i64 D.dv, .slice A.oa A.on A.oc, .slice A.ga A.gn A.gc] w')
    (ot : OT (InR b1 e1) ra rn ss xa xn ts ya yn ds w') (ol : OL (InR b2 e2) fa fn ls w') (h1 : X.heap.size ≤ b1) (h2 : e1 ≤ b2) (h3 : e2 ≤ w'.heap.size) (h4 : b1 ≤ e1) (h5 : b2 ≤ e2) (hl : fn ≤ fc) (hz : szY { A with a := ra, n := rn, c := rc, ta := xa, tn := xn, tc := xc, da := ya, dn := yn, dc := yc, la := fa, ln := fn, lc := fc } { D with ss := ss, ts := ts, ds := ds, ls := ls } ≤ 1048576) :
    YC P (fun q => S q ∨ (X.heap.size ≤ q ∧ q < w'.heap.size)) { A with a := ra, n := rn, c := rc, ta := xa, tn := xn, tc := xc, da := ya, dn := yn, dc := yc, la := fa, ln := fn, lc := fc } { D with ss := ss, ts := ts, ds := ds, ls := ls } w' := by
  obtain ⟨Q, q1, q2, q3, q4, q5, q6⟩ := h.y
  have hne : ∀ i k, Q i k → k ≠ P := fun i k e e2 => h.ns (e2 ▸ q1 _ _ e)
  have hk : ∀ j k, Q j k → k < X.heap.size → w'.heap[k]? = X.heap[k]? := fun j k e hl => ho.block k hl (hne j k e)
  refine ⟨hc, fun i k => if i = 0 then InR b1 e1 k else if i = 3 then InR b2 e2 k else Q i k, fun i k e => ?_, fun i j k hij e e2 => ?_, hz, hl, ?_⟩
  · simp only at e
    split at e
    · exact .inr ⟨by have := e.1; omega, by have := e.2; omega⟩
    · split at e
      · exact .inr ⟨by have := e.1; omega, by have := e.2; omega⟩
      · exact .inl (q1 _ _ e)
  · simp only at e e2
    split at e
    · rw [if_neg (by omega)] at e2
      split at e2
      · have := e.2; have := e2.1; omega
      · have := hS k (q1 _ _ e2); have := e.1; omega
    · split at e
      · split at e2
        · have := e.1; have := e2.2; omega
        · rw [if_neg (by omega)] at e2
          have := hS k (q1 _ _ e2); have := e.1; omega
      · have := hS k (q1 _ _ e)
        split at e2
        · have := e2.1; omega
        · split at e2
          · have := e2.1; omega
          · exact q2 i j k hij e e2
  · exact ⟨ot, OWd.loc X w' (fun k e hl => hk 1 k e hl) q5.m, OX.loc X w' (fun k e hl => hk 2 k e hl) q5.x, ol, OS.loc X w' (fun k e hl => hk 4 k e hl) q5.o, OWd.loc X w' (fun k e hl => hk 5 k e hl) q5.g⟩

theorem thing0_of {zs : List Int} (h : thingB zs = true) : thing0 zs = true := by
  unfold thingB at h
  unfold thing0
  rw [Bool.and_assoc, Bool.and_eq_true] at h
  exact h.2

set_option maxRecDepth 100000 in
theorem taintActive_no (P : Nat) (S : Nat → Prop) (A : SA) (D : SD) (k : Nat) (t : Int) (w : World) (hy : YM P 0 S A D w) (H : SysR A D k) (ho : tnB D t = false) :
    Calls Tryz.prog 79 #[.pointer (some ⟨P, 0, none⟩), .int .i64 t] w fun e w' => (∃ t pv, e = .panicked [{ v := .iface t pv, recovered := false }]) ∧ Below w.heap.size w w' := by
  have hr := hy.y.oy.rs
  obtain ⟨k0, k1, k2, k3, k4, k5, k6, k7⟩ := hr.len
  have x0 := hy.cs.cell 0 rfl
  have x1 := hy.cs.cell 1 rfl
  have x2 := hy.cs.cell 2 rfl
  simp only [Nat.zero_add] at x0 x1 x2
  have e1 : tgC D.ss D.ts D.ds D.ts (t - 1) = 4 := by
    rw [tgC_ok H.tf]
    refine inC_no (fun h => ?_)
    unfold tnB hasT at ho
    rw [Bool.and_eq_false_iff] at ho
    rcases ho with ho | ho
    · have := of_decide_eq_false ho; omega
    · have := of_decide_eq_false ho; omega
  have HTg := hide (implTagLabel_calls A.a A.n A.c D.ss A.ta A.tn A.tc D.ts A.da A.dn A.dc D.ds t w hr.rt)
  rw [e1] at HTg
  clear hy hr H ho e1
  go_enter Tryz.func79, Tryz.ntmps79
  go_wp2_with fail
  refine HTg.out.mono ?_
  rintro e w1 ⟨ra, rn, rc, rfl, os, g1⟩
  have HB := hide (g1.trans (((Below.refl w1.heap.size w1).alloc (Nat.le_refl _) (.cells #[.int .i64 4, .slice ra rn rc] 188)).mono g1.size))
  clear os g1
  go_wp2_with (go_at_call 121; fail)
  refine (insist_no _).mono ?_
  rintro e w' ⟨⟨t, pv, rfl⟩, hw'⟩
  rw [hw']
  exact ⟨rfl, ⟨t, pv, rfl⟩, HB.out⟩

set_option maxRecDepth 100000 in
set_option maxHeartbeats 4000000 in
theorem taintActive_yes (P : Nat) (S : Nat → Prop) (A : SA) (D : SD) (k : Nat) (t : Int) (w : World) (hy : YM P 0 S A D w) (H : SysR A D k) (hS : ∀ q, S q → q < w.heap.size) (ho : tnB D t = true) :
    Calls Tryz.prog 79 #[.pointer (some ⟨P, 0, none⟩), .int .i64 t] w fun e w' => e = .returned (.tuple #[]) ∧ (∃ B', YC P (fun q => S q ∨ (w.heap.size ≤ q ∧ q < w'.heap.size)) B' (tnD D t) w') ∧ OutS (fun q => S q ∨ q = P) w w' := by
  have hr := hy.y.oy.rs
  obtain ⟨k0, k1, k2, k3, k4, k5, k6, k7⟩ := hr.len
  have x0 := hy.cs.cell 0 rfl
  have x1 := hy.cs.cell 1 rfl
  have x2 := hy.cs.cell 2 rfl
  simp only [Nat.zero_add] at x0 x1 x2
  have hPl := hy.lt
  have HY := hide hy
  have HYs := hide (tn_yes ho)
  have ht2 : 1 ≤ t ∧ t ≤ (A.tn : Int) := by
    have h := ho
    unfold tnB hasT at h
    rw [Bool.and_eq_true] at h
    have a := of_decide_eq_true h.1
    have b := of_decide_eq_true h.2
    omega
  obtain ⟨j, rfl⟩ : ∃ j : Nat, t = (j : Int) + 1 := ⟨(t - 1).toNat, by omega⟩
  have hj : j < A.tn := by omega
  obtain ⟨p, T⟩ := H.tn hr hj
  have hsm := H.tiny hr
  have e1 : tgC D.ss D.ts D.ds D.ts ((j : Int) + 1 - 1) = 0 := by rw [tgC_ok H.tf, show (j : Int) + 1 - 1 = (j : Int) by omega, inC_yes T.tj]
  have e2 : tgL D.ss D.ts D.ds D.ts ((j : Int) + 1 - 1) = tnZ D ((j : Int) + 1) := by rw [tgL_ok H.tf, show (j : Int) + 1 - 1 = (j : Int) by omega, inL_yes T.tj, T.zt]
  have HTg := hide (implTagLabel_calls A.a A.n A.c D.ss A.ta A.tn A.tc D.ts A.da A.dn A.dc D.ds ((j : Int) + 1) w hr.rt)
  rw [e1, e2] at HTg
  have hC : txC D.ss D.ts D.ds (k : Int) (tnZ D ((j : Int) + 1)) = 0 := by
    unfold txC
    rw [if_pos H.tf, inC_yes T.dk, if_pos rfl, if_pos T.z0, if_pos (thing0_of T.th), ← H.ac, T.eq, T.ez]
    exact T.et
  have hVS : txS D.ss D.ts D.ds (k : Int) (tnZ D ((j : Int) + 1)) = tnR D ((j : Int) + 1) := by unfold txS tnR; rw [if_pos hC, H.ac]
  have hVT : txT D.ss D.ts D.ds (k : Int) (tnZ D ((j : Int) + 1)) = D.ts := if_pos hC
  have hVD : txD D.ss D.ts D.ds (k : Int) (tnZ D ((j : Int) + 1)) = D.ds.set D.ac.toNat (tnQ D ((j : Int) + 1) : Int) := by unfold txD tnQ; rw [if_pos hC, H.ac]
  have gS : Good (tnR D ((j : Int) + 1)) := by
    unfold tnR
    rw [T.eq, T.ez]
    exact good_enter (good_leave H.good T.pl T.pp) (fault_mix td_or (H.good.right p T.pl T.pp) T.z0) T.et
  have HHac := hide H.ac
  have hz4 := fault_len T.z0
  have HRT := hide hr.rt
  have HCC := hide (And.intro hC (And.intro hVS (And.intro hVT hVD)))
  have HSL := hide hr.ls
  have hlm : A.ln ≤ 1048576 := by unfold szY at hsm; omega
  have HG := hide gS
  have HK := hide (And.intro k1 (And.intro k2 k5))
  clear hy hr H T ho e1 e2 hC hVS hVT hVD gS ht2 k0 k1 k2 k3 k4 k5 k6 k7
  go_enter Tryz.func79, Tryz.ntmps79
  go_wp2_with fail
  refine HTg.out.mono ?_
  rintro e w1 ⟨ra, rn, rc, rfl, os, g1⟩
  obtain rfl : rn = 4 := by have := os.1; omega
  have z1 := g1.size
  have al := (Below.refl w1.heap.size w1).alloc (Nat.le_refl _) (.cells #[.int .i64 0, .slice ra 4 rc] 188)
  obtain ⟨W, hW⟩ : ∃ x, x = w1.alloc (.cells #[.int .i64 0, .slice ra 4 rc] 188) := ⟨_, rfl⟩
  rw [← hW] at al
  have l0 : W.cell? ⟨w1.heap.size, 0, none⟩ = some (.int .i64 0) := by rw [hW]; simp
  have l1 : W.cell? ⟨w1.heap.size, 1, none⟩ = some (.slice ra 4 rc) := by rw [hW]; simp
  have BW : Below w.heap.size w W := g1.trans (al.mono z1)
  have oW := (OS.loc.below al os).sl
  have YW := HY.out.below BW
  have y0 := YW.cs.cell 0 rfl
  have y1 := YW.cs.cell 1 rfl
  have y2 := YW.cs.cell 2 rfl
  have y5 := YW.cs.cell 5 rfl
  simp only [Nat.zero_add] at y0 y1 y2 y5
  rw [HHac.out] at y5
  have lW : P < W.heap.size := YW.lt
  have lB : w1.heap.size < W.heap.size := by rw [hW]; simp
  have hlb : (⟨w1.heap.size, 1, none⟩ : Addr).block < W.heap.size := lB
  have HYW := hide YW
  have HBW := hide BW
  have HoW := hide oW
  have HW := hide hW
  have HS0 : Hid (W.drew.cell? ⟨P, 0, none⟩ = some (.slice A.a A.n A.c) ∧ W.drew.cell? ⟨P, 1, none⟩ = some (.slice A.ta A.tn A.tc) ∧ W.drew.cell? ⟨P, 2, none⟩ = some (.slice A.da A.dn A.dc) ∧ W.drew.cell? ⟨P, 5, none⟩ = some (.int .i64 (k : Int)) ∧ W.drew.cell? ⟨w1.heap.size, 1, none⟩ = some (.slice ra 4 rc) ∧ Below W.heap.size W W.drew) := ⟨y0, y1, y2, y5, l1, (Below.refl _ _).drew⟩
  clear os g1 al oW YW BW y0 y1 y2 y5 HTg x0 x1 x2 hW
  go_wp2_with (go_at_call 121; fail)
  rw [← HW.out]
  refine (insist_yes _).mono ?_
  rintro e w' ⟨rfl, hw'⟩
  rw [hw']
  clear hw' w' HW
  go_wp2_with fail
  go_cut [5] (fun v wd => ∃ (I : Nat) (sa : Option Addr) (sn sc : Nat) (xa : Option Addr) (xn xc : Nat) (ya : Option Addr) (yn yc : Nat), v = .pointer (some ⟨I, 0, none⟩) ∧ W.heap.size ≤ I ∧ wd.cell? ⟨I, 0, none⟩ = some (.int .i64 0) ∧ wd.cell? ⟨I, 2, none⟩ = some (.slice sa sn sc) ∧ wd.cell? ⟨I, 3, none⟩ = some (.slice xa xn xc) ∧ wd.cell? ⟨I, 4, none⟩ = some (.slice ya yn yc) ∧ OT (InR W.heap.size wd.heap.size) sa sn (tnR D ((j : Int) + 1)) xa xn D.ts ya yn (D.ds.set D.ac.toNat (tnQ D ((j : Int) + 1) : Int)) wd ∧ Below W.heap.size W wd)
  case first =>
    go_region_held2 (fun X => X.cell? ⟨P, 0, none⟩ = some (.slice A.a A.n A.c) ∧ X.cell? ⟨P, 1, none⟩ = some (.slice A.ta A.tn A.tc) ∧ X.cell? ⟨P, 2, none⟩ = some (.slice A.da A.dn A.dc) ∧ X.cell? ⟨P, 5, none⟩ = some (.int .i64 (k : Int)) ∧ X.cell? ⟨w1.heap.size, 1, none⟩ = some (.slice ra 4 rc) ∧ Below W.heap.size W X)
      (first | with_reducible exact HS0.out | (repeat (first | with_reducible assumption | with_reducible refine q5_allocd lW lW lW lW hlb ?_ _ | with_reducible refine q5_alloc lW lW lW lW hlb ?_ _ | with_reducible refine q5_set lW lW lW lW hlb ?_ ?_ _ | (show (_ : Nat) ≤ _; exact Nat.le_refl _) | (show (_ : Nat) ≤ _; dsimp only; omega))))
      (first
        | (go_at_call 122; refine (implTaintDomain_calls A.a A.n A.c D.ss A.ta A.tn A.tc D.ts A.da A.dn A.dc D.ds (k : Int) ra 4 rc (tnZ D ((j : Int) + 1)) _ (HRT.out.below (HBW.out.trans ((q5_bel (by with_reducible assumption)).mono HBW.out.size)) (Nat.le_refl _)) (by unfold maxLen; omega) (HoW.out.below (q5_bel (by with_reducible assumption)) (Nat.le_refl _))).mono ?_; rw [HCC.out.1, HCC.out.2.1, HCC.out.2.2.1, HCC.out.2.2.2]; rintro e ws ⟨sa, sn, sc, xa, xn, xc, ya, yn, yc, rfl, ot, gs⟩; have hss := q5_below lW lW lW lW hlb (by with_reducible assumption) gs; have hzs := gs.size; have hws := (q5_bel hss).size; obtain ⟨bcs, bfs⟩ := bcellQ gs; (try simp only [World.size_alloc, World.size_drew] at hzs bcs bfs ot); (try have hts := Nat.lt_of_succ_le hzs); clear gs))
    all_goals go_wp2_with fail
    all_goals go_meet
    all_goals (
      refine ⟨_, sa, sn, sc, xa, xn, xc, ya, yn, yc, rfl, ?lo, ?c0, ?c2, ?c3, ?c4, ?own, ?bel⟩
      case bel => exact q5_bel (by with_reducible assumption)
      case lo => first | exact Nat.le_refl _ | omega
      case own => first | (with_reducible exact OT.allocR ot (by omega)) | (with_reducible exact OT.set5R ot (by omega) (by omega) _ _ _ _ _)
      case c0 => first | (go_simp; done) | (with_reducible refine set5_at0 _ _ _ _ _ _ _ ?_; go_simp; done)
      case c2 => first | (go_simp; done) | (with_reducible refine set5_at2 _ _ _ _ _ _ _ ?_; go_simp; done)
      case c3 => first | (go_simp; done) | (with_reducible refine set5_at3 _ _ _ _ _ _ _ ?_; go_simp; done)
      case c4 => first | (go_simp; done) | (with_reducible refine set5_at4 _ _ _ _ _ _ _ ?_; go_simp; done))
  case rest =>
  obtain ⟨I, sa, sn, sc, xa, xn, xc, ya, yn, yc, rfl, iL, j0, j2, j3, j4, oT, gd⟩ := hcut
  obtain ⟨w2, rfl⟩ : ∃ x, x = wc := ⟨wc, rfl⟩
  have z2 := gd.size
  have Y2 := HYW.out.below gd
  have a0 := Y2.cs.cell 0 rfl
  have a1 := Y2.cs.cell 1 rfl
  have a2 := Y2.cs.cell 2 rfl
  have a5 := Y2.cs.cell 5 rfl
  have a7 := Y2.cs.cell 7 rfl
  simp only [Nat.zero_add] at a0 a1 a2 a5 a7
  rw [HHac.out] at a5
  have f0 := Y2.fz 0
  have f1 := Y2.fz 1
  have f2 := Y2.fz 2
  have f7 := Y2.fz 7
  have lI := World.block_lt_of_cell? _ _ j0
  have pI : P ≠ I := by omega
  obtain ⟨V, hV⟩ : ∃ x, x = ((w2.setCell ⟨P, 0, none⟩ (.slice sa sn sc)).setCell ⟨P, 1, none⟩ (.slice xa xn xc)).setCell ⟨P, 2, none⟩ (.slice ya yn yc) := ⟨_, rfl⟩
  have hVo : OutS (fun q => q = P) w2 V := by rw [hV]; exact (((OutS.refl _ _).setCell (by rfl) _).setCell (by rfl) _).setCell (by rfl) _
  have hVz : V.heap.size = w2.heap.size := by rw [hV]; simp
  have n0 : V.cell? ⟨P, 0, none⟩ = some (.slice sa sn sc) := by rw [hV, World.cell?_setCell_other _ _ _ _ (fun e => by injection e with _ e2; omega), World.cell?_setCell_other _ _ _ _ (fun e => by injection e with _ e2; omega)]; exact World.cell?_setCell_same _ _ _ a0
  have n1 : V.cell? ⟨P, 1, none⟩ = some (.slice xa xn xc) := by rw [hV, World.cell?_setCell_other _ _ _ _ (fun e => by injection e with _ e2; omega)]; exact World.cell?_setCell_same _ _ _ ((World.cell?_setCell_other _ _ _ _ (fun e => by injection e with _ e2; omega)).trans a1)
  have n2 : V.cell? ⟨P, 2, none⟩ = some (.slice ya yn yc) := by rw [hV]; exact World.cell?_setCell_same _ _ _ ((World.cell?_setCell_other _ _ _ _ (fun e => by injection e with _ e2; omega)).trans ((World.cell?_setCell_other _ _ _ _ (fun e => by injection e with _ e2; omega)).trans a2))
  have nk : ∀ q, 3 ≤ q → V.cell? ⟨P, q, none⟩ = w2.cell? ⟨P, q, none⟩ := fun q hq => by rw [hV, World.cell?_setCell_other _ _ _ _ (fun e => by injection e with _ e2; omega), World.cell?_setCell_other _ _ _ _ (fun e => by injection e with _ e2; omega), World.cell?_setCell_other _ _ _ _ (fun e => by injection e with _ e2; omega)]
  have nf : ∀ q, V.frozen? ⟨P, q, none⟩ = w2.frozen? ⟨P, q, none⟩ := fun q => by rw [hV]; simp
  have HV := hide hV
  have v5 := (nk 5 (by omega)).trans a5
  have v7 := (nk 7 (by omega)).trans a7
  have vf := (nf 7).trans f7
  have hPV : P < V.heap.size := by omega
  have SL2 : Sln V A.la A.ln D.ls := by
    have h1 := Y2.y.oy.rs.ls
    refine ⟨h1.1, fun hp => ?_⟩
    obtain ⟨b, off, ea, hb, hc⟩ := h1.2 hp
    obtain ⟨Q, q1, q2, q3, q4, q5, q6⟩ := Y2.y
    have hbP : b ≠ P := fun e => by
      have hob : (Value.slice A.la A.ln A.lc).ownBlock = some b := by rw [ea]; rfl
      exact Y2.ns (e ▸ q1 _ _ (q6.2.1.2 b hob))
    exact ⟨b, off, ea, by omega, fun i hi => (World.cell?_of_block (a := ⟨b, off + i, none⟩) (hVo.block b hb hbP)).trans (hc i hi)⟩
  have hfl : (flL D.ls (k : Int) (-1)).length ≤ 1048576 := by have := length_flL' D.ls (k : Int) (-1); have := HK.out.2.2; omega
  have HFl := hide ((flushed_calls A.la A.ln A.lc D.ls (k : Int) (-1) V.drew hlm (SL2.below (Below.refl _ _).drew (Nat.le_refl _))).mono (R' := fun e w' => ∃ fa fc, e = .returned (.slice fa (flL D.ls (k : Int) (-1)).length fc) ∧ w'.ownsRow V.drew.heap.size 160 3 (.slice fa (flL D.ls (k : Int) (-1)).length fc) (flL D.ls (k : Int) (-1)).length (vs3 (flL D.ls (k : Int) (-1))) ∧ Below V.drew.heap.size V.drew w') (fun e w' h => by
    obtain ⟨v, rfl, own, g⟩ := h
    obtain ⟨fa, fc, rfl, _⟩ := own_ol hfl rfl own
    exact ⟨fa, fc, rfl, own, g⟩))
  have HK3 := hide (And.intro n0 (And.intro n1 (And.intro n2 (And.intro nk nf))))
  have HY2 := hide Y2
  have HoT := hide oT
  have HVo := hide hVo
  have HBd := hide (HBW.out.trans (gd.mono HBW.out.size))
  have zW := HBW.out.size
  have HgdW0 := hide gd
  have hVw : W.heap.size ≤ V.heap.size := by omega
  have HVz := hide hVz
  clear Y2 oT SL2 hV hVo gd nk nf n0 n1 n2 hVz HS0 l1
  go_wp2_with (go_at_call 121; fail)
  refine (insist_yes _).mono ?_
  rintro e w' ⟨rfl, hw'⟩
  rw [hw']
  clear hw' w'
  go_wp2_with fail
  rw [← HV.out]
  clear HV
  go_region_with (first
    | (go_at_call 123; refine HFl.out.mono ?_; rintro e w4 ⟨fa, fc, rfl, own4, g4⟩; have t7 := (g4.cell (p := ⟨P, 7, none⟩) (show P < V.drew.heap.size from hPV)).trans v7; have u7 := (g4.frozen (p := ⟨P, 7, none⟩) (show P < V.drew.heap.size from hPV)).trans vf))
  all_goals (
    have ol := (own_ol2 hfl rfl own4).1
    have hcap : (flL D.ls (k : Int) (-1)).length ≤ fc := (own_ol2 hfl rfl own4).2
    have G4 : Below V.heap.size V w4 := (Below.refl _ _).drew.trans g4
    have z4 : V.heap.size ≤ w4.heap.size := G4.size
    have u4 : OutS (fun q => q = P) w2 (w4.setCell ⟨P, 7, none⟩ (.slice fa (flL D.ls (k : Int) (-1)).length fc)) := (HVo.out.trans (OutS.of_below G4)).setCell (by rfl) _
    have ot4 : OT (InR W.heap.size V.heap.size) sa sn (tnR D ((j : Int) + 1)) xa xn D.ts ya yn (D.ds.set D.ac.toNat (tnQ D ((j : Int) + 1) : Int)) (w4.setCell ⟨P, 7, none⟩ (.slice fa (flL D.ls (k : Int) (-1)).length fc)) := by
      have e0 := HVz.out
      rw [e0]
      refine OT.loc w2 _ (fun q hq hl => u4.block q hl (fun e => ?_)) HoT.out
      have := hq.1
      omega
    have ol4 : OL (InR V.heap.size w4.heap.size) fa (flL D.ls (k : Int) (-1)).length (flL D.ls (k : Int) (-1)) (w4.setCell ⟨P, 7, none⟩ (.slice fa (flL D.ls (k : Int) (-1)).length fc)) := OL.loc.setC ol (fun e => by have := e.1; simp only [World.size_drew] at this; omega) _
    have gs1 := HG.out.few
    have gs2 := lenSum_few _ (good_len HG.out)
    obtain ⟨ss1, ss2, ss3, ss4, ss5, ss6, ss7, ss8, ss9, oR, o5, o6⟩ := ot4
    have hn1 := oR.1
    have hn2 := o5.1
    have hn3 := o6.1
    rw [List.length_set] at hn3
    have hz : szY { A with a := sa, n := sn, c := sc, ta := xa, tn := xn, tc := xc, da := ya, dn := yn, dc := yc, la := fa, ln := (flL D.ls (k : Int) (-1)).length, lc := fc } { D with ss := tnR D ((j : Int) + 1), ts := D.ts, ds := D.ds.set D.ac.toNat (tnQ D ((j : Int) + 1) : Int), ls := flL D.ls (k : Int) (-1) } ≤ 1048576 := by
      have h1 := HK.out
      have h2 := length_flL' D.ls (k : Int) (-1)
      unfold szY at hsm ⊢
      dsimp only
      omega
    have hCs : CsO P 0 [.slice sa sn sc, .slice xa xn xc, .slice ya yn yc, .slice A.wa A.wn A.wc, .slice A.xa A.xn A.xc, .int .i64 D.ac, .int .i64 D.cz, .slice fa (flL D.ls (k : Int) (-1)).length fc, .int .i64 D.dv, .slice A.oa A.on A.oc, .slice A.ga A.gn A.gc] (w4.setCell ⟨P, 7, none⟩ (.slice fa (flL D.ls (k : Int) (-1)).length fc)) := by
      have ot : ∀ {i : Nat} {v : Value}, i ≠ 7 → V.cell? ⟨P, i, none⟩ = some v → (w4.setCell ⟨P, 7, none⟩ (.slice fa (flL D.ls (k : Int) (-1)).length fc)).cell? ⟨P, 0 + i, none⟩ = some v := fun {i v} hi hv => by
        rw [Nat.zero_add, World.cell?_setCell_other _ _ _ _ (fun e => by injection e with _ e2; omega)]
        exact (G4.cell (p := ⟨P, i, none⟩) hPV).trans hv
      have o3 : ∀ {i : Nat} {v : Value}, i ≠ 7 → 3 ≤ i → w2.cell? ⟨P, 0 + i, none⟩ = some v → (w4.setCell ⟨P, 7, none⟩ (.slice fa (flL D.ls (k : Int) (-1)).length fc)).cell? ⟨P, 0 + i, none⟩ = some v := fun {i v} hi h3 hv => ot hi ((HK3.out.2.2.2.1 i h3).trans (by rw [Nat.zero_add] at hv; exact hv))
      intro i hi
      simp only [List.length_cons, List.length_nil] at hi
      rcases (by omega : i = 0 ∨ i = 1 ∨ i = 2 ∨ i = 3 ∨ i = 4 ∨ i = 5 ∨ i = 6 ∨ i = 7 ∨ i = 8 ∨ i = 9 ∨ i = 10) with rfl | rfl | rfl | rfl | rfl | rfl | rfl | rfl | rfl | rfl | rfl
      · exact ot (by decide) HK3.out.1
      · exact ot (by decide) HK3.out.2.1
      · exact ot (by decide) HK3.out.2.2.1
      · exact o3 (by decide) (by decide) (HY2.out.cs.cell 3 rfl)
      · exact o3 (by decide) (by decide) (HY2.out.cs.cell 4 rfl)
      · exact o3 (by decide) (by decide) (HY2.out.cs.cell 5 rfl)
      · exact o3 (by decide) (by decide) (HY2.out.cs.cell 6 rfl)
      · exact World.cell?_setCell_same _ _ _ t7
      · exact o3 (by decide) (by decide) (HY2.out.cs.cell 8 rfl)
      · exact o3 (by decide) (by decide) (HY2.out.cs.cell 9 rfl)
      · exact o3 (by decide) (by decide) (HY2.out.cs.cell 10 rfl)
    have sW : ∀ q, S q → q < W.heap.size := fun q e => by have := hS q e; omega
    have e0 := HVz.out
    have HF6 : Hid (∃ B', YC P (fun q => S q ∨ (w.heap.size ≤ q ∧ q < (w4.setCell ⟨P, 7, none⟩ (.slice fa (flL D.ls (k : Int) (-1)).length fc)).heap.size)) B' (tnD D ((j : Int) + 1)) (w4.setCell ⟨P, 7, none⟩ (.slice fa (flL D.ls (k : Int) (-1)).length fc))) := by
      have uW : OutS (fun q => q = P) W (w4.setCell ⟨P, 7, none⟩ (.slice fa (flL D.ls (k : Int) (-1)).length fc)) := (OutS.of_below HgdW0.out).trans u4
      have yct := HYW.out.newTL sW uW hCs ⟨ss1, ss2, ss3, ss4, ss5, ss6, ss7, ss8, ss9, oR, o5, o6⟩ ol4 (Nat.le_refl _) (Nat.le_refl _) (by simp) hVw z4 hcap hz
      refine ⟨{ A with a := sa, n := sn, c := sc, ta := xa, tn := xn, tc := xc, da := ya, dn := yn, dc := yc, la := fa, ln := (flL D.ls (k : Int) (-1)).length, lc := fc }, ?_⟩
      · rw [HYs.out.1, HHac.out]
        rw [HHac.out] at yct
        exact ⟨yct.cs, yct.oy.mono (fun q e => by rcases e with e | e; exact .inl e; exact .inr ⟨by omega, e.2⟩)⟩
    have HU6 : Hid (OutS (fun q => S q ∨ q = P) w (w4.setCell ⟨P, 7, none⟩ (.slice fa (flL D.ls (k : Int) (-1)).length fc))) := (OutS.of_below HBd.out).trans (u4.mono (fun q e => .inr e))
    clear ol ol4 oR o5 o6 hCs u4 G4 g4 own4 hz
    go_wp2
    exact bodyPost_end (v := .tuple #[]) (by simp [results, Tryz.results79, go_sem]) rfl ⟨rfl, HF6.out, HU6.out⟩)

end Go.Proofs.YtgkjmeogdomgmaaGreat
