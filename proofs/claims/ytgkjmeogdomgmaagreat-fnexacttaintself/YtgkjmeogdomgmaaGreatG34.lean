import Derived.Test.YtgkjmeogdomgmaaGreatG23
import Derived.Test.YtgkjmeogdomgmaaGreatG15
import Derived.Test.YtgkjmeogdomgmaaGreatG21
import Derived.Test.YtgkjmeogdomgmaaGreatG33
import Derived.Test.YtgkjmeogdomgmaaGreatG24
import Derived.Test.YtgkjmeogdomgmaaGreatG2
import Derived.WalkKit
import Derived.ProofKit
import Derived.OpenShut
import Derived.ShutString
import Derived.ChangeOld
import Derived.Below
import Derived.WalkSpells
import Derived.Deep.QuietTactic
import Derived.BigQuiet
import Derived.Deep.RegionWith
import Derived.Deep.WholeRow
import Derived.Deep.DeepCutAuto
import Derived.Deep.RegionHeld2
import Derived.Deep.AppendLies
import Derived.Deep.RegionLaw
namespace Go.Proofs.YtgkjmeogdomgmaaGreat
open Go.ChangeShapes Go.WideShapes Go.ChangeAt Go.RowKit

theorem owns_loc {w w' : World} {B m n : Nat} {e : TypeId} {v : Value} {L : List Value} {S : Nat → Prop} (hs : ∀ g, v.ownBlock = some g → S g) (hk : ∀ k, S k → k < w.heap.size → w'.heap[k]? = w.heap[k]?) (h : w.ownsRow B e m v n L) : w'.ownsRow B e m v n L := by
  refine ⟨h.1, ?_⟩
  rcases h.2 with h0 | ⟨g, cap, cur, hv, hb, hg, rest⟩
  · exact .inl h0
  · refine .inr ⟨g, cap, cur, hv, hb, ?_, rest⟩
    rw [hk g (hs g (by rw [hv]; rfl)) (Array.getElem?_eq_some_iff.1 hg).1]
    exact hg

/-- a row of lines with its room. -/
def RLn (S : Nat → Prop) (a : Option Addr) (n c : Nat) (ls : List (Int × Int × Int)) (w : World) : Prop :=
  w.ownsRow 0 160 3 (.slice a n c) n (vs3 ls) ∧ ∀ g, (Value.slice a n c).ownBlock = some g → S g

theorem RLn.loc {S : Nat → Prop} {a : Option Addr} {n c : Nat} {ls : List (Int × Int × Int)} : Loc S (RLn S a n c ls) := fun _ _ hk h => ⟨owns_loc h.2 hk h.1, h.2⟩

/-- a row of slots with its room. -/
def RSl (S : Nat → Prop) (a : Option Addr) (n c : Nat) (w : World) : Prop :=
  (∃ xs, w.ownsRow 0 150 2 (.slice a n c) n xs) ∧ ∀ g, (Value.slice a n c).ownBlock = some g → S g

theorem RSl.loc {S : Nat → Prop} {a : Option Addr} {n c : Nat} : Loc S (RSl S a n c) := fun _ _ hk h => ⟨h.1.elim fun xs hx => ⟨xs, owns_loc h.2 hk hx⟩, h.2⟩

/-- owned tables, the slots with their room. -/
def OTK (S : Nat → Prop) (a : Option Addr) (n c : Nat) (ss : List (Int × List Int)) (ta : Option Addr) (tn : Nat) (ts : List Int) (da : Option Addr) (dn : Nat) (ds : List Int) (w : World) : Prop :=
  OT S a n ss ta tn ts da dn ds w ∧ RSl S a n c w

theorem OTK.loc {S : Nat → Prop} {a : Option Addr} {n c : Nat} {ss : List (Int × List Int)} {ta : Option Addr} {tn : Nat} {ts : List Int} {da : Option Addr} {dn : Nat} {ds : List Int} : Loc S (OTK S a n c ss ta tn ts da dn ds) := fun w w' hk h => ⟨OT.loc w w' hk h.1, RSl.loc w w' hk h.2⟩

/-- owned lines with their room. -/
def OLK (S : Nat → Prop) (a : Option Addr) (n c : Nat) (ls : List (Int × Int × Int)) (w : World) : Prop := OL S a n ls w ∧ RLn S a n c ls w

theorem OLK.loc {S : Nat → Prop} {a : Option Addr} {n c : Nat} {ls : List (Int × Int × Int)} : Loc S (OLK S a n c ls) := fun w w' hk h => ⟨OL.loc w w' hk h.1, RLn.loc w w' hk h.2⟩

/-- tables in three rows of blocks, the slots with their room. -/
def L3K (B : Nat) (a : Option Addr) (n rc : Nat) (ss : List (Int × List Int)) (ta : Option Addr) (tn : Nat) (ts : List Int) (da : Option Addr) (dn : Nat) (ds : List Int) (w : World) : Prop :=
  ∃ B1 B2 B3 B4, B ≤ B1 ∧ B1 ≤ B2 ∧ B2 ≤ B3 ∧ B3 ≤ B4 ∧ B4 ≤ w.heap.size ∧ RG B1 B2 a n rc ss w ∧ OS (InR B2 B3) ta tn ts w ∧ OS (InR B3 B4) da dn ds w

theorem L3R.k {B : Nat} {a : Option Addr} {n rc : Nat} {ss : List (Int × List Int)} {ta : Option Addr} {tn xc : Nat} {ts : List Int} {da : Option Addr} {dn yc : Nat} {ds : List Int} {w : World} (h : L3R B a n rc ss ta tn xc ts da dn yc ds w) : L3K B a n rc ss ta tn ts da dn ds w := by
  obtain ⟨B1, B2, B3, B4, h1, h2, h3, h4, h5, o1, o2, o3⟩ := h
  exact ⟨B1, B2, B3, B4, h1, h2, h3, h4, h5, o1, o2.1, o3.1⟩

theorem L3K.setC {B P o : Nat} {a : Option Addr} {n rc : Nat} {ss : List (Int × List Int)} {ta : Option Addr} {tn : Nat} {ts : List Int} {da : Option Addr} {dn : Nat} {ds : List Int} {w : World} (h : L3K B a n rc ss ta tn ts da dn ds w) (hP : P < B) (v : Value) : L3K B a n rc ss ta tn ts da dn ds (w.setCell ⟨P, o, none⟩ v) := by
  obtain ⟨B1, B2, B3, B4, h1, h2, h3, h4, h5, o1, o2, o3⟩ := h
  exact ⟨B1, B2, B3, B4, h1, h2, h3, h4, by simpa using h5, RG.loc.setC o1 (fun e => by have := e.1; simp only at this; omega) v, OS.loc.setC o2 (fun e => by have := e.1; simp only at this; omega) v, OS.loc.setC o3 (fun e => by have := e.1; simp only at this; omega) v⟩

theorem L3K.otk {B T : Nat} {a : Option Addr} {n rc : Nat} {ss : List (Int × List Int)} {ta : Option Addr} {tn : Nat} {ts : List Int} {da : Option Addr} {dn : Nat} {ds : List Int} {w : World} (h : L3K B a n rc ss ta tn ts da dn ds w) (hT : w.heap.size ≤ T) : OTK (InR B T) a n rc ss ta tn ts da dn ds w := by
  obtain ⟨B1, B2, B3, B4, h1, h2, h3, h4, h5, o1, o2, o3⟩ := h
  refine ⟨L3.ot ⟨B1, B2, B3, B4, h1, h2, h3, h4, h5, o1.1, o2, o3⟩ hT, ?_, fun g e => ?_⟩
  · obtain ⟨xs, hx⟩ := o1.2.1
    exact ⟨xs, owns_base hx⟩
  · have := o1.2.2 g e
    exact ⟨by have := this.1; omega, by have := this.2; omega⟩

/-- the rows of an owned system that may grow: Out, the lines, the slots. -/
def RwY (Q : Nat → Nat → Prop) (A : SA) (D : SD) (w : World) : Prop :=
  RW (Q 4) A.oa A.on A.oc D.os w ∧ RLn (Q 3) A.la A.ln A.lc D.ls w ∧ RSl (Q 0) A.a A.n A.c w

theorem RwY.keep {Q : Nat → Nat → Prop} {A : SA} {D : SD} {w w' : World} (hk : ∀ j k, (j = 0 ∨ j = 3 ∨ j = 4) → Q j k → k < w.heap.size → w'.heap[k]? = w.heap[k]?) (h : RwY Q A D w) : RwY Q A D w' :=
  ⟨RW.loc w w' (fun k e hl => hk 4 k (by decide) e hl) h.1, RLn.loc w w' (fun k e hl => hk 3 k (by decide) e hl) h.2.1, RSl.loc w w' (fun k e hl => hk 0 k (by decide) e hl) h.2.2⟩

/-- an owned system, its Out with the room behind it. -/
def OYR (S : Nat → Prop) (A : SA) (D : SD) (w : World) : Prop :=
  ∃ Q : Nat → Nat → Prop, (∀ i k, Q i k → S k) ∧ (∀ i j k, i ≠ j → Q i k → ¬ Q j k) ∧ szY A D ≤ 1048576 ∧ A.ln ≤ A.lc ∧ OYb Q A D w ∧ RwY Q A D w

theorem OYR.oy {S : Nat → Prop} {A : SA} {D : SD} {w : World} (h : OYR S A D w) : OY S A D w := by
  obtain ⟨Q, h1, h2, h3, h4, h5, _⟩ := h
  exact ⟨Q, h1, h2, h3, h4, h5⟩

theorem OYR.loc {S : Nat → Prop} {A : SA} {D : SD} : Loc S (OYR S A D) := fun w w' hk h => by
  obtain ⟨Q, h1, h2, h3, h4, h5, h6⟩ := h
  exact ⟨Q, h1, h2, h3, h4, OYb.loc h1 w w' hk h5, RwY.keep (fun j k _ e hl => hk k (h1 _ _ e) hl) h6⟩

theorem OYR.mono {S S' : Nat → Prop} {A : SA} {D : SD} {w : World} (h : OYR S A D w) (hs : ∀ k, S k → S' k) : OYR S' A D w := by
  obtain ⟨Q, h1, h2⟩ := h
  exact ⟨Q, fun i k e => hs k (h1 i k e), h2⟩

/-- a row that lies behind B grows: what lies before B is kept. -/
theorem Mm.grown {w u X w1 : World} {cs : List (Nat × Nat × Value)} {fs : List (Nat × Nat × (World → Prop))} (h : Mm w u cs fs) (hc : Below u.heap.size u X) {row : Option Nat} (hg : X.grownBy w1 row) {B : Nat} (hB : w.heap.size ≤ B) (hBu : B ≤ u.heap.size) (hrow : ∀ q, row = some q → B ≤ q)
    (hcs : ∀ c ∈ cs, c.1 < B) (hfs : ∀ f ∈ fs, f.2.1 ≤ B) : Mm w w1 cs fs := by
  have hsz := hc.size
  have hgs := hg.size
  have far : ∀ q, q < B → w1.heap[q]? = u.heap[q]? := fun q hq => (hg.block q (by omega) (fun e => by have := hrow q e.symm; omega)).trans (hc.block q (by omega))
  refine ⟨(h.bel.trans (hc.mono h.bel.size)).grown hg (by have := h.bel.size; omega) (fun g hg' => by have := hrow g hg'; omega), fun c k => ?_, fun f k => ?_⟩
  · have h1 := h.cells c k
    have e := far c.1 (hcs c k)
    exact ⟨by omega, (World.cell?_of_block (a := ⟨c.1, c.2.1, none⟩) e).trans h1.2.1, (World.frozen?_of_block (a := ⟨c.1, c.2.1, none⟩) e).trans h1.2.2⟩
  · have h1 := h.facts f k
    exact ⟨h1.1, h1.1 u w1 (fun j hj _ => far j (by have := hj.2; have := hfs f k; omega)) h1.2⟩

/-- what a round of a copy of contexts leaves. -/
def L7r (w : World) (B : Nat) (fs : Value → List (Nat × Nat × (World → Prop))) (cs : List (List Int × Int × Bool)) (k : Nat) (wr : World) : Prop :=
  ∃ (v : Value) (la : Nat → Option Addr) (lc lb : Nat → Nat) (xs : List Value), CX wr B cs k v la lc lb xs ∧ Mm w wr [] (fs v) ∧ B ≤ wr.heap.size

theorem own_ol2 {w : World} {B0 : Nat} {e : TypeId} {a : Option Addr} {n c : Nat} {ls : List (Int × Int × Int)} (hn : n ≤ 1048576) (hl : ls.length = n) (h : w.ownsRow B0 e 3 (.slice a n c) n (vs3 ls)) : OL (InR B0 w.heap.size) a n ls w ∧ n ≤ c := by
  obtain ⟨a', c', e1, h1⟩ := own_ol hn hl h
  injection e1 with e1 _ e2
  subst e1
  refine ⟨h1, ?_⟩
  rcases h.2 with ⟨_, h0⟩ | ⟨g, cap, cur, e3, _⟩
  · omega
  · injection e3 with e4 _ e5
    subst e4 e5
    exact (own_room h).1

theorem infoGate2 : (Tryz.prog.info? 123).map (fun i => (i.zero, i.size, i.bytes)) = some (some (.agg #[.int .i64 0, .int .i64 0]), 2, 16) := by kernel_rfl

set_option maxRecDepth 100000 in
set_option maxHeartbeats 8000000 in
theorem l7Copy_O (A : SA) (D : SD) (w : World) (hm : szY A D ≤ 1048576) (hr : RS w A D) :
    Calls Tryz.prog 21 #[.agg #[.slice A.a A.n A.c, .slice A.ta A.tn A.tc, .slice A.da A.dn A.dc, .slice A.wa A.wn A.wc, .slice A.xa A.xn A.xc, .int .i64 D.ac, .int .i64 D.cz, .slice A.la A.ln A.lc, .int .i64 D.dv, .slice A.oa A.on A.oc, .slice A.ga A.gn A.gc]] w fun e w' => ∃ B : SA, e = .returned (.agg #[.slice B.a B.n B.c, .slice B.ta B.tn B.tc, .slice B.da B.dn B.dc, .slice B.wa B.wn B.wc, .slice B.xa B.xn B.xc, .int .i64 D.ac, .int .i64 D.cz, .slice B.la B.ln B.lc, .int .i64 D.dv, .slice B.oa B.on B.oc, .slice B.ga B.gn B.gc]) ∧ OYR (InR w.heap.size w'.heap.size) B D w' ∧ Below w.heap.size w w' := by
  unfold szY at hm
  obtain ⟨k0, k1, k2, k3, k4, k5, k6, k7⟩ := hr.len
  have M0 := (((Mm.start w).allocC [.slice A.a A.n A.c, .slice A.ta A.tn A.tc, .slice A.da A.dn A.dc, .slice A.wa A.wn A.wc, .slice A.xa A.xn A.xc, .int .i64 D.ac, .int .i64 D.cz, .slice A.la A.ln A.lc, .int .i64 D.dv, .slice A.oa A.on A.oc, .slice A.ga A.gn A.gc] 53).allocC [.slice none 0 0, .slice none 0 0, .slice none 0 0, .slice none 0 0, .slice none 0 0, .int .i64 0, .int .i64 0, .slice none 0 0, .int .i64 0, .slice none 0 0, .slice none 0 0] 53).allocC [.slice A.a A.n A.c, .slice A.ta A.tn A.tc, .slice A.da A.dn A.dc, .slice A.wa A.wn A.wc, .slice A.xa A.xn A.xc, .int .i64 D.ac, .int .i64 D.cz, .slice A.la A.ln A.lc, .int .i64 D.dv, .slice A.oa A.on A.oc, .slice A.ga A.gn A.gc] 53
  simp only [World.size_alloc] at M0
  obtain ⟨ix, hix, hzx0, hzx1, hzx2⟩ := info_parts infoContext
  obtain ⟨ig, hig, hzg0, hzg1, hzg2⟩ := info_parts infoGate2
  go_enter Tryz.func21, Tryz.ntmps21
  go_wp2_with fail
  refine (l3Copy_R A.a A.n A.c D.ss A.ta A.tn A.tc D.ts A.da A.dn A.dc D.ds _ (by omega) (by omega) (by omega) (hr.rt.below M0.bel (Nat.le_refl _))).mono ?_
  rintro e w1 ⟨ra, rc, xa, xc, ya, yc, rfl, o1, g1⟩
  have z1 := g1.size
  simp only [World.size_alloc] at z1 o1
  have N1 := (M0.below g1).fact OTK.loc (o1.k.otk (Nat.le_refl _))
  have u1_0 := (N1.get 1 rfl).cell 0 rfl
  have f1_0 := (N1.get 1 rfl).fz 0 (by simp)
  have u1_1 := (N1.get 1 rfl).cell 1 rfl
  have f1_1 := (N1.get 1 rfl).fz 1 (by simp)
  have u1_2 := (N1.get 1 rfl).cell 2 rfl
  have f1_2 := (N1.get 1 rfl).fz 2 (by simp)
  have S1_0 := N1.put 1 rfl 0 (by simp) (.slice ra A.n rc) (by omega) (by simp) (by simp <;> omega)
  have S1_1 := S1_0.put 1 rfl 1 (by simp) (.slice xa A.tn xc) (by omega) (by simp) (by simp <;> omega)
  have S1_2 := S1_1.put 1 rfl 2 (by simp) (.slice ya A.dn yc) (by omega) (by simp) (by simp <;> omega)
  have X1 := S1_2
  simp only [List.set] at X1
  clear S1_2 S1_1 S1_0 N1 M0 g1 o1
  have q3 := (X1.get 3 rfl).cell 3 rfl
  go_wp2_with fail
  refine (l6Copy_O A.wa A.wn A.wc D.ws _ (by omega) (hr.ws.below X1.bel (Nat.le_refl _))).mono ?_
  rintro e w2 ⟨ma, mc, rfl, o2, g2⟩
  have z2 := g2.size
  simp only [World.size_setCell] at z2 o2
  have N2 := (X1.below g2).fact OWd.loc o2
  have u2_3 := (N2.get 2 rfl).cell 3 rfl
  have f2_3 := (N2.get 2 rfl).fz 3 (by simp)
  have u2_4 := (N2.get 2 rfl).cell 4 rfl
  have f2_4 := (N2.get 2 rfl).fz 4 (by simp)
  have S2_3 := N2.put 2 rfl 3 (by simp) (.slice ma A.wn mc) (by omega) (by simp) (by simp <;> omega)
  have S2_4 := S2_3.put 2 rfl 4 (by simp) (.slice none 0 0) (by omega) (by simp) (by simp <;> omega)
  have X2 := S2_4
  simp only [List.set] at X2
  clear S2_4 S2_3 N2 X1 g2 o2 q3 u1_0 u1_1 u1_2 f1_0 f1_1 f1_2
  have HX2 := hide X2
  clear X2
  go_wp2
  go_loopw [4] (fun i wr => ∃ k : Nat, k ≤ A.xn ∧ i = .int .i64 k ∧ L7r w w2.heap.size (fun v => [(w1.heap.size, w2.heap.size, OWd (InR w1.heap.size w2.heap.size) ma A.wn D.ws), (w.heap.size + 1 + 1 + 1, w1.heap.size, OTK (InR (w.heap.size + 1 + 1 + 1) w1.heap.size) ra A.n rc D.ss xa A.tn D.ts ya A.dn D.ds), (w.heap.size + 1 + 1, w.heap.size + 1 + 1 + 1, Cs (w.heap.size + 1 + 1) [.slice ra A.n rc, .slice xa A.tn xc, .slice ya A.dn yc, .slice ma A.wn mc, v, .int .i64 D.ac, .int .i64 D.cz, .slice A.la A.ln A.lc, .int .i64 D.dv, .slice A.oa A.on A.oc, .slice A.ga A.gn A.gc]), (w.heap.size + 1, w.heap.size + 1 + 1, Cs (w.heap.size + 1) [.slice none 0 0, .slice none 0 0, .slice none 0 0, .slice none 0 0, .slice none 0 0, .int .i64 0, .int .i64 0, .slice none 0 0, .int .i64 0, .slice none 0 0, .slice none 0 0]), (w.heap.size, w.heap.size + 1, Cs (w.heap.size) [.slice A.a A.n A.c, .slice A.ta A.tn A.tc, .slice A.da A.dn A.dc, .slice A.wa A.wn A.wc, .slice A.xa A.xn A.xc, .int .i64 D.ac, .int .i64 D.cz, .slice A.la A.ln A.lc, .int .i64 D.dv, .slice A.oa A.on A.oc, .slice A.ga A.gn A.gc])]) D.cs k wr) (fun i _ => A.xn - (intOf i).toNat)
  case atStart => exact ⟨0, Nat.zero_le _, rfl, _, _, _, _, _, CX.start D.cs (World.ownsRow_nil _ _ _ _), HX2.out, by simp⟩
  case round =>
    clear HX2 u2_3 f2_3 u2_4 f2_4
    obtain ⟨k, hkn, rfl, v, la, lc, lb, xs, hx, M, hB⟩ := hrel
    have a4 := (M.get 4 rfl).cell 4 rfl
    have o4 := (M.get 2 rfl).cell 4 rfl
    have p4 := (M.get 2 rfl).fz 4 (by simp)
    have HX := hide hx
    have HM := hide M
    have h6 := M.bel
    have l0 : w.heap.size < wr.heap.size := by omega
    have l2 : w.heap.size + 1 + 1 < wr.heap.size := by omega
    clear hx M
    by_cases hlt : k < A.xn
    · obtain ⟨b, off, hax, hb, hc⟩ := hr.xs.2 (by omega)
      rw [hax] at a4
      obtain ⟨ra0, ll, rc0, hc0, hc1, hc2, hll, hsl⟩ := hc k hlt
      have hck0 := (h6.cell (p := ⟨b, off + k * 3, none⟩) hb).trans hc0
      have hck1 := (h6.cell (p := ⟨b, off + k * 3 + 1, none⟩) hb).trans hc1
      have hck2 := (h6.cell (p := ⟨b, off + k * 3 + 2, none⟩) hb).trans hc2
      have hzl : (gx D.cs k).1.length = ll := hsl.1
      have hl2 := gx_le D.cs k (by omega)
      have HSL := hide ((hsl.below h6 (Nat.le_refl _)).below (Below.refl wr.heap.size wr).drew (Nat.le_refl _))
      have hbr : b < wr.heap.size := by have := h6.size; omega
      have hki : (k : Int) < (A.xn : Int) := by omega
      have hki0 : (0 : Int) ≤ (k : Int) := by omega
      clear hc hc0 hc1 hc2 hsl h6 hax
      go_wp2_with fail
      go_region_law (first
        | (refine step_append_lies _ rfl _ _ 47 rfl w2.heap.size 108 ix (.agg #[.slice none 0 0, .int .i64 0, .bool false]) 3 40 Tryz.underlying47 hix hzx0 hzx1 hzx2 rfl (by decide) v k xs rfl (HW.out.alloc _) ⟨wc.heap.size, 0, none⟩ 1 1 [.slice rb ll rd, .int .i64 (gx D.cs k).2.1, .bool (gx D.cs k).2.2] rfl rfl (three_new (by go_simp) (by go_simp) (by go_simp)) (by simp [Value.oneCell']) (by omega) (by unfold maxLen; omega) (by omega) (by simp; omega) (wc.heap.size + 1) (by simp) ?_; intro g cp w3 hown1 hgrow hat hlt1; have HST := hide (HX.out.step (HC.out.trans (((Below.refl _ _).alloc (Nat.le_refl _) _).mono HC.out.size)) hzl hB ((OS.loc.alloc HO.out _).mono (fun q hq => ⟨hq.1, Nat.lt_of_lt_of_le hq.2 (by simp)⟩)) hgrow (by rw [World.size_alloc]; exact hat) hown1); have MG := HM.out.grown (HC.out.trans (((Below.refl _ _).alloc (Nat.le_refl _) _).mono HC.out.size)) hgrow (B := w2.heap.size) (by omega) hB (fun q e => (HX.out.own.lt q e).1) (by simp) (by simp <;> omega); have s4 := (MG.get 2 rfl).cell 4 rfl; have t4 := (MG.get 2 rfl).fz 4 (by simp); have HMG := hide MG; have hz3 := hgrow.size; clear hown1 hgrow hat MG)
        | (go_simp; go_at_call 58; refine (l7CopyContext_O ra0 ll rc0 (gx D.cs k).2.1 (gx D.cs k).2.2 (gx D.cs k).1 _ (by omega) HSL.out).mono ?_; rintro e wc ⟨rb, rd, rfl, os, gw⟩; have j1 := (gw.cell (p := ⟨w.heap.size + 1 + 1, 4, none⟩) (by simpa using l2)).trans o4; have j2 := (gw.frozen (p := ⟨w.heap.size + 1 + 1, 4, none⟩) (by simpa using l2)).trans p4; have j3 := (gw.cell (p := ⟨w.heap.size, 4, none⟩) (by simpa using l0)).trans a4; have HC : Hid (Below wr.heap.size wr wc) := (by have := (Below.refl wr.heap.size wr).drew; exact this.trans gw); have HO : Hid (OS (InR wr.heap.size wc.heap.size) rb ll (gx D.cs k).1 wc) := os; have HW := hide (owns_out HX.out.own HC.out); have hS1 : w.heap.size + 1 + 1 < wc.heap.size := (by have := gw.size; simp at this; omega); have hS2 : wr.heap.size ≤ wc.heap.size := (by have := gw.size; simpa using this); clear os gw))
      all_goals (
        obtain ⟨la', lc', lb', hst⟩ := HST.out
        have HST2 := hide (hst.setC (P := w.heap.size + 1 + 1) (o := 4) (by omega) (.slice (some ⟨g, 0, none⟩) (k + 1) cp))
        have MP := HMG.out.put 2 rfl 4 (by simp) (.slice (some ⟨g, 0, none⟩) (k + 1) cp) (by omega) (by simp) (by simp <;> omega)
        simp only [List.set] at MP
        have HMP := hide MP
        clear hst MP HST
        go_wp2
        go_roundw
        case rel => exact ⟨k + 1, by omega, by go_num, _, _, _, _, _, HST2.out, HMP.out, by simp; simp at hz3; omega⟩
        case measure => simp [intOf]; omega)

    · have ek : k = A.xn := by omega
      subst ek
      obtain ⟨ya2, yc2, rfl, ox⟩ := HX.out.ox k4 (by omega)
      have M5 := HM.out.fact OX.loc ox
      have q6 := (M5.get 5 rfl).cell 6 rfl
      have q7 := (M5.get 5 rfl).cell 7 rfl
      clear HX HM hlt o4 p4
      go_wp2_with fail
      refine (l4Copy_R D.cz A.la A.ln A.lc D.ls _ (by omega) (hr.ls.below M5.bel (Nat.le_refl _))).mono ?_
      rintro e w4 ⟨ca, cc, rfl, own4, g4⟩
      have z4 := g4.size
      obtain ⟨ol, hlk⟩ := own_ol2 (by omega) k5 own4
      have N4 := (M5.below g4).fact OLK.loc ⟨ol, owns_base own4, fun g e => own4.lt g e⟩
      have u6 := (N4.get 4 rfl).cell 6 rfl
      have f6 := (N4.get 4 rfl).fz 6 (by simp)
      have u7 := (N4.get 4 rfl).cell 7 rfl
      have f7 := (N4.get 4 rfl).fz 7 (by simp)
      have S4_6 := N4.put 4 rfl 6 (by simp) (.int .i64 D.cz) (by omega) (by simp) (by simp <;> omega)
      have S4_7 := S4_6.put 4 rfl 7 (by simp) (.slice ca A.ln cc) (by omega) (by simp) (by simp <;> omega)
      have X4 := S4_7
      simp only [List.set] at X4
      have q9 := (X4.get 6 rfl).cell 9 rfl
      clear S4_7 S4_6 N4 M5 g4 own4 ol q6 q7 a4
      go_wp2_with fail
      refine (l1Ints_R A.oa A.on A.oc D.os _ (by omega) (hr.os.below X4.bel (Nat.le_refl _))).mono ?_
      rintro e w5 ⟨ob, oc, rfl, _, or5, g5⟩
      have z5 := g5.size
      simp only [World.size_setCell] at z5 or5
      have N5 := (X4.below g5).fact RW.loc or5
      have u9 := (N5.get 5 rfl).cell 9 rfl
      have f9 := (N5.get 5 rfl).fz 9 (by simp)
      have S5_9 := N5.put 5 rfl 9 (by simp) (.slice ob A.on oc) (by omega) (by simp) (by simp <;> omega)
      have X5 := S5_9
      simp only [List.set] at X5
      have q10 := (X5.get 7 rfl).cell 10 rfl
      have q10' := (N5.get 7 rfl).cell 10 rfl
      have l5a : w.heap.size < w5.heap.size := by omega
      have l5b : w.heap.size + 1 < w5.heap.size := by omega
      have l5c : w.heap.size + 1 + 1 < w5.heap.size := by omega
      clear S5_9 X4 g5 or5 q9 u6 f6 u7 f7
      by_cases hp : 0 < A.gn
      · obtain ⟨bg, og, hga, hbg, hcg⟩ := hr.gs.2 hp
        rw [hga] at q10 q10'
        have hown := World.ownsRow_lit (base := w5.heap.size) (e := 123) (size := 2) (w5.setCell ⟨w.heap.size + 1 + 1, 9, none⟩ (.slice ob A.on oc)) #[] 0 (by simp) (Nat.zero_le _) rfl
        simp only [World.size_setCell] at hown
        have HO := hide hown
        have HG0 := hide ((Below.refl (w5.setCell ⟨w.heap.size + 1 + 1, 9, none⟩ (.slice ob A.on oc)).heap.size (w5.setCell ⟨w.heap.size + 1 + 1, 9, none⟩ (.slice ob A.on oc))).alloc (Nat.le_refl _) (.cells #[] 123))
        have HN := hide (news_swd (w := (w5.setCell ⟨w.heap.size + 1 + 1, 9, none⟩ (.slice ob A.on oc)).alloc (.cells #[] 123)) (b := bg) (off := og) k7 (fun i hi => ((HG0.out).cell (p := ⟨bg, og + i, none⟩) (by have := X5.bel.size; show bg < _; omega)).trans ((X5.bel.cell (p := ⟨bg, og + i, none⟩) hbg).trans (hcg i hi))))
        have HL : Hid ((vsw D.gs).length = A.gn * 2) := by show _ = _; rw [length_vsw, k7]
        have HM1 : Hid (0 + A.gn ≤ maxLen) := by show _ ≤ _; unfold maxLen; omega
        have HM2 : Hid ((0 + A.gn) * 16 ≤ 140737488355328) := by show _ ≤ _; omega
        have HBS : Hid (w5.heap.size ≤ ((w5.setCell ⟨w.heap.size + 1 + 1, 9, none⟩ (.slice ob A.on oc)).alloc (.cells #[] 123)).heap.size) := by show _ ≤ _; simp
        have HX5 := hide X5
        clear hown hcg hga X5 N5
        go_wp2_with (first
          | (at_builtin; refine wpList_append_own _ rfl _ _ 51 rfl w5.heap.size 123 ig (.agg #[.int .i64 0, .int .i64 0]) 2 16 Tryz.underlying51 hig hzg0 hzg1 hzg2 rfl (by decide) _ 0 [] rfl HO.out ⟨bg, og, none⟩ A.gn A.gc (vsw D.gs) rfl HL.out HN.out ints_onew HM1.out HM2.out HBS.out ?_)
          | go_in)
        intro v' w6 hown' hgrow _
        have hown2 : w6.ownsRow w5.heap.size 123 2 v' A.gn (vsw D.gs) := by simpa using hown'
        obtain ⟨ga2, gc2, rfl, ogt⟩ := own_owd (by omega) k7 hown2
        have z6 := hgrow.size
        simp only [World.size_alloc, World.size_setCell] at z6
        have N6 := (HX5.out.grown HG0.out hgrow (B := w5.heap.size) (by omega) (by simp) (fun q e => by simp [Value.ownBlock] at e; omega) (by simp) (by simp <;> omega)).fact OWd.loc ogt
        clear HO HN hown' hown2 hgrow HX5 ogt HG0
        have u10 := (N6.get 6 rfl).cell 10 rfl
        have f10 := (N6.get 6 rfl).fz 10 (by simp)
        have S6_10 := N6.put 6 rfl 10 (by simp) (.slice ga2 A.gn gc2) (by omega) (by simp) (by simp <;> omega)
        have X6 := S6_10
        simp only [List.set] at X6
        have x0 := (X6.get 6 rfl).cell 0 rfl
        have r0 := (X6.get 7 rfl).cell 0 rfl
        have s0 := (X6.get 7 rfl).fz 0 (by simp)
        have x1 := (X6.get 6 rfl).cell 1 rfl
        have r1 := (X6.get 7 rfl).cell 1 rfl
        have s1 := (X6.get 7 rfl).fz 1 (by simp)
        have x2 := (X6.get 6 rfl).cell 2 rfl
        have r2 := (X6.get 7 rfl).cell 2 rfl
        have s2 := (X6.get 7 rfl).fz 2 (by simp)
        have x3 := (X6.get 6 rfl).cell 3 rfl
        have r3 := (X6.get 7 rfl).cell 3 rfl
        have s3 := (X6.get 7 rfl).fz 3 (by simp)
        have x4 := (X6.get 6 rfl).cell 4 rfl
        have r4 := (X6.get 7 rfl).cell 4 rfl
        have s4 := (X6.get 7 rfl).fz 4 (by simp)
        have x5 := (X6.get 6 rfl).cell 5 rfl
        have r5 := (X6.get 7 rfl).cell 5 rfl
        have s5 := (X6.get 7 rfl).fz 5 (by simp)
        have x6 := (X6.get 6 rfl).cell 6 rfl
        have r6 := (X6.get 7 rfl).cell 6 rfl
        have s6 := (X6.get 7 rfl).fz 6 (by simp)
        have x7 := (X6.get 6 rfl).cell 7 rfl
        have r7 := (X6.get 7 rfl).cell 7 rfl
        have s7 := (X6.get 7 rfl).fz 7 (by simp)
        have x8 := (X6.get 6 rfl).cell 8 rfl
        have r8 := (X6.get 7 rfl).cell 8 rfl
        have s8 := (X6.get 7 rfl).fz 8 (by simp)
        have x9 := (X6.get 6 rfl).cell 9 rfl
        have r9 := (X6.get 7 rfl).cell 9 rfl
        have s9 := (X6.get 7 rfl).fz 9 (by simp)
        have x10 := (X6.get 6 rfl).cell 10 rfl
        have r10 := (X6.get 7 rfl).cell 10 rfl
        have s10 := (X6.get 7 rfl).fz 10 (by simp)
        have R_0 := X6.put 7 rfl 0 (by simp) (.slice ra A.n rc) (by omega) (by simp) (by simp <;> omega)
        have R_1 := R_0.put 7 rfl 1 (by simp) (.slice xa A.tn xc) (by omega) (by simp) (by simp <;> omega)
        have R_2 := R_1.put 7 rfl 2 (by simp) (.slice ya A.dn yc) (by omega) (by simp) (by simp <;> omega)
        have R_3 := R_2.put 7 rfl 3 (by simp) (.slice ma A.wn mc) (by omega) (by simp) (by simp <;> omega)
        have R_4 := R_3.put 7 rfl 4 (by simp) (.slice ya2 A.xn yc2) (by omega) (by simp) (by simp <;> omega)
        have R_5 := R_4.put 7 rfl 5 (by simp) (.int .i64 D.ac) (by omega) (by simp) (by simp <;> omega)
        have R_6 := R_5.put 7 rfl 6 (by simp) (.int .i64 D.cz) (by omega) (by simp) (by simp <;> omega)
        have R_7 := R_6.put 7 rfl 7 (by simp) (.slice ca A.ln cc) (by omega) (by simp) (by simp <;> omega)
        have R_8 := R_7.put 7 rfl 8 (by simp) (.int .i64 D.dv) (by omega) (by simp) (by simp <;> omega)
        have R_9 := R_8.put 7 rfl 9 (by simp) (.slice ob A.on oc) (by omega) (by simp) (by simp <;> omega)
        have R_10 := R_9.put 7 rfl 10 (by simp) (.slice ga2 A.gn gc2) (by omega) (by simp) (by simp <;> omega)
        have HR := hide R_10
        clear R_10 R_9 R_8 R_7 R_6 R_5 R_4 R_3 R_2 R_1 R_0 X6 S6_10 N6
        go_wp2
        have HF := HR.out
        simp only [List.set] at HF
        have y0 := (HF.get 7 rfl).cell 0 rfl
        have y1 := (HF.get 7 rfl).cell 1 rfl
        have y2 := (HF.get 7 rfl).cell 2 rfl
        have y3 := (HF.get 7 rfl).cell 3 rfl
        have y4 := (HF.get 7 rfl).cell 4 rfl
        have y5 := (HF.get 7 rfl).cell 5 rfl
        have y6 := (HF.get 7 rfl).cell 6 rfl
        have y7 := (HF.get 7 rfl).cell 7 rfl
        have y8 := (HF.get 7 rfl).cell 8 rfl
        have y9 := (HF.get 7 rfl).cell 9 rfl
        have y10 := (HF.get 7 rfl).cell 10 rfl
        refine bodyPost_ret (v := .agg #[.slice ra A.n rc, .slice xa A.tn xc, .slice ya A.dn yc, .slice ma A.wn mc, .slice ya2 A.xn yc2, .int .i64 D.ac, .int .i64 D.cz, .slice ca A.ln cc, .int .i64 D.dv, .slice ob A.on oc, .slice ga2 A.gn gc2]) (by simp [results, Tryz.results21, go_sem, y0, y1, y2, y3, y4, y5, y6, y7, y8, y9, y10]) rfl ⟨⟨ra, A.n, rc, xa, A.tn, xc, ya, A.dn, yc, ma, A.wn, mc, ya2, A.xn, yc2, ca, A.ln, cc, ob, A.on, oc, ga2, A.gn, gc2⟩, rfl, ?_, HF.bel⟩
        refine ⟨fun i => if i = 0 then InR (w.heap.size + 1 + 1 + 1) (w1.heap.size) else if i = 1 then InR (w1.heap.size) (w2.heap.size) else if i = 2 then InR (w2.heap.size) (wr.heap.size) else if i = 3 then InR (wr.heap.size) (w4.heap.size) else if i = 4 then InR (w4.heap.size) (w5.heap.size) else if i = 5 then InR (w5.heap.size) (w6.heap.size) else fun _ => False, fun i k hk => ?_, fun i j k hij h1 h2 => ?_, by unfold szY; dsimp only; omega, hlk, ⟨(HF.get 5 rfl).1, HF.get 4 rfl, HF.get 3 rfl, (HF.get 2 rfl).1, (HF.get 1 rfl).1, HF.get 0 rfl⟩, HF.get 1 rfl, (HF.get 2 rfl).2, (HF.get 5 rfl).2⟩
        · simp only [World.size_setCell]
          dsimp only at hk
          (repeat (split at hk; (have e1 := hk.1; have e2 := hk.2; exact ⟨by omega, by omega⟩)))
          exact hk.elim
        · dsimp only at h1 h2
          (repeat (split at h1; (have e1 := h1.1; have e2 := h1.2; (repeat (split at h2; first | omega | (have e3 := h2.1; have e4 := h2.2; omega))); exact h2)))
          exact h1
      · have hg0 : A.gn = 0 := by omega
        have hgs0 : D.gs = [] := List.length_eq_zero_iff.1 (by omega)
        rw [hg0] at q10 q10'
        have Hg0 := hide hg0
        have Hgs := hide hgs0
        obtain ⟨ga, hga⟩ : ∃ x, x = A.ga := ⟨_, rfl⟩
        rw [← hga] at q10 q10'
        clear hga hgs0 hg0 N5
        cases ga
        all_goals (
          have u10 := (X5.get 5 rfl).cell 10 rfl
          have f10 := (X5.get 5 rfl).fz 10 (by simp)
          have S6_10 := X5.put 5 rfl 10 (by simp) (.slice (some ⟨w5.heap.size, 0, none⟩) 0 0) (by omega) (by simp) (by simp <;> omega)
          have X6 := S6_10
          simp only [List.set] at X6
          have x0 := (X6.get 5 rfl).cell 0 rfl
          have r0 := (X6.get 6 rfl).cell 0 rfl
          have s0 := (X6.get 6 rfl).fz 0 (by simp)
          have x1 := (X6.get 5 rfl).cell 1 rfl
          have r1 := (X6.get 6 rfl).cell 1 rfl
          have s1 := (X6.get 6 rfl).fz 1 (by simp)
          have x2 := (X6.get 5 rfl).cell 2 rfl
          have r2 := (X6.get 6 rfl).cell 2 rfl
          have s2 := (X6.get 6 rfl).fz 2 (by simp)
          have x3 := (X6.get 5 rfl).cell 3 rfl
          have r3 := (X6.get 6 rfl).cell 3 rfl
          have s3 := (X6.get 6 rfl).fz 3 (by simp)
          have x4 := (X6.get 5 rfl).cell 4 rfl
          have r4 := (X6.get 6 rfl).cell 4 rfl
          have s4 := (X6.get 6 rfl).fz 4 (by simp)
          have x5 := (X6.get 5 rfl).cell 5 rfl
          have r5 := (X6.get 6 rfl).cell 5 rfl
          have s5 := (X6.get 6 rfl).fz 5 (by simp)
          have x6 := (X6.get 5 rfl).cell 6 rfl
          have r6 := (X6.get 6 rfl).cell 6 rfl
          have s6 := (X6.get 6 rfl).fz 6 (by simp)
          have x7 := (X6.get 5 rfl).cell 7 rfl
          have r7 := (X6.get 6 rfl).cell 7 rfl
          have s7 := (X6.get 6 rfl).fz 7 (by simp)
          have x8 := (X6.get 5 rfl).cell 8 rfl
          have r8 := (X6.get 6 rfl).cell 8 rfl
          have s8 := (X6.get 6 rfl).fz 8 (by simp)
          have x9 := (X6.get 5 rfl).cell 9 rfl
          have r9 := (X6.get 6 rfl).cell 9 rfl
          have s9 := (X6.get 6 rfl).fz 9 (by simp)
          have x10 := (X6.get 5 rfl).cell 10 rfl
          have r10 := (X6.get 6 rfl).cell 10 rfl
          have s10 := (X6.get 6 rfl).fz 10 (by simp)
          have R_0 := X6.put 6 rfl 0 (by simp) (.slice ra A.n rc) (by omega) (by simp) (by simp <;> omega)
          have R_1 := R_0.put 6 rfl 1 (by simp) (.slice xa A.tn xc) (by omega) (by simp) (by simp <;> omega)
          have R_2 := R_1.put 6 rfl 2 (by simp) (.slice ya A.dn yc) (by omega) (by simp) (by simp <;> omega)
          have R_3 := R_2.put 6 rfl 3 (by simp) (.slice ma A.wn mc) (by omega) (by simp) (by simp <;> omega)
          have R_4 := R_3.put 6 rfl 4 (by simp) (.slice ya2 A.xn yc2) (by omega) (by simp) (by simp <;> omega)
          have R_5 := R_4.put 6 rfl 5 (by simp) (.int .i64 D.ac) (by omega) (by simp) (by simp <;> omega)
          have R_6 := R_5.put 6 rfl 6 (by simp) (.int .i64 D.cz) (by omega) (by simp) (by simp <;> omega)
          have R_7 := R_6.put 6 rfl 7 (by simp) (.slice ca A.ln cc) (by omega) (by simp) (by simp <;> omega)
          have R_8 := R_7.put 6 rfl 8 (by simp) (.int .i64 D.dv) (by omega) (by simp) (by simp <;> omega)
          have R_9 := R_8.put 6 rfl 9 (by simp) (.slice ob A.on oc) (by omega) (by simp) (by simp <;> omega)
          have R_10 := R_9.put 6 rfl 10 (by simp) (.slice (some ⟨w5.heap.size, 0, none⟩) 0 0) (by omega) (by simp) (by simp <;> omega)
          have HR := hide (R_10.below ((Below.refl _ _).alloc (Nat.le_refl _) (.cells #[] 123)))
          clear R_10 R_9 R_8 R_7 R_6 R_5 R_4 R_3 R_2 R_1 R_0 X6 S6_10 X5
          go_wp2
          have HF := HR.out
          simp only [List.set] at HF
          have y0 := (HF.get 6 rfl).cell 0 rfl
          have y1 := (HF.get 6 rfl).cell 1 rfl
          have y2 := (HF.get 6 rfl).cell 2 rfl
          have y3 := (HF.get 6 rfl).cell 3 rfl
          have y4 := (HF.get 6 rfl).cell 4 rfl
          have y5 := (HF.get 6 rfl).cell 5 rfl
          have y6 := (HF.get 6 rfl).cell 6 rfl
          have y7 := (HF.get 6 rfl).cell 7 rfl
          have y8 := (HF.get 6 rfl).cell 8 rfl
          have y9 := (HF.get 6 rfl).cell 9 rfl
          have y10 := (HF.get 6 rfl).cell 10 rfl
          refine bodyPost_ret (v := .agg #[.slice ra A.n rc, .slice xa A.tn xc, .slice ya A.dn yc, .slice ma A.wn mc, .slice ya2 A.xn yc2, .int .i64 D.ac, .int .i64 D.cz, .slice ca A.ln cc, .int .i64 D.dv, .slice ob A.on oc, .slice (some ⟨w5.heap.size, 0, none⟩) 0 0]) (by simp [results, Tryz.results21, go_sem, y0, y1, y2, y3, y4, y5, y6, y7, y8, y9, y10]) rfl ⟨⟨ra, A.n, rc, xa, A.tn, xc, ya, A.dn, yc, ma, A.wn, mc, ya2, A.xn, yc2, ca, A.ln, cc, ob, A.on, oc, some ⟨w5.heap.size, 0, none⟩, 0, 0⟩, rfl, ?_, HF.bel⟩
          refine ⟨fun i => if i = 0 then InR (w.heap.size + 1 + 1 + 1) (w1.heap.size) else if i = 1 then InR (w1.heap.size) (w2.heap.size) else if i = 2 then InR (w2.heap.size) (wr.heap.size) else if i = 3 then InR (wr.heap.size) (w4.heap.size) else if i = 4 then InR (w4.heap.size) (w5.heap.size) else if i = 5 then InR (w5.heap.size) (w5.heap.size + 1) else fun _ => False, fun i k hk => ?_, fun i j k hij h1 h2 => ?_, by unfold szY; dsimp only; omega, hlk, ⟨(HF.get 4 rfl).1, HF.get 3 rfl, HF.get 2 rfl, (HF.get 1 rfl).1, (HF.get 0 rfl).1, by rw [Hgs.out]; exact OWd.nil _ _ _⟩, HF.get 0 rfl, (HF.get 1 rfl).2, (HF.get 4 rfl).2⟩
          · simp only [World.size_alloc, World.size_setCell]
            dsimp only at hk
            (repeat (split at hk; (have e1 := hk.1; have e2 := hk.2; exact ⟨by omega, by omega⟩)))
            exact hk.elim
          · dsimp only at h1 h2
            (repeat (split at h1; (have e1 := h1.1; have e2 := h1.2; (repeat (split at h2; first | omega | (have e3 := h2.1; have e4 := h2.2; omega))); exact h2)))
            exact h1)

end Go.Proofs.YtgkjmeogdomgmaaGreat
