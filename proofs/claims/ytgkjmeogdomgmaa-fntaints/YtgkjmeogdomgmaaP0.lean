import Derived.Test.YtgkjmeogdomgmaaLbDrawM2
import Derived.Test.YtgkjmeogdomgmaaSep
import Derived.Test.YtgkjmeogdomgmaaAddP
import Derived.Test.YtgkjmeogdomgmaaL2EnterF
import Derived.Test.YtgkjmeogdomgmaaL3CopyR
import Derived.Test.YtgkjmeogdomgmaaDropP
import Derived.Test.YtgkjmeogdomgmaaOpenTab
import Derived.Deep.AppendLies
import Derived.WalkKit
import Derived.ProofKit
import Derived.OpenShut
import Derived.ShutString
import Derived.ChangeOld
import Derived.Below
import Derived.WalkSpells
import Derived.Deep.QuietTactic
import Derived.BigQuiet
import Derived.Deep.RegionWith
import Derived.Deep.WholeRow
import Derived.Deep.DeepCutAuto
import Derived.Deep.RegionHeld2
import Derived.Deep.AppendLies
import Derived.Deep.RegionLaw
namespace Go.Proofs.Ytgkjmeogdomgmaa
open Go.ChangeShapes Go.WideShapes Go.ChangeAt Go.RowKit

theorem pick3R {x y z : Int} {j : Nat} (hj : j < 3) (hx : 0 ≤ x ∧ x ≤ 5) (hy : 0 ≤ y ∧ y ≤ 5) (hz : 0 ≤ z ∧ z ≤ 5) : 0 ≤ gt [x, y, z] j ∧ gt [x, y, z] j ≤ 5 := by
  rcases (by omega : j = 0 ∨ j = 1 ∨ j = 2) with rfl | rfl | rfl
  · exact hx
  · exact hy
  · exact hz

theorem lit3s {wr : World} {t : TypeId} {x y z : Int} : ∀ i, i < 3 → (wr.alloc (.cells #[.int .i64 x, .int .i64 y, .int .i64 z] t)).cell? ⟨wr.heap.size, i, none⟩ = some (.int .i64 (gt [x, y, z] i)) := by
  intro i hi
  rw [World.cell?_alloc_new]
  rcases (by omega : i = 0 ∨ i = 1 ∨ i = 2) with rfl | rfl | rfl <;> rfl

theorem blk_lit4 (U : World) (x y z u : Int) (t : TypeId) : Blk (U.alloc (.cells #[.int .i64 x, .int .i64 y, .int .i64 z, .int .i64 u] t)) U.heap.size [x, y, z, u] := by
  refine ⟨by simp, fun i hi => ?_, fun i => by simp⟩
  simp at hi
  rw [World.cell?_alloc_new]
  rcases (by omega : i = 0 ∨ i = 1 ∨ i = 2 ∨ i = 3) with rfl | rfl | rfl | rfl <;> rfl

theorem fault4 {x y z u : Int} (hx : 0 ≤ x ∧ x ≤ 5) (hy : 0 ≤ y ∧ y ≤ 5) (hz : 0 ≤ z ∧ z ≤ 5) (hu : 0 ≤ u ∧ u ≤ 5) : fault [x, y, z, u] = 0 := by
  simp [fault, okI]
  omega

/-- what l3Some gives: a right label. -/
def DrewSo (p : Nat) (a : Option Addr) (len cap t : Nat) (w : World) (e : Ending) (w' : World) : Prop :=
  ∃ (ra : Option Addr) (rc : Nat) (zs : List Int) (t' : Nat), e = .returned (.agg #[.slice ra 4 rc]) ∧ OSl w' w.heap.size w'.heap.size ra 4 zs ∧ fault zs = 0 ∧ Src w' p a len cap t' ∧ t' ≤ t + 3 ∧ Outside p (p + 1) w w'

set_option maxRecDepth 100000 in
set_option maxHeartbeats 4000000 in
theorem l3Some_calls (p : Nat) (a : Option Addr) (len cap t : Nat) (st : Bool) (w : World) (ht : t ≤ 990000) (hs : Src w p a len cap t) :
    Calls Try.prog 121 #[.pointer (some ⟨p, 0, none⟩), .bool st] w (DrewSo p a len cap t w) := by
  have hp : p < w.heap.size := hs.1
  have M0 := (Mo.start p w).alloc1 hp (.slice none 0 0) 41
  have al0 := (((Below.refl w.heap.size w).alloc (Nat.le_refl _) (.cells #[.slice none 0 0] 41)).alloc (by simp) (.cells #[.int .i64 2, .int .i64 2, .int .i64 4] 2))
  have s0 := hs.below al0
  have M0' := M0.below ((Below.refl _ _).alloc (Nat.le_refl _) (.cells #[.int .i64 2, .int .i64 2, .int .i64 4] 2))
  have l0 := @lit3s (w.alloc (.cells #[.slice none 0 0] 41)) 2 2 2 4
  simp only [World.size_alloc] at l0
  clear M0 al0
  go_enter Try.func121, Try.ntmps121
  go_wp2_with fail
  refine (l1PickM_calls p a len cap t (w.heap.size + 1) 3 3 [2, 2, 4] _ (by omega) (by omega) (by omega) s0 (by omega) (by simp) rfl l0).mono ?_
  rintro e w1 ⟨j, hj, rfl, s1, o1⟩
  have hx := pick3R (x := 2) (y := 2) (z := 4) hj (by omega) (by omega) (by omega)
  generalize gt [2, 2, 4] j = x at hx
  have M1 := M0'.next o1
  have hp1 := s1.1
  have al1 := (Below.refl w1.heap.size w1).alloc (Nat.le_refl _) (.cells #[.int .i64 2, .int .i64 2, .int .i64 3] 2)
  have s1' := s1.below al1
  have M1' := M1.below al1
  clear M0' s0 l0 o1 s1 M1 al1
  go_wp2_with fail
  refine (l1PickM_calls p a len cap (t + 1) w1.heap.size 3 3 [2, 2, 3] _ (by omega) (by omega) (by omega) s1' hp1 (by simp) rfl lit3s).mono ?_
  rintro e w2 ⟨j2, hj2, rfl, s2, o2⟩
  have hy := pick3R (x := 2) (y := 2) (z := 3) hj2 (by omega) (by omega) (by omega)
  generalize gt [2, 2, 3] j2 = y at hy
  have M2 := M1'.next o2
  have z2 := o2.size
  simp only [World.size_alloc] at z2
  have hR := M2.lt 0 rfl
  have blk := blk_lit4 w2 x y 2 2 2
  have al2 := (((Below.refl w2.heap.size w2).alloc (Nat.le_refl _) (.cells #[.int .i64 x, .int .i64 y, .int .i64 2, .int .i64 2] 2)).alloc (by simp) (.cells #[.slice (some ⟨w2.heap.size, 0, none⟩) 4 4] 41))
  have blk' := blk.below ((Below.refl _ _).alloc (Nat.le_refl _) (.cells #[.slice (some ⟨w2.heap.size, 0, none⟩) 4 4] 41))
  have s2' := s2.below al2
  have M2' := M2.below al2
  obtain ⟨X, hX⟩ : ∃ X : World, X = ((w2.alloc (.cells #[.int .i64 x, .int .i64 y, .int .i64 2, .int .i64 2] 2)).alloc (.cells #[.slice (some ⟨w2.heap.size, 0, none⟩) 4 4] 41)) := ⟨_, rfl⟩
  have v0 : X.cell? ⟨w2.heap.size + 1, 0, none⟩ = some (.slice (some ⟨w2.heap.size, 0, none⟩) 4 4) := by rw [hX]; go_simp
  have hXz : X.heap.size = w2.heap.size + 1 + 1 := by rw [hX]; simp
  rw [← hX] at blk' s2' M2'
  have HX := hide hX
  clear M1' s1' o2 M2 s2 al2 blk hX
  cases st with
  | false =>
    have d0 := M2'.cell 0 rfl
    have e0 := M2'.fz 0 rfl
    have HO := hide M2'.out
    have HK := hide blk'
    have HS := hide s2'
    clear M2' s2' blk'
    go_upto_region 2 with fail
    rw [← HX.out]
    go_wp2
    exact bodyPost_ret (v := .agg #[.slice (some ⟨w2.heap.size, 0, none⟩) 4 4]) (by simp [results, Try.results121, go_sem, d0]) rfl ⟨_, _, [x, y, 2, 2], t + 1 + 1, rfl, OSl.ofBlk (HK.out.setCell (by simp; omega) _) (by omega) rfl (by omega), fault4 hx hy (by omega) (by omega), HS.out.setCell (by exact hp) _, by omega, HO.out.setNew (Nat.le_refl _) _⟩
  | true =>
    go_upto_region 2 with fail
    rw [← HX.out]
    go_wp2_with fail
    refine (l1Chance_calls p a len cap (t + 1 + 1) 4 _ (by omega) (by omega) (by omega) s2').mono ?_
    rintro e w3 ⟨ch, rfl, s3, o3⟩
    have M3 := M2'.next o3
    have blk3 := blk'.outside o3 (by omega)
    have v3 := o3.cell (q := ⟨w2.heap.size + 1, 0, none⟩) (by show w2.heap.size + 1 < _; omega) (by show p + 1 ≤ w2.heap.size + 1; omega) v0
    have d0 := M3.cell 0 rfl
    have e0 := M3.fz 0 rfl
    have b0 : w3.cell? ⟨w2.heap.size, 0, none⟩ = some (.int .i64 x) := blk3.2.1 0 (by simp)
    have bf := blk3.2.2 0
    have HO := hide M3.out
    have HK := hide blk3
    have HS := hide s3
    have z3 := o3.size
    have hV : w2.heap.size ≠ w2.heap.size + 1 := by omega
    have hR2 : w2.heap.size ≠ w.heap.size := by omega
    clear M2' s2' blk' v0 M3 o3 blk3 s3 HX
    cases ch with
    | false =>
      go_wp2
      exact bodyPost_ret (v := .agg #[.slice (some ⟨w2.heap.size, 0, none⟩) 4 4]) (by simp [results, Try.results121, go_sem, d0]) rfl ⟨_, _, [x, y, 2, 2], _, rfl, OSl.ofBlk (HK.out.setCell (by simp; omega) _) (by omega) rfl (by omega), fault4 hx hy (by omega) (by omega), HS.out.setCell (by exact hp) _, by omega, HO.out.setNew (Nat.le_refl _) _⟩
    | true =>
      have xu : (w3.setCell ⟨w2.heap.size, 0, none⟩ (.int .i64 0)).cell? ⟨w2.heap.size + 1, 0, none⟩ = some (.slice (some ⟨w2.heap.size, 0, none⟩) 4 4) := by
        rw [World.cell?_setCell_other _ _ _ _ (fun e => hV (by injection e with e1))]; exact v3
      have ru : (w3.setCell ⟨w2.heap.size, 0, none⟩ (.int .i64 0)).cell? ⟨w.heap.size, 0, none⟩ = some (.slice none 0 0) := by
        rw [World.cell?_setCell_other _ _ _ _ (fun e => hR2 (by injection e with e1))]; exact d0
      have HK2 := hide (Blk.store (x := 0) HK.out (show 0 < [x, y, 2, 2].length by simp))
      have HS2 := hide (HS.out.setCell (q := ⟨w2.heap.size, 0, none⟩) (by show p < w2.heap.size; omega) (.int .i64 0))
      have HO2 := hide (HO.out.setNew (q := ⟨w2.heap.size, 0, none⟩) (by show w.heap.size ≤ w2.heap.size; omega) (.int .i64 0))
      go_wp2
      exact bodyPost_ret (v := .agg #[.slice (some ⟨w2.heap.size, 0, none⟩) 4 4]) (by simp [results, Try.results121, go_sem, ru]) rfl ⟨_, _, [0, y, 2, 2], _, rfl, OSl.ofBlk (HK2.out.setCell (by simp; omega) _) (by omega) rfl (by omega), fault4 (by omega) hy (by omega) (by omega), HS2.out.setCell (by exact hp) _, by omega, HO2.out.setNew (Nat.le_refl _) _⟩

/-- the cells of a block, from the first on. -/
def Cs (P : Nat) (vs : List Value) (w : World) : Prop := P < w.heap.size ∧ ∀ i, i < vs.length → w.cell? ⟨P, i, none⟩ = some (vs.getD i undef) ∧ w.frozen? ⟨P, i, none⟩ = false

theorem Cs.loc {P : Nat} {vs : List Value} : Loc (InR P (P + 1)) (Cs P vs) := fun w w' hk h => by
  have e := hk P ⟨Nat.le_refl _, by omega⟩ h.1
  have hN' : P < w'.heap.size := by
    have h1 := h.1
    rw [Array.getElem?_eq_getElem h1] at e
    exact (Array.getElem?_eq_some_iff.1 e).1
  exact ⟨hN', fun i hi => ⟨(World.cell?_of_block (a := ⟨P, i, none⟩) e).trans (h.2 i hi).1, (World.frozen?_of_block (a := ⟨P, i, none⟩) e).trans (h.2 i hi).2⟩⟩

theorem Cs.cell {P : Nat} {vs : List Value} {w : World} (h : Cs P vs w) (i : Nat) {v : Value} (hv : vs[i]? = some v) : w.cell? ⟨P, i, none⟩ = some v := by
  obtain ⟨hi, e⟩ := List.getElem?_eq_some_iff.1 hv
  rw [(h.2 i hi).1]
  simp [hi, e]

theorem Cs.fz {P : Nat} {vs : List Value} {w : World} (h : Cs P vs w) (i : Nat) (hi : i < vs.length) : w.frozen? ⟨P, i, none⟩ = false := (h.2 i hi).2

theorem Cs.set {P : Nat} {vs : List Value} {w : World} (h : Cs P vs w) (i : Nat) (hi : i < vs.length) (v : Value) : Cs P (vs.set i v) (w.setCell ⟨P, i, none⟩ v) := by
  refine ⟨by simpa using h.1, fun j hj => ?_⟩
  rw [List.length_set] at hj
  refine ⟨?_, by simpa using (h.2 j hj).2⟩
  by_cases e : j = i
  · subst e
    rw [World.cell?_setCell_same _ _ _ (h.2 j hj).1]
    simp [hj]
  · rw [World.cell?_setCell_other _ _ _ _ (fun h => by injection h with _ h2; exact e h2.symm), (h.2 j hj).1]
    simp [Ne.symm e]

theorem Cs.alloc (w : World) (vs : List Value) (t : TypeId) : Cs w.heap.size vs (w.alloc (.cells vs.toArray t)) :=
  ⟨by simp, fun i hi => ⟨by rw [World.cell?_alloc_new]; simp [hi], by simp⟩⟩

theorem Mm.allocC {w u : World} {cs : List (Nat × Nat × Value)} {fs : List (Nat × Nat × (World → Prop))} (h : Mm w u cs fs) (vs : List Value) (t : TypeId) : Mm w (u.alloc (.cells vs.toArray t)) cs ((u.heap.size, u.heap.size + 1, Cs u.heap.size vs) :: fs) :=
  (h.below ((Below.refl _ _).alloc (Nat.le_refl _) (.cells vs.toArray t))).fact Cs.loc (Cs.alloc u vs t)

/-- a cell of a block among the facts is written. -/
theorem Mm.put {w u : World} {cs : List (Nat × Nat × Value)} {fs : List (Nat × Nat × (World → Prop))} (h : Mm w u cs fs) (i : Nat) {P : Nat} {vs : List Value} (hf : fs[i]? = some (P, P + 1, Cs P vs)) (j : Nat) (hj : j < vs.length) (v : Value) (hb : w.heap.size ≤ P)
    (hc : ∀ c ∈ cs, c.1 ≠ P) (hd : ∀ f ∈ fs.eraseIdx i, P < f.1 ∨ f.2.1 ≤ P) : Mm w (u.setCell ⟨P, j, none⟩ v) cs (fs.set i (P, P + 1, Cs P (vs.set j v))) := by
  have h0 := h.get i hf
  refine ⟨h.bel.setCell hb v, fun c k => ?_, fun f k => ?_⟩
  · have h1 := h.cells c k
    refine ⟨by simpa using h1.1, ?_, by simpa using h1.2.2⟩
    rw [World.cell?_setCell_other _ _ _ _ (fun e => by injection e with e1 e2; exact hc c k e1.symm)]
    exact h1.2.1
  · rcases mem_set_erase fs i _ f k with rfl | k
    · exact ⟨Cs.loc, h0.set j hj v⟩
    · have h1 := h.facts f (List.mem_of_mem_eraseIdx k)
      refine ⟨h1.1, h1.1.setC h1.2 (fun e => ?_) v⟩
      have a1 := e.1
      have a2 := e.2
      have := hd f k
      simp only at a1 a2
      omega

/-- owned tables whose row of tags has its room: three sets of blocks, apart. -/
def OTW (S : Nat → Prop) (a : Option Addr) (n : Nat) (ss : List (Int × List Int)) (ta : Option Addr) (tn tc : Nat) (ts : List Int) (da : Option Addr) (dn : Nat) (ds : List Int) (w : World) : Prop :=
  ∃ S1 S2 S3 : Nat → Prop, (∀ k, S1 k → S k) ∧ (∀ k, S2 k → S k) ∧ (∀ k, S3 k → S k) ∧ (∀ k, S1 k → ¬ S2 k) ∧ (∀ k, S1 k → ¬ S3 k) ∧ (∀ k, S2 k → ¬ S3 k) ∧ OR S1 a n ss w ∧ RW S2 ta tn tc ts w ∧ OS S3 da dn ds w

theorem OTW.nil (S : Nat → Prop) (w : World) : OTW S none 0 [] none 0 0 [] none 0 [] w :=
  ⟨fun _ => False, fun _ => False, fun _ => False, fun _ h => h.elim, fun _ h => h.elim, fun _ h => h.elim, fun _ h => h.elim, fun _ h => h.elim, fun _ h => h.elim, ⟨rfl, by simp [lenSum], .inl rfl⟩, RW.nil _ _ rfl, ⟨rfl, by omega, .inl rfl⟩⟩

theorem OTW.ofS {S1 S2 S3 S : Nat → Prop} {a : Option Addr} {n : Nat} {ss : List (Int × List Int)} {ta : Option Addr} {tn tc : Nat} {ts : List Int} {da : Option Addr} {dn : Nat} {ds : List Int} {w : World} (o1 : OR S1 a n ss w) (o2 : RW S2 ta tn tc ts w) (o3 : OS S3 da dn ds w)
    (h1 : ∀ k, S1 k → S k) (h2 : ∀ k, S2 k → S k) (h3 : ∀ k, S3 k → S k) (d12 : ∀ k, S1 k → ¬ S2 k) (d13 : ∀ k, S1 k → ¬ S3 k) (d23 : ∀ k, S2 k → ¬ S3 k) : OTW S a n ss ta tn tc ts da dn ds w := ⟨S1, S2, S3, h1, h2, h3, d12, d13, d23, o1, o2, o3⟩

theorem RW.grown {S : Nat → Prop} {n cp g : Nat} {ts : List Int} {x : Int} {w : World} (hos : OS S (some ⟨g, 0, none⟩) (n + 1) (ts ++ [x]) w) (hown : w.ownsRow 0 2 1 (.slice (some ⟨g, 0, none⟩) (n + 1) cp) (n + 1) (ts.map (Value.int .i64) ++ [.int .i64 x])) : RW S (some ⟨g, 0, none⟩) (n + 1) cp (ts ++ [x]) w := by
  refine ⟨hos, by rw [List.map_append]; exact hown, fun g' hg => ?_⟩
  simp [Value.ownBlock] at hg
  subst hg
  rcases hos.2.2 with h | ⟨b, e, hb, _⟩
  · omega
  · injection e with e; injection e with e; rw [e]; exact hb

set_option maxRecDepth 100000 in
set_option maxHeartbeats 2000000 in
theorem specAddTagW_calls (a : Option Addr) (n c : Nat) (ss : List (Int × List Int)) (ta : Option Addr) (tn tc : Nat) (ts : List Int) (da : Option Addr) (dn dc : Nat) (ds : List Int) (b : Option Addr) (lb cb : Nat) (zs : List Int) (w : World) (hrt : RT w a n ss ta tn ts da dn ds) (hlb : lb ≤ maxLen) (hy : Sl w b lb zs) :
    Calls Try.prog 93 #[.agg #[.slice a n c, .slice ta tn tc, .slice da dn dc], .agg #[.slice b lb cb]] w fun e w' => ∃ ra rn rc xa xn xc ya yn yc, e = .returned (.agg #[.int .i64 (agC ss ts ds zs), .int .i64 (agV ss ts ds zs), .slice ra rn rc, .slice xa xn xc, .slice ya yn yc]) ∧
      OTW (InR w.heap.size w'.heap.size) ra rn (agS ss ts ds zs) xa xn xc (agT ss ts ds zs) ya yn (agD ss ts ds zs) w' ∧ Below w.heap.size w w' := by
  have M0 := (((Mm.start w).alloc3 (.slice a n c) (.slice ta tn tc) (.slice da dn dc) 36).alloc1 (.slice b lb cb) 41).alloc5 (.int .i64 0) (.int .i64 0) (.slice none 0 0) (.slice none 0 0) (.slice none 0 0) 38
  simp only [World.size_alloc] at M0
  have hrt0 := hrt.below M0.bel (Nat.le_refl _)
  have hy0 := hy.below M0.bel (Nat.le_refl _)
  have HTL := hide hrt.2.2.2.1.1
  have HDL := hide hrt.2.2.2.2.2.1
  have hsl1 : ss.length ≤ n := Nat.le_of_eq hrt.2.1.1
  have hsl2 : n ≤ ss.length := Nat.le_of_eq hrt.2.1.1.symm
  have htl1 : ts.length ≤ tn := Nat.le_of_eq HTL.out
  have htl2 : tn ≤ ts.length := Nat.le_of_eq HTL.out.symm
  have hdl1 : ds.length ≤ dn := Nat.le_of_eq HDL.out
  have hdl2 : dn ≤ ds.length := Nat.le_of_eq HDL.out.symm
  go_enter Try.func93, Try.ntmps93
  go_wp2_with fail
  refine (l3Asked_calls _ _ a n c ss ta tn tc ts da dn dc ds b lb cb zs _ (M0.lt 6 rfl) (M0.cell 6 rfl) (M0.cell 7 rfl) (M0.cell 8 rfl) hrt0 (M0.lt 5 rfl) (M0.cell 5 rfl) hlb hy0).mono ?_
  rintro e w1 ⟨rfl, g1⟩
  have M1 := M0.below g1
  have hrt1 := hrt0.below g1 (Nat.le_refl _)
  have hy1 := hy0.below g1 (Nat.le_refl _)
  have z1 := g1.size
  simp only [World.size_alloc] at z1
  clear M0 g1 hrt0 hy0
  by_cases hf : otF ss ts ds zs = 0
  rotate_left
  · have HC : Hid (agC ss ts ds zs = otF ss ts ds zs) := if_neg hf
    have hf' : agC ss ts ds zs ≠ 0 := by rw [HC.out]; exact hf
    have HV : Hid (agV ss ts ds zs = 0) := if_neg hf'
    have HS : Hid (agS ss ts ds zs = []) := if_neg hf'
    have HT : Hid (agT ss ts ds zs = []) := if_neg hf'
    have HD : Hid (agD ss ts ds zs = []) := if_neg hf'
    have e2 : (otF ss ts ds zs != 0) = true := by simpa using hf
    clear hf' hf hrt1 hy1
    go_wp2_with fail
    refine (l3Bad_calls _ _).mono ?_
    rintro e w2 ⟨rfl, g2⟩
    have M2 := M1.below g2
    have c0 := M2.cell 0 rfl
    have c1 := M2.cell 1 rfl
    have c2 := M2.cell 2 rfl
    have c3 := M2.cell 3 rfl
    have c4 := M2.cell 4 rfl
    have f0 := M2.fz 0 rfl
    have f1 := M2.fz 1 rfl
    have f2 := M2.fz 2 rfl
    have f3 := M2.fz 3 rfl
    have f4 := M2.fz 4 rfl
    have HB := hide M2.bel
    clear M1 M2 g2
    go_wp2
    refine bodyPost_ret (v := .agg #[.int .i64 (otF ss ts ds zs), .int .i64 0, .slice none 0 0, .slice none 0 0, .slice none 0 0]) (by simp [results, Try.results93, go_sem, c0, c1, c2, c3, c4]) rfl ⟨_, _, _, _, _, _, _, _, _, by rw [HC.out, HV.out], ?_, below_set5 HB.out (by omega) _ _ _ _ _⟩
    rw [HS.out, HT.out, HD.out]
    exact OTW.nil _ _
  obtain ⟨hf1, hz⟩ := otF_zero hf
  obtain rfl : lb = 4 := by have := fault_len hz; have := hy.1; omega
  obtain ⟨hr, hmy, _, _, _⟩ := tabF_zero hf1
  have hml := many_len hmy
  have good := good_of hr
  have hsum := good_sum good
  have lc1 := M1.cell 5 rfl
  rw [hf]
  clear hf1
  go_wp2_with fail
  refine (l1ThingO_calls (w.heap.size + 1) 0 b 4 cb zs _ hlb lc1 hy1).mono ?_
  rintro e w1' ⟨rfl, rfl⟩
  by_cases ht : thing0 zs = true
  rotate_left
  · have htf : thing0 zs = false := by simpa using ht
    have HC : Hid (agC ss ts ds zs = 1) := by show _ = _; unfold agC; rw [if_pos hf, if_neg ht]
    have hf' : agC ss ts ds zs ≠ 0 := by rw [HC.out]; decide
    have HV : Hid (agV ss ts ds zs = 0) := if_neg hf'
    have HS : Hid (agS ss ts ds zs = []) := if_neg hf'
    have HT : Hid (agT ss ts ds zs = []) := if_neg hf'
    have HD : Hid (agD ss ts ds zs = []) := if_neg hf'
    rw [htf]
    clear hf' hf ht htf hrt1 hy1 hz hr lc1
    go_wp2_with fail
    refine (l3Bad_calls _ _).mono ?_
    rintro e w2 ⟨rfl, g2⟩
    have M2 := M1.below g2
    have c0 := M2.cell 0 rfl
    have c1 := M2.cell 1 rfl
    have c2 := M2.cell 2 rfl
    have c3 := M2.cell 3 rfl
    have c4 := M2.cell 4 rfl
    have f0 := M2.fz 0 rfl
    have f1 := M2.fz 1 rfl
    have f2 := M2.fz 2 rfl
    have f3 := M2.fz 3 rfl
    have f4 := M2.fz 4 rfl
    have HB := hide M2.bel
    clear M1 M2 g2
    go_wp2
    refine bodyPost_ret (v := .agg #[.int .i64 1, .int .i64 0, .slice none 0 0, .slice none 0 0, .slice none 0 0]) (by simp [results, Try.results93, go_sem, c0, c1, c2, c3, c4]) rfl ⟨_, _, _, _, _, _, _, _, _, by rw [HC.out, HV.out], ?_, below_set5 HB.out (by omega) _ _ _ _ _⟩
    rw [HS.out, HT.out, HD.out]
    exact OTW.nil _ _
  have HC : Hid (agC ss ts ds zs = if tn = 6 then 7 else etC ss zs) := by show _ = _; unfold agC; rw [if_pos hf, if_pos ht, HTL.out]
  rw [ht]
  have k0 := M1.cell 6 rfl
  have k1 := M1.cell 7 rfl
  have k2 := M1.cell 8 rfl
  have Hz := hide hz
  clear hf ht hz hr lc1
  go_wp2_with fail
  refine (l3Copy_R a n c ss ta tn tc ts da dn dc ds _ (by omega) (by omega) (by omega) hrt1).mono ?_
  rintro e w2 ⟨ra, rc, xa, xc, ya, yc, rfl, L2, g2⟩
  have M2 := (M1.below g2).alloc3 (.slice ra n rc) (.slice xa tn xc) (.slice ya dn yc) 36
  have z2 := g2.size
  have al := (Below.refl w2.heap.size w2).alloc (Nat.le_refl _) (.cells #[.slice ra n rc, .slice xa tn xc, .slice ya dn yc] 36)
  obtain ⟨B1, B2, B3, B4, b1, b2, b3, b4, b5, o1, o2, o3⟩ := L2
  obtain ⟨o1a, ⟨xs, hxs⟩, hvT⟩ := RG.loc.below al o1
  have o2a := RW.loc.below al o2
  have o3a := OS.loc.below al o3.1
  have hy2 := (hy1.below g2 (Nat.le_refl _)).below al (Nat.le_refl _)
  have s0 := M2.cell 0 rfl
  have s1 := M2.cell 1 rfl
  have s2 := M2.cell 2 rfl
  have t0 := M2.fz 0 rfl
  have t1 := M2.fz 1 rfl
  have lc2 := M2.cell 8 rfl
  have zP : w2.heap.size < (w2.alloc (.cells #[.slice ra n rc, .slice xa tn xc, .slice ya dn yc] 36)).heap.size := by simp
  clear g2 al o1 o2 o3 M1 k0 k1 k2 hrt1 hy1
  by_cases h6 : tn = 6
  · have HC7 : Hid (agC ss ts ds zs = 7) := by show _ = _; rw [HC.out, if_pos h6]
    have hf' : agC ss ts ds zs ≠ 0 := by rw [HC7.out]; decide
    have HV : Hid (agV ss ts ds zs = 0) := if_neg hf'
    have HS : Hid (agS ss ts ds zs = []) := if_neg hf'
    have HT : Hid (agT ss ts ds zs = []) := if_neg hf'
    have HD : Hid (agD ss ts ds zs = []) := if_neg hf'
    have eg : decide ((6 : Int) ≤ (tn : Int)) = true := by simp; omega
    clear hf' o1a o2a o3a hy2 hxs hvT HC h6
    go_wp2_with fail
    refine (l3Bad_calls _ _).mono ?_
    rintro e w3 ⟨rfl, g3⟩
    have M3 := M2.below g3
    have c0 := M3.cell 3 rfl
    have c1 := M3.cell 4 rfl
    have c2 := M3.cell 5 rfl
    have c3 := M3.cell 6 rfl
    have c4 := M3.cell 7 rfl
    have f0 := M3.fz 3 rfl
    have f1 := M3.fz 4 rfl
    have f2 := M3.fz 5 rfl
    have f3 := M3.fz 6 rfl
    have f4 := M3.fz 7 rfl
    have HB := hide M3.bel
    clear M2 M3 g3 s0 s1 s2 t0 t1 lc2
    go_wp2
    refine bodyPost_ret (v := .agg #[.int .i64 7, .int .i64 0, .slice none 0 0, .slice none 0 0, .slice none 0 0]) (by simp [results, Try.results93, go_sem, c0, c1, c2, c3, c4]) rfl ⟨_, _, _, _, _, _, _, _, _, by rw [HC7.out, HV.out], ?_, below_set5 HB.out (by omega) _ _ _ _ _⟩
    rw [HS.out, HT.out, HD.out]
    exact OTW.nil _ _
  have HCe : Hid (agC ss ts ds zs = etC ss zs) := by show _ = _; rw [HC.out, if_neg h6]
  have eg : decide ((6 : Int) ≤ (tn : Int)) = false := by simp; omega
  clear HC h6
  go_wp2_with fail
  refine (l2Enter_O w2.heap.size (w.heap.size + 1) B1 B2 ra b n rc cb ss zs xs _ zP (by omega) (by omega) b2 s0 t0 lc2 o1a hxs (fun g hg => (hvT g hg).2) good hy2 Hz.out).mono ?_
  rintro e w3 ⟨rfl, hfin, u3, k3⟩
  have z3 := u3.size
  simp only [World.size_alloc] at z3
  have q1 := ((k3 1).1 (by omega)).trans s1
  have q2 := ((k3 2).1 (by omega)).trans s2
  have qf := (k3 1).2.trans t1
  have M3 : Mm w w3 [(w.heap.size + 1 + 1, 0, .int .i64 0), (w.heap.size + 1 + 1, 1, .int .i64 0), (w.heap.size + 1 + 1, 2, .slice none 0 0), (w.heap.size + 1 + 1, 3, .slice none 0 0), (w.heap.size + 1 + 1, 4, .slice none 0 0)] [] :=
    (M2.sub (fun _ h => by simp only [List.mem_cons, List.not_mem_nil, or_false] at h ⊢; rcases h with h | h | h | h | h <;> simp [h]) (fun _ h => by cases h)).out (B := B1) (T := w2.heap.size + 1) (u3.mono (fun k hk => by rcases hk with hk | hk; exact ⟨hk.1, by have := hk.2; omega⟩; exact ⟨by omega, by omega⟩)) (by omega) (by simp <;> omega) (by simp)
  have o2b := RW.loc.out u3 (fun k h h' => by have := h.1; have := h.2; rcases h' with h' | h'; have := h'.2; omega; omega) o2a
  have o3b := OS.loc.out u3 (fun k h h' => by have := h.1; have := h.2; rcases h' with h' | h'; have := h'.2; omega; omega) o3a
  clear M2 u3 k3 hy2 o1a o2a o3a hxs hvT s0 s1 s2 t0 t1 lc2
  by_cases het : etC ss zs = 0
  rotate_left
  · have h7 : etC ss zs = 7 := by unfold etC at het ⊢; split at het <;> simp_all
    have HC7 : Hid (agC ss ts ds zs = 7) := HCe.out.trans h7
    have hf' : agC ss ts ds zs ≠ 0 := by rw [HC7.out]; decide
    have HV : Hid (agV ss ts ds zs = 0) := if_neg hf'
    have HS : Hid (agS ss ts ds zs = []) := if_neg hf'
    have HT : Hid (agT ss ts ds zs = []) := if_neg hf'
    have HD : Hid (agD ss ts ds zs = []) := if_neg hf'
    rw [if_neg het]
    clear hf' hfin o2b o3b het h7 HCe
    go_wp2_with fail
    refine (l3Bad_calls _ _).mono ?_
    rintro e w4 ⟨rfl, g4⟩
    have M4 := M3.below g4
    have c0 := M4.cell 0 rfl
    have c1 := M4.cell 1 rfl
    have c2 := M4.cell 2 rfl
    have c3 := M4.cell 3 rfl
    have c4 := M4.cell 4 rfl
    have f0 := M4.fz 0 rfl
    have f1 := M4.fz 1 rfl
    have f2 := M4.fz 2 rfl
    have f3 := M4.fz 3 rfl
    have f4 := M4.fz 4 rfl
    have HB := hide M4.bel
    clear M3 M4 g4 q1 q2 qf
    go_wp2
    refine bodyPost_ret (v := .agg #[.int .i64 7, .int .i64 0, .slice none 0 0, .slice none 0 0, .slice none 0 0]) (by simp [results, Try.results93, go_sem, c0, c1, c2, c3, c4]) rfl ⟨_, _, _, _, _, _, _, _, _, by rw [HC7.out, HV.out], ?_, below_set5 HB.out (by omega) _ _ _ _ _⟩
    rw [HS.out, HT.out, HD.out]
    exact OTW.nil _ _
  have HC0 : Hid (agC ss ts ds zs = 0) := HCe.out.trans het
  have HV : Hid (agV ss ts ds zs = (ts.length : Int) + 1) := if_pos HC0.out
  have HS : Hid (agS ss ts ds zs = enS ss zs) := if_pos HC0.out
  have HT : Hid (agT ss ts ds zs = ts ++ [(enQ ss zs : Int)]) := if_pos HC0.out
  have HD : Hid (agD ss ts ds zs = ds) := if_pos HC0.out
  obtain ⟨a4, ca4, q0, o4⟩ := hfin het
  rw [if_pos het]
  have eq0 : decide ((enQ ss zs : Int) < 0) = false := by simp
  have al3 := (Below.refl w3.heap.size w3).alloc (Nat.le_refl _) (.cells #[.int .i64 (enQ ss zs : Int)] 2)
  have HR3 := hide (RW.loc.below al3 o2b)
  have HW3 := hide (RW.loc.below al3 o2b).2.1
  have HO3 := hide (OS.loc.below al3 o3b)
  have HO4 := hide (OR.loc.below al3 o4)
  have HM3 := hide (M3.below al3)
  have HAl := hide al3
  have HQ0 := hide q0
  have HQ1 := hide q1
  have HQ2 := hide q2
  have HQf := hide qf
  have hq3 : w2.heap.size < w3.heap.size := by omega
  obtain ⟨i0, hi, hz0, hzz1, hzz2⟩ := info_parts info2
  clear hfin het o2b o3b o4 M3 al3 HCe
  go_wp2_with (first
    | (at_builtin; refine wpList_append_lies _ rfl _ _ 25 rfl 0 2 i0 (.int .i64 0) 1 8 Try.underlying25 hi hz0 hzz1 hzz2 rfl (by decide) _ tn (ts.map (Value.int .i64)) rfl HW3.out ⟨w3.heap.size, 0, none⟩ 1 1 [.int .i64 (enQ ss zs : Int)] rfl rfl (one_new (by go_simp)) (by simp [Value.oneCell']) (by omega) (by unfold maxLen; omega) (by omega) (Nat.zero_le _) (w3.heap.size + 1) (by simp) ?_)
    | go_in)
  intro g cp w5 hown5 hgrow hat hlt5
  obtain ⟨x5, u5⟩ := HR3.out.app hgrow (by rw [World.size_alloc]; exact hat) hown5 (by omega)
  have z5 := u5.size
  simp only [World.size_alloc] at z5 x5
  have hqb : w5.heap[w2.heap.size]? = w3.heap[w2.heap.size]? := (u5.block w2.heap.size (by simp; omega) (fun e => by have := e.2; omega)).trans (HAl.out.block w2.heap.size hq3)
  have q0' := (World.cell?_of_block (a := ⟨w2.heap.size, 0, none⟩) hqb).trans HQ0.out
  have q1' := (World.cell?_of_block (a := ⟨w2.heap.size, 1, none⟩) hqb).trans HQ1.out
  have q2' := (World.cell?_of_block (a := ⟨w2.heap.size, 2, none⟩) hqb).trans HQ2.out
  have qf' := (World.frozen?_of_block (a := ⟨w2.heap.size, 1, none⟩) hqb).trans HQf.out
  have M5 := HM3.out.out u5 (by omega) (by simp <;> omega) (by simp)
  have o5 := OR.loc.out u5 (fun k h h' => by have := h'.1; have := h'.2; rcases h with h | h; have := h.2; omega; have := h.1; simp only [World.size_alloc] at this; omega) HO4.out
  have d5 := OS.loc.out u5 (fun k h h' => by have := h.1; have := h'.2; omega) HO3.out
  have c0 := M5.cell 0 rfl
  have c1 := M5.cell 1 rfl
  have c2 := M5.cell 2 rfl
  have c3 := M5.cell 3 rfl
  have c4 := M5.cell 4 rfl
  have f0 := M5.fz 0 rfl
  have f1 := M5.fz 1 rfl
  have f2 := M5.fz 2 rfl
  have f3 := M5.fz 3 rfl
  have f4 := M5.fz 4 rfl
  have HB := hide M5.bel
  have HZ : Hid (w.heap.size ≤ w2.heap.size) := by show _ ≤ _; omega
  have HO : Hid (∀ v0 v1 v2 v3 v4 v, OTW (InR w.heap.size w5.heap.size) a4 (enS ss zs).length (enS ss zs) (some ⟨g, 0, none⟩) (tn + 1) cp (ts ++ [(enQ ss zs : Int)]) ya dn ds ((((((w5.setCell ⟨w2.heap.size, 1, none⟩ v).setCell ⟨w.heap.size + 1 + 1, 0, none⟩ v0).setCell ⟨w.heap.size + 1 + 1, 1, none⟩ v1).setCell ⟨w.heap.size + 1 + 1, 2, none⟩ v2).setCell ⟨w.heap.size + 1 + 1, 3, none⟩ v3).setCell ⟨w.heap.size + 1 + 1, 4, none⟩ v4)) := fun v0 v1 v2 v3 v4 v =>
    OTW.ofS (loc_set5 OR.loc (OR.loc.setC o5 (q := ⟨w2.heap.size, 1, none⟩) (fun e => by simp only [World.size_alloc] at e; rcases e with e | e; have := e.2; omega; have := e.1; omega) v) (fun e => by simp only [World.size_alloc] at e; rcases e with e | e; have := e.1; omega; have := e.1; omega) v0 v1 v2 v3 v4)
      (loc_set5 RW.loc (RW.loc.setC (RW.grown x5 hown5) (q := ⟨w2.heap.size, 1, none⟩) (fun e => by simp only at e; rcases e with e | e; have := e.2; omega; have := e.1; omega) v) (fun e => by rcases e with e | e; have := e.1; omega; have := e.1; omega) v0 v1 v2 v3 v4)
      (loc_set5 OS.loc (OS.loc.setC d5 (q := ⟨w2.heap.size, 1, none⟩) (fun e => by have := e.2; simp only at this; omega) v) (fun e => by have := e.1; omega) v0 v1 v2 v3 v4)
      (fun k h => by simp only [World.size_alloc] at h; rcases h with h | h; exact ⟨by have := h.1; omega, by have := h.2; omega⟩; exact ⟨by have := h.1; omega, by have := h.2; omega⟩) (fun k h => by rcases h with h | h; exact ⟨by have := h.1; omega, by have := h.2; omega⟩; exact ⟨by have := h.1; omega, by have := h.2; omega⟩) (fun k h => ⟨by have := h.1; omega, by have := h.2; omega⟩)
      (fun k h h' => by simp only [World.size_alloc] at h; rcases h with h | h; have := h.1; have := h.2; rcases h' with h' | h'; have := h'.1; omega; have := h'.1; omega; have := h.1; have := h.2; rcases h' with h' | h'; have := h'.2; omega; have := h'.1; omega) (fun k h h' => by simp only [World.size_alloc] at h; have := h'.1; have := h'.2; rcases h with h | h; have := h.2; omega; have := h.1; omega) (fun k h h' => by have := h'.1; have := h'.2; rcases h with h | h; have := h.2; omega; have := h.1; omega)
  have hz12 : w.heap.size + 1 + 1 ≠ w2.heap.size := by omega
  clear hown5 hgrow hat M5 o5 d5 x5 u5 q0 q1 q2 qf hqb
  go_wp2
  refine bodyPost_ret (v := .agg #[.int .i64 0, .int .i64 ((tn : Int) + 1), .slice a4 (enS ss zs).length ca4, .slice (some ⟨g, 0, none⟩) (tn + 1) cp, .slice ya dn yc]) (by simp [results, Try.results93, go_sem, c0, c1, c2, c3, c4]) rfl ⟨_, _, _, _, _, _, _, _, _, by rw [HC0.out, HV.out, HTL.out], ?_, below_set5 (HB.out.setCell HZ.out _) (by omega) _ _ _ _ _⟩
  rw [HS.out, HT.out, HD.out]
  simpa using HO.out _ _ _ _ _ _

set_option maxRecDepth 100000 in
set_option maxHeartbeats 2000000 in
theorem specAddDomainW_calls (a : Option Addr) (n c : Nat) (ss : List (Int × List Int)) (ta : Option Addr) (tn tc : Nat) (ts : List Int) (da : Option Addr) (dn dc : Nat) (ds : List Int) (b : Option Addr) (lb cb : Nat) (zs : List Int) (w : World) (hrt : RT w a n ss ta tn ts da dn ds) (hlb : lb ≤ maxLen) (hy : Sl w b lb zs) :
    Calls Try.prog 122 #[.agg #[.slice a n c, .slice ta tn tc, .slice da dn dc], .agg #[.slice b lb cb]] w fun e w' => ∃ ra rn rc xa xn xc ya yn yc, e = .returned (.agg #[.int .i64 (adC ss ts ds zs), .int .i64 (adV ss ts ds zs), .slice ra rn rc, .slice xa xn xc, .slice ya yn yc]) ∧
      OTW (InR w.heap.size w'.heap.size) ra rn (adS ss ts ds zs) xa xn xc (adT ss ts ds zs) ya yn (adD ss ts ds zs) w' ∧ Below w.heap.size w w' := by
  have M0 := (((Mm.start w).alloc3 (.slice a n c) (.slice ta tn tc) (.slice da dn dc) 36).alloc1 (.slice b lb cb) 41).alloc5 (.int .i64 0) (.int .i64 0) (.slice none 0 0) (.slice none 0 0) (.slice none 0 0) 38
  simp only [World.size_alloc] at M0
  have hrt0 := hrt.below M0.bel (Nat.le_refl _)
  have hy0 := hy.below M0.bel (Nat.le_refl _)
  have HTL := hide hrt.2.2.2.1.1
  have HDL := hide hrt.2.2.2.2.2.1
  have hsl1 : ss.length ≤ n := Nat.le_of_eq hrt.2.1.1
  have hsl2 : n ≤ ss.length := Nat.le_of_eq hrt.2.1.1.symm
  have htl1 : ts.length ≤ tn := Nat.le_of_eq HTL.out
  have htl2 : tn ≤ ts.length := Nat.le_of_eq HTL.out.symm
  have hdl1 : ds.length ≤ dn := Nat.le_of_eq HDL.out
  have hdl2 : dn ≤ ds.length := Nat.le_of_eq HDL.out.symm
  go_enter Try.func122, Try.ntmps122
  go_wp2_with fail
  refine (l3Asked_calls _ _ a n c ss ta tn tc ts da dn dc ds b lb cb zs _ (M0.lt 6 rfl) (M0.cell 6 rfl) (M0.cell 7 rfl) (M0.cell 8 rfl) hrt0 (M0.lt 5 rfl) (M0.cell 5 rfl) hlb hy0).mono ?_
  rintro e w1 ⟨rfl, g1⟩
  have M1 := M0.below g1
  have hrt1 := hrt0.below g1 (Nat.le_refl _)
  have hy1 := hy0.below g1 (Nat.le_refl _)
  have z1 := g1.size
  simp only [World.size_alloc] at z1
  clear M0 g1 hrt0 hy0
  by_cases hf : otF ss ts ds zs = 0
  rotate_left
  · have HC : Hid (adC ss ts ds zs = otF ss ts ds zs) := if_neg hf
    have hf' : adC ss ts ds zs ≠ 0 := by rw [HC.out]; exact hf
    have HV : Hid (adV ss ts ds zs = 0) := if_neg hf'
    have HS : Hid (adS ss ts ds zs = []) := if_neg hf'
    have HT : Hid (adT ss ts ds zs = []) := if_neg hf'
    have HD : Hid (adD ss ts ds zs = []) := if_neg hf'
    have e2 : (otF ss ts ds zs != 0) = true := by simpa using hf
    clear hf' hf hrt1 hy1
    go_wp2_with fail
    refine (l3Bad_calls _ _).mono ?_
    rintro e w2 ⟨rfl, g2⟩
    have M2 := M1.below g2
    have c0 := M2.cell 0 rfl
    have c1 := M2.cell 1 rfl
    have c2 := M2.cell 2 rfl
    have c3 := M2.cell 3 rfl
    have c4 := M2.cell 4 rfl
    have f0 := M2.fz 0 rfl
    have f1 := M2.fz 1 rfl
    have f2 := M2.fz 2 rfl
    have f3 := M2.fz 3 rfl
    have f4 := M2.fz 4 rfl
    have HB := hide M2.bel
    clear M1 M2 g2
    go_wp2
    refine bodyPost_ret (v := .agg #[.int .i64 (otF ss ts ds zs), .int .i64 0, .slice none 0 0, .slice none 0 0, .slice none 0 0]) (by simp [results, Try.results122, go_sem, c0, c1, c2, c3, c4]) rfl ⟨_, _, _, _, _, _, _, _, _, by rw [HC.out, HV.out], ?_, below_set5 HB.out (by omega) _ _ _ _ _⟩
    rw [HS.out, HT.out, HD.out]
    exact OTW.nil _ _
  obtain ⟨hf1, hz⟩ := otF_zero hf
  obtain rfl : lb = 4 := by have := fault_len hz; have := hy.1; omega
  obtain ⟨hr, hmy, _, _, _⟩ := tabF_zero hf1
  have hml := many_len hmy
  have good := good_of hr
  have hsum := good_sum good
  have lc1 := M1.cell 5 rfl
  rw [hf]
  clear hf1
  go_wp2_with fail
  refine (l3Lowish_calls (w.heap.size + 1) 0 b 4 cb zs _ hlb lc1 hy1).mono ?_
  rintro e w1' ⟨rfl, rfl⟩
  by_cases ht : lowB zs = true
  rotate_left
  · have htf : lowB zs = false := by simpa using ht
    have HC : Hid (adC ss ts ds zs = 1) := by show _ = _; unfold adC; rw [if_pos hf, if_neg ht]
    have hf' : adC ss ts ds zs ≠ 0 := by rw [HC.out]; decide
    have HV : Hid (adV ss ts ds zs = 0) := if_neg hf'
    have HS : Hid (adS ss ts ds zs = []) := if_neg hf'
    have HT : Hid (adT ss ts ds zs = []) := if_neg hf'
    have HD : Hid (adD ss ts ds zs = []) := if_neg hf'
    rw [htf]
    clear hf' hf ht htf hrt1 hy1 hz hr lc1
    go_wp2_with fail
    refine (l3Bad_calls _ _).mono ?_
    rintro e w2 ⟨rfl, g2⟩
    have M2 := M1.below g2
    have c0 := M2.cell 0 rfl
    have c1 := M2.cell 1 rfl
    have c2 := M2.cell 2 rfl
    have c3 := M2.cell 3 rfl
    have c4 := M2.cell 4 rfl
    have f0 := M2.fz 0 rfl
    have f1 := M2.fz 1 rfl
    have f2 := M2.fz 2 rfl
    have f3 := M2.fz 3 rfl
    have f4 := M2.fz 4 rfl
    have HB := hide M2.bel
    clear M1 M2 g2
    go_wp2
    refine bodyPost_ret (v := .agg #[.int .i64 1, .int .i64 0, .slice none 0 0, .slice none 0 0, .slice none 0 0]) (by simp [results, Try.results122, go_sem, c0, c1, c2, c3, c4]) rfl ⟨_, _, _, _, _, _, _, _, _, by rw [HC.out, HV.out], ?_, below_set5 HB.out (by omega) _ _ _ _ _⟩
    rw [HS.out, HT.out, HD.out]
    exact OTW.nil _ _
  have HC : Hid (adC ss ts ds zs = if dn = 4 then 7 else etC ss zs) := by show _ = _; unfold adC; rw [if_pos hf, if_pos ht, HDL.out]
  rw [ht]
  have k0 := M1.cell 6 rfl
  have k1 := M1.cell 7 rfl
  have k2 := M1.cell 8 rfl
  have Hz := hide hz
  clear hf ht hz hr lc1
  go_wp2_with fail
  refine (l3Copy_R a n c ss ta tn tc ts da dn dc ds _ (by omega) (by omega) (by omega) hrt1).mono ?_
  rintro e w2 ⟨ra, rc, xa, xc, ya, yc, rfl, L2, g2⟩
  have M2 := (M1.below g2).alloc3 (.slice ra n rc) (.slice xa tn xc) (.slice ya dn yc) 36
  have z2 := g2.size
  have al := (Below.refl w2.heap.size w2).alloc (Nat.le_refl _) (.cells #[.slice ra n rc, .slice xa tn xc, .slice ya dn yc] 36)
  obtain ⟨B1, B2, B3, B4, b1, b2, b3, b4, b5, o1, o2, o3⟩ := L2
  obtain ⟨o1a, ⟨xs, hxs⟩, hvT⟩ := RG.loc.below al o1
  have o2a := RW.loc.below al o2
  have o3a := RW.loc.below al o3
  have hy2 := (hy1.below g2 (Nat.le_refl _)).below al (Nat.le_refl _)
  have s0 := M2.cell 0 rfl
  have s1 := M2.cell 1 rfl
  have s2 := M2.cell 2 rfl
  have t0 := M2.fz 0 rfl
  have t1 := M2.fz 2 rfl
  have lc2 := M2.cell 8 rfl
  have zP : w2.heap.size < (w2.alloc (.cells #[.slice ra n rc, .slice xa tn xc, .slice ya dn yc] 36)).heap.size := by simp
  clear g2 al o1 o2 o3 M1 k0 k1 k2 hrt1 hy1
  by_cases h6 : dn = 4
  · have HC7 : Hid (adC ss ts ds zs = 7) := by show _ = _; rw [HC.out, if_pos h6]
    have hf' : adC ss ts ds zs ≠ 0 := by rw [HC7.out]; decide
    have HV : Hid (adV ss ts ds zs = 0) := if_neg hf'
    have HS : Hid (adS ss ts ds zs = []) := if_neg hf'
    have HT : Hid (adT ss ts ds zs = []) := if_neg hf'
    have HD : Hid (adD ss ts ds zs = []) := if_neg hf'
    have eg : decide ((4 : Int) ≤ (dn : Int)) = true := by simp; omega
    clear hf' o1a o2a o3a hy2 hxs hvT HC h6
    go_wp2_with fail
    refine (l3Bad_calls _ _).mono ?_
    rintro e w3 ⟨rfl, g3⟩
    have M3 := M2.below g3
    have c0 := M3.cell 3 rfl
    have c1 := M3.cell 4 rfl
    have c2 := M3.cell 5 rfl
    have c3 := M3.cell 6 rfl
    have c4 := M3.cell 7 rfl
    have f0 := M3.fz 3 rfl
    have f1 := M3.fz 4 rfl
    have f2 := M3.fz 5 rfl
    have f3 := M3.fz 6 rfl
    have f4 := M3.fz 7 rfl
    have HB := hide M3.bel
    clear M2 M3 g3 s0 s1 s2 t0 t1 lc2
    go_wp2
    refine bodyPost_ret (v := .agg #[.int .i64 7, .int .i64 0, .slice none 0 0, .slice none 0 0, .slice none 0 0]) (by simp [results, Try.results122, go_sem, c0, c1, c2, c3, c4]) rfl ⟨_, _, _, _, _, _, _, _, _, by rw [HC7.out, HV.out], ?_, below_set5 HB.out (by omega) _ _ _ _ _⟩
    rw [HS.out, HT.out, HD.out]
    exact OTW.nil _ _
  have HCe : Hid (adC ss ts ds zs = etC ss zs) := by show _ = _; rw [HC.out, if_neg h6]
  have eg : decide ((4 : Int) ≤ (dn : Int)) = false := by simp; omega
  clear HC h6
  go_wp2_with fail
  refine (l2Enter_O w2.heap.size (w.heap.size + 1) B1 B2 ra b n rc cb ss zs xs _ zP (by omega) (by omega) b2 s0 t0 lc2 o1a hxs (fun g hg => (hvT g hg).2) good hy2 Hz.out).mono ?_
  rintro e w3 ⟨rfl, hfin, u3, k3⟩
  have z3 := u3.size
  simp only [World.size_alloc] at z3
  have q1 := ((k3 1).1 (by omega)).trans s1
  have q2 := ((k3 2).1 (by omega)).trans s2
  have qf := (k3 2).2.trans t1
  have M3 : Mm w w3 [(w.heap.size + 1 + 1, 0, .int .i64 0), (w.heap.size + 1 + 1, 1, .int .i64 0), (w.heap.size + 1 + 1, 2, .slice none 0 0), (w.heap.size + 1 + 1, 3, .slice none 0 0), (w.heap.size + 1 + 1, 4, .slice none 0 0)] [] :=
    (M2.sub (fun _ h => by simp only [List.mem_cons, List.not_mem_nil, or_false] at h ⊢; rcases h with h | h | h | h | h <;> simp [h]) (fun _ h => by cases h)).out (B := B1) (T := w2.heap.size + 1) (u3.mono (fun k hk => by rcases hk with hk | hk; exact ⟨hk.1, by have := hk.2; omega⟩; exact ⟨by omega, by omega⟩)) (by omega) (by simp <;> omega) (by simp)
  have o2b := RW.loc.out u3 (fun k h h' => by have := h.1; have := h.2; rcases h' with h' | h'; have := h'.2; omega; omega) o2a
  have o3b := RW.loc.out u3 (fun k h h' => by have := h.1; have := h.2; rcases h' with h' | h'; have := h'.2; omega; omega) o3a
  clear M2 u3 k3 hy2 o1a o2a o3a hxs hvT s0 s1 s2 t0 t1 lc2
  by_cases het : etC ss zs = 0
  rotate_left
  · have h7 : etC ss zs = 7 := by unfold etC at het ⊢; split at het <;> simp_all
    have HC7 : Hid (adC ss ts ds zs = 7) := HCe.out.trans h7
    have hf' : adC ss ts ds zs ≠ 0 := by rw [HC7.out]; decide
    have HV : Hid (adV ss ts ds zs = 0) := if_neg hf'
    have HS : Hid (adS ss ts ds zs = []) := if_neg hf'
    have HT : Hid (adT ss ts ds zs = []) := if_neg hf'
    have HD : Hid (adD ss ts ds zs = []) := if_neg hf'
    rw [if_neg het]
    clear hf' hfin o2b o3b het h7 HCe
    go_wp2_with fail
    refine (l3Bad_calls _ _).mono ?_
    rintro e w4 ⟨rfl, g4⟩
    have M4 := M3.below g4
    have c0 := M4.cell 0 rfl
    have c1 := M4.cell 1 rfl
    have c2 := M4.cell 2 rfl
    have c3 := M4.cell 3 rfl
    have c4 := M4.cell 4 rfl
    have f0 := M4.fz 0 rfl
    have f1 := M4.fz 1 rfl
    have f2 := M4.fz 2 rfl
    have f3 := M4.fz 3 rfl
    have f4 := M4.fz 4 rfl
    have HB := hide M4.bel
    clear M3 M4 g4 q1 q2 qf
    go_wp2
    refine bodyPost_ret (v := .agg #[.int .i64 7, .int .i64 0, .slice none 0 0, .slice none 0 0, .slice none 0 0]) (by simp [results, Try.results122, go_sem, c0, c1, c2, c3, c4]) rfl ⟨_, _, _, _, _, _, _, _, _, by rw [HC7.out, HV.out], ?_, below_set5 HB.out (by omega) _ _ _ _ _⟩
    rw [HS.out, HT.out, HD.out]
    exact OTW.nil _ _
  have HC0 : Hid (adC ss ts ds zs = 0) := HCe.out.trans het
  have HV : Hid (adV ss ts ds zs = (ds.length : Int)) := if_pos HC0.out
  have HS : Hid (adS ss ts ds zs = enS ss zs) := if_pos HC0.out
  have HT : Hid (adT ss ts ds zs = ts) := if_pos HC0.out
  have HD : Hid (adD ss ts ds zs = ds ++ [(enQ ss zs : Int)]) := if_pos HC0.out
  obtain ⟨a4, ca4, q0, o4⟩ := hfin het
  rw [if_pos het]
  have eq0 : decide ((enQ ss zs : Int) < 0) = false := by simp
  have al3 := (Below.refl w3.heap.size w3).alloc (Nat.le_refl _) (.cells #[.int .i64 (enQ ss zs : Int)] 2)
  have HR3 := hide (RW.loc.below al3 o3b)
  have HW3 := hide (RW.loc.below al3 o3b).2.1
  have HO3 := hide (RW.loc.below al3 o2b)
  have HO4 := hide (OR.loc.below al3 o4)
  have HM3 := hide (M3.below al3)
  have HAl := hide al3
  have HQ0 := hide q0
  have HQ1 := hide q1
  have HQ2 := hide q2
  have HQf := hide qf
  have hq3 : w2.heap.size < w3.heap.size := by omega
  obtain ⟨i0, hi, hz0, hzz1, hzz2⟩ := info_parts info2
  clear hfin het o2b o3b o4 M3 al3 HCe
  go_wp2_with (first
    | (at_builtin; refine wpList_append_lies _ rfl _ _ 25 rfl 0 2 i0 (.int .i64 0) 1 8 Try.underlying25 hi hz0 hzz1 hzz2 rfl (by decide) _ dn (ds.map (Value.int .i64)) rfl HW3.out ⟨w3.heap.size, 0, none⟩ 1 1 [.int .i64 (enQ ss zs : Int)] rfl rfl (one_new (by go_simp)) (by simp [Value.oneCell']) (by omega) (by unfold maxLen; omega) (by omega) (Nat.zero_le _) (w3.heap.size + 1) (by simp) ?_)
    | go_in)
  intro g cp w5 hown5 hgrow hat hlt5
  obtain ⟨x5, u5⟩ := HR3.out.app hgrow (by rw [World.size_alloc]; exact hat) hown5 (by omega)
  have z5 := u5.size
  simp only [World.size_alloc] at z5 x5
  have hqb : w5.heap[w2.heap.size]? = w3.heap[w2.heap.size]? := (u5.block w2.heap.size (by simp; omega) (fun e => by have := e.2; omega)).trans (HAl.out.block w2.heap.size hq3)
  have q0' := (World.cell?_of_block (a := ⟨w2.heap.size, 0, none⟩) hqb).trans HQ0.out
  have q1' := (World.cell?_of_block (a := ⟨w2.heap.size, 1, none⟩) hqb).trans HQ1.out
  have q2' := (World.cell?_of_block (a := ⟨w2.heap.size, 2, none⟩) hqb).trans HQ2.out
  have qf' := (World.frozen?_of_block (a := ⟨w2.heap.size, 2, none⟩) hqb).trans HQf.out
  have M5 := HM3.out.out u5 (by omega) (by simp <;> omega) (by simp)
  have o5 := OR.loc.out u5 (fun k h h' => by have := h'.1; have := h'.2; rcases h with h | h; have := h.2; omega; have := h.1; simp only [World.size_alloc] at this; omega) HO4.out
  have d5 := RW.loc.out u5 (fun k h h' => by have := h.2; have := h'.1; omega) HO3.out
  have c0 := M5.cell 0 rfl
  have c1 := M5.cell 1 rfl
  have c2 := M5.cell 2 rfl
  have c3 := M5.cell 3 rfl
  have c4 := M5.cell 4 rfl
  have f0 := M5.fz 0 rfl
  have f1 := M5.fz 1 rfl
  have f2 := M5.fz 2 rfl
  have f3 := M5.fz 3 rfl
  have f4 := M5.fz 4 rfl
  have HB := hide M5.bel
  have HZ : Hid (w.heap.size ≤ w2.heap.size) := by show _ ≤ _; omega
  have HO : Hid (∀ v0 v1 v2 v3 v4 v, OTW (InR w.heap.size w5.heap.size) a4 (enS ss zs).length (enS ss zs) xa tn xc ts (some ⟨g, 0, none⟩) (dn + 1) (ds ++ [(enQ ss zs : Int)]) ((((((w5.setCell ⟨w2.heap.size, 2, none⟩ v).setCell ⟨w.heap.size + 1 + 1, 0, none⟩ v0).setCell ⟨w.heap.size + 1 + 1, 1, none⟩ v1).setCell ⟨w.heap.size + 1 + 1, 2, none⟩ v2).setCell ⟨w.heap.size + 1 + 1, 3, none⟩ v3).setCell ⟨w.heap.size + 1 + 1, 4, none⟩ v4)) := fun v0 v1 v2 v3 v4 v =>
    OTW.ofS (loc_set5 OR.loc (OR.loc.setC o5 (q := ⟨w2.heap.size, 2, none⟩) (fun e => by simp only [World.size_alloc] at e; rcases e with e | e; have := e.2; omega; have := e.1; omega) v) (fun e => by simp only [World.size_alloc] at e; rcases e with e | e; have := e.1; omega; have := e.1; omega) v0 v1 v2 v3 v4)
      (loc_set5 RW.loc (RW.loc.setC d5 (q := ⟨w2.heap.size, 2, none⟩) (fun e => by have := e.2; simp only at this; omega) v) (fun e => by have := e.1; omega) v0 v1 v2 v3 v4)
      (loc_set5 OS.loc (OS.loc.setC x5 (q := ⟨w2.heap.size, 2, none⟩) (fun e => by simp only at e; rcases e with e | e; have := e.2; omega; have := e.1; omega) v) (fun e => by rcases e with e | e; have := e.1; omega; have := e.1; omega) v0 v1 v2 v3 v4)
      (fun k h => by simp only [World.size_alloc] at h; rcases h with h | h; exact ⟨by have := h.1; omega, by have := h.2; omega⟩; exact ⟨by have := h.1; omega, by have := h.2; omega⟩) (fun k h => ⟨by have := h.1; omega, by have := h.2; omega⟩) (fun k h => by rcases h with h | h; exact ⟨by have := h.1; omega, by have := h.2; omega⟩; exact ⟨by have := h.1; omega, by have := h.2; omega⟩)
      (fun k h h' => by simp only [World.size_alloc] at h; have := h'.1; have := h'.2; rcases h with h | h; have := h.2; omega; have := h.1; omega) (fun k h h' => by simp only [World.size_alloc] at h; rcases h with h | h; have := h.1; have := h.2; rcases h' with h' | h'; have := h'.1; omega; have := h'.1; omega; have := h.1; have := h.2; rcases h' with h' | h'; have := h'.2; omega; have := h'.1; omega) (fun k h h' => by have := h.1; have := h.2; rcases h' with h' | h'; have := h'.1; omega; have := h'.1; omega)
  have hz12 : w.heap.size + 1 + 1 ≠ w2.heap.size := by omega
  clear hown5 hgrow hat M5 o5 d5 x5 u5 q0 q1 q2 qf hqb
  go_wp2
  refine bodyPost_ret (v := .agg #[.int .i64 0, .int .i64 (dn : Int), .slice a4 (enS ss zs).length ca4, .slice xa tn xc, .slice (some ⟨g, 0, none⟩) (dn + 1) cp]) (by simp [results, Try.results122, go_sem, c0, c1, c2, c3, c4]) rfl ⟨_, _, _, _, _, _, _, _, _, by rw [HC0.out, HV.out, HDL.out], ?_, below_set5 (HB.out.setCell HZ.out _) (by omega) _ _ _ _ _⟩
  rw [HS.out, HT.out, HD.out]
  simpa using HO.out _ _ _ _ _ _

theorem set5_at0 (X : World) (P : Nat) (v0 v1 v2 v3 v4 : Value) (h : ∃ u, X.cell? ⟨P, 0, none⟩ = some u) : (((((X.setCell ⟨P, 0, none⟩ v0).setCell ⟨P, 1, none⟩ v1).setCell ⟨P, 2, none⟩ v2).setCell ⟨P, 3, none⟩ v3).setCell ⟨P, 4, none⟩ v4).cell? ⟨P, 0, none⟩ = some v0 := by
  obtain ⟨u, h⟩ := h
  rw [World.cell?_setCell_other _ _ _ _ (fun e => by injection e with _ e2; omega)]
  rw [World.cell?_setCell_other _ _ _ _ (fun e => by injection e with _ e2; omega)]
  rw [World.cell?_setCell_other _ _ _ _ (fun e => by injection e with _ e2; omega)]
  rw [World.cell?_setCell_other _ _ _ _ (fun e => by injection e with _ e2; omega)]
  exact World.cell?_setCell_same _ _ _ h

theorem set5_at1 (X : World) (P : Nat) (v0 v1 v2 v3 v4 : Value) (h : ∃ u, X.cell? ⟨P, 1, none⟩ = some u) : (((((X.setCell ⟨P, 0, none⟩ v0).setCell ⟨P, 1, none⟩ v1).setCell ⟨P, 2, none⟩ v2).setCell ⟨P, 3, none⟩ v3).setCell ⟨P, 4, none⟩ v4).cell? ⟨P, 1, none⟩ = some v1 := by
  obtain ⟨u, h⟩ := h
  rw [World.cell?_setCell_other _ _ _ _ (fun e => by injection e with _ e2; omega)]
  rw [World.cell?_setCell_other _ _ _ _ (fun e => by injection e with _ e2; omega)]
  rw [World.cell?_setCell_other _ _ _ _ (fun e => by injection e with _ e2; omega)]
  exact World.cell?_setCell_same _ _ _ ((World.cell?_setCell_other _ _ _ _ (fun e => by injection e with _ e2; omega)).trans h)

theorem set5_at2 (X : World) (P : Nat) (v0 v1 v2 v3 v4 : Value) (h : ∃ u, X.cell? ⟨P, 2, none⟩ = some u) : (((((X.setCell ⟨P, 0, none⟩ v0).setCell ⟨P, 1, none⟩ v1).setCell ⟨P, 2, none⟩ v2).setCell ⟨P, 3, none⟩ v3).setCell ⟨P, 4, none⟩ v4).cell? ⟨P, 2, none⟩ = some v2 := by
  obtain ⟨u, h⟩ := h
  rw [World.cell?_setCell_other _ _ _ _ (fun e => by injection e with _ e2; omega)]
  rw [World.cell?_setCell_other _ _ _ _ (fun e => by injection e with _ e2; omega)]
  exact World.cell?_setCell_same _ _ _ ((World.cell?_setCell_other _ _ _ _ (fun e => by injection e with _ e2; omega)).trans ((World.cell?_setCell_other _ _ _ _ (fun e => by injection e with _ e2; omega)).trans h))

theorem set5_at3 (X : World) (P : Nat) (v0 v1 v2 v3 v4 : Value) (h : ∃ u, X.cell? ⟨P, 3, none⟩ = some u) : (((((X.setCell ⟨P, 0, none⟩ v0).setCell ⟨P, 1, none⟩ v1).setCell ⟨P, 2, none⟩ v2).setCell ⟨P, 3, none⟩ v3).setCell ⟨P, 4, none⟩ v4).cell? ⟨P, 3, none⟩ = some v3 := by
  obtain ⟨u, h⟩ := h
  rw [World.cell?_setCell_other _ _ _ _ (fun e => by injection e with _ e2; omega)]
  exact World.cell?_setCell_same _ _ _ ((World.cell?_setCell_other _ _ _ _ (fun e => by injection e with _ e2; omega)).trans ((World.cell?_setCell_other _ _ _ _ (fun e => by injection e with _ e2; omega)).trans ((World.cell?_setCell_other _ _ _ _ (fun e => by injection e with _ e2; omega)).trans h)))

theorem set5_at4 (X : World) (P : Nat) (v0 v1 v2 v3 v4 : Value) (h : ∃ u, X.cell? ⟨P, 4, none⟩ = some u) : (((((X.setCell ⟨P, 0, none⟩ v0).setCell ⟨P, 1, none⟩ v1).setCell ⟨P, 2, none⟩ v2).setCell ⟨P, 3, none⟩ v3).setCell ⟨P, 4, none⟩ v4).cell? ⟨P, 4, none⟩ = some v4 := by
  obtain ⟨u, h⟩ := h
  exact World.cell?_setCell_same _ _ _ ((World.cell?_setCell_other _ _ _ _ (fun e => by injection e with _ e2; omega)).trans ((World.cell?_setCell_other _ _ _ _ (fun e => by injection e with _ e2; omega)).trans ((World.cell?_setCell_other _ _ _ _ (fun e => by injection e with _ e2; omega)).trans ((World.cell?_setCell_other _ _ _ _ (fun e => by injection e with _ e2; omega)).trans h))))

theorem OTW.rt {S : Nat → Prop} {a : Option Addr} {n : Nat} {ss : List (Int × List Int)} {ta : Option Addr} {tn tc : Nat} {ts : List Int} {da : Option Addr} {dn : Nat} {ds : List Int} {w : World} (h : OTW S a n ss ta tn tc ts da dn ds w) : RT w a n ss ta tn ts da dn ds := by
  obtain ⟨S1, S2, S3, _, _, _, _, _, _, o1, o2, o3⟩ := h
  have h1 := o1.2.1
  have h2 := o2.1.2.1
  have h3 := o3.2.1
  exact ⟨by unfold maxLen; omega, o1.sls, by unfold maxLen; omega, o2.1.sl, by unfold maxLen; omega, o3.sl⟩

theorem OTW.keep {S : Nat → Prop} {a : Option Addr} {n : Nat} {ss : List (Int × List Int)} {ta : Option Addr} {tn tc : Nat} {ts : List Int} {da : Option Addr} {dn : Nat} {ds : List Int} {w w' : World} (h : OTW S a n ss ta tn tc ts da dn ds w) (hk : ∀ k, S k → k < w.heap.size → w'.heap[k]? = w.heap[k]?) : OTW S a n ss ta tn tc ts da dn ds w' := by
  obtain ⟨S1, S2, S3, h1, h2, h3, d12, d13, d23, o1, o2, o3⟩ := h
  exact ⟨S1, S2, S3, h1, h2, h3, d12, d13, d23, OR.loc w w' (fun k hk1 hl => hk k (h1 k hk1) hl) o1, RW.loc w w' (fun k hk1 hl => hk k (h2 k hk1) hl) o2, OS.loc w w' (fun k hk1 hl => hk k (h3 k hk1) hl) o3⟩

theorem OTW.mono {S S' : Nat → Prop} {a : Option Addr} {n : Nat} {ss : List (Int × List Int)} {ta : Option Addr} {tn tc : Nat} {ts : List Int} {da : Option Addr} {dn : Nat} {ds : List Int} {w : World} (h : OTW S a n ss ta tn tc ts da dn ds w) (hs : ∀ k, S k → S' k) : OTW S' a n ss ta tn tc ts da dn ds w := by
  obtain ⟨S1, S2, S3, h1, h2, h3, r⟩ := h
  exact ⟨S1, S2, S3, fun k h => hs k (h1 k h), fun k h => hs k (h2 k h), fun k h => hs k (h3 k h), r⟩

/-- a variable of tables at block q; what it holds lies behind q. -/
structure TV (q : Nat) (a : Option Addr) (n c : Nat) (ss : List (Int × List Int)) (ta : Option Addr) (tn tc : Nat) (ts : List Int) (da : Option Addr) (dn dc : Nat) (ds : List Int) (X : World) : Prop where
  c0 : X.cell? ⟨q, 0, none⟩ = some (.slice a n c)
  c1 : X.cell? ⟨q, 1, none⟩ = some (.slice ta tn tc)
  c2 : X.cell? ⟨q, 2, none⟩ = some (.slice da dn dc)
  f : ∀ j, X.frozen? ⟨q, j, none⟩ = false
  o : OTW (InR (q + 1) X.heap.size) a n ss ta tn tc ts da dn ds X
  lt : q < X.heap.size

theorem TV.keep {q : Nat} {a : Option Addr} {n c : Nat} {ss : List (Int × List Int)} {ta : Option Addr} {tn tc : Nat} {ts : List Int} {da : Option Addr} {dn dc : Nat} {ds : List Int} {X Y : World} (h : TV q a n c ss ta tn tc ts da dn dc ds X) (hz : X.heap.size ≤ Y.heap.size) (hk : ∀ k, q ≤ k → k < X.heap.size → Y.heap[k]? = X.heap[k]?) : TV q a n c ss ta tn tc ts da dn dc ds Y := by
  have hq := hk q (Nat.le_refl _) h.lt
  exact ⟨(World.cell?_of_block (a := ⟨q, 0, none⟩) hq).trans h.c0, (World.cell?_of_block (a := ⟨q, 1, none⟩) hq).trans h.c1, (World.cell?_of_block (a := ⟨q, 2, none⟩) hq).trans h.c2, fun j => (World.frozen?_of_block (a := ⟨q, j, none⟩) hq).trans (h.f j), (h.o.keep (fun k hS hl => hk k (by have := hS.1; omega) hl)).mono (fun k hS => ⟨hS.1, by have := hS.2; omega⟩), by have := h.lt; omega⟩

theorem TV.below {q : Nat} {a : Option Addr} {n c : Nat} {ss : List (Int × List Int)} {ta : Option Addr} {tn tc : Nat} {ts : List Int} {da : Option Addr} {dn dc : Nat} {ds : List Int} {X Y : World} (h : TV q a n c ss ta tn tc ts da dn dc ds X) (hb : Below X.heap.size X Y) : TV q a n c ss ta tn tc ts da dn dc ds Y := h.keep hb.size (fun k _ hk => hb.block k hk)

theorem TV.outside {q p : Nat} {a : Option Addr} {n c : Nat} {ss : List (Int × List Int)} {ta : Option Addr} {tn tc : Nat} {ts : List Int} {da : Option Addr} {dn dc : Nat} {ds : List Int} {X Y : World} (h : TV q a n c ss ta tn tc ts da dn dc ds X) (ho : Outside p (p + 1) X Y) (hp : p < q) : TV q a n c ss ta tn tc ts da dn dc ds Y := h.keep ho.size (fun k hq hk => ho.block k hk (.inr (by omega)))

theorem TV.new (X : World) (t : TypeId) : TV X.heap.size none 0 0 [] none 0 0 [] none 0 0 [] (X.alloc (.cells #[.slice none 0 0, .slice none 0 0, .slice none 0 0] t)) :=
  ⟨by simp, by simp, by simp, fun j => by simp, OTW.nil _ _, by simp⟩

/-- as TV, but what it holds lies before T. -/
structure TW (q T : Nat) (a : Option Addr) (n c : Nat) (ss : List (Int × List Int)) (ta : Option Addr) (tn tc : Nat) (ts : List Int) (da : Option Addr) (dn dc : Nat) (ds : List Int) (X : World) : Prop where
  c0 : X.cell? ⟨q, 0, none⟩ = some (.slice a n c)
  c1 : X.cell? ⟨q, 1, none⟩ = some (.slice ta tn tc)
  c2 : X.cell? ⟨q, 2, none⟩ = some (.slice da dn dc)
  f : ∀ j, X.frozen? ⟨q, j, none⟩ = false
  o : OTW (InR (q + 1) T) a n ss ta tn tc ts da dn ds X
  lt : q < T
  le : T ≤ X.heap.size

theorem TV.tw {q : Nat} {a : Option Addr} {n c : Nat} {ss : List (Int × List Int)} {ta : Option Addr} {tn tc : Nat} {ts : List Int} {da : Option Addr} {dn dc : Nat} {ds : List Int} {X : World} (h : TV q a n c ss ta tn tc ts da dn dc ds X) : TW q X.heap.size a n c ss ta tn tc ts da dn dc ds X := ⟨h.c0, h.c1, h.c2, h.f, h.o, h.lt, Nat.le_refl _⟩

theorem TW.tv {q T : Nat} {a : Option Addr} {n c : Nat} {ss : List (Int × List Int)} {ta : Option Addr} {tn tc : Nat} {ts : List Int} {da : Option Addr} {dn dc : Nat} {ds : List Int} {X : World} (h : TW q T a n c ss ta tn tc ts da dn dc ds X) : TV q a n c ss ta tn tc ts da dn dc ds X := ⟨h.c0, h.c1, h.c2, h.f, h.o.mono (fun _ hk => ⟨hk.1, Nat.lt_of_lt_of_le hk.2 h.le⟩), Nat.lt_of_lt_of_le h.lt h.le⟩

theorem TW.keep {q T : Nat} {a : Option Addr} {n c : Nat} {ss : List (Int × List Int)} {ta : Option Addr} {tn tc : Nat} {ts : List Int} {da : Option Addr} {dn dc : Nat} {ds : List Int} {X Y : World} (h : TW q T a n c ss ta tn tc ts da dn dc ds X) (hz : X.heap.size ≤ Y.heap.size) (hk : ∀ k, q ≤ k → k < T → Y.heap[k]? = X.heap[k]?) : TW q T a n c ss ta tn tc ts da dn dc ds Y := by
  have hq := hk q (Nat.le_refl _) h.lt
  exact ⟨(World.cell?_of_block (a := ⟨q, 0, none⟩) hq).trans h.c0, (World.cell?_of_block (a := ⟨q, 1, none⟩) hq).trans h.c1, (World.cell?_of_block (a := ⟨q, 2, none⟩) hq).trans h.c2, fun j => (World.frozen?_of_block (a := ⟨q, j, none⟩) hq).trans (h.f j), h.o.keep (fun k hS _ => hk k (by have := hS.1; omega) hS.2), h.lt, Nat.le_trans h.le hz⟩

theorem TW.below {q T : Nat} {a : Option Addr} {n c : Nat} {ss : List (Int × List Int)} {ta : Option Addr} {tn tc : Nat} {ts : List Int} {da : Option Addr} {dn dc : Nat} {ds : List Int} {X Y : World} (h : TW q T a n c ss ta tn tc ts da dn dc ds X) (hb : Below X.heap.size X Y) : TW q T a n c ss ta tn tc ts da dn dc ds Y := h.keep hb.size (fun k _ hk => hb.block k (Nat.lt_of_lt_of_le hk h.le))

theorem TW.outside {q T p : Nat} {a : Option Addr} {n c : Nat} {ss : List (Int × List Int)} {ta : Option Addr} {tn tc : Nat} {ts : List Int} {da : Option Addr} {dn dc : Nat} {ds : List Int} {X Y : World} (h : TW q T a n c ss ta tn tc ts da dn dc ds X) (ho : Outside p (p + 1) X Y) (hp : p < q) : TW q T a n c ss ta tn tc ts da dn dc ds Y := h.keep ho.size (fun k hq hk => ho.block k (Nat.lt_of_lt_of_le hk h.le) (.inr (by omega)))

theorem heap_set5 (X : World) (B : Nat) (v0 v1 v2 v3 v4 : Value) (k : Nat) (hk : k ≠ B) : (((((X.setCell ⟨B, 0, none⟩ v0).setCell ⟨B, 1, none⟩ v1).setCell ⟨B, 2, none⟩ v2).setCell ⟨B, 3, none⟩ v3).setCell ⟨B, 4, none⟩ v4).heap[k]? = X.heap[k]? := by
  rw [Below.heap_setCell _ _ _ _ (by simpa using hk), Below.heap_setCell _ _ _ _ (by simpa using hk), Below.heap_setCell _ _ _ _ (by simpa using hk), Below.heap_setCell _ _ _ _ (by simpa using hk), Below.heap_setCell _ _ _ _ (by simpa using hk)]

theorem TW.set5 {q T B : Nat} {a : Option Addr} {n c : Nat} {ss : List (Int × List Int)} {ta : Option Addr} {tn tc : Nat} {ts : List Int} {da : Option Addr} {dn dc : Nat} {ds : List Int} {X : World} (h : TW q T a n c ss ta tn tc ts da dn dc ds X) (hB : T ≤ B) (v0 v1 v2 v3 v4 : Value) : TW q T a n c ss ta tn tc ts da dn dc ds (((((X.setCell ⟨B, 0, none⟩ v0).setCell ⟨B, 1, none⟩ v1).setCell ⟨B, 2, none⟩ v2).setCell ⟨B, 3, none⟩ v3).setCell ⟨B, 4, none⟩ v4) :=
  h.keep (by simp) (fun k _ hk => heap_set5 X B v0 v1 v2 v3 v4 k (by omega))

theorem OTW.set5 {S S' : Nat → Prop} {B : Nat} {a : Option Addr} {n : Nat} {ss : List (Int × List Int)} {ta : Option Addr} {tn tc : Nat} {ts : List Int} {da : Option Addr} {dn : Nat} {ds : List Int} {X : World} (h : OTW S a n ss ta tn tc ts da dn ds X) (hB : ∀ k, S k → k ≠ B) (hs : ∀ k, S k → S' k) (v0 v1 v2 v3 v4 : Value) : OTW S' a n ss ta tn tc ts da dn ds (((((X.setCell ⟨B, 0, none⟩ v0).setCell ⟨B, 1, none⟩ v1).setCell ⟨B, 2, none⟩ v2).setCell ⟨B, 3, none⟩ v3).setCell ⟨B, 4, none⟩ v4) :=
  (h.keep (fun k hS _ => heap_set5 X B v0 v1 v2 v3 v4 k (hB k hS))).mono hs

theorem OTW.allocW {B B' T : Nat} {a : Option Addr} {n : Nat} {ss : List (Int × List Int)} {ta : Option Addr} {tn tc : Nat} {ts : List Int} {da : Option Addr} {dn : Nat} {ds : List Int} {X : World} (h : OTW (InR B' T) a n ss ta tn tc ts da dn ds X) (hB : B ≤ B') (hT : T ≤ X.heap.size) (o : Obj) : OTW (InR B (X.alloc o).heap.size) a n ss ta tn tc ts da dn ds (X.alloc o) :=
  (h.keep (fun k _ hl => ((Below.refl _ _).alloc (Nat.le_refl _) o).block k hl)).mono (fun k hk => ⟨by have := hk.1; omega, by have := hk.2; simp; omega⟩)

theorem OTW.set5W {B B' T P : Nat} {a : Option Addr} {n : Nat} {ss : List (Int × List Int)} {ta : Option Addr} {tn tc : Nat} {ts : List Int} {da : Option Addr} {dn : Nat} {ds : List Int} {X : World} (h : OTW (InR B' T) a n ss ta tn tc ts da dn ds X) (hB : B ≤ B') (hT : T ≤ X.heap.size) (hP : P < B') (v0 v1 v2 v3 v4 : Value) :
    OTW (InR B (((((X.setCell ⟨P, 0, none⟩ v0).setCell ⟨P, 1, none⟩ v1).setCell ⟨P, 2, none⟩ v2).setCell ⟨P, 3, none⟩ v3).setCell ⟨P, 4, none⟩ v4).heap.size) a n ss ta tn tc ts da dn ds (((((X.setCell ⟨P, 0, none⟩ v0).setCell ⟨P, 1, none⟩ v1).setCell ⟨P, 2, none⟩ v2).setCell ⟨P, 3, none⟩ v3).setCell ⟨P, 4, none⟩ v4) :=
  OTW.set5 h (fun k hk => by have := hk.1; omega) (fun k hk => ⟨by have := hk.1; omega, by have := hk.2; simp; omega⟩) v0 v1 v2 v3 v4

/-- a cell that is none of the bundle's, nor older, is written. -/
theorem Mo.off {p : Nat} {w u : World} {cs : List (Nat × Nat × Value)} {fs : List (Nat × Nat × (World → Prop))} (h : Mo p w u cs fs) {P o : Nat} (hb : w.heap.size ≤ P) (hc : ∀ c ∈ cs, c.1 ≠ P) (hf : ∀ f ∈ fs, P < f.1 ∨ f.2.1 ≤ P) (v : Value) : Mo p w (u.setCell ⟨P, o, none⟩ v) cs fs := by
  refine ⟨h.out.setNew hb v, fun c k => ?_, fun f k => ?_⟩
  · obtain ⟨h1, h2, h3, h4⟩ := h.cells c k
    refine ⟨h1, by simpa using h2, ?_, by simpa using h4⟩
    rw [World.cell?_setCell_other _ _ _ _ (fun e => by injection e with e1 e2; exact hc c k e1.symm)]
    exact h3
  · obtain ⟨h1, h2, h3⟩ := h.facts f k
    refine ⟨h1, h2, h2.setC h3 (fun e => ?_) v⟩
    have a1 := e.1
    have a2 := e.2
    have := hf f k
    simp only at a1 a2
    omega

end Go.Proofs.Ytgkjmeogdomgmaa
