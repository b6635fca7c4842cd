import Derived.Test.YtnibngigbcakkaaGreatF1
import Derived.Test.YtnibngigbcakkaaGreatF29
import Derived.Test.YtnibngigbcakkaaGreatF3
import Derived.Test.YtnibngigbcakkaaGreatF2
import Derived.Test.YtnibngigbcakkaaGreatF18
import Derived.Test.YtnibngigbcakkaaGreatF34
import Derived.Test.YtnibngigbcakkaaGreatF30
import Derived.Test.YtnibngigbcakkaaGreatF20
import Derived.Test.YtnibngigbcakkaaGreatF19
import Derived.WalkKit
import Derived.ProofKit
import Derived.OpenShut
import Derived.ShutString
import Derived.ChangeOld
import Derived.Below
import Derived.WalkSpells
import Derived.Deep.QuietTactic
import Derived.BigQuiet
import Derived.Deep.RegionWith
import Derived.Deep.WholeRow
import Derived.Deep.DeepCutAuto
import Derived.Deep.RegionHeld2
import Derived.Deep.AppendLies
import Derived.Deep.RegionLaw
namespace Go.Proofs.YtnibngigbcakkaaGreat
open Go.ChangeShapes Go.WideShapes Go.ChangeAt Go.RowKit



/-- a row of n slots under copy, labels in blocks of their own, no two in one. -/
structure HalfD (w : World) (N n k : Nat) (ss : List (Int × List Int)) (lb : Nat → Nat) : Prop where
  lt : N < w.heap.size
  c0 : ∀ j, j < k → w.cell? ⟨N, j * 2, none⟩ = some (.int .i64 (gc ss j))
  c1 : ∀ j, j < k → w.cell? ⟨N, j * 2 + 1, none⟩ = some (.slice (some ⟨lb j, 0, none⟩) (gl ss j).length (gl ss j).length)
  gt : ∀ j, j < k → N < lb j
  blk : ∀ j, j < k → Blk w (lb j) (gl ss j)
  ap : ∀ i j, i < k → j < k → i ≠ j → lb i ≠ lb j
  all : ∀ j, j < n * 2 → ∃ v, w.cell? ⟨N, j, none⟩ = some v
  fz : ∀ j, w.frozen? ⟨N, j, none⟩ = false

theorem HalfD.below {w w' : World} {N n k : Nat} {ss : List (Int × List Int)} {lb : Nat → Nat} (h : HalfD w N n k ss lb) (hb : Below w.heap.size w w') : HalfD w' N n k ss lb :=
  ⟨by have := hb.size; have := h.lt; omega, fun j hj => (hb.cell (p := ⟨N, j * 2, none⟩) h.lt).trans (h.c0 j hj), fun j hj => (hb.cell (p := ⟨N, j * 2 + 1, none⟩) h.lt).trans (h.c1 j hj), h.gt, fun j hj => (h.blk j hj).below hb, h.ap,
    fun j hj => by obtain ⟨v, hv⟩ := h.all j hj; exact ⟨v, (hb.cell (p := ⟨N, j, none⟩) h.lt).trans hv⟩, fun j => (hb.frozen (p := ⟨N, j, none⟩) h.lt).trans (h.fz j)⟩

theorem HalfD.store {w0 w : World} {N n k b : Nat} {ss : List (Int × List Int)} {lb : Nat → Nat} (h0 : HalfD w0 N n k ss lb) (hw : Below w0.heap.size w0 w) (hk : k < n) (hb : w0.heap.size ≤ b) (hB : Blk w b (gl ss k)) :
    HalfD ((w.setCell ⟨N, k * 2, none⟩ (.int .i64 (gc ss k))).setCell ⟨N, k * 2 + 1, none⟩ (.slice (some ⟨b, 0, none⟩) (gl ss k).length (gl ss k).length)) N n (k + 1) ss (fun j => if j = k then b else lb j) := by
  have h := h0.below hw
  have hNb : N < b := by have := h0.lt; omega
  obtain ⟨v0, hv0⟩ := h.all (k * 2) (by omega)
  obtain ⟨v1, hv1⟩ := h.all (k * 2 + 1) (by omega)
  have ne1 : ∀ i, i ≠ k * 2 → i ≠ k * 2 + 1 → ((w.setCell ⟨N, k * 2, none⟩ (.int .i64 (gc ss k))).setCell ⟨N, k * 2 + 1, none⟩ (.slice (some ⟨b, 0, none⟩) (gl ss k).length (gl ss k).length)).cell? ⟨N, i, none⟩ = w.cell? ⟨N, i, none⟩ := fun i a b => by
    rw [World.cell?_setCell_other _ _ _ _ (fun e => b (by injection e with _ e2; exact e2.symm)), World.cell?_setCell_other _ _ _ _ (fun e => a (by injection e with _ e2; exact e2.symm))]
  have c0 : ((w.setCell ⟨N, k * 2, none⟩ (.int .i64 (gc ss k))).setCell ⟨N, k * 2 + 1, none⟩ (.slice (some ⟨b, 0, none⟩) (gl ss k).length (gl ss k).length)).cell? ⟨N, k * 2, none⟩ = some (.int .i64 (gc ss k)) := by
    rw [World.cell?_setCell_other _ _ _ _ (fun e => by injection e with _ e2; omega)]
    exact World.cell?_setCell_same _ _ _ hv0
  have c1 : ((w.setCell ⟨N, k * 2, none⟩ (.int .i64 (gc ss k))).setCell ⟨N, k * 2 + 1, none⟩ (.slice (some ⟨b, 0, none⟩) (gl ss k).length (gl ss k).length)).cell? ⟨N, k * 2 + 1, none⟩ = some (.slice (some ⟨b, 0, none⟩) (gl ss k).length (gl ss k).length) :=
    World.cell?_setCell_same _ _ _ ((World.cell?_setCell_other _ _ _ _ (fun e => by injection e with _ e2; omega)).trans hv1)
  have hold : ∀ j, j < k → lb j < w0.heap.size := fun j hj => (h0.blk j hj).1
  refine ⟨by simpa [World.setCell] using h.lt, fun j hj => ?_, fun j hj => ?_, fun j hj => ?_, fun j hj => ?_, fun i j hi hj hij => ?_, fun j hj => cell?_setCell_some (cell?_setCell_some (h.all j hj).choose_spec).choose_spec, fun j => by simpa using h.fz j⟩
  · by_cases e : j = k
    · subst e; exact c0
    · exact (ne1 _ (by omega) (by omega)).trans (h.c0 j (by omega))
  · by_cases e : j = k
    · subst e; rw [if_pos rfl]; exact c1
    · rw [if_neg e]; exact (ne1 _ (by omega) (by omega)).trans (h.c1 j (by omega))
  · by_cases e : j = k
    · rw [if_pos e]; exact hNb
    · rw [if_neg e]; exact h.gt j (by omega)
  · by_cases e : j = k
    · subst e; rw [if_pos rfl]; exact (hB.setCell (by show N ≠ b; omega) _).setCell (by show N ≠ b; omega) _
    · rw [if_neg e]
      have := h.gt j (by omega)
      exact ((h.blk j (by omega)).setCell (by show N ≠ lb j; omega) _).setCell (by show N ≠ lb j; omega) _
  · by_cases e : i = k
    · rw [if_pos e, if_neg (by omega)]
      have := hold j (by omega)
      omega
    · rw [if_neg e]
      by_cases e2 : j = k
      · rw [if_pos e2]
        have := hold i (by omega)
        omega
      · rw [if_neg e2]
        exact h.ap i j (by omega) (by omega) hij

theorem HalfD.start (w : World) (n : Nat) (ss : List (Int × List Int)) (t : TypeId) (lb : Nat → Nat) : HalfD (w.alloc (.cells (madeCells #[.int .i64 0, .slice none 0 0] (n * 2)) t)) w.heap.size n 0 ss lb := by
  refine ⟨by simp, fun j hj => by omega, fun j hj => by omega, fun j hj => by omega, fun j hj => by omega, fun i j hi => by omega, fun j hj => ?_, fun j => by simp⟩
  have hs : j < (madeCells #[.int .i64 0, .slice none 0 0] (n * 2)).size := by rw [size_madeCells]; exact hj
  exact ⟨(madeCells #[.int .i64 0, .slice none 0 0] (n * 2))[j], by rw [World.cell?_alloc_new]; simp [hs]⟩

theorem HalfD.or {w : World} {N n B : Nat} {ss : List (Int × List Int)} {lb : Nat → Nat} (h : HalfD w N n n ss lb) (hB : B ≤ N) (hn : ss.length = n) (hm : n + lenSum ss ≤ 1048576) : OR (InR B w.heap.size) (some ⟨N, 0, none⟩) n ss w :=
  ⟨hn, hm, .inr ⟨N, fun j => some ⟨lb j, 0, none⟩, fun j => (gl ss j).length, lb, rfl, ⟨hB, h.lt⟩, h.lt, h.fz, fun i hi => ⟨h.c0 i hi, h.c1 i hi, ⟨rfl, by have := gl_le ss i (by omega); omega, by (by_cases e : (gl ss i).length = 0); exact .inl e; exact .inr ⟨lb i, rfl, ⟨rfl, by omega⟩, h.blk i hi⟩⟩, fun _ => ⟨⟨by have := h.gt i hi; omega, (h.blk i hi).1⟩, by have := h.gt i hi; omega⟩⟩, fun i j hi hj e _ _ => h.ap i j hi hj e⟩⟩



/-- owned tables: slots, tags and domains in blocks of S, no two of the three in one. -/
def OT (S : Nat → Prop) (a : Option Addr) (n : Nat) (ss : List (Int × List Int)) (ta : Option Addr) (tn : Nat) (ts : List Int) (da : Option Addr) (dn : Nat) (ds : List Int) (w : World) : Prop :=
  ∃ S1 S2 S3 : Nat → Prop, (∀ k, S1 k → S k) ∧ (∀ k, S2 k → S k) ∧ (∀ k, S3 k → S k) ∧ (∀ k, S1 k → ¬ S2 k) ∧ (∀ k, S1 k → ¬ S3 k) ∧ (∀ k, S2 k → ¬ S3 k) ∧ OR S1 a n ss w ∧ OS S2 ta tn ts w ∧ OS S3 da dn ds w

theorem OT.loc {S : Nat → Prop} {a : Option Addr} {n : Nat} {ss : List (Int × List Int)} {ta : Option Addr} {tn : Nat} {ts : List Int} {da : Option Addr} {dn : Nat} {ds : List Int} : Loc S (OT S a n ss ta tn ts da dn ds) := fun w w' hk h => by
  obtain ⟨S1, S2, S3, i1, i2, i3, d1, d2, d3, o1, o2, o3⟩ := h
  exact ⟨S1, S2, S3, i1, i2, i3, d1, d2, d3, OR.loc w w' (fun k h hl => hk k (i1 k h) hl) o1, OS.loc w w' (fun k h hl => hk k (i2 k h) hl) o2, OS.loc w w' (fun k h hl => hk k (i3 k h) hl) o3⟩

theorem OT.mono {S S' : Nat → Prop} {a : Option Addr} {n : Nat} {ss : List (Int × List Int)} {ta : Option Addr} {tn : Nat} {ts : List Int} {da : Option Addr} {dn : Nat} {ds : List Int} {w : World} (h : OT S a n ss ta tn ts da dn ds w) (hs : ∀ k, S k → S' k) : OT S' a n ss ta tn ts da dn ds w := by
  obtain ⟨S1, S2, S3, i1, i2, i3, d⟩ := h
  exact ⟨S1, S2, S3, fun k h => hs k (i1 k h), fun k h => hs k (i2 k h), fun k h => hs k (i3 k h), d⟩

theorem OT.rt {S : Nat → Prop} {a : Option Addr} {n : Nat} {ss : List (Int × List Int)} {ta : Option Addr} {tn : Nat} {ts : List Int} {da : Option Addr} {dn : Nat} {ds : List Int} {w : World} (h : OT S a n ss ta tn ts da dn ds w) : RT w a n ss ta tn ts da dn ds := by
  obtain ⟨S1, S2, S3, i1, i2, i3, d1, d2, d3, o1, o2, o3⟩ := h
  exact ⟨by have := o1.2.1; unfold maxLen; omega, o1.sls, by have := o2.2.1; unfold maxLen; omega, o2.sl, by have := o3.2.1; unfold maxLen; omega, o3.sl⟩

def otF (ss : List (Int × List Int)) (ts ds zs : List Int) : Int := if tabF ss ts ds = 0 then fault zs else tabF ss ts ds

def agC (ss : List (Int × List Int)) (ts ds zs : List Int) : Int := if otF ss ts ds zs = 0 then (if thing0 zs = true then (if ts.length = 6 then 7 else etC ss zs) else 1) else otF ss ts ds zs

def agV (ss : List (Int × List Int)) (ts ds zs : List Int) : Int := if agC ss ts ds zs = 0 then (ts.length : Int) + 1 else 0

def agS (ss : List (Int × List Int)) (ts ds zs : List Int) : List (Int × List Int) := if agC ss ts ds zs = 0 then enS ss zs else []

def agT (ss : List (Int × List Int)) (ts ds zs : List Int) : List Int := if agC ss ts ds zs = 0 then ts ++ [(enQ ss zs : Int)] else []

def agD (ss : List (Int × List Int)) (ts ds zs : List Int) : List Int := if agC ss ts ds zs = 0 then ds else []

def adC (ss : List (Int × List Int)) (ts ds zs : List Int) : Int := if otF ss ts ds zs = 0 then (if lowB zs = true then (if ds.length = 4 then 7 else etC ss zs) else 1) else otF ss ts ds zs

def adV (ss : List (Int × List Int)) (ts ds zs : List Int) : Int := if adC ss ts ds zs = 0 then (ds.length : Int) else 0

def adS (ss : List (Int × List Int)) (ts ds zs : List Int) : List (Int × List Int) := if adC ss ts ds zs = 0 then enS ss zs else []

def adT (ss : List (Int × List Int)) (ts ds zs : List Int) : List Int := if adC ss ts ds zs = 0 then ts else []

def adD (ss : List (Int × List Int)) (ts ds zs : List Int) : List Int := if adC ss ts ds zs = 0 then ds ++ [(enQ ss zs : Int)] else []

theorem otF_zero {ss : List (Int × List Int)} {ts ds zs : List Int} (h : otF ss ts ds zs = 0) : tabF ss ts ds = 0 ∧ fault zs = 0 := by
  unfold otF at h
  split at h
  · exact ⟨by assumption, h⟩
  · exact absurd h (by assumption)

/-- what 'openTablesFor' answers. -/
def OTF (ss : List (Int × List Int)) (ts ds zs : List Int) (w : World) (e : Ending) (w' : World) : Prop :=
  ∃ sz mo xa xn xc ya yn yc, e = .returned (.tuple #[.agg #[.int .i64 sz, .map mo, .slice xa xn xc, .slice ya yn yc], .int .i64 (otF ss ts ds zs)]) ∧ Below w.heap.size w w' ∧
    (tabF ss ts ds = 0 → sz = (ss.length : Int) ∧ Led3 w.heap.size mo ss xa xn xc ts ya yn yc ds w')

theorem OTF.mk {ss : List (Int × List Int)} {ts ds zs : List Int} {w w' : World} {e : Ending} (sz : Int) (mo : Option Nat) (xa : Option Addr) (xn xc : Nat) (ya : Option Addr) (yn yc : Nat) (he : e = .returned (.tuple #[.agg #[.int .i64 sz, .map mo, .slice xa xn xc, .slice ya yn yc], .int .i64 (otF ss ts ds zs)])) (hb : Below w.heap.size w w')
    (h : tabF ss ts ds = 0 → sz = (ss.length : Int) ∧ Led3 w.heap.size mo ss xa xn xc ts ya yn yc ds w') : OTF ss ts ds zs w e w' := ⟨sz, mo, xa, xn, xc, ya, yn, yc, he, hb, h⟩

theorem OT.ofS {S1 S2 S3 S : Nat → Prop} {a : Option Addr} {n : Nat} {ss : List (Int × List Int)} {ta : Option Addr} {tn : Nat} {ts : List Int} {da : Option Addr} {dn : Nat} {ds : List Int} {w : World} (o1 : OR S1 a n ss w) (o2 : OS S2 ta tn ts w) (o3 : OS S3 da dn ds w) (h1 : ∀ k, S1 k → S k) (h2 : ∀ k, S2 k → S k) (h3 : ∀ k, S3 k → S k) (h12 : ∀ k, S1 k → ¬ S2 k) (h13 : ∀ k, S1 k → ¬ S3 k) (h23 : ∀ k, S2 k → ¬ S3 k) : OT S a n ss ta tn ts da dn ds w :=
  ⟨S1, S2, S3, h1, h2, h3, h12, h13, h23, o1, o2, o3⟩

set_option maxRecDepth 100000 in
set_option maxHeartbeats 1000000 in
theorem l3Asked_calls (p r : Nat) (a : Option Addr) (n c : Nat) (ss : List (Int × List Int)) (ta : Option Addr) (tn tc : Nat) (ts : List Int) (da : Option Addr) (dn dc : Nat) (ds : List Int) (b : Option Addr) (lb cb : Nat) (zs : List Int) (w : World) (hp : p < w.heap.size)
    (hpc : w.cell? ⟨p, 0, none⟩ = some (.slice a n c)) (hpt : w.cell? ⟨p, 1, none⟩ = some (.slice ta tn tc)) (hpd : w.cell? ⟨p, 2, none⟩ = some (.slice da dn dc)) (hrt : RT w a n ss ta tn ts da dn ds) (hr : r < w.heap.size) (hrc : w.cell? ⟨r, 0, none⟩ = some (.slice b lb cb)) (hlb : lb ≤ maxLen) (hy : Sl w b lb zs) :
    Calls Tryz.prog 66 #[.pointer (some ⟨p, 0, none⟩), .pointer (some ⟨r, 0, none⟩)] w fun e w' => e = .returned (.int .i64 (otF ss ts ds zs)) ∧ Below w.heap.size w w' := by
  go_enter Tryz.func66, Tryz.ntmps66
  go_wp2_with fail
  refine (l3Fault_calls p a n c ss ta tn tc ts da dn dc ds _ hp hpc hpt hpd hrt).mono ?_
  rintro e w1 ⟨rfl, g1⟩
  have HG := hide g1
  by_cases hf : tabF ss ts ds = 0
  · have HE : Hid (otF ss ts ds zs = fault zs) := if_pos hf
    have rc := (g1.cell (p := ⟨r, 0, none⟩) hr).trans hrc
    have hy1 := hy.below g1 (Nat.le_refl _)
    have hr1 : r < w1.heap.size := by have := g1.size; omega
    rw [hf]
    clear g1 hf hrt hy
    go_wp2_with fail
    refine (l1FaultO_calls r 0 b lb cb zs _ hlb hr1 rc hy1).mono ?_
    rintro e w2 ⟨rfl, g2⟩
    have HG2 := hide (HG.out.trans (g2.mono HG.out.size))
    clear g2 hy1
    go_wp2
    go_ret
    exact ⟨by rw [HE.out]; rfl, HG2.out⟩
  · have HE : Hid (otF ss ts ds zs = tabF ss ts ds) := if_neg hf
    have en : (tabF ss ts ds != 0) = true := by simpa using hf
    clear g1 hf hrt hy
    go_wp2
    go_ret
    exact ⟨by rw [HE.out]; rfl, HG.out⟩

end Go.Proofs.YtnibngigbcakkaaGreat
