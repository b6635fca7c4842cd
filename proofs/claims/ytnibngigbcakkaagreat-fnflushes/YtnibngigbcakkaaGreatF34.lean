import Derived.Test.YtnibngigbcakkaaGreatF18
import Derived.Test.YtnibngigbcakkaaGreatF16
import Derived.Test.YtnibngigbcakkaaGreatF12
import Derived.Test.YtnibngigbcakkaaGreatF1
import Derived.WalkKit
import Derived.ProofKit
import Derived.OpenShut
import Derived.ShutString
import Derived.ChangeOld
import Derived.Below
import Derived.WalkSpells
import Derived.Deep.QuietTactic
import Derived.BigQuiet
import Derived.Deep.RegionWith
import Derived.Deep.WholeRow
import Derived.Deep.DeepCutAuto
import Derived.Deep.RegionHeld2
import Derived.Deep.AppendLies
import Derived.Deep.RegionLaw
namespace Go.Proofs.YtnibngigbcakkaaGreat
open Go.ChangeShapes Go.WideShapes Go.ChangeAt Go.RowKit

/-- an owned row of numbers with its room. -/
def RW (S : Nat → Prop) (a : Option Addr) (n c : Nat) (zs : List Int) (w : World) : Prop :=
  OS S a n zs w ∧ w.ownsRow 0 2 1 (.slice a n c) n (zs.map (Value.int .i64)) ∧ ∀ g, (Value.slice a n c).ownBlock = some g → S g

theorem RW.loc {S : Nat → Prop} {a : Option Addr} {n c : Nat} {zs : List Int} : Loc S (RW S a n c zs) := fun w w' hk h => by
  refine ⟨OS.loc w w' hk h.1, ⟨h.2.1.1, ?_⟩, h.2.2⟩
  rcases h.2.1.2 with h0 | ⟨g, cap, cur, hv, hb, hg, rest⟩
  · exact .inl h0
  · refine .inr ⟨g, cap, cur, hv, hb, ?_, rest⟩
    rw [hk g (h.2.2 g (by rw [hv]; rfl)) (Array.getElem?_eq_some_iff.1 hg).1]
    exact hg

theorem RW.mono {S S' : Nat → Prop} {a : Option Addr} {n c : Nat} {zs : List Int} {w : World} (h : RW S a n c zs w) (hs : ∀ k, S k → S' k) : RW S' a n c zs w := ⟨h.1.mono hs, h.2.1, fun g e => hs g (h.2.2 g e)⟩

theorem RW.room {S : Nat → Prop} {a : Option Addr} {n c : Nat} {zs : List Int} {w : World} (h : RW S a n c zs w) : n ≤ c := by
  rcases h.2.1.2 with ⟨h, h0⟩ | ⟨g, cp, cur, h, _, _, hc, _⟩
  · omega
  · simp only [Value.slice.injEq] at h; omega

theorem owns_base {w : World} {B : Nat} {e : TypeId} {s : Nat} {v : Value} {n : Nat} {xs : List Value} (h : w.ownsRow B e s v n xs) : w.ownsRow 0 e s v n xs :=
  ⟨h.1, h.2.imp id (fun ⟨g, cap, cur, hv, _, r⟩ => ⟨g, cap, cur, hv, Nat.zero_le _, r⟩)⟩

theorem RW.of {w : World} {B : Nat} {v : Value} {n : Nat} {zs : List Int} (hn : n ≤ 1048576) (h : w.ownsRow B 2 1 v n (zs.map (Value.int .i64))) : ∃ a c, v = .slice a n c ∧ RW (InR B w.heap.size) a n c zs w := by
  obtain ⟨a, c, rfl, o⟩ := owns_osl hn h
  exact ⟨a, c, rfl, OS.ofOSl o, owns_base h, fun g e => h.lt g e⟩

theorem RW.nil (S : Nat → Prop) (w : World) {zs : List Int} (h : zs.length = 0) : RW S none 0 0 zs w := by
  obtain rfl := List.length_eq_zero_iff.1 h
  exact ⟨⟨rfl, by omega, .inl rfl⟩, ⟨rfl, .inl ⟨rfl, rfl⟩⟩, fun g e => by cases e⟩

theorem RW.lit (w : World) {zs : List Int} (h : zs.length = 0) : RW (InR w.heap.size (w.alloc (.cells #[] 2)).heap.size) (some ⟨w.heap.size, 0, none⟩) 0 0 zs (w.alloc (.cells #[] 2)) := by
  obtain rfl := List.length_eq_zero_iff.1 h
  have hown := World.ownsRow_lit (base := w.heap.size) (e := 2) (size := 1) w #[] 0 (Nat.le_refl _) (Nat.zero_le _) rfl
  exact ⟨⟨rfl, by omega, .inl rfl⟩, owns_base hown, fun g e => hown.lt g e⟩

theorem RW.allocR {B T B' : Nat} {a : Option Addr} {n c : Nat} {rs : List Int} {w : World} (h : RW (InR B T) a n c rs w) (hB : B' ≤ B) (o : Obj) : RW (InR B' T) a n c rs (w.alloc o) := RW.mono (RW.loc.alloc h o) (fun k hk => ⟨by have := hk.1; omega, hk.2⟩)

theorem RW.set4R {B T B' P : Nat} {a : Option Addr} {n c : Nat} {rs : List Int} {w : World} (h : RW (InR B T) a n c rs w) (hB : B' ≤ B) (hP : P < B ∨ T ≤ P) (v0 v1 v2 v3 : Value) :
    RW (InR B' T) a n c rs ((((w.setCell ⟨P, 0, none⟩ v0).setCell ⟨P, 1, none⟩ v1).setCell ⟨P, 2, none⟩ v2).setCell ⟨P, 3, none⟩ v3) := by
  have hn : ¬ InR B T P := fun e => by have := e.1; have := e.2; omega
  exact RW.mono (RW.loc.setC (RW.loc.setC (RW.loc.setC (RW.loc.setC h hn v0) hn v1) hn v2) hn v3) (fun k hk => ⟨by have := hk.1; omega, hk.2⟩)

theorem RW.app {S : Nat → Prop} {a : Option Addr} {n c g cp : Nat} {zs : List Int} {x : Int} {X w5 : World} (h : RW S a n c zs X) (hg : X.grownBy w5 (Value.slice a n c).ownBlock) (hat : (Value.slice a n c).ownBlock = some g ∨ g = X.heap.size)
    (hown : w5.ownsRow 0 2 1 (.slice (some ⟨g, 0, none⟩) (n + 1) cp) (n + 1) (zs.map (Value.int .i64) ++ [.int .i64 x])) (hn : n + 1 ≤ 1048576) :
    OS (fun k => S k ∨ (k = X.heap.size ∧ k < w5.heap.size)) (some ⟨g, 0, none⟩) (n + 1) (zs ++ [x]) w5 ∧ OutS S X w5 := by
  have hown' : w5.ownsRow 0 2 1 (.slice (some ⟨g, 0, none⟩) (n + 1) cp) (n + 1) ((zs ++ [x]).map (Value.int .i64)) := by simpa using hown
  obtain ⟨g', cap, e, _, _, hl, blk⟩ := owns_blk (by omega) hown'
  simp only [Value.slice.injEq, Option.some.injEq, Addr.mk.injEq] at e
  obtain ⟨⟨rfl, _⟩, _⟩ := e
  refine ⟨OS.ofBlk blk ?_ hl hn, ⟨hg.os, hg.tape, hg.output, hg.size, fun k hk hs => hg.block k hk (fun e => hs (h.2.2 k e.symm))⟩⟩
  rcases hat with hat | hat
  · exact .inl (h.2.2 g hat)
  · exact .inr ⟨hat, blk.1⟩

def Led3 (w0 : Nat) (mo : Option Nat) (ss : List (Int × List Int)) (xa : Option Addr) (xn xc : Nat) (ts : List Int) (ya : Option Addr) (yn yc : Nat) (ds : List Int) (w : World) : Prop :=
  ∃ M X1 X2 X3, mo = some M ∧ w0 ≤ M ∧ M < X1 ∧ X1 ≤ X2 ∧ X2 ≤ X3 ∧ X3 ≤ w.heap.size ∧ w.ownsMap Tryz.prog 149 Rst M ss.length (bk ss ss.length) ∧ RW (InR X1 X2) xa xn xc ts w ∧ RW (InR X2 X3) ya yn yc ds w

theorem Led3.below {w0 : Nat} {mo : Option Nat} {ss : List (Int × List Int)} {xa ya : Option Addr} {xn xc yn yc : Nat} {ts ds : List Int} {w w' : World} (h : Led3 w0 mo ss xa xn xc ts ya yn yc ds w) (hb : Below w.heap.size w w') : Led3 w0 mo ss xa xn xc ts ya yn yc ds w' := by
  obtain ⟨M, X1, X2, X3, h1, h2, h3, h4, h5, h6, h7, h8, h9⟩ := h
  exact ⟨M, X1, X2, X3, h1, h2, h3, h4, h5, by have := hb.size; omega, ownsMap_below h7 hb (Nat.le_refl _), RW.loc.below hb h8, RW.loc.below hb h9⟩

theorem Led3.mono {w0 w1 : Nat} {mo : Option Nat} {ss : List (Int × List Int)} {xa ya : Option Addr} {xn xc yn yc : Nat} {ts ds : List Int} {w : World} (h : Led3 w0 mo ss xa xn xc ts ya yn yc ds w) (hb : w1 ≤ w0) : Led3 w1 mo ss xa xn xc ts ya yn yc ds w := by
  obtain ⟨M, X1, X2, X3, h1, h2, h⟩ := h
  exact ⟨M, X1, X2, X3, h1, by omega, h⟩

theorem Led3.setCell {w0 : Nat} {mo : Option Nat} {ss : List (Int × List Int)} {xa ya : Option Addr} {xn xc yn yc : Nat} {ts ds : List Int} {w : World} (h : Led3 w0 mo ss xa xn xc ts ya yn yc ds w) {p : Addr} (hp : p.block < w0) (v : Value) : Led3 w0 mo ss xa xn xc ts ya yn yc ds (w.setCell p v) := by
  obtain ⟨M, X1, X2, X3, h1, h2, h3, h4, h5, h6, h7, h8, h9⟩ := h
  exact ⟨M, X1, X2, X3, h1, h2, h3, h4, h5, by simpa using h6, h7.setCell (by omega) v, RW.loc.setC h8 (fun e => by have := e.1; omega) v, RW.loc.setC h9 (fun e => by have := e.1; omega) v⟩

/-- what 'openTables' answers, with the room of its lists. -/
def OT3 (ss : List (Int × List Int)) (ts ds : List Int) (w : World) (e : Ending) (w' : World) : Prop :=
  ∃ sz mo xa xn xc ya yn yc, e = .returned (.tuple #[.agg #[.int .i64 sz, .map mo, .slice xa xn xc, .slice ya yn yc], .int .i64 (tabF ss ts ds)]) ∧ Below w.heap.size w w' ∧
    (tabF ss ts ds = 0 → sz = (ss.length : Int) ∧ (xn ≤ xc ∧ yn ≤ yc) ∧ Led3 w.heap.size mo ss xa xn xc ts ya yn yc ds w')

theorem OT3.mk {ss : List (Int × List Int)} {ts ds : List Int} {w w' : World} {e : Ending} (sz : Int) (mo : Option Nat) (xa : Option Addr) (xn xc : Nat) (ya : Option Addr) (yn yc : Nat) (he : e = .returned (.tuple #[.agg #[.int .i64 sz, .map mo, .slice xa xn xc, .slice ya yn yc], .int .i64 (tabF ss ts ds)])) (hb : Below w.heap.size w w')
    (h : tabF ss ts ds = 0 → sz = (ss.length : Int) ∧ (xn ≤ xc ∧ yn ≤ yc) ∧ Led3 w.heap.size mo ss xa xn xc ts ya yn yc ds w') : OT3 ss ts ds w e w' := ⟨sz, mo, xa, xn, xc, ya, yn, yc, he, hb, h⟩

end Go.Proofs.YtnibngigbcakkaaGreat
