import Derived.Test.YtpcdfeccmiiglaaL11P
import Derived.WalkKit
import Derived.ProofKit
import Derived.OpenShut
import Derived.ShutString
import Derived.ChangeOld
import Derived.Below
import Derived.WalkSpells
import Derived.Deep.QuietTactic
import Derived.BigQuiet
import Derived.Deep.RegionWith
import Derived.Deep.WholeRow
import Derived.Deep.DeepCutAuto
import Derived.Deep.RegionHeld2
import Derived.Deep.AppendLies
import Derived.Deep.RegionLaw
namespace Go.Proofs.Ytpcdfeccmiiglaa
open Go.ChangeShapes Go.WideShapes Go.ChangeAt Go.RowKit

/-- an object more at the end of the row, told to the variable. -/
theorem KXb.push {B T T1 KB g c n g' cp : Nat} {la : Nat → Option Addr} {lc : Nat → Nat} {L : List Value} {f : Nat → OB} {Y w5 : World} (h : KXb B T KB g c n la lc L f Y) {x : OB} {xa : Option Addr} {xc : Nat} {da : Option Addr} {dc : Nat}
    (hg5 : Y.grownBy w5 (some g)) (hown : w5.ownsRow B 71 7 (.slice (some ⟨g', 0, none⟩) (n + 1) cp) (n + 1) (L ++ v7 x xa xc da dc)) (hat : some g = some g' ∨ g' = Y.heap.size) (hT : T ≤ T1) (hT1 : T1 ≤ Y.heap.size)
    (hl : OS (fun b => T ≤ b ∧ b < T1) xa x.2.2.2.1.length x.2.2.2.1 Y) (hd : OS (fun b => T ≤ b ∧ b < T1) da x.2.2.2.2.2.2.length x.2.2.2.2.2.2 Y) :
    KXb B w5.heap.size KB g' cp (n + 1) (fun q => if q = 2 * n then xa else if q = 2 * n + 1 then da else la q) (fun q => if q = 2 * n then xc else if q = 2 * n + 1 then dc else lc q) (L ++ v7 x xa xc da dc) (updO f n x) (w5.setCell ⟨KB, 0, none⟩ (.slice (some ⟨g', 0, none⟩) (n + 1) cp)) := by
  have hlen : L.length = n * 7 := h.own.1
  have hsz := hg5.size
  have hKT := h.hK.2
  have hgT := h.hg.2.1
  have hgK := h.hg.2.2
  have hg'K : g' ≠ KB := by
    rcases hat with e | e
    · cases e; exact hgK
    · omega
  have blk : ∀ k, k < Y.heap.size → k ≠ g → w5.heap[k]? = Y.heap[k]? := fun k hk hne => hg5.block k hk (fun e => hne (by cases e; rfl))
  have lt' := (hown.lt g' rfl)
  have hcell5 : w5.cell? ⟨KB, 0, none⟩ = some (.slice (some ⟨g, 0, none⟩) n c) := (World.cell?_of_block (a := ⟨KB, 0, none⟩) (blk KB (by omega) (fun e => hgK e.symm))).trans h.cell
  have hne' : ∀ b, b < T1 → b ≠ g → b ≠ g' := fun b hb hbg e => by
    rcases hat with e2 | e2
    · cases e2; exact hbg e
    · omega
  refine ⟨World.cell?_setCell_same _ _ _ hcell5, by rw [World.frozen?_setCell]; exact (World.frozen?_of_block (a := ⟨KB, 0, none⟩) (blk KB (by omega) (fun e => hgK e.symm))).trans h.fz, ⟨h.hK.1, by omega⟩, ⟨lt'.1, lt'.2, hg'K⟩, ?_, own_of_block hown (Below.heap_setCell _ _ _ _ (by show g' ≠ KB; exact hg'K)), fun i hi j v hv => ?_, fun q hq => ?_⟩
  · rcases hown.2 with ⟨h0, _⟩ | ⟨g2, cap, cur, e0, _, _, hc2, _⟩
    · cases h0
    · cases e0; exact hc2
  · have hj : j < 7 := by have := (List.getElem?_eq_some_iff.1 hv).1; simpa [v7] using this
    by_cases e : i = n
    · subst e
      rw [updO_same] at hv
      rw [if_pos rfl, if_pos rfl, if_neg (by omega), if_pos rfl, if_neg (by omega), if_pos rfl] at hv
      rw [List.getElem?_append_right (by omega), hlen, Nat.add_sub_cancel_left]
      exact hv
    · rw [updO_ne e] at hv
      rw [if_neg (by omega), if_neg (by omega), if_neg (by omega), if_neg (by omega), if_neg (by omega), if_neg (by omega), if_neg (by omega), if_neg (by omega)] at hv
      rw [List.getElem?_append_left (by omega)]
      exact h.x i (by omega) j v hv
  · have e1 : ∀ {a : Option Addr} {zs : List Int} {S : Nat → Prop}, (∀ b, S b → b < T1 ∧ b ≠ g ∧ b ≠ KB) → OS S a zs.length zs Y → OS S a zs.length zs (w5.setCell ⟨KB, 0, none⟩ (.slice (some ⟨g', 0, none⟩) (n + 1) cp)) := fun hS ho =>
      OS.loc.setC (OS.loc Y w5 (fun k hk hlt => blk k hlt (hS k hk).2.1) ho) (fun hk => (hS _ hk).2.2 rfl) _
    by_cases q0 : q = 2 * n
    · subst q0
      have es : sbO (updO f n x) (2 * n) = x.2.2.2.1 := by rw [sbO_l, updO_same]
      rw [es, if_pos rfl]
      exact (e1 (fun _ hb => ⟨hb.2, by omega, by omega⟩) hl).mono (fun b hb => ⟨by have := h.hK.1; omega, by omega, by omega, hne' b hb.2 (by omega)⟩)
    · by_cases q1 : q = 2 * n + 1
      · subst q1
        have es : sbO (updO f n x) (2 * n + 1) = x.2.2.2.2.2.2 := by rw [sbO_d, updO_same]
        rw [es, if_neg (by omega), if_pos rfl]
        exact (e1 (fun _ hb => ⟨hb.2, by omega, by omega⟩) hd).mono (fun b hb => ⟨by have := h.hK.1; omega, by omega, by omega, hne' b hb.2 (by omega)⟩)
      · have es : sbO (updO f n x) q = sbO f q := by
          unfold sbO
          rw [updO_ne (by omega)]
        rw [es, if_neg q0, if_neg q1]
        exact (e1 (fun _ hb => ⟨by omega, hb.2.2.2, hb.2.2.1⟩) (h.os q (by omega))).mono (fun b hb => ⟨hb.1, by omega, hb.2.2.1, hne' b (by omega) hb.2.2.2⟩)

/-- the row of a kernel alone: in block g, its labels and data in others; from B on, below T. -/
structure KRw (B T g c n : Nat) (la : Nat → Option Addr) (lc : Nat → Nat) (L : List Value) (f : Nat → OB) (w : World) : Prop where
  hg : B ≤ g ∧ g < T
  hn : n ≤ c
  own : w.ownsRow B 71 7 (.slice (some ⟨g, 0, none⟩) n c) n L
  x : ∀ i, i < n → ∀ j v, (v7 (f i) (la (2 * i)) (lc (2 * i)) (la (2 * i + 1)) (lc (2 * i + 1)))[j]? = some v → L[i * 7 + j]? = some v
  os : ∀ q, q < 2 * n → OS (fun b => B ≤ b ∧ b < T ∧ b ≠ g) (la q) (sbO f q).length (sbO f q) w

theorem KXb.row {B T KB g c n : Nat} {la : Nat → Option Addr} {lc : Nat → Nat} {L : List Value} {f : Nat → OB} {w : World} (h : KXb B T KB g c n la lc L f w) : KRw B T g c n la lc L f w :=
  ⟨⟨h.hg.1, h.hg.2.1⟩, h.hn, h.own, h.x, fun q hq => (h.os q hq).mono (fun _ hb => ⟨hb.1, hb.2.1, hb.2.2.2⟩)⟩

theorem KRw.keep {B T g c n : Nat} {la : Nat → Option Addr} {lc : Nat → Nat} {L : List Value} {f : Nat → OB} {w w' : World} (h : KRw B T g c n la lc L f w) (hk : ∀ k, B ≤ k → k < T → k < w.heap.size → w'.heap[k]? = w.heap[k]?) : KRw B T g c n la lc L f w' :=
  ⟨h.hg, h.hn, own_of_block h.own (hk g h.hg.1 h.hg.2 (h.own.lt g rfl).2), h.x, fun q hq => OS.loc w w' (fun k e hl => hk k e.1 e.2.1 hl) (h.os q hq)⟩

theorem KRw.mono {B B' T T' g c n : Nat} {la : Nat → Option Addr} {lc : Nat → Nat} {L : List Value} {f : Nat → OB} {w : World} (h : KRw B T g c n la lc L f w) (hB : B' ≤ B) (hT : T ≤ T') : KRw B' T' g c n la lc L f w :=
  ⟨⟨by have := h.hg.1; omega, by have := h.hg.2; omega⟩, h.hn, ⟨h.own.1, by
    rcases h.own.2 with ⟨h0, _⟩ | ⟨g', cap, cur, e0, hb, r⟩
    · cases h0
    · exact .inr ⟨g', cap, cur, e0, by omega, r⟩⟩, h.x, fun q hq => (h.os q hq).mono (fun _ hb => ⟨by omega, by omega, hb.2.2⟩)⟩

/-- the row told to a variable of its own. -/
theorem KRw.box {B T g c n : Nat} {la : Nat → Option Addr} {lc : Nat → Nat} {L : List Value} {f : Nat → OB} {w w' : World} (h : KRw B T g c n la lc L f w) {KB : Nat} (hK : T ≤ KB) (hc : w'.cell? ⟨KB, 0, none⟩ = some (.slice (some ⟨g, 0, none⟩) n c)) (hf : w'.frozen? ⟨KB, 0, none⟩ = false) (hk : ∀ k, B ≤ k → k < T → k < w.heap.size → w'.heap[k]? = w.heap[k]?) : KXb B (KB + 1) KB g c n la lc L f w' := by
  have h2 := h.keep hk
  have hgT := h.hg.2
  exact ⟨hc, hf, ⟨by have := h.hg.1; omega, by omega⟩, ⟨h.hg.1, by omega, by omega⟩, h.hn, h2.own, h2.x, fun q hq => (h2.os q hq).mono (fun b hb => ⟨hb.1, by omega, by omega, hb.2.2⟩)⟩

theorem KXb.first {B T KB N LB : Nat} {W : World} (hc : W.cell? ⟨KB, 0, none⟩ = some (.slice (some ⟨N, 0, none⟩) 1 1)) (hf : W.frozen? ⟨KB, 0, none⟩ = false) (hK : B ≤ KB ∧ KB < T) (hN : B ≤ N ∧ N < T ∧ N ≠ KB) (hL : B ≤ LB ∧ LB < T ∧ LB ≠ KB ∧ LB ≠ N)
    (hown : W.ownsRow B 71 7 (.slice (some ⟨N, 0, none⟩) 1 1) 1 [.int .i64 (-1), .int .i64 0, .int .i64 1, .slice (some ⟨LB, 0, none⟩) 4 4, .int .i64 100, .int .i64 1, .slice none 0 0]) (hb : Blk W LB [2, 2, 2, 2]) :
    KXb B T KB N 1 1 (fun q => if q = 0 then some ⟨LB, 0, none⟩ else none) (fun q => if q = 0 then 4 else 0) [.int .i64 (-1), .int .i64 0, .int .i64 1, .slice (some ⟨LB, 0, none⟩) 4 4, .int .i64 100, .int .i64 1, .slice none 0 0] (fun _ => (-1, 0, 1, [2, 2, 2, 2], 100, 1, [])) W := by
  refine ⟨hc, hf, hK, hN, Nat.le_refl _, hown, fun i hi j v hv => ?_, fun q hq => ?_⟩
  · obtain rfl : i = 0 := by omega
    simpa [v7] using hv
  · rcases (by omega : q = 0 ∨ q = 1) with rfl | rfl
    · exact OS.ofBlk hb hL rfl (by decide)
    · exact ⟨rfl, by decide, .inl rfl⟩

theorem KXb.out {B T KB g c n p : Nat} {la : Nat → Option Addr} {lc : Nat → Nat} {L : List Value} {f : Nat → OB} {w w' : World} (h : KXb B T KB g c n la lc L f w) (ho : Outside p (p + 1) w w') (hp : p < B) : KXb B T KB g c n la lc L f w' :=
  h.keep (fun k hk _ hl => ho.block k hl (.inr (by omega)))

theorem KXb.below {B T KB g c n : Nat} {la : Nat → Option Addr} {lc : Nat → Nat} {L : List Value} {f : Nat → OB} {w w' : World} (h : KXb B T KB g c n la lc L f w) (hb : Below w.heap.size w w') : KXb B T KB g c n la lc L f w' :=
  h.keep (fun k _ _ hl => hb.block k hl)

theorem Outside.transB {p B : Nat} {w u v : World} (h : Outside p (p + 1) w u) (hb : Below B u v) (hB : w.heap.size ≤ B) : Outside p (p + 1) w v :=
  ⟨hb.os.trans h.os, hb.tape.trans h.tape, hb.output.trans h.output, Nat.le_trans h.size hb.size, fun k hk hn => (hb.block k (by omega)).trans (h.block k hk hn)⟩

end Go.Proofs.Ytpcdfeccmiiglaa
