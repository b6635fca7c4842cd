import Derived.Test.YtgkjmeogdomgmaaL2CopyP
import Derived.Test.YtgkjmeogdomgmaaToReg
import Derived.Deep.Onto
import Derived.WalkKit
import Derived.ProofKit
import Derived.OpenShut
import Derived.ShutString
import Derived.ChangeOld
import Derived.Below
import Derived.WalkSpells
import Derived.Deep.QuietTactic
import Derived.BigQuiet
import Derived.Deep.RegionWith
import Derived.Deep.WholeRow
import Derived.Deep.DeepCutAuto
import Derived.Deep.RegionHeld2
import Derived.Deep.AppendLies
import Derived.Deep.RegionLaw
namespace Go.Proofs.Ytgkjmeogdomgmaa
open Go.ChangeShapes Go.WideShapes Go.ChangeAt Go.RowKit

theorem far_cell {wr X w1 : World} {o : Obj} {B P : Nat} {e : TypeId} {s : Nat} {v : Value} {k : Nat} {xs : List Value} (h : wr.ownsRow B e s v k xs) (hc : Below wr.heap.size wr X) (hg : (X.alloc o).grownBy w1 v.ownBlock) {y : Value} (h1 : wr.cell? ⟨P, 0, none⟩ = some y) (h2 : wr.frozen? ⟨P, 0, none⟩ = false) (hP : P < B) (hB : B ≤ wr.heap.size) : w1.cell? ⟨P, 0, none⟩ = some y ∧ w1.frozen? ⟨P, 0, none⟩ = false := by
  have hb := hc.alloc hc.size o
  have hsz := hb.size
  have far : w1.heap[P]? = wr.heap[P]? := (hg.block P (by omega) (fun e => by have := (h.lt P e.symm).1; omega)).trans (hb.block P (by omega))
  exact ⟨(World.cell?_of_block (a := ⟨P, 0, none⟩) far).trans h1, (World.frozen?_of_block (a := ⟨P, 0, none⟩) far).trans h2⟩

theorem CPr.stepA {w wr X w1 : World} {o : Obj} {a : Option Addr} {n ca : Nat} {ss : List (Int × List Int)} {k : Nat} {v : Value} {la : Nat → Option Addr} {lc lb : Nat → Nat} {xs : List Value} (h : CPx wr (w.heap.size + 1 + 1 + 1) ss k v la lc lb xs)
    (hr : wr.cell? ⟨w.heap.size + 1 + 1, 0, none⟩ = some v ∧ wr.frozen? ⟨w.heap.size + 1 + 1, 0, none⟩ = false ∧ wr.cell? ⟨w.heap.size, 0, none⟩ = some (.slice a n ca) ∧ wr.cell? ⟨w.heap.size + 1, 0, none⟩ = some (.slice none 0 0) ∧ wr.frozen? ⟨w.heap.size + 1, 0, none⟩ = false ∧ Below w.heap.size w wr ∧ w.heap.size + 1 + 1 + 1 ≤ wr.heap.size)
    (hc : Below wr.heap.size wr X) {ra : Option Addr} {ll rc g cp : Nat} (hll : (gl ss k).length = ll) (ho : OS (InR wr.heap.size X.heap.size) ra ll (gl ss k) X) (hg : (X.alloc o).grownBy w1 v.ownBlock) (hat : v.ownBlock = some g ∨ g = X.heap.size + 1)
    (hown : w1.ownsRow (w.heap.size + 1 + 1 + 1) 111 2 (.slice (some ⟨g, 0, none⟩) (k + 1) cp) (k + 1) (xs ++ [.int .i64 (gc ss k), .slice ra ll rc])) :
    CPr w a n ca ss (k + 1) (w1.setCell ⟨w.heap.size + 1 + 1, 0, none⟩ (.slice (some ⟨g, 0, none⟩) (k + 1) cp)) :=
  CPr.step h hr (hc.trans (((Below.refl _ _).alloc (Nat.le_refl _) o).mono hc.size)) hll ((OS.loc.alloc ho o).mono (fun q hq => ⟨hq.1, Nat.lt_of_lt_of_le hq.2 (by simp)⟩)) hg (by rw [World.size_alloc]; exact hat) hown

set_option maxRecDepth 100000 in
set_option maxHeartbeats 4000000 in
theorem l2Copy_R (a : Option Addr) (n ca : Nat) (ss : List (Int × List Int)) (w : World) (hm : n + lenSum ss ≤ 1048576) (hs : Sls w a n ss) :
    Calls Try.prog 69 #[.agg #[.slice a n ca]] w fun e w' => ∃ ra rc, e = .returned (.agg #[.slice ra n rc]) ∧ OR (InR w.heap.size w'.heap.size) ra n ss w' ∧ (∃ xs, w'.ownsRow w.heap.size 111 2 (.slice ra n rc) n xs) ∧ Below w.heap.size w w' := by
  have hlen := hs.1
  obtain ⟨i0, hi, hz0, hz1, hz2⟩ := info_parts infoSlot
  go_enter Try.func69, Try.ntmps69
  go_wp2
  go_loopw [4] (fun i wr => ∃ (k : Nat), k ≤ n ∧ i = .int .i64 k ∧ CPr w a n ca ss k wr) (fun i _ => n - (intOf i).toNat)
  case atStart => exact ⟨0, Nat.zero_le _, rfl, _, _, _, _, _, CPx.start _ _ _, by go_simp, by go_simp, by go_simp, by go_simp, by go_simp, (((Below.refl _ _).alloc (Nat.le_refl _) _).alloc (by simp) _).alloc (by simp; omega) _, by simp⟩
  case round =>
    obtain ⟨k, hk, rfl, v, la, lc, lb, xs, hx, hr⟩ := hrel
    have HX := hide hx
    have HR := hide hr
    obtain ⟨h1, h2, h3, h4, h5, h6, h7⟩ := hr
    clear hx
    by_cases hlt : k < n
    · obtain ⟨b, off, rfl, hb, hc⟩ := hs.2 (by omega)
      obtain ⟨hc0, ra0, ll, rc0, hc1, hll, hsl⟩ := hc k hlt
      have hck0 := (h6.cell (p := ⟨b, off + k * 2, none⟩) hb).trans hc0
      have hck1 := (h6.cell (p := ⟨b, off + k * 2 + 1, none⟩) hb).trans hc1
      have hzl : (gl ss k).length = ll := hsl.1
      have hl2 := gl_le ss k (by omega)
      have HSL := hide ((hsl.below h6 (Nat.le_refl _)).below (Below.refl wr.heap.size wr).drew (Nat.le_refl _))
      have hbr : b < wr.heap.size := by have := h6.size; omega
      have hki : (k : Int) < (n : Int) := by omega
      have H6 := hide h6
      have H7 := hide h7
      clear hc hc0 hc1 hsl h4 h5 h6
      have hS1 : w.heap.size + 1 + 1 < wr.heap.size := by omega
      have hS0 : w.heap.size < wr.heap.size := by omega
      have hS2 : w.heap.size + 1 < wr.heap.size := by omega
      go_wp2_with fail
      go_region_law (first
        | (refine step_append_lies _ rfl _ _ 32 rfl (w.heap.size + 1 + 1 + 1) 111 i0 (.agg #[.int .i64 0, .slice none 0 0]) 2 32 Try.underlying32 hi hz0 hz1 hz2 rfl (by decide) v k xs rfl (HW.out.alloc _) ⟨wc.heap.size, 0, none⟩ 1 1 [.int .i64 (gc ss k), .slice ra ll rc] rfl rfl (two_new (by go_simp) (by go_simp)) (by simp [Value.oneCell']) (by omega) (by unfold maxLen; omega) (by omega) (by simp; omega) (wc.heap.size + 1) (by simp) ?_; intro g cp w1 hown1 hgrow hat hlt1; have HST := hide (CPr.stepA HX.out HR.out HC.out hzl HO.out hgrow hat hown1); obtain ⟨gv1, gv2⟩ := far_cell HX.out.own HC.out hgrow HR.out.1 HR.out.2.1 (by omega) H7.out; clear hown1 hgrow hat)
        | (go_simp; go_at_call 54; refine (l1Copy_O ra0 ll rc0 (gl ss k) _ (by omega) HSL.out).mono ?_; rintro e wc ⟨ra, rc, rfl, os, gw⟩; have k1 := (gw.cell (p := ⟨w.heap.size + 1 + 1, 0, none⟩) (by simpa using hS1)).trans h1; have k2 := (gw.frozen (p := ⟨w.heap.size + 1 + 1, 0, none⟩) (by simpa using hS1)).trans h2; have k3 := (gw.cell (p := ⟨w.heap.size, 0, none⟩) (by simpa using hS0)).trans h3; have k4 := (gw.cell (p := ⟨b, off + k * 2, none⟩) (by simpa using hbr)).trans hck0; have k5 := (gw.cell (p := ⟨b, off + k * 2 + 1, none⟩) (by simpa using hbr)).trans hck1; have HC : Hid (Below wr.heap.size wr wc) := (by have := (Below.refl wr.heap.size wr).drew; exact this.trans gw); have HO : Hid (OS (InR wr.heap.size wc.heap.size) ra ll (gl ss k) wc) := os; have HW := hide (owns_out HX.out.own HC.out); have hS1' : w.heap.size + 1 + 1 < wc.heap.size := (by have := gw.size; simp at this; omega); clear os gw))
      all_goals (
        go_wp2
        go_roundw
        case rel => exact ⟨k + 1, by omega, by go_num, HST.out⟩
        case measure => simp [intOf]; omega)
    · have e : k = n := by omega
      subst e
      obtain ⟨ra, rc, rfl, ho⟩ := HX.out.or hlen hm
      clear hlt
      go_wp2
      refine bodyPost_ret (v := .agg #[.slice ra k rc]) (by simp [results, Try.results69, go_sem, h4]) rfl ⟨ra, rc, rfl, ?_, ⟨xs, World.ownsRow.mono (ownsRow_setCell_below HX.out.own (by show w.heap.size + 1 < w.heap.size + 1 + 1 + 1; omega) _) (by omega)⟩, HR.out.2.2.2.2.2.1.setCell (by show w.heap.size ≤ w.heap.size + 1; omega) _⟩
      exact (OR.loc.setC ho (fun e => by have := e.1; simp at this; omega) _).mono (fun k hk => ⟨by have := hk.1; omega, by simpa using hk.2⟩)

theorem l2Copy_O (a : Option Addr) (n ca : Nat) (ss : List (Int × List Int)) (w : World) (hm : n + lenSum ss ≤ 1048576) (hs : Sls w a n ss) :
    Calls Try.prog 69 #[.agg #[.slice a n ca]] w fun e w' => ∃ ra rc, e = .returned (.agg #[.slice ra n rc]) ∧ OR (InR w.heap.size w'.heap.size) ra n ss w' ∧ Below w.heap.size w w' :=
  (l2Copy_R a n ca ss w hm hs).mono (fun _ _ h => by obtain ⟨ra, rc, e, o, _, g⟩ := h; exact ⟨ra, rc, e, o, g⟩)

end Go.Proofs.Ytgkjmeogdomgmaa
