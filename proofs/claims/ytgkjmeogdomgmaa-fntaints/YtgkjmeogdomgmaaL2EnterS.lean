import Derived.Test.YtgkjmeogdomgmaaL2EnterP
import Derived.Test.YtgkjmeogdomgmaaSpecReg
import Derived.Test.YtgkjmeogdomgmaaToReg
import Derived.Test.YtgkjmeogdomgmaaL1Copy
import Derived.Laws.OwnMore
import Derived.Deep.Onto
import Derived.WalkKit
import Derived.ProofKit
import Derived.OpenShut
import Derived.ShutString
import Derived.ChangeOld
import Derived.Below
import Derived.WalkSpells
import Derived.Deep.QuietTactic
import Derived.BigQuiet
import Derived.Deep.RegionWith
import Derived.Deep.WholeRow
import Derived.Deep.DeepCutAuto
import Derived.Deep.RegionHeld2
import Derived.Deep.AppendLies
import Derived.Deep.RegionLaw
namespace Go.Proofs.Ytgkjmeogdomgmaa
open Go.ChangeShapes Go.WideShapes Go.ChangeAt Go.RowKit

theorem keepQS {X : World} {q r N i1 i2 : Nat} {u v y1 y2 : Value} (hq : q ≠ N) (hr : r ≠ N) (h : X.cell? ⟨q, 0, none⟩ = some u ∧ X.cell? ⟨r, 0, none⟩ = some v) : ((X.setCell ⟨N, i1, none⟩ y1).setCell ⟨N, i2, none⟩ y2).cell? ⟨q, 0, none⟩ = some u ∧ ((X.setCell ⟨N, i1, none⟩ y1).setCell ⟨N, i2, none⟩ y2).cell? ⟨r, 0, none⟩ = some v := by
  have k : ∀ c o, c ≠ N → ((X.setCell ⟨N, i1, none⟩ y1).setCell ⟨N, i2, none⟩ y2).cell? ⟨c, o, none⟩ = X.cell? ⟨c, o, none⟩ := fun c o hc => by
    rw [World.cell?_setCell_other _ _ _ _ (fun e => by injection e with e1 _; exact hc e1.symm), World.cell?_setCell_other _ _ _ _ (fun e => by injection e with e1 _; exact hc e1.symm)]
  exact ⟨(k _ _ hq).trans h.1, (k _ _ hr).trans h.2⟩

/-- q's cells from the second on are as they were. -/
def KQ (q : Nat) (w w' : World) : Prop := ∀ j, (1 ≤ j → w'.cell? ⟨q, j, none⟩ = w.cell? ⟨q, j, none⟩) ∧ w'.frozen? ⟨q, j, none⟩ = w.frozen? ⟨q, j, none⟩

theorem KQ.of_block {q : Nat} {w w' : World} (h : w'.heap[q]? = w.heap[q]?) : KQ q w w' := fun j => ⟨fun _ => World.cell?_of_block (a := ⟨q, j, none⟩) h, World.frozen?_of_block (a := ⟨q, j, none⟩) h⟩

theorem KQ.trans {q : Nat} {w u v : World} (h : KQ q w u) (k : KQ q u v) : KQ q w v := fun j => ⟨fun hj => ((k j).1 hj).trans ((h j).1 hj), (k j).2.trans (h j).2⟩

theorem KQ.set0 {q : Nat} {w u : World} (h : KQ q w u) (v : Value) : KQ q w (u.setCell ⟨q, 0, none⟩ v) := fun j => ⟨fun hj => (World.cell?_setCell_other _ _ _ _ (fun e => by injection e with _ e2; omega)).trans ((h j).1 hj), by rw [World.frozen?_setCell]; exact (h j).2⟩

theorem KQ.setN {q N i : Nat} {w u : World} (h : KQ q w u) (hn : q ≠ N) (v : Value) : KQ q w (u.setCell ⟨N, i, none⟩ v) := h.trans (KQ.of_block (Below.heap_setCell _ _ _ _ (fun e => hn e)))

/-- the registry's variable behind an entering: in its old blocks S or in new ones; its row is its own. -/
def ERs (q B : Nat) (S : Nat → Prop) (ss : List (Int × List Int)) (zs : List Int) (w : World) (e : Ending) (w' : World) : Prop :=
  e = .returned (.int .i64 (if etC ss zs = 0 then (enQ ss zs : Int) else -1)) ∧
    (etC ss zs = 0 → ∃ a' ca', w'.cell? ⟨q, 0, none⟩ = some (.slice a' (enS ss zs).length ca') ∧ OR (fun k => S k ∨ InR w.heap.size w'.heap.size k) a' (enS ss zs).length (enS ss zs) w' ∧ ∃ ys, w'.ownsRow B 111 2 (.slice a' (enS ss zs).length ca') (enS ss zs).length ys) ∧
    (etC ss zs ≠ 0 → Below w.heap.size w w') ∧ OutS (fun k => S k ∨ k = q) w w' ∧ KQ q w w'

theorem enter_layS {S : Nat → Prop} {N n k : Nat} {la : Nat → Option Addr} {lc lb : Nat → Nat} {ss : List (Int × List Int)} {zs : List Int} {w w1 w2 : World} {ra : Option Addr} {rc nb : Nat} (hb : ORb S N n la lc lb (gc ss) (gl ss) w2) (hk : k < n) (h4 : zs.length = 4) (ob : OS (fun j => j = nb ∧ 0 < 4) ra 4 zs w2) (hnb : 0 < 4 → w1.drew.heap.size ≤ nb ∧ nb < w2.heap.size)
    (hz1 : w.heap.size ≤ w1.heap.size) (hSw : ∀ k, S k → k < w.heap.size) (hF : enQ ss zs = k) (hN : enN ss zs = 0) (hlen : ss.length = n) (hL : (enS ss zs).length = n) (hm : n + lenSum (enS ss zs) ≤ 1048576) :
    OR (fun j => S j ∨ InR w.heap.size ((w2.setCell ⟨N, k * 2, none⟩ (.int .i64 1)).setCell ⟨N, k * 2 + 1, none⟩ (.slice ra 4 rc)).heap.size j) (some ⟨N, 0, none⟩) n (enS ss zs) ((w2.setCell ⟨N, k * 2, none⟩ (.int .i64 1)).setCell ⟨N, k * 2 + 1, none⟩ (.slice ra 4 rc)) := by
  have hnb' := hnb (by omega)
  simp only [World.size_drew] at hnb'
  have hNw := hSw N hb.hS
  have hmono : ORb (fun j => S j ∨ InR w.heap.size w2.heap.size j) N n la lc lb (gc ss) (gl ss) w2 := ⟨.inl hb.hS, hb.lt, hb.fz, hb.c0, hb.c1, hb.os, fun i hi hl => .inl (hb.lS i hi hl), hb.ne, hb.ap⟩
  have h := hmono.lay hk (c := 1) (zs := zs) (ra := ra) (rc := rc) (b := nb) (by rw [h4]; exact ob) (fun _ => .inr ⟨by omega, hnb'.2⟩) (fun _ => by omega) (fun j hj hl e => by have := hSw _ (hb.lS j hj hl); omega)
  rw [h4] at h
  have h2 := h.congr (fc' := gc (enS ss zs)) (fl' := gl (enS ss zs)) (fun i hi => by unfold enS; rw [gc_put _ (by omega), hF, hN]; rfl) (fun i hi => by unfold enS; rw [gl_put _ (by omega), hF]; rfl)
  exact (ORb.or h2 hL hm).mono (fun j hj => hj.imp id (fun h => ⟨h.1, by simpa using h.2⟩))

theorem far_qS {w1 X w5 : World} {o : Obj} {S : Nat → Prop} {q : Nat} {v y : Value} (hv : ∀ g, v.ownBlock = some g → S g) (hc : Below w1.heap.size w1 X) (hg : (X.alloc o).grownBy w5 v.ownBlock) (h1 : w1.cell? ⟨q, 0, none⟩ = some y) (h2 : w1.frozen? ⟨q, 0, none⟩ = false) (hT : ¬ S q) (hq : q < w1.heap.size) : w5.cell? ⟨q, 0, none⟩ = some y ∧ w5.frozen? ⟨q, 0, none⟩ = false := by
  have hb := hc.alloc hc.size o
  have hsz := hb.size
  have far : w5.heap[q]? = w1.heap[q]? := (hg.block q (by omega) (fun e => hT (hv q e.symm))).trans (hb.block q hq)
  exact ⟨(World.cell?_of_block (a := ⟨q, 0, none⟩) far).trans h1, (World.frozen?_of_block (a := ⟨q, 0, none⟩) far).trans h2⟩

theorem CPx.ofS {w : World} {S : Nat → Prop} {B n rc : Nat} {ss : List (Int × List Int)} {a : Option Addr} {xs : List Value} (ho : OR S a n ss w) (hS : ∀ k, S k → B ≤ k ∧ k < w.heap.size) (hx : w.ownsRow B 111 2 (.slice a n rc) n xs) : ∃ la lc lb, (∀ j, j < n → 0 < (gl ss j).length → S (lb j)) ∧ CPx w B ss n (.slice a n rc) la lc lb xs := by
  by_cases h0 : n = 0
  · exact ⟨fun _ => none, fun _ => 0, fun _ => 0, fun j hj => by omega, hx, fun j hj => by omega, fun j hj => by omega, fun j hj => by omega, fun j hj => by omega, fun j hj => by omega, fun i j hi => by omega⟩
  · obtain ⟨N, la, lc, lb, rfl, hb⟩ := ho.body (by omega)
    refine ⟨la, lc, lb, fun j hj hl => hb.lS j hj hl, hx, fun j hj => ?_, fun j hj => ?_, hb.os, fun j hj hl => hS _ (hb.lS j hj hl), fun j hj hl e => hb.ne j hj hl (by injection e with e; exact e.symm), hb.ap⟩
    · rw [← hx.cellAt (j * 2) (by omega)]; exact hb.c0 j hj
    · rw [← hx.cellAt (j * 2 + 1) (by omega)]; exact hb.c1 j hj

theorem CPx.orT {wr : World} {B n g cap : Nat} {ss : List (Int × List Int)} {la : Nat → Option Addr} {lc lb : Nat → Nat} {xs : List Value} (h : CPx wr B ss n (.slice (some ⟨g, 0, none⟩) n cap) la lc lb xs) (hn : ss.length = n) (hm : n + lenSum ss ≤ 1048576) {S : Nat → Prop} (hg : S g) (hl : ∀ j, j < n → 0 < (gl ss j).length → S (lb j)) : OR S (some ⟨g, 0, none⟩) n ss wr :=
  ⟨hn, hm, .inr ⟨g, la, lc, lb, rfl, hg, (h.own.lt g rfl).2, h.own.frozenAt, fun i hi => ⟨(h.own.cellAt (i * 2) (by omega)).trans (h.x0 i hi), (h.own.cellAt (i * 2 + 1) (by omega)).trans (h.x1 i hi), h.os i hi, fun l => ⟨hl i hi l, fun e => h.ne i hi l (by rw [e]; rfl)⟩⟩, h.ap⟩⟩

theorem enter_appS {S : Nat → Prop} {q B k g cp rc : Nat} {a ra : Option Addr} {ca : Nat} {la : Nat → Option Addr} {lc lb : Nat → Nat} {rr : List (Int × List Int)} {zs : List Int} {xs : List Value} {w w1 X w5 : World} (h : CPx w1 B rr k (.slice a k ca) la lc lb xs) (hlb : ∀ j, j < k → 0 < (gl rr j).length → S (lb j)) (hvT : ∀ g, (Value.slice a k ca).ownBlock = some g → S g)
    (hG : Below w.heap.size w w1) (hq : q < w.heap.size) (hqS : ¬ S q) (hB : B ≤ w.heap.size) (hc : Below w1.heap.size w1 X) (hll : gl rr k = zs) (h4 : zs.length = 4) (hgc : gc rr k = 1) (ho : OS (InR w1.heap.size X.heap.size) ra 4 zs X) (hg : X.grownBy w5 (Value.slice a k ca).ownBlock) (hat : (Value.slice a k ca).ownBlock = some g ∨ g = X.heap.size)
    (hown : w5.ownsRow B 111 2 (.slice (some ⟨g, 0, none⟩) (k + 1) cp) (k + 1) (xs ++ [.int .i64 1, .slice ra 4 rc])) (hL : rr.length = k + 1) (hm : k + 1 + lenSum rr ≤ 1048576) (hqc : w1.cell? ⟨q, 0, none⟩ = some (.slice a k ca)) (y : Value) (hy : y = .slice (some ⟨g, 0, none⟩) (k + 1) cp) :
    (w5.setCell ⟨q, 0, none⟩ y).cell? ⟨q, 0, none⟩ = some (.slice (some ⟨g, 0, none⟩) (k + 1) cp) ∧ OR (fun j => S j ∨ InR w.heap.size (w5.setCell ⟨q, 0, none⟩ y).heap.size j) (some ⟨g, 0, none⟩) (k + 1) rr (w5.setCell ⟨q, 0, none⟩ y) ∧ (∃ ys, (w5.setCell ⟨q, 0, none⟩ y).ownsRow B 111 2 (.slice (some ⟨g, 0, none⟩) (k + 1) cp) (k + 1) ys) ∧ OutS (fun k => S k ∨ k = q) w (w5.setCell ⟨q, 0, none⟩ y) ∧ KQ q w (w5.setCell ⟨q, 0, none⟩ y) := by
  subst hy
  have z1 := hG.size
  have z2 := hc.size
  have z3 := hg.size
  have hgq : g ≠ q := fun e => by
    rcases hat with hat | hat
    · exact hqS (e ▸ hvT g hat)
    · omega
  have hqb : w5.heap[q]? = w1.heap[q]? := (hg.block q (by omega) (fun e => hqS (hvT q e.symm))).trans (hc.block q (by omega))
  obtain ⟨la', lc', lb', hlb', hx⟩ := h.step2 (by omega) hc (by rw [hll, h4]) (by rw [hll]; exact ho) hg hat (by rw [hgc]; exact hown)
  have hne : ∀ j, j < k + 1 → 0 < (gl rr j).length → lb' j ≠ q := fun j hj hl e => by
    obtain ⟨h1, h2⟩ := hlb' j hj hl (by omega)
    exact hqS (by rw [← e, h2]; exact hlb j h1 hl)
  have hx2 := hx.setFar (P := q) (by intro e; injection e with e; exact hgq e) hne (.slice (some ⟨g, 0, none⟩) (k + 1) cp)
  refine ⟨World.cell?_setCell_same _ _ _ ((World.cell?_of_block (a := ⟨q, 0, none⟩) hqb).trans hqc), ?_, ⟨_, hx2.own⟩, ?_, ((KQ.of_block (hG.block q hq)).trans (KQ.of_block hqb)).set0 _⟩
  · rw [hgc] at hx2
    refine hx2.orT hL hm ?_ (fun j hj hl => ?_)
    · have hgl := hx2.own.lt g rfl
      rcases hat with hat | hat
      · exact .inl (hvT g hat)
      · exact .inr ⟨by omega, hgl.2⟩
    · have hge := hx2.ge j hj hl
      by_cases hlt : lb' j < w1.heap.size
      · obtain ⟨h1, h2⟩ := hlb' j hj hl hlt
        exact .inl (by rw [h2]; exact hlb j h1 hl)
      · exact .inr ⟨by omega, hge.2⟩
  · refine OutS.setCell ((OutS.of_below (hG.mono (Nat.le_refl _))).trans ((OutS.of_below hc).trans ⟨hg.os, hg.tape, hg.output, hg.size, fun j hj hn => hg.block j hj (fun e => hn (.inl (hvT j e.symm)))⟩)) (.inr rfl) _

set_option maxRecDepth 100000 in
set_option maxHeartbeats 2000000 in
theorem l2Enter_S (q r B : Nat) (S : Nat → Prop) (a b : Option Addr) (n ca cb : Nat) (ss : List (Int × List Int)) (zs : List Int) (xs : List Value) (w : World) (hq : q < w.heap.size) (hqS : ¬ S q) (hr : r < w.heap.size) (hrS : ¬ S r) (hBw : B ≤ w.heap.size) (hS : ∀ k, S k → B ≤ k ∧ k < w.heap.size) (hqc : w.cell? ⟨q, 0, none⟩ = some (.slice a n ca)) (hqf : w.frozen? ⟨q, 0, none⟩ = false) (hrc : w.cell? ⟨r, 0, none⟩ = some (.slice b 4 cb))
    (ho : OR S a n ss w) (hown : w.ownsRow B 111 2 (.slice a n ca) n xs) (hvT : ∀ g, (Value.slice a n ca).ownBlock = some g → S g) (good : Good ss) (hy : Sl w b 4 zs) (hz : fault zs = 0) :
    Calls Try.prog 73 #[.pointer (some ⟨q, 0, none⟩), .pointer (some ⟨r, 0, none⟩)] w (ERs q B S ss zs w) := by
  have few := good.few
  have hlen := ho.1
  go_enter Try.func73, Try.ntmps73
  go_wp2_with fail
  refine (l2At_calls q r 0 a b n ca 4 cb ss zs _ (by unfold maxLen; omega) (by unfold maxLen; omega) hq hr hqc hrc ho.sls hy).mono ?_
  rintro e w1 ⟨rfl, g1⟩
  have hz1 := g1.size
  have qc := (g1.cell (p := ⟨q, 0, none⟩) hq).trans hqc
  have qf := (g1.frozen (p := ⟨q, 0, none⟩) hq).trans hqf
  have rc := (g1.cell (p := ⟨r, 0, none⟩) hr).trans hrc
  have o1 := OR.loc.below g1 ho
  have HY := hide (hy.below g1 (Nat.le_refl _))
  have HW := hide (owns_out hown g1)
  have HO1 := hide o1
  have HG := hide g1
  clear g1 hqc hqf hrc ho hown hy
  rcases at2_cases ss zs with ⟨ha, hno⟩ | ⟨j, hj, ha, hh⟩
  · have HQ : Hid (enQ ss zs = fe ss) := if_pos (by omega)
    have HN : Hid (enN ss zs = 0) := if_pos (by omega)
    rw [ha]
    clear hno
    go_wp2
    go_loop [6] (fun i => ∃ k : Nat, k ≤ n ∧ i = .int .i64 k ∧ ∀ j, j < k → gc ss j ≠ 0) (fun i => n - (intOf i).toNat)
    case atStart => exact ⟨0, Nat.zero_le _, rfl, fun j hj => by omega⟩
    case round =>
      obtain ⟨k, hk, rfl, hno⟩ := hrel
      have HNO := hide hno
      clear hno
      by_cases hlt : k < n
      · obtain ⟨N, la, lc, lb, rfl, hb⟩ := o1.body (by omega)
        have k0 := hb.c0 k hlt
        by_cases h0 : gc ss k = 0
        · have e0 : (gc ss k == 0) = true := by simp [h0]
          have HF : Hid (enQ ss zs = k) := HQ.out.trans (fe_eq (by omega) h0 HNO.out)
          have HC : Hid (etC ss zs = 0) := if_neg (fun e => by have := HF.out; have := HN.out; rcases e with e | e <;> omega)
          have HL : Hid ((enS ss zs).length = n) := by
            show (enS ss zs).length = n
            unfold enS
            rw [HF.out, length_layS _ (by omega)]
            omega
          have hm := good_sum (good_enter good hz HC.out)
          rw [HL.out] at hm
          have Hm := hide hm
          have Hlen := hide (fault_len hz)
          have hN := hb.hS
          have hNq : q ≠ N := fun e => hqS (e ▸ hN)
          have hNr : r ≠ N := fun e => hrS (e ▸ hN)
          have HBd := hide hb
          have hqw : q < w1.heap.size := by omega
          have hrw : r < w1.heap.size := by omega
          have HS0 : Hid (w1.drew.cell? ⟨q, 0, none⟩ = some (.slice (some ⟨N, 0, none⟩) n ca) ∧ w1.drew.cell? ⟨r, 0, none⟩ = some (.slice b 4 cb)) := ⟨qc, rc⟩
          clear hb o1 hm
          go_upto_region 11 with fail
          go_cut [] (fun wd => OutS (fun k => S k ∨ k = q) w wd ∧ wd.cell? ⟨q, 0, none⟩ = some (.slice (some ⟨N, 0, none⟩) n ca) ∧ OR (fun k => S k ∨ InR w.heap.size wd.heap.size k) (some ⟨N, 0, none⟩) n (enS ss zs) wd ∧ (∃ ys, wd.ownsRow B 111 2 (.slice (some ⟨N, 0, none⟩) n ca) n ys) ∧ KQ q w wd)
          case first =>
            go_region_held2 (fun w' => w'.cell? ⟨q, 0, none⟩ = some (.slice (some ⟨N, 0, none⟩) n ca) ∧ w'.cell? ⟨r, 0, none⟩ = some (.slice b 4 cb))
              (first | with_reducible exact HS0.out | with_reducible assumption | (with_reducible refine keepQS hNq hNr ?_; with_reducible assumption))
              (first
              | (go_at_call 54; refine (l1Copy_O b 4 cb zs _ (by omega) (HY.out.below (Below.refl w1.heap.size w1).drew (Nat.le_refl _))).mono ?_; rintro e w2 ⟨ra, rc2, rfl, os2, g2⟩; have h12 : Below w1.heap.size w1 w2 := ((Below.refl w1.heap.size w1).drew).trans g2; obtain ⟨nb, ob, hnb⟩ := os2.one; have hs2 : w2.cell? ⟨q, 0, none⟩ = some (.slice (some ⟨N, 0, none⟩) n ca) ∧ w2.cell? ⟨r, 0, none⟩ = some (.slice b 4 cb) := ⟨(h12.cell (p := ⟨q, 0, none⟩) hqw).trans qc, (h12.cell (p := ⟨r, 0, none⟩) hrw).trans rc⟩; have hb2 := HBd.out.below h12; have s0 := hb2.c0 k hlt; have s1 := hb2.c1 k hlt; have t0 := hb2.fz (k * 2); have t1 := hb2.fz (k * 2 + 1); have HST := hide (enter_layS (S := S) (w := w) hb2 hlt Hlen.out ob hnb hz1 (fun k hk => (hS k hk).2) HF.out HN.out hlen HL.out Hm.out (rc := rc2)); have HOut := hide (((OutS.of_below (S := fun k => S k ∨ k = q) HG.out).trans (OutS.of_below h12)).setCell (p := ⟨N, k * 2, none⟩) (.inl hN) (.int .i64 1)); have HWr := hide (((owns_out HW.out h12).stored (k * 2) (.int .i64 1)).1.stored (k * 2 + 1) (.slice ra 4 rc2)).1; have HOut2 := hide (HOut.out.setCell (p := ⟨N, k * 2 + 1, none⟩) (.inl hN) (.slice ra 4 rc2)); have HKQ := hide ((((KQ.of_block (HG.out.block q hq)).trans (KQ.of_block (h12.block q hqw))).setN (i := k * 2) hNq (.int .i64 1)).setN (i := k * 2 + 1) hNq (.slice ra 4 rc2)); clear g2 os2 h12 hb2 ob hnb HOut))
            all_goals go_wp2_with fail
            all_goals go_meet
            all_goals exact ⟨HOut2.out, And.left (by with_reducible assumption), HST.out, ⟨_, HWr.out⟩, HKQ.out⟩
          case rest =>
            obtain ⟨u5, u6, u7, u9, u8⟩ := hcut
            have HU5 := hide u5
            have HU6 := hide u6
            have HU7 := hide u7
            have HU8 := hide u8
            have HU9 := hide u9
            clear u5 u6 u7 u8 u9
            go_wp2
            go_ret
            exact ⟨by rw [HC.out, HF.out]; rfl, fun _ => ⟨_, _, by rw [HL.out]; exact HU6.out, by rw [HL.out]; exact HU7.out, by rw [HL.out]; exact HU9.out⟩, fun h => absurd HC.out h, HU5.out, HU8.out⟩
        · have e0 : (gc ss k == 0) = false := by simp [h0]
          clear hb
          go_wp2
          go_round
          case rel => exact ⟨k + 1, by omega, by go_num, fun j hj => by (by_cases e : j = k); (rw [e]; exact h0); exact HNO.out j (by omega)⟩
          case measure => simp [intOf]; omega
      · have e : k = n := by omega
        subst e
        have HF : Hid (enQ ss zs = k) := HQ.out.trans ((fe_all (fun j hj => HNO.out j (by omega))).trans hlen)
        by_cases h10 : 10 ≤ k
        · have HC : Hid (etC ss zs = 7) := if_pos (.inl (by have := HF.out; omega))
          have ed : decide ((10 : Int) ≤ (k : Int)) = true := by simp; omega
          clear o1
          go_wp2
          go_ret
          exact ⟨by rw [HC.out]; rfl, fun h => absurd (HC.out.symm.trans h) (by decide), fun _ => HG.out, OutS.of_below HG.out, KQ.of_block (HG.out.block q hq)⟩
        · have ed : decide ((10 : Int) ≤ (k : Int)) = false := by simp; omega
          have HC : Hid (etC ss zs = 0) := if_neg (fun e => by have := HF.out; have := HN.out; rcases e with e | e <;> omega)
          have HL : Hid ((enS ss zs).length = k + 1) := by
            show (enS ss zs).length = k + 1
            unfold enS
            rw [HF.out, length_layS _ (by omega)]
            omega
          have hm := good_sum (good_enter good hz HC.out)
          rw [HL.out] at hm
          obtain ⟨i0, hi, hz0, hzz1, hzz2⟩ := info_parts infoSlot
          obtain ⟨la, lc, lb, hlb, hx⟩ := CPx.ofS o1 (fun k hk => ⟨(hS k hk).1, Nat.lt_of_lt_of_le (hS k hk).2 hz1⟩) HW.out
          have hgl : ∀ j, j < k → gl ss j = gl (enS ss zs) j := fun j hj => by unfold enS; rw [gl_put _ (by have := HF.out; omega), if_neg (by have := HF.out; omega)]
          have HX := hide (hx.congr (rr := enS ss zs) (fun j hj => by unfold enS; rw [gc_put _ (by have := HF.out; omega), if_neg (by have := HF.out; omega)]) hgl)
          have HLb : Hid (∀ j, j < k → 0 < (gl (enS ss zs) j).length → S (lb j)) := fun j hj hl => hlb j hj (by rw [hgl j hj]; exact hl)
          have HG4 : Hid (gl (enS ss zs) k = zs) := by show gl _ _ = _; unfold enS; rw [gl_put _ (by have := HF.out; omega), if_pos HF.out.symm]
          have HG1 : Hid (gc (enS ss zs) k = 1) := by show gc _ _ = _; unfold enS; rw [gc_put _ (by have := HF.out; omega), if_pos HF.out.symm, HN.out]; rfl
          have Hm := hide hm
          have Hlen := hide (fault_len hz)
          have HvT := hide hvT
          have hqw : q < w1.heap.size := by omega
          have hrw : r < w1.heap.size := by omega
          have hBw1 : B ≤ w1.heap.size := by omega
          have HQc := hide qc
          clear hx hlb hgl hm o1 hvT
          go_upto_region 15 with fail
          go_cut [] (fun wd => ∃ g cp, wd.cell? ⟨q, 0, none⟩ = some (.slice (some ⟨g, 0, none⟩) (k + 1) cp) ∧ OR (fun j => S j ∨ InR w.heap.size wd.heap.size j) (some ⟨g, 0, none⟩) (k + 1) (enS ss zs) wd ∧ (∃ ys, wd.ownsRow B 111 2 (.slice (some ⟨g, 0, none⟩) (k + 1) cp) (k + 1) ys) ∧ OutS (fun k => S k ∨ k = q) w wd ∧ KQ q w wd)
          case first =>
            go_region_law (first
              | (refine step_append_lies _ rfl _ _ 32 rfl B 111 i0 (.agg #[.int .i64 0, .slice none 0 0]) 2 32 Try.underlying32 hi hz0 hzz1 hzz2 rfl (by decide) (.slice a k ca) k xs rfl (HWc.out.alloc _) ⟨wc.heap.size, 0, none⟩ 1 1 [.int .i64 1, .slice ra 4 rc2] rfl rfl (two_new (by go_simp) (by go_simp)) (by simp [Value.oneCell']) (by omega) (by unfold maxLen; omega) (by omega) (by simp; omega) (wc.heap.size + 1) (by simp) ?_; intro g cp w5 hown5 hgrow hat hlt5; have gq : w5.cell? ⟨q, 0, none⟩ = some (.slice a k ca) ∧ w5.frozen? ⟨q, 0, none⟩ = false := (far_qS HvT.out HCc.out hgrow HQc.out qf hqS hqw); obtain ⟨gv1, gv2⟩ := gq; have HST := hide (enter_appS HX.out HLb.out HvT.out HG.out hq hqS hBw (HCc.out.trans (((Below.refl _ _).alloc (Nat.le_refl _) _).mono HCc.out.size)) HG4.out Hlen.out HG1.out ((OS.loc.alloc HOc.out _).mono (fun q hq => ⟨hq.1, Nat.lt_of_lt_of_le hq.2 (by simp)⟩)) hgrow (by rw [World.size_alloc]; exact hat) hown5 HL.out Hm.out HQc.out _ rfl); clear hown5 hgrow hat)
              | (go_simp; go_at_call 54; refine (l1Copy_O b 4 cb zs _ (by omega) (HY.out.below (Below.refl w1.heap.size w1).drew (Nat.le_refl _))).mono ?_; rintro e wc ⟨ra, rc2, rfl, os, gw⟩; have k1 := (gw.cell (p := ⟨q, 0, none⟩) (by simpa using hqw)).trans qc; have k2 := (gw.frozen (p := ⟨q, 0, none⟩) (by simpa using hqw)).trans qf; have k3 := (gw.cell (p := ⟨r, 0, none⟩) (by simpa using hrw)).trans rc; have HCc : Hid (Below w1.heap.size w1 wc) := (by have := (Below.refl w1.heap.size w1).drew; exact this.trans gw); have HOc : Hid (OS (InR w1.heap.size wc.heap.size) ra 4 zs wc) := os; have HWc := hide (owns_out HW.out HCc.out); have hqw' : q < wc.heap.size := (by have := gw.size; simp at this; omega); have hBc : B ≤ wc.heap.size := Nat.le_trans hBw1 HCc.out.size; clear os gw))
            all_goals go_wp2_with fail
            all_goals go_meet
            all_goals exact ⟨_, _, HST.out⟩
          case rest =>
            obtain ⟨g, cp, c5, o5, r5, u5, v5⟩ := hcut
            have HR5 := hide r5
            clear r5
            have HO5 := hide o5
            have HU5 := hide u5
            have HC5 := hide c5
            have HV5 := hide v5
            clear o5 u5 v5
            go_wp2
            go_ret
            exact ⟨by rw [HC.out, HF.out]; simp [go_sem], fun _ => ⟨_, _, by rw [HL.out]; exact HC5.out, by rw [HL.out]; exact HO5.out, by rw [HL.out]; exact HR5.out⟩, fun h => absurd HC.out h, HU5.out, HV5.out⟩
  · have hg : 0 < gc ss j ∧ gl ss j = zs := by simpa [hit] using hh
    have e1 : enQ ss zs = j := by unfold enQ; rw [if_neg (by omega), ha]; omega
    have e2 : enN ss zs = gc ss j := by unfold enN; rw [if_neg (by omega), ha]; rfl
    have t9 := good.top j hj
    rw [ha]
    obtain ⟨N, la, lc, lb, rfl, hb⟩ := o1.body (by omega)
    have k0 := hb.c0 j (by omega)
    have f0 := hb.fz (j * 2)
    have hN := hb.hS
    clear hh
    by_cases h99 : gc ss j = 99
    · have eg : decide (99 ≤ gc ss j) = true := by simp; omega
      have HC : Hid (etC ss zs = 7) := if_pos (.inr (e2.trans h99))
      clear hb o1
      go_wp2
      go_ret
      exact ⟨by rw [HC.out]; rfl, fun h => absurd (HC.out.symm.trans h) (by decide), fun _ => HG.out, OutS.of_below HG.out, KQ.of_block (HG.out.block q hq)⟩
    · have HC : Hid (etC ss zs = 0) := if_neg (fun e => by rcases e with e | e; omega; omega)
      have HL : Hid ((enS ss zs).length = n) := by
        show (enS ss zs).length = n
        unfold enS
        rw [e1, length_layS _ (by omega)]
        omega
      have hm := good_sum (good_enter good hz HC.out)
      have HR := hide (ORb.or ((hb.setCount (by omega : j < n) (gc ss j + 1)).congr (fc' := gc (enS ss zs)) (fl' := gl (enS ss zs)) (fun i hi => by unfold enS; rw [gc_put _ (by omega), e1, e2]; rfl) (fun i hi => by unfold enS; rw [gl_put _ (by omega), e1]; split; (rename_i e; rw [e]; exact hg.2); rfl)) HL.out (by rw [HL.out] at hm; exact hm))
      have HQ : Hid (enQ ss zs = j) := e1
      have HOut := hide (OutS.setCell (OutS.of_below (S := fun k => S k ∨ k = q) HG.out) (p := ⟨N, j * 2, none⟩) (.inl hN) (.int .i64 (gc ss j + 1)))
      have hNq : N ≠ q := fun e => hqS (e ▸ hN)
      have HWr := hide (HW.out.stored (j * 2) (.int .i64 (gc ss j + 1))).1
      have HKQ := hide ((KQ.of_block (HG.out.block q hq)).setN (i := j * 2) hNq.symm (.int .i64 (gc ss j + 1)))
      clear hb o1 hm
      go_wp2
      go_ret
      exact ⟨by rw [HC.out, HQ.out]; rfl, fun _ => ⟨some ⟨N, 0, none⟩, ca, by rw [HL.out]; exact (World.cell?_setCell_other _ _ _ _ (fun e => by injection e with e1 _; exact hNq e1)).trans qc, by rw [HL.out]; exact HR.out.mono (fun k hk => .inl hk), by rw [HL.out]; exact ⟨_, HWr.out⟩⟩, fun h => absurd HC.out h, HOut.out, HKQ.out⟩

end Go.Proofs.Ytgkjmeogdomgmaa
