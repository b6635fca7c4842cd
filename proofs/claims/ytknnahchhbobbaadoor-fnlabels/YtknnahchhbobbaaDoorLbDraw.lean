import Derived.Test.YtknnahchhbobbaaDoorRows
import Derived.Test.YtknnahchhbobbaaDoorSep
import Derived.Test.YtknnahchhbobbaaDoorBase
import Derived.Test.YtknnahchhbobbaaDoorApp
import Derived.WalkKit
import Derived.ProofKit
import Derived.OpenShut
import Derived.ShutString
import Derived.ChangeOld
import Derived.Below
import Derived.WalkSpells
import Derived.Deep.QuietTactic
import Derived.BigQuiet
import Derived.Deep.RegionWith
import Derived.Deep.WholeRow
import Derived.Deep.DeepCutAuto
import Derived.Deep.RegionHeld2
import Derived.Deep.AppendLies
import Derived.Deep.RegionLaw
namespace Go.Proofs.YtknnahchhbobbaaDoor
open Go.ChangeShapes Go.WideShapes Go.ChangeAt Go.RowKit

/-- a source at block p: the bytes of a code that lies below p, and where it reads next. -/
def Src (w : World) (p : Nat) (a : Option Addr) (len cap : Nat) (t : Nat) : Prop :=
  p < w.heap.size ∧ w.cell? ⟨p, 0, none⟩ = some (.slice a len cap) ∧ w.cell? ⟨p, 1, none⟩ = some (.int .i64 (t : Int)) ∧ w.frozen? ⟨p, 1, none⟩ = false ∧ len ≤ 1048576 ∧
    (0 < len → ∃ b off, a = some ⟨b, off, none⟩ ∧ b < p ∧ ∀ i, i < len → ∃ v : Int, 0 ≤ v ∧ v ≤ 255 ∧ w.cell? ⟨b, off + i, none⟩ = some (.int .u8 v))

theorem Src.step {w : World} {p : Nat} {a : Option Addr} {len cap t : Nat} (h : Src w p a len cap t) : Src (w.setCell ⟨p, 1, none⟩ (.int .i64 ((t : Int) + 1))) p a len cap (t + 1) := by
  obtain ⟨h1, h2, h3, h4, h5, h6⟩ := h
  refine ⟨by simpa using h1, ?_, ?_, by simpa using h4, h5, fun hp => ?_⟩
  · rw [World.cell?_setCell_other _ _ _ _ (by simp)]; exact h2
  · rw [World.cell?_setCell_same _ _ _ h3]; simp
  · obtain ⟨b, off, e, hb, hc⟩ := h6 hp
    refine ⟨b, off, e, hb, fun i hi => ?_⟩
    obtain ⟨v, v0, v1, hv⟩ := hc i hi
    exact ⟨v, v0, v1, by rw [World.cell?_setCell_other _ _ _ _ (fun e => by injection e with e1; omega)]; exact hv⟩

theorem Src.below {w w' : World} {p : Nat} {a : Option Addr} {len cap t : Nat} (h : Src w p a len cap t) (hb : Below w.heap.size w w') : Src w' p a len cap t := by
  obtain ⟨h1, h2, h3, h4, h5, h6⟩ := h
  refine ⟨by have := hb.size; omega, (hb.cell (p := ⟨p, 0, none⟩) h1).trans h2, (hb.cell (p := ⟨p, 1, none⟩) h1).trans h3, (hb.frozen (p := ⟨p, 1, none⟩) h1).trans h4, h5, fun hp => ?_⟩
  obtain ⟨b, off, e, hb', hc⟩ := h6 hp
  refine ⟨b, off, e, hb', fun i hi => ?_⟩
  obtain ⟨v, v0, v1, hv⟩ := hc i hi
  exact ⟨v, v0, v1, (hb.cell (p := ⟨b, off + i, none⟩) (by show b < _; omega)).trans hv⟩

theorem Src.setCell {w : World} {p : Nat} {a : Option Addr} {len cap t : Nat} (h : Src w p a len cap t) {q : Addr} (hq : p < q.block) (x : Value) : Src (w.setCell q x) p a len cap t := by
  obtain ⟨h1, h2, h3, h4, h5, h6⟩ := h
  refine ⟨by simpa using h1, ?_, ?_, by simpa using h4, h5, fun hp => ?_⟩
  · rw [World.cell?_setCell_other _ _ _ _ (fun e => by rw [e] at hq; simp at hq)]; exact h2
  · rw [World.cell?_setCell_other _ _ _ _ (fun e => by rw [e] at hq; simp at hq)]; exact h3
  · obtain ⟨b, off, e, hb, hc⟩ := h6 hp
    refine ⟨b, off, e, hb, fun i hi => ?_⟩
    obtain ⟨v, v0, v1, hv⟩ := hc i hi
    exact ⟨v, v0, v1, by rw [World.cell?_setCell_other _ _ _ _ (fun e => by rw [e] at hq; simp at hq; omega)]; exact hv⟩

theorem outside_drewN {B T : Nat} {w u : World} (h : Outside B T w u) (n : Nat) : Outside B T w (u.drewN n) := h.trans ⟨rfl, rfl, rfl, Nat.le_refl _, fun _ _ _ => rfl⟩

theorem src_drewN {w : World} {p : Nat} {a : Option Addr} {len cap t : Nat} (h : Src w p a len cap t) (n : Nat) : Src (w.drewN n) p a len cap t := h.below (bdrewN (Below.refl _ _) n)

theorem Src.same {w u : World} {p : Nat} {a : Option Addr} {len cap t : Nat} (h : Src w p a len cap t) (hs : w.heap.size ≤ u.heap.size) (hk : ∀ q : Addr, q.block ≤ p → u.cell? q = w.cell? q ∧ u.frozen? q = w.frozen? q) : Src u p a len cap t := by
  obtain ⟨h1, h2, h3, h4, h5, h6⟩ := h
  refine ⟨by omega, (hk ⟨p, 0, none⟩ (Nat.le_refl _)).1.trans h2, (hk ⟨p, 1, none⟩ (Nat.le_refl _)).1.trans h3, (hk ⟨p, 1, none⟩ (Nat.le_refl _)).2.trans h4, h5, fun hp => ?_⟩
  obtain ⟨b, off, e, hb, hc⟩ := h6 hp
  refine ⟨b, off, e, hb, fun i hi => ?_⟩
  obtain ⟨v, v0, v1, hv⟩ := hc i hi
  exact ⟨v, v0, v1, (hk ⟨b, off + i, none⟩ (by show b ≤ p; omega)).1.trans hv⟩

theorem Outside.setNew {B T : Nat} {w u : World} (h : Outside B T w u) {q : Addr} (hq : w.heap.size ≤ q.block) (v : Value) : Outside B T w (u.setCell q v) :=
  ⟨h.os, h.tape, h.output, by have := h.size; simpa using this, fun k hk hn => (Below.heap_setCell _ _ _ _ (by omega)).trans (h.block k hk hn)⟩

theorem Outside.wide {B T : Nat} {w u v : World} (h : Outside B T w u) (k : Outside B T u v) : Outside B T w v := h.trans k

theorem owns_outside {w u : World} {p B0 : Nat} {e : TypeId} {v : Value} {k : Nat} {L : List Value} (h : w.ownsRow B0 e 1 v k L) (ho : Outside p (p + 1) w u) (hp : p < B0) : u.ownsRow B0 e 1 v k L := by
  obtain ⟨h1, h2⟩ := h
  refine ⟨h1, ?_⟩
  rcases h2 with h2 | ⟨g, cap, cur, hv, hg, hh, r⟩
  · exact .inl h2
  · exact .inr ⟨g, cap, cur, hv, hg, by rw [ho.block g (Array.getElem?_eq_some_iff.1 hh).1 (.inr (by omega))]; exact hh, r⟩

theorem grow_cell' {w1 w2 : World} {o : Obj} {B0 : Nat} {e : TypeId} {v : Value} {k : Nat} {L : List Value} (hown : w1.ownsRow B0 e 1 v k L) (hg : (w1.alloc o).grownBy w2 v.ownBlock) (hs : B0 ≤ w1.heap.size) {q : Addr} (hq : q.block < B0) :
    w2.cell? q = w1.cell? q ∧ w2.frozen? q = w1.frozen? q := by
  have hlt : q.block < w1.heap.size := by omega
  have hne : some q.block ≠ v.ownBlock := fun e => by have := (hown.lt q.block e.symm).1; omega
  have hb : w2.heap[q.block]? = w1.heap[q.block]? := (hg.block q.block (by simp; omega) hne).trans (Below.heap_alloc w1 o q.block hlt)
  exact ⟨World.cell?_of_block hb, World.frozen?_of_block hb⟩

theorem app_stepO {w w1 w2 : World} {o : Obj} {B0 P p : Nat} {e : TypeId} {v nv : Value} {k : Nat} {L L' : List Value} {a : Option Addr} {len cap t : Nat} (ho : Outside p (p + 1) w w1) (hw : w.heap.size ≤ P) (hP : P < B0) (hs : B0 ≤ w1.heap.size) (hp : p < w.heap.size)
    (hv : w1.cell? ⟨P, 0, none⟩ = some v) (hvf : w1.frozen? ⟨P, 0, none⟩ = false) (hown : w1.ownsRow B0 e 1 v k L) (hg : (w1.alloc o).grownBy w2 v.ownBlock) (hown1 : w2.ownsRow B0 e 1 nv (k + 1) L') (hsrc : Src w1 p a len cap t) :
    (w2.setCell ⟨P, 0, none⟩ nv).cell? ⟨P, 0, none⟩ = some nv ∧ (w2.setCell ⟨P, 0, none⟩ nv).frozen? ⟨P, 0, none⟩ = false ∧ (w2.setCell ⟨P, 0, none⟩ nv).ownsRow B0 e 1 nv (k + 1) L' ∧
      (∀ q : Addr, q.block < B0 → q.block ≠ P → (w2.setCell ⟨P, 0, none⟩ nv).cell? q = w1.cell? q ∧ (w2.setCell ⟨P, 0, none⟩ nv).frozen? q = w1.frozen? q) ∧ Outside p (p + 1) w (w2.setCell ⟨P, 0, none⟩ nv) ∧ B0 ≤ (w2.setCell ⟨P, 0, none⟩ nv).heap.size ∧ Src (w2.setCell ⟨P, 0, none⟩ nv) p a len cap t := by
  have g0 := grow_cell' hown hg hs (q := ⟨P, 0, none⟩) hP
  have hsz : w1.heap.size ≤ w2.heap.size := by have := hg.size; simp at this; omega
  have hrest : ∀ q : Addr, q.block < B0 → q.block ≠ P → (w2.setCell ⟨P, 0, none⟩ nv).cell? q = w1.cell? q ∧ (w2.setCell ⟨P, 0, none⟩ nv).frozen? q = w1.frozen? q := fun q hq hne => by
    have g1 := grow_cell' hown hg hs (q := q) hq
    exact ⟨by rw [World.cell?_setCell_other _ _ _ _ (fun h => hne (by rw [← h]))]; exact g1.1, by rw [World.frozen?_setCell]; exact g1.2⟩
  refine ⟨World.cell?_setCell_same _ _ _ (g0.1.trans hv), by rw [World.frozen?_setCell]; exact g0.2.trans hvf, ownsRow_setCell_below hown1 hP _, hrest, ?_, by simp; omega, hsrc.same (by simpa using hsz) (fun q hq => hrest q (by omega) (by omega))⟩
  refine Outside.setNew ?_ (by exact hw) _
  refine ⟨hg.os.trans ho.os, hg.tape.trans ho.tape, hg.output.trans ho.output, by have := ho.size; omega, fun i hi hn => ?_⟩
  have hne : some i ≠ v.ownBlock := fun e => by have := (hown.lt i e.symm).1; omega
  have hi1 : i < w1.heap.size := by have := ho.size; omega
  exact (hg.block i (by simp; omega) hne).trans ((Below.heap_alloc w1 o i hi1).trans (ho.block i hi hn))

theorem ints_snoc (L : List Int) (r : Int) : L.map (Value.int .i64) ++ [.int .i64 r] = (L ++ [r]).map (Value.int .i64) := by simp

theorem six_at {wr : World} {t : TypeId} : ∀ i, i < 6 → ((wr.alloc (.cells #[.int .i64 2, .int .i64 2, .int .i64 2, .int .i64 3, .int .i64 4, .int .i64 1] t)).drew).cell? ⟨wr.heap.size, i, none⟩ = some (.int .i64 (gt [2, 2, 2, 3, 4, 1] i)) := by
  intro i hi
  rw [World.cell?_drew, World.cell?_alloc_new]
  rcases (by omega : i = 0 ∨ i = 1 ∨ i = 2 ∨ i = 3 ∨ i = 4 ∨ i = 5) with rfl | rfl | rfl | rfl | rfl | rfl <;> rfl

theorem Outside.drew {B T : Nat} {w u : World} (h : Outside B T w u) : Outside B T w u.drew := h.trans ⟨rfl, rfl, rfl, Nat.le_refl _, fun _ _ _ => rfl⟩

theorem Outside.cell {B T : Nat} {w u : World} (h : Outside B T w u) {q : Addr} {v : Value} (hq : q.block < w.heap.size) (hn : T ≤ q.block) (hv : w.cell? q = some v) : u.cell? q = some v := (World.cell?_of_block (h.block q.block hq (.inr hn))).trans hv

theorem Outside.frozen {B T : Nat} {w u : World} (h : Outside B T w u) {q : Addr} {v : Bool} (hq : q.block < w.heap.size) (hn : T ≤ q.block) (hv : w.frozen? q = v) : u.frozen? q = v := (World.frozen?_of_block (h.block q.block hq (.inr hn))).trans hv

theorem owns_cap {w : World} {B0 : Nat} {e : TypeId} {v : Value} {n : Nat} {L : List Value} {a : Option Addr} {c : Nat} (h : w.ownsRow B0 e 1 v n L) (hv : v = .slice a n c) : n ≤ c := by
  rcases h.2 with ⟨_, h0⟩ | ⟨g, cap, cur, rfl, _, _, hc, _⟩
  · omega
  · injection hv with _ _ h3; omega

theorem Blk.store {w : World} {b r : Nat} {zs : List Int} {x : Int} (h : Blk w b zs) (hr : r < zs.length) : Blk (w.setCell ⟨b, r, none⟩ (.int .i64 x)) b (zs.set r x) := by
  refine ⟨by simpa using h.1, fun i hi => ?_, fun i => by simpa using h.2.2 i⟩
  simp at hi
  by_cases e : i = r
  · subst e; rw [World.cell?_setCell_same _ _ _ (h.2.1 i hi)]; simp [gt, hi]
  · rw [World.cell?_setCell_other _ _ _ _ (fun h => e (by injection h with _ h2; exact h2.symm)), h.2.1 i hi]
    simp [gt, hi, Ne.symm e]

theorem OSl.four {w : World} {B T : Nat} {a : Option Addr} {zs : List Int} (h : OSl w B T a 4 zs) : ∃ b, a = some ⟨b, 0, none⟩ ∧ B ≤ b ∧ b < T ∧ Blk w b zs ∧ zs.length = 4 := by
  obtain ⟨h1, _, h2⟩ := h
  rcases h2 with ⟨_, h2⟩ | ⟨b, rfl, h3, h5, h4⟩
  · omega
  · exact ⟨b, rfl, h3, h5, h4, h1⟩

theorem Src.out {w u : World} {p : Nat} {a : Option Addr} {len cap t : Nat} (h : Src w p a len cap t) (hb : Below w.heap.size w u) : Src u p a len cap t := h.below hb

theorem Blk.outside {w u : World} {p b : Nat} {zs : List Int} (h : Blk w b zs) (ho : Outside p (p + 1) w u) (hp : p < b) : Blk u b zs := ho.blk h (.inr hp)

theorem idx_lt {r : Int} (h0 : 0 ≤ r) (h4 : r < 4) : r.toNat < 4 := by omega

theorem Src.drew {w : World} {p : Nat} {a : Option Addr} {len cap t : Nat} (h : Src w p a len cap t) : Src w.drew p a len cap t := h.below (Below.refl _ _).drew

theorem mod_nn {x n : Int} (hn : 1 ≤ n) : 0 ≤ x % n := Int.emod_nonneg _ (by omega)

theorem mod_lt {x n : Int} (hn : 1 ≤ n) : x % n < n := Int.emod_lt_of_pos _ (by omega)

set_option maxRecDepth 100000 in
set_option maxHeartbeats 1000000 in
theorem l1Next_calls (p : Nat) (a : Option Addr) (len cap t : Nat) (n : Int) (w : World) (h1 : 1 ≤ n) (h2 : n ≤ 200) (ht : t ≤ 1000000) (hs : Src w p a len cap t) :
    Calls Tryd.prog 25 #[.pointer (some ⟨p, 0, none⟩), .int .i64 n] w fun e w' => ∃ r : Int, e = .returned (.int .i64 r) ∧ 0 ≤ r ∧ r < n ∧ Src w' p a len cap (t + 1) ∧ Outside p (p + 1) w w' := by
  have st := hs.step
  have so : Outside p (p + 1) w (w.setCell ⟨p, 1, none⟩ (.int .i64 ((t : Int) + 1))) := (Outside.refl _ _ _).setCell (Nat.le_refl _) (Nat.lt_succ_self _) _
  obtain ⟨hp, hc0, hc1, hf1, hl, hb⟩ := hs
  have sc1 := st.2.2.1
  have sc0 := st.2.1
  have HST := hide st
  clear st
  have hn1 : ¬ n < 1 := by omega
  have hn2 : ¬ 200 < n := by omega
  by_cases h0 : len = 0
  · subst h0
    go_enter Tryd.func25, Tryd.ntmps25
    go_wp2
    go_ret
    exact ⟨_, rfl, mod_nn h1, mod_lt h1, HST.out, so⟩
  · have h0' : ((len : Int) == 0) = false := by simp; omega
    obtain ⟨b, off, rfl, hbp, hcb⟩ := hb (by omega)
    obtain ⟨v, v0, v1, hv⟩ := hcb (t % len) (Nat.mod_lt _ (by omega))
    have hvs : (w.setCell ⟨p, 1, none⟩ (.int .i64 ((t : Int) + 1))).cell? ⟨b, off + t % len, none⟩ = some (.int .u8 v) := by
      rw [World.cell?_setCell_other _ _ _ _ (fun e => by injection e with e1; omega)]; exact hv
    have hlp : (0 : Int) < (len : Int) := by omega
    have hm0 : 0 ≤ (t : Int) % (len : Int) := Int.emod_nonneg _ (by omega)
    have hm1 : (t : Int) % (len : Int) < (len : Int) := Int.emod_lt_of_pos _ hlp
    have hme : t % len = ((t : Int) % (len : Int)).toNat := by omega
    rw [hme] at hvs
    have htm : (t : Int).tmod (len : Int) = (t : Int) % (len : Int) := Int.tmod_eq_emod_of_nonneg (by omega)
    have htd : (t : Int).tdiv (len : Int) = (t : Int) / (len : Int) := Int.tdiv_eq_ediv_of_nonneg (by omega)
    have hq0 : 0 ≤ (t : Int) / (len : Int) := Int.ediv_nonneg (by omega) (by omega)
    have hq1 : (t : Int) / (len : Int) ≤ 1000000 := Int.le_trans (Int.ediv_le_self _ (by omega)) (by omega)
    clear hcb hb hv hme
    go_enter Tryd.func25, Tryd.ntmps25
    go_wp2_with fail
    go_quiet (fail)
    go_wp2
    go_ret
    exact ⟨_, rfl, mod_nn h1, mod_lt h1, src_drewN HST.out _, outside_drewN so _⟩

set_option maxRecDepth 100000 in
theorem l1Chance_calls (p : Nat) (a : Option Addr) (len cap t : Nat) (n : Int) (w : World) (h1 : 1 ≤ n) (h2 : n ≤ 200) (ht : t ≤ 1000000) (hs : Src w p a len cap t) :
    Calls Tryd.prog 39 #[.pointer (some ⟨p, 0, none⟩), .int .i64 n] w fun e w' => ∃ r : Bool, e = .returned (.bool r) ∧ Src w' p a len cap (t + 1) ∧ Outside p (p + 1) w w' := by
  go_enter Tryd.func39, Tryd.ntmps39
  go_wp2_with fail
  refine (l1Next_calls p a len cap t n _ h1 h2 ht hs).mono ?_
  rintro e w1 ⟨r, rfl, _, _, s1, o1⟩
  go_wp2
  go_ret
  exact ⟨_, rfl, s1, o1⟩

set_option maxRecDepth 100000 in
theorem l1Pick_calls (p : Nat) (a : Option Addr) (len cap t : Nat) (g m mc : Nat) (zs : List Int) (w : World) (hm1 : 1 ≤ m) (hm2 : m ≤ 200) (ht : t ≤ 1000000) (hs : Src w p a len cap t) (hg : p < g) (hgs : g < w.heap.size) (hz : zs.length = m)
    (hc : ∀ i, i < m → w.cell? ⟨g, i, none⟩ = some (.int .i64 (gt zs i))) :
    Calls Tryd.prog 26 #[.pointer (some ⟨p, 0, none⟩), .slice (some ⟨g, 0, none⟩) m mc] w fun e w' => ∃ r : Int, e = .returned (.int .i64 r) ∧ Src w' p a len cap (t + 1) ∧ Outside p (p + 1) w w' := by
  go_enter Tryd.func26, Tryd.ntmps26
  go_wp2_with fail
  refine (l1Next_calls p a len cap t (m : Int) _ (by omega) (by omega) ht hs).mono ?_
  rintro e w1 ⟨r, rfl, r0, r1, s1, o1⟩
  have hcr : w1.cell? ⟨g, r.toNat, none⟩ = some (.int .i64 (gt zs r.toNat)) := (World.cell?_of_block (a := ⟨g, r.toNat, none⟩) (o1.block g hgs (.inr hg))).trans (hc r.toNat (by omega))
  go_wp2
  go_ret
  exact ⟨_, rfl, s1, o1⟩

set_option maxRecDepth 100000 in
theorem l1PickM_calls (p : Nat) (a : Option Addr) (len cap t : Nat) (g m mc : Nat) (zs : List Int) (w : World) (hm1 : 1 ≤ m) (hm2 : m ≤ 200) (ht : t ≤ 1000000) (hs : Src w p a len cap t) (hg : p < g) (hgs : g < w.heap.size) (_ : zs.length = m)
    (hc : ∀ i, i < m → w.cell? ⟨g, i, none⟩ = some (.int .i64 (gt zs i))) :
    Calls Tryd.prog 26 #[.pointer (some ⟨p, 0, none⟩), .slice (some ⟨g, 0, none⟩) m mc] w fun e w' => ∃ j, j < m ∧ e = .returned (.int .i64 (gt zs j)) ∧ Src w' p a len cap (t + 1) ∧ Outside p (p + 1) w w' := by
  go_enter Tryd.func26, Tryd.ntmps26
  go_wp2_with fail
  refine (l1Next_calls p a len cap t (m : Int) _ (by omega) (by omega) ht hs).mono ?_
  rintro e w1 ⟨r, rfl, r0, r1, s1, o1⟩
  have hcr : w1.cell? ⟨g, r.toNat, none⟩ = some (.int .i64 (gt zs r.toNat)) := (World.cell?_of_block (a := ⟨g, r.toNat, none⟩) (o1.block g hgs (.inr hg))).trans (hc r.toNat (by omega))
  go_wp2
  go_ret
  exact ⟨r.toNat, by omega, rfl, s1, o1⟩

end Go.Proofs.YtknnahchhbobbaaDoor
