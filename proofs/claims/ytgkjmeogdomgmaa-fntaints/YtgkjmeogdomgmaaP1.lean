import Derived.Test.YtgkjmeogdomgmaaSpecReg
import Derived.Test.YtgkjmeogdomgmaaBookReg
import Derived.Test.YtgkjmeogdomgmaaL2EnterS
import Derived.Test.YtgkjmeogdomgmaaLbDrawM2
import Derived.Laws.OwnMore
import Derived.WalkKit
import Derived.ProofKit
import Derived.OpenShut
import Derived.ShutString
import Derived.ChangeOld
import Derived.Below
import Derived.WalkSpells
import Derived.Deep.QuietTactic
import Derived.BigQuiet
import Derived.Deep.RegionWith
import Derived.Deep.WholeRow
import Derived.Deep.DeepCutAuto
import Derived.Deep.RegionHeld2
import Derived.Deep.AppendLies
import Derived.Deep.RegionLaw
namespace Go.Proofs.Ytgkjmeogdomgmaa
open Go.ChangeShapes Go.WideShapes Go.ChangeAt Go.RowKit

def laC (ss : List (Int × List Int)) (p : Int) : Int := if faultR ss = 0 then atC ss p else faultR ss

def laL (ss : List (Int × List Int)) (p : Int) : List Int := if laC ss p = 0 then gl ss p.toNat else []

theorem laC_ok {ss : List (Int × List Int)} {p : Int} (h : faultR ss = 0) : laC ss p = atC ss p := if_pos h

theorem laC_bad {ss : List (Int × List Int)} {p : Int} (h : faultR ss ≠ 0) : laC ss p = faultR ss := if_neg h

theorem laL_no {ss : List (Int × List Int)} {p : Int} (h : laC ss p ≠ 0) : laL ss p = [] := if_neg h

theorem laL_at {ss : List (Int × List Int)} {p : Int} (h : faultR ss = 0) : laL ss p = atL ss p := by
  unfold laL atL
  rw [laC_ok h]

theorem laC_zero {ss : List (Int × List Int)} {p : Int} (h : laC ss p = 0) : faultR ss = 0 ∧ ∃ q : Nat, p = (q : Int) ∧ q < ss.length ∧ 0 < gc ss q ∧ laL ss p = gl ss q ∧ fault (gl ss q) = 0 := by
  have hr : faultR ss = 0 := by
    by_cases hr : faultR ss = 0
    · exact hr
    · rw [laC_bad hr] at h
      exact absurd h hr
  refine ⟨hr, p.toNat, ?_⟩
  have g := good_of hr
  have h2 := h
  rw [laC_ok hr] at h2
  unfold atC at h2
  split at h2
  · cases h2
  · split at h2
    · cases h2
    · rename_i h3 h4
      have hp : 0 < gc ss p.toNat := by have := g.low p.toNat (by omega); omega
      exact ⟨by omega, by omega, hp, if_pos h, g.right _ (by omega) hp⟩

theorem ORb.drop {S : Nat → Prop} {N n : Nat} {la : Nat → Option Addr} {lc lb : Nat → Nat} {fc : Nat → Int} {fl : Nat → List Int} {w : World} (h : ORb S N n la lc lb fc fl w) {i : Nat} (hi : i < n) : ORb S N n (upd la i none) (upd lc i 0) lb fc (upd fl i []) (w.setCell ⟨N, i * 2 + 1, none⟩ (.slice none 0 0)) := by
  have hl : ∀ j, 0 < (upd fl i [] j).length → j ≠ i ∧ 0 < (fl j).length := fun j hj => by
    unfold upd at hj
    by_cases e : j = i
    · rw [if_pos e] at hj; simp at hj
    · rw [if_neg e] at hj; exact ⟨e, hj⟩
  refine ⟨h.hS, by simpa using h.lt, fun j => by simpa using h.fz j, fun j hj => ?_, fun j hj => ?_, fun j hj => ?_, fun j hj l => h.lS j hj (hl j l).2, fun j hj l => h.ne j hj (hl j l).2, fun a b ha hb e x y => h.ap a b ha hb e (hl a x).2 (hl b y).2⟩
  · rw [World.cell?_setCell_other _ _ _ _ (fun h => by injection h with _ h2; omega)]; exact h.c0 j hj
  · unfold upd
    by_cases e : j = i
    · subst e; rw [if_pos rfl, if_pos rfl, if_pos rfl]; exact World.cell?_setCell_same _ _ _ (h.c1 j hj)
    · rw [if_neg e, if_neg e, if_neg e, World.cell?_setCell_other _ _ _ _ (fun h => by injection h with _ h2; omega)]; exact h.c1 j hj
  · unfold upd
    by_cases e : j = i
    · subst e; simp only [if_true]; exact ⟨rfl, by simp, .inl rfl⟩
    · simp only [if_neg e]
      exact OS.loc w _ (fun k hk _ => Below.heap_setCell _ _ _ _ (fun e => h.ne j hj hk.2 (hk.1.symm.trans e))) (h.os j hj)

set_option maxRecDepth 100000 in
theorem l2Leave_O (q : Nat) (S : Nat → Prop) (a : Option Addr) (n ca : Nat) (ss : List (Int × List Int)) (p : Nat) (w : World) (hqc : w.cell? ⟨q, 0, none⟩ = some (.slice a n ca)) (ho : OR S a n ss w) (hS : ¬ S q) (hp : p < n) (h1 : 1 ≤ gc ss p) (h9 : gc ss p ≤ 99) (hm : n + lenSum (leaveS ss p) ≤ 1048576) :
    Calls Try.prog 72 #[.pointer (some ⟨q, 0, none⟩), .int .i64 p] w fun e w' => e = .returned (.tuple #[]) ∧ OR S a n (leaveS ss p) w' ∧ OutS S w w' := by
  have hlen := ho.1
  obtain ⟨N, la, lc, lb, rfl, hb⟩ := ho.body (by omega)
  have hN := hb.hS
  have k0 := hb.c0 p hp
  have k1 := hb.c1 p hp
  have f0 := hb.fz (p * 2)
  have f1 := hb.fz (p * 2 + 1)
  have hqN : q ≠ N := fun e => hS (e ▸ hN)
  have hbd := ho.2.1
  have hps : p < ss.length := by omega
  have HO := hide ((OutS.refl S w).setCell (p := ⟨N, p * 2, none⟩) hN (.int .i64 (gc ss p - 1)))
  by_cases hg : gc ss p = 1
  · have e0 : (gc ss p - 1 == 0) = true := by simp [hg]
    have HR := hide (((hb.setCount hp 0).drop hp).congr (fc' := gc (leaveS ss p)) (fl' := gl (leaveS ss p)) (fun i hi => by rw [gc_leave hps, hg]; rfl) (fun i hi => by rw [gl_leave hps, if_pos hg]; rfl)).or
    have HO2 := hide (((OutS.refl S w).setCell (p := ⟨N, p * 2, none⟩) hN (.int .i64 0)).setCell (p := ⟨N, p * 2 + 1, none⟩) hN (.slice none 0 0))
    clear hb ho HO
    go_enter Try.func72, Try.ntmps72
    go_wp2
    refine bodyPost_end (v := .tuple #[]) (by simp [results, Try.results72, go_sem]) rfl ⟨rfl, HR.out (by rw [length_leaveS]; exact hlen) hm, HO2.out⟩
  · have e0 : (gc ss p - 1 == 0) = false := by simp; omega
    have HR := hide ((hb.setCount hp (gc ss p - 1)).congr (fc' := gc (leaveS ss p)) (fl' := gl (leaveS ss p)) (fun i hi => by rw [gc_leave hps]; rfl) (fun i hi => by rw [gl_leave hps, if_neg hg]; split <;> simp_all)).or
    clear hb ho
    go_enter Try.func72, Try.ntmps72
    go_wp2
    refine bodyPost_end (v := .tuple #[]) (by simp [results, Try.results72, go_sem]) rfl ⟨rfl, HR.out (by rw [length_leaveS]; exact hlen) hm, HO.out⟩

def lvR (ss : List (Int × List Int)) (p : Int) : Int := if laC ss p = 0 then gc ss p.toNat - 1 else 0

def lvL (ss : List (Int × List Int)) (p : Int) : List (Int × List Int) := if laC ss p = 0 then leaveS ss p.toNat else []

set_option maxRecDepth 100000 in
theorem l2Bad_calls (c : Int) (w : World) :
    Calls Try.prog 124 #[.int .i64 c] w fun e w' => e = .returned (.agg #[.int .i64 c, .int .i64 0, .slice none 0 0]) ∧ Below w.heap.size w w' := by
  have M0 := (Mm.start w).alloc3 (.int .i64 0) (.int .i64 0) (.slice none 0 0) 160
  go_enter Try.func124, Try.ntmps124
  go_wp2
  refine bodyPost_ret (v := .agg #[.int .i64 c, .int .i64 0, .slice none 0 0]) (by simp [results, Try.results124, go_sem]) rfl ⟨rfl, ?_⟩
  exact (Below.refl _ _).alloc (Nat.le_refl _) _

theorem OR.nil (S : Nat → Prop) (a : Option Addr) (w : World) : OR S a 0 [] w := ⟨rfl, by simp [lenSum], .inl rfl⟩

theorem OR.set3 {S : Nat → Prop} {a : Option Addr} {n : Nat} {ss : List (Int × List Int)} {w : World} (h : OR S a n ss w) {P : Nat} (hP : ¬ S P) (x y z : Value) : OR S a n ss (((w.setCell ⟨P, 0, none⟩ x).setCell ⟨P, 1, none⟩ y).setCell ⟨P, 2, none⟩ z) :=
  OR.loc.setC (OR.loc.setC (OR.loc.setC h hP x) hP y) hP z

set_option maxRecDepth 100000 in
theorem l2Leave_R (q B : Nat) (S : Nat → Prop) (a : Option Addr) (n ca : Nat) (ss : List (Int × List Int)) (p : Nat) (w : World) (hqc : w.cell? ⟨q, 0, none⟩ = some (.slice a n ca)) (ho : OR S a n ss w) (hrow : ∃ xs, w.ownsRow B 111 2 (.slice a n ca) n xs) (hS : ¬ S q) (hp : p < n) (h1 : 1 ≤ gc ss p) (h9 : gc ss p ≤ 99) (hm : n + lenSum (leaveS ss p) ≤ 1048576) :
    Calls Try.prog 72 #[.pointer (some ⟨q, 0, none⟩), .int .i64 p] w fun e w' => e = .returned (.tuple #[]) ∧ OR S a n (leaveS ss p) w' ∧ (∃ xs, w'.ownsRow B 111 2 (.slice a n ca) n xs) ∧ OutS S w w' := by
  have hlen := ho.1
  obtain ⟨N, la, lc, lb, rfl, hb⟩ := ho.body (by omega)
  have hN := hb.hS
  obtain ⟨xs, hxs⟩ := hrow
  have k0 := hb.c0 p hp
  have k1 := hb.c1 p hp
  have f0 := hb.fz (p * 2)
  have f1 := hb.fz (p * 2 + 1)
  have hqN : q ≠ N := fun e => hS (e ▸ hN)
  have hbd := ho.2.1
  have hps : p < ss.length := by omega
  have HO := hide ((OutS.refl S w).setCell (p := ⟨N, p * 2, none⟩) hN (.int .i64 (gc ss p - 1)))
  by_cases hg : gc ss p = 1
  · have e0 : (gc ss p - 1 == 0) = true := by simp [hg]
    have HR := hide (((hb.setCount hp 0).drop hp).congr (fc' := gc (leaveS ss p)) (fl' := gl (leaveS ss p)) (fun i hi => by rw [gc_leave hps, hg]; rfl) (fun i hi => by rw [gl_leave hps, if_pos hg]; rfl)).or
    have HO2 := hide (((OutS.refl S w).setCell (p := ⟨N, p * 2, none⟩) hN (.int .i64 0)).setCell (p := ⟨N, p * 2 + 1, none⟩) hN (.slice none 0 0))
    have HW := hide (((hxs.stored (p * 2) (.int .i64 0)).1).stored (p * 2 + 1) (.slice none 0 0)).1
    clear hb ho HO hxs
    go_enter Try.func72, Try.ntmps72
    go_wp2
    refine bodyPost_end (v := .tuple #[]) (by simp [results, Try.results72, go_sem]) rfl ⟨rfl, HR.out (by rw [length_leaveS]; exact hlen) hm, ⟨_, HW.out⟩, HO2.out⟩
  · have e0 : (gc ss p - 1 == 0) = false := by simp; omega
    have HR := hide ((hb.setCount hp (gc ss p - 1)).congr (fc' := gc (leaveS ss p)) (fl' := gl (leaveS ss p)) (fun i hi => by rw [gc_leave hps]; rfl) (fun i hi => by rw [gl_leave hps, if_neg hg]; split <;> simp_all)).or
    have HW := hide (hxs.stored (p * 2) (.int .i64 (gc ss p - 1))).1
    clear hb ho hxs
    go_enter Try.func72, Try.ntmps72
    go_wp2
    refine bodyPost_end (v := .tuple #[]) (by simp [results, Try.results72, go_sem]) rfl ⟨rfl, HR.out (by rw [length_leaveS]; exact hlen) hm, ⟨_, HW.out⟩, HO.out⟩

/-- a registry's variable at block q: its row and its labels in blocks of S behind q, the row its own, the registry right. -/
structure RV (q : Nat) (S : Nat → Prop) (ra : Option Addr) (n rc : Nat) (ss : List (Int × List Int)) (X : World) : Prop where
  c : X.cell? ⟨q, 0, none⟩ = some (.slice ra n rc)
  f : X.frozen? ⟨q, 0, none⟩ = false
  o : OR S ra n ss X
  row : ∃ ys, X.ownsRow (q + 1) 111 2 (.slice ra n rc) n ys
  vT : ∀ g, (Value.slice ra n rc).ownBlock = some g → S g
  sS : ∀ k, S k → q + 1 ≤ k ∧ k < X.heap.size
  good : Good ss
  lt : q < X.heap.size

theorem own_keepS {w u : World} {B m k : Nat} {e : TypeId} {v : Value} {L : List Value} (h : w.ownsRow B e m v k L) (hk : ∀ g, v.ownBlock = some g → u.heap[g]? = w.heap[g]?) : u.ownsRow B e m v k L := by
  obtain ⟨h1, h2⟩ := h
  refine ⟨h1, ?_⟩
  rcases h2 with h2 | ⟨g, cap, cur, hv, hg, hh, r⟩
  · exact .inl h2
  · exact .inr ⟨g, cap, cur, hv, hg, by rw [hk g (by rw [hv]; rfl)]; exact hh, r⟩

theorem RV.keep {q : Nat} {S : Nat → Prop} {ra : Option Addr} {n rc : Nat} {ss : List (Int × List Int)} {X Y : World} (h : RV q S ra n rc ss X) (hz : X.heap.size ≤ Y.heap.size) (hk : ∀ k, q ≤ k → k < X.heap.size → Y.heap[k]? = X.heap[k]?) : RV q S ra n rc ss Y := by
  obtain ⟨ys, hr⟩ := h.row
  exact ⟨(World.cell?_of_block (a := ⟨q, 0, none⟩) (hk q (Nat.le_refl _) h.lt)).trans h.c, (World.frozen?_of_block (a := ⟨q, 0, none⟩) (hk q (Nat.le_refl _) h.lt)).trans h.f, OR.loc X Y (fun k hS hl => hk k (by have := (h.sS k hS).1; omega) hl) h.o, ⟨ys, own_keepS hr (fun g hg => hk g (by have := (hr.lt g hg).1; omega) (hr.lt g hg).2)⟩, h.vT, fun k hS => ⟨(h.sS k hS).1, by have := (h.sS k hS).2; omega⟩, h.good, by have := h.lt; omega⟩

theorem RV.below {q : Nat} {S : Nat → Prop} {ra : Option Addr} {n rc : Nat} {ss : List (Int × List Int)} {X Y : World} (h : RV q S ra n rc ss X) (hb : Below X.heap.size X Y) : RV q S ra n rc ss Y := h.keep hb.size (fun k _ hk => hb.block k hk)

theorem RV.outside {q p : Nat} {S : Nat → Prop} {ra : Option Addr} {n rc : Nat} {ss : List (Int × List Int)} {X Y : World} (h : RV q S ra n rc ss X) (ho : Outside p (p + 1) X Y) (hp : p < q) : RV q S ra n rc ss Y := h.keep ho.size (fun k hq hk => ho.block k hk (.inr (by omega)))

theorem RV.new (X : World) (t : TypeId) : RV X.heap.size (fun _ => False) none 0 0 [] (X.alloc (.cells #[.slice none 0 0] t)) :=
  ⟨by simp, by simp, ⟨rfl, by simp [lenSum], .inl rfl⟩, ⟨[], World.ownsRow_nil _ _ _ _⟩, fun g hg => by simp [Value.ownBlock] at hg, fun k h => h.elim, ⟨by simp, fun j hj => by simp at hj, fun j hj => by simp at hj, fun j hj => by simp at hj, fun j hj => by simp at hj, fun i j hi => by simp at hi⟩, by simp⟩

theorem or_block {S : Nat → Prop} {a : Option Addr} {n c : Nat} {ss : List (Int × List Int)} {w : World} (h : OR S a n ss w) (hn : 0 < n) : ∀ g, (Value.slice a n c).ownBlock = some g → S g := by
  obtain ⟨N, la, lc, lb, rfl, hb⟩ := h.body hn
  intro g hg
  simp [Value.ownBlock] at hg
  exact hg ▸ hb.hS

theorem enS_pos {ss : List (Int × List Int)} {zs : List Int} (_ : Good ss) : 0 < (enS ss zs).length := by
  unfold enS layS
  by_cases h : enQ ss zs < ss.length
  · rw [if_pos h, List.length_set]; omega
  · rw [if_neg h, List.length_append]; simp

theorem fault_rng {zs : List Int} (h4 : zs.length = 4) (h : ∀ v ∈ zs, 0 ≤ v ∧ v ≤ 5) : fault zs = 0 := by
  unfold fault
  rw [if_pos h4, if_pos]
  rw [List.all_eq_true]
  intro v hv
  have := h v hv
  simp [okI]
  omega

/-- behind an entering, whether it was done or not. -/
theorem RV.entered {q : Nat} {S : Nat → Prop} {ra : Option Addr} {n rc : Nat} {ss : List (Int × List Int)} {zs : List Int} {X Y : World} {e : Ending} (h : RV q S ra n rc ss X) (hz : fault zs = 0) (he : ERs q (q + 1) S ss zs X e Y) : ∃ S' ra' n' rc' ss', RV q S' ra' n' rc' ss' Y := by
  obtain ⟨_, h1, h2, h3, h4⟩ := he
  by_cases hc : etC ss zs = 0
  · obtain ⟨a', ca', c1, o1, r1⟩ := h1 hc
    refine ⟨_, a', _, ca', enS ss zs, c1, ((h4 0).2).trans h.f, o1, r1, or_block o1 (enS_pos h.good), fun k hk => ?_, good_enter h.good hz hc, by have := h3.size; have := h.lt; omega⟩
    rcases hk with hk | hk
    · exact ⟨(h.sS k hk).1, by have := (h.sS k hk).2; have := h3.size; omega⟩
    · exact ⟨by have := hk.1; have := h.lt; omega, hk.2⟩
  · exact ⟨S, ra, n, rc, ss, h.below (h2 hc)⟩

/-- what an entering leaves of the rest. -/
theorem RV.enterB {q : Nat} {S : Nat → Prop} {ra : Option Addr} {n rc : Nat} {ss : List (Int × List Int)} {zs : List Int} {X Y : World} {e : Ending} (h : RV q S ra n rc ss X) (he : ERs q (q + 1) S ss zs X e Y) : Below q X Y := by
  have h3 := he.2.2.2.1
  exact h3.below (fun k hk => by rcases hk with hk | hk; have := (h.sS k hk).1; omega; omega) (by have := h.lt; omega)

theorem RV.left {q : Nat} {S : Nat → Prop} {ra : Option Addr} {n rc p : Nat} {ss : List (Int × List Int)} {X Y : World} (h : RV q S ra n rc ss X) (hp : p < ss.length) (hg : 0 < gc ss p) (ho : OR S ra n (leaveS ss p) Y) (hr : ∃ xs, Y.ownsRow (q + 1) 111 2 (.slice ra n rc) n xs) (hs : OutS S X Y) : RV q S ra n rc (leaveS ss p) Y := by
  have hq : ¬ S q := fun e => by have := (h.sS q e).1; omega
  have hb := hs.block q h.lt hq
  exact ⟨(World.cell?_of_block (a := ⟨q, 0, none⟩) hb).trans h.c, (World.frozen?_of_block (a := ⟨q, 0, none⟩) hb).trans h.f, ho, hr, h.vT, fun k hk => ⟨(h.sS k hk).1, by have := (h.sS k hk).2; have := hs.size; omega⟩, good_leave h.good hp hg, by have := h.lt; have := hs.size; omega⟩

/-- what l2Draw gives. -/
def DrewR (p : Nat) (a : Option Addr) (len cap t : Nat) (w : World) (e : Ending) (w' : World) : Prop :=
  ∃ (S : Nat → Prop) (ra : Option Addr) (n rc : Nat) (ss : List (Int × List Int)) (t' : Nat), e = .returned (.agg #[.slice ra n rc]) ∧ OR S ra n ss w' ∧ (∃ ys, w'.ownsRow (w.heap.size + 1 + 1) 111 2 (.slice ra n rc) n ys) ∧ (∀ g, (Value.slice ra n rc).ownBlock = some g → S g) ∧ (∀ k, S k → w.heap.size + 1 + 1 ≤ k ∧ k < w'.heap.size) ∧ Good ss ∧ Src w' p a len cap t' ∧ t' ≤ t + 100 ∧ Outside p (p + 1) w w'

set_option maxRecDepth 100000 in
set_option maxHeartbeats 8000000 in
theorem l2Draw_calls (p : Nat) (a : Option Addr) (len cap t : Nat) (w : World) (ht : t ≤ 990000) (hs : Src w p a len cap t) :
    Calls Try.prog 123 #[.pointer (some ⟨p, 0, none⟩)] w (DrewR p a len cap t w) := by
  have hp : p < w.heap.size := hs.1
  have M0 := (Mo.start p w).alloc1 hp (.slice none 0 0) 34
  have V0 := RV.new (w.alloc (.cells #[.slice none 0 0] 34)) 34
  have s0 := hs.below (((Below.refl _ _).alloc (Nat.le_refl _) (.cells #[.slice none 0 0] 34)).alloc (by simp) (.cells #[.slice none 0 0] 34))
  have M0' := M0.below ((Below.refl _ _).alloc (Nat.le_refl _) (.cells #[.slice none 0 0] 34))
  simp only [World.size_alloc] at V0
  clear M0
  go_enter Try.func123, Try.ntmps123
  go_wp2_with fail
  refine (l1Next_calls p a len cap t 10 _ (by omega) (by omega) (by omega) s0).mono ?_
  rintro e w1 ⟨r, rfl, r0, r1, s1, o1⟩
  have M1 := M0'.next o1
  have V1 := V0.outside o1 (by omega)
  clear M0' V0 s0 o1
  obtain ⟨K, rfl⟩ : ∃ K : Nat, r = (K : Int) := ⟨r.toNat, by omega⟩
  go_wp2
  go_loopw [4] (fun i wr => ∃ (k : Nat) (S : Nat → Prop) (ra : Option Addr) (n rc : Nat) (ss : List (Int × List Int)) (t' : Nat), k ≤ 9 ∧ i = .int .i64 k ∧ RV (w.heap.size + 1) S ra n rc ss wr ∧ Src wr p a len cap t' ∧ t' + 8 * k ≤ t + 1 + 80 ∧ Mo p w wr [(w.heap.size, 0, .slice none 0 0)] []) (fun i _ => (intOf i).toNat)
  case atStart => exact ⟨K, _, none, 0, 0, [], t + 1, by omega, rfl, V1, s1, by omega, M1⟩
  case round =>
    clear M1 V1 s1 r0 r1
    obtain ⟨k, S, ra, n, rc, ss, t', hk, rfl, V, src, htk, M⟩ := hrel
    have hn10 : n ≤ 10 := by have h1 := V.good.few; have h2 := V.o.1; omega
    have hsn : ss.length = n := V.o.1
    by_cases hlt : 0 < k
    · have hlt' : (0 : Int) < (k : Int) := by omega
      go_wp2_with fail
      refine (l1DrawR_calls p a len cap t' _ (by omega) src).mono ?_
      rintro e u1 ⟨la, lc, zs, t1, rfl, _, ol, s1, ht1, o1, hrng⟩
      have hz : fault zs = 0 := fault_rng ol.1 hrng
      have z1 := o1.size
      have al := (Below.refl u1.heap.size u1).alloc (Nat.le_refl _) (.cells #[.slice la 4 lc] 41)
      have V1 := (V.outside o1 (by omega)).below al
      have M1 := (M.next o1).below al
      have s1' := s1.below al
      have hq1 : w.heap.size + 1 < u1.heap.size := by have := (V.outside o1 (by omega)).lt; omega
      have ol1 := ol.below al
      have hpw : p < wr.heap.size := src.1
      have hSu : ∀ j, S j → j < u1.heap.size := fun j hj => ((V.outside o1 (by omega)).sS j hj).2
      have c1 : (u1.alloc (.cells #[.slice la 4 lc] 41)).cell? ⟨u1.heap.size, 0, none⟩ = some (.slice la 4 lc) := by simp
      clear V M src s1 ol o1 hrng
      go_wp2_with fail
      refine (l1Chance_calls p a len cap t1 4 _ (by omega) (by omega) (by omega) s1').mono ?_
      rintro e u2 ⟨ch, rfl, s2, o2⟩
      have z2 := o2.size
      simp only [World.size_alloc] at z2
      have V2 := V1.outside o2 (by omega)
      have M2 := M1.next o2
      have hpu : p + 1 ≤ u1.heap.size := by omega
      have c2 := o2.cell (q := ⟨u1.heap.size, 0, none⟩) (by simp) hpu c1
      have sl2 : Sl u2 la 4 zs := (ol1.map (fun b h1 _ k => k.outside o2 (by omega))).sl
      clear V1 M1 s1' al ol1 c1
      have q2 := V2.c
      cases ch with
      | false =>
        have hqS : ¬ S (w.heap.size + 1) := fun e => by have := (V2.sS _ e).1; omega
        have hrS : ¬ S u1.heap.size := fun e => by have := hSu _ e; omega
        obtain ⟨ys, hrow⟩ := V2.row
        go_wp2_with fail
        refine (l2Enter_S (w.heap.size + 1) u1.heap.size (w.heap.size + 1 + 1) S ra la n rc lc ss zs ys _ V2.lt hqS (by omega) hrS (by omega) V2.sS V2.c V2.f c2 V2.o hrow V2.vT V2.good sl2 hz).mono ?_
        intro e u4 he
        have B4 := V2.enterB he
        obtain ⟨S', ra', n', rc', ss', V4⟩ := V2.entered hz he
        obtain ⟨rfl, _⟩ := he
        have M4 := M2.belowB B4 (by omega) (by simp) (by simp)
        have s4 := s2.belowB B4 (by omega)
        have HV := hide V4
        have HM := hide M4
        have HS := hide s4
        clear V2 V4 M2 M4 s2 s4 B4 o2 c2 sl2 q2 hrow
        go_wp2
        go_roundw
        case rel => exact ⟨k - 1, S', ra', n', rc', ss', _, by omega, by go_num, HV.out, HS.out, by omega, HM.out⟩
        case measure => simp [intOf]; omega
      | true =>
        by_cases hn0 : 0 < n
        · have hn0' : (0 : Int) < (n : Int) := by omega
          clear c2 sl2
          go_wp2_with fail
          refine (l1Next_calls p a len cap (t1 + 1) (n : Int) _ (by omega) (by omega) (by omega) s2).mono ?_
          rintro e u3 ⟨j, rfl, j0, j1, s3, o3⟩
          have V3 := V2.outside o3 (by omega)
          have M3 := M2.next o3
          clear V2 M2 s2 q2 o2
          obtain ⟨j, rfl⟩ : ∃ i : Nat, j = (i : Int) := ⟨j.toNat, by omega⟩
          have hjn : j < n := by omega
          have q3 := V3.c
          obtain ⟨N, fa, fc, fb, rfl, hb⟩ := V3.o.body (by omega)
          have k0 := hb.c0 j hjn
          have hg0 := V3.good.low j (by omega)
          have hg9 := V3.good.top j (by omega)
          by_cases hg : 0 < gc ss j
          · have hq : ¬ S (w.heap.size + 1) := fun e => by have := (V3.sS _ e).1; omega
            have hgl := good_leave V3.good (q := j) (by omega) hg
            have hm := good_sum hgl
            rw [length_leaveS, hsn] at hm
            go_wp2_with fail
            refine (l2Leave_R (w.heap.size + 1) (w.heap.size + 1 + 1) S (some ⟨N, 0, none⟩) n rc ss j _ V3.c V3.o V3.row hq hjn (by omega) hg9 hm).mono ?_
            rintro e u4 ⟨rfl, o4, r4, os4⟩
            have V4 := V3.left (by omega) hg o4 r4 os4
            have B4 : Below (w.heap.size + 1) u3 u4 := os4.below (fun i hi => by have := (V3.sS i hi).1; omega) (by have := V3.lt; omega)
            have M4 := M3.belowB B4 (by omega) (by simp) (by simp)
            have s4 := s3.belowB B4 (by omega)
            have HV := hide V4
            have HM := hide M4
            have HS := hide s4
            clear V3 V4 M3 M4 s3 s4 B4 os4 o4 r4 hb q3 k0 o3
            go_wp2
            go_roundw
            case rel => exact ⟨k - 1, S, _, n, rc, _, _, by omega, by go_num, HV.out, HS.out, by omega, HM.out⟩
            case measure => simp [intOf]; omega
          · have hg' : ¬ 0 < gc ss j := hg
            have HV := hide V3
            have HM := hide M3
            have HS := hide s3
            clear V3 M3 s3 hb o3
            go_wp2
            go_roundw
            case rel => exact ⟨k - 1, S, _, n, rc, _, _, by omega, by go_num, HV.out, HS.out, by omega, HM.out⟩
            case measure => simp [intOf]; omega
        · have hn00 : n = 0 := by omega
          have hn0' : ¬ (0 : Int) < (n : Int) := by omega
          have hqS : ¬ S (w.heap.size + 1) := fun e => by have := (V2.sS _ e).1; omega
          have hrS : ¬ S u1.heap.size := fun e => by have := hSu _ e; omega
          obtain ⟨ys, hrow⟩ := V2.row
          go_wp2_with fail
          refine (l2Enter_S (w.heap.size + 1) u1.heap.size (w.heap.size + 1 + 1) S ra la n rc lc ss zs ys _ V2.lt hqS (by omega) hrS (by omega) V2.sS V2.c V2.f c2 V2.o hrow V2.vT V2.good sl2 hz).mono ?_
          intro e u4 he
          have B4 := V2.enterB he
          obtain ⟨S', ra', n', rc', ss', V4⟩ := V2.entered hz he
          obtain ⟨rfl, _⟩ := he
          have M4 := M2.belowB B4 (by omega) (by simp) (by simp)
          have s4 := s2.belowB B4 (by omega)
          have HV := hide V4
          have HM := hide M4
          have HS := hide s4
          clear V2 V4 M2 M4 s2 s4 B4 o2 c2 sl2 q2 hrow
          go_wp2
          go_roundw
          case rel => exact ⟨k - 1, S', ra', n', rc', ss', _, by omega, by go_num, HV.out, HS.out, by omega, HM.out⟩
          case measure => simp [intOf]; omega
    · have hk0 : k = 0 := by omega
      subst hk0
      have hlt' : ¬ (0 : Int) < 0 := by omega
      have c0 := V.c
      have d0 := M.cell 0 rfl
      have e0 := M.fz 0 rfl
      have HO := hide M.out
      have HV := hide V
      have HS := hide src
      clear M V src
      go_wp2
      refine bodyPost_ret (v := .agg #[.slice ra n rc]) (by simp [results, Try.results123, go_sem, d0]) rfl ⟨S, ra, n, rc, ss, t', rfl, ?_, ?_, HV.out.vT, fun j hj => ⟨(HV.out.sS j hj).1, by simpa using (HV.out.sS j hj).2⟩, HV.out.good, HS.out.setCell (by exact hp) _, by omega, HO.out.setNew (Nat.le_refl _) _⟩
      · exact OR.loc.setC HV.out.o (q := ⟨w.heap.size, 0, none⟩) (fun e => by have h1 : w.heap.size + 1 + 1 ≤ w.heap.size := (HV.out.sS _ e).1; omega) _
      · obtain ⟨ys, hy⟩ := HV.out.row
        exact ⟨ys, ownsRow_setCell_below hy (by show w.heap.size < _; omega) _⟩

/-- a slice of at most four numbers in a block from lo on. -/
def Fr (w : World) (lo : Nat) (a : Option Addr) (n : Nat) (xs : List Int) : Prop :=
  xs.length = n ∧ n ≤ 4 ∧ (0 < n → ∃ b off, a = some ⟨b, off, none⟩ ∧ lo ≤ b ∧ b < w.heap.size ∧ ∀ i, i < n → w.cell? ⟨b, off + i, none⟩ = some (.int .i64 (gt xs i)))

theorem Fr.sl {w : World} {lo : Nat} {a : Option Addr} {n : Nat} {xs : List Int} (h : Fr w lo a n xs) : Sl w a n xs :=
  ⟨h.1, fun hp => by obtain ⟨b, off, e, _, h2, h3⟩ := h.2.2 hp; exact ⟨b, off, e, h2, h3⟩⟩

theorem Fr.below {w u : World} {lo : Nat} {a : Option Addr} {n : Nat} {xs : List Int} (h : Fr w lo a n xs) (hb : Below w.heap.size w u) : Fr u lo a n xs :=
  ⟨h.1, h.2.1, fun hp => by
    obtain ⟨b, off, e, h1, h2, h3⟩ := h.2.2 hp
    exact ⟨b, off, e, h1, by have := hb.size; omega, fun i hi => (hb.cell (p := ⟨b, off + i, none⟩) h2).trans (h3 i hi)⟩⟩

theorem Fr.outside {w u : World} {lo p : Nat} {a : Option Addr} {n : Nat} {xs : List Int} (h : Fr w lo a n xs) (ho : Outside p (p + 1) w u) (hp : p < lo) : Fr u lo a n xs :=
  ⟨h.1, h.2.1, fun h0 => by
    obtain ⟨b, off, e, h1, h2, h3⟩ := h.2.2 h0
    exact ⟨b, off, e, h1, by have := ho.size; omega, fun i hi => ho.cell (q := ⟨b, off + i, none⟩) h2 (by show p + 1 ≤ b; omega) (h3 i hi)⟩⟩

theorem Fr.setCell {w : World} {lo : Nat} {a : Option Addr} {n : Nat} {xs : List Int} (h : Fr w lo a n xs) {q : Addr} (hq : q.block < lo) (v : Value) : Fr (w.setCell q v) lo a n xs :=
  ⟨h.1, h.2.1, fun h0 => by
    obtain ⟨b, off, e, h1, h2, h3⟩ := h.2.2 h0
    exact ⟨b, off, e, h1, by simpa using h2, fun i hi => by rw [World.cell?_setCell_other _ _ _ _ (fun e => by rw [e] at hq; simp at hq; omega)]; exact h3 i hi⟩⟩

theorem Fr.ofBlk {w : World} {lo g : Nat} {zs : List Int} (h : Blk w g zs) (hl : lo ≤ g) (h4 : zs.length = 4) : Fr w lo (some ⟨g, 0, none⟩) 4 zs :=
  ⟨h4, by omega, fun _ => ⟨g, 0, rfl, hl, h.1, fun i hi => by rw [Nat.zero_add]; exact h.2.1 i (by omega)⟩⟩

theorem Fr.tail {w : World} {lo g : Nat} {zs : List Int} (h : Blk w g zs) (hl : lo ≤ g) (h4 : zs.length = 4) : Fr w lo (some ⟨g, 1, none⟩) 3 (zs.drop 1) :=
  ⟨by simp [h4], by omega, fun _ => ⟨g, 1, rfl, hl, h.1, fun i hi => by rw [h.2.1 (1 + i) (by omega)]; simp [gt, Nat.add_comm]⟩⟩

theorem three_at {wr : World} {t : TypeId} : ∀ i, i < 3 → ((wr.alloc (.cells #[.int .i64 (-1), .int .i64 5, .int .i64 6] t))).cell? ⟨wr.heap.size, i, none⟩ = some (.int .i64 (gt [-1, 5, 6] i)) := by
  intro i hi
  rw [World.cell?_alloc_new]
  rcases (by omega : i = 0 ∨ i = 1 ∨ i = 2) with rfl | rfl | rfl <;> rfl

set_option maxRecDepth 100000 in
set_option maxHeartbeats 4000000 in
theorem l1Bent_calls (p : Nat) (a : Option Addr) (len cap t : Nat) (w : World) (ht : t ≤ 990000) (hs : Src w p a len cap t) :
    Calls Try.prog 95 #[.pointer (some ⟨p, 0, none⟩)] w fun e w' => ∃ ra n rc xs t', e = .returned (.agg #[.slice ra n rc]) ∧ Fr w' w.heap.size ra n xs ∧ Src w' p a len cap t' ∧ t' ≤ t + 10 ∧ Outside p (p + 1) w w' := by
  have hp : p < w.heap.size := hs.1
  have hpn : p + 1 ≤ w.heap.size := hp
  go_enter Try.func95, Try.ntmps95
  go_wp2_with fail
  refine (l1Draw_calls p a len cap t _ (by omega) (hs.below ((Below.refl _ _).alloc (Nat.le_refl _) _))).mono ?_
  rintro e w1 ⟨ra, rc, zs, t1, rfl, hcap, ho, s1, ht1, o1⟩
  obtain ⟨g, rfl, hgB, hgT, blk, h4⟩ := ho.four
  simp only [World.size_alloc] at hgB
  have hN1 : w.heap.size < w1.heap.size := by have := o1.size; simp at this; omega
  have rc1 : w1.cell? ⟨w.heap.size, 0, none⟩ = some (.slice none 0 0) := o1.cell (q := ⟨w.heap.size, 0, none⟩) (by simp) hpn (by go_simp)
  have rf1 : w1.frozen? ⟨w.heap.size, 0, none⟩ = false := o1.frozen (q := ⟨w.heap.size, 0, none⟩) (by simp) hpn (by go_simp)
  have o1w : Outside p (p + 1) w w1 := (Outside.alloc _ _ _ _).trans o1
  have ha := (Below.refl w1.heap.size w1).alloc (Nat.le_refl _) (.cells #[.slice (some ⟨g, 0, none⟩) 4 rc] 41)
  clear ho o1
  go_wp2_with fail
  refine (l1Next_calls p a len cap t1 12 _ (by omega) (by omega) (by omega) (s1.below ha)).mono ?_
  rintro e w2 ⟨q, rfl, q0, q1, s2, o2⟩
  have hpg : p < g := by omega
  have hp1 : p + 1 ≤ w1.heap.size := by omega
  have x2 : w2.cell? ⟨w1.heap.size, 0, none⟩ = some (.slice (some ⟨g, 0, none⟩) 4 rc) := o2.cell (q := ⟨w1.heap.size, 0, none⟩) (by simp) hp1 (by go_simp)
  have xf2 : w2.frozen? ⟨w1.heap.size, 0, none⟩ = false := o2.frozen (q := ⟨w1.heap.size, 0, none⟩) (by simp) hp1 (by go_simp)
  have hn2 : w1.heap.size < w2.heap.size := by have := o2.size; simp at this; omega
  have hN2 : w.heap.size < w2.heap.size := by omega
  have rc2 : w2.cell? ⟨w.heap.size, 0, none⟩ = some (.slice none 0 0) := o2.cell (q := ⟨w.heap.size, 0, none⟩) (by simp; omega) hpn (by go_simp)
  have rf2 : w2.frozen? ⟨w.heap.size, 0, none⟩ = false := o2.frozen (q := ⟨w.heap.size, 0, none⟩) (by simp; omega) hpn (by go_simp)
  have blk2 : Blk w2 g zs := (blk.below ha).outside o2 hpg
  have o2w : Outside p (p + 1) w w2 := (o1w.trans (Outside.alloc _ _ _ _)).trans o2
  clear rc1 rf1 blk s1 o1w ha o2
  have hgw : w.heap.size ≠ g := by omega
  have hg1 : w1.heap.size ≠ g := by omega
  by_cases hq0 : q = 0
  · have hb0 : (q == 0) = true := by simp [hq0]
    have Hs2 := hide s2
    have Ho2 := hide o2w
    have Hb2 := hide blk2
    clear s2 o2w blk2 hq0 q0 q1
    have hne : w1.heap.size ≠ w.heap.size := by omega
    have hcapi : (4 : Int) ≤ (rc : Int) := by omega
    have ru : (w2.setCell ⟨w1.heap.size, 0, none⟩ (.slice (some ⟨g, 1, none⟩) 3 (rc - 1))).cell? ⟨w.heap.size, 0, none⟩ = some (.slice none 0 0) := by
      rw [World.cell?_setCell_other _ _ _ _ (fun e => hne (by injection e with e1))]; exact rc2
    go_wp2
    refine bodyPost_ret (v := .agg #[.slice (some ⟨g, 1, none⟩) 3 (rc - 1)]) (by simp [results, Try.results95, go_sem, rc2]) rfl ⟨_, 3, _, zs.drop 1, _, rfl, Fr.tail ((Hb2.out.setCell (by simpa using hg1) _).setCell (by simpa using hgw) _) (by omega) h4, (Hs2.out.setCell (by show p < w1.heap.size; omega) _).setCell (by exact hp) _, by omega, (Ho2.out.setNew (by show w.heap.size ≤ w1.heap.size; omega) _).setNew (Nat.le_refl _) _⟩
  · have hb0 : (q == 0) = false := by simp [hq0]
    by_cases hq1 : q = 1
    · have hb1 : (q == 1) = true := by simp [hq1]
      have htt : t1 + 1 ≤ 1000000 := by omega
      have htt2 : t1 + 1 + 1 ≤ 1000000 := by omega
      have Hs2 := hide s2
      have Ho2 := hide o2w
      have Hb2 := hide blk2
      clear s2 o2w blk2 hq0 hq1 q0 q1
      have HA := hide (Src.drew Hs2.out)
      have HB := hide (Src.drew (Hs2.out.below ((Below.refl w2.heap.size w2).alloc (Nat.le_refl _) (.cells #[.int .i64 (-1), .int .i64 5, .int .i64 6] 2))))
      have HOA := hide (Outside.drew (Outside.refl p (p + 1) w2))
      have HOB := hide (Outside.drew (Outside.alloc p (p + 1) w2 (.cells #[.int .i64 (-1), .int .i64 5, .int .i64 6] 2)))
      have hgs2 : w2.heap.size < ((w2.alloc (.cells #[.int .i64 (-1), .int .i64 5, .int .i64 6] 2)).drew).heap.size := by simp
      have HG := hide hgs2
      have hpw2 : p < w2.heap.size := by omega
      have hpw2' : p + 1 ≤ w2.heap.size := hpw2
      clear hgs2
      go_wp2_with fail
      go_region_with (first
        | (go_at_call 53; refine (l1Next_calls p a len cap (t1 + 1) 4 _ (by decide) (by decide) htt ?_).mono ?_; (first | with_reducible exact HA.out | with_reducible exact HB.out); rintro e w3 ⟨r, rfl, r0, r4, s3, o3⟩; have o23 : Outside p (p + 1) w2 w3 := (by first | with_reducible exact Outside.trans HOA.out o3 | with_reducible exact Outside.trans HOB.out o3); have x3 := Outside.cell (q := ⟨w1.heap.size, 0, none⟩) o23 hn2 hp1 x2; have HB3 := hide (Blk.outside Hb2.out o23 hpg); have HX := hide (idx_lt r0 r4); have S3 := hide s3; have O3 := hide o23; have O3r := hide o3; have hpw3 : p < w3.heap.size := Nat.lt_of_lt_of_le hpw2 o23.size; have hn3 : w1.heap.size < w3.heap.size := Nat.lt_of_lt_of_le hn2 o23.size; clear s3 o3 o23)
        | (go_at_call_of 113 (Value.slice (some ⟨w2.heap.size, 0, none⟩) 3 3); refine (l1Pick_calls p a len cap (t1 + 1 + 1) w2.heap.size 3 3 [-1, 5, 6] _ (by decide) (by decide) htt2 S3.out hpw2 (Nat.lt_of_lt_of_le HG.out O3r.out.size) rfl ?_).mono ?_; exact (fun i hi => O3r.out.cell (q := ⟨w2.heap.size, i, none⟩) HG.out hpw2' (three_at i hi)); rintro e w4 ⟨y, rfl, s4, o4⟩; have o34 : Outside p (p + 1) w3 w4 := o4; have O4 := hide o34; have S4 := hide s4; have x4 := Outside.cell (q := ⟨w1.heap.size, 0, none⟩) (Outside.trans O3.out o34) hn2 hp1 x2; have HB4 := hide (Blk.outside HB3.out o34 hpg); have hc4 := HB4.out.2.1 r.toNat (h4.symm ▸ HX.out); have hf4 := HB4.out.2.2 r.toNat; clear s4 o4 o34)
        | (go_at_call_of 113 (Value.slice (some ⟨w3.heap.size, 0, none⟩) 3 3); refine (l1Pick_calls p a len cap (t1 + 1 + 1) w3.heap.size 3 3 [-1, 5, 6] _ (by decide) (by decide) htt2 (S3.out.below ((Below.refl w3.heap.size w3).alloc (Nat.le_refl _) (.cells #[.int .i64 (-1), .int .i64 5, .int .i64 6] 2))) hpw3 ?_ rfl ?_).mono ?_; (simp); exact three_at; rintro e w4 ⟨y, rfl, s4, o4⟩; have o34 := Outside.trans (Outside.alloc p (p + 1) w3 (.cells #[.int .i64 (-1), .int .i64 5, .int .i64 6] 2)) o4; have O4 := hide o34; have S4 := hide s4; have x4 := Outside.cell (q := ⟨w1.heap.size, 0, none⟩) (Outside.trans O3.out o34) hn2 hp1 x2; have HB4 := hide (Blk.outside HB3.out o34 hpg); have hc4 := HB4.out.2.1 r.toNat (h4.symm ▸ HX.out); have hf4 := HB4.out.2.2 r.toNat; clear s4 o4 o34))
      all_goals
        have O24 := hide (O3.out.trans O4.out)
        have xu : (w4.setCell ⟨g, r.toNat, none⟩ (.int .i64 y)).cell? ⟨w1.heap.size, 0, none⟩ = some (.slice (some ⟨g, 0, none⟩) 4 rc) := by
          rw [World.cell?_setCell_other _ _ _ _ (fun e => hg1 (by injection e with e1; exact e1.symm))]; exact x4
        have ru : (w4.setCell ⟨g, r.toNat, none⟩ (.int .i64 y)).cell? ⟨w.heap.size, 0, none⟩ = some (.slice none 0 0) := by
          rw [World.cell?_setCell_other _ _ _ _ (fun e => hgw (by injection e with e1; exact e1.symm))]; exact O24.out.cell (q := ⟨w.heap.size, 0, none⟩) hN2 hpn rc2
        have rfu : (w4.setCell ⟨g, r.toNat, none⟩ (.int .i64 y)).frozen? ⟨w.heap.size, 0, none⟩ = false := by
          rw [World.frozen?_setCell]; exact O24.out.frozen (q := ⟨w.heap.size, 0, none⟩) hN2 hpn rf2
        have bu := hide (Blk.store (x := y) HB4.out (h4.symm ▸ HX.out))
        have su := hide (S4.out.setCell (q := ⟨g, r.toNat, none⟩) hpg (.int .i64 y))
        have ou := hide ((Ho2.out.trans O24.out).setNew (q := ⟨g, r.toNat, none⟩) (by show w.heap.size ≤ g; omega) (.int .i64 y))
        have hlen : (zs.set r.toNat y).length = 4 := by rw [List.length_set]; exact h4
        clear x3 x2 x4 rc2 rf2 hc4 hf4
        go_wp2
        refine bodyPost_ret (v := .agg #[.slice (some ⟨g, 0, none⟩) 4 rc]) (by simp [results, Try.results95, go_sem, ru]) rfl ⟨_, 4, rc, _, _, rfl, Fr.ofBlk (bu.out.setCell (by simpa using hgw) _) (by omega) hlen, su.out.setCell (by exact hp) _, by omega, ou.out.setNew (Nat.le_refl _) _⟩
    · have hb1 : (q == 1) = false := by simp [hq1]
      have Hs2 := hide s2
      have Ho2 := hide o2w
      have Hb2 := hide blk2
      clear s2 o2w blk2 hq0 hq1 q0 q1
      go_wp2
      refine bodyPost_ret (v := .agg #[.slice (some ⟨g, 0, none⟩) 4 rc]) (by simp [results, Try.results95, go_sem, rc2]) rfl ⟨_, 4, rc, zs, _, rfl, Fr.ofBlk (Hb2.out.setCell (by simpa using hgw) _) (by omega) h4, Hs2.out.setCell (by exact hp) _, by omega, Ho2.out.setNew (Nat.le_refl _) _⟩

/-- a slice of numbers that lies in a block of S and reads as xs. -/
def FrS (S : Nat → Prop) (a : Option Addr) (n : Nat) (xs : List Int) (w : World) : Prop :=
  xs.length = n ∧ (0 < n → ∃ b off, a = some ⟨b, off, none⟩ ∧ S b ∧ b < w.heap.size ∧ ∀ i, i < n → w.cell? ⟨b, off + i, none⟩ = some (.int .i64 (gt xs i)))

theorem blk_lt {w w' : World} {b : Nat} (h : w'.heap[b]? = w.heap[b]?) (hb : b < w.heap.size) : b < w'.heap.size := by
  rw [Array.getElem?_eq_getElem hb] at h
  exact (Array.getElem?_eq_some_iff.1 h).1

theorem FrS.loc {S : Nat → Prop} {a : Option Addr} {n : Nat} {xs : List Int} : Loc S (FrS S a n xs) := fun w w' hk h => by
  refine ⟨h.1, fun hp => ?_⟩
  obtain ⟨b, off, e, h1, h2, h3⟩ := h.2 hp
  have hb := hk b h1 h2
  exact ⟨b, off, e, h1, blk_lt hb h2, fun i hi => (World.cell?_of_block (a := ⟨b, off + i, none⟩) hb).trans (h3 i hi)⟩

theorem FrS.mono {S S' : Nat → Prop} {a : Option Addr} {n : Nat} {xs : List Int} {w : World} (h : FrS S a n xs w) (hs : ∀ k, S k → S' k) : FrS S' a n xs w :=
  ⟨h.1, fun hp => by obtain ⟨b, off, e, h1, h2⟩ := h.2 hp; exact ⟨b, off, e, hs b h1, h2⟩⟩

theorem FrS.sl {S : Nat → Prop} {a : Option Addr} {n : Nat} {xs : List Int} {w : World} (h : FrS S a n xs w) : Sl w a n xs :=
  ⟨h.1, fun hp => by obtain ⟨b, off, e, _, h2, h3⟩ := h.2 hp; exact ⟨b, off, e, h2, h3⟩⟩

/-- a slice of slots that lies in blocks of S and reads as ss; each label has at most four levels. -/
def RgS (S : Nat → Prop) (a : Option Addr) (n : Nat) (ss : List (Int × List Int)) (w : World) : Prop :=
  ss.length = n ∧ (0 < n → ∃ b off, a = some ⟨b, off, none⟩ ∧ S b ∧ b < w.heap.size ∧ ∀ i, i < n → w.cell? ⟨b, off + i * 2, none⟩ = some (.int .i64 (gc ss i)) ∧
    ∃ la ll lc, w.cell? ⟨b, off + i * 2 + 1, none⟩ = some (.slice la ll lc) ∧ ll ≤ 1048576 ∧ FrS S la ll (gl ss i) w)

theorem RgS.loc {S : Nat → Prop} {a : Option Addr} {n : Nat} {ss : List (Int × List Int)} : Loc S (RgS S a n ss) := fun w w' hk h => by
  refine ⟨h.1, fun hp => ?_⟩
  obtain ⟨b, off, e, h1, h2, h3⟩ := h.2 hp
  have hb := hk b h1 h2
  refine ⟨b, off, e, h1, blk_lt hb h2, fun i hi => ?_⟩
  obtain ⟨c0, la, ll, lc, c1, hl, hf⟩ := h3 i hi
  exact ⟨(World.cell?_of_block (a := ⟨b, off + i * 2, none⟩) hb).trans c0, la, ll, lc, (World.cell?_of_block (a := ⟨b, off + i * 2 + 1, none⟩) hb).trans c1, hl, FrS.loc w w' hk hf⟩

theorem RgS.mono {S S' : Nat → Prop} {a : Option Addr} {n : Nat} {ss : List (Int × List Int)} {w : World} (h : RgS S a n ss w) (hs : ∀ k, S k → S' k) : RgS S' a n ss w :=
  ⟨h.1, fun hp => by
    obtain ⟨b, off, e, h1, h2, h3⟩ := h.2 hp
    exact ⟨b, off, e, hs b h1, h2, fun i hi => by obtain ⟨c0, la, ll, lc, c1, hl, hf⟩ := h3 i hi; exact ⟨c0, la, ll, lc, c1, hl, hf.mono hs⟩⟩⟩

theorem RgS.sls {S : Nat → Prop} {a : Option Addr} {n : Nat} {ss : List (Int × List Int)} {w : World} (h : RgS S a n ss w) : Sls w a n ss :=
  ⟨h.1, fun hp => by
    obtain ⟨b, off, e, _, h2, h3⟩ := h.2 hp
    exact ⟨b, off, e, h2, fun i hi => by obtain ⟨c0, la, ll, lc, c1, hl, hf⟩ := h3 i hi; exact ⟨c0, la, ll, lc, c1, by unfold maxLen; omega, hf.sl⟩⟩⟩

theorem OS.frS {S S' : Nat → Prop} {a : Option Addr} {n : Nat} {xs : List Int} {w : World} (h : OS S a n xs w) (hs : ∀ k, S k → S' k) : FrS S' a n xs w := by
  obtain ⟨h1, _, h2⟩ := h
  refine ⟨h1, fun hp => ?_⟩
  rcases h2 with h2 | ⟨b, e, hb, blk⟩
  · omega
  · exact ⟨b, 0, e, hs b hb, blk.1, fun i hi => by rw [Nat.zero_add]; exact blk.2.1 i (by omega)⟩

theorem OR.rgS {S : Nat → Prop} {a : Option Addr} {n : Nat} {ss : List (Int × List Int)} {w : World} (h : OR S a n ss w) : RgS S a n ss w := by
  refine ⟨h.1, fun hp => ?_⟩
  obtain ⟨N, la, lc, lb, rfl, hb⟩ := h.body hp
  refine ⟨N, 0, rfl, hb.hS, hb.lt, fun i hi => ?_⟩
  have hl := gl_le ss i (by have := h.1; omega)
  have hm := h.2.1
  exact ⟨by simpa using hb.c0 i hi, la i, _, lc i, by simpa using hb.c1 i hi, by omega, (hb.os i hi).frS (fun k hk => hk.1 ▸ hb.lS i hi hk.2)⟩

theorem gc_snoc (ss : List (Int × List Int)) (x : Int × List Int) (i : Nat) : gc (ss ++ [x]) i = if i = ss.length then x.1 else gc ss i := by
  unfold gc
  by_cases h : i < ss.length
  · rw [if_neg (by omega)]; simp [List.getElem?_append_left, h]
  · by_cases e : i = ss.length
    · subst e; simp
    · rw [if_neg e]
      have h1 : (ss ++ [x])[i]? = none := by simp; omega
      have h2 : ss[i]? = none := by simp; omega
      simp [h1, h2]

theorem gl_snoc (ss : List (Int × List Int)) (x : Int × List Int) (i : Nat) : gl (ss ++ [x]) i = if i = ss.length then x.2 else gl ss i := by
  unfold gl
  by_cases h : i < ss.length
  · rw [if_neg (by omega)]; simp [List.getElem?_append_left, h]
  · by_cases e : i = ss.length
    · subst e; simp
    · rw [if_neg e]
      have h1 : (ss ++ [x])[i]? = none := by simp; omega
      have h2 : ss[i]? = none := by simp; omega
      simp [h1, h2]

/-- a slot appended to an owned row of slots. -/
theorem OR.grow {S S' : Nat → Prop} {B n c g cp ll lc : Nat} {a la : Option Addr} {ss : List (Int × List Int)} {xs : List Value} {X w5 : World} {o : Obj} {c1 : Int} {zs : List Int} (ho : OR S a n ss X) (hown : X.ownsRow B 111 2 (.slice a n c) n xs) (hg : (X.alloc o).grownBy w5 (Value.slice a n c).ownBlock)
    (hown5 : w5.ownsRow B 111 2 (.slice (some ⟨g, 0, none⟩) (n + 1) cp) (n + 1) (xs ++ [.int .i64 c1, .slice la ll lc])) (hfr : FrS S' la ll zs X) (hll : ll ≤ 1048576) (hne : ∀ k, S' k → (Value.slice a n c).ownBlock ≠ some k) :
    RgS (fun k => S k ∨ S' k ∨ k = g) (some ⟨g, 0, none⟩) (n + 1) (ss ++ [(c1, zs)]) w5 := by
  have hsn := ho.1
  have hx : xs.length = n * 2 := hown.1
  have keep : ∀ k, k < X.heap.size → (Value.slice a n c).ownBlock ≠ some k → w5.heap[k]? = X.heap[k]? := fun k hk hn => (hg.block k (by simp; omega) (fun e => hn e.symm)).trans (Below.heap_alloc X o k hk)
  refine ⟨by simp [hsn], fun _ => ⟨g, 0, rfl, .inr (.inr rfl), (hown5.lt g rfl).2, fun i hi => ?_⟩⟩
  rw [gc_snoc, gl_snoc]
  have k0 := hown5.cellAt (i * 2) (by omega)
  have k1 := hown5.cellAt (i * 2 + 1) (by omega)
  by_cases e : i = ss.length
  · rw [if_pos e, if_pos e]
    have e2 : i * 2 = xs.length := by omega
    refine ⟨?_, la, ll, lc, ?_, hll, ?_⟩
    · rw [Nat.zero_add, k0, List.getElem?_append_right (by omega)]; simp [e2]
    · rw [Nat.zero_add, k1, List.getElem?_append_right (by omega)]; simp [e2]
    · exact (FrS.loc X w5 (fun k hk hl => keep k hl (hne k hk)) hfr).mono (fun k hk => .inr (.inl hk))
  · have hin : i < n := by omega
    rw [if_neg e, if_neg e]
    obtain ⟨N, fa, fc, fb, rfl, hb⟩ := ho.body (by omega)
    have hl := gl_le ss i (by omega)
    have hm := ho.2.1
    refine ⟨?_, fa i, (gl ss i).length, fc i, ?_, by omega, ?_⟩
    · rw [Nat.zero_add, k0, List.getElem?_append_left (by omega), ← hown.cellAt (i * 2) (by omega)]; exact hb.c0 i hin
    · rw [Nat.zero_add, k1, List.getElem?_append_left (by omega), ← hown.cellAt (i * 2 + 1) (by omega)]; exact hb.c1 i hin
    · have h1 := OS.loc X w5 (fun k hk hl => keep k hl (fun e => hb.ne i hin hk.2 (by simp [Value.ownBlock] at e; rw [e]; exact hk.1.symm))) (hb.os i hin)
      exact h1.frS (S' := fun k => S k ∨ S' k ∨ k = g) (fun k hk => Or.inl (hk.1 ▸ hb.lS i hin hk.2))

/-- slots that a make has just laid. -/
theorem made_rg (U : World) (m : Nat) (t : TypeId) (S : Nat → Prop) (hS : S U.heap.size) : RgS S (some ⟨U.heap.size, 0, none⟩) m (List.replicate m (0, [])) (U.alloc (.cells (madeCells #[.int .i64 0, .slice none 0 0] (m * 2)) t)) := by
  refine ⟨by simp, fun _ => ⟨U.heap.size, 0, rfl, hS, by simp, fun i hi => ?_⟩⟩
  have z0 : (i * 2) % 2 = 0 := by omega
  have z1 : (i * 2 + 1) % 2 = 1 := by omega
  have g0 : gc (List.replicate m ((0 : Int), ([] : List Int))) i = 0 := by simp [gc, hi]
  have g1 : gl (List.replicate m ((0 : Int), ([] : List Int))) i = [] := by simp [gl, hi]
  refine ⟨?_, none, 0, 0, ?_, by omega, ?_⟩
  · rw [World.cell?_alloc_new, g0]
    simp [madeCells, show i * 2 < m * 2 by omega, z0]
  · rw [World.cell?_alloc_new]
    simp [madeCells, show i * 2 + 1 < m * 2 by omega, z1]
  · rw [g1]; exact ⟨rfl, fun h => by omega⟩

/-- what a bent label is, in blocks of S. -/
theorem Fr.frS {w : World} {lo : Nat} {a : Option Addr} {n : Nat} {xs : List Int} (h : Fr w lo a n xs) : FrS (InR lo w.heap.size) a n xs w :=
  ⟨h.1, fun hp => by obtain ⟨b, off, e, h1, h2, h3⟩ := h.2.2 hp; exact ⟨b, off, e, ⟨h1, h2⟩, h2, h3⟩⟩

theorem Outside.trans' {p B : Nat} {w u v : World} (h : Outside p (p + 1) w u) (hb : Below B u v) (hB : w.heap.size ≤ B) : Outside p (p + 1) w v :=
  ⟨hb.os.trans h.os, hb.tape.trans h.tape, hb.output.trans h.output, Nat.le_trans h.size hb.size, fun k hk hn => (hb.block k (by omega)).trans (h.block k hk hn)⟩

theorem ORb.keep {S : Nat → Prop} {N n : Nat} {la : Nat → Option Addr} {lc lb : Nat → Nat} {fc : Nat → Int} {fl : Nat → List Int} {w w' : World} (h : ORb S N n la lc lb fc fl w) (hk : ∀ k, S k → k < w.heap.size → w'.heap[k]? = w.heap[k]?) (hz : w.heap.size ≤ w'.heap.size) : ORb S N n la lc lb fc fl w' := by
  have eN := hk N h.hS h.lt
  exact ⟨h.hS, by have := h.lt; omega, fun j => (World.frozen?_of_block (a := ⟨N, j, none⟩) eN).trans (h.fz j), fun i hi => (World.cell?_of_block (a := ⟨N, i * 2, none⟩) eN).trans (h.c0 i hi), fun i hi => (World.cell?_of_block (a := ⟨N, i * 2 + 1, none⟩) eN).trans (h.c1 i hi), fun i hi => OS.loc w w' (fun k e hl => hk k (e.1 ▸ h.lS i hi e.2) hl) (h.os i hi), h.lS, h.ne, h.ap⟩

theorem lit3 {wr : World} {t : TypeId} {x y z : Int} : ∀ i, i < 3 → (wr.alloc (.cells #[.int .i64 x, .int .i64 y, .int .i64 z] t)).cell? ⟨wr.heap.size, i, none⟩ = some (.int .i64 (gt [x, y, z] i)) := by
  intro i hi
  rw [World.cell?_alloc_new]
  rcases (by omega : i = 0 ∨ i = 1 ∨ i = 2) with rfl | rfl | rfl <;> rfl

theorem lit2 {wr : World} {t : TypeId} {x y : Int} : ∀ i, i < 2 → (wr.alloc (.cells #[.int .i64 x, .int .i64 y] t)).cell? ⟨wr.heap.size, i, none⟩ = some (.int .i64 (gt [x, y] i)) := by
  intro i hi
  rw [World.cell?_alloc_new]
  rcases (by omega : i = 0 ∨ i = 1) with rfl | rfl <;> rfl

theorem lit4 {wr : World} {t : TypeId} {x y z u : Int} : ∀ i, i < 4 → (wr.alloc (.cells #[.int .i64 x, .int .i64 y, .int .i64 z, .int .i64 u] t)).cell? ⟨wr.heap.size, i, none⟩ = some (.int .i64 (gt [x, y, z, u] i)) := by
  intro i hi
  rw [World.cell?_alloc_new]
  rcases (by omega : i = 0 ∨ i = 1 ∨ i = 2 ∨ i = 3) with rfl | rfl | rfl | rfl <;> rfl

theorem infoSlot3 : (Try.prog.info? 111).map (fun i => (i.zero, i.size, i.bytes)) = some (some (.agg #[.int .i64 0, .slice none 0 0]), 2, 32) := by kernel_rfl

theorem slot_new {W : World} {N : Nat} {x y : Value} (h0 : W.cell? ⟨N, 0, none⟩ = some x) (h1 : W.cell? ⟨N, 1, none⟩ = some y) : ∀ j u, [x, y][j]? = some u → W.cell? ((Addr.mk N 0 none).add j) = some u := by
  intro j u hj
  match j, hj with
  | 0, hj => simp at hj; subst hj; simpa [Addr.add] using h0
  | 1, hj => simp at hj; subst hj; simpa [Addr.add] using h1

/-- what l2Bent gives. -/
def BentR (p : Nat) (a : Option Addr) (len cap t : Nat) (w : World) (e : Ending) (w' : World) : Prop :=
  ∃ (ra : Option Addr) (n rc : Nat) (ss : List (Int × List Int)) (t' : Nat), e = .returned (.agg #[.slice ra n rc]) ∧ RgS (InR (w.heap.size + 1) w'.heap.size) ra n ss w' ∧ n ≤ 11 ∧ Src w' p a len cap t' ∧ t' ≤ t + 150 ∧ Outside p (p + 1) w w'

theorem BentR.mk {p : Nat} {a : Option Addr} {len cap t : Nat} {w w' : World} {ra : Option Addr} {n rc : Nat} {ss : List (Int × List Int)} {t' : Nat} (h1 : RgS (InR (w.heap.size + 1) w'.heap.size) ra n ss w') (h3 : n ≤ 11) (h5 : Src w' p a len cap t') (h6 : t' ≤ t + 150) (h7 : Outside p (p + 1) w w') :
    BentR p a len cap t w (.returned (.agg #[.slice ra n rc])) w' := ⟨ra, n, rc, ss, t', rfl, h1, h3, h5, h6, h7⟩

theorem RgS.setR {w u : World} {S : Nat → Prop} {ra : Option Addr} {n : Nat} {ss : List (Int × List Int)} (h : RgS S ra n ss u) (hS : ∀ k, S k → w.heap.size + 1 ≤ k ∧ k < u.heap.size) (y : Value) : RgS (InR (w.heap.size + 1) (u.setCell ⟨w.heap.size, 0, none⟩ y).heap.size) ra n ss (u.setCell ⟨w.heap.size, 0, none⟩ y) :=
  (RgS.loc.setC h (q := ⟨w.heap.size, 0, none⟩) (fun e => by have h1 : w.heap.size + 1 ≤ w.heap.size := (hS _ e).1; omega) y).mono (fun k hk => ⟨(hS k hk).1, by simpa using (hS k hk).2⟩)

set_option maxRecDepth 100000 in
set_option maxHeartbeats 8000000 in
theorem l2Bent_calls (p : Nat) (a : Option Addr) (len cap t : Nat) (w : World) (ht : t ≤ 980000) (hs : Src w p a len cap t) :
    Calls Try.prog 114 #[.pointer (some ⟨p, 0, none⟩)] w (BentR p a len cap t w) := by
  obtain ⟨i0, hi, hz0, hz1, hz2⟩ := info_parts infoSlot3
  have hp : p < w.heap.size := hs.1
  have hpn : p + 1 ≤ w.heap.size := hp
  have M0 := (Mo.start p w).alloc1 hp (.slice none 0 0) 34
  have s0 := hs.below ((Below.refl _ _).alloc (Nat.le_refl _) (.cells #[.slice none 0 0] 34))
  go_enter Try.func114, Try.ntmps114
  go_wp2_with fail
  refine (l2Draw_calls p a len cap t _ (by omega) s0).mono ?_
  rintro e w1 ⟨S, ra, n, rc, ss, t1, rfl, oo, hrow, hvT, hSS, hgood, s1, ht1, o1⟩
  simp only [World.size_alloc] at hrow hSS
  have z1 := o1.size
  simp only [World.size_alloc] at z1
  have hp1 : p < w1.heap.size := by omega
  have al := (Below.refl w1.heap.size w1).alloc (Nat.le_refl _) (.cells #[.slice ra n rc] 34)
  have M1 := (M0.next o1).alloc1 hp1 (.slice ra n rc) 34
  have s1' := s1.below al
  have oo1 := OR.loc.below al oo
  obtain ⟨ys, hrow⟩ := hrow
  have row1 := own_keepS hrow (fun g hg => al.block g (hrow.lt g hg).2)
  clear M0 s0 o1 s1 oo hrow
  go_wp2_with fail
  refine (l1Next_calls p a len cap t1 12 _ (by omega) (by omega) (by omega) s1').mono ?_
  rintro e w2 ⟨r, rfl, r0, r1, s2, o2⟩
  have M2 := M1.next o2
  have z2 := o2.size
  simp only [World.size_alloc] at z2
  have far2 : ∀ k, p < k → k < w1.heap.size + 1 → w2.heap[k]? = (w1.alloc (.cells #[.slice ra n rc] 34)).heap[k]? := fun k h1 h2 => o2.block k (by simpa using h2) (.inr h1)
  have oo2 := OR.loc _ w2 (fun k hk _ => far2 k (by have := (hSS k hk).1; omega) (by have := (hSS k hk).2; omega)) oo1
  have row2 := own_keepS row1 (fun g hg => far2 g (by have := (row1.lt g hg).1; omega) (by have := (row1.lt g hg).2; simpa using this))
  clear M1 s1' o2 oo1 row1 far2 al
  have hn10 : n ≤ 10 := by have h1 := hgood.few; have h2 := oo2.1; omega
  have hsn := oo2.1
  have x2 := M2.cell 0 rfl
  have xf := M2.fz 0 rfl
  have r2 := M2.cell 1 rfl
  have rf := M2.fz 1 rfl
  have HO2 := hide M2.out
  have HS2 := hide s2
  have HR2 := hide oo2
  have HW2 := hide row2
  have hw2 : p < w2.heap.size := by omega
  have hVw : w1.heap.size < w2.heap.size := by omega
  have hRw : w.heap.size < w2.heap.size := by omega
  have hpV : p + 1 ≤ w1.heap.size := hp1
  have hV : w1.heap.size ≠ w.heap.size := by omega
  have HSS : Hid (∀ k, S k → w.heap.size + 1 ≤ k ∧ k < w1.heap.size) := fun k hk => ⟨by have := (hSS k hk).1; omega, (hSS k hk).2⟩
  have HVT := hide hvT
  clear M2 s2 oo2 row2 hSS hgood hvT
  by_cases q0 : r = 0
  · have e0 : (r == 0) = true := by simp [q0]
    clear q0 r0 r1
    have HBa := hide (Src.drew (HS2.out.below ((Below.refl w2.heap.size w2).alloc (Nat.le_refl _) (.cells #[.int .i64 0, .int .i64 1, .int .i64 99, .int .i64 100] 2))))
    have HOB := hide (Outside.drew (Outside.alloc p (p + 1) w2 (.cells #[.int .i64 0, .int .i64 1, .int .i64 99, .int .i64 100] 2)))
    have hgs2 : w2.heap.size < ((w2.alloc (.cells #[.int .i64 0, .int .i64 1, .int .i64 99, .int .i64 100] 2)).drew).heap.size := by simp
    have HG := hide hgs2
    have htt : t1 + 1 ≤ 1000000 := by omega
    have htt2 : t1 + 1 + 1 ≤ 990000 := by omega
    clear hgs2
    go_wp2_with fail
    go_region_law (first
      | (refine step_append_lies _ rfl _ _ 32 rfl (w.heap.size + 1 + 1 + 1) 111 i0 (.agg #[.int .i64 0, .slice none 0 0]) 2 32 Try.underlying32 hi hz0 hz1 hz2 rfl (by decide) (.slice ra n rc) n ys rfl (HW4.out.alloc _) ⟨w4.heap.size, 0, none⟩ 1 1 [.int .i64 y, .slice la ll lc] rfl rfl (slot_new (by go_simp) (by go_simp)) (by simp [Value.oneCell']) (by omega) (by unfold maxLen; omega) (by omega) (by simp; omega) (w4.heap.size + 1) (by simp) ?_; intro g cp w5 hown5 hgrow hat hlt5; have gq : w5.cell? ⟨w1.heap.size, 0, none⟩ = some (.slice ra n rc) ∧ w5.frozen? ⟨w1.heap.size, 0, none⟩ = false := (far_qS HVT.out (Below.refl _ _) hgrow x4 xf4 hVS hV4); obtain ⟨gv1, gv2⟩ := gq; have gr : w5.cell? ⟨w.heap.size, 0, none⟩ = some (.slice none 0 0) ∧ w5.frozen? ⟨w.heap.size, 0, none⟩ = false := (far_qS HVT.out (Below.refl _ _) hgrow v4 vf4 hRS hR4); obtain ⟨gr1, gr2⟩ := gr; have HST := hide (OR.grow HR4.out HW4.out hgrow hown5 HF4.out hll4 (fun k hk e => by have h1 := (HSS.out k (HVT.out k e)).2; have h2 : w3.heap.size ≤ k := hk.1; omega)); have HGR := hide hgrow; have HAT := hide hat; have HO5 := hide hown5; clear hown5 hgrow hat hlt5)
      | (go_simp; go_at_call 113; refine (l1Pick_calls p a len cap (t1 + 1) w2.heap.size 4 4 [0, 1, 99, 100] _ (by decide) (by decide) htt HBa.out hw2 HG.out rfl ?_).mono ?_; exact lit4; rintro e w3 ⟨y, rfl, s3, o3⟩; have o23 : Outside p (p + 1) w2 w3 := Outside.trans HOB.out o3; have x3 := Outside.cell (q := ⟨w1.heap.size, 0, none⟩) o23 hVw hpV x2; have S3 := hide s3; have O3 := hide o23; have hz3 : w2.heap.size ≤ w3.heap.size := o23.size; clear s3 o3 o23)
      | (go_simp; go_at_call 95; refine (l1Bent_calls p a len cap (t1 + 1 + 1) _ htt2 S3.out).mono ?_; rintro e w4 ⟨la, ll, lc, zs, t4, rfl, fr4, s4, ht4, o4⟩; have o24 : Outside p (p + 1) w2 w4 := Outside.trans O3.out o4; have x4 := Outside.cell (q := ⟨w1.heap.size, 0, none⟩) o24 hVw hpV x2; have xf4 := Outside.frozen (q := ⟨w1.heap.size, 0, none⟩) o24 hVw hpV xf; have v4 := Outside.cell (q := ⟨w.heap.size, 0, none⟩) o24 hRw hpn r2; have vf4 := Outside.frozen (q := ⟨w.heap.size, 0, none⟩) o24 hRw hpn rf; have HR4 := hide (OR.loc _ w4 (fun k hk _ => o24.block k (by have := (HSS.out k hk).2; omega) (.inr (by have := (HSS.out k hk).1; omega))) HR2.out); have HW4 := hide (own_keepS HW2.out (fun g hg => o24.block g (HW2.out.lt g hg).2 (.inr (by have := (HW2.out.lt g hg).1; omega)))); have hll4 : ll ≤ 1048576 := (by have := fr4.2.1; omega); have HF4 := hide fr4.frS; have S4 := hide s4; have O4 := hide o24; have hz4 : w3.heap.size ≤ w4.heap.size := o4.size; have hVS : ¬ S w1.heap.size := (fun e => by have := (HSS.out _ e).2; omega); have hRS : ¬ S w.heap.size := (fun e => by have := (HSS.out _ e).1; omega); have hV4 : w1.heap.size < w4.heap.size := (by omega); have hR4 : w.heap.size < w4.heap.size := (by omega); clear s4 o4 o24 fr4))
    all_goals (
      have hgV : g ≠ w1.heap.size := fun e => by
        rcases HAT.out with h | h
        · exact hVS (e ▸ HVT.out g h)
        · (try simp at h); omega
      have hgR : g ≠ w.heap.size := fun e => by
        rcases HAT.out with h | h
        · exact hRS (e ▸ HVT.out g h)
        · (try simp at h); omega
      have zg := HGR.out.size
      simp only [World.size_alloc] at zg
      have B5 : Hid (Below (w.heap.size + 1) w4 w5) := (((Below.refl _ _).alloc (by omega) _).grown HGR.out (by simp; omega) (fun k hk => by have := (HW4.out.lt k hk).1; omega))
      have hgg := HO5.out.lt g rfl
      have S5 := hide (S4.out.belowB B5.out (by omega))
      have O5 : Hid (Outside p (p + 1) w w5) := (HO2.out.trans O4.out).trans' B5.out (by omega)
      have xu : (w5.setCell ⟨w1.heap.size, 0, none⟩ (.slice (some ⟨g, 0, none⟩) (n + 1) cp)).cell? ⟨w.heap.size, 0, none⟩ = some (.slice none 0 0) := by
        rw [World.cell?_setCell_other _ _ _ _ (fun e => hV (by injection e with e1))]; exact gr1
      clear x2 xf r2 rf x4 xf4 v4 vf4 HW2 HR2 HR4 HW4 HF4 HGR HO5 HAT
      go_wp2
      refine bodyPost_ret (v := .agg #[.slice (some ⟨g, 0, none⟩) (n + 1) cp]) (by simp [results, Try.results114, go_sem, gr1]) rfl (BentR.mk (RgS.setR (S := fun k => S k ∨ InR w3.heap.size w4.heap.size k ∨ k = g) (RgS.loc.setC HST.out (q := ⟨w1.heap.size, 0, none⟩) ?_ _) ?_ _) (by omega) ((S5.out.setCell (q := ⟨w1.heap.size, 0, none⟩) hp1 _).setCell (q := ⟨w.heap.size, 0, none⟩) hp _) (by omega) ((O5.out.setNew (q := ⟨w1.heap.size, 0, none⟩) (by show w.heap.size ≤ w1.heap.size; omega) _).setNew (q := ⟨w.heap.size, 0, none⟩) (Nat.le_refl _) _))
      · rintro (h | h | h)
        · exact hVS h
        · have h1 : w3.heap.size ≤ w1.heap.size := h.1; omega
        · exact hgV h.symm
      · rintro k (h | h | h)
        · exact ⟨(HSS.out k h).1, by have := (HSS.out k h).2; simp; omega⟩
        · exact ⟨by have := h.1; omega, by have := h.2; simp; omega⟩
        · exact ⟨by have := hgg.1; omega, by rw [h]; simpa using hgg.2⟩)
  · have e0 : (r == 0) = false := by simp [q0]
    by_cases q1 : r = 1
    · have e1 : (r == 1) = true := by simp [q1]
      clear q0 q1 r0 r1
      have sA := HS2.out.below ((Below.refl w2.heap.size w2).alloc (Nat.le_refl _) (.cells #[.int .i64 10, .int .i64 11] 2))
      go_wp2_with fail
      refine (l1PickM_calls p a len cap (t1 + 1) w2.heap.size 2 2 [10, 11] _ (by omega) (by omega) (by omega) sA hw2 (by simp) rfl lit2).mono ?_
      rintro e w3 ⟨j, hj, rfl, s3, o3⟩
      have o23 := (Outside.alloc p (p + 1) w2 (.cells #[.int .i64 10, .int .i64 11] 2)).trans o3
      obtain ⟨m, hm, hm33⟩ : ∃ m : Nat, gt [10, 11] j = (m : Int) ∧ m ≤ 11 := by
        rcases (by omega : j = 0 ∨ j = 1) with rfl | rfl
        · exact ⟨10, rfl, by omega⟩
        · exact ⟨11, rfl, by omega⟩
      rw [hm]
      have hmk : ∀ u : World, (Instr.makeSlice 32 (.int .i64 (m : Int)) (.int .i64 (m : Int))).run Try.prog u =
          .ok (.slice (some ⟨u.heap.size, 0, none⟩) m m) (u.alloc (.cells (madeCells #[.int .i64 0, .slice none 0 0] (m * 2)) 111)) := fun u => by
        have h := run_make (P := Try.prog) u 32 111 i0 (.agg #[.int .i64 0, .slice none 0 0]) Try.underlying32 hi hz0 .i64 .i64 (m : Int) (m : Int) (by omega) (Int.le_refl _) (by rw [hz2]; omega) (by omega)
        simpa [hz1, Value.cells] using h
      have z3 := o23.size
      have y3 := o23.cell (q := ⟨w1.heap.size, 0, none⟩) hVw hpV x2
      have yf := o23.frozen (q := ⟨w1.heap.size, 0, none⟩) hVw hpV xf
      have v3 := o23.cell (q := ⟨w.heap.size, 0, none⟩) hRw hpn r2
      have vf := o23.frozen (q := ⟨w.heap.size, 0, none⟩) hRw hpn rf
      have HK : Hid (∀ x y : Value, RgS (InR (w.heap.size + 1) (((w3.setCell ⟨w1.heap.size, 0, none⟩ x).setCell ⟨w.heap.size, 0, none⟩ y).alloc (.cells (madeCells #[.int .i64 0, .slice none 0 0] (m * 2)) 111)).heap.size) (some ⟨w3.heap.size, 0, none⟩) m (List.replicate m (0, [])) (((w3.setCell ⟨w1.heap.size, 0, none⟩ x).setCell ⟨w.heap.size, 0, none⟩ y).alloc (.cells (madeCells #[.int .i64 0, .slice none 0 0] (m * 2)) 111))) := fun x y => by
        have h := made_rg ((w3.setCell ⟨w1.heap.size, 0, none⟩ x).setCell ⟨w.heap.size, 0, none⟩ y) m 111 (InR (w.heap.size + 1) (((w3.setCell ⟨w1.heap.size, 0, none⟩ x).setCell ⟨w.heap.size, 0, none⟩ y).alloc (.cells (madeCells #[.int .i64 0, .slice none 0 0] (m * 2)) 111)).heap.size) ⟨by simp; omega, by simp⟩
        rw [show ((w3.setCell ⟨w1.heap.size, 0, none⟩ x).setCell ⟨w.heap.size, 0, none⟩ y).heap.size = w3.heap.size from by simp] at h
        exact h
      have HS3 := hide fun x y o => ((s3.setCell (q := ⟨w1.heap.size, 0, none⟩) hp1 x).setCell (q := ⟨w.heap.size, 0, none⟩) hp y).below ((Below.refl _ _).alloc (Nat.le_refl _) o)
      have HO3 := hide fun x y o => (((HO2.out.trans o23).setNew (q := ⟨w1.heap.size, 0, none⟩) (by show w.heap.size ≤ w1.heap.size; omega) x).setNew (q := ⟨w.heap.size, 0, none⟩) (Nat.le_refl _) y).trans (Outside.alloc p (p + 1) _ o)
      have k1 : w1.heap.size < w3.heap.size := by omega
      have k2 : w.heap.size < w3.heap.size := by omega
      clear x2 xf r2 rf sA o3 s3 o23
      go_wp2
      refine bodyPost_ret (v := .agg #[.slice (some ⟨w3.heap.size, 0, none⟩) m m]) (by simp [results, Try.results114, go_sem, v3, k2]) rfl ?_
      exact BentR.mk (HK.out _ _) hm33 (HS3.out _ _ _) (by omega) (HO3.out _ _ _)
    · have e1 : (r == 1) = false := by simp [q1]
      by_cases q2 : r = 2
      · have e2 : (r == 2) = true := by simp [q2]
        clear q0 q1 q2 r0 r1
        by_cases hn0 : 0 < n
        · have hn0' : (0 : Int) < (n : Int) := by omega
          obtain ⟨b, fa, fc, fb, rfl, hb⟩ := HR2.out.body hn0
          have HB2 := hide hb
          have hbS := hb.hS
          have hbV : b ≠ w1.heap.size := fun e => by have := (HSS.out b hbS).2; omega
          have hbR : b ≠ w.heap.size := fun e => by have := (HSS.out b hbS).1; omega
          have hb1 : w.heap.size + 1 ≤ b := (HSS.out b hbS).1
          have hpb : p < b := by omega
          clear hb
          have HBa := hide (Src.drew (HS2.out.below ((Below.refl w2.heap.size w2).alloc (Nat.le_refl _) (.cells #[.int .i64 0, .int .i64 99, .int .i64 (-1)] 2))))
          have HOB := hide (Outside.drew (Outside.alloc p (p + 1) w2 (.cells #[.int .i64 0, .int .i64 99, .int .i64 (-1)] 2)))
          have hgs2 : w2.heap.size < ((w2.alloc (.cells #[.int .i64 0, .int .i64 99, .int .i64 (-1)] 2)).drew).heap.size := by simp
          have HG := hide hgs2
          have htt : t1 + 1 ≤ 1000000 := by omega
          clear hgs2
          go_wp2_with fail
          go_region_with (go_at_call 113; refine (l1Pick_calls p a len cap (t1 + 1) w2.heap.size 3 3 [0, 99, -1] _ (by decide) (by decide) htt HBa.out hw2 HG.out rfl ?_).mono ?_; exact lit3; rintro e w3 ⟨y, rfl, s3, o3⟩; have o23 : Outside p (p + 1) w2 w3 := Outside.trans HOB.out o3; have x3 := Outside.cell (q := ⟨w1.heap.size, 0, none⟩) o23 hVw hpV x2; have HB3 : Hid (ORb S b n fa fc fb (gc ss) (gl ss) w3) := (HB2.out.keep (fun k hk hl => o23.block k hl (.inr (by have := (HSS.out k hk).1; omega))) o23.size); have S3 := hide s3; have O3 := hide o23; have hc3 : w3.cell? ⟨b, 0, none⟩ = some (.int .i64 (gc ss 0)) := (by have h := HB3.out.c0 0 hn0; simpa using h); have hf3 := HB3.out.fz 0; clear s3 o3 o23)
          all_goals (
            have v3 := O3.out.cell (q := ⟨w.heap.size, 0, none⟩) hRw hpn r2
            have vf := O3.out.frozen (q := ⟨w.heap.size, 0, none⟩) hRw hpn rf
            have xu : (w3.setCell ⟨b, 0, none⟩ (.int .i64 y)).cell? ⟨w1.heap.size, 0, none⟩ = some (.slice (some ⟨b, 0, none⟩) n rc) := by
              rw [World.cell?_setCell_other _ _ _ _ (fun e => hbV (by injection e with e1))]; exact x3
            have ru : (w3.setCell ⟨b, 0, none⟩ (.int .i64 y)).cell? ⟨w.heap.size, 0, none⟩ = some (.slice none 0 0) := by
              rw [World.cell?_setCell_other _ _ _ _ (fun e => hbR (by injection e with e1))]; exact v3
            have rfu : (w3.setCell ⟨b, 0, none⟩ (.int .i64 y)).frozen? ⟨w.heap.size, 0, none⟩ = false := by
              rw [World.frozen?_setCell]; exact vf
            have bu : Hid (RgS S (some ⟨b, 0, none⟩) n (ss.set 0 (y, gl ss 0)) (w3.setCell ⟨b, 0, none⟩ (.int .i64 y))) := by
              have h := HB3.out.setCount hn0 y
              have h2 := h.congr (fc' := gc (ss.set 0 (y, gl ss 0))) (fl' := gl (ss.set 0 (y, gl ss 0))) (fun i hi => by unfold upd gc; by_cases e : i = 0; (subst e; simp [show 0 < ss.length by omega]); (rw [if_neg e]; simp [Ne.symm e])) (fun i hi => by unfold gl; by_cases e : i = 0; (subst e; simp [show 0 < ss.length by omega]); simp [Ne.symm e])
              have hm := HR2.out.2.1
              have hls : lenSum (ss.set 0 (y, gl ss 0)) = lenSum ss := lenSum_congr _ _ (by simp) (fun j hj => by unfold gl; by_cases e : j = 0; (subst e; simp [show 0 < ss.length by omega]); simp [Ne.symm e])
              exact ((by simpa using h2 : ORb S b n fa fc fb (gc (ss.set 0 (y, gl ss 0))) (gl (ss.set 0 (y, gl ss 0))) (w3.setCell ⟨b, 0, none⟩ (.int .i64 y))).or (by simp [hsn]) (by rw [hls]; exact hm)).rgS
            have su := hide (S3.out.setCell (q := ⟨b, 0, none⟩) hpb (.int .i64 y))
            have ou := hide ((HO2.out.trans O3.out).setNew (q := ⟨b, 0, none⟩) (by show w.heap.size ≤ b; omega) (.int .i64 y))
            have z3 := O3.out.size
            clear x3 x2 xf r2 rf hc3 hf3 v3 vf
            go_wp2
            exact bodyPost_ret (v := .agg #[.slice (some ⟨b, 0, none⟩) n rc]) (by simp [results, Try.results114, go_sem, ru]) rfl (BentR.mk (RgS.setR bu.out (fun k hk => ⟨(HSS.out k hk).1, by have := (HSS.out k hk).2; simp; omega⟩) _) (by omega) (su.out.setCell (by exact hp) _) (by omega) (ou.out.setNew (Nat.le_refl _) _)))
        · have hn0' : ¬ (0 : Int) < (n : Int) := by omega
          go_wp2
          exact bodyPost_ret (v := .agg #[.slice ra n rc]) (by simp [results, Try.results114, go_sem, r2]) rfl (BentR.mk (RgS.setR HR2.out.rgS (fun k hk => ⟨(HSS.out k hk).1, by have := (HSS.out k hk).2; omega⟩) _) (by omega) (HS2.out.setCell (by exact hp) _) (by omega) (HO2.out.setNew (Nat.le_refl _) _))
      · have e2 : (r == 2) = false := by simp [q2]
        clear q0 q1 q2 r0 r1
        go_wp2
        exact bodyPost_ret (v := .agg #[.slice ra n rc]) (by simp [results, Try.results114, go_sem, r2]) rfl (BentR.mk (RgS.setR HR2.out.rgS (fun k hk => ⟨(HSS.out k hk).1, by have := (HSS.out k hk).2; omega⟩) _) (by omega) (HS2.out.setCell (by exact hp) _) (by omega) (HO2.out.setNew (Nat.le_refl _) _))

end Go.Proofs.Ytgkjmeogdomgmaa
