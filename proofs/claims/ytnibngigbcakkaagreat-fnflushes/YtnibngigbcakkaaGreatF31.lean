import Derived.Test.YtnibngigbcakkaaGreatF30
import Derived.Test.YtnibngigbcakkaaGreatF24
import Derived.Laws.OwnMore
import Derived.WalkKit
import Derived.ProofKit
import Derived.OpenShut
import Derived.ShutString
import Derived.ChangeOld
import Derived.Below
import Derived.WalkSpells
import Derived.Deep.QuietTactic
import Derived.BigQuiet
import Derived.Deep.RegionWith
import Derived.Deep.WholeRow
import Derived.Deep.DeepCutAuto
import Derived.Deep.RegionHeld2
import Derived.Deep.AppendLies
import Derived.Deep.RegionLaw
namespace Go.Proofs.YtnibngigbcakkaaGreat
open Go.ChangeShapes Go.WideShapes Go.ChangeAt Go.RowKit

set_option maxRecDepth 100000 in
theorem l2Leave_R (q B : Nat) (S : Nat → Prop) (a : Option Addr) (n ca : Nat) (ss : List (Int × List Int)) (p : Nat) (w : World) (hqc : w.cell? ⟨q, 0, none⟩ = some (.slice a n ca)) (ho : OR S a n ss w) (hrow : ∃ xs, w.ownsRow B 114 2 (.slice a n ca) n xs) (hS : ¬ S q) (hp : p < n) (h1 : 1 ≤ gc ss p) (h9 : gc ss p ≤ 99) (hm : n + lenSum (leaveS ss p) ≤ 1048576) :
    Calls Tryz.prog 93 #[.pointer (some ⟨q, 0, none⟩), .int .i64 p] w fun e w' => e = .returned (.tuple #[]) ∧ OR S a n (leaveS ss p) w' ∧ (∃ xs, w'.ownsRow B 114 2 (.slice a n ca) n xs) ∧ OutS S w w' := by
  have hlen := ho.1
  obtain ⟨N, la, lc, lb, rfl, hb⟩ := ho.body (by omega)
  have hN := hb.hS
  obtain ⟨xs, hxs⟩ := hrow
  have k0 := hb.c0 p hp
  have k1 := hb.c1 p hp
  have f0 := hb.fz (p * 2)
  have f1 := hb.fz (p * 2 + 1)
  have hqN : q ≠ N := fun e => hS (e ▸ hN)
  have hbd := ho.2.1
  have hps : p < ss.length := by omega
  have HO := hide ((OutS.refl S w).setCell (p := ⟨N, p * 2, none⟩) hN (.int .i64 (gc ss p - 1)))
  by_cases hg : gc ss p = 1
  · have e0 : (gc ss p - 1 == 0) = true := by simp [hg]
    have HR := hide (((hb.setCount hp 0).drop hp).congr (fc' := gc (leaveS ss p)) (fl' := gl (leaveS ss p)) (fun i hi => by rw [gc_leave hps, hg]; rfl) (fun i hi => by rw [gl_leave hps, if_pos hg]; rfl)).or
    have HO2 := hide (((OutS.refl S w).setCell (p := ⟨N, p * 2, none⟩) hN (.int .i64 0)).setCell (p := ⟨N, p * 2 + 1, none⟩) hN (.slice none 0 0))
    have HW := hide (((hxs.stored (p * 2) (.int .i64 0)).1).stored (p * 2 + 1) (.slice none 0 0)).1
    clear hb ho HO hxs
    go_enter Tryz.func93, Tryz.ntmps93
    go_wp2
    refine bodyPost_end (v := .tuple #[]) (by simp [results, Tryz.results93, go_sem]) rfl ⟨rfl, HR.out (by rw [length_leaveS]; exact hlen) hm, ⟨_, HW.out⟩, HO2.out⟩
  · have e0 : (gc ss p - 1 == 0) = false := by simp; omega
    have HR := hide ((hb.setCount hp (gc ss p - 1)).congr (fc' := gc (leaveS ss p)) (fl' := gl (leaveS ss p)) (fun i hi => by rw [gc_leave hps]; rfl) (fun i hi => by rw [gl_leave hps, if_neg hg]; split <;> simp_all)).or
    have HW := hide (hxs.stored (p * 2) (.int .i64 (gc ss p - 1))).1
    clear hb ho hxs
    go_enter Tryz.func93, Tryz.ntmps93
    go_wp2
    refine bodyPost_end (v := .tuple #[]) (by simp [results, Tryz.results93, go_sem]) rfl ⟨rfl, HR.out (by rw [length_leaveS]; exact hlen) hm, ⟨_, HW.out⟩, HO.out⟩

/-- a registry's variable at block q: its row and its labels in blocks of S behind q, the row its own, the registry right. -/
structure RV (q : Nat) (S : Nat → Prop) (ra : Option Addr) (n rc : Nat) (ss : List (Int × List Int)) (X : World) : Prop where
  c : X.cell? ⟨q, 0, none⟩ = some (.slice ra n rc)
  f : X.frozen? ⟨q, 0, none⟩ = false
  o : OR S ra n ss X
  row : ∃ ys, X.ownsRow (q + 1) 114 2 (.slice ra n rc) n ys
  vT : ∀ g, (Value.slice ra n rc).ownBlock = some g → S g
  sS : ∀ k, S k → q + 1 ≤ k ∧ k < X.heap.size
  good : Good ss
  lt : q < X.heap.size

theorem own_keepS {w u : World} {B m k : Nat} {e : TypeId} {v : Value} {L : List Value} (h : w.ownsRow B e m v k L) (hk : ∀ g, v.ownBlock = some g → u.heap[g]? = w.heap[g]?) : u.ownsRow B e m v k L := by
  obtain ⟨h1, h2⟩ := h
  refine ⟨h1, ?_⟩
  rcases h2 with h2 | ⟨g, cap, cur, hv, hg, hh, r⟩
  · exact .inl h2
  · exact .inr ⟨g, cap, cur, hv, hg, by rw [hk g (by rw [hv]; rfl)]; exact hh, r⟩

theorem RV.keep {q : Nat} {S : Nat → Prop} {ra : Option Addr} {n rc : Nat} {ss : List (Int × List Int)} {X Y : World} (h : RV q S ra n rc ss X) (hz : X.heap.size ≤ Y.heap.size) (hk : ∀ k, q ≤ k → k < X.heap.size → Y.heap[k]? = X.heap[k]?) : RV q S ra n rc ss Y := by
  obtain ⟨ys, hr⟩ := h.row
  exact ⟨(World.cell?_of_block (a := ⟨q, 0, none⟩) (hk q (Nat.le_refl _) h.lt)).trans h.c, (World.frozen?_of_block (a := ⟨q, 0, none⟩) (hk q (Nat.le_refl _) h.lt)).trans h.f, OR.loc X Y (fun k hS hl => hk k (by have := (h.sS k hS).1; omega) hl) h.o, ⟨ys, own_keepS hr (fun g hg => hk g (by have := (hr.lt g hg).1; omega) (hr.lt g hg).2)⟩, h.vT, fun k hS => ⟨(h.sS k hS).1, by have := (h.sS k hS).2; omega⟩, h.good, by have := h.lt; omega⟩

theorem RV.below {q : Nat} {S : Nat → Prop} {ra : Option Addr} {n rc : Nat} {ss : List (Int × List Int)} {X Y : World} (h : RV q S ra n rc ss X) (hb : Below X.heap.size X Y) : RV q S ra n rc ss Y := h.keep hb.size (fun k _ hk => hb.block k hk)

theorem RV.outside {q p : Nat} {S : Nat → Prop} {ra : Option Addr} {n rc : Nat} {ss : List (Int × List Int)} {X Y : World} (h : RV q S ra n rc ss X) (ho : Outside p (p + 1) X Y) (hp : p < q) : RV q S ra n rc ss Y := h.keep ho.size (fun k hq hk => ho.block k hk (.inr (by omega)))

theorem RV.new (X : World) (t : TypeId) : RV X.heap.size (fun _ => False) none 0 0 [] (X.alloc (.cells #[.slice none 0 0] t)) :=
  ⟨by simp, by simp, ⟨rfl, by simp [lenSum], .inl rfl⟩, ⟨[], World.ownsRow_nil _ _ _ _⟩, fun g hg => by simp [Value.ownBlock] at hg, fun k h => h.elim, ⟨by simp, fun j hj => by simp at hj, fun j hj => by simp at hj, fun j hj => by simp at hj, fun j hj => by simp at hj, fun i j hi => by simp at hi⟩, by simp⟩

theorem or_block {S : Nat → Prop} {a : Option Addr} {n c : Nat} {ss : List (Int × List Int)} {w : World} (h : OR S a n ss w) (hn : 0 < n) : ∀ g, (Value.slice a n c).ownBlock = some g → S g := by
  obtain ⟨N, la, lc, lb, rfl, hb⟩ := h.body hn
  intro g hg
  simp [Value.ownBlock] at hg
  exact hg ▸ hb.hS

theorem enS_pos {ss : List (Int × List Int)} {zs : List Int} (_ : Good ss) : 0 < (enS ss zs).length := by
  unfold enS layS
  by_cases h : enQ ss zs < ss.length
  · rw [if_pos h, List.length_set]; omega
  · rw [if_neg h, List.length_append]; simp

theorem fault_rng {zs : List Int} (h4 : zs.length = 4) (h : ∀ v ∈ zs, 0 ≤ v ∧ v ≤ 5) : fault zs = 0 := by
  unfold fault
  rw [if_pos h4, if_pos]
  rw [List.all_eq_true]
  intro v hv
  have := h v hv
  simp [okI]
  omega

/-- behind an entering, whether it was done or not. -/
theorem RV.entered {q : Nat} {S : Nat → Prop} {ra : Option Addr} {n rc : Nat} {ss : List (Int × List Int)} {zs : List Int} {X Y : World} {e : Ending} (h : RV q S ra n rc ss X) (hz : fault zs = 0) (he : ERs q (q + 1) S ss zs X e Y) : ∃ S' ra' n' rc' ss', RV q S' ra' n' rc' ss' Y := by
  obtain ⟨_, h1, h2, h3, h4⟩ := he
  by_cases hc : etC ss zs = 0
  · obtain ⟨a', ca', c1, o1, r1⟩ := h1 hc
    refine ⟨_, a', _, ca', enS ss zs, c1, ((h4 0).2).trans h.f, o1, r1, or_block o1 (enS_pos h.good), fun k hk => ?_, good_enter h.good hz hc, by have := h3.size; have := h.lt; omega⟩
    rcases hk with hk | hk
    · exact ⟨(h.sS k hk).1, by have := (h.sS k hk).2; have := h3.size; omega⟩
    · exact ⟨by have := hk.1; have := h.lt; omega, hk.2⟩
  · exact ⟨S, ra, n, rc, ss, h.below (h2 hc)⟩

/-- what an entering leaves of the rest. -/
theorem RV.enterB {q : Nat} {S : Nat → Prop} {ra : Option Addr} {n rc : Nat} {ss : List (Int × List Int)} {zs : List Int} {X Y : World} {e : Ending} (h : RV q S ra n rc ss X) (he : ERs q (q + 1) S ss zs X e Y) : Below q X Y := by
  have h3 := he.2.2.2.1
  exact h3.below (fun k hk => by rcases hk with hk | hk; have := (h.sS k hk).1; omega; omega) (by have := h.lt; omega)

theorem RV.left {q : Nat} {S : Nat → Prop} {ra : Option Addr} {n rc p : Nat} {ss : List (Int × List Int)} {X Y : World} (h : RV q S ra n rc ss X) (hp : p < ss.length) (hg : 0 < gc ss p) (ho : OR S ra n (leaveS ss p) Y) (hr : ∃ xs, Y.ownsRow (q + 1) 114 2 (.slice ra n rc) n xs) (hs : OutS S X Y) : RV q S ra n rc (leaveS ss p) Y := by
  have hq : ¬ S q := fun e => by have := (h.sS q e).1; omega
  have hb := hs.block q h.lt hq
  exact ⟨(World.cell?_of_block (a := ⟨q, 0, none⟩) hb).trans h.c, (World.frozen?_of_block (a := ⟨q, 0, none⟩) hb).trans h.f, ho, hr, h.vT, fun k hk => ⟨(h.sS k hk).1, by have := (h.sS k hk).2; have := hs.size; omega⟩, good_leave h.good hp hg, by have := h.lt; have := hs.size; omega⟩

theorem l1PickR_calls (p : Nat) (a : Option Addr) (len cap t : Nat) (g m mc : Nat) (zs : List Int) (w : World) (hm1 : 1 ≤ m) (hm2 : m ≤ 200) (ht : t ≤ 1000000) (hs : Src w p a len cap t) (hg : p < g) (hgs : g < w.heap.size) (hz : zs.length = m)
    (hc : ∀ i, i < m → w.cell? ⟨g, i, none⟩ = some (.int .i64 (gt zs i))) :
    Calls Tryz.prog 21 #[.pointer (some ⟨p, 0, none⟩), .slice (some ⟨g, 0, none⟩) m mc] w fun e w' => ∃ r, e = .returned (.int .i64 r) ∧ Src w' p a len cap (t + 1) ∧ Outside p (p + 1) w w' ∧ r ∈ zs := by
  refine (l1PickM_calls p a len cap t g m mc zs w hm1 hm2 ht hs hg hgs hz hc).mono ?_
  rintro e w' ⟨j, hj, rfl, s1, o1⟩
  refine ⟨_, rfl, s1, o1, ?_⟩
  have e : gt zs j = zs[j] := by simp [gt, show j < zs.length by omega]
  rw [e]
  exact List.getElem_mem _

theorem rng_snoc {L : List Int} {r : Int} (h : ∀ v ∈ L, 0 ≤ v ∧ v ≤ 5) (hr : 0 ≤ r ∧ r ≤ 5) : ∀ v ∈ L ++ [r], 0 ≤ v ∧ v ≤ 5 := fun v hv => by
  rcases List.mem_append.1 hv with hv | hv
  · exact h v hv
  · simp at hv; subst hv; exact hr

theorem six_rng {r : Int} (h : r ∈ [2, 2, 2, 3, 4, (1 : Int)]) : 0 ≤ r ∧ r ≤ 5 := by
  simp at h
  omega

theorem rng_set {L : List Int} {k : Nat} (h : ∀ v ∈ L, 0 ≤ v ∧ v ≤ 5) : ∀ v ∈ L.set k 0, 0 ≤ v ∧ v ≤ 5 := fun v hv => by
  rcases List.mem_or_eq_of_mem_set hv with hv | rfl
  · exact h v hv
  · exact ⟨Int.le_refl _, by decide⟩

set_option maxRecDepth 100000 in
set_option maxHeartbeats 4000000 in
theorem l1PlainR_calls (p : Nat) (a : Option Addr) (len cap t : Nat) (w : World) (ht : t ≤ 999000) (hs : Src w p a len cap t) :
    Calls Tryz.prog 94 #[.pointer (some ⟨p, 0, none⟩)] w fun e w' => ∃ ra rc zs, e = .returned (.agg #[.slice ra 4 rc]) ∧ 4 ≤ rc ∧ OSl w' w.heap.size w'.heap.size ra 4 zs ∧ Src w' p a len cap (t + 4) ∧ Outside p (p + 1) w w' ∧ ∀ v ∈ zs, 0 ≤ v ∧ v ≤ 5 := by
  obtain ⟨i0, hi, hz0, hz1, hz2⟩ := info_parts info2
  have hp : p < w.heap.size := hs.1
  go_enter Tryz.func94, Tryz.ntmps94
  go_wp2
  go_loopw [4] (fun i wr => ∃ (k : Nat) (v : Value) (L : List Int), k ≤ 4 ∧ i = .int .i64 k ∧ wr.cell? ⟨w.heap.size + 1, 0, none⟩ = some v ∧ wr.frozen? ⟨w.heap.size + 1, 0, none⟩ = false ∧ wr.ownsRow (w.heap.size + 2) 2 1 v k (L.map (Value.int .i64)) ∧
      wr.cell? ⟨w.heap.size, 0, none⟩ = some (.slice none 0 0) ∧ wr.frozen? ⟨w.heap.size, 0, none⟩ = false ∧ Outside p (p + 1) w wr ∧ Src wr p a len cap (t + k) ∧ w.heap.size + 2 ≤ wr.heap.size ∧ ∀ v ∈ L, 0 ≤ v ∧ v ≤ 5) (fun i _ => 4 - (intOf i).toNat)
  case atStart => exact ⟨0, .slice none 0 0, [], Nat.zero_le _, rfl, by go_simp, by go_simp, World.ownsRow_nil _ _ _ _, by go_simp, by go_simp, (Outside.alloc _ _ _ _).trans (Outside.alloc _ _ _ _), hs.below (((Below.refl _ _).alloc (Nat.le_refl _) _).alloc (by simp) _), by simp, by simp⟩
  case round =>
    obtain ⟨k, v, L, hk, rfl, hv, hvf, hown, hr, hrf, hout, hsrc, hsz, hrg⟩ := hrel
    by_cases hlt : k < 4
    · have hsz1 : w.heap.size + 1 < wr.heap.size := by omega
      have hS1 : Src (wr.alloc (.cells #[.int .i64 2, .int .i64 2, .int .i64 2, .int .i64 3, .int .i64 4, .int .i64 1] 2)).drew p a len cap (t + k) := hsrc.below (((Below.refl _ _).alloc (Nat.le_refl _) _).drew)
      have hpw : p < wr.heap.size := by omega
      have htk : t + k ≤ 1000000 := by omega
      have hnp : p + 1 ≤ w.heap.size + 1 := by omega
      have hpb : p < w.heap.size + 2 := by omega
      have hgs : wr.heap.size < ((wr.alloc (.cells #[.int .i64 2, .int .i64 2, .int .i64 2, .int .i64 3, .int .i64 4, .int .i64 1] 2)).drew).heap.size := by simp
      have HGS := hide hgs
      have HRG := hide hrg
      have HO := hide hown
      have HS1 := hide hS1
      clear hown hS1 hgs hrg
      go_wp2_with fail
      go_region_law (first
        | (refine step_append_lies _ rfl _ _ 38 rfl (w.heap.size + 2) 2 i0 (.int .i64 0) 1 8 Tryz.underlying38 hi hz0 hz1 hz2 rfl (by decide) v k (L.map (Value.int .i64)) rfl (HO1.out.alloc _) ⟨w1.heap.size, 0, none⟩ 1 1 [.int .i64 r] rfl rfl (one_new (by go_simp)) (by simp [Value.oneCell']) (by omega) (by unfold maxLen; omega) (by omega) (by simp; omega) (w1.heap.size + 1) (by simp) ?_; intro g cp w2 hown1 hgrow hat hlt1; have gv := grow_cell' HO1.out hgrow hz2' (q := ⟨w.heap.size + 1, 0, none⟩) (by simp); rw [hv1, hvf1] at gv; obtain ⟨gv1, gv2⟩ := gv)
        | (go_simp; go_at_call 21; refine (l1PickR_calls p a len cap (t + k) wr.heap.size 6 6 [2, 2, 2, 3, 4, 1] _ (by decide) (by decide) htk HS1.out hpw HGS.out rfl ?_).mono ?_; exact six_at; rintro e w1 ⟨r, rfl, s1, o1, hrm⟩; have HRM := hide hrm; clear hrm; have o1' := Outside.trans (Outside.drew (Outside.alloc p (p + 1) wr (.cells #[.int .i64 2, .int .i64 2, .int .i64 2, .int .i64 3, .int .i64 4, .int .i64 1] 2))) o1; have hv1 := Outside.cell (q := ⟨w.heap.size + 1, 0, none⟩) o1' hsz1 hnp hv; have hvf1 := Outside.frozen (q := ⟨w.heap.size + 1, 0, none⟩) o1' hsz1 hnp hvf; have HO1 := hide (owns_outside HO.out o1' hpb); have hz2' : w.heap.size + 2 ≤ w1.heap.size := Nat.le_trans hsz o1'.size; have hz3 : w.heap.size + 1 < w1.heap.size := hz2'; have S1 := hide s1; have O1 := hide o1'; clear s1 o1 o1'))
      all_goals
        have R := app_stepO (hout.trans O1.out) (by omega : w.heap.size ≤ w.heap.size + 1) (by omega : w.heap.size + 1 < w.heap.size + 2) hz2' hp hv1 hvf1 HO1.out hgrow hown1 S1.out
        rw [ints_snoc] at R
        have hpn : p + 1 ≤ w.heap.size := hp
        have hnw : w.heap.size < wr.heap.size := by omega
        have r1 := (R.2.2.2.1 ⟨w.heap.size, 0, none⟩ (show w.heap.size < _ from by omega) (show w.heap.size ≠ _ from by omega)).1.trans (O1.out.cell (q := ⟨w.heap.size, 0, none⟩) hnw hpn hr)
        have r2 := (R.2.2.2.1 ⟨w.heap.size, 0, none⟩ (show w.heap.size < _ from by omega) (show w.heap.size ≠ _ from by omega)).2.trans (O1.out.frozen (q := ⟨w.heap.size, 0, none⟩) hnw hpn hrf)
        have HR := hide R
        have HR1 := hide r1
        have HR2 := hide r2
        clear R r1 r2 gv1 gv2 hown1 hgrow hat hlt1 hv1 hvf1 hv hvf hr hrf hpn hnw
        go_wp2
        go_roundw
        case rel => exact ⟨k + 1, _, L ++ [r], by omega, by go_num, HR.out.1, HR.out.2.1, HR.out.2.2.1, HR1.out, HR2.out, HR.out.2.2.2.2.1, HR.out.2.2.2.2.2.2, HR.out.2.2.2.2.2.1, rng_snoc HRG.out (six_rng HRM.out)⟩
        case measure => simp [intOf]; omega
    · have hkn : k = 4 := by omega
      subst hkn
      obtain ⟨ra, rc, rfl, ho⟩ := owns_osl (by omega) hown
      have hcap := owns_cap hown rfl
      clear hown
      go_wp2
      refine bodyPost_ret (v := .agg #[.slice ra 4 rc]) (by simp [results, Tryz.results94, go_sem, hr]) rfl ⟨ra, rc, L, rfl, hcap, ?_, hsrc.setCell (by exact hp) _, hout.setNew (Nat.le_refl _) _, hrg⟩
      exact (ho.map (fun b h1 _ hb => hb.setCell (by simp; omega) _)).mono (by omega) (by simp)

set_option maxRecDepth 100000 in
set_option maxHeartbeats 2000000 in
theorem l1DrawR_calls (p : Nat) (a : Option Addr) (len cap t : Nat) (w : World) (ht : t ≤ 998000) (hs : Src w p a len cap t) :
    Calls Tryz.prog 76 #[.pointer (some ⟨p, 0, none⟩)] w fun e w' => ∃ ra rc zs t', e = .returned (.agg #[.slice ra 4 rc]) ∧ 4 ≤ rc ∧ OSl w' w.heap.size w'.heap.size ra 4 zs ∧ Src w' p a len cap t' ∧ t' ≤ t + 6 ∧ Outside p (p + 1) w w' ∧ ∀ v ∈ zs, 0 ≤ v ∧ v ≤ 5 := by
  have hp : p < w.heap.size := hs.1
  have hpn : p + 1 ≤ w.heap.size := hp
  go_enter Tryz.func76, Tryz.ntmps76
  go_wp2_with fail
  refine (l1PlainR_calls p a len cap t _ (by omega) (hs.below ((Below.refl _ _).alloc (Nat.le_refl _) _))).mono ?_
  rintro e w1 ⟨ra, rc, zs, rfl, hcap, ho, s1, o1, hrg⟩
  obtain ⟨g, rfl, hgB, hgT, blk, h4⟩ := ho.four
  simp only [World.size_alloc] at hgB
  have hN1 : w.heap.size < w1.heap.size := by have := o1.size; simp at this; omega
  have rc1 : w1.cell? ⟨w.heap.size, 0, none⟩ = some (.slice none 0 0) := o1.cell (q := ⟨w.heap.size, 0, none⟩) (by simp) hpn (by go_simp)
  have rf1 : w1.frozen? ⟨w.heap.size, 0, none⟩ = false := o1.frozen (q := ⟨w.heap.size, 0, none⟩) (by simp) hpn (by go_simp)
  have o1w : Outside p (p + 1) w w1 := (Outside.alloc _ _ _ _).trans o1
  have ha := (Below.refl w1.heap.size w1).alloc (Nat.le_refl _) (.cells #[.slice (some ⟨g, 0, none⟩) 4 rc] 84)
  have HRG := hide hrg
  clear ho o1 hrg
  go_wp2_with fail
  refine (l1Chance_calls p a len cap (t + 4) 3 _ (by omega) (by omega) (by omega) (s1.below ha)).mono ?_
  rintro e w2 ⟨rb, rfl, s2, o2⟩
  have hpg : p < g := by omega
  have hp1 : p + 1 ≤ w1.heap.size := by omega
  have x2 : w2.cell? ⟨w1.heap.size, 0, none⟩ = some (.slice (some ⟨g, 0, none⟩) 4 rc) := o2.cell (q := ⟨w1.heap.size, 0, none⟩) (by simp) hp1 (by go_simp)
  have hn2 : w1.heap.size < w2.heap.size := by have := o2.size; simp at this; omega
  have hN2 : w.heap.size < w2.heap.size := by omega
  have rc2 : w2.cell? ⟨w.heap.size, 0, none⟩ = some (.slice none 0 0) := o2.cell (q := ⟨w.heap.size, 0, none⟩) (by simp; omega) hpn (by go_simp)
  have rf2 : w2.frozen? ⟨w.heap.size, 0, none⟩ = false := o2.frozen (q := ⟨w.heap.size, 0, none⟩) (by simp; omega) hpn (by go_simp)
  have blk2 : Blk w2 g zs := (blk.below ha).outside o2 hpg
  have o2w : Outside p (p + 1) w w2 := (o1w.trans (Outside.alloc _ _ _ _)).trans o2
  clear rc1 rf1 blk s1 o1w ha o2
  cases rb with
  | false =>
    go_wp2
    refine bodyPost_ret (v := .agg #[.slice (some ⟨g, 0, none⟩) 4 rc]) (by simp [results, Tryz.results76, go_sem, rc2]) rfl ⟨_, rc, zs, _, rfl, hcap, OSl.ofBlk (blk2.setCell (by simp; omega) _) (by omega) h4 (by omega), s2.setCell (by exact hp) _, by omega, o2w.setNew (Nat.le_refl _) _, HRG.out⟩
  | true =>
    have htt : t + 4 + 1 ≤ 1000000 := by omega
    have Hs2 := hide s2
    have Ho2 := hide o2w
    have Hb2 := hide blk2
    clear s2 o2w blk2
    go_wp2_with fail
    go_region_with (first
      | (go_at_call 18; refine (l1Next_calls p a len cap (t + 4 + 1) 4 _ (by decide) (by decide) htt (Src.drew Hs2.out)).mono ?_; rintro e w3 ⟨r, rfl, r0, r4, s3, o3⟩; have o23 := Outside.trans (Outside.drew (Outside.refl p (p + 1) w2)) o3; have x3 := Outside.cell (q := ⟨w1.heap.size, 0, none⟩) o23 hn2 hp1 x2; have blk3 := Blk.outside Hb2.out o23 hpg; have hx := idx_lt r0 r4; have hc3 := blk3.2.1 r.toNat (h4.symm ▸ hx); have hf3 := blk3.2.2 r.toNat; have HB3 := hide blk3; have HX := hide hx; have S3 := hide s3; have O3 := hide o23; clear blk3 hx s3 o3 o23))
    all_goals
      have hp2 : w1.heap.size ≠ g := by omega
      have hp3 : w.heap.size ≠ g := by omega
      have xu : (w3.setCell ⟨g, r.toNat, none⟩ (.int .i64 0)).cell? ⟨w1.heap.size, 0, none⟩ = some (.slice (some ⟨g, 0, none⟩) 4 rc) := by
        rw [World.cell?_setCell_other _ _ _ _ (fun e => hp2 (by injection e with e1; exact e1.symm))]; exact x3
      have ru : (w3.setCell ⟨g, r.toNat, none⟩ (.int .i64 0)).cell? ⟨w.heap.size, 0, none⟩ = some (.slice none 0 0) := by
        rw [World.cell?_setCell_other _ _ _ _ (fun e => hp3 (by injection e with e1; exact e1.symm))]; exact O3.out.cell (q := ⟨w.heap.size, 0, none⟩) hN2 hpn rc2
      have rfu : (w3.setCell ⟨g, r.toNat, none⟩ (.int .i64 0)).frozen? ⟨w.heap.size, 0, none⟩ = false := by
        rw [World.frozen?_setCell]; exact O3.out.frozen (q := ⟨w.heap.size, 0, none⟩) hN2 hpn rf2
      have bu := hide (Blk.store (x := 0) HB3.out (h4.symm ▸ HX.out))
      have su := hide (S3.out.setCell (q := ⟨g, r.toNat, none⟩) hpg (.int .i64 0))
      have ou := hide ((Ho2.out.trans O3.out).setNew (q := ⟨g, r.toNat, none⟩) (by show w.heap.size ≤ g; omega) (.int .i64 0))
      have hlen : (zs.set r.toNat 0).length = 4 := by rw [List.length_set]; exact h4
      clear x3 x2 rc2 rf2 hc3 hf3
      go_wp2
      refine bodyPost_ret (v := .agg #[.slice (some ⟨g, 0, none⟩) 4 rc]) (by simp [results, Tryz.results76, go_sem, ru]) rfl ⟨_, rc, _, _, rfl, hcap, OSl.ofBlk (bu.out.setCell (by simpa using hp3) _) (by omega) hlen (by omega), su.out.setCell (by exact hp) _, by omega, ou.out.setNew (Nat.le_refl _) _, rng_set HRG.out⟩

theorem l1Draw_calls (p : Nat) (a : Option Addr) (len cap t : Nat) (w : World) (ht : t ≤ 998000) (hs : Src w p a len cap t) :
    Calls Tryz.prog 76 #[.pointer (some ⟨p, 0, none⟩)] w fun e w' => ∃ ra rc zs t', e = .returned (.agg #[.slice ra 4 rc]) ∧ 4 ≤ rc ∧ OSl w' w.heap.size w'.heap.size ra 4 zs ∧ Src w' p a len cap t' ∧ t' ≤ t + 6 ∧ Outside p (p + 1) w w' :=
  (l1DrawR_calls p a len cap t w ht hs).mono fun _ _ ⟨ra, rc, zs, t', h1, h2, h3, h4, h5, h6, _⟩ => ⟨ra, rc, zs, t', h1, h2, h3, h4, h5, h6⟩

/-- what l2Draw gives. -/
def DrewR (p : Nat) (a : Option Addr) (len cap t : Nat) (w : World) (e : Ending) (w' : World) : Prop :=
  ∃ (S : Nat → Prop) (ra : Option Addr) (n rc : Nat) (ss : List (Int × List Int)) (t' : Nat), e = .returned (.agg #[.slice ra n rc]) ∧ OR S ra n ss w' ∧ (∃ ys, w'.ownsRow (w.heap.size + 1 + 1) 114 2 (.slice ra n rc) n ys) ∧ (∀ g, (Value.slice ra n rc).ownBlock = some g → S g) ∧ (∀ k, S k → w.heap.size + 1 + 1 ≤ k ∧ k < w'.heap.size) ∧ Good ss ∧ Src w' p a len cap t' ∧ t' ≤ t + 100 ∧ Outside p (p + 1) w w'

set_option maxRecDepth 100000 in
set_option maxHeartbeats 8000000 in
theorem l2Draw_calls (p : Nat) (a : Option Addr) (len cap t : Nat) (w : World) (ht : t ≤ 990000) (hs : Src w p a len cap t) :
    Calls Tryz.prog 72 #[.pointer (some ⟨p, 0, none⟩)] w (DrewR p a len cap t w) := by
  have hp : p < w.heap.size := hs.1
  have M0 := (Mo.start p w).alloc1 hp (.slice none 0 0) 37
  have V0 := RV.new (w.alloc (.cells #[.slice none 0 0] 37)) 37
  have s0 := hs.below (((Below.refl _ _).alloc (Nat.le_refl _) (.cells #[.slice none 0 0] 37)).alloc (by simp) (.cells #[.slice none 0 0] 37))
  have M0' := M0.below ((Below.refl _ _).alloc (Nat.le_refl _) (.cells #[.slice none 0 0] 37))
  simp only [World.size_alloc] at V0
  clear M0
  go_enter Tryz.func72, Tryz.ntmps72
  go_wp2_with fail
  refine (l1Next_calls p a len cap t 10 _ (by omega) (by omega) (by omega) s0).mono ?_
  rintro e w1 ⟨r, rfl, r0, r1, s1, o1⟩
  have M1 := M0'.next o1
  have V1 := V0.outside o1 (by omega)
  clear M0' V0 s0 o1
  obtain ⟨K, rfl⟩ : ∃ K : Nat, r = (K : Int) := ⟨r.toNat, by omega⟩
  go_wp2
  go_loopw [4] (fun i wr => ∃ (k : Nat) (S : Nat → Prop) (ra : Option Addr) (n rc : Nat) (ss : List (Int × List Int)) (t' : Nat), k ≤ 9 ∧ i = .int .i64 k ∧ RV (w.heap.size + 1) S ra n rc ss wr ∧ Src wr p a len cap t' ∧ t' + 8 * k ≤ t + 1 + 80 ∧ Mo p w wr [(w.heap.size, 0, .slice none 0 0)] []) (fun i _ => (intOf i).toNat)
  case atStart => exact ⟨K, _, none, 0, 0, [], t + 1, by omega, rfl, V1, s1, by omega, M1⟩
  case round =>
    clear M1 V1 s1 r0 r1
    obtain ⟨k, S, ra, n, rc, ss, t', hk, rfl, V, src, htk, M⟩ := hrel
    have hn10 : n ≤ 10 := by have h1 := V.good.few; have h2 := V.o.1; omega
    have hsn : ss.length = n := V.o.1
    by_cases hlt : 0 < k
    · have hlt' : (0 : Int) < (k : Int) := by omega
      go_wp2_with fail
      refine (l1DrawR_calls p a len cap t' _ (by omega) src).mono ?_
      rintro e u1 ⟨la, lc, zs, t1, rfl, _, ol, s1, ht1, o1, hrng⟩
      have hz : fault zs = 0 := fault_rng ol.1 hrng
      have z1 := o1.size
      have al := (Below.refl u1.heap.size u1).alloc (Nat.le_refl _) (.cells #[.slice la 4 lc] 84)
      have V1 := (V.outside o1 (by omega)).below al
      have M1 := (M.next o1).below al
      have s1' := s1.below al
      have hq1 : w.heap.size + 1 < u1.heap.size := by have := (V.outside o1 (by omega)).lt; omega
      have ol1 := ol.below al
      have hpw : p < wr.heap.size := src.1
      have hSu : ∀ j, S j → j < u1.heap.size := fun j hj => ((V.outside o1 (by omega)).sS j hj).2
      have c1 : (u1.alloc (.cells #[.slice la 4 lc] 84)).cell? ⟨u1.heap.size, 0, none⟩ = some (.slice la 4 lc) := by simp
      clear V M src s1 ol o1 hrng
      go_wp2_with fail
      refine (l1Chance_calls p a len cap t1 4 _ (by omega) (by omega) (by omega) s1').mono ?_
      rintro e u2 ⟨ch, rfl, s2, o2⟩
      have z2 := o2.size
      simp only [World.size_alloc] at z2
      have V2 := V1.outside o2 (by omega)
      have M2 := M1.next o2
      have hpu : p + 1 ≤ u1.heap.size := by omega
      have c2 := o2.cell (q := ⟨u1.heap.size, 0, none⟩) (by simp) hpu c1
      have sl2 : Sl u2 la 4 zs := (ol1.map (fun b h1 _ k => k.outside o2 (by omega))).sl
      clear V1 M1 s1' al ol1 c1
      have q2 := V2.c
      cases ch with
      | false =>
        have hqS : ¬ S (w.heap.size + 1) := fun e => by have := (V2.sS _ e).1; omega
        have hrS : ¬ S u1.heap.size := fun e => by have := hSu _ e; omega
        obtain ⟨ys, hrow⟩ := V2.row
        go_wp2_with fail
        refine (l2Enter_S (w.heap.size + 1) u1.heap.size (w.heap.size + 1 + 1) S ra la n rc lc ss zs ys _ V2.lt hqS (by omega) hrS (by omega) V2.sS V2.c V2.f c2 V2.o hrow V2.vT V2.good sl2 hz).mono ?_
        intro e u4 he
        have B4 := V2.enterB he
        obtain ⟨S', ra', n', rc', ss', V4⟩ := V2.entered hz he
        obtain ⟨rfl, _⟩ := he
        have M4 := M2.belowB B4 (by omega) (by simp) (by simp)
        have s4 := s2.belowB B4 (by omega)
        have HV := hide V4
        have HM := hide M4
        have HS := hide s4
        clear V2 V4 M2 M4 s2 s4 B4 o2 c2 sl2 q2 hrow
        go_wp2
        go_roundw
        case rel => exact ⟨k - 1, S', ra', n', rc', ss', _, by omega, by go_num, HV.out, HS.out, by omega, HM.out⟩
        case measure => simp [intOf]; omega
      | true =>
        by_cases hn0 : 0 < n
        · have hn0' : (0 : Int) < (n : Int) := by omega
          clear c2 sl2
          go_wp2_with fail
          refine (l1Next_calls p a len cap (t1 + 1) (n : Int) _ (by omega) (by omega) (by omega) s2).mono ?_
          rintro e u3 ⟨j, rfl, j0, j1, s3, o3⟩
          have V3 := V2.outside o3 (by omega)
          have M3 := M2.next o3
          clear V2 M2 s2 q2 o2
          obtain ⟨j, rfl⟩ : ∃ i : Nat, j = (i : Int) := ⟨j.toNat, by omega⟩
          have hjn : j < n := by omega
          have q3 := V3.c
          obtain ⟨N, fa, fc, fb, rfl, hb⟩ := V3.o.body (by omega)
          have k0 := hb.c0 j hjn
          have hg0 := V3.good.low j (by omega)
          have hg9 := V3.good.top j (by omega)
          by_cases hg : 0 < gc ss j
          · have hq : ¬ S (w.heap.size + 1) := fun e => by have := (V3.sS _ e).1; omega
            have hgl := good_leave V3.good (q := j) (by omega) hg
            have hm := good_sum hgl
            rw [length_leaveS, hsn] at hm
            go_wp2_with fail
            refine (l2Leave_R (w.heap.size + 1) (w.heap.size + 1 + 1) S (some ⟨N, 0, none⟩) n rc ss j _ V3.c V3.o V3.row hq hjn (by omega) hg9 hm).mono ?_
            rintro e u4 ⟨rfl, o4, r4, os4⟩
            have V4 := V3.left (by omega) hg o4 r4 os4
            have B4 : Below (w.heap.size + 1) u3 u4 := os4.below (fun i hi => by have := (V3.sS i hi).1; omega) (by have := V3.lt; omega)
            have M4 := M3.belowB B4 (by omega) (by simp) (by simp)
            have s4 := s3.belowB B4 (by omega)
            have HV := hide V4
            have HM := hide M4
            have HS := hide s4
            clear V3 V4 M3 M4 s3 s4 B4 os4 o4 r4 hb q3 k0 o3
            go_wp2
            go_roundw
            case rel => exact ⟨k - 1, S, _, n, rc, _, _, by omega, by go_num, HV.out, HS.out, by omega, HM.out⟩
            case measure => simp [intOf]; omega
          · have hg' : ¬ 0 < gc ss j := hg
            have HV := hide V3
            have HM := hide M3
            have HS := hide s3
            clear V3 M3 s3 hb o3
            go_wp2
            go_roundw
            case rel => exact ⟨k - 1, S, _, n, rc, _, _, by omega, by go_num, HV.out, HS.out, by omega, HM.out⟩
            case measure => simp [intOf]; omega
        · have hn00 : n = 0 := by omega
          have hn0' : ¬ (0 : Int) < (n : Int) := by omega
          have hqS : ¬ S (w.heap.size + 1) := fun e => by have := (V2.sS _ e).1; omega
          have hrS : ¬ S u1.heap.size := fun e => by have := hSu _ e; omega
          obtain ⟨ys, hrow⟩ := V2.row
          go_wp2_with fail
          refine (l2Enter_S (w.heap.size + 1) u1.heap.size (w.heap.size + 1 + 1) S ra la n rc lc ss zs ys _ V2.lt hqS (by omega) hrS (by omega) V2.sS V2.c V2.f c2 V2.o hrow V2.vT V2.good sl2 hz).mono ?_
          intro e u4 he
          have B4 := V2.enterB he
          obtain ⟨S', ra', n', rc', ss', V4⟩ := V2.entered hz he
          obtain ⟨rfl, _⟩ := he
          have M4 := M2.belowB B4 (by omega) (by simp) (by simp)
          have s4 := s2.belowB B4 (by omega)
          have HV := hide V4
          have HM := hide M4
          have HS := hide s4
          clear V2 V4 M2 M4 s2 s4 B4 o2 c2 sl2 q2 hrow
          go_wp2
          go_roundw
          case rel => exact ⟨k - 1, S', ra', n', rc', ss', _, by omega, by go_num, HV.out, HS.out, by omega, HM.out⟩
          case measure => simp [intOf]; omega
    · have hk0 : k = 0 := by omega
      subst hk0
      have hlt' : ¬ (0 : Int) < 0 := by omega
      have c0 := V.c
      have d0 := M.cell 0 rfl
      have e0 := M.fz 0 rfl
      have HO := hide M.out
      have HV := hide V
      have HS := hide src
      clear M V src
      go_wp2
      refine bodyPost_ret (v := .agg #[.slice ra n rc]) (by simp [results, Tryz.results72, go_sem, d0]) rfl ⟨S, ra, n, rc, ss, t', rfl, ?_, ?_, HV.out.vT, fun j hj => ⟨(HV.out.sS j hj).1, by simpa using (HV.out.sS j hj).2⟩, HV.out.good, HS.out.setCell (by exact hp) _, by omega, HO.out.setNew (Nat.le_refl _) _⟩
      · exact OR.loc.setC HV.out.o (q := ⟨w.heap.size, 0, none⟩) (fun e => by have h1 : w.heap.size + 1 + 1 ≤ w.heap.size := (HV.out.sS _ e).1; omega) _
      · obtain ⟨ys, hy⟩ := HV.out.row
        exact ⟨ys, ownsRow_setCell_below hy (by show w.heap.size < _; omega) _⟩

end Go.Proofs.YtnibngigbcakkaaGreat
