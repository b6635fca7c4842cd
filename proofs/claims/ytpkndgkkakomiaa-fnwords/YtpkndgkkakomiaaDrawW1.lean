import Derived.Test.YtpkndgkkakomiaaDrawW
import Derived.Test.YtpkndgkkakomiaaWmT
import Derived.WalkKit
import Derived.ProofKit
import Derived.OpenShut
import Derived.ShutString
import Derived.ChangeOld
import Derived.Below
import Derived.WalkSpells
import Derived.Deep.QuietTactic
import Derived.BigQuiet
import Derived.Deep.RegionWith
import Derived.Deep.WholeRow
import Derived.Deep.DeepCutAuto
import Derived.Deep.RegionHeld2
import Derived.Deep.AppendLies
import Derived.Deep.RegionLaw
namespace Go.Proofs.Ytpkndgkkakomiaa
open Go.ChangeShapes Go.WideShapes Go.ChangeAt Go.RowKit

set_option maxRecDepth 100000 in
set_option maxHeartbeats 1000000 in
theorem l1NextBig_calls (p : Nat) (a : Option Addr) (len cap t : Nat) (n : Int) (w : World) (h1 : 201 ≤ n) (h2 : n ≤ 1000000) (ht : t ≤ 1000000) (hs : Src w p a len cap t) :
    Calls Try.prog 21 #[.pointer (some ⟨p, 0, none⟩), .int .i64 n] w fun e w' => ∃ r : Int, e = .returned (.int .i64 r) ∧ 0 ≤ r ∧ r < n ∧ Src w' p a len cap (t + 1) ∧ Outside p (p + 1) w w' := by
  have st := hs.step
  have so : Outside p (p + 1) w (w.setCell ⟨p, 1, none⟩ (.int .i64 ((t : Int) + 1))) := (Outside.refl _ _ _).setCell (Nat.le_refl _) (Nat.lt_succ_self _) _
  obtain ⟨hp, hc0, hc1, hf1, hl, hb⟩ := hs
  have sc1 := st.2.2.1
  have sc0 := st.2.1
  have HST := hide st
  clear st
  have hn1 : ¬ n < 1 := by omega
  have hn2 : 200 < n := by omega
  by_cases h0 : len = 0
  · subst h0
    go_enter Try.func21, Try.ntmps21
    go_wp2
    go_ret
    exact ⟨_, rfl, mod_nn (by omega), mod_lt (by omega), HST.out, so⟩
  · have h0' : ((len : Int) == 0) = false := by simp; omega
    obtain ⟨b, off, rfl, hbp, hcb⟩ := hb (by omega)
    obtain ⟨v, v0, v1, hv⟩ := hcb (t % len) (Nat.mod_lt _ (by omega))
    obtain ⟨u, u0, u1, hu⟩ := hcb ((t + 1) % len) (Nat.mod_lt _ (by omega))
    have hvs : (w.setCell ⟨p, 1, none⟩ (.int .i64 ((t : Int) + 1))).cell? ⟨b, off + t % len, none⟩ = some (.int .u8 v) := by
      rw [World.cell?_setCell_other _ _ _ _ (fun e => by injection e with e1; omega)]; exact hv
    have hus : (w.setCell ⟨p, 1, none⟩ (.int .i64 ((t : Int) + 1))).cell? ⟨b, off + (t + 1) % len, none⟩ = some (.int .u8 u) := by
      rw [World.cell?_setCell_other _ _ _ _ (fun e => by injection e with e1; omega)]; exact hu
    have hlp : (0 : Int) < (len : Int) := by omega
    have hm0 : 0 ≤ (t : Int) % (len : Int) := Int.emod_nonneg _ (by omega)
    have hm1 : (t : Int) % (len : Int) < (len : Int) := Int.emod_lt_of_pos _ hlp
    have hme : t % len = ((t : Int) % (len : Int)).toNat := by omega
    have hk0 : 0 ≤ ((t : Int) + 1) % (len : Int) := Int.emod_nonneg _ (by omega)
    have hk1 : ((t : Int) + 1) % (len : Int) < (len : Int) := Int.emod_lt_of_pos _ hlp
    have hkc : ((t + 1 : Nat) : Int) % (len : Int) = ((t : Int) + 1) % (len : Int) := by push_cast; rfl
    have hke : (t + 1) % len = (((t : Int) + 1) % (len : Int)).toNat := by rw [← hkc]; omega
    rw [hme] at hvs
    rw [hke] at hus
    have htm : (t : Int).tmod (len : Int) = (t : Int) % (len : Int) := Int.tmod_eq_emod_of_nonneg (by omega)
    have htn : ((t : Int) + 1).tmod (len : Int) = ((t : Int) + 1) % (len : Int) := Int.tmod_eq_emod_of_nonneg (by omega)
    have htd : (t : Int).tdiv (len : Int) = (t : Int) / (len : Int) := Int.tdiv_eq_ediv_of_nonneg (by omega)
    have hq0 : 0 ≤ (t : Int) / (len : Int) := Int.ediv_nonneg (by omega) (by omega)
    have hq1 : (t : Int) / (len : Int) ≤ 1000000 := Int.le_trans (Int.ediv_le_self _ (by omega)) (by omega)
    clear hcb hb hv hme hu hke
    go_enter Try.func21, Try.ntmps21
    go_wp2_with fail
    go_quiet (fail)
    obtain ⟨X, hY⟩ : ∃ Y, Y = (w.setCell ⟨p, 1, none⟩ (.int .i64 ((t : Int) + 1))).drewN nq := ⟨_, rfl⟩
    have HSX : Hid (Src X p (some ⟨b, off, none⟩) len cap (t + 1)) := by show Src _ _ _ _ _ _; rw [hY]; exact src_drewN HST.out _
    have HOX : Hid (Outside p (p + 1) w X) := by show Outside _ _ _ _; rw [hY]; exact outside_drewN so _
    have x0 : X.cell? ⟨p, 0, none⟩ = some (.slice (some ⟨b, off, none⟩) len cap) := HSX.out.2.1
    have x1 : X.cell? ⟨b, off + (((t : Int) + 1) % (len : Int)).toNat, none⟩ = some (.int .u8 u) := by rw [hY]; exact hus
    rw [← hY]
    clear hY hus hvs sc0 sc1 so hc0 hc1
    obtain ⟨d, hd⟩ : ∃ d : Int, d = (t : Int) / (len : Int) := ⟨_, rfl⟩
    rw [← hd] at hq0 hq1 htd ⊢
    clear hd
    have hw1 : IntKind.i64.wrap ((t : Int) + 1) = (t : Int) + 1 := by rw [IntKind.wrap_i64]; omega
    have hw2 : IntKind.i64.wrap (((t : Int) + 1) % (len : Int)) = ((t : Int) + 1) % (len : Int) := by rw [IntKind.wrap_i64]; omega
    go_wp2_with fail
    go_quiet (fail)
    go_wp2
    go_ret
    exact ⟨_, rfl, mod_nn (by omega), mod_lt (by omega), src_drewN HSX.out _, outside_drewN HOX.out _⟩

theorem op_of {j : Nat} (h : j < 15) : 0 ≤ gt [1, 1, 2, 3, 4, 4, 5, 5, 6, 7, 8, 9, 10, 0, 12] j ∧ gt [1, 1, 2, 3, 4, 4, 5, 5, 6, 7, 8, 9, 10, 0, 12] j ≤ 12 := by
  have := (by decide : ∀ j, j < 15 → 0 ≤ gt [1, 1, 2, 3, 4, 4, 5, 5, 6, 7, 8, 9, 10, 0, 12] j ∧ gt [1, 1, 2, 3, 4, 4, 5, 5, 6, 7, 8, 9, 10, 0, 12] j ≤ 12)
  exact this j h

theorem Mo.alloc4 {p : Nat} {w u : World} {cs : List (Nat × Nat × Value)} {fs : List (Nat × Nat × (World → Prop))} (h : Mo p w u cs fs) (hp : p < u.heap.size) (v0 v1 v2 v3 : Value) (t : TypeId) : Mo p w (u.alloc (.cells #[v0, v1, v2, v3] t)) ((u.heap.size, 0, v0) :: (u.heap.size, 1, v1) :: (u.heap.size, 2, v2) :: (u.heap.size, 3, v3) :: cs) fs :=
  ((((h.below ((Below.refl _ _).alloc (Nat.le_refl _) (.cells #[v0, v1, v2, v3] t))).cons hp (by simp) (by simp)).cons hp (by simp) (by simp)).cons hp (by simp) (by simp)).cons hp (by simp) (by simp)

set_option maxRecDepth 100000 in
set_option maxHeartbeats 1000000 in
theorem l5Draw_calls (p : Nat) (a : Option Addr) (len cap t : Nat) (w : World) (ht : t ≤ 999000) (hs : Src w p a len cap t) :
    Calls Try.prog 34 #[.pointer (some ⟨p, 0, none⟩)] w fun e w' => ∃ o x y i : Int, e = .returned (.agg #[.int .i64 o, .int .i64 x, .int .i64 y, .int .i64 i]) ∧ (0 ≤ o ∧ o ≤ 12) ∧ (0 ≤ x ∧ x < 4) ∧ (0 ≤ y ∧ y < 4) ∧ (0 ≤ i ∧ i < 14) ∧ Src w' p a len cap (t + 1 + 1 + 1 + 1) ∧ Outside p (p + 1) w w' := by
  have hp : p < w.heap.size := hs.1
  have M0 := (Mo.start p w).alloc4 hp (.int .i64 0) (.int .i64 0) (.int .i64 0) (.int .i64 0) 66
  have s0 := hs.below (((Below.refl _ _).alloc (Nat.le_refl _) (.cells #[.int .i64 0, .int .i64 0, .int .i64 0, .int .i64 0] 66)).alloc (by simp) (.cells ([1, 1, 2, 3, 4, 4, 5, 5, 6, 7, 8, 9, 10, 0, 12].map (Value.int .i64)).toArray 2))
  have M0' := M0.below ((Below.refl _ _).alloc (Nat.le_refl _) (.cells ([1, 1, 2, 3, 4, 4, 5, 5, 6, 7, 8, 9, 10, 0, 12].map (Value.int .i64)).toArray 2))
  have hnew := @new_at (w.alloc (.cells #[.int .i64 0, .int .i64 0, .int .i64 0, .int .i64 0] 66)) 2 [1, 1, 2, 3, 4, 4, 5, 5, 6, 7, 8, 9, 10, 0, 12]
  simp only [World.size_alloc] at hnew
  clear M0
  go_enter Try.func34, Try.ntmps34
  go_wp2_with fail
  refine (l1PickM_calls p a len cap t (w.heap.size + 1) 15 15 [1, 1, 2, 3, 4, 4, 5, 5, 6, 7, 8, 9, 10, 0, 12] _ (by omega) (by omega) (by omega) s0 (by omega) (by simp) rfl hnew).mono ?_
  rintro e w1 ⟨j, hj, rfl, s1, o1⟩
  have M1 := M0'.next o1
  obtain ⟨hz0, hz6⟩ := op_of hj
  generalize hsz : gt [1, 1, 2, 3, 4, 4, 5, 5, 6, 7, 8, 9, 10, 0, 12] j = o at hz0 hz6
  clear hsz hj M0' s0 hnew o1
  go_wp2_with fail
  refine (l1Next_calls p a len cap (t + 1) 4 _ (by omega) (by omega) (by omega) s1).mono ?_
  rintro e w2 ⟨x, rfl, x0, x1, s2, o2⟩
  have M2 := M1.next o2
  clear M1 s1 o2
  go_wp2_with fail
  refine (l1Next_calls p a len cap (t + 1 + 1) 4 _ (by omega) (by omega) (by omega) s2).mono ?_
  rintro e w3 ⟨y, rfl, y0, y1, s3, o3⟩
  have M3 := M2.next o3
  clear M2 s2 o3
  go_wp2_with fail
  refine (l1Next_calls p a len cap (t + 1 + 1 + 1) 14 _ (by omega) (by omega) (by omega) s3).mono ?_
  rintro e w4 ⟨i, rfl, i0, i1, s4, o4⟩
  have M4 := M3.next o4
  clear M3 s3 o4
  have c0 := M4.cell 0 rfl
  have c1 := M4.cell 1 rfl
  have c2 := M4.cell 2 rfl
  have c3 := M4.cell 3 rfl
  have f0 := M4.fz 0 rfl
  have f1 := M4.fz 1 rfl
  have f2 := M4.fz 2 rfl
  have f3 := M4.fz 3 rfl
  have HS := hide s4
  have HO := hide M4.out
  clear M4 s4
  go_wp2
  exact bodyPost_ret (v := .agg #[.int .i64 o, .int .i64 x, .int .i64 y, .int .i64 i]) (by simp [results, Try.results34, go_sem, c0, c1, c2, c3]) rfl ⟨o, x, y, i, rfl, ⟨hz0, hz6⟩, ⟨x0, x1⟩, ⟨y0, y1⟩, ⟨i0, i1⟩, (((HS.out.setCell (by exact hp) _).setCell (by exact hp) _).setCell (by exact hp) _).setCell (by exact hp) _, (((HO.out.setNew (Nat.le_refl _) _).setNew (Nat.le_refl _) _).setNew (Nat.le_refl _) _).setNew (Nat.le_refl _) _⟩

set_option maxRecDepth 100000 in
theorem l5EncodeB_calls (P : Nat) (o a b i : Int) (w : World) (ho : 0 ≤ o ∧ o ≤ 12) (ha : 0 ≤ a ∧ a < 4) (hb : 0 ≤ b ∧ b < 4) (hi : 0 ≤ i ∧ i < 14) (c0 : w.cell? ⟨P, 0, none⟩ = some (.int .i64 o)) (c1 : w.cell? ⟨P, 1, none⟩ = some (.int .i64 a)) (c2 : w.cell? ⟨P, 2, none⟩ = some (.int .i64 b)) (c3 : w.cell? ⟨P, 3, none⟩ = some (.int .i64 i)) :
    Calls Try.prog 35 #[.pointer (some ⟨P, 0, none⟩)] w fun e w' => ∃ r : Int, e = .returned (.int .i64 r) ∧ Below w.heap.size w w' := by
  obtain ⟨o0, o1⟩ := ho
  obtain ⟨a0, a1⟩ := ha
  obtain ⟨b0, b1⟩ := hb
  obtain ⟨i0, i1⟩ := hi
  go_enter Try.func35, Try.ntmps35
  go_wp2
  go_region
  go_wp2
  go_ret
  exact ⟨_, rfl, (Below.refl _ _).drew⟩

theorem own_keep {w u : World} {B m k : Nat} {e : TypeId} {v : Value} {L : List Value} (h : w.ownsRow B e m v k L) (hk : ∀ g, v.ownBlock = some g → u.heap[g]? = w.heap[g]?) : u.ownsRow B e m v k L := by
  obtain ⟨h1, h2⟩ := h
  refine ⟨h1, ?_⟩
  rcases h2 with h2 | ⟨g, cap, cur, hv, hg, hh, r⟩
  · exact .inl h2
  · exact .inr ⟨g, cap, cur, hv, hg, by rw [hk g (by rw [hv]; rfl)]; exact hh, r⟩

theorem own_ge {w : World} {B m k g : Nat} {e : TypeId} {v : Value} {L : List Value} (h : w.ownsRow B e m v k L) (hv : v.ownBlock = some g) : B ≤ g ∧ g < w.heap.size := h.lt g hv

/-- a variable of a memory at block P, and its row, from B on. -/
structure WV (u : World) (P B : Nat) (v : Value) (n : Nat) (ls : List (Int × Int)) : Prop where
  hP : P < B
  hB : B ≤ u.heap.size
  c : u.cell? ⟨P, 0, none⟩ = some v
  f : u.frozen? ⟨P, 0, none⟩ = false
  own : u.ownsRow B 36 2 v n (vsw ls)
  len : ls.length = n

theorem WV.below {u u' : World} {P B : Nat} {v : Value} {n : Nat} {ls : List (Int × Int)} (h : WV u P B v n ls) (hb : Below u.heap.size u u') : WV u' P B v n ls :=
  ⟨h.hP, Nat.le_trans h.hB hb.size, (hb.cell (p := ⟨P, 0, none⟩) (by have := h.hP; have := h.hB; show P < _; omega)).trans h.c, (hb.frozen (p := ⟨P, 0, none⟩) (by have := h.hP; have := h.hB; show P < _; omega)).trans h.f, own_keep h.own (fun g hg => hb.block g (own_ge h.own hg).2), h.len⟩

theorem WV.outside {u u' : World} {P B p : Nat} {v : Value} {n : Nat} {ls : List (Int × Int)} (h : WV u P B v n ls) (ho : Outside p (p + 1) u u') (hp : p < P) : WV u' P B v n ls :=
  ⟨h.hP, Nat.le_trans h.hB ho.size, (World.cell?_of_block (a := ⟨P, 0, none⟩) (ho.block P (by have := h.hP; have := h.hB; omega) (.inr hp))).trans h.c, (World.frozen?_of_block (a := ⟨P, 0, none⟩) (ho.block P (by have := h.hP; have := h.hB; omega) (.inr hp))).trans h.f, own_keep h.own (fun g hg => ho.block g (own_ge h.own hg).2 (.inr (by have := (own_ge h.own hg).1; have := h.hP; omega))), h.len⟩

theorem vsw_snoc (ls : List (Int × Int)) (x : Int × Int) : vsw ls ++ vsw [x] = vsw (ls ++ [x]) := by
  have h : ∀ xs ys, flw (xs ++ ys) = flw xs ++ flw ys := flw_append
  simp [vsw, h]

/-- a word appended. -/
theorem WV.app {X w1 : World} {P B : Nat} {v nv : Value} {n : Nat} {ls : List (Int × Int)} {x : Int × Int} {o : Obj} (V : WV X P B v n ls) (hg : (X.alloc o).grownBy w1 v.ownBlock) (hown : w1.ownsRow B 36 2 nv (n + 1) (vsw ls ++ vsw [x])) :
    w1.cell? ⟨P, 0, none⟩ = some v ∧ w1.frozen? ⟨P, 0, none⟩ = false ∧ WV (w1.setCell ⟨P, 0, none⟩ nv) P B nv (n + 1) (ls ++ [x]) := by
  have hP := V.hP
  have hB := V.hB
  have hne : some P ≠ v.ownBlock := fun e => by have := (V.own.lt P e.symm).1; omega
  have hb : w1.heap[P]? = X.heap[P]? := (hg.block P (by simp; omega) hne).trans (Below.heap_alloc X o P (by omega))
  have a0 := (World.cell?_of_block (a := ⟨P, 0, none⟩) hb).trans V.c
  have a1 := (World.frozen?_of_block (a := ⟨P, 0, none⟩) hb).trans V.f
  have hz := hg.size
  simp at hz
  rw [vsw_snoc] at hown
  refine ⟨a0, a1, V.hP, by simp; omega, World.cell?_setCell_same _ _ _ a0, by simpa using a1, ownsRow_setCell_below hown (by exact hP) _, by simp [V.len]⟩

/-- what a row's growth leaves of the rest. -/
theorem WV.appB {X w1 : World} {P B : Nat} {v : Value} {n : Nat} {ls : List (Int × Int)} {o : Obj} (V : WV X P B v n ls) (hg : (X.alloc o).grownBy w1 v.ownBlock) (nv : Value) : Below P X (w1.setCell ⟨P, 0, none⟩ nv) :=
  (((Below.refl P X).alloc (by have := V.hP; have := V.hB; omega) o).grown hg (by have := V.hP; have := V.hB; simp; omega) (fun k hk => by have := (V.own.lt k hk).1; have := V.hP; omega)).setCell (Nat.le_refl _) _

theorem word_new {W : World} {N : Nat} {x y : Int} (h0 : W.cell? ⟨N, 0, none⟩ = some (.int .i64 x)) (h1 : W.cell? ⟨N, 1, none⟩ = some (.int .i64 y)) : ∀ j u, (vsw [(x, y)])[j]? = some u → W.cell? ((Addr.mk N 0 none).add j) = some u := by
  intro j u hj
  match j, hj with
  | 0, hj => simp [vsw, flw] at hj; subst hj; simpa [Addr.add] using h0
  | 1, hj => simp [vsw, flw] at hj; subst hj; simpa [Addr.add] using h1

/-- what l6Draw gives. -/
def DrewW (p : Nat) (a : Option Addr) (len cap t : Nat) (w : World) (e : Ending) (w' : World) : Prop :=
  ∃ (ra : Option Addr) (n rc : Nat) (ls : List (Int × Int)) (t' : Nat), e = .returned (.agg #[.slice ra n rc]) ∧ OWd (InR (w.heap.size + 2) w'.heap.size) ra n ls w' ∧ 4 ≤ n ∧ n ≤ 15 ∧ Src w' p a len cap t' ∧ t' ≤ t + 200 ∧ Outside p (p + 1) w w'

theorem DrewW.mk {p : Nat} {a : Option Addr} {len cap t : Nat} {w w' : World} {ra : Option Addr} {n rc : Nat} {ls : List (Int × Int)} {t' : Nat} (h1 : OWd (InR (w.heap.size + 2) w'.heap.size) ra n ls w') (h2 : 4 ≤ n) (h3 : n ≤ 15) (h5 : Src w' p a len cap t') (h6 : t' ≤ t + 200) (h7 : Outside p (p + 1) w w') :
    DrewW p a len cap t w (.returned (.agg #[.slice ra n rc])) w' := ⟨ra, n, rc, ls, t', rfl, h1, h2, h3, h5, h6, h7⟩

theorem Mo.belowP {p B : Nat} {w u u' : World} {cs : List (Nat × Nat × Value)} (h : Mo p w u cs []) (hb : Below B u u') (hB : w.heap.size ≤ B) (hc : ∀ c ∈ cs, c.1 < B) : Mo p w u' cs [] := h.belowB hb hB hc (by simp)

set_option maxRecDepth 100000 in
set_option maxHeartbeats 8000000 in
theorem l6Draw_calls (p : Nat) (a : Option Addr) (len cap t : Nat) (tg : Int) (w : World) (hg0 : 0 ≤ tg) (hg1 : tg ≤ 100) (ht : t ≤ 990000) (hs : Src w p a len cap t) :
    Calls Try.prog 32 #[.pointer (some ⟨p, 0, none⟩), .int .i64 tg] w (DrewW p a len cap t w) := by
  obtain ⟨iw, hi, hz0, hz1, hz2⟩ := info_parts infoWord
  have hp : p < w.heap.size := hs.1
  have M0 := (Mo.start p w).alloc1 hp (.slice none 0 0) 26
  have V0 : WV ((w.alloc (.cells #[.slice none 0 0] 26)).alloc (.cells #[.slice none 0 0] 26)) (w.heap.size + 1) (w.heap.size + 1 + 1) (.slice none 0 0) 0 [] := ⟨by omega, by simp, by go_simp, by go_simp, World.ownsRow_nil _ _ _ _, rfl⟩
  have s0 := hs.below (((Below.refl _ _).alloc (Nat.le_refl _) (.cells #[.slice none 0 0] 26)).alloc (by simp) (.cells #[.slice none 0 0] 26))
  have M0' := M0.below ((Below.refl _ _).alloc (Nat.le_refl _) (.cells #[.slice none 0 0] 26))
  clear M0
  go_enter Try.func32, Try.ntmps32
  go_wp2_with fail
  refine (l1Next_calls p a len cap t (tg + 1) _ (by omega) (by omega) (by omega) s0).mono ?_
  rintro e w1 ⟨g, rfl, _, _, s1, o1⟩
  have M1 := M0'.next o1
  have V1 := V0.outside o1 (by omega)
  clear M0' V0 s0 o1
  go_wp2_with fail
  refine (l1Next_calls p a len cap (t + 1) 12 _ (by omega) (by omega) (by omega) s1).mono ?_
  rintro e w2 ⟨r, rfl, r0, r1, s2, o2⟩
  have M2 := M1.next o2
  have V2 := V1.outside o2 (by omega)
  clear M1 V1 s1 o2
  obtain ⟨K, hK⟩ : ∃ K : Nat, 4 + r = (K : Int) := ⟨(4 + r).toNat, by omega⟩
  have hK4 : 4 ≤ K := by omega
  have hK15 : K ≤ 15 := by omega
  go_wp2
  go_loopw [6, 7] (fun q i wr => ∃ (k : Nat) (x : Int) (ra : Option Addr) (n rc : Nat) (ls : List (Int × Int)) (t' : Nat), n + k = K ∧ q = .int .i64 x ∧ i = .int .i64 k ∧ WV wr (w.heap.size + 1) (w.heap.size + 1 + 1) (.slice ra n rc) n ls ∧ Src wr p a len cap t' ∧ t' + 8 * k ≤ t + 2 + 120 ∧ Mo p w wr [(w.heap.size, 0, .slice none 0 0)] []) (fun _ i _ => (intOf i).toNat)
  case atStart => exact ⟨K, g, none, 0, 0, [], t + 1 + 1, by omega, rfl, by rw [← hK], V2, s2, by omega, M2⟩
  case round =>
    clear M2 V2 s2 hK r0 r1
    obtain ⟨k, x, ra, n, rc, ls, t', hnk, rfl, rfl, V, src, htk, M⟩ := hrel
    by_cases hlt : 0 < k
    · have hlt' : (0 : Int) < (k : Int) := by omega
      go_wp2_with fail
      refine (l1Chance_calls p a len cap t' 4 _ (by omega) (by omega) (by omega) src).mono ?_
      rintro e u1 ⟨ch, rfl, s1, o1⟩
      have V1 := V.outside o1 (by omega)
      have M1 := M.next o1
      clear V M src o1
      cases ch with
      | false =>
        go_wp2_with fail
        refine (l5Draw_calls p a len cap (t' + 1) _ (by omega) s1).mono ?_
        rintro e u2 ⟨jo, jx, jy, ji, rfl, ho, hx, hy, hii, s2, o2⟩
        have hpu : p < u2.heap.size := s2.1
        have al := (Below.refl u2.heap.size u2).alloc (Nat.le_refl _) (.cells #[.int .i64 jo, .int .i64 jx, .int .i64 jy, .int .i64 ji] 66)
        have V2 := (V1.outside o2 (by omega)).below al
        have M2 := (M1.next o2).below al
        have s2' := s2.below al
        clear V1 M1 s1 o2 s2 al
        go_wp2_with fail
        refine (l5EncodeB_calls u2.heap.size jo jx jy ji _ ho hx hy hii (by go_simp) (by go_simp) (by go_simp) (by go_simp)).mono ?_
        rintro e u3 ⟨val, rfl, g3⟩
        have V3 := V2.below g3
        have M3 := M2.below g3
        have s3 := s2'.below g3
        clear V2 M2 s2' g3
        go_wp2_with fail
        refine (l1Chance_calls p a len cap (t' + 1 + 1 + 1 + 1 + 1) 3 _ (by omega) (by omega) (by omega) s3).mono ?_
        rintro e u4 ⟨ch2, rfl, s4, o4⟩
        have V4 := V3.outside o4 (by omega)
        have M4 := M3.next o4
        clear V3 M3 s3 o4
        cases ch2 with
        | false =>
          have cv := V4.c
          have zB := V4.hB
          have HV := hide V4
          have HM := hide M4
          have HS := hide s4
          have HO : Hid ((u4.alloc (.cells #[.int .i64 val, .int .i64 x] 36)).ownsRow (w.heap.size + 1 + 1) 36 2 (.slice ra n rc) n (vsw ls)) := (V4.below ((Below.refl _ _).alloc (Nat.le_refl _) _)).own
          have HL : Hid ((vsw [(val, x)]).length = 1 * 2) := rfl
          have HN : Hid (∀ j u, (vsw [(val, x)])[j]? = some u → (u4.alloc (.cells #[.int .i64 val, .int .i64 x] 36)).cell? ((Addr.mk u4.heap.size 0 none).add j) = some u) := word_new (by go_simp) (by go_simp)
          have HM1 : Hid (n + 1 ≤ maxLen) := by show _ ≤ _; unfold maxLen; omega
          have HM2 : Hid ((n + 1) * 16 ≤ 140737488355328) := by show _ ≤ _; omega
          have HBS : Hid (w.heap.size + 1 + 1 ≤ (u4.alloc (.cells #[.int .i64 val, .int .i64 x] 36)).heap.size) := by show _ ≤ _; simp; omega
          clear V4 M4 s4
          go_wp2_with (first
            | (at_builtin; refine wpList_append_own _ rfl _ _ 24 rfl (w.heap.size + 1 + 1) 36 iw (.agg #[.int .i64 0, .int .i64 0]) 2 16 Try.underlying24 hi hz0 hz1 hz2 rfl (by decide) _ n (vsw ls) rfl HO.out ⟨u4.heap.size, 0, none⟩ 1 1 (vsw [(val, x)]) rfl HL.out HN.out ints_onew HM1.out HM2.out HBS.out ?_)
            | go_in)
          intro nv w5 hown hgrow _
          obtain ⟨na, nc, rfl⟩ : ∃ na nc, nv = .slice na (n + 1) nc := by rw [vsw_snoc] at hown; obtain ⟨na, nc, e, _⟩ := own_owd (by omega) (by simp [HV.out.len]) hown; exact ⟨na, nc, e⟩
          obtain ⟨b0, b1, V9⟩ := HV.out.app hgrow hown
          have B9 := HV.out.appB hgrow (.slice na (n + 1) nc)
          have M9 := HM.out.belowP B9 (by omega) (by simp)
          have s9 := HS.out.belowB B9 (by omega)
          have HV5 := hide V9
          have HM5 := hide M9
          have HS5 := hide s9
          clear V9 M9 s9 B9 hown hgrow HO HN HV HM HS cv
          go_wp2
          go_roundw
          case rel => exact ⟨k - 1, _, na, n + 1, nc, _, t' + 1 + 1 + 1 + 1 + 1 + 1, by omega, rfl, by go_num, HV5.out, HS5.out, by omega, HM5.out⟩
          case measure => simp [intOf]; omega
        | true =>
          go_wp2_with fail
          refine (l1Next_calls p a len cap (t' + 1 + 1 + 1 + 1 + 1 + 1) 16 _ (by omega) (by omega) (by omega) s4).mono ?_
          rintro e u5 ⟨v2, rfl, _, _, s5, o5⟩
          have V5 := V4.outside o5 (by omega)
          have M5 := M4.next o5
          clear V4 M4 s4 o5
          have cv := V5.c
          have zB := V5.hB
          have HV := hide V5
          have HM := hide M5
          have HS := hide s5
          have HO : Hid ((u5.alloc (.cells #[.int .i64 v2, .int .i64 x] 36)).ownsRow (w.heap.size + 1 + 1) 36 2 (.slice ra n rc) n (vsw ls)) := (V5.below ((Below.refl _ _).alloc (Nat.le_refl _) _)).own
          have HL : Hid ((vsw [(v2, x)]).length = 1 * 2) := rfl
          have HN : Hid (∀ j u, (vsw [(v2, x)])[j]? = some u → (u5.alloc (.cells #[.int .i64 v2, .int .i64 x] 36)).cell? ((Addr.mk u5.heap.size 0 none).add j) = some u) := word_new (by go_simp) (by go_simp)
          have HM1 : Hid (n + 1 ≤ maxLen) := by show _ ≤ _; unfold maxLen; omega
          have HM2 : Hid ((n + 1) * 16 ≤ 140737488355328) := by show _ ≤ _; omega
          have HBS : Hid (w.heap.size + 1 + 1 ≤ (u5.alloc (.cells #[.int .i64 v2, .int .i64 x] 36)).heap.size) := by show _ ≤ _; simp; omega
          clear V5 M5 s5
          go_wp2_with (first
            | (at_builtin; refine wpList_append_own _ rfl _ _ 24 rfl (w.heap.size + 1 + 1) 36 iw (.agg #[.int .i64 0, .int .i64 0]) 2 16 Try.underlying24 hi hz0 hz1 hz2 rfl (by decide) _ n (vsw ls) rfl HO.out ⟨u5.heap.size, 0, none⟩ 1 1 (vsw [(v2, x)]) rfl HL.out HN.out ints_onew HM1.out HM2.out HBS.out ?_)
            | go_in)
          intro nv w5 hown hgrow _
          obtain ⟨na, nc, rfl⟩ : ∃ na nc, nv = .slice na (n + 1) nc := by rw [vsw_snoc] at hown; obtain ⟨na, nc, e, _⟩ := own_owd (by omega) (by simp [HV.out.len]) hown; exact ⟨na, nc, e⟩
          obtain ⟨b0, b1, V9⟩ := HV.out.app hgrow hown
          have B9 := HV.out.appB hgrow (.slice na (n + 1) nc)
          have M9 := HM.out.belowP B9 (by omega) (by simp)
          have s9 := HS.out.belowB B9 (by omega)
          have HV5 := hide V9
          have HM5 := hide M9
          have HS5 := hide s9
          clear V9 M9 s9 B9 hown hgrow HO HN HV HM HS cv
          go_wp2
          go_roundw
          case rel => exact ⟨k - 1, _, na, n + 1, nc, _, t' + 1 + 1 + 1 + 1 + 1 + 1 + 1, by omega, rfl, by go_num, HV5.out, HS5.out, by omega, HM5.out⟩
          case measure => simp [intOf]; omega
      | true =>
        go_wp2_with fail
        refine (l1Next_calls p a len cap (t' + 1) (tg + 1) _ (by omega) (by omega) (by omega) s1).mono ?_
        rintro e u6 ⟨x2, rfl, _, _, s6, o6⟩
        have V6 := V1.outside o6 (by omega)
        have M6 := M1.next o6
        clear V1 M1 s1 o6
        go_wp2_with fail
        refine (l5Draw_calls p a len cap (t' + 1 + 1) _ (by omega) s6).mono ?_
        rintro e u2 ⟨jo, jx, jy, ji, rfl, ho, hx, hy, hii, s2, o2⟩
        have hpu : p < u2.heap.size := s2.1
        have al := (Below.refl u2.heap.size u2).alloc (Nat.le_refl _) (.cells #[.int .i64 jo, .int .i64 jx, .int .i64 jy, .int .i64 ji] 66)
        have V2 := (V6.outside o2 (by omega)).below al
        have M2 := (M6.next o2).below al
        have s2' := s2.below al
        clear V6 M6 s6 o2 s2 al
        go_wp2_with fail
        refine (l5EncodeB_calls u2.heap.size jo jx jy ji _ ho hx hy hii (by go_simp) (by go_simp) (by go_simp) (by go_simp)).mono ?_
        rintro e u3 ⟨val, rfl, g3⟩
        have V3 := V2.below g3
        have M3 := M2.below g3
        have s3 := s2'.below g3
        clear V2 M2 s2' g3
        go_wp2_with fail
        refine (l1Chance_calls p a len cap (t' + 1 + 1 + 1 + 1 + 1 + 1) 3 _ (by omega) (by omega) (by omega) s3).mono ?_
        rintro e u4 ⟨ch2, rfl, s4, o4⟩
        have V4 := V3.outside o4 (by omega)
        have M4 := M3.next o4
        clear V3 M3 s3 o4
        cases ch2 with
        | false =>
          have cv := V4.c
          have zB := V4.hB
          have HV := hide V4
          have HM := hide M4
          have HS := hide s4
          have HO : Hid ((u4.alloc (.cells #[.int .i64 val, .int .i64 x2] 36)).ownsRow (w.heap.size + 1 + 1) 36 2 (.slice ra n rc) n (vsw ls)) := (V4.below ((Below.refl _ _).alloc (Nat.le_refl _) _)).own
          have HL : Hid ((vsw [(val, x2)]).length = 1 * 2) := rfl
          have HN : Hid (∀ j u, (vsw [(val, x2)])[j]? = some u → (u4.alloc (.cells #[.int .i64 val, .int .i64 x2] 36)).cell? ((Addr.mk u4.heap.size 0 none).add j) = some u) := word_new (by go_simp) (by go_simp)
          have HM1 : Hid (n + 1 ≤ maxLen) := by show _ ≤ _; unfold maxLen; omega
          have HM2 : Hid ((n + 1) * 16 ≤ 140737488355328) := by show _ ≤ _; omega
          have HBS : Hid (w.heap.size + 1 + 1 ≤ (u4.alloc (.cells #[.int .i64 val, .int .i64 x2] 36)).heap.size) := by show _ ≤ _; simp; omega
          clear V4 M4 s4
          go_wp2_with (first
            | (at_builtin; refine wpList_append_own _ rfl _ _ 24 rfl (w.heap.size + 1 + 1) 36 iw (.agg #[.int .i64 0, .int .i64 0]) 2 16 Try.underlying24 hi hz0 hz1 hz2 rfl (by decide) _ n (vsw ls) rfl HO.out ⟨u4.heap.size, 0, none⟩ 1 1 (vsw [(val, x2)]) rfl HL.out HN.out ints_onew HM1.out HM2.out HBS.out ?_)
            | go_in)
          intro nv w5 hown hgrow _
          obtain ⟨na, nc, rfl⟩ : ∃ na nc, nv = .slice na (n + 1) nc := by rw [vsw_snoc] at hown; obtain ⟨na, nc, e, _⟩ := own_owd (by omega) (by simp [HV.out.len]) hown; exact ⟨na, nc, e⟩
          obtain ⟨b0, b1, V9⟩ := HV.out.app hgrow hown
          have B9 := HV.out.appB hgrow (.slice na (n + 1) nc)
          have M9 := HM.out.belowP B9 (by omega) (by simp)
          have s9 := HS.out.belowB B9 (by omega)
          have HV5 := hide V9
          have HM5 := hide M9
          have HS5 := hide s9
          clear V9 M9 s9 B9 hown hgrow HO HN HV HM HS cv
          go_wp2
          go_roundw
          case rel => exact ⟨k - 1, _, na, n + 1, nc, _, t' + 1 + 1 + 1 + 1 + 1 + 1 + 1, by omega, rfl, by go_num, HV5.out, HS5.out, by omega, HM5.out⟩
          case measure => simp [intOf]; omega
        | true =>
          go_wp2_with fail
          refine (l1Next_calls p a len cap (t' + 1 + 1 + 1 + 1 + 1 + 1 + 1) 16 _ (by omega) (by omega) (by omega) s4).mono ?_
          rintro e u5 ⟨v2, rfl, _, _, s5, o5⟩
          have V5 := V4.outside o5 (by omega)
          have M5 := M4.next o5
          clear V4 M4 s4 o5
          have cv := V5.c
          have zB := V5.hB
          have HV := hide V5
          have HM := hide M5
          have HS := hide s5
          have HO : Hid ((u5.alloc (.cells #[.int .i64 v2, .int .i64 x2] 36)).ownsRow (w.heap.size + 1 + 1) 36 2 (.slice ra n rc) n (vsw ls)) := (V5.below ((Below.refl _ _).alloc (Nat.le_refl _) _)).own
          have HL : Hid ((vsw [(v2, x2)]).length = 1 * 2) := rfl
          have HN : Hid (∀ j u, (vsw [(v2, x2)])[j]? = some u → (u5.alloc (.cells #[.int .i64 v2, .int .i64 x2] 36)).cell? ((Addr.mk u5.heap.size 0 none).add j) = some u) := word_new (by go_simp) (by go_simp)
          have HM1 : Hid (n + 1 ≤ maxLen) := by show _ ≤ _; unfold maxLen; omega
          have HM2 : Hid ((n + 1) * 16 ≤ 140737488355328) := by show _ ≤ _; omega
          have HBS : Hid (w.heap.size + 1 + 1 ≤ (u5.alloc (.cells #[.int .i64 v2, .int .i64 x2] 36)).heap.size) := by show _ ≤ _; simp; omega
          clear V5 M5 s5
          go_wp2_with (first
            | (at_builtin; refine wpList_append_own _ rfl _ _ 24 rfl (w.heap.size + 1 + 1) 36 iw (.agg #[.int .i64 0, .int .i64 0]) 2 16 Try.underlying24 hi hz0 hz1 hz2 rfl (by decide) _ n (vsw ls) rfl HO.out ⟨u5.heap.size, 0, none⟩ 1 1 (vsw [(v2, x2)]) rfl HL.out HN.out ints_onew HM1.out HM2.out HBS.out ?_)
            | go_in)
          intro nv w5 hown hgrow _
          obtain ⟨na, nc, rfl⟩ : ∃ na nc, nv = .slice na (n + 1) nc := by rw [vsw_snoc] at hown; obtain ⟨na, nc, e, _⟩ := own_owd (by omega) (by simp [HV.out.len]) hown; exact ⟨na, nc, e⟩
          obtain ⟨b0, b1, V9⟩ := HV.out.app hgrow hown
          have B9 := HV.out.appB hgrow (.slice na (n + 1) nc)
          have M9 := HM.out.belowP B9 (by omega) (by simp)
          have s9 := HS.out.belowB B9 (by omega)
          have HV5 := hide V9
          have HM5 := hide M9
          have HS5 := hide s9
          clear V9 M9 s9 B9 hown hgrow HO HN HV HM HS cv
          go_wp2
          go_roundw
          case rel => exact ⟨k - 1, _, na, n + 1, nc, _, t' + 1 + 1 + 1 + 1 + 1 + 1 + 1 + 1, by omega, rfl, by go_num, HV5.out, HS5.out, by omega, HM5.out⟩
          case measure => simp [intOf]; omega
    · have hk0 : k = 0 := by omega
      subst hk0
      have hlt' : ¬ (0 : Int) < 0 := by omega
      obtain ⟨ra', rc', e1, ow⟩ := own_owd (by omega) V.len V.own
      simp only [Value.slice.injEq, true_and] at e1
      obtain ⟨rfl, rfl⟩ := e1
      have c0 := V.c
      have d0 := M.cell 0 rfl
      have e0 := M.fz 0 rfl
      have HO := hide M.out
      have HW := hide ow
      have HS := hide src
      have zB := V.hB
      clear M V src ow
      go_wp2
      exact bodyPost_ret (v := .agg #[.slice ra n rc]) (by simp [results, Try.results32, go_sem, d0]) rfl (DrewW.mk
        ((OWd.loc.setC HW.out (q := ⟨w.heap.size, 0, none⟩) (fun e => by have h1 : w.heap.size + 1 + 1 ≤ w.heap.size := e.1; omega) _).mono (fun j hj => ⟨by have := hj.1; omega, by have := hj.2; simp; omega⟩)) (by omega) (by omega) (HS.out.setCell (by exact hp) _) (by omega) (HO.out.setNew (Nat.le_refl _) _))

end Go.Proofs.Ytpkndgkkakomiaa
