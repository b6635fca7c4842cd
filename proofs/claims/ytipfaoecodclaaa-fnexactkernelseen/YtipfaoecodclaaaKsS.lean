import Derived.Test.YtipfaoecodclaaaWtP
import Derived.Test.YtipfaoecodclaaaCoS
import Derived.Test.YtipfaoecodclaaaKfT
import Derived.Test.YtipfaoecodclaaaQs
import Derived.WalkKit
import Derived.ProofKit
import Derived.OpenShut
import Derived.ShutString
import Derived.ChangeOld
import Derived.Below
import Derived.WalkSpells
import Derived.Deep.QuietTactic
import Derived.BigQuiet
import Derived.Deep.RegionWith
import Derived.Deep.WholeRow
import Derived.Deep.DeepCutAuto
import Derived.Deep.RegionHeld2
import Derived.Deep.AppendLies
import Derived.Deep.RegionLaw
namespace Go.Proofs.Ytipfaoecodclaaa
open Go.ChangeShapes Go.WideShapes Go.ChangeAt Go.RowKit

set_option maxRecDepth 100000 in
theorem l1BelowO_calls (p o q r : Nat) (a b : Option Addr) (ca cb : Nat) (xs ys : List Int) (w : World) (hp : p < w.heap.size) (hq : q < w.heap.size)
    (hpc : w.cell? ⟨p, o, none⟩ = some (.slice a 4 ca)) (hqc : w.cell? ⟨q, r, none⟩ = some (.slice b 4 cb)) (hx : Sl w a 4 xs) (hy : Sl w b 4 ys) :
    Calls Try.prog 27 #[.pointer (some ⟨p, o, none⟩), .pointer (some ⟨q, r, none⟩)] w fun e w' => e = .returned (.bool (belowB xs ys)) ∧ Below w.heap.size w w' := by
  obtain ⟨hxl, hx⟩ := hx
  obtain ⟨hyl, hy⟩ := hy
  obtain ⟨b1, o1, rfl, hb1, hc1⟩ := hx (by omega)
  obtain ⟨b2, o2, rfl, hb2, hc2⟩ := hy (by omega)
  go_enter Try.func27, Try.ntmps27
  go_wp2
  go_loopw [5] (fun i wr => ∃ k : Nat, k ≤ 4 ∧ i = .int .i64 k ∧ Below w.heap.size w wr ∧ ∀ j, j < k → gt xs j ≤ gt ys j) (fun i _ => 4 - (intOf i).toNat)
  case atStart => exact ⟨0, Nat.zero_le _, rfl, Below.refl _ _, fun j hj => by omega⟩
  case round =>
    obtain ⟨k, hk, rfl, hbel, hall⟩ := hrel
    have Hall : Hid (∀ j, j < k → gt xs j ≤ gt ys j) := hall
    clear hall
    have hpr := (hbel.cell (p := ⟨p, o, none⟩) hp).trans hpc
    have hqr := (hbel.cell (p := ⟨q, r, none⟩) hq).trans hqc
    by_cases hlt : k < 4
    · have hck1 := (hbel.cell (p := ⟨b1, o1 + k, none⟩) hb1).trans (hc1 k hlt)
      have hck2 := (hbel.cell (p := ⟨b2, o2 + k, none⟩) hb2).trans (hc2 k hlt)
      have hki : (k : Int) < 4 := by omega
      by_cases he : gt ys k < gt xs k
      · go_wp2_with fail
        go_quiet (fail)
        go_wp2
        go_ret
        exact ⟨ret_bool (belowB_no hlt he).symm, bdrewN hbel _⟩
      · have hle : gt xs k ≤ gt ys k := by omega
        go_wp2_with fail
        go_quiet (fail)
        go_wp2
        go_roundw
        case rel => exact ⟨k + 1, by omega, by go_num, bdrewN hbel _, fun j hj => by (by_cases e : j = k); (subst e; exact hle); exact Hall.out j (by omega)⟩
        case measure => simp [intOf]; omega
    · go_wp2
      go_ret
      exact ⟨ret_bool (belowB_yes (fun j hj => Hall.out j (by omega))).symm, hbel⟩

/-- the first of two rows that grow: numbers, from block P8 on (PO: the block of the answer's cells; U: the world ahead of the loop; T: its size). -/
structure KsI (w U wr : World) (T PO P8 : Nat) (zs : List Int) (vp : Value) : Prop where
  bel : Below w.heap.size w wr
  sz : T ≤ wr.heap.size
  far : ∀ q, q < T → q ≠ PO → q ≠ P8 → wr.heap[q]? = U.heap[q]?
  pl : wr.ownsRow P8 2 1 vp zs.length (zs.map (Value.int .i64))
  hp : ∀ q, vp.ownBlock = some q → q = P8 ∨ T ≤ q

theorem KsI.below {w U wr X : World} {T PO P8 : Nat} {zs : List Int} {vp : Value} (h : KsI w U wr T PO P8 zs vp) (hc : Below wr.heap.size wr X) : KsI w U X T PO P8 zs vp :=
  ⟨h.bel.trans (hc.mono h.bel.size), by have := h.sz; have := hc.size; omega, fun q h1 h2 h3 => (hc.block q (by have := h.sz; omega)).trans (h.far q h1 h2 h3), ownR_below h.pl hc, h.hp⟩

theorem KsI.push {w U wr w1 : World} {T PO P8 : Nat} {zs : List Int} {vp : Value} (h : KsI w U wr T PO P8 zs vp) {u : Int} {g cp : Nat} (hw : w.heap.size ≤ P8) (hg : wr.grownBy w1 vp.ownBlock) (hat : vp.ownBlock = some g ∨ g = wr.heap.size)
    (hown : w1.ownsRow P8 2 1 (.slice (some ⟨g, 0, none⟩) (zs.length + 1) cp) (zs.length + 1) (zs.map (Value.int .i64) ++ [.int .i64 u])) : KsI w U w1 T PO P8 (zs ++ [u]) (.slice (some ⟨g, 0, none⟩) (zs.length + 1) cp) :=
  ⟨h.bel.grown hg (by have := h.bel.size; omega) (fun q e => by have := (h.pl.lt q e).1; omega), by have := h.sz; have := hg.size; omega,
    fun q h1 h2 h3 => (hg.block q (by have := h.sz; omega) (fun e => by rcases h.hp q e.symm with e1 | e1 <;> omega)).trans (h.far q h1 h2 h3), by simpa using hown,
    fun q e => by
      rcases hat with hat | hat
      · exact h.hp q (by rw [hat]; exact e)
      · have e1 : g = q := by simpa [Value.ownBlock] using e
        have := h.sz
        omega⟩

theorem KsI.kept {w U wr w1 : World} {T PO P8 : Nat} {zs : List Int} {vp : Value} (h : KsI w U wr T PO P8 zs vp) {row : Option Nat} (hT : w.heap.size ≤ T) (hg : wr.grownBy w1 row) (hr : ∀ q, row = some q → T ≤ q ∧ vp.ownBlock ≠ some q) : KsI w U w1 T PO P8 zs vp :=
  ⟨h.bel.grown hg (by have := h.bel.size; omega) (fun q e => by have := (hr q e).1; omega), by have := h.sz; have := hg.size; omega,
    fun q h1 h2 h3 => (hg.block q (by have := h.sz; omega) (fun e => by have := (hr q e.symm).1; omega)).trans (h.far q h1 h2 h3),
    h.pl.kept hg (by
      cases hv : vp.ownBlock with
      | none => exact .inl rfl
      | some q => exact .inr (fun e => (hr q e.symm).2 hv)), h.hp⟩

theorem KsI.set {w U wr : World} {T PO P8 : Nat} {zs : List Int} {vp : Value} (h : KsI w U wr T PO P8 zs vp) (h1 : w.heap.size ≤ PO) (h2 : PO < P8) (o : Nat) (y : Value) : KsI w U (wr.setCell ⟨PO, o, none⟩ y) T PO P8 zs vp :=
  ⟨h.bel.setCell h1 y, by have := h.sz; simpa using this, fun q q1 q2 q3 => (Below.heap_setCell _ _ _ _ q2).trans (h.far q q1 q2 q3), ownR_set h.pl h2 y, h.hp⟩

theorem info_i64 : (Try.prog.info? 2).map (fun i => (i.zero, i.size, i.bytes)) = some (some (.int .i64 0), 1, 8) := by kernel_rfl

set_option maxRecDepth 100000 in
set_option maxHeartbeats 8000000 in
theorem specKernelSeen_calls (a : Option Addr) (n c : Nat) (xs : List OB) (la : Option Addr) (ll lc : Nat) (zl : List Int) (w : World) (hm : n ≤ maxLen) (hs : Sob w a n xs) (_hcap : n ≤ c) (hml : ll ≤ maxLen) (hsl : Sl w la ll zl) :
    Calls Try.prog 7 #[.agg #[.slice a n c], .agg #[.slice la ll lc]] w fun e w' => ∃ ra rn rc, e = .returned (.agg #[.int .i64 (ksC xs zl), .slice ra rn rc]) ∧ OO (InR w.heap.size w'.heap.size) ra rn (ksL xs zl) w' ∧ Below w.heap.size w w' := by
  have M0 := (((Mm.start w).allocC [.slice a n c] 35).allocC [.slice la ll lc] 37).allocC [.int .i64 0, .slice none 0 0] 32
  simp only [World.size_alloc] at M0
  have HK : Hid (KR w.heap.size a n c xs (((w.alloc (.cells #[.slice a n c] 35)).alloc (.cells #[.slice la ll lc] 37)).alloc (.cells #[.int .i64 0, .slice none 0 0] 32))) := ⟨by simp; omega, (M0.get 2 rfl).cell 0 rfl, hm, hs.below M0.bel (Nat.le_refl _)⟩
  obtain ⟨i0, hi, hz0, hz1, hz2⟩ := info_parts infoObject
  obtain ⟨j0i, hji, hy0, hy1, hy2⟩ := info_parts info_i64
  go_enter Try.func7, Try.ntmps7
  go_wp2_with fail
  refine (l11Fault_calls _ a n c xs _ HK.out).mono ?_
  rintro e w1 ⟨rfl, g1⟩
  have z1 : w.heap.size + 3 ≤ w1.heap.size := by have := g1.size; simpa using this
  have M1 := M0.below g1
  clear M0 g1 HK
  have RET : ∀ (W : World) (v : Int), Hid (Mm w W [] [(w.heap.size + 1 + 1, w.heap.size + 1 + 1 + 1, Cs (w.heap.size + 1 + 1) [.int .i64 0, .slice none 0 0]), (w.heap.size + 1, w.heap.size + 1 + 1, Cs (w.heap.size + 1) [.slice la ll lc]), (w.heap.size, w.heap.size + 1, Cs w.heap.size [.slice a n c])]) → True := fun _ _ _ => trivial
  by_cases h1 : kerF xs = 0
  rotate_left
  · have HE : Hid (ksC xs zl = kerF xs) := ksC_k h1
    have HV : Hid (ksL xs zl = []) := ksL_no (by rw [ksC_k h1]; exact h1)
    have e1 : (kerF xs != 0) = true := by simpa using h1
    have r0 := (M1.get 0 rfl).cell 0 rfl
    have r1 := (M1.get 0 rfl).cell 1 rfl
    have f0 := (M1.get 0 rfl).fz 0 (by simp)
    have f1 := (M1.get 0 rfl).fz 1 (by simp)
    have HB := hide M1.bel
    clear h1 M1 RET
    go_wp2
    refine bodyPost_ret (v := .agg #[.int .i64 (kerF xs), .slice none 0 0]) (by simp [results, Try.results7, go_sem, r0, r1]) rfl ⟨none, 0, 0, by rw [HE.out], ?_, (HB.out.setCell (by simp; omega) _).setCell (by simp; omega) _⟩
    rw [HV.out]
    exact OO.nil _ _ _
  have e1 : (kerF xs != 0) = false := by simp [h1]
  have HK0 := hide h1
  have q0 := (M1.get 1 rfl).cell 0 rfl
  have lq : w.heap.size + 1 < w1.heap.size := by omega
  have HSL := hide (hsl.below M1.bel (Nat.le_refl _))
  clear h1 RET
  go_wp2_with fail
  refine (l1FaultO_calls (w.heap.size + 1) 0 la ll lc zl _ hml lq q0 HSL.out).mono ?_
  rintro e w2 ⟨rfl, g2⟩
  have z2 := g2.size
  have M2 := M1.below g2
  clear M1 g2 q0 e1
  by_cases h2 : fault zl = 0
  rotate_left
  · have HE : Hid (ksC xs zl = fault zl) := ksC_l HK0.out
    have HV : Hid (ksL xs zl = []) := ksL_no (by rw [HE.out]; exact h2)
    have e2 : (fault zl != 0) = true := by simpa using h2
    have r0 := (M2.get 0 rfl).cell 0 rfl
    have r1 := (M2.get 0 rfl).cell 1 rfl
    have f0 := (M2.get 0 rfl).fz 0 (by simp)
    have f1 := (M2.get 0 rfl).fz 1 (by simp)
    have HB := hide M2.bel
    clear h2 M2
    go_wp2
    refine bodyPost_ret (v := .agg #[.int .i64 (fault zl), .slice none 0 0]) (by simp [results, Try.results7, go_sem, r0, r1]) rfl ⟨none, 0, 0, by rw [HE.out], ?_, (HB.out.setCell (by simp; omega) _).setCell (by simp; omega) _⟩
    rw [HV.out]
    exact OO.nil _ _ _
  have e2 : (fault zl != 0) = false := by simp [h2]
  have HC : Hid (ksC xs zl = 0) := by show _ = _; rw [ksC_l HK0.out, h2]
  have HV : Hid (ksL xs zl = (wtS (ksp zl (gO xs)) (gO xs) n).2) := by show _ = _; rw [ksL_ok HC.out, hs.1]
  have h4 : zl.length = 4 := by
    by_cases h4 : zl.length = 4
    · exact h4
    · unfold fault at h2; simp [h4] at h2
  have hl4 : ll = 4 := by rw [← h4, hsl.1]
  subst hl4
  have hK := kerF_inv HK0.out
  have hlen := hs.1
  have hn1 : 1 ≤ n := by omega
  have hn12 : n ≤ 12 := by omega
  have HAT : Hid (∀ j, j < n → (gO xs j).2.2.2.1.length = 4 ∧ fault (gO xs j).2.2.2.1 = 0 ∧ (gO xs j).2.2.2.2.2.2.length ≤ 200 ∧ (0 < j → 0 ≤ (gO xs j).1 ∧ (gO xs j).1 < j)) := fun j hj => kerF_at HK0.out (by omega)
  have hmm : n + lenO xs ≤ 1048576 := by
    have := lenO_all xs 204 (fun j hj => by have := HAT.out j (by omega); omega)
    omega
  clear h2 hK
  obtain ⟨u, hu⟩ : ∃ y, y = (w2.alloc (.cells #[.int .i64 0, .slice none 0 0] 32)).alloc (.cells #[] 2) := ⟨_, rfl⟩
  have N2 := (M2.allocC [.int .i64 0, .slice none 0 0] 32).below ((Below.refl _ _).alloc (Nat.le_refl _) (.cells #[] 2))
  rw [← hu] at N2
  have zu : u.heap.size = w2.heap.size + 2 := by rw [hu]; simp
  have HN2 := hide N2
  have Hu := hide hu
  have HP8 : Hid (u.ownsRow (w2.heap.size + 1) 2 1 (.slice (some ⟨w2.heap.size + 1, 0, none⟩) 0 0) 0 []) := by
    show u.ownsRow _ _ _ _ _ _
    rw [hu]
    simpa using World.ownsRow_lit (base := w2.heap.size + 1) (e := 2) (size := 1) (w2.alloc (.cells #[.int .i64 0, .slice none 0 0] 32)) #[] 0 (by simp) (by unfold maxLen; omega) rfl
  have d0 := (N2.get 3 rfl).cell 0 rfl
  clear N2 M2 hu
  go_upto_region 9 with fail
  rw [← Hu.out]
  clear Hu e2
  go_wp2_with fail
  refine (l11Copy_C a n c xs _ hmm (by omega) (hs.below HN2.out.bel (Nat.le_refl _))).mono ?_
  rintro e w3 ⟨v, la1, lc1, lb1, L, rfl, co, g3⟩
  obtain ⟨gb, cc, rfl, hgB, hgl, _⟩ := co.form (by omega)
  have z3 := g3.size
  obtain ⟨U, hU⟩ : ∃ y, y = w3.alloc (.cells #[.slice (some ⟨gb, 0, none⟩) n cc] 35) := ⟨_, rfl⟩
  have zU : U.heap.size = w3.heap.size + 1 := by rw [hU]; simp
  have M3 := (HN2.out.below g3).allocC [.slice (some ⟨gb, 0, none⟩) n cc] 35
  have hbU : Below w3.heap.size w3 U := by rw [hU]; exact (Below.refl _ _).alloc (Nat.le_refl _) _
  have HCO := hide (co.below hbU)
  rw [← hU] at M3
  have HM3 := hide M3
  have HI0 : Hid (KsI w U U U.heap.size w2.heap.size (w2.heap.size + 1) (wtS (ksp zl (gO xs)) (gO xs) 0).1 (.slice (some ⟨w2.heap.size + 1, 0, none⟩) 0 0)) := ⟨M3.bel, Nat.le_refl _, fun _ _ _ _ => rfl, ownR_below HP8.out (g3.trans (hbU.mono z3)), fun q e => .inl (Eq.symm (by simpa [Value.ownBlock] using e))⟩
  have HW0 : Hid (KW U (u.heap.size + 3) U.heap.size (ksp zl (gO xs)) (gO xs) n 0 (.slice none 0 0) lb1 []) := KW.start _ _ _ _ (World.ownsRow_nil _ _ _ _) (fun q e => by simp [Value.ownBlock] at e)
  have HUU := hide hU
  have c0 := (M3.get 1 rfl).cell 0 rfl
  have c1 := (M3.get 1 rfl).cell 1 rfl
  have c2 := (M3.get 1 rfl).fz 1 (by simp)
  clear co M3 hU hbU d0 HN2 HP8 g3
  go_upto_region 10 with fail
  rw [← HUU.out]
  clear HUU
  go_wp2
  go_loopw [8, 10] (fun q i wr => ∃ (k : Nat) (vp v2 : Value) (L2 : List Value), k ≤ n ∧ q = vp ∧ i = .int .i64 (k : Int) ∧ KsI w U wr U.heap.size w2.heap.size (w2.heap.size + 1) (wtS (ksp zl (gO xs)) (gO xs) k).1 vp ∧ KW wr (u.heap.size + 3) U.heap.size (ksp zl (gO xs)) (gO xs) n k v2 lb1 L2 ∧ (∀ b, vp.ownBlock = some b → v2.ownBlock ≠ some b) ∧ wr.cell? ⟨w2.heap.size, 0, none⟩ = some (.int .i64 0) ∧ wr.cell? ⟨w2.heap.size, 1, none⟩ = some v2 ∧ wr.frozen? ⟨w2.heap.size, 1, none⟩ = false) (fun _ i _ => n - (intOf i).toNat)
  case atStart => exact ⟨0, _, _, _, Nat.zero_le _, rfl, rfl, HI0.out, HW0.out, fun b _ e => by simp [Value.ownBlock] at e, c0, c1, c2⟩
  case round =>
    clear c0 c1 c2 HI0 HW0
    obtain ⟨k, vp, v2, L2, hk, e8, rfl, hI, hW, hne, o0, o1, f1⟩ := hrel
    replace e8 := e8.symm
    subst e8
    obtain ⟨ra, rc, rfl⟩ := hW.form
    have far : ∀ b o, b < U.heap.size → b ≠ w2.heap.size → b ≠ w2.heap.size + 1 → wr.cell? ⟨b, o, none⟩ = U.cell? ⟨b, o, none⟩ := fun b o h1 h2 h3 => World.cell?_of_block (hI.far b h1 h2 h3)
    have a0 := (far w3.heap.size 0 (by omega) (by omega) (by omega)).trans ((HM3.out.get 0 rfl).cell 0 rfl)
    have Hlk := hide (wtS_len (ksp zl (gO xs)) (gO xs) k)
    have szw := hI.sz
    have HI := hide hI
    have HW := hide hW
    have Hne := hide hne
    by_cases hlt : k < n
    · have h7 := (HCO.out.o7 hlt).of_block (hI.far gb (by omega) (by omega) (by omega))
      obtain ⟨r0, r1, r2, r3, r4, r5, r6⟩ := h7
      have k0 : (0 : Int) ≤ (k : Int) := by omega
      have k1 : (k : Int) < (n : Int) := by omega
      have HQ := hide (HAT.out k hlt)
      have HOS : Hid (∀ X zs vq, KsI w U X U.heap.size w2.heap.size (w2.heap.size + 1) zs vq → ∀ q, q < 2 * n → OS (fun b => b = lb1 q ∧ 0 < (sbO (gO xs) q).length) (la1 q) (sbO (gO xs) q).length (sbO (gO xs) q) X) := fun X zs vq hX q hq => OS.loc U X (fun b hb hlt => hX.far b hlt (by have := HCO.out.ge q hq hb.2; omega) (by have := HCO.out.ge q hq hb.2; omega)) (HCO.out.os q hq)
      have s1 := (HOS.out wr _ _ HI.out (2 * k) (by omega)).sl
      rw [sbO_l] at s1
      have HS1 := hide s1
      have HSL1 := hide (hsl.below HI.out.bel (Nat.le_refl _))
      have HLT : Hid (∀ r, r < 2 * n → 0 < (sbO (gO xs) r).length → lb1 r < U.heap.size) := fun r hr hp => (HCO.out.ge r hr hp).2
      obtain ⟨A, hA⟩ : ∃ y, y = wr.alloc (.cells #[.int .i64 (gO xs k).1, .int .i64 (gO xs k).2.1, .int .i64 (gO xs k).2.2.1, .slice (la1 (2 * k)) (gO xs k).2.2.2.1.length (lc1 (2 * k)), .int .i64 (gO xs k).2.2.2.2.1, .int .i64 (gO xs k).2.2.2.2.2.1, .slice (la1 (2 * k + 1)) (gO xs k).2.2.2.2.2.2.length (lc1 (2 * k + 1))] 57) := ⟨_, rfl⟩
      have N1 := (Mm.start wr).allocC [.int .i64 (gO xs k).1, .int .i64 (gO xs k).2.1, .int .i64 (gO xs k).2.2.1, .slice (la1 (2 * k)) (gO xs k).2.2.2.1.length (lc1 (2 * k)), .int .i64 (gO xs k).2.2.2.2.1, .int .i64 (gO xs k).2.2.2.2.2.1, .slice (la1 (2 * k + 1)) (gO xs k).2.2.2.2.2.2.length (lc1 (2 * k + 1))] 57
      rw [← hA] at N1
      have zA : A.heap.size = wr.heap.size + 1 := by rw [hA]; simp
      have HA := hide hA
      have HN1 := hide N1
      clear hI hW hne far hA N1 s1
      go_upto_region 14 with fail
      rw [← HA.out]
      clear HA r0 r1 r2 r3 r4 r5 r6 a0
      by_cases hk0 : k = 0
      · have e3 : decide (0 < k) = false := decide_eq_false (by omega)
        have HUP : Hid (upW (gO xs) (wtS (ksp zl (gO xs)) (gO xs) k).1 k = (gO xs k).1) := if_pos (by omega)
        have HN2 := HN1
        have m3 := (HN2.out.get 0 rfl).cell 3 rfl
        have Hk0 := hide hk0
        clear hk0
        have ol : wr.heap.size < A.heap.size := by omega
        have HS2 := hide (HS1.out.below HN2.out.bel (Nat.le_refl _))
        have HL2 := hide (HSL1.out.below HN2.out.bel (Nat.le_refl _))
        have lb2 := (HI.out.below HN2.out.bel).far (w.heap.size + 1) (by omega) (by omega) (by omega)
        have lb3 := (World.cell?_of_block (a := ⟨w.heap.size + 1, 0, none⟩) lb2).trans ((HM3.out.get 3 rfl).cell 0 rfl)
        have lb4 : w.heap.size + 1 < A.heap.size := by omega
        clear lb2
        go_wp2_with fail
        refine (l1BelowO_calls wr.heap.size 3 (w.heap.size + 1) 0 (la1 (2 * k)) la (lc1 (2 * k)) lc (gO xs k).2.2.2.1 zl _ ol lb4 (by rw [HQ.out.1] at m3; exact m3) lb3 (by have h9 := HS2.out; rw [HQ.out.1] at h9; exact h9) HL2.out).mono ?_
        rintro e w4 ⟨rfl, g4⟩
        have z4 := g4.size
        have HN4 := hide (HN2.out.below g4)
        have HI4 := hide (HI.out.below HN4.out.bel)
        have HW4 := hide (HW.out.below HN4.out.bel)
        have zz : wr.heap.size + 1 ≤ w4.heap.size := by omega
        clear g4 m3 lb3 HS2 HL2 ol lb4
        by_cases hb : belowB (gO xs k).2.2.2.1 zl = true
        rotate_left
        · replace hb : belowB (gO xs k).2.2.2.1 zl = false := by simpa using hb
          have HGO : Hid (wtGo (ksp zl (gO xs)) (gO xs) (wtS (ksp zl (gO xs)) (gO xs) k).1 k = true) := wtGo_self (by unfold ksp; rw [hb]; rfl)
          rw [hb]
          go_upto_region 17 with fail
          have HX : Hid (Below w4.heap.size w4 (w4.alloc (.cells #[.int .i64 (-1)] 2))) := (Below.refl _ _).alloc (Nat.le_refl _) _
          have HI5 := hide (HI4.out.below HX.out)
          have HOW := hide HI5.out.pl
          rw [Hlk.out.1] at HOW
          have zX : (w4.alloc (.cells #[.int .i64 (-1)] 2)).heap.size = w4.heap.size + 1 := by simp
          clear zX
          go_wp2_with (first
            | (at_builtin; go_loud (refine wpList_append_lies _ rfl _ _ 25 rfl (w2.heap.size + 1) 2 j0i (.int .i64 0) 1 8 Try.underlying25 hji hy0 hy1 hy2 rfl (by decide) vp _ _ rfl HOW.out ⟨w4.heap.size, 0, none⟩ 1 1 [.int .i64 (-1)] rfl rfl (one_new (by go_simp)) (by simp [Value.oneCell']) (by omega) (by unfold maxLen; omega) (by omega) (by simp; omega) (w4.heap.size + 1) (by simp) ?_))
            | go_in)
          intro g cp w5 hown5 hg5 hat5 hlt5
          have I6 := HI5.out.push (by omega) hg5 (hat5.imp id (fun e => by rw [e]; simp)) (by rw [Hlk.out.1]; exact hown5)
          rw [Hlk.out.1] at I6
          have hWk := (HW4.out.below HX.out)
          have hv2 : ∀ q, (Value.slice ra (wtS (ksp zl (gO xs)) (gO xs) k).2.length rc).ownBlock = some q → q < w4.heap.size := fun q e => HW4.out.lt e
          have W6 := (hWk.kept hg5 (by
            cases hv : (Value.slice ra (wtS (ksp zl (gO xs)) (gO xs) k).2.length rc).ownBlock with
            | none => exact .inl rfl
            | some q => exact .inr (fun e => Hne.out q e.symm hv)) (fun r hr hp e => by
              have h1 := HI.out.hp _ e
              have h2 := HCO.out.ge r (by omega) hp
              have h3 := HLT.out r (by omega) hp
              omega)).skip HGO.out
          have hp0 : ∀ q, vp.ownBlock = some q → q ≠ w2.heap.size := fun q e => by have := (HI4.out.pl.lt q e).1; omega
          have p0 := hg5.cell (a := ⟨w2.heap.size, 0, none⟩) ((HN4.out.bel.trans (HX.out.mono HN4.out.bel.size)).cell (p := ⟨w2.heap.size, 0, none⟩) (by show w2.heap.size < _; omega) |>.trans o0) (fun e => hp0 _ e.symm rfl)
          have p1 := hg5.cell (a := ⟨w2.heap.size, 1, none⟩) ((HN4.out.bel.trans (HX.out.mono HN4.out.bel.size)).cell (p := ⟨w2.heap.size, 1, none⟩) (by show w2.heap.size < _; omega) |>.trans o1) (fun e => hp0 _ e.symm rfl)
          have p2 : w5.frozen? ⟨w2.heap.size, 1, none⟩ = false := (World.frozen?_of_block (a := ⟨w2.heap.size, 1, none⟩) (hg5.block _ (by simp; omega) (fun e => hp0 _ e.symm rfl))).trans (((HN4.out.bel.trans (HX.out.mono HN4.out.bel.size)).frozen (p := ⟨w2.heap.size, 1, none⟩) (by show w2.heap.size < _; omega)).trans f1)
          have ne6 : ∀ b, (Value.slice (some ⟨g, 0, none⟩) (k + 1) cp).ownBlock = some b → (Value.slice ra (wtS (ksp zl (gO xs)) (gO xs) k).2.length rc).ownBlock ≠ some b := fun b e e2 => by
            have e1 : g = b := by simpa [Value.ownBlock] using e
            rcases hat5 with hat | hat
            · exact Hne.out b (by rw [hat, e1]) e2
            · have := hv2 b e2; omega
          have HE := hide (wtS_go HGO.out)
          have HI6 := hide I6
          have HW6 := hide W6
          have HP0 := hide p0
          have HP1 := hide p1
          have HP2 := hide p2
          have HN6 := hide ne6
          clear I6 W6 p0 p1 p2 ne6 hp0 hv2 hWk hown5 hg5 hat5 hlt5
          go_wp2
          go_roundw
          case rel => exact ⟨k + 1, _, _, _, by omega, rfl, by go_num, by rw [HE.out]; exact HI6.out, HW6.out, HN6.out, HP0.out, HP1.out, HP2.out⟩
          case measure => simp [intOf]; omega
        have HGO : Hid (wtGo (ksp zl (gO xs)) (gO xs) (wtS (ksp zl (gO xs)) (gO xs) k).1 k = false) := wtGo_no (by unfold ksp; rw [hb]; rfl) HUP.out (fun h => by have := Hk0.out; omega)
        rw [hb]
        have t1 := (HN4.out.bel.cell (p := ⟨w2.heap.size, 1, none⟩) (by show w2.heap.size < _; omega)).trans o1
        have l8 := Hlk.out.2
        go_upto_region 18 with fail
        have HX : Hid (Below w4.heap.size w4 (w4.alloc (.cells #[.int .i64 ((wtS (ksp zl (gO xs)) (gO xs) k).2.length : Int)] 2))) := (Below.refl _ _).alloc (Nat.le_refl _) _
        have HI5 := hide (HI4.out.below HX.out)
        have HOW := hide HI5.out.pl
        rw [Hlk.out.1] at HOW
        go_wp2_with (first
          | (at_builtin; go_loud (refine wpList_append_lies _ rfl _ _ 25 rfl (w2.heap.size + 1) 2 j0i (.int .i64 0) 1 8 Try.underlying25 hji hy0 hy1 hy2 rfl (by decide) vp _ _ rfl HOW.out ⟨w4.heap.size, 0, none⟩ 1 1 [.int .i64 ((wtS (ksp zl (gO xs)) (gO xs) k).2.length : Int)] rfl rfl (one_new (by go_simp)) (by simp [Value.oneCell']) (by omega) (by unfold maxLen; omega) (by omega) (by simp; omega) (w4.heap.size + 1) (by simp) ?_))
          | go_in)
        intro g cp w5 hown5 hg5 hat5 hlt5
        have I6 := HI5.out.push (by omega) hg5 (hat5.imp id (fun e => by rw [e]; simp)) (by rw [Hlk.out.1]; exact hown5)
        rw [Hlk.out.1] at I6
        have hWk := (HW4.out.below HX.out)
        have hv2 : ∀ q, (Value.slice ra (wtS (ksp zl (gO xs)) (gO xs) k).2.length rc).ownBlock = some q → q < w4.heap.size := fun q e => HW4.out.lt e
        have W6 := (hWk.kept hg5 (by
          cases hv : (Value.slice ra (wtS (ksp zl (gO xs)) (gO xs) k).2.length rc).ownBlock with
          | none => exact .inl rfl
          | some q => exact .inr (fun e => Hne.out q e.symm hv)) (fun r hr hp e => by
            have h1 := HI.out.hp _ e
            have h2 := HCO.out.ge r (by omega) hp
            have h3 := HLT.out r (by omega) hp
            omega))
        have hp0 : ∀ q, vp.ownBlock = some q → q ≠ w2.heap.size := fun q e => by have := (HI4.out.pl.lt q e).1; omega
        have hp9 : ∀ q, vp.ownBlock = some q → q ≠ wr.heap.size := fun q e => by have := (HI.out.pl.lt q e).2; omega
        have p0 := hg5.cell (a := ⟨w2.heap.size, 0, none⟩) ((HN4.out.bel.trans (HX.out.mono HN4.out.bel.size)).cell (p := ⟨w2.heap.size, 0, none⟩) (by show w2.heap.size < _; omega) |>.trans o0) (fun e => hp0 _ e.symm rfl)
        have p1 := hg5.cell (a := ⟨w2.heap.size, 1, none⟩) ((HN4.out.bel.trans (HX.out.mono HN4.out.bel.size)).cell (p := ⟨w2.heap.size, 1, none⟩) (by show w2.heap.size < _; omega) |>.trans o1) (fun e => hp0 _ e.symm rfl)
        have p2 : w5.frozen? ⟨w2.heap.size, 1, none⟩ = false := (World.frozen?_of_block (a := ⟨w2.heap.size, 1, none⟩) (hg5.block _ (by simp; omega) (fun e => hp0 _ e.symm rfl))).trans (((HN4.out.bel.trans (HX.out.mono HN4.out.bel.size)).frozen (p := ⟨w2.heap.size, 1, none⟩) (by show w2.heap.size < _; omega)).trans f1)
        have EB : w5.heap[wr.heap.size]? = w4.heap[wr.heap.size]? := (hg5.block _ (by simp; omega) (fun e => hp9 _ e.symm rfl)).trans (HX.out.block _ (by omega))
        have y0 := (World.cell?_of_block (a := ⟨wr.heap.size, 0, none⟩) EB).trans ((HN4.out.get 0 rfl).cell 0 rfl)
        have y1 := (World.cell?_of_block (a := ⟨wr.heap.size, 1, none⟩) EB).trans ((HN4.out.get 0 rfl).cell 1 rfl)
        have y2 := (World.cell?_of_block (a := ⟨wr.heap.size, 2, none⟩) EB).trans ((HN4.out.get 0 rfl).cell 2 rfl)
        have y3 := (World.cell?_of_block (a := ⟨wr.heap.size, 3, none⟩) EB).trans ((HN4.out.get 0 rfl).cell 3 rfl)
        have y4 := (World.cell?_of_block (a := ⟨wr.heap.size, 4, none⟩) EB).trans ((HN4.out.get 0 rfl).cell 4 rfl)
        have y5 := (World.cell?_of_block (a := ⟨wr.heap.size, 5, none⟩) EB).trans ((HN4.out.get 0 rfl).cell 5 rfl)
        have y6 := (World.cell?_of_block (a := ⟨wr.heap.size, 6, none⟩) EB).trans ((HN4.out.get 0 rfl).cell 6 rfl)
        have ne6 : ∀ b, (Value.slice (some ⟨g, 0, none⟩) (k + 1) cp).ownBlock = some b → (Value.slice ra (wtS (ksp zl (gO xs)) (gO xs) k).2.length rc).ownBlock ≠ some b := fun b e e2 => by
          have e1 : g = b := by simpa [Value.ownBlock] using e
          rcases hat5 with hat | hat
          · exact Hne.out b (by rw [hat, e1]) e2
          · have := hv2 b e2; omega
        have HE := hide (wtS_stay HGO.out)
        have HI6 := hide I6
        have HW6 := hide W6
        have HP0 := hide p0
        have HN6 := hide ne6
        have zw5 := hg5.size
        have zw6 : w4.heap.size + 1 ≤ w5.heap.size := by simpa using zw5
        clear I6 W6 p0 ne6 hp0 hp9 hv2 hWk hown5 hg5 hat5 EB t1 zw5
        go_upto_region 19 with fail
        have HX2 : Hid (Below w5.heap.size w5 (w5.alloc (.cells #[.int .i64 (gO xs k).1, .int .i64 (gO xs k).2.1, .int .i64 (gO xs k).2.2.1, .slice (la1 (2 * k)) (gO xs k).2.2.2.1.length (lc1 (2 * k)), .int .i64 (gO xs k).2.2.2.2.1, .int .i64 (gO xs k).2.2.2.2.2.1, .slice (la1 (2 * k + 1)) (gO xs k).2.2.2.2.2.2.length (lc1 (2 * k + 1))] 57))) := (Below.refl _ _).alloc (Nat.le_refl _) _
        have HOW2 := hide (HW6.out.below HX2.out).own
        have HNW : Hid (∀ q y, (v7 ((gO xs k).1, (gO xs k).2) (la1 (2 * k)) (lc1 (2 * k)) (la1 (2 * k + 1)) (lc1 (2 * k + 1)))[q]? = some y → (w5.alloc (.cells #[.int .i64 (gO xs k).1, .int .i64 (gO xs k).2.1, .int .i64 (gO xs k).2.2.1, .slice (la1 (2 * k)) (gO xs k).2.2.2.1.length (lc1 (2 * k)), .int .i64 (gO xs k).2.2.2.2.1, .int .i64 (gO xs k).2.2.2.2.2.1, .slice (la1 (2 * k + 1)) (gO xs k).2.2.2.2.2.2.length (lc1 (2 * k + 1))] 57)).cell? ((Addr.mk w5.heap.size 0 none).add q) = some y) := World.news_of_block (t := 57) (fr := (0, 0)) (heap_alloc_new w5 _)
        go_wp2_with (first
          | (at_builtin; go_loud (refine wpList_append_lies _ rfl _ _ 30 rfl (u.heap.size + 3) 57 i0 (.agg #[.int .i64 0, .int .i64 0, .int .i64 0, .slice none 0 0, .int .i64 0, .int .i64 0, .slice none 0 0]) 7 88 Try.underlying30 hi hz0 hz1 hz2 rfl (by decide) (Value.slice ra (wtS (ksp zl (gO xs)) (gO xs) k).2.length rc) _ _ rfl HOW2.out ⟨w5.heap.size, 0, none⟩ 1 1 (v7 ((gO xs k).1, (gO xs k).2) (la1 (2 * k)) (lc1 (2 * k)) (la1 (2 * k + 1)) (lc1 (2 * k + 1))) rfl rfl HNW.out (v7_one _ _ _ _ _) (by omega) (by unfold maxLen; omega) (by omega) (by simp; omega) (w5.heap.size + 1) (by simp) ?_))
          | go_in)
        intro g2 cp2 w6 hown6 hg6 hat6 hlt6
        rw [← HUP.out, ← zu] at hown6
        have zx2 : (w5.alloc (.cells #[.int .i64 (gO xs k).1, .int .i64 (gO xs k).2.1, .int .i64 (gO xs k).2.2.1, .slice (la1 (2 * k)) (gO xs k).2.2.2.1.length (lc1 (2 * k)), .int .i64 (gO xs k).2.2.2.2.1, .int .i64 (gO xs k).2.2.2.2.2.1, .slice (la1 (2 * k + 1)) (gO xs k).2.2.2.2.2.2.length (lc1 (2 * k + 1))] 57)).heap.size = w5.heap.size + 1 := by simp
        have hI7 := HI6.out.below HX2.out
        have W7 := HW6.out.push HX2.out hlt HGO.out (HOS.out _ _ _ hI7) (fun q hq hp => ⟨(HCO.out.ge q hq hp).1, HLT.out q hq hp⟩) HCO.out.ap (by have := hI7.sz; omega) hg6 (hat6.imp id (fun e => by rw [e]; simp)) hown6
        have I7 := hI7.kept (by have := HM3.out.bel.size; omega) hg6 (fun q e => ⟨HW6.out.ge e, fun e2 => HN6.out q e2 e⟩)
        have n2 : (Value.slice ra (wtS (ksp zl (gO xs)) (gO xs) k).2.length rc).ownBlock ≠ some w2.heap.size := fun e => by have := HW6.out.ge e; omega
        have x0 := hg6.cell (a := ⟨w2.heap.size, 0, none⟩) ((HX2.out.cell (p := ⟨w2.heap.size, 0, none⟩) (by show w2.heap.size < _; omega)).trans HP0.out) (fun e => n2 e.symm)
        have x1 := hg6.cell (a := ⟨w2.heap.size, 1, none⟩) ((HX2.out.cell (p := ⟨w2.heap.size, 1, none⟩) (by show w2.heap.size < _; omega)).trans p1) (fun e => n2 e.symm)
        have x2 : w6.frozen? ⟨w2.heap.size, 1, none⟩ = false := (World.frozen?_of_block (a := ⟨w2.heap.size, 1, none⟩) (hg6.block _ (by simp; omega) (fun e => n2 e.symm))).trans ((HX2.out.frozen (p := ⟨w2.heap.size, 1, none⟩) (by show w2.heap.size < _; omega)).trans p2)
        have HI8 := hide (I7.set (by omega) (by omega) 1 (.slice (some ⟨g2, 0, none⟩) ((wtS (ksp zl (gO xs)) (gO xs) k).2.length + 1) cp2))
        have HW8 := hide (W7.setC (P := w2.heap.size) (o := 1) (by omega) (.slice (some ⟨g2, 0, none⟩) ((wtS (ksp zl (gO xs)) (gO xs) k).2.length + 1) cp2))
        have HN8 : Hid (∀ b, (Value.slice (some ⟨g, 0, none⟩) (k + 1) cp).ownBlock = some b → (Value.slice (some ⟨g2, 0, none⟩) ((wtS (ksp zl (gO xs)) (gO xs) k).2.length + 1) cp2).ownBlock ≠ some b) := fun b e e2 => by
          have e1 : g = b := by simpa [Value.ownBlock] using e
          have e3 : g2 = b := by simpa [Value.ownBlock] using e2
          rcases hat6 with hat | hat
          · exact HN6.out b e (by rw [hat, e3])
          · omega
        have HX0 : Hid ((w6.setCell ⟨w2.heap.size, 1, none⟩ (.slice (some ⟨g2, 0, none⟩) ((wtS (ksp zl (gO xs)) (gO xs) k).2.length + 1) cp2)).cell? ⟨w2.heap.size, 0, none⟩ = some (.int .i64 0)) := (World.cell?_setCell_other _ _ _ _ (fun e => by injection e with _ e2; omega)).trans x0
        have HX1 : Hid ((w6.setCell ⟨w2.heap.size, 1, none⟩ (.slice (some ⟨g2, 0, none⟩) ((wtS (ksp zl (gO xs)) (gO xs) k).2.length + 1) cp2)).cell? ⟨w2.heap.size, 1, none⟩ = some (.slice (some ⟨g2, 0, none⟩) ((wtS (ksp zl (gO xs)) (gO xs) k).2.length + 1) cp2)) := World.cell?_setCell_same _ _ _ x1
        have HX9 : Hid ((w6.setCell ⟨w2.heap.size, 1, none⟩ (.slice (some ⟨g2, 0, none⟩) ((wtS (ksp zl (gO xs)) (gO xs) k).2.length + 1) cp2)).frozen? ⟨w2.heap.size, 1, none⟩ = false) := by show _ = _; simpa using x2
        clear I7 W7 hI7 n2 x0 hown6 hg6 hat6 hlt6 zx2 y0 y1 y2 y3 y4 y5 y6 p1 p2
        go_wp2
        go_roundw
        case rel => exact ⟨k + 1, _, _, _, by omega, rfl, by go_num, by rw [HE.out]; exact HI8.out, HW8.out, HN8.out, HX0.out, HX1.out, HX9.out⟩
        case measure => simp [intOf]; omega
      · have e3 : decide (0 < k) = true := decide_eq_true (by omega)
        obtain ⟨up0, upk⟩ := HQ.out.2.2.2 (by omega)
        obtain ⟨j, hj⟩ : ∃ j : Nat, (gO xs k).1 = (j : Int) := ⟨(gO xs k).1.toNat, by omega⟩
        have j0 : (0 : Int) ≤ (j : Int) := by omega
        have j1 : (j : Int) < (k : Int) := by omega
        have HUP : Hid (upW (gO xs) (wtS (ksp zl (gO xs)) (gO xs) k).1 k = gt (wtS (ksp zl (gO xs)) (gO xs) k).1 j) := by show _ = _; unfold upW; rw [if_neg (by omega), hj]; rfl
        have hpl := (HI.out.below HN1.out.bel).pl
        rw [Hlk.out.1] at hpl
        obtain ⟨pg, pc, rfl, hpB, hpl2⟩ := hpl.form (by omega)
        have l9 := Hlk.out.1
        have pcell := hpl.cellAt j (by omega)
        rw [List.getElem?_map, List.getElem?_eq_getElem (by omega : j < (wtS (ksp zl (gO xs)) (gO xs) k).1.length)] at pcell
        have pc2 : A.cell? ⟨pg, j, none⟩ = some (.int .i64 (gt (wtS (ksp zl (gO xs)) (gO xs) k).1 j)) := by rw [pcell]; simp [gt, List.getD_eq_getElem?_getD, List.getElem?_eq_getElem (by omega : j < (wtS (ksp zl (gO xs)) (gO xs) k).1.length)]
        have n0 := (HN1.out.get 0 rfl).cell 0 rfl
        rw [hj] at n0
        have n1 := (HN1.out.get 0 rfl).fz 0 (by simp)
        have HR := hide (wtS_rng (ksp zl (gO xs)) (gO xs) k j (by omega))
        have N2 := HN1.out.put 0 rfl 0 (by simp) (.int .i64 (gt (wtS (ksp zl (gO xs)) (gO xs) k).1 j)) (by omega) (by simp) (by simp <;> omega)
        simp only [List.set] at N2
        have HN2 := hide N2
        have m3 := (N2.get 0 rfl).cell 3 rfl
        clear N2 hpl pcell hpB l9
        have ol : wr.heap.size < (A.setCell ⟨wr.heap.size, 0, none⟩ (.int .i64 (gt (wtS (ksp zl (gO xs)) (gO xs) k).1 j))).heap.size := by simp; omega
        have HS2 := hide (HS1.out.below HN2.out.bel (Nat.le_refl _))
        have HL2 := hide (HSL1.out.below HN2.out.bel (Nat.le_refl _))
        have lb2 := (HI.out.below HN2.out.bel).far (w.heap.size + 1) (by omega) (by omega) (by omega)
        have lb3 := (World.cell?_of_block (a := ⟨w.heap.size + 1, 0, none⟩) lb2).trans ((HM3.out.get 3 rfl).cell 0 rfl)
        have lb4 : w.heap.size + 1 < (A.setCell ⟨wr.heap.size, 0, none⟩ (.int .i64 (gt (wtS (ksp zl (gO xs)) (gO xs) k).1 j))).heap.size := by simp; omega
        clear lb2
        go_wp2_with fail
        refine (l1BelowO_calls wr.heap.size 3 (w.heap.size + 1) 0 (la1 (2 * k)) la (lc1 (2 * k)) lc (gO xs k).2.2.2.1 zl _ ol lb4 (by rw [HQ.out.1] at m3; exact m3) lb3 (by have h9 := HS2.out; rw [HQ.out.1] at h9; exact h9) HL2.out).mono ?_
        rintro e w4 ⟨rfl, g4⟩
        have z4 := g4.size
        have HN4 := hide (HN2.out.below g4)
        have HI4 := hide (HI.out.below HN4.out.bel)
        have HW4 := hide (HW.out.below HN4.out.bel)
        have zz : wr.heap.size + 1 ≤ w4.heap.size := by simp only [World.size_setCell] at z4; omega
        clear g4 m3 lb3 HS2 HL2 ol lb4 n0 n1 pc2
        by_cases hb : belowB (gO xs k).2.2.2.1 zl = true
        rotate_left
        · replace hb : belowB (gO xs k).2.2.2.1 zl = false := by simpa using hb
          have HGO : Hid (wtGo (ksp zl (gO xs)) (gO xs) (wtS (ksp zl (gO xs)) (gO xs) k).1 k = true) := wtGo_self (by unfold ksp; rw [hb]; rfl)
          rw [hb]
          go_upto_region 17 with fail
          have HX : Hid (Below w4.heap.size w4 (w4.alloc (.cells #[.int .i64 (-1)] 2))) := (Below.refl _ _).alloc (Nat.le_refl _) _
          have HI5 := hide (HI4.out.below HX.out)
          have HOW := hide HI5.out.pl
          rw [Hlk.out.1] at HOW
          have zX : (w4.alloc (.cells #[.int .i64 (-1)] 2)).heap.size = w4.heap.size + 1 := by simp
          clear zX
          go_wp2_with (first
            | (at_builtin; go_loud (refine wpList_append_lies _ rfl _ _ 25 rfl (w2.heap.size + 1) 2 j0i (.int .i64 0) 1 8 Try.underlying25 hji hy0 hy1 hy2 rfl (by decide) (Value.slice (some ⟨pg, 0, none⟩) k pc) _ _ rfl HOW.out ⟨w4.heap.size, 0, none⟩ 1 1 [.int .i64 (-1)] rfl rfl (one_new (by go_simp)) (by simp [Value.oneCell']) (by omega) (by unfold maxLen; omega) (by omega) (by simp; omega) (w4.heap.size + 1) (by simp) ?_))
            | go_in)
          intro g cp w5 hown5 hg5 hat5 hlt5
          have I6 := HI5.out.push (by omega) hg5 (hat5.imp id (fun e => by rw [e]; simp)) (by rw [Hlk.out.1]; exact hown5)
          rw [Hlk.out.1] at I6
          have hWk := (HW4.out.below HX.out)
          have hv2 : ∀ q, (Value.slice ra (wtS (ksp zl (gO xs)) (gO xs) k).2.length rc).ownBlock = some q → q < w4.heap.size := fun q e => HW4.out.lt e
          have W6 := (hWk.kept hg5 (by
            cases hv : (Value.slice ra (wtS (ksp zl (gO xs)) (gO xs) k).2.length rc).ownBlock with
            | none => exact .inl rfl
            | some q => exact .inr (fun e => Hne.out q e.symm hv)) (fun r hr hp e => by
              have h1 := HI.out.hp _ e
              have h2 := HCO.out.ge r (by omega) hp
              have h3 := HLT.out r (by omega) hp
              omega)).skip HGO.out
          have hp0 : ∀ q, (Value.slice (some ⟨pg, 0, none⟩) k pc).ownBlock = some q → q ≠ w2.heap.size := fun q e => by have := (HI4.out.pl.lt q e).1; omega
          have p0 := hg5.cell (a := ⟨w2.heap.size, 0, none⟩) ((HN4.out.bel.trans (HX.out.mono HN4.out.bel.size)).cell (p := ⟨w2.heap.size, 0, none⟩) (by show w2.heap.size < _; omega) |>.trans o0) (fun e => hp0 _ e.symm rfl)
          have p1 := hg5.cell (a := ⟨w2.heap.size, 1, none⟩) ((HN4.out.bel.trans (HX.out.mono HN4.out.bel.size)).cell (p := ⟨w2.heap.size, 1, none⟩) (by show w2.heap.size < _; omega) |>.trans o1) (fun e => hp0 _ e.symm rfl)
          have p2 : w5.frozen? ⟨w2.heap.size, 1, none⟩ = false := (World.frozen?_of_block (a := ⟨w2.heap.size, 1, none⟩) (hg5.block _ (by simp; omega) (fun e => hp0 _ e.symm rfl))).trans (((HN4.out.bel.trans (HX.out.mono HN4.out.bel.size)).frozen (p := ⟨w2.heap.size, 1, none⟩) (by show w2.heap.size < _; omega)).trans f1)
          have ne6 : ∀ b, (Value.slice (some ⟨g, 0, none⟩) (k + 1) cp).ownBlock = some b → (Value.slice ra (wtS (ksp zl (gO xs)) (gO xs) k).2.length rc).ownBlock ≠ some b := fun b e e2 => by
            have e1 : g = b := by simpa [Value.ownBlock] using e
            rcases hat5 with hat | hat
            · exact Hne.out b (by rw [hat, e1]) e2
            · have := hv2 b e2; omega
          have HE := hide (wtS_go HGO.out)
          have HI6 := hide I6
          have HW6 := hide W6
          have HP0 := hide p0
          have HP1 := hide p1
          have HP2 := hide p2
          have HN6 := hide ne6
          clear I6 W6 p0 p1 p2 ne6 hp0 hv2 hWk hown5 hg5 hat5 hlt5
          go_wp2
          go_roundw
          case rel => exact ⟨k + 1, _, _, _, by omega, rfl, by go_num, by rw [HE.out]; exact HI6.out, HW6.out, HN6.out, HP0.out, HP1.out, HP2.out⟩
          case measure => simp [intOf]; omega
        by_cases hneg : (gt (wtS (ksp zl (gO xs)) (gO xs) k).1 j) < 0
        · have HGO : Hid (wtGo (ksp zl (gO xs)) (gO xs) (wtS (ksp zl (gO xs)) (gO xs) k).1 k = true) := wtGo_box (by omega) HUP.out hneg
          rw [hb]
          have u0 := (HN4.out.get 0 rfl).cell 0 rfl
          have e5 : decide ((gt (wtS (ksp zl (gO xs)) (gO xs) k).1 j) < 0) = true := decide_eq_true hneg
          go_upto_region 17 with fail
          have HX : Hid (Below w4.heap.size w4 (w4.alloc (.cells #[.int .i64 (-1)] 2))) := (Below.refl _ _).alloc (Nat.le_refl _) _
          have HI5 := hide (HI4.out.below HX.out)
          have HOW := hide HI5.out.pl
          rw [Hlk.out.1] at HOW
          have zX : (w4.alloc (.cells #[.int .i64 (-1)] 2)).heap.size = w4.heap.size + 1 := by simp
          clear zX
          go_wp2_with (first
            | (at_builtin; go_loud (refine wpList_append_lies _ rfl _ _ 25 rfl (w2.heap.size + 1) 2 j0i (.int .i64 0) 1 8 Try.underlying25 hji hy0 hy1 hy2 rfl (by decide) (Value.slice (some ⟨pg, 0, none⟩) k pc) _ _ rfl HOW.out ⟨w4.heap.size, 0, none⟩ 1 1 [.int .i64 (-1)] rfl rfl (one_new (by go_simp)) (by simp [Value.oneCell']) (by omega) (by unfold maxLen; omega) (by omega) (by simp; omega) (w4.heap.size + 1) (by simp) ?_))
            | go_in)
          intro g cp w5 hown5 hg5 hat5 hlt5
          have I6 := HI5.out.push (by omega) hg5 (hat5.imp id (fun e => by rw [e]; simp)) (by rw [Hlk.out.1]; exact hown5)
          rw [Hlk.out.1] at I6
          have hWk := (HW4.out.below HX.out)
          have hv2 : ∀ q, (Value.slice ra (wtS (ksp zl (gO xs)) (gO xs) k).2.length rc).ownBlock = some q → q < w4.heap.size := fun q e => HW4.out.lt e
          have W6 := (hWk.kept hg5 (by
            cases hv : (Value.slice ra (wtS (ksp zl (gO xs)) (gO xs) k).2.length rc).ownBlock with
            | none => exact .inl rfl
            | some q => exact .inr (fun e => Hne.out q e.symm hv)) (fun r hr hp e => by
              have h1 := HI.out.hp _ e
              have h2 := HCO.out.ge r (by omega) hp
              have h3 := HLT.out r (by omega) hp
              omega)).skip HGO.out
          have hp0 : ∀ q, (Value.slice (some ⟨pg, 0, none⟩) k pc).ownBlock = some q → q ≠ w2.heap.size := fun q e => by have := (HI4.out.pl.lt q e).1; omega
          have p0 := hg5.cell (a := ⟨w2.heap.size, 0, none⟩) ((HN4.out.bel.trans (HX.out.mono HN4.out.bel.size)).cell (p := ⟨w2.heap.size, 0, none⟩) (by show w2.heap.size < _; omega) |>.trans o0) (fun e => hp0 _ e.symm rfl)
          have p1 := hg5.cell (a := ⟨w2.heap.size, 1, none⟩) ((HN4.out.bel.trans (HX.out.mono HN4.out.bel.size)).cell (p := ⟨w2.heap.size, 1, none⟩) (by show w2.heap.size < _; omega) |>.trans o1) (fun e => hp0 _ e.symm rfl)
          have p2 : w5.frozen? ⟨w2.heap.size, 1, none⟩ = false := (World.frozen?_of_block (a := ⟨w2.heap.size, 1, none⟩) (hg5.block _ (by simp; omega) (fun e => hp0 _ e.symm rfl))).trans (((HN4.out.bel.trans (HX.out.mono HN4.out.bel.size)).frozen (p := ⟨w2.heap.size, 1, none⟩) (by show w2.heap.size < _; omega)).trans f1)
          have ne6 : ∀ b, (Value.slice (some ⟨g, 0, none⟩) (k + 1) cp).ownBlock = some b → (Value.slice ra (wtS (ksp zl (gO xs)) (gO xs) k).2.length rc).ownBlock ≠ some b := fun b e e2 => by
            have e1 : g = b := by simpa [Value.ownBlock] using e
            rcases hat5 with hat | hat
            · exact Hne.out b (by rw [hat, e1]) e2
            · have := hv2 b e2; omega
          have HE := hide (wtS_go HGO.out)
          have HI6 := hide I6
          have HW6 := hide W6
          have HP0 := hide p0
          have HP1 := hide p1
          have HP2 := hide p2
          have HN6 := hide ne6
          clear I6 W6 p0 p1 p2 ne6 hp0 hv2 hWk hown5 hg5 hat5 hlt5
          go_wp2
          go_roundw
          case rel => exact ⟨k + 1, _, _, _, by omega, rfl, by go_num, by rw [HE.out]; exact HI6.out, HW6.out, HN6.out, HP0.out, HP1.out, HP2.out⟩
          case measure => simp [intOf]; omega
        · have HGO : Hid (wtGo (ksp zl (gO xs)) (gO xs) (wtS (ksp zl (gO xs)) (gO xs) k).1 k = false) := wtGo_no (by unfold ksp; rw [hb]; rfl) HUP.out (fun _ => hneg)
          rw [hb]
          have u0 := (HN4.out.get 0 rfl).cell 0 rfl
          have e5 : decide ((gt (wtS (ksp zl (gO xs)) (gO xs) k).1 j) < 0) = false := decide_eq_false hneg
          have t1 := (HN4.out.bel.cell (p := ⟨w2.heap.size, 1, none⟩) (by show w2.heap.size < _; omega)).trans o1
          have l8 := Hlk.out.2
          go_upto_region 18 with fail
          have HX : Hid (Below w4.heap.size w4 (w4.alloc (.cells #[.int .i64 ((wtS (ksp zl (gO xs)) (gO xs) k).2.length : Int)] 2))) := (Below.refl _ _).alloc (Nat.le_refl _) _
          have HI5 := hide (HI4.out.below HX.out)
          have HOW := hide HI5.out.pl
          rw [Hlk.out.1] at HOW
          go_wp2_with (first
            | (at_builtin; go_loud (refine wpList_append_lies _ rfl _ _ 25 rfl (w2.heap.size + 1) 2 j0i (.int .i64 0) 1 8 Try.underlying25 hji hy0 hy1 hy2 rfl (by decide) (Value.slice (some ⟨pg, 0, none⟩) k pc) _ _ rfl HOW.out ⟨w4.heap.size, 0, none⟩ 1 1 [.int .i64 ((wtS (ksp zl (gO xs)) (gO xs) k).2.length : Int)] rfl rfl (one_new (by go_simp)) (by simp [Value.oneCell']) (by omega) (by unfold maxLen; omega) (by omega) (by simp; omega) (w4.heap.size + 1) (by simp) ?_))
            | go_in)
          intro g cp w5 hown5 hg5 hat5 hlt5
          have I6 := HI5.out.push (by omega) hg5 (hat5.imp id (fun e => by rw [e]; simp)) (by rw [Hlk.out.1]; exact hown5)
          rw [Hlk.out.1] at I6
          have hWk := (HW4.out.below HX.out)
          have hv2 : ∀ q, (Value.slice ra (wtS (ksp zl (gO xs)) (gO xs) k).2.length rc).ownBlock = some q → q < w4.heap.size := fun q e => HW4.out.lt e
          have W6 := (hWk.kept hg5 (by
            cases hv : (Value.slice ra (wtS (ksp zl (gO xs)) (gO xs) k).2.length rc).ownBlock with
            | none => exact .inl rfl
            | some q => exact .inr (fun e => Hne.out q e.symm hv)) (fun r hr hp e => by
              have h1 := HI.out.hp _ e
              have h2 := HCO.out.ge r (by omega) hp
              have h3 := HLT.out r (by omega) hp
              omega))
          have hp0 : ∀ q, (Value.slice (some ⟨pg, 0, none⟩) k pc).ownBlock = some q → q ≠ w2.heap.size := fun q e => by have := (HI4.out.pl.lt q e).1; omega
          have hp9 : ∀ q, (Value.slice (some ⟨pg, 0, none⟩) k pc).ownBlock = some q → q ≠ wr.heap.size := fun q e => by have := (HI.out.pl.lt q e).2; omega
          have p0 := hg5.cell (a := ⟨w2.heap.size, 0, none⟩) ((HN4.out.bel.trans (HX.out.mono HN4.out.bel.size)).cell (p := ⟨w2.heap.size, 0, none⟩) (by show w2.heap.size < _; omega) |>.trans o0) (fun e => hp0 _ e.symm rfl)
          have p1 := hg5.cell (a := ⟨w2.heap.size, 1, none⟩) ((HN4.out.bel.trans (HX.out.mono HN4.out.bel.size)).cell (p := ⟨w2.heap.size, 1, none⟩) (by show w2.heap.size < _; omega) |>.trans o1) (fun e => hp0 _ e.symm rfl)
          have p2 : w5.frozen? ⟨w2.heap.size, 1, none⟩ = false := (World.frozen?_of_block (a := ⟨w2.heap.size, 1, none⟩) (hg5.block _ (by simp; omega) (fun e => hp0 _ e.symm rfl))).trans (((HN4.out.bel.trans (HX.out.mono HN4.out.bel.size)).frozen (p := ⟨w2.heap.size, 1, none⟩) (by show w2.heap.size < _; omega)).trans f1)
          have EB : w5.heap[wr.heap.size]? = w4.heap[wr.heap.size]? := (hg5.block _ (by simp; omega) (fun e => hp9 _ e.symm rfl)).trans (HX.out.block _ (by omega))
          have y0 := (World.cell?_of_block (a := ⟨wr.heap.size, 0, none⟩) EB).trans ((HN4.out.get 0 rfl).cell 0 rfl)
          have y1 := (World.cell?_of_block (a := ⟨wr.heap.size, 1, none⟩) EB).trans ((HN4.out.get 0 rfl).cell 1 rfl)
          have y2 := (World.cell?_of_block (a := ⟨wr.heap.size, 2, none⟩) EB).trans ((HN4.out.get 0 rfl).cell 2 rfl)
          have y3 := (World.cell?_of_block (a := ⟨wr.heap.size, 3, none⟩) EB).trans ((HN4.out.get 0 rfl).cell 3 rfl)
          have y4 := (World.cell?_of_block (a := ⟨wr.heap.size, 4, none⟩) EB).trans ((HN4.out.get 0 rfl).cell 4 rfl)
          have y5 := (World.cell?_of_block (a := ⟨wr.heap.size, 5, none⟩) EB).trans ((HN4.out.get 0 rfl).cell 5 rfl)
          have y6 := (World.cell?_of_block (a := ⟨wr.heap.size, 6, none⟩) EB).trans ((HN4.out.get 0 rfl).cell 6 rfl)
          have ne6 : ∀ b, (Value.slice (some ⟨g, 0, none⟩) (k + 1) cp).ownBlock = some b → (Value.slice ra (wtS (ksp zl (gO xs)) (gO xs) k).2.length rc).ownBlock ≠ some b := fun b e e2 => by
            have e1 : g = b := by simpa [Value.ownBlock] using e
            rcases hat5 with hat | hat
            · exact Hne.out b (by rw [hat, e1]) e2
            · have := hv2 b e2; omega
          have HE := hide (wtS_stay HGO.out)
          have HI6 := hide I6
          have HW6 := hide W6
          have HP0 := hide p0
          have HN6 := hide ne6
          have zw5 := hg5.size
          have zw6 : w4.heap.size + 1 ≤ w5.heap.size := by simpa using zw5
          clear I6 W6 p0 ne6 hp0 hp9 hv2 hWk hown5 hg5 hat5 EB t1 zw5
          go_upto_region 19 with fail
          have HX2 : Hid (Below w5.heap.size w5 (w5.alloc (.cells #[.int .i64 (gt (wtS (ksp zl (gO xs)) (gO xs) k).1 j), .int .i64 (gO xs k).2.1, .int .i64 (gO xs k).2.2.1, .slice (la1 (2 * k)) (gO xs k).2.2.2.1.length (lc1 (2 * k)), .int .i64 (gO xs k).2.2.2.2.1, .int .i64 (gO xs k).2.2.2.2.2.1, .slice (la1 (2 * k + 1)) (gO xs k).2.2.2.2.2.2.length (lc1 (2 * k + 1))] 57))) := (Below.refl _ _).alloc (Nat.le_refl _) _
          have HOW2 := hide (HW6.out.below HX2.out).own
          have HNW : Hid (∀ q y, (v7 ((gt (wtS (ksp zl (gO xs)) (gO xs) k).1 j), (gO xs k).2) (la1 (2 * k)) (lc1 (2 * k)) (la1 (2 * k + 1)) (lc1 (2 * k + 1)))[q]? = some y → (w5.alloc (.cells #[.int .i64 (gt (wtS (ksp zl (gO xs)) (gO xs) k).1 j), .int .i64 (gO xs k).2.1, .int .i64 (gO xs k).2.2.1, .slice (la1 (2 * k)) (gO xs k).2.2.2.1.length (lc1 (2 * k)), .int .i64 (gO xs k).2.2.2.2.1, .int .i64 (gO xs k).2.2.2.2.2.1, .slice (la1 (2 * k + 1)) (gO xs k).2.2.2.2.2.2.length (lc1 (2 * k + 1))] 57)).cell? ((Addr.mk w5.heap.size 0 none).add q) = some y) := World.news_of_block (t := 57) (fr := (0, 0)) (heap_alloc_new w5 _)
          go_wp2_with (first
            | (at_builtin; go_loud (refine wpList_append_lies _ rfl _ _ 30 rfl (u.heap.size + 3) 57 i0 (.agg #[.int .i64 0, .int .i64 0, .int .i64 0, .slice none 0 0, .int .i64 0, .int .i64 0, .slice none 0 0]) 7 88 Try.underlying30 hi hz0 hz1 hz2 rfl (by decide) (Value.slice ra (wtS (ksp zl (gO xs)) (gO xs) k).2.length rc) _ _ rfl HOW2.out ⟨w5.heap.size, 0, none⟩ 1 1 (v7 ((gt (wtS (ksp zl (gO xs)) (gO xs) k).1 j), (gO xs k).2) (la1 (2 * k)) (lc1 (2 * k)) (la1 (2 * k + 1)) (lc1 (2 * k + 1))) rfl rfl HNW.out (v7_one _ _ _ _ _) (by omega) (by unfold maxLen; omega) (by omega) (by simp; omega) (w5.heap.size + 1) (by simp) ?_))
            | go_in)
          intro g2 cp2 w6 hown6 hg6 hat6 hlt6
          rw [← HUP.out, ← zu] at hown6
          have zx2 : (w5.alloc (.cells #[.int .i64 (gt (wtS (ksp zl (gO xs)) (gO xs) k).1 j), .int .i64 (gO xs k).2.1, .int .i64 (gO xs k).2.2.1, .slice (la1 (2 * k)) (gO xs k).2.2.2.1.length (lc1 (2 * k)), .int .i64 (gO xs k).2.2.2.2.1, .int .i64 (gO xs k).2.2.2.2.2.1, .slice (la1 (2 * k + 1)) (gO xs k).2.2.2.2.2.2.length (lc1 (2 * k + 1))] 57)).heap.size = w5.heap.size + 1 := by simp
          have hI7 := HI6.out.below HX2.out
          have W7 := HW6.out.push HX2.out hlt HGO.out (HOS.out _ _ _ hI7) (fun q hq hp => ⟨(HCO.out.ge q hq hp).1, HLT.out q hq hp⟩) HCO.out.ap (by have := hI7.sz; omega) hg6 (hat6.imp id (fun e => by rw [e]; simp)) hown6
          have I7 := hI7.kept (by have := HM3.out.bel.size; omega) hg6 (fun q e => ⟨HW6.out.ge e, fun e2 => HN6.out q e2 e⟩)
          have n2 : (Value.slice ra (wtS (ksp zl (gO xs)) (gO xs) k).2.length rc).ownBlock ≠ some w2.heap.size := fun e => by have := HW6.out.ge e; omega
          have x0 := hg6.cell (a := ⟨w2.heap.size, 0, none⟩) ((HX2.out.cell (p := ⟨w2.heap.size, 0, none⟩) (by show w2.heap.size < _; omega)).trans HP0.out) (fun e => n2 e.symm)
          have x1 := hg6.cell (a := ⟨w2.heap.size, 1, none⟩) ((HX2.out.cell (p := ⟨w2.heap.size, 1, none⟩) (by show w2.heap.size < _; omega)).trans p1) (fun e => n2 e.symm)
          have x2 : w6.frozen? ⟨w2.heap.size, 1, none⟩ = false := (World.frozen?_of_block (a := ⟨w2.heap.size, 1, none⟩) (hg6.block _ (by simp; omega) (fun e => n2 e.symm))).trans ((HX2.out.frozen (p := ⟨w2.heap.size, 1, none⟩) (by show w2.heap.size < _; omega)).trans p2)
          have HI8 := hide (I7.set (by omega) (by omega) 1 (.slice (some ⟨g2, 0, none⟩) ((wtS (ksp zl (gO xs)) (gO xs) k).2.length + 1) cp2))
          have HW8 := hide (W7.setC (P := w2.heap.size) (o := 1) (by omega) (.slice (some ⟨g2, 0, none⟩) ((wtS (ksp zl (gO xs)) (gO xs) k).2.length + 1) cp2))
          have HN8 : Hid (∀ b, (Value.slice (some ⟨g, 0, none⟩) (k + 1) cp).ownBlock = some b → (Value.slice (some ⟨g2, 0, none⟩) ((wtS (ksp zl (gO xs)) (gO xs) k).2.length + 1) cp2).ownBlock ≠ some b) := fun b e e2 => by
            have e1 : g = b := by simpa [Value.ownBlock] using e
            have e3 : g2 = b := by simpa [Value.ownBlock] using e2
            rcases hat6 with hat | hat
            · exact HN6.out b e (by rw [hat, e3])
            · omega
          have HX0 : Hid ((w6.setCell ⟨w2.heap.size, 1, none⟩ (.slice (some ⟨g2, 0, none⟩) ((wtS (ksp zl (gO xs)) (gO xs) k).2.length + 1) cp2)).cell? ⟨w2.heap.size, 0, none⟩ = some (.int .i64 0)) := (World.cell?_setCell_other _ _ _ _ (fun e => by injection e with _ e2; omega)).trans x0
          have HX1 : Hid ((w6.setCell ⟨w2.heap.size, 1, none⟩ (.slice (some ⟨g2, 0, none⟩) ((wtS (ksp zl (gO xs)) (gO xs) k).2.length + 1) cp2)).cell? ⟨w2.heap.size, 1, none⟩ = some (.slice (some ⟨g2, 0, none⟩) ((wtS (ksp zl (gO xs)) (gO xs) k).2.length + 1) cp2)) := World.cell?_setCell_same _ _ _ x1
          have HX9 : Hid ((w6.setCell ⟨w2.heap.size, 1, none⟩ (.slice (some ⟨g2, 0, none⟩) ((wtS (ksp zl (gO xs)) (gO xs) k).2.length + 1) cp2)).frozen? ⟨w2.heap.size, 1, none⟩ = false) := by show _ = _; simpa using x2
          clear I7 W7 hI7 n2 x0 hown6 hg6 hat6 hlt6 zx2 y0 y1 y2 y3 y4 y5 y6 p1 p2
          go_wp2
          go_roundw
          case rel => exact ⟨k + 1, _, _, _, by omega, rfl, by go_num, by rw [HE.out]; exact HI8.out, HW8.out, HN8.out, HX0.out, HX1.out, HX9.out⟩
          case measure => simp [intOf]; omega
    · obtain rfl : k = n := by omega
      have hsz : (wtS (ksp zl (gO xs)) (gO xs) k).2.length + lenO (wtS (ksp zl (gO xs)) (gO xs) k).2 ≤ 1048576 := by
        have h1 := wtS_sz (ksp zl (gO xs)) (gO xs) 204 k (fun j hj => by have := HAT.out j hj; omega)
        have h2 := Hlk.out.2
        omega
      obtain ⟨ra2, rc2, e9, oo⟩ := HW.out.oo hsz
      cases e9
      have rf : wr.heap[w.heap.size + 1 + 1]? = U.heap[w.heap.size + 1 + 1]? := HI.out.far (w.heap.size + 1 + 1) (by omega) (by omega) (by omega)
      have r0 := (World.cell?_of_block (a := ⟨w.heap.size + 1 + 1, 0, none⟩) rf).trans ((HM3.out.get 2 rfl).cell 0 rfl)
      have r1 := (World.cell?_of_block (a := ⟨w.heap.size + 1 + 1, 1, none⟩) rf).trans ((HM3.out.get 2 rfl).cell 1 rfl)
      have t0 := (World.frozen?_of_block (a := ⟨w.heap.size + 1 + 1, 0, none⟩) rf).trans ((HM3.out.get 2 rfl).fz 0 (by simp))
      have t1 := (World.frozen?_of_block (a := ⟨w.heap.size + 1 + 1, 1, none⟩) rf).trans ((HM3.out.get 2 rfl).fz 1 (by simp))
      have HOO := hide oo
      have HB := hide HI.out.bel
      clear oo rf hI hW hne far
      go_wp2
      refine bodyPost_ret (v := .agg #[.int .i64 0, .slice ra (wtS (ksp zl (gO xs)) (gO xs) k).2.length rc]) (by simp [results, Try.results7, go_sem, r0, r1]) rfl ⟨ra, _, rc, by rw [HC.out], ?_, (HB.out.setCell (by simp; omega) _).setCell (by simp; omega) _⟩
      rw [HV.out]
      exact (OO.loc.setC (OO.loc.setC HOO.out (fun h => by have := h.1; simp at this; omega) _) (fun h => by have := h.1; simp at this; omega) _).mono (fun q e => ⟨by have := e.1; omega, by have := e.2; simp; omega⟩)

end Go.Proofs.Ytipfaoecodclaaa
