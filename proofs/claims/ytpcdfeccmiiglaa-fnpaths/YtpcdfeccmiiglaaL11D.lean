import Derived.Test.YtpcdfeccmiiglaaL11Q
import Derived.Test.YtpcdfeccmiiglaaL3Th
import Derived.Test.YtpcdfeccmiiglaaNkD
import Derived.Test.YtpcdfeccmiiglaaKfT
import Derived.Test.YtpcdfeccmiiglaaApp
import Derived.Test.YtpcdfeccmiiglaaKgK
import Derived.Deep.AppendLies
import Derived.WalkKit
import Derived.ProofKit
import Derived.OpenShut
import Derived.ShutString
import Derived.ChangeOld
import Derived.Below
import Derived.WalkSpells
import Derived.Deep.QuietTactic
import Derived.BigQuiet
import Derived.Deep.RegionWith
import Derived.Deep.WholeRow
import Derived.Deep.DeepCutAuto
import Derived.Deep.RegionHeld2
import Derived.Deep.AppendLies
import Derived.Deep.RegionLaw
namespace Go.Proofs.Ytpcdfeccmiiglaa
open Go.ChangeShapes Go.WideShapes Go.ChangeAt Go.RowKit

set_option maxRecDepth 100000 in
theorem l1Min_calls (x y : Int) (w : World) : Calls Try.prog 92 #[.int .i64 x, .int .i64 y] w fun e w' => e = .returned (.int .i64 (min x y)) ∧ w' = w := by
  by_cases h : x < y
  · go_enter Try.func92, Try.ntmps92
    go_wp2
    go_ret
    exact ⟨ret_int (by omega), rfl⟩
  · go_enter Try.func92, Try.ntmps92
    go_wp2
    go_ret
    exact ⟨ret_int (by omega), rfl⟩

/-- a cell that is none of the bundle's, nor older, is written. -/
theorem Mo.off {p : Nat} {w u : World} {cs : List (Nat × Nat × Value)} {fs : List (Nat × Nat × (World → Prop))} (h : Mo p w u cs fs) {P o : Nat} (hb : w.heap.size ≤ P) (hc : ∀ c ∈ cs, c.1 ≠ P) (hf : ∀ f ∈ fs, P < f.1 ∨ f.2.1 ≤ P) (v : Value) : Mo p w (u.setCell ⟨P, o, none⟩ v) cs fs := by
  refine ⟨h.out.setNew hb v, fun c k => ?_, fun f k => ?_⟩
  · obtain ⟨h1, h2, h3, h4⟩ := h.cells c k
    refine ⟨h1, by simpa using h2, ?_, by simpa using h4⟩
    rw [World.cell?_setCell_other _ _ _ _ (fun e => by injection e with e1 e2; exact hc c k e1.symm)]
    exact h3
  · obtain ⟨h1, h2, h3⟩ := h.facts f k
    refine ⟨h1, h2, h2.setC h3 (fun e => ?_) v⟩
    have a1 := e.1
    have a2 := e.2
    have := hf f k
    simp only at a1 a2
    omega

/-- an object drawn, in a box O of its own; its label in another block. -/
structure OBJ (p : Nat) (wb : World) (O : Nat) (x1 x2 : Int) (ra : Option Addr) (rc : Nat) (zs : List Int) (qu : Int) (wd : World) : Prop where
  lo : wb.heap.size ≤ O
  hi : O < wd.heap.size
  c : Cs O [.int .i64 x1, .int .i64 x2, .int .i64 2, .slice ra 4 rc, .int .i64 qu, .int .i64 0, .slice none 0 0] wd
  l : OS (fun b => wb.heap.size ≤ b ∧ b < wd.heap.size ∧ b ≠ O) ra 4 zs wd
  o : Outside p (p + 1) wb wd

theorem OBJ.drew {p : Nat} {wb : World} {O : Nat} {x1 x2 : Int} {ra : Option Addr} {rc : Nat} {zs : List Int} {qu : Int} {wd : World} (h : OBJ p wb O x1 x2 ra rc zs qu wd) : OBJ p wb O x1 x2 ra rc zs qu wd.drew :=
  ⟨h.lo, h.hi, h.c, h.l, h.o.drew⟩

theorem objA {p : Nat} {wb wc : World} {x1 x2 : Int} {ra : Option Addr} {rc B1 : Nat} {zs : List Int} {qu : Int} (ho : Outside p (p + 1) wb wc) (hl : OSl wc B1 wc.heap.size ra 4 zs) (hB : wb.heap.size ≤ B1) : OBJ p wb wc.heap.size x1 x2 ra rc zs qu (wc.alloc (.cells #[.int .i64 x1, .int .i64 x2, .int .i64 2, .slice ra 4 rc, .int .i64 qu, .int .i64 0, .slice none 0 0] 71)) := by
  refine ⟨ho.size, by simp, Cs.alloc _ _ _, ?_, ho.trans (Outside.alloc _ _ _ _)⟩
  exact (OS.loc.below ((Below.refl _ _).alloc (Nat.le_refl _) _) (OS.ofOSl hl)).mono (fun b hb => ⟨by have := hb.1; omega, by have := hb.2; simp; omega, by have := hb.2; omega⟩)

theorem objZ {p : Nat} {wb wc : World} (oc : Outside p (p + 1) (wb.alloc (.cells #[.int .i64 0, .int .i64 0, .int .i64 0, .slice none 0 0, .int .i64 0, .int .i64 0, .slice none 0 0] 71)).drew wc) (hp : p < wb.heap.size) : Cs wb.heap.size [.int .i64 0, .int .i64 0, .int .i64 0, .slice none 0 0, .int .i64 0, .int .i64 0, .slice none 0 0] wc := by
  have h0 : Cs wb.heap.size [.int .i64 0, .int .i64 0, .int .i64 0, .slice none 0 0, .int .i64 0, .int .i64 0, .slice none 0 0] (wb.alloc (.cells #[.int .i64 0, .int .i64 0, .int .i64 0, .slice none 0 0, .int .i64 0, .int .i64 0, .slice none 0 0] 71)).drew := Cs.alloc wb [.int .i64 0, .int .i64 0, .int .i64 0, .slice none 0 0, .int .i64 0, .int .i64 0, .slice none 0 0] 71
  exact Cs.loc _ _ (fun k hk hl => oc.block k hl (.inr (by have := hk.1; omega))) h0

theorem objB {p : Nat} {wb wc : World} {x1 x2 : Int} {ra : Option Addr} {rc B1 : Nat} {zs : List Int} {qu : Int} (ho : Outside p (p + 1) wb wc) (hl : OSl wc B1 wc.heap.size ra 4 zs) (hB : wb.heap.size + 1 ≤ B1) (hz : Cs wb.heap.size [.int .i64 0, .int .i64 0, .int .i64 0, .slice none 0 0, .int .i64 0, .int .i64 0, .slice none 0 0] wc) :
    OBJ p wb wb.heap.size x1 x2 ra rc zs qu (((((((wc.setCell ⟨wb.heap.size, 0, none⟩ (.int .i64 x1)).setCell ⟨wb.heap.size, 1, none⟩ (.int .i64 x2)).setCell ⟨wb.heap.size, 2, none⟩ (.int .i64 2)).setCell ⟨wb.heap.size, 3, none⟩ (.slice ra 4 rc)).setCell ⟨wb.heap.size, 4, none⟩ (.int .i64 qu)).setCell ⟨wb.heap.size, 5, none⟩ (.int .i64 0)).setCell ⟨wb.heap.size, 6, none⟩ (.slice none 0 0)) := by
  have h7 := ((((((hz.set 0 (by simp) (.int .i64 x1)).set 1 (by simp) (.int .i64 x2)).set 2 (by simp) (.int .i64 2)).set 3 (by simp) (.slice ra 4 rc)).set 4 (by simp) (.int .i64 qu)).set 5 (by simp) (.int .i64 0)).set 6 (by simp) (.slice none 0 0)
  refine ⟨Nat.le_refl _, by simpa using hz.1, h7, ?_, ((((((ho.setNew (Nat.le_refl _) _).setNew (Nat.le_refl _) _).setNew (Nat.le_refl _) _).setNew (Nat.le_refl _) _).setNew (Nat.le_refl _) _).setNew (Nat.le_refl _) _).setNew (Nat.le_refl _) _⟩
  have hl2 : OS (InR B1 wc.heap.size) ra 4 zs wc := OS.ofOSl hl
  have hne : ¬ InR B1 wc.heap.size wb.heap.size := fun e => by have := e.1; omega
  exact (OS.loc.setC (OS.loc.setC (OS.loc.setC (OS.loc.setC (OS.loc.setC (OS.loc.setC (OS.loc.setC hl2 hne _) hne _) hne _) hne _) hne _) hne _) hne _).mono (fun b hb => ⟨by have := hb.1; omega, by have := hb.2; simp; omega, by have := hb.1; omega⟩)

theorem objS1 {p len cap t : Nat} {a : Option Addr} {wc : World} {o : Obj} (h : Src wc p a len cap t) : Src (wc.alloc o) p a len cap t := h.below ((Below.refl _ _).alloc (Nat.le_refl _) o)
theorem objS2 {p len cap t B : Nat} {a : Option Addr} {wc : World} {v0 v1 v2 v3 v4 v5 v6 : Value} (h : Src wc p a len cap t) (hB : p < B) : Src (((((((wc.setCell ⟨B, 0, none⟩ v0).setCell ⟨B, 1, none⟩ v1).setCell ⟨B, 2, none⟩ v2).setCell ⟨B, 3, none⟩ v3).setCell ⟨B, 4, none⟩ v4).setCell ⟨B, 5, none⟩ v5).setCell ⟨B, 6, none⟩ v6) p a len cap t :=
  ((((((h.setCell (by exact hB) _).setCell (by exact hB) _).setCell (by exact hB) _).setCell (by exact hB) _).setCell (by exact hB) _).setCell (by exact hB) _).setCell (by exact hB) _

theorem v7_next (x : OB) (la : Option Addr) (lc : Nat) (da : Option Addr) (dc : Nat) : ∀ k v, (v7 (nxO x) la lc da dc)[k]? = some v → (if k = 5 then some (.int .i64 (x.2.2.2.2.2.1 + 1)) else (v7 x la lc da dc)[k]?) = some v := by
  intro k v hv
  have hk : k < 7 := by have := (List.getElem?_eq_some_iff.1 hv).1; simpa [v7] using this
  rcases (by omega : k = 0 ∨ k = 1 ∨ k = 2 ∨ k = 3 ∨ k = 4 ∨ k = 5 ∨ k = 6) with rfl | rfl | rfl | rfl | rfl | rfl | rfl <;> exact hv

/-- what l11Draw gives: a kernel's row. -/
def DrewK (p : Nat) (a : Option Addr) (len cap t : Nat) (w : World) (e : Ending) (w' : World) : Prop :=
  ∃ (g c n : Nat) (la : Nat → Option Addr) (lc : Nat → Nat) (L : List Value) (f : Nat → OB) (t' : Nat), e = .returned (.agg #[.slice (some ⟨g, 0, none⟩) n c]) ∧ n ≤ 8 ∧ KD f n ∧ KRw w.heap.size w'.heap.size g c n la lc L f w' ∧ Src w' p a len cap t' ∧ t' ≤ t + 400 ∧ Outside p (p + 1) w w'

theorem fieldKN (v0 v1 v2 : Value) (w : World) : (Instr.field 138 (.agg #[v0, v1, v2]) 2).run Try.prog w = .ok (.agg #[v2]) w := by kernel_rfl

set_option maxRecDepth 100000 in
set_option maxHeartbeats 8000000 in
theorem l11Draw_calls (p : Nat) (a : Option Addr) (len cap t : Nat) (w : World) (ht : t ≤ 980000) (hs : Src w p a len cap t) : Calls Try.prog 66 #[.pointer (some ⟨p, 0, none⟩)] w (DrewK p a len cap t w) := by
  have hp : p < w.heap.size := hs.1
  have HP := hide hp
  have M0 := (Mo.start p w).alloc1 hp (.slice none 0 0) 26
  have s0 := hs.below ((Below.refl _ _).alloc (Nat.le_refl _) (.cells #[.slice none 0 0] 26))
  obtain ⟨i0, hi, hz0, hz1, hz2⟩ := info_parts infoObject
  obtain ⟨j0, hj, hy0, hy1, hy2⟩ := info_parts info2
  go_enter Try.func66, Try.ntmps66
  go_wp2_with fail
  refine (l3Thing_calls p a len cap t _ (by omega) s0).mono ?_
  rintro e w1 ⟨ra, rc, zs, t1, rfl, ol, hz, hth, s1, ht1, o1⟩
  have M1 := M0.next o1
  have z1 := o1.size
  simp only [World.size_alloc] at z1 ol
  clear M0 s0 o1
  go_wp2_with fail
  refine (specNewKernelD_calls ra 4 rc zs w1 (by unfold maxLen; omega) ol.sl hz hth).mono ?_
  rintro e w2 ⟨N, na, nc, rfl, own, _, g2⟩
  have M2 := M1.below g2
  have s2 := s1.below g2
  have z2 := g2.size
  have hN := own.lt N rfl
  clear M1 s1 g2 ol
  -- the box of k
  have hfk := fieldKN
  have own3 := ownR_below own ((Below.refl w2.heap.size w2).alloc (Nat.le_refl _) (.cells #[.slice (some ⟨N, 0, none⟩) 1 1] 26))
  have M3 := M2.alloc1 (by have := s2.1; omega) (.slice (some ⟨N, 0, none⟩) 1 1) 26
  have s3 := s2.below ((Below.refl w2.heap.size w2).alloc (Nat.le_refl _) (.cells #[.slice (some ⟨N, 0, none⟩) 1 1] 26))
  obtain ⟨u, hu⟩ : ∃ u, u = w2.alloc (.cells #[.slice (some ⟨N, 0, none⟩) 1 1] 26) := ⟨_, rfl⟩
  rw [← hu] at own3 M3 s3
  have zu : u.heap.size = w2.heap.size + 1 := by rw [hu]; simp
  have HU := hide hu
  clear hu M2 s2 own
  go_upto_region 2 with fail
  rw [← HU.out]
  clear HU
  have k0 := M3.cell 0 rfl
  have n3 : u.cell? ⟨N, 3, none⟩ = some (.slice na 4 nc) := by
    have h1 := own3.cells (g := N) rfl 3 _ rfl
    simpa [Addr.add] using h1
  have nf : u.frozen? ⟨N, 3, none⟩ = false := by
    rcases own3.2 with ⟨h0, _⟩ | ⟨g', cp', cur, e0, hb, hg, r⟩
    · cases h0
    · cases e0; simp [World.frozen?, hg]
  -- the label of the first object is another
  have hNu : N < u.heap.size := by omega
  have hNw : w1.heap.size ≤ N := hN.1
  have hsz : (u.setCell ⟨N, 3, none⟩ (.slice (some ⟨u.heap.size, 0, none⟩) 4 4)).heap.size = u.heap.size := by simp
  have al4 := (Below.refl (u.setCell ⟨N, 3, none⟩ (.slice (some ⟨u.heap.size, 0, none⟩) 4 4)).heap.size (u.setCell ⟨N, 3, none⟩ (.slice (some ⟨u.heap.size, 0, none⟩) 4 4))).alloc (Nat.le_refl _) (.cells #[.int .i64 2, .int .i64 2, .int .i64 2, .int .i64 2] 2)
  have ow4 := ownR_below (own3.stored 3 (.slice (some ⟨u.heap.size, 0, none⟩) 4 4)).1 al4
  have bl4 := blk_lit4 (u.setCell ⟨N, 3, none⟩ (.slice (some ⟨u.heap.size, 0, none⟩) 4 4)) 2 2 2 2 2
  have M4 := (M3.off (P := N) (o := 3) (by omega) (by intro c hc; simp at hc; rcases hc with rfl | rfl <;> (simp; omega)) (by simp) (.slice (some ⟨u.heap.size, 0, none⟩) 4 4)).below al4
  have s4 := (s3.setCell (q := ⟨N, 3, none⟩) (by show p < N; omega) (.slice (some ⟨u.heap.size, 0, none⟩) 4 4)).below al4
  obtain ⟨X, hX⟩ : ∃ X, X = (u.setCell ⟨N, 3, none⟩ (.slice (some ⟨u.heap.size, 0, none⟩) 4 4)).alloc (.cells #[.int .i64 2, .int .i64 2, .int .i64 2, .int .i64 2] 2) := ⟨_, rfl⟩
  have zX : X.heap.size = u.heap.size + 1 := by rw [hX]; simp
  rw [hsz, ← hX] at bl4
  rw [← hX] at ow4 M4 s4
  have kx := KXb.first (B := w1.heap.size) (T := X.heap.size) (KB := w2.heap.size) (N := N) (LB := u.heap.size) (W := X) (M4.cell 0 rfl) (M4.fz 0 rfl) ⟨by omega, by omega⟩ ⟨by omega, by omega, by omega⟩ ⟨by omega, by omega, by omega, by omega⟩ ow4 bl4
  have kd : KD (fun _ : Nat => ((-1, 0, 1, [2, 2, 2, 2], 100, 1, []) : OB)) 1 := KD.first [2, 2, 2, 2] rfl _ rfl
  have M5 : Mo p w X [(w.heap.size, 0, .slice none 0 0)] [] := M4.sub (by simp) (by simp)
  have HX := hide hX
  have HKX := hide kx
  have HM5 := hide M5
  have HS4 := hide s4
  have HZU := hide zu
  have HZX := hide zX
  clear zu zX hX kx M5 s4 M4 M3 al4 ow4 bl4 hsz
  clear own3 s3
  go_upto_region 3 with fail
  rw [← HX.out]
  clear HX k0 n3 nf
  go_wp2_with fail
  refine (l1Next_calls p a len cap t1 8 X (by omega) (by omega) (by omega) HS4.out).mono ?_
  rintro e w5 ⟨r5, rfl, r50, r58, s5, o5⟩
  have M6 := HM5.out.next o5
  have kx5 := HKX.out.out o5 (by omega)
  have z5 := o5.size
  obtain ⟨m0, hm0⟩ : ∃ m0 : Nat, r5 = (m0 : Int) := ⟨r5.toNat, by omega⟩
  subst hm0
  have hm8 : m0 ≤ 7 := by omega
  have hB : w.heap.size + 1 ≤ w1.heap.size := by omega
  have hKB : w1.heap.size ≤ w2.heap.size := z2
  obtain ⟨B, hBe⟩ : ∃ B, B = w1.heap.size := ⟨_, rfl⟩
  have HM6 := hide M6
  have HS5 := hide s5
  have HKX5 := hide (kx5.mono (by have := HZX.out; omega : X.heap.size ≤ w5.heap.size))
  rw [← hBe] at HKX5
  rw [← hBe] at hB
  have hBK : B ≤ w2.heap.size := by omega
  clear HKX HM5 HS4 M6 kx5 s5 o5 r50 r58 HZU HZX hBe hKB
  go_wp2
  go_loopw [4] (fun cn wr => ∃ (m : Nat) (g c n : Nat) (la : Nat → Option Addr) (lc : Nat → Nat) (L : List Value) (f : Nat → OB) (t' : Nat), cn = .int .i64 (m : Int) ∧ m ≤ 7 ∧ n + m ≤ 8 ∧ KD f n ∧ KXb B wr.heap.size w2.heap.size g c n la lc L f wr ∧ Mo p w wr [(w.heap.size, 0, .slice none 0 0)] [] ∧ Src wr p a len cap t' ∧ t' + 30 * m ≤ t + 300) (fun cn _ => (intOf cn).toNat)
  case atStart => exact ⟨m0, N, 1, 1, _, _, _, _, _, rfl, hm8, by omega, kd, HKX5.out, HM6.out, HS5.out, by omega⟩
  case round =>
    obtain ⟨m, g, c, n, la, lc, L, f, t', rfl, hm7, hnm, kd, kx, M, s, htm⟩ := hrel
    have HKD := hide kd
    have HKX := hide kx
    have HM := hide M
    have HSR := hide s
    have k0 := kx.cell
    have hn1 := kd.n1
    by_cases hm : m = 0
    · subst hm
      have r0 := M.cell 0 rfl
      have f0 := M.fz 0 rfl
      have kr := (kx.row.mono (B' := w.heap.size) (T' := wr.heap.size) (by omega) (Nat.le_refl _)).hn
      have HRW : Hid (KRw w.heap.size wr.heap.size g c n la lc L f (wr.setCell ⟨w.heap.size, 0, none⟩ (.slice (some ⟨g, 0, none⟩) n c))) := (kx.row.keep (fun k hk _ _ => Below.heap_setCell _ _ _ _ (by show k ≠ w.heap.size; omega))).mono (by omega) (Nat.le_refl _)
      have HMO := hide M.out
      clear kx M kr hs
      go_wp2
      exact bodyPost_ret (v := .agg #[.slice (some ⟨g, 0, none⟩) n c]) (by simp [results, Try.results66, go_sem, r0]) rfl ⟨g, c, n, la, lc, L, f, t', rfl, by omega, HKD.out, by simpa using HRW.out, HSR.out.setCell (by exact hp) _, by omega, HMO.out.setNew (Nat.le_refl _) _⟩
    · have hm1 : (m : Int) > 0 := by omega
      have hm2 : 0 < m := by omega
      have hn8 : (n : Int) ≤ 200 := by omega
      have hn1i : (1 : Int) ≤ (n : Int) := by omega
      have zr := M.out.size
      have hKr := kx.hK
      have hgr := kx.hg
      clear kx M s kd
      go_wp2_with fail
      refine (l1Next_calls p a len cap t' (n : Int) wr hn1i hn8 (by omega) HSR.out).mono ?_
      rintro e wa ⟨up, rfl, up0, up1, sa, oa⟩
      obtain ⟨up, rfl⟩ : ∃ q : Nat, up = (q : Int) := ⟨up.toNat, by omega⟩
      have hup : up < n := by omega
      have kxa := HKX.out.out oa (by omega)
      have za := oa.size
      have HKA := hide kxa
      have HMA := hide (HM.out.next oa)
      have HSA := hide sa
      have ka := kxa.cell
      obtain ⟨q0, q1, q2, q3, q4, q5, q6⟩ := kxa.o7 hup
      clear sa oa HSR HM HKX k0 kxa
      by_cases hkind : (f up).2.2.1 = 1
      rotate_left
      · have e1 : ((f up).2.2.1 != 1) = true := by simpa using hkind
        have HREL : Hid (KXb B wa.heap.size w2.heap.size g c n la lc L f wa) := HKA.out.mono (by omega)
        obtain ⟨m', rfl⟩ : ∃ m', m = m' + 1 := ⟨m - 1, by omega⟩
        clear hkind
        go_wp2
        go_roundw
        case rel => exact ⟨m', g, c, n, la, lc, L, f, t' + 1, by go_num, by omega, by omega, HKD.out, HREL.out, HMA.out, HSA.out, by omega⟩
        case measure => simp [intOf]
      have e1 : ((f up).2.2.1 != 1) = false := by simp [hkind]
      have hlen1 : ∀ i, i < n → (f i).2.2.2.1.length ≤ 1000 ∧ (f i).2.2.2.2.2.2.length ≤ 1000 := fun i hi => ⟨by have := HKD.out.lab i hi; omega, by have := HKD.out.dat i hi; omega⟩
      have HFR := hide (l11Free_calls w2.heap.size (some ⟨g, 0, none⟩) n c (lsO f n) up wa (HKA.out.kr (by omega) hlen1) hup (by omega) (fun j hj => by rw [gO_lsO hj]; have := HKD.out.q j hj; omega))
      clear hkind hlen1
      go_upto_region 8 with fail
      go_wp2_with fail
      refine HFR.out.mono ?_
      rintro e w' ⟨rfl, hw'⟩
      rw [hw', freeO_lsO hup]
      clear hw' w' HFR
      have hfr := HKD.out.fr up hup
      have S6 := hide (HSA.out.below ((Below.refl wa.heap.size wa).alloc (Nat.le_refl _) (.cells #[.int .i64 3, .int .i64 10, .int .i64 20] 2)))
      have hpa : p < wa.heap.size := by omega
      go_wp2_with fail
      refine (l1PickM_calls p a len cap (t' + 1) wa.heap.size 3 3 [3, 10, 20] _ (by omega) (by omega) (by omega) S6.out hpa (by simp) rfl lit3s).mono ?_
      rintro e wb ⟨j, hj3, rfl, sb, ob⟩
      have hpk : 3 ≤ gt [3, 10, 20] j ∧ gt [3, 10, 20] j ≤ 20 := by
        rcases (by omega : j = 0 ∨ j = 1 ∨ j = 2) with rfl | rfl | rfl
        · show (3 : Int) ≤ 3 ∧ (3 : Int) ≤ 20; omega
        · show (3 : Int) ≤ 10 ∧ (10 : Int) ≤ 20; omega
        · show (3 : Int) ≤ 20 ∧ (20 : Int) ≤ 20; omega
      generalize gt [3, 10, 20] j = pk at hpk
      go_wp2_with fail
      refine (l1Min_calls _ _ _).mono ?_
      rintro e w' ⟨rfl, hw'⟩
      rw [hw']
      clear hw' w'
      obtain ⟨qu, hqu⟩ : ∃ qu, qu = min (freeO f n up) pk := ⟨_, rfl⟩
      have hqu0 : 0 ≤ qu := by omega
      have hqu1 : qu ≤ freeO f n up := by omega
      have hqu2 : qu ≤ 20 := by omega
      have zb := ob.size
      simp only [World.size_alloc] at zb
      have alb := (Below.refl wa.heap.size wa).alloc (Nat.le_refl _) (.cells #[.int .i64 3, .int .i64 10, .int .i64 20] 2)
      have HKB := hide ((HKA.out.below alb).out ob (by omega))
      have HMB := hide ((HMA.out.below alb).next ob)
      have HSB := hide sb
      rw [← hqu]
      clear hqu sb ob alb q0 q1 q2 q3 q4 q5 q6 ka hfr hpk S6 HKA HMA HSA
      have kb := HKB.out.cell
      obtain ⟨q0, q1, q2, q3, q4, q5, q6⟩ := HKB.out.o7 hup
      have zpb : p < wb.heap.size := by omega
      have lKb : w2.heap.size < wb.heap.size := by omega
      have lgb : g < wb.heap.size := by omega
      have hgT := hgr.2.1
      have hKT := hKr.2
      have HSD : Hid (Src wb.drew p a len cap (t' + 1 + 1)) := HSB.out.below ((Below.refl _ _).drew)
      go_upto_region 9 with fail
      go_cut [7] (fun y wd => ∃ (ra : Option Addr) (rc : Nat) (zs : List Int) (t2 O : Nat), y = .pointer (some ⟨O, 0, none⟩) ∧ OBJ p wb O (up : Int) (f up).2.2.2.2.2.1 ra rc zs qu wd ∧ zs.length = 4 ∧ Src wd p a len cap t2 ∧ t2 ≤ t' + 5)
      case first =>
        go_region_law (go_simp; go_at_call 91; refine (l3Thing_calls p a len cap (t' + 1 + 1) _ (by omega) (HSB.out.below (by first | exact (Below.refl _ _).drew | exact ((Below.refl _ _).alloc (Nat.le_refl _) _).drew))).mono ?_; rintro e wc ⟨ra2, rc2, zs2, t2, rfl, ol2, hz2', hth2, sc, ht2, oc⟩; have OB : Outside p (p + 1) wb wc := Outside.trans (by first | exact Outside.drew (Outside.refl p (p + 1) wb) | exact Outside.drew (Outside.alloc p (p + 1) wb _)) oc; have kc := OB.cell (q := ⟨w2.heap.size, 0, none⟩) lKb (by show p + 1 ≤ w2.heap.size; omega) kb; have cc := OB.cell (q := ⟨g, up * 7 + 5, none⟩) lgb (by show p + 1 ≤ g; omega) q5; have zc := OB.size; have lgc : g < wc.heap.size := Nat.lt_of_lt_of_le lgb zc; have lKc : w2.heap.size < wc.heap.size := Nat.lt_of_lt_of_le lKb zc; (try (have hzz := objZ oc zpb; have y0 := hzz.cell 0 rfl; have y1 := hzz.cell 1 rfl; have y2 := hzz.cell 2 rfl; have y3 := hzz.cell 3 rfl; have y4 := hzz.cell 4 rfl; have y5 := hzz.cell 5 rfl; have y6 := hzz.cell 6 rfl; have x0 := hzz.fz 0 (by simp); have x1 := hzz.fz 1 (by simp); have x2 := hzz.fz 2 (by simp); have x3 := hzz.fz 3 (by simp); have x4 := hzz.fz 4 (by simp); have x5 := hzz.fz 5 (by simp); have x6 := hzz.fz 6 (by simp); have HZZ := hide hzz; clear hzz)); have HOB := hide OB; have HSC := hide sc; have HOL := hide ol2; clear OB sc ol2 oc)
        all_goals go_wp2_with fail
        all_goals go_meet
        all_goals (
          refine ⟨ra2, rc2, zs2, t2, _, rfl, ?ob, HOL.out.1, ?sr, by omega⟩
          case ob => first | (with_reducible exact objA HOB.out HOL.out (by simp)) | (with_reducible exact (objA HOB.out HOL.out (by simp)).drew) | (with_reducible exact objB HOB.out HOL.out (by simp) HZZ.out) | (with_reducible exact (objB HOB.out HOL.out (by simp) HZZ.out).drew)
          case sr => first | (with_reducible exact objS1 HSC.out) | (with_reducible exact (objS1 HSC.out).drew) | (with_reducible exact objS2 HSC.out zpb) | (with_reducible exact (objS2 HSC.out zpb).drew))
      case rest =>
      obtain ⟨xa, xc, zl, t2, O, rfl, hob, hz4, sd, ht2⟩ := hcut
      obtain ⟨wd, rfl⟩ : ∃ x, x = wc := ⟨wc, rfl⟩
      have kxd := HKB.out.out hob.o (by omega)
      have kd0 := kxd.cell
      obtain ⟨q0, q1, q2, q3, q4, q5, q6⟩ := kxd.o7 hup
      have qf := kxd.fzg (up * 7 + 5)
      have hnx := HKD.out.nx up hup
      have hwp : IntKind.i64.wrap ((f up).2.2.2.2.2.1 + 1) = (f up).2.2.2.2.2.1 + 1 := IntWalk.i64_in _ (by omega)
      have hlo := hob.lo
      have zd := hob.hi
      have kxe := kxd.put (j := 5) hup (by omega) (.int .i64 ((f up).2.2.2.2.2.1 + 1)) (nxO (f up)) (v7_next _ _ _ _ _) rfl rfl
      have ce := (Cs.loc (P := O)).setC hob.c (q := ⟨g, up * 7 + 5, none⟩) (fun e => by have h1 : O ≤ g := e.1; omega) (.int .i64 ((f up).2.2.2.2.2.1 + 1))
      have le := OS.loc.setC hob.l (q := ⟨g, up * 7 + 5, none⟩) (fun e => by have h1 : wb.heap.size ≤ g := e.1; omega) (.int .i64 ((f up).2.2.2.2.2.1 + 1))
      have Me := (HMB.out.next hob.o).off (P := g) (o := up * 7 + 5) (by omega) (by intro q hq; simp at hq; subst hq; simp; omega) (by simp) (.int .i64 ((f up).2.2.2.2.2.1 + 1))
      have se := sd.setCell (q := ⟨g, up * 7 + 5, none⟩) (by show p < g; omega) (.int .i64 ((f up).2.2.2.2.2.1 + 1))
      obtain ⟨we, hwe⟩ : ∃ we, we = wd.setCell ⟨g, up * 7 + 5, none⟩ (.int .i64 ((f up).2.2.2.2.2.1 + 1)) := ⟨_, rfl⟩
      have ze : we.heap.size = wd.heap.size := by rw [hwe]; simp
      rw [← hwe] at kxe ce le Me se
      have HWE := hide hwe
      have HKE := hide kxe
      have HCE := hide ce
      have HLE := hide le
      have HME := hide Me
      have HSE := hide se
      have HZE := hide ze
      have HNX := hide hnx
      have zOe : O < we.heap.size := by omega
      have zde : wd.heap.size ≤ we.heap.size := by omega
      have hwK : w.heap.size < w2.heap.size := by omega
      have hgK : g ≠ w2.heap.size := hgr.2.2
      clear hwe kxe ce le Me se kxd hob sd ze hnx
      go_upto_region 11 with fail
      rw [← HWE.out]
      clear HWE kd0 q0 q1 q2 q3 q4 q5 q6 qf hwp
      go_wp2_with fail
      refine (l1Chance_calls p a len cap t2 2 we (by omega) (by omega) (by omega) HSE.out).mono ?_
      rintro e wf ⟨ch, rfl, sf, of⟩
      have zf := of.size
      have HKF := hide (HKE.out.out of (by omega))
      have HCF := hide (Cs.loc _ _ (fun k hk hl => of.block k hl (.inr (by have := hk.1; omega))) HCE.out)
      have HLF := hide (OS.loc _ _ (fun k hk hl => of.block k hl (.inr (by have := hk.1; omega))) HLE.out)
      have HMF := hide (HME.out.next of)
      have HSF := hide sf
      have zOf : O < wf.heap.size := by omega
      have hgO : g < O := by omega
      have hKO : w2.heap.size < O := by omega
      have hpO : p < O := by omega
      clear sf of HKE HCE HLE HME HSE
      cases ch with
      | true =>
        have cg := (HCF.out.set 2 (by simp) (.int .i64 1)).set 5 (by simp) (.int .i64 1)
        have lg := OS.loc.setC (OS.loc.setC HLF.out (q := ⟨O, 2, none⟩) (fun e => e.2.2 rfl) (.int .i64 1)) (q := ⟨O, 5, none⟩) (fun e => e.2.2 rfl) (.int .i64 1)
        have kxg := HKF.out.keep (w' := (wf.setCell ⟨O, 2, none⟩ (.int .i64 1)).setCell ⟨O, 5, none⟩ (.int .i64 1)) (fun k _ hk _ => by rw [Below.heap_setCell _ _ _ _ (by show k ≠ O; omega), Below.heap_setCell _ _ _ _ (by show k ≠ O; omega)])
        have Mg := (HMF.out.off (P := O) (o := 2) (by omega) (by intro q hq; simp at hq; subst hq; simp; omega) (by simp) (.int .i64 1)).off (P := O) (o := 5) (by omega) (by intro q hq; simp at hq; subst hq; simp; omega) (by simp) (.int .i64 1)
        have sg := (HSF.out.setCell (q := ⟨O, 2, none⟩) (by exact hpO) (.int .i64 1)).setCell (q := ⟨O, 5, none⟩) (by exact hpO) (.int .i64 1)
        have o2 := HCF.out.cell 2 rfl
        have o5 := HCF.out.cell 5 rfl
        have f2 := HCF.out.fz 2 (by simp)
        have f5 := HCF.out.fz 5 (by simp)
        obtain ⟨wg, hwg⟩ : ∃ wg, wg = (wf.setCell ⟨O, 2, none⟩ (.int .i64 1)).setCell ⟨O, 5, none⟩ (.int .i64 1) := ⟨_, rfl⟩
        have zg : wg.heap.size ≤ wf.heap.size := by rw [hwg]; simp
        have zg2 : wf.heap.size ≤ wg.heap.size := by rw [hwg]; simp
        rw [← hwg] at cg lg kxg Mg sg
        have HWG := hide hwg
        go_upto_region 18 with fail
        rw [← HWG.out]
        clear HWG hwg o2 o5 f2 f5 HCF HLF HKF HMF HSF
        have d0 := cg.cell 0 rfl
        have d1 := cg.cell 1 rfl
        have d2 := cg.cell 2 rfl
        have d3 := cg.cell 3 rfl
        have d4 := cg.cell 4 rfl
        have d5 := cg.cell 5 rfl
        have d6 := cg.cell 6 rfl
        have kc := kxg.cell
        have kf := kxg.fz
        have hlx : ((((up : Int), (f up).2.2.2.2.2.1, 1, zl, qu, 1, []) : OB)).2.2.2.1.length = 4 := hz4
        have al := (Below.refl wg.heap.size wg).alloc (Nat.le_refl _) (.cells #[.int .i64 (up : Int), .int .i64 (f up).2.2.2.2.2.1, .int .i64 1, .slice xa 4 xc, .int .i64 qu, .int .i64 1, .slice none 0 0] 71)
        have HV : Hid (v7 (((up : Int), (f up).2.2.2.2.2.1, 1, zl, qu, 1, []) : OB) xa xc none 0 = [.int .i64 (up : Int), .int .i64 (f up).2.2.2.2.2.1, .int .i64 1, .slice xa 4 xc, .int .i64 qu, .int .i64 1, .slice none 0 0]) := by show _ = _; unfold v7; rw [hlx]; try rfl
        have h0 := World.news_of_block (t := 71) (fr := (0, 0)) (heap_alloc_new wg (.cells #[.int .i64 (up : Int), .int .i64 (f up).2.2.2.2.2.1, .int .i64 1, .slice xa 4 xc, .int .i64 qu, .int .i64 1, .slice none 0 0] 71))
        have HNB : Hid (∀ j y, (v7 (((up : Int), (f up).2.2.2.2.2.1, 1, zl, qu, 1, []) : OB) xa xc none 0)[j]? = some y → (wg.alloc (.cells #[.int .i64 (up : Int), .int .i64 (f up).2.2.2.2.2.1, .int .i64 1, .slice xa 4 xc, .int .i64 qu, .int .i64 1, .slice none 0 0] 71)).cell? ((Addr.mk wg.heap.size 0 none).add j) = some y) := fun j y hy => h0 j y (by rw [HV.out] at hy; simpa using hy)
        clear h0
        have kxh := kxg.below al
        have lh := OS.loc.below al lg
        have sh := sg.below al
        have Mh := Mg.below al
        have HKH := hide kxh
        have HLH := hide lh
        have HSH := hide sh
        have HMH := hide Mh
        have HOWN := hide kxh.own
        have hn7 : n ≤ 7 := by omega
        have zK : w2.heap.size < wg.heap.size := by omega
        have HDD := hide (show OS (fun b => wr.heap.size ≤ b ∧ b < (wg.alloc (.cells #[.int .i64 (up : Int), .int .i64 (f up).2.2.2.2.2.1, .int .i64 1, .slice xa 4 xc, .int .i64 qu, .int .i64 1, .slice none 0 0] 71)).heap.size) none ([] : List Int).length [] (wg.alloc (.cells #[.int .i64 (up : Int), .int .i64 (f up).2.2.2.2.2.1, .int .i64 1, .slice xa 4 xc, .int .i64 qu, .int .i64 1, .slice none 0 0] 71)) from ⟨rfl, by decide, .inl rfl⟩)
        clear kxg kxh lg lh sg sh Mg Mh cg al
        go_wp2_with (first
          | (at_builtin; go_loud (refine wpList_append_lies _ rfl _ _ 24 rfl B 71 i0 (.agg #[.int .i64 0, .int .i64 0, .int .i64 0, .slice none 0 0, .int .i64 0, .int .i64 0, .slice none 0 0]) 7 88 Try.underlying24 hi hz0 hz1 hz2 rfl (by decide) _ n _ rfl HOWN.out ⟨wg.heap.size, 0, none⟩ 1 1 (v7 (((up : Int), (f up).2.2.2.2.2.1, 1, zl, qu, 1, []) : OB) xa xc none 0) rfl rfl HNB.out (v7_one _ _ _ _ _) (by omega) (by unfold maxLen; omega) (by omega) (by simp; omega) (wg.heap.size + 1) (by simp) ?_))
          | go_in)
        intro g2 cp w9 hown9 hg9 hat9 hlt9
        have hat : some g = some g2 ∨ g2 = (wg.alloc (.cells #[.int .i64 (up : Int), .int .i64 (f up).2.2.2.2.2.1, .int .i64 1, .slice xa 4 xc, .int .i64 qu, .int .i64 1, .slice none 0 0] 71)).heap.size := by
          rcases hat9 with e | e
          · exact .inl e
          · exact .inr (by rw [e]; simp)
        have kxn := HKH.out.push (x := (((up : Int), (f up).2.2.2.2.2.1, 1, zl, qu, 1, []) : OB)) (T1 := (wg.alloc (.cells #[.int .i64 (up : Int), .int .i64 (f up).2.2.2.2.2.1, .int .i64 1, .slice xa 4 xc, .int .i64 qu, .int .i64 1, .slice none 0 0] 71)).heap.size) hg9 hown9 hat (by simp; omega) (Nat.le_refl _) (by rw [hlx]; exact HLH.out.mono (fun b hb => ⟨by omega, by simp; omega⟩)) HDD.out
        have g9b : ∀ k, k < (wg.alloc (.cells #[.int .i64 (up : Int), .int .i64 (f up).2.2.2.2.2.1, .int .i64 1, .slice xa 4 xc, .int .i64 qu, .int .i64 1, .slice none 0 0] 71)).heap.size → k ≠ g → w9.heap[k]? = (wg.alloc (.cells #[.int .i64 (up : Int), .int .i64 (f up).2.2.2.2.2.1, .int .i64 1, .slice xa 4 xc, .int .i64 qu, .int .i64 1, .slice none 0 0] 71)).heap[k]? := fun k hk hne => hg9.block k hk (fun e => hne (by cases e; rfl))
        have z9 := hg9.size
        simp only [World.size_alloc] at z9
        have k9 : w9.cell? ⟨w2.heap.size, 0, none⟩ = some (.slice (some ⟨g, 0, none⟩) n c) := (World.cell?_of_block (a := ⟨w2.heap.size, 0, none⟩) (g9b w2.heap.size (by simp; omega) (fun e => hgK e.symm))).trans HKH.out.cell
        have j9 : w9.frozen? ⟨w2.heap.size, 0, none⟩ = false := (World.frozen?_of_block (a := ⟨w2.heap.size, 0, none⟩) (g9b w2.heap.size (by simp; omega) (fun e => hgK e.symm))).trans HKH.out.fz
        have bl9 : Below (w.heap.size + 1) (wg.alloc (.cells #[.int .i64 (up : Int), .int .i64 (f up).2.2.2.2.2.1, .int .i64 1, .slice xa 4 xc, .int .i64 qu, .int .i64 1, .slice none 0 0] 71)) w9 := (Below.refl (w.heap.size + 1) _).grown hg9 (by simp; omega) (fun q e => by (have e2 : g = q := (by simpa [Value.ownBlock] using e)); omega)
        have M9 := (HMH.out.belowB bl9 (by omega) (by intro q hq; simp at hq; subst hq; exact Nat.lt_succ_self _) (by simp)).off (P := w2.heap.size) (o := 0) (by omega) (by intro q hq; simp at hq; subst hq; exact Nat.ne_of_lt hwK) (by simp) (.slice (some ⟨g2, 0, none⟩) (n + 1) cp)
        have s9 := (HSH.out.belowB bl9 (by omega)).setCell (q := ⟨w2.heap.size, 0, none⟩) (by show p < w2.heap.size; omega) (.slice (some ⟨g2, 0, none⟩) (n + 1) cp)
        have HK9 := hide kxn
        have HM9 := hide M9
        have HS9 := hide s9
        have HKD9 := hide (HKD.out.push hup (x := (((up : Int), (f up).2.2.2.2.2.1, 1, zl, qu, 1, []) : OB)) rfl ⟨hqu0, hqu1⟩ ⟨by show (0 : Int) ≤ 1; omega, by show (1 : Int) ≤ 1; omega⟩ hlx (by show (0 : Nat) ≤ 20; omega) (by show qu ≤ 100; omega))
        obtain ⟨m', rfl⟩ : ∃ m', m = m' + 1 := ⟨m - 1, by omega⟩
        clear hown9 hg9 hat9 hlt9 kxn M9 s9 bl9 g9b hat HKH HLH HSH HMH HOWN HNB HV d0 d1 d2 d3 d4 d5 d6 kc kf
        go_wp2
        go_roundw
        case rel => exact ⟨m', g2, cp, n + 1, _, _, _, _, t2 + 1, by go_num, by omega, by omega, HKD9.out, by simpa using HK9.out, HM9.out, HS9.out, by omega⟩
        case measure => simp [intOf]
      | false =>
        obtain ⟨wx, rfl⟩ : ∃ x, x = wr := ⟨wr, rfl⟩
        have hwq : IntKind.i64.wrap (qu + 1) = qu + 1 := IntWalk.i64_in _ (by omega)
        have q201 : (1 : Int) ≤ qu + 1 := by omega
        have q202 : qu + 1 ≤ 200 := by omega
        go_wp2_with fail
        refine (l1Next_calls p a len cap (t2 + 1) (qu + 1) wf q201 q202 (by omega) HSF.out).mono ?_
        rintro e wh ⟨r, rfl, r0, r1, sh, oh⟩
        obtain ⟨i0', hi0'⟩ : ∃ q : Nat, r = (q : Int) := ⟨r.toNat, by omega⟩
        subst hi0'
        have zh := oh.size
        have hi20 : i0' ≤ 20 := by omega
        have HKI := hide (HKF.out.out oh (by omega))
        have HCI := hide (Cs.loc _ _ (fun k hk hl => oh.block k hl (.inr (by have := hk.1; omega))) HCF.out)
        have HLI := hide (OS.loc _ _ (fun k hk hl => oh.block k hl (.inr (by have := hk.1; omega))) HLF.out)
        have HMI := hide (HMF.out.next oh)
        have HSI0 := hide sh
        have zOh : O < wh.heap.size := by omega
        have zwh : w.heap.size + 1 ≤ wh.heap.size := by omega
        clear sh oh HKF HCF HLF HMF HSF r0 r1 hwq q201 q202
        go_wp2
        go_loopw [8] (fun iv wi => ∃ (k : Nat) (v : Value) (ds : List Int) (t3 : Nat), iv = .int .i64 (k : Int) ∧ ds.length + k ≤ 20 ∧ wi.ownsRow wh.heap.size 2 1 v ds.length (ds.map (Value.int .i64)) ∧ OutS (fun b => b = p ∨ b = O) wh wi ∧ Cs O [.int .i64 (up : Int), .int .i64 (f up).2.2.2.2.2.1, .int .i64 2, .slice xa 4 xc, .int .i64 qu, .int .i64 0, v] wi ∧ Src wi p a len cap t3 ∧ t3 + k ≤ t2 + 24) (fun iv _ => (intOf iv).toNat)
        case atStart => exact ⟨i0', .slice none 0 0, [], t2 + 1 + 1, rfl, by simpa using hi20, World.ownsRow_nil _ _ _ _, OutS.refl _ _, HCI.out, HSI0.out, by omega⟩
        case round =>
          obtain ⟨k, v, ds, t3, rfl, hdk, own, hout, hcs, hsr, ht3⟩ := hrel
          have zi := hout.size
          by_cases hk0 : k = 0
          · subst hk0
            obtain ⟨da, dc, rfl, fr⟩ := owns_osl (by omega) own
            have cg := hcs
            have keepB : ∀ b, b < wh.heap.size → b ≠ p → b ≠ O → wr.heap[b]? = wh.heap[b]? := fun b hb h1 h2 => hout.block b hb (fun e => by rcases e with e | e; exact h1 e; exact h2 e)
            have lg : OS (fun b => wb.heap.size ≤ b ∧ b < wd.heap.size ∧ b ≠ O) xa 4 zl wr := OS.loc _ _ (fun b hb hl => keepB b hl (by have := hb.1; omega) hb.2.2) HLI.out
            have kxg : KXb B wx.heap.size w2.heap.size g c n la lc (L.set (up * 7 + 5) (.int .i64 ((f up).2.2.2.2.2.1 + 1))) (updO f up (nxO (f up))) wr := HKI.out.keep (fun b hb hbT hl => keepB b hl (by omega) (by omega))
            have rR := HMI.out.cell 0 rfl
            have fR := HMI.out.fz 0 rfl
            have Mg : Mo p w wr [(w.heap.size, 0, .slice none 0 0)] [] := Mo.cons (cs := []) ⟨⟨hout.os.trans HMI.out.out.os, hout.tape.trans HMI.out.out.tape, hout.output.trans HMI.out.out.output, Nat.le_trans HMI.out.out.size hout.size, fun b hb hn => (keepB b (by omega) (by omega) (by omega)).trans (HMI.out.out.block b hb hn)⟩, by simp, by simp⟩ hp ((World.cell?_of_block (a := ⟨w.heap.size, 0, none⟩) (keepB w.heap.size (by omega) (by omega) (by omega))).trans rR) ((World.frozen?_of_block (a := ⟨w.heap.size, 0, none⟩) (keepB w.heap.size (by omega) (by omega) (by omega))).trans fR)
            have sg := hsr
            have hdl : ds.length ≤ 20 := by omega
            have od : OS (InR wh.heap.size wr.heap.size) da ds.length ds wr := OS.ofOSl fr
            have HOD := hide od
            have e0 : ¬ (((0 : Nat) : Int) > 0) := by simp
            clear hcs hout hsr keepB own fr od rR fR HCI HLI HKI HMI HSI0
            go_upto_region 18 with fail
            have d0 := cg.cell 0 rfl
            have d1 := cg.cell 1 rfl
            have d2 := cg.cell 2 rfl
            have d3 := cg.cell 3 rfl
            have d4 := cg.cell 4 rfl
            have d5 := cg.cell 5 rfl
            have d6 := cg.cell 6 rfl
            have kc := kxg.cell
            have kf := kxg.fz
            have hlx : ((((up : Int), (f up).2.2.2.2.2.1, 2, zl, qu, 0, ds) : OB)).2.2.2.1.length = 4 := hz4
            have al := (Below.refl wr.heap.size wr).alloc (Nat.le_refl _) (.cells #[.int .i64 (up : Int), .int .i64 (f up).2.2.2.2.2.1, .int .i64 2, .slice xa 4 xc, .int .i64 qu, .int .i64 0, .slice da ds.length dc] 71)
            have HV : Hid (v7 (((up : Int), (f up).2.2.2.2.2.1, 2, zl, qu, 0, ds) : OB) xa xc da dc = [.int .i64 (up : Int), .int .i64 (f up).2.2.2.2.2.1, .int .i64 2, .slice xa 4 xc, .int .i64 qu, .int .i64 0, .slice da ds.length dc]) := by show _ = _; unfold v7; rw [hlx]; try rfl
            have h0 := World.news_of_block (t := 71) (fr := (0, 0)) (heap_alloc_new wr (.cells #[.int .i64 (up : Int), .int .i64 (f up).2.2.2.2.2.1, .int .i64 2, .slice xa 4 xc, .int .i64 qu, .int .i64 0, .slice da ds.length dc] 71))
            have HNB : Hid (∀ j y, (v7 (((up : Int), (f up).2.2.2.2.2.1, 2, zl, qu, 0, ds) : OB) xa xc da dc)[j]? = some y → (wr.alloc (.cells #[.int .i64 (up : Int), .int .i64 (f up).2.2.2.2.2.1, .int .i64 2, .slice xa 4 xc, .int .i64 qu, .int .i64 0, .slice da ds.length dc] 71)).cell? ((Addr.mk wr.heap.size 0 none).add j) = some y) := fun j y hy => h0 j y (by rw [HV.out] at hy; simpa using hy)
            clear h0
            have kxh := kxg.below al
            have lh := OS.loc.below al lg
            have sh := sg.below al
            have Mh := Mg.below al
            have HKH := hide kxh
            have HLH := hide lh
            have HSH := hide sh
            have HMH := hide Mh
            have HOWN := hide kxh.own
            have hn7 : n ≤ 7 := by omega
            have zK : w2.heap.size < wr.heap.size := by omega
            have HDD := hide (OS.loc.below al HOD.out |>.mono (fun b hb => (⟨by have := hb.1; omega, by have := hb.2; simp; omega⟩ : wx.heap.size ≤ b ∧ b < (wr.alloc (.cells #[.int .i64 (up : Int), .int .i64 (f up).2.2.2.2.2.1, .int .i64 2, .slice xa 4 xc, .int .i64 qu, .int .i64 0, .slice da ds.length dc] 71)).heap.size)))
            clear kxg kxh lg lh sg sh Mg Mh cg al
            go_wp2_with (first
              | (at_builtin; go_loud (refine wpList_append_lies _ rfl _ _ 24 rfl B 71 i0 (.agg #[.int .i64 0, .int .i64 0, .int .i64 0, .slice none 0 0, .int .i64 0, .int .i64 0, .slice none 0 0]) 7 88 Try.underlying24 hi hz0 hz1 hz2 rfl (by decide) _ n _ rfl HOWN.out ⟨wr.heap.size, 0, none⟩ 1 1 (v7 (((up : Int), (f up).2.2.2.2.2.1, 2, zl, qu, 0, ds) : OB) xa xc da dc) rfl rfl HNB.out (v7_one _ _ _ _ _) (by omega) (by unfold maxLen; omega) (by omega) (by simp; omega) (wr.heap.size + 1) (by simp) ?_))
              | go_in)
            intro g2 cp w9 hown9 hg9 hat9 hlt9
            have hat : some g = some g2 ∨ g2 = (wr.alloc (.cells #[.int .i64 (up : Int), .int .i64 (f up).2.2.2.2.2.1, .int .i64 2, .slice xa 4 xc, .int .i64 qu, .int .i64 0, .slice da ds.length dc] 71)).heap.size := by
              rcases hat9 with e | e
              · exact .inl e
              · exact .inr (by rw [e]; simp)
            have kxn := HKH.out.push (x := (((up : Int), (f up).2.2.2.2.2.1, 2, zl, qu, 0, ds) : OB)) (T1 := (wr.alloc (.cells #[.int .i64 (up : Int), .int .i64 (f up).2.2.2.2.2.1, .int .i64 2, .slice xa 4 xc, .int .i64 qu, .int .i64 0, .slice da ds.length dc] 71)).heap.size) hg9 hown9 hat (by simp; omega) (Nat.le_refl _) (by rw [hlx]; exact HLH.out.mono (fun b hb => ⟨by omega, by simp; omega⟩)) HDD.out
            have g9b : ∀ k, k < (wr.alloc (.cells #[.int .i64 (up : Int), .int .i64 (f up).2.2.2.2.2.1, .int .i64 2, .slice xa 4 xc, .int .i64 qu, .int .i64 0, .slice da ds.length dc] 71)).heap.size → k ≠ g → w9.heap[k]? = (wr.alloc (.cells #[.int .i64 (up : Int), .int .i64 (f up).2.2.2.2.2.1, .int .i64 2, .slice xa 4 xc, .int .i64 qu, .int .i64 0, .slice da ds.length dc] 71)).heap[k]? := fun k hk hne => hg9.block k hk (fun e => hne (by cases e; rfl))
            have z9 := hg9.size
            simp only [World.size_alloc] at z9
            have k9 : w9.cell? ⟨w2.heap.size, 0, none⟩ = some (.slice (some ⟨g, 0, none⟩) n c) := (World.cell?_of_block (a := ⟨w2.heap.size, 0, none⟩) (g9b w2.heap.size (by simp; omega) (fun e => hgK e.symm))).trans HKH.out.cell
            have j9 : w9.frozen? ⟨w2.heap.size, 0, none⟩ = false := (World.frozen?_of_block (a := ⟨w2.heap.size, 0, none⟩) (g9b w2.heap.size (by simp; omega) (fun e => hgK e.symm))).trans HKH.out.fz
            have bl9 : Below (w.heap.size + 1) (wr.alloc (.cells #[.int .i64 (up : Int), .int .i64 (f up).2.2.2.2.2.1, .int .i64 2, .slice xa 4 xc, .int .i64 qu, .int .i64 0, .slice da ds.length dc] 71)) w9 := (Below.refl (w.heap.size + 1) _).grown hg9 (by simp; omega) (fun q e => by (have e2 : g = q := (by simpa [Value.ownBlock] using e)); omega)
            have M9 := (HMH.out.belowB bl9 (by omega) (by intro q hq; simp at hq; subst hq; exact Nat.lt_succ_self _) (by simp)).off (P := w2.heap.size) (o := 0) (by omega) (by intro q hq; simp at hq; subst hq; exact Nat.ne_of_lt hwK) (by simp) (.slice (some ⟨g2, 0, none⟩) (n + 1) cp)
            have s9 := (HSH.out.belowB bl9 (by omega)).setCell (q := ⟨w2.heap.size, 0, none⟩) (by show p < w2.heap.size; omega) (.slice (some ⟨g2, 0, none⟩) (n + 1) cp)
            have HK9 := hide kxn
            have HM9 := hide M9
            have HS9 := hide s9
            have HKD9 := hide (HKD.out.push hup (x := (((up : Int), (f up).2.2.2.2.2.1, 2, zl, qu, 0, ds) : OB)) rfl ⟨hqu0, hqu1⟩ ⟨by show (0 : Int) ≤ 0; omega, by show (0 : Int) ≤ 1; omega⟩ hlx (by show ds.length ≤ 20; omega) (by show qu ≤ 100; omega))
            obtain ⟨m', rfl⟩ : ∃ m', m = m' + 1 := ⟨m - 1, by omega⟩
            clear hown9 hg9 hat9 hlt9 kxn M9 s9 bl9 g9b hat HKH HLH HSH HMH HOWN HNB HV d0 d1 d2 d3 d4 d5 d6 kc kf
            go_wp2
            go_roundw
            case rel => exact ⟨m', g2, cp, n + 1, _, _, _, _, t3, by go_num, by omega, by omega, HKD9.out, by simpa using HK9.out, HM9.out, HS9.out, by omega⟩
            case measure => simp [intOf]
          · have hk1 : (k : Int) > 0 := by omega
            have hk2 : 0 < k := by omega
            have o6 := hcs.cell 6 rfl
            have f6 := hcs.fz 6 (by simp)
            have zOi : O < wr.heap.size := by omega
            have hpO1 : p + 1 ≤ O := by omega
            have hpB : p < wh.heap.size := by omega
            have hds : ds.length ≤ 19 := by omega
            have ht3' : t3 ≤ 1000000 := by omega
            have HO := hide own
            have HSI := hide hsr
            have HCS := hide hcs
            have HOUT := hide hout
            clear own hsr hcs hout
            go_wp2_with fail
            go_region_law (first
              | (refine step_append_lies _ rfl _ _ 29 rfl wh.heap.size 2 j0 (.int .i64 0) 1 8 Try.underlying29 hj hy0 hy1 hy2 rfl (by decide) v ds.length (ds.map (Value.int .i64)) rfl (HO1.out.alloc _) ⟨w7.heap.size, 0, none⟩ 1 1 [.int .i64 r] rfl rfl (one_new (by go_simp)) (by simp [Value.oneCell']) (by omega) (by unfold maxLen; omega) (by omega) (by simp; omega) (w7.heap.size + 1) (by simp) ?_; intro g7 cp7 w8 hown8 hgrow8 hat8 hlt8; have gv := grow_cell' HO1.out hgrow8 hz7 (q := ⟨O, 6, none⟩) zOh; rw [c6, f7] at gv; obtain ⟨gv1, gv2⟩ := gv)
              | (go_simp; go_at_call 37; refine (l1Next_calls p a len cap t3 9 _ (by decide) (by decide) ht3' (by first | exact HSI.out | exact HSI.out.below (Below.refl _ _).drew)).mono ?_; rintro e w7 ⟨r, rfl, _, _, s7, o7⟩; have o7' : Outside p (p + 1) wr w7 := (by first | exact o7 | exact Outside.trans (Outside.drew (Outside.refl _ _ _)) o7); have c6 := Outside.cell (q := ⟨O, 6, none⟩) o7' zOi hpO1 o6; have f7 := Outside.frozen (q := ⟨O, 6, none⟩) o7' zOi hpO1 f6; have HO1 := hide (owns_outside HO.out o7' hpB); have hz7 : wh.heap.size ≤ w7.heap.size := Nat.le_trans zi o7'.size; have zO7 : O < w7.heap.size := Nat.lt_of_lt_of_le zOi o7'.size; have S7 := hide s7; have O7 := hide o7'; clear s7 o7 o7'))
            all_goals (
              have eO : w8.heap[O]? = w7.heap[O]? := (hgrow8.block O (by simp; omega) (fun e => by have := (HO1.out.lt O e.symm).1; omega)).trans (Below.heap_alloc _ _ _ zO7)
              have bl : Below wh.heap.size w7 w8 := ((Below.refl wh.heap.size w7).alloc hz7 _).grown hgrow8 (by simp; omega) (fun q e => (HO1.out.lt q e).1)
              have cs9 := (Cs.loc w7 w8 (fun b hb _ => by (have e2 : b = O := (by have h1 := hb.1; have h2 := hb.2; omega)); rw [e2]; exact eO) (Cs.loc wr w7 (fun b hb hl => O7.out.block b hl (.inr (by have := hb.1; omega))) HCS.out)).set 6 (by simp) (.slice (some ⟨g7, 0, none⟩) (ds.length + 1) cp7)
              have ow9 := ownsRow_setCell_below (a := ⟨O, 6, none⟩) hown8 (by exact zOh) (.slice (some ⟨g7, 0, none⟩) (ds.length + 1) cp7)
              have ou9 : OutS (fun b => b = p ∨ b = O) wh (w8.setCell ⟨O, 6, none⟩ (.slice (some ⟨g7, 0, none⟩) (ds.length + 1) cp7)) := ⟨(bl.os.trans O7.out.os).trans HOUT.out.os, (bl.tape.trans O7.out.tape).trans HOUT.out.tape, (bl.output.trans O7.out.output).trans HOUT.out.output, by have h1 := bl.size; have h2 := O7.out.size; simp; omega, fun b hb hn => by
                rw [Below.heap_setCell _ _ _ _ (by show b ≠ O; exact fun e => hn (.inr e))]
                exact (bl.block b hb).trans ((O7.out.block b (by omega) (by by_cases e : b = p; exact absurd (.inl e) hn; omega)).trans (HOUT.out.block b hb hn))⟩
              have sr9 := (S7.out.belowB bl hpB).setCell (q := ⟨O, 6, none⟩) (by show p < O; omega) (.slice (some ⟨g7, 0, none⟩) (ds.length + 1) cp7)
              have HC9 := hide cs9
              have HW9 := hide ow9
              have HU9 := hide ou9
              have HR9 := hide sr9
              obtain ⟨k', rfl⟩ : ∃ k', k = k' + 1 := ⟨k - 1, by omega⟩
              clear cs9 ow9 ou9 sr9 eO bl hown8 hgrow8 hat8 hlt8 HCS HO HSI HOUT o6 f6 c6 f7
              go_wp2
              go_roundw
              case rel => exact ⟨k', _, ds ++ [r], t3 + 1, by go_num, by simp; omega, by rw [List.length_append, List.map_append]; exact HW9.out, HU9.out, HC9.out, HR9.out, by omega⟩
              case measure => simp [intOf])

end Go.Proofs.Ytpcdfeccmiiglaa
