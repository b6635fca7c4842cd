import Derived.Test.YtpcdfeccmiiglaaKgS
import Derived.Test.YtpcdfeccmiiglaaCsK
import Derived.Test.YtpcdfeccmiiglaaApp
import Derived.Deep.AppendLies
import Derived.WalkKit
import Derived.ProofKit
import Derived.OpenShut
import Derived.ShutString
import Derived.ChangeOld
import Derived.Below
import Derived.WalkSpells
import Derived.Deep.QuietTactic
import Derived.BigQuiet
import Derived.Deep.RegionWith
import Derived.Deep.WholeRow
import Derived.Deep.DeepCutAuto
import Derived.Deep.RegionHeld2
import Derived.Deep.AppendLies
import Derived.Deep.RegionLaw
namespace Go.Proofs.Ytpcdfeccmiiglaa
open Go.ChangeShapes Go.WideShapes Go.ChangeAt Go.RowKit

theorem ownR_below {w w' : World} {B n size : Nat} {e : TypeId} {v : Value} {xs : List Value} (h : w.ownsRow B e size v n xs) (hb : Below w.heap.size w w') : w'.ownsRow B e size v n xs := by
  refine ⟨h.1, ?_⟩
  rcases h.2 with h' | ⟨g, cap, cur, h', hB, hg, r⟩
  · exact .inl h'
  · exact .inr ⟨g, cap, cur, h', hB, (hb.block g (Array.getElem?_eq_some_iff.1 hg).1).trans hg, r⟩

theorem kidO_next_y {f : Nat → OB} {p : Int} {k : Nat} (h1 : 1 ≤ k) (h : (f k).1 = p) : kidO f p (k + 1) = kidO f p k ++ [(f k).2.1] := by
  show kidO f p k ++ (if 1 ≤ k ∧ (f k).1 = p then [(f k).2.1] else []) = _
  rw [if_pos ⟨h1, h⟩]
theorem kidO_next_n {f : Nat → OB} {p : Int} {k : Nat} (h : (f k).1 ≠ p) : kidO f p (k + 1) = kidO f p k := by
  show kidO f p k ++ (if 1 ≤ k ∧ (f k).1 = p then [(f k).2.1] else []) = _
  rw [if_neg (fun e => h e.2), List.append_nil]

theorem ownR_set {w : World} {B e s : Nat} {v : Value} {k : Nat} {xs : List Value} (h : w.ownsRow B e s v k xs) {P o : Nat} (hP : P < B) (y : Value) : (w.setCell ⟨P, o, none⟩ y).ownsRow B e s v k xs := by
  refine ⟨h.1, ?_⟩
  rcases h.2 with h' | ⟨g, cap, cur, h', hB, hg, r⟩
  · exact .inl h'
  · exact .inr ⟨g, cap, cur, h', hB, (Below.heap_setCell _ _ _ _ (by show g ≠ P; omega)).trans hg, r⟩

theorem Mm.grownN {w u X w1 : World} {cs : List (Nat × Nat × Value)} {fs : List (Nat × Nat × (World → Prop))} (h : Mm w u cs fs) (hc : Below u.heap.size u X) {row : Option Nat} (hg : X.grownBy w1 row) {B : Nat} (hB : w.heap.size ≤ B) (hBu : B ≤ u.heap.size) (hrow : ∀ q, row = some q → B ≤ q)
    (hcs : ∀ c ∈ cs, c.1 < B) (hfs : ∀ f ∈ fs, f.2.1 ≤ B) : Mm w w1 cs fs := by
  have hsz := hc.size
  have hgs := hg.size
  have far : ∀ q, q < B → w1.heap[q]? = u.heap[q]? := fun q hq => (hg.block q (by omega) (fun e => by have := hrow q e.symm; omega)).trans (hc.block q (by omega))
  refine ⟨(h.bel.trans (hc.mono h.bel.size)).grown hg (by have := h.bel.size; omega) (fun g hg' => by have := hrow g hg'; omega), fun c k => ?_, fun f k => ?_⟩
  · have h1 := h.cells c k
    have e := far c.1 (hcs c k)
    exact ⟨by omega, (World.cell?_of_block (a := ⟨c.1, c.2.1, none⟩) e).trans h1.2.1, (World.frozen?_of_block (a := ⟨c.1, c.2.1, none⟩) e).trans h1.2.2⟩
  · have h1 := h.facts f k
    refine ⟨h1.1, h1.1 u w1 (fun q hq _ => far q ?_) h1.2⟩
    have := hq.2
    have := hfs f k
    omega

set_option maxRecDepth 100000 in
set_option maxHeartbeats 4000000 in
theorem specKidsOf_calls (a : Option Addr) (n c : Nat) (xs : List OB) (i : Int) (w : World) (hm : n ≤ maxLen) (hs : Sob w a n xs) (_hcap : n ≤ c) : Calls Try.prog 17 #[.agg #[.slice a n c], .int .i64 i] w fun e w' => ∃ ra rn rc, e = .returned (.agg #[.int .i64 (boxC xs i), .slice ra rn rc]) ∧ OS (InR w.heap.size w'.heap.size) ra rn (kidL xs i) w' ∧ Below w.heap.size w w' := by
  have M0 := ((Mm.start w).allocC [.slice a n c] 26).allocC [.int .i64 0, .slice none 0 0] 31
  simp only [World.size_alloc] at M0
  have HK : Hid (KR w.heap.size a n c xs ((w.alloc (.cells #[.slice a n c] 26)).alloc (.cells #[.int .i64 0, .slice none 0 0] 31))) := ⟨by simp; omega, (M0.get 1 rfl).cell 0 rfl, hm, hs.below M0.bel (Nat.le_refl _)⟩
  obtain ⟨i0, hi, hz0, hz1, hz2⟩ := info_parts info2
  go_enter Try.func17, Try.ntmps17
  go_wp2_with fail
  refine (l11Box_calls _ a n c xs i _ HK.out).mono ?_
  rintro e w1 ⟨rfl, g1⟩
  have z1 : w.heap.size + 2 ≤ w1.heap.size := by have := g1.size; simpa using this
  have M1 := M0.below g1
  clear M0 g1 HK
  by_cases h1 : boxC xs i = 0
  rotate_left
  · have HV : Hid (kidL xs i = []) := if_neg h1
    have e1 : (boxC xs i != 0) = true := by simpa using h1
    have r0 := (M1.get 0 rfl).cell 0 rfl
    have r1 := (M1.get 0 rfl).cell 1 rfl
    have f0 := (M1.get 0 rfl).fz 0 (by simp)
    have f1 := (M1.get 0 rfl).fz 1 (by simp)
    have HB := hide M1.bel
    clear h1 M1
    go_wp2
    refine bodyPost_ret (v := .agg #[.int .i64 (boxC xs i), .slice none 0 0]) (by simp [results, Try.results17, go_sem, r0, r1]) rfl ⟨none, 0, 0, rfl, ?_, (HB.out.setCell (by simp) _).setCell (by simp) _⟩
    rw [HV.out]
    exact ⟨rfl, by omega, .inl rfl⟩
  have e1 : (boxC xs i != 0) = false := by simp [h1]
  have HV : Hid (kidL xs i = kidO (gO xs) i n) := by show _ = _; unfold kidL; rw [if_pos h1, hs.1]
  obtain ⟨h2, _⟩ := boxC_inv h1
  obtain ⟨h3, hi0, hi1⟩ := askC_inv h2
  obtain ⟨hn1, h12, _, _⟩ := kerF_inv h3
  have hlen := hs.1
  have HC := hide h1
  have hn12 : n ≤ 12 := by omega
  have hn1' : 1 ≤ n := by omega
  clear h1 h2 h3 hi1
  obtain ⟨u, hu⟩ : ∃ y, y = w1.alloc (.cells #[.int .i64 0, .slice none 0 0] 31) := ⟨_, rfl⟩
  have N2 := M1.allocC [.int .i64 0, .slice none 0 0] 31
  rw [← hu] at N2
  have zu : u.heap.size = w1.heap.size + 1 := by rw [hu]; simp
  have HN2 := hide N2
  have Hu := hide hu
  obtain ⟨b, off, ea, hb, hc⟩ := hs.2 (by omega)
  have HEA := hide ea
  clear N2 M1 hu ea
  go_upto_region 5 with fail
  rw [← Hu.out]
  clear Hu
  go_wp2
  go_loopw [7] (fun q wr => ∃ (k : Nat) (v : Value), 1 ≤ k ∧ k ≤ n ∧ q = .int .i64 k ∧ wr.ownsRow u.heap.size 2 1 v (kidO (gO xs) i k).length ((kidO (gO xs) i k).map (Value.int .i64)) ∧ Mm w wr [] [(w1.heap.size, w1.heap.size + 1, Cs w1.heap.size [.int .i64 0, v]), (w.heap.size + 1, w.heap.size + 1 + 1, Cs (w.heap.size + 1) [.int .i64 0, .slice none 0 0]), (w.heap.size, w.heap.size + 1, Cs w.heap.size [.slice a n c])] ∧ u.heap.size ≤ wr.heap.size) (fun q _ => n - (intOf q).toNat)
  case atStart => exact ⟨1, _, Nat.le_refl _, by omega, rfl, by simp [kidO]; exact World.ownsRow_nil _ _ _ _, HN2.out, Nat.le_refl _⟩
  case round =>
    clear HN2
    obtain ⟨k, v, hk1, hkn, rfl, own, M, hB⟩ := hrel
    have d0 := (M.get 2 rfl).cell 0 rfl
    rw [HEA.out] at d0
    have o1 := (M.get 0 rfl).cell 1 rfl
    have o0 := (M.get 0 rfl).cell 0 rfl
    have p1 := (M.get 0 rfl).fz 1 (by simp)
    have HM := hide M
    have hbel := M.bel
    have hkl := kidO_le (gO xs) i k
    have l1 : w1.heap.size < wr.heap.size := by omega
    have l0 : w.heap.size < wr.heap.size := by omega
    have lb : b < wr.heap.size := by omega
    by_cases hlt : k < n
    · obtain ⟨_, _, _, _, ⟨t0, t1, _, _, _, _, _⟩, _⟩ := hc k hlt
      have u0 := (hbel.cell (p := ⟨b, off + k * 7, none⟩) hb).trans t0
      have u1 := (hbel.cell (p := ⟨b, off + k * 7 + 1, none⟩) hb).trans t1
      have k0 : (0 : Int) ≤ (k : Int) := by omega
      have k1 : (k : Int) < (n : Int) := by omega
      clear t0 t1 hbel M
      by_cases h2 : (gO xs k).1 = i
      · have e2 : ((gO xs k).1 == i) = true := by simpa using h2
        have HN := hide (kidO_next_y (f := gO xs) hk1 h2)
        have HC1 : Hid (Below wr.heap.size wr (wr.drew.alloc (.cells #[.int .i64 (gO xs k).2.1] 2))) := (Below.refl wr.heap.size wr).drew.alloc (by simp) _
        have HW := hide own
        clear h2 own
        go_wp2_with fail
        go_region_law (first
          | (refine step_append_lies _ rfl _ _ 29 rfl u.heap.size 2 i0 (.int .i64 0) 1 8 Try.underlying29 hi hz0 hz1 hz2 rfl (by decide) v _ _ rfl (ownR_below HW.out HC1.out) ⟨wr.heap.size, 0, none⟩ 1 1 [.int .i64 (gO xs k).2.1] rfl rfl (one_new (by go_simp)) (by simp [Value.oneCell']) (by omega) (by unfold maxLen; omega) (by omega) (by simp; omega) (wr.heap.size + 1) (by simp) ?_; intro g cp w5 hown1 hgrow hat hlt1; have MG := HM.out.grownN HC1.out hgrow (B := u.heap.size) (by omega) hB (fun q e => (HW.out.lt q e).1) (by simp) (by simp <;> omega); have s1 := (MG.get 0 rfl).cell 1 rfl; have x1 := (MG.get 0 rfl).fz 1 (by simp); have HMG := hide MG; have HOW := hide hown1; have hz3 := hgrow.size; clear hown1 hgrow hat MG))
        all_goals (
          have MP := HMG.out.put 0 rfl 1 (by simp) (.slice (some ⟨g, 0, none⟩) ((kidO (gO xs) i k).length + 1) cp) (by omega) (by simp) (by simp <;> omega)
          simp only [List.set] at MP
          have HMP := hide MP
          have HOW2 := hide (ownR_set HOW.out (P := w1.heap.size) (o := 1) (by omega) (.slice (some ⟨g, 0, none⟩) ((kidO (gO xs) i k).length + 1) cp))
          clear MP HMG HOW
          go_wp2
          go_roundw
          case rel => exact ⟨k + 1, _, by omega, by omega, by go_num, by rw [HN.out, List.length_append, List.map_append]; exact HOW2.out, HMP.out, by simp; simp at hz3; omega⟩
          case measure => simp [intOf]; omega)
      · have e2 : ((gO xs k).1 == i) = false := by simpa using h2
        have HN := hide (kidO_next_n (f := gO xs) h2)
        have HW := hide own
        clear h2 own
        go_wp2
        go_roundw
        case rel => exact ⟨k + 1, v, by omega, by omega, by go_num, by rw [HN.out]; exact HW.out, HM.out, hB⟩
        case measure => simp [intOf]; omega
    · have ek : n = k := by omega
      subst ek
      obtain ⟨ra, rc, rfl, fr⟩ := owns_osl (by omega) own
      have M5 := M.fact OS.loc (OS.ofOSl fr)
      have c0_ := (M5.get 2 rfl).cell 0 rfl
      have c1_ := (M5.get 2 rfl).cell 1 rfl
      have f0_ := (M5.get 2 rfl).fz 0 (by simp)
      have f1_ := (M5.get 2 rfl).fz 1 (by simp)
      have HB := hide M5.bel
      have HO := hide (M5.get 0 rfl)
      clear M M5 own fr HM hbel hlt hc
      go_wp2
      refine bodyPost_ret (v := .agg #[.int .i64 0, .slice ra (kidO (gO xs) i n).length rc]) (by simp [results, Try.results17, go_sem, c0_, c1_]) rfl ⟨ra, _, rc, by rw [HC.out], ?_, (HB.out.setCell (by simp) _).setCell (by simp) _⟩
      rw [HV.out]
      exact (OS.loc.setC (OS.loc.setC HO.out (fun h => by have := h.1; simp at this; omega) _) (fun h => by have := h.1; simp at this; omega) _).mono (fun q e => ⟨by have := e.1; omega, by have := e.2; simp; omega⟩)

end Go.Proofs.Ytpcdfeccmiiglaa
