import Derived.Test.YtipfaoecodclaaaKiD
import Derived.WalkKit
import Derived.ProofKit
import Derived.OpenShut
import Derived.ShutString
import Derived.ChangeOld
import Derived.Below
import Derived.WalkSpells
import Derived.Deep.QuietTactic
import Derived.BigQuiet
import Derived.Deep.RegionWith
import Derived.Deep.WholeRow
import Derived.Deep.DeepCutAuto
import Derived.Deep.RegionHeld2
import Derived.Deep.AppendLies
import Derived.Deep.RegionLaw
namespace Go.Proofs.Ytipfaoecodclaaa
open Go.ChangeShapes Go.WideShapes Go.ChangeAt Go.RowKit

theorem q1_bel {W X : World} {A0 : Addr} {v0 : Value} (h : X.cell? A0 = some v0 ∧ Below W.heap.size W X) : Below W.heap.size W X := h.2

theorem q1_below {W X Y : World} {A0 : Addr} {v0 : Value} (h0 : A0.block < W.heap.size) (h : X.cell? A0 = some v0 ∧ Below W.heap.size W X) (g : Below X.heap.size X Y) : Y.cell? A0 = some v0 ∧ Below W.heap.size W Y := by
  have hz := (h.2).size
  exact ⟨(g.cell (by omega)).trans h.1, (h.2).trans (g.mono hz)⟩

theorem q1_alloc {W X : World} {A0 : Addr} {v0 : Value} (h0 : A0.block < W.heap.size) (h : X.cell? A0 = some v0 ∧ Below W.heap.size W X) (o : Obj) : (X.alloc o).cell? A0 = some v0 ∧ Below W.heap.size W (X.alloc o) := q1_below h0 h ((Below.refl _ _).alloc (Nat.le_refl _) o)

theorem q1_allocd {W X : World} {A0 : Addr} {v0 : Value} (h0 : A0.block < W.heap.size) (h : X.drew.cell? A0 = some v0 ∧ Below W.heap.size W X.drew) (o : Obj) : (X.alloc o).drew.cell? A0 = some v0 ∧ Below W.heap.size W (X.alloc o).drew := q1_alloc h0 h o

theorem q1_set {W X : World} {A0 : Addr} {v0 : Value} (h0 : A0.block < W.heap.size) (h : X.cell? A0 = some v0 ∧ Below W.heap.size W X) {p : Addr} (hp : W.heap.size ≤ p.block) (y : Value) : (X.setCell p y).cell? A0 = some v0 ∧ Below W.heap.size W (X.setCell p y) :=
  ⟨(World.cell?_setCell_other _ _ _ _ (fun e => by rw [e] at hp; omega)).trans h.1, (h.2).setCell hp y⟩

theorem meth_box (v : Value) (W : World) : (method 224 96 v "loop.example/g00530/impl.used").run Try.prog W = .ok (95, v) W := by kernel_rfl
theorem meth_text (v : Value) (W : World) : (method 224 103 v "loop.example/g00530/impl.used").run Try.prog W = .ok (77, v) W := by kernel_rfl

theorem fullO_kids {f : Nat → OB} {n k : Nat} (h0 : (f 0).1 = -1) (h1 : (f k).2.2.1 = 1) : fullO f n k = decide ((f k).2.2.2.2.1 < qS (gO (kidX f (k : Int) n)) (kidX f (k : Int) n).length) := by
  rw [kidX_used (by rw [h0]; omega)]
  unfold fullO freeO
  rw [decide_eq_true h1, Bool.true_and]
  exact decide_eq_decide.2 (by omega)
theorem fullO_text {f : Nat → OB} {n k : Nat} (h1 : (f k).2.2.1 ≠ 1) : fullO f n k = false := by unfold fullO; simp [h1]

def rmF (f : Nat → OB) (n : Nat) : Int := if (List.range n).any (fullO f n) = true then 7 else 0

set_option maxRecDepth 100000 in
set_option maxHeartbeats 4000000 in
theorem roomFault_calls (a : Option Addr) (n c : Nat) (f : Nat → OB) (w : World) (hn : n ≤ 12) (hs : S7 w a n f) (h0 : (f 0).1 = -1) (hf : ∀ j, j < n → formB (f j) = true) (hq : ∀ j, j < n → 0 ≤ (f j).2.2.2.2.1 ∧ (f j).2.2.2.2.1 ≤ 200) (hd : ∀ j, j < n → (f j).2.2.1 ≠ 1 → ((f j).2.2.2.2.2.2.length : Int) ≤ (f j).2.2.2.2.1) : Calls Try.prog 52 #[.slice a n c] w fun e w' => e = .returned (.int .i64 (rmF f n)) ∧ Below w.heap.size w w' := by
  have HF := hide hf
  have HQ := hide hq
  have HD := hide hd
  have H0 := hide h0
  have HS := hide hs
  clear hf hq hd h0
  go_enter Try.func52, Try.ntmps52
  go_wp2
  go_loopw [7] (fun i wr => ∃ k : Nat, k ≤ n ∧ i = .int .i64 k ∧ Below w.heap.size w wr ∧ ∀ j, j < k → fullO f n j = false) (fun i _ => n - (intOf i).toNat)
  case atStart => exact ⟨0, Nat.zero_le _, rfl, Below.refl _ _, fun j hj => by omega⟩
  case round =>
    obtain ⟨k, hk, rfl, hbel, hno⟩ := hrel
    have Hno := hide hno
    clear hno
    by_cases hlt : k < n
    · obtain ⟨b, off, rfl, hb, hc⟩ := hs (by omega)
      obtain ⟨la, lc, da, dc, h7⟩ := hc k hlt
      obtain ⟨r0, r1, r2, r3, r4, r5, r6⟩ := h7.of_block (hbel.block b hb)
      have k0 : (0 : Int) ≤ (k : Int) := by omega
      have k1 : (k : Int) < (n : Int) := by omega
      obtain ⟨u, hu⟩ : ∃ u, u = wr.alloc (.cells #[.int .i64 (f k).1, .int .i64 (f k).2.1, .int .i64 (f k).2.2.1, .slice la (f k).2.2.2.1.length lc, .int .i64 (f k).2.2.2.2.1, .int .i64 (f k).2.2.2.2.2.1, .slice da (f k).2.2.2.2.2.2.length dc] 57) := ⟨_, rfl⟩
      have gu : Below w.heap.size w u := by rw [hu]; exact hbel.alloc hbel.size _
      have q4 : u.cell? ⟨wr.heap.size, 4, none⟩ = some (.int .i64 (f k).2.2.2.2.1) := by rw [hu]; go_simp
      have lP : wr.heap.size < u.heap.size := by rw [hu]; simp
      have HU := hide hu
      have HGU := hide gu
      have HC : Hid (∀ W, Below u.heap.size u W → Calls Try.prog 73 #[.slice (some ⟨b, off, none⟩) n c, .int .i64 (k : Int)] W fun e w' => ∃ da dc ka kc, e = .returned (ctV (f k) da dc ka (kidX f (k : Int) n).length kc) ∧ S7 w' ka (kidX f (k : Int) n).length (gO (kidX f (k : Int) n)) ∧ (∀ ad, ka = some ad → W.heap.size ≤ ad.block) ∧ Below W.heap.size W w') := fun W hW => contentAt_in (some ⟨b, off, none⟩) n c f k W hn (HS.out.below (HGU.out.trans (hW.mono HGU.out.size)) (Nat.le_refl _)) hlt
      have HS0 : Hid (u.drew.cell? ⟨wr.heap.size, 4, none⟩ = some (.int .i64 (f k).2.2.2.2.1) ∧ Below u.heap.size u u.drew) := ⟨q4, (Below.refl _ _).drew⟩
      clear h7 hc hbel gu hu hs
      have hmb := meth_box
      have hmt := meth_text
      by_cases h1 : (f k).2.2.1 = 1
      · have HV : Hid (∀ da dc ka kc, ctV (f k) da dc ka (kidX f (k : Int) n).length kc = .iface 96 (.agg #[.int .i64 (f k).2.2.2.2.2.1, .slice ka (kidX f (k : Int) n).length kc])) := fun da dc ka kc => ctV_box (HF.out k hlt) h1 _ _ _ _ _
        have HFU := hide (fullO_kids (n := n) H0.out h1)
        have HKL : Hid ((kidX f (k : Int) n).length ≤ 12) := Nat.le_trans (kidX_le _ _ _) hn
        have HKQ : Hid (∀ j, j < (kidX f (k : Int) n).length → 0 ≤ (gO (kidX f (k : Int) n) j).2.2.2.2.1 ∧ (gO (kidX f (k : Int) n) j).2.2.2.2.1 ≤ 200) := fun j hj => by
          obtain ⟨i, hi, e⟩ := kidX_at hj
          rw [← e]; exact HQ.out i hi
        clear h1
        go_upto_region 4 with fail
        rw [← HU.out]
        clear HU r0 r1 r2 r3 r4 r5 r6
        obtain ⟨us, hus⟩ : ∃ us, us = qS (gO (kidX f (k : Int) n)) (kidX f (k : Int) n).length := ⟨_, rfl⟩
        rw [← hus] at HFU
        have HUS := hide hus
        clear hus
        by_cases h2 : us > (f k).2.2.2.2.1
        · have HR : Hid (rmF f n = 7) := if_pos (any_range_yes hlt (by rw [HFU.out]; exact decide_eq_true h2))
          go_wp2_with fail
          go_region_held2 (fun X => X.cell? ⟨wr.heap.size, 4, none⟩ = some (.int .i64 (f k).2.2.2.2.1) ∧ Below u.heap.size u X)
            (first | with_reducible exact HS0.out | (repeat (first | with_reducible assumption | with_reducible exact HS0.out | with_reducible refine q1_allocd lP ?_ _ | with_reducible refine q1_alloc lP ?_ _)))
            (first | (go_at_call 73; refine (HC.out _ (q1_bel (by with_reducible assumption))).mono ?_; rintro e ws ⟨ra, rc, ka, kc, rfl, s7, _, gs⟩; have hss := q1_below lP (by with_reducible assumption) gs; rw [HV.out]; have h7 := hide s7; clear gs s7) | (go_at_call 95; refine (boxUsed_calls _ _ _ _ _ _ HKL.out h7.out HKQ.out).mono ?_; rintro e ws2 ⟨rfl, gs⟩; have hss2 := q1_below lP (by with_reducible assumption) gs; clear gs))
          all_goals (
            rw [← HUS.out] at *
            go_wp2
            go_ret
            exact ⟨ret_int HR.out.symm, HGU.out.trans ((q1_bel (by with_reducible assumption)).mono HGU.out.size)⟩)
        · have HN : Hid (∀ j, j < k + 1 → fullO f n j = false) := fun j hj => by
            by_cases e0 : j = k
            · subst e0; rw [HFU.out]; exact decide_eq_false (by omega)
            · exact Hno.out j (by omega)
          go_wp2_with fail
          go_region_held2 (fun X => X.cell? ⟨wr.heap.size, 4, none⟩ = some (.int .i64 (f k).2.2.2.2.1) ∧ Below u.heap.size u X)
            (first | with_reducible exact HS0.out | (repeat (first | with_reducible assumption | with_reducible exact HS0.out | with_reducible refine q1_allocd lP ?_ _ | with_reducible refine q1_alloc lP ?_ _)))
            (first | (go_at_call 73; refine (HC.out _ (q1_bel (by with_reducible assumption))).mono ?_; rintro e ws ⟨ra, rc, ka, kc, rfl, s7, _, gs⟩; have hss := q1_below lP (by with_reducible assumption) gs; rw [HV.out]; have h7 := hide s7; clear gs s7) | (go_at_call 95; refine (boxUsed_calls _ _ _ _ _ _ HKL.out h7.out HKQ.out).mono ?_; rintro e ws2 ⟨rfl, gs⟩; have hss2 := q1_below lP (by with_reducible assumption) gs; clear gs))
          all_goals (
            rw [← HUS.out] at *
            have HBX := hide (HGU.out.trans ((q1_bel (by with_reducible assumption)).mono HGU.out.size))
            go_wp2
            go_roundw
            case rel => exact ⟨k + 1, by omega, by go_num, HBX.out, HN.out⟩
            case measure => simp [intOf]; omega)
      · have HV : Hid (∀ da dc ka kc, ctV (f k) da dc ka (kidX f (k : Int) n).length kc = .iface 103 (.agg #[.slice da (f k).2.2.2.2.2.2.length dc])) := fun da dc ka kc => ctV_text (HF.out k hlt) h1 _ _ _ _ _
        have hnd := HD.out k hlt h1
        have hng : ¬ (((f k).2.2.2.2.2.2.length : Int) > (f k).2.2.2.2.1) := by omega
        have HN : Hid (∀ j, j < k + 1 → fullO f n j = false) := fun j hj => by
          by_cases e0 : j = k
          · subst e0; exact fullO_text h1
          · exact Hno.out j (by omega)
        clear h1 hnd
        go_upto_region 4 with fail
        rw [← HU.out]
        clear HU r0 r1 r2 r3 r4 r5 r6
        go_wp2_with fail
        go_region_held2 (fun X => X.cell? ⟨wr.heap.size, 4, none⟩ = some (.int .i64 (f k).2.2.2.2.1) ∧ Below u.heap.size u X)
          (first | with_reducible exact HS0.out | (repeat (first | with_reducible assumption | with_reducible exact HS0.out | with_reducible refine q1_allocd lP ?_ _ | with_reducible refine q1_alloc lP ?_ _)))
          (first | (go_at_call 73; refine (HC.out _ (q1_bel (by with_reducible assumption))).mono ?_; rintro e ws ⟨ra, rc, ka, kc, rfl, s7, _, gs⟩; have hss := q1_below lP (by with_reducible assumption) gs; rw [HV.out]; have h7 := hide s7; clear gs s7) | (go_at_call 77; refine (textUsed_calls _ _ _ _).mono ?_; rintro e ws2 ⟨rfl, gs⟩; have hss2 := q1_below lP (by with_reducible assumption) gs; clear gs))
        all_goals (
          have HBX := hide (HGU.out.trans ((q1_bel (by with_reducible assumption)).mono HGU.out.size))
          go_wp2
          go_roundw
          case rel => exact ⟨k + 1, by omega, by go_num, HBX.out, HN.out⟩
          case measure => simp [intOf]; omega)
    · have HR : Hid (rmF f n = 0) := if_neg (by rw [any_range_no (fun j hj => Hno.out j (by omega))]; simp)
      clear hs
      go_wp2
      go_ret
      exact ⟨ret_int HR.out.symm, hbel⟩

end Go.Proofs.Ytipfaoecodclaaa
