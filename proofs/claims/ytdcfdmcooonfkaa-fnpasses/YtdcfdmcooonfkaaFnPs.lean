import Derived.Test.YtdcfdmcooonfkaaPsC
import Derived.WalkKit
import Derived.ProofKit
import Derived.OpenShut
import Derived.ShutString
import Derived.ChangeOld
import Derived.Below
import Derived.WalkSpells
import Derived.Deep.QuietTactic
import Derived.BigQuiet
import Derived.Deep.RegionWith
import Derived.Deep.WholeRow
import Derived.Deep.DeepCutAuto
import Derived.Deep.RegionHeld2
import Derived.Deep.AppendLies
import Derived.Deep.RegionLaw
namespace Go.Proofs.Ytdcfdmcooonfkaa
open Go.ChangeShapes Go.WideShapes Go.ChangeAt Go.RowKit

theorem observe_as (a b : Option Addr) (la ca lb cb : Nat) (xs ys : List Int) (v : Bool) (w : World) (h : obsB xs ys = v) (hla : la ≤ maxLen) (hlb : lb ≤ maxLen) (hx : Sl w a la xs) (hy : Sl w b lb ys) :
    Calls Try.prog 16 #[.agg #[.slice a la ca], .agg #[.slice b lb cb]] w fun e w' => e = .returned (.bool v) ∧ Below w.heap.size w w' := h ▸ implCanObserve_calls a b la ca lb cb xs ys w hla hlb hx hy

theorem fault_as (a : Option Addr) (len cap : Nat) (zs : List Int) (w : World) (h : fault zs = 0) (hl : len ≤ maxLen) (hs : Sl w a len zs) :
    Calls Try.prog 22 #[.agg #[.slice a len cap]] w fun e w' => e = .returned (.int .i64 0) ∧ Below w.heap.size w w' := h ▸ implLabelFault_calls a len cap zs w hl hs

set_option maxRecDepth 100000 in
theorem passes_big (a : Option Addr) (len cap : Nat) (w : World) (hl : len ≤ maxLen) (hbig : 1048576 < len) :
    Calls Try.prog 3 #[.slice a len cap] w fun e w' => e = .returned (.bool true) ∧ Below w.heap.size w w' := by
  go_enter Try.func3, Try.ntmps3
  go_wp2_with fail
  refine (lwBig_calls a len cap _ hl).mono ?_
  rintro e w1 ⟨rfl, hw⟩
  obtain rfl : w = w1 := hw.symm
  clear hw
  rw [decide_eq_true (by omega)]
  go_wp2
  go_ret
  exact ⟨rfl, Below.refl _ _⟩

set_option maxRecDepth 100000 in
set_option maxHeartbeats 8000000 in
theorem passes_small (a : Option Addr) (len cap : Nat) (w : World) (hc : Cd w a len) :
    Calls Try.prog 3 #[.slice a len cap] w fun e w' => e = .returned (.bool true) ∧ Below w.heap.size w w' := by
  have hlm : len ≤ maxLen := by have := hc.1; unfold maxLen; omega
  have M0 := Mm.start w
  have fd0 := lrF0
  have fd1 := lrF1
  have fd2 := laF0
  go_enter Try.func3, Try.ntmps3
  go_wp2_with fail
  refine (lwBig_calls a len cap _ hlm).mono ?_
  rintro e w0 ⟨rfl, hw⟩
  obtain rfl : w = w0 := hw.symm
  rw [decide_eq_false (by have := hc.1; omega)]
  clear hw
  go_wp2_with fail
  refine (drawEnterPass_calls a len cap _ hc).mono ?_
  rintro e w1 ⟨pa, pn, pc, z, ga, gn, gc, y, rq, l, rk, x, rfl, fa, hpn4, fb, hgn4, fq, hl4, g1⟩
  have z1 := g1.size
  have M1 := (((((M0.below g1).fact FrS.loc fa).fact FrS.loc fb).fact FrS.loc fq).alloc2 (.slice pa pn pc) (.slice ga gn gc) 28).alloc1 (.slice rq l rk) 26
  simp only [World.size_alloc] at M1
  have hpn : pn ≤ maxLen := by unfold maxLen; omega
  have hgn : gn ≤ maxLen := by unfold maxLen; omega
  have hl : l ≤ maxLen := by unfold maxLen; omega
  clear M0 g1 fa fb fq
  go_wp2_with fail
  refine (implEnterPass_calls pa pn pc z ga gn gc y rq l rk x _ ⟨hpn, (M1.get 2 rfl).sl, hgn, (M1.get 1 rfl).sl⟩ hl (M1.get 0 rfl).sl).mono ?_
  rintro e w2 ⟨ea, en, ec, rfl, o2, g2⟩
  have z2 := g2.size
  simp only [World.size_alloc] at z2 o2
  have M2 := ((M1.below g2).fact OS.loc o2).alloc2 (.int .i64 (epC z y x)) (.slice ea en ec) 32
  have hem := osMax o2
  have hc2 := hc.below M2.bel
  clear M1 g2 o2
  go_wp2_with fail
  refine (drawTaintLabel_calls a len cap _ hc2).mono ?_
  rintro e w3 ⟨ra, n, rc, A, rb, m, rd, B, rfl, fa, hn4, fb, hm4, g3⟩
  have z3 := g3.size
  simp only [World.size_alloc] at z3 fa fb
  have M3 := ((((M2.below g3).fact FrS.loc fa).fact FrS.loc fb).alloc1 (.slice ra n rc) 26).alloc1 (.slice rb m rd) 26
  simp only [World.size_alloc] at M3
  have hn : n ≤ maxLen := by unfold maxLen; omega
  have hm : m ≤ maxLen := by unfold maxLen; omega
  clear M2 g3 fa fb hc2
  go_wp2_with fail
  refine (implTaintLabel_calls ra n rc A rb m rd B _ hn (M3.get 1 rfl).sl hm (M3.get 0 rfl).sl).mono ?_
  rintro e w4 ⟨ta, tn, tc, rfl, o4, g4⟩
  have z4 := g4.size
  simp only [World.size_alloc] at z4 o4
  have M4 := ((M3.below g4).fact OS.loc o4).alloc2 (.int .i64 (tlC A B)) (.slice ta tn tc) 32
  have htm := osMax o4
  clear M3 g4 o4
  have e1 : (tlC A B != tlC A B) = false := by simp
  have e2 : (psF z y != psF z y) = false := by simp
  obtain ⟨W, hW⟩ : ∃ W : World, W = w4.alloc (.cells #[.int .i64 (tlC A B), .slice ta tn tc] 32) := ⟨_, rfl⟩
  rw [← hW] at M4
  have HW := hide hW
  have lt0 : (Addr.mk (w4.heap.size) 0 none).block < W.heap.size := M4.lt 0 rfl
  have lt1 : (Addr.mk (w4.heap.size) 1 none).block < W.heap.size := M4.lt 1 rfl
  have lt2 : (Addr.mk (w3.heap.size + 1) 0 none).block < W.heap.size := M4.lt 2 rfl
  have lt3 : (Addr.mk (w3.heap.size) 0 none).block < W.heap.size := M4.lt 3 rfl
  have lt4 : (Addr.mk (w1.heap.size) 0 none).block < W.heap.size := M4.lt 7 rfl
  have lt5 : (Addr.mk (w1.heap.size) 1 none).block < W.heap.size := M4.lt 8 rfl
  have HM := hide M4
  have HTS := hide ((M4.get 0 rfl).sl)
  have HBS := hide ((M4.get 1 rfl).sl)
  have HAS := hide ((M4.get 2 rfl).sl)
  have HPP := hide (PR.mk hpn (M4.get 6 rfl).sl hgn (M4.get 5 rfl).sl)
  have HS0 : Hid (W.drew.cell? ⟨w4.heap.size, 0, none⟩ = some (.int .i64 (tlC A B)) ∧ W.drew.cell? ⟨w4.heap.size, 1, none⟩ = some (.slice ta tn tc) ∧ W.drew.cell? ⟨w3.heap.size + 1, 0, none⟩ = some (.slice rb m rd) ∧ W.drew.cell? ⟨w3.heap.size, 0, none⟩ = some (.slice ra n rc) ∧ W.drew.cell? ⟨w1.heap.size, 0, none⟩ = some (.slice pa pn pc) ∧ W.drew.cell? ⟨w1.heap.size, 1, none⟩ = some (.slice ga gn gc) ∧ Below W.heap.size W W.drew) := ⟨M4.cell 0 rfl, M4.cell 1 rfl, M4.cell 2 rfl, M4.cell 3 rfl, M4.cell 7 rfl, M4.cell 8 rfl, (Below.refl _ _).drew⟩
  clear M4 hW
  go_upto_region 7 with fail
  rw [← HW.out]
  go_cut [75] (fun v wd => v = .bool false ∧ Below W.heap.size W wd)
  case first =>
    by_cases hf : tlC A B = 0
    · have e3 : (tlC A B == 0) = true := by simp [hf]
      obtain ⟨hf1, hf2, hf3⟩ := tl_facts hf
      clear hf
      as_aux_lemma =>
        go_region_held2 (fun w' => w'.cell? ⟨w4.heap.size, 0, none⟩ = some (.int .i64 (tlC A B)) ∧ w'.cell? ⟨w4.heap.size, 1, none⟩ = some (.slice ta tn tc) ∧ w'.cell? ⟨w3.heap.size + 1, 0, none⟩ = some (.slice rb m rd) ∧ w'.cell? ⟨w3.heap.size, 0, none⟩ = some (.slice ra n rc) ∧ w'.cell? ⟨w1.heap.size, 0, none⟩ = some (.slice pa pn pc) ∧ w'.cell? ⟨w1.heap.size, 1, none⟩ = some (.slice ga gn gc) ∧ Below W.heap.size W w')
          (first | with_reducible exact HS0.out | with_reducible assumption)
          (first
            | (go_at_call 14; (with_reducible refine (specTaintLabel_calls ra n rc A rb m rd B _ hn ?_ hm ?_).mono ?_); exact HAS.out.below (q6_bel (by with_reducible assumption)) (Nat.le_refl _); exact HBS.out.below (q6_bel (by with_reducible assumption)) (Nat.le_refl _); rintro e y1 ⟨_, _, _, rfl, _, ga⟩; have hs1 := q6_below lt0 lt1 lt2 lt3 lt4 lt5 (by with_reducible assumption) ga; clear ga)
            | (go_at_call 15; (with_reducible refine (isBelow_as ra ta n rc tn tc A (tlL A B) true _ hf1 hn htm ?_ ?_).mono ?_); exact HAS.out.below (q6_bel (by with_reducible assumption)) (Nat.le_refl _); exact HTS.out.below (q6_bel (by with_reducible assumption)) (Nat.le_refl _); rintro e y1 ⟨rfl, ga⟩; have hs1 := q6_below lt0 lt1 lt2 lt3 lt4 lt5 (by with_reducible assumption) ga; clear ga)
            | (go_at_call 16; (with_reducible refine (observe_as ta rb tn tc m rd (tlL A B) B true _ hf2 htm hm ?_ ?_).mono ?_); exact HTS.out.below (q6_bel (by with_reducible assumption)) (Nat.le_refl _); exact HBS.out.below (q6_bel (by with_reducible assumption)) (Nat.le_refl _); rintro e y1 ⟨rfl, ga⟩; have hs1 := q6_below lt0 lt1 lt2 lt3 lt4 lt5 (by with_reducible assumption) ga; clear ga)
            | (go_at_call 13; (with_reducible refine (implTaintLabel_calls ta tn tc (tlL A B) rb m rd B _ htm ?_ hm ?_).mono ?_); exact HTS.out.below (q6_bel (by with_reducible assumption)) (Nat.le_refl _); exact HBS.out.below (q6_bel (by with_reducible assumption)) (Nat.le_refl _); rintro e y1 ⟨k1a, k1n, k1c, rfl, ok, ga⟩; have hs1 := q6_below lt0 lt1 lt2 lt3 lt4 lt5 (by with_reducible assumption) ga; have hk1 := osMax ok; have HK := hide ok.sl; clear ok; clear ga)
            | (go_at_call 17; (with_reducible refine (lwNums_as k1a ta k1n k1c tn tc _ (tlL A B) _ hf3 hk1 htm ?_ ?_).mono ?_); exact HK.out; exact HTS.out.below (q6_bel (by with_reducible assumption)) (Nat.le_refl _); rintro e y1 ⟨rfl, ga⟩; have hs1 := q6_below lt0 lt1 lt2 lt3 lt4 lt5 (by with_reducible assumption) ga; clear ga)
            | (go_at_call 18; (with_reducible refine (implPassFault_calls pa pn pc z ga gn gc y _ ?_).mono ?_); exact HPP.out.below (q6_bel (by with_reducible assumption)) (Nat.le_refl _); rintro e y1 ⟨rfl, ga⟩; have hs1 := q6_below lt0 lt1 lt2 lt3 lt4 lt5 (by with_reducible assumption) ga; clear ga)
            | (go_at_call 19; (with_reducible refine (specPassFault_calls pa pn pc z ga gn gc y _ ?_).mono ?_); exact HPP.out.below (q6_bel (by with_reducible assumption)) (Nat.le_refl _); rintro e y1 ⟨rfl, ga⟩; have hs1 := q6_below lt0 lt1 lt2 lt3 lt4 lt5 (by with_reducible assumption) ga; clear ga))
        all_goals go_wp2_with fail
        all_goals go_meet
        all_goals exact ⟨rfl, q6_bel hs1⟩
    · have e3 : (tlC A B == 0) = false := by simpa using hf
      clear hf
      as_aux_lemma =>
        refine wp_region_held_drew (S := (fun w' => w'.cell? ⟨w4.heap.size, 0, none⟩ = some (.int .i64 (tlC A B)) ∧ w'.cell? ⟨w4.heap.size, 1, none⟩ = some (.slice ta tn tc) ∧ w'.cell? ⟨w3.heap.size + 1, 0, none⟩ = some (.slice rb m rd) ∧ w'.cell? ⟨w3.heap.size, 0, none⟩ = some (.slice ra n rc) ∧ w'.cell? ⟨w1.heap.size, 0, none⟩ = some (.slice pa pn pc) ∧ w'.cell? ⟨w1.heap.size, 1, none⟩ = some (.slice ga gn gc) ∧ Below W.heap.size W w')) (by kernel_rfl) HS0.out (fun hHeld => ?_)
        refine wpAnyH_take (i := 0) (oi := { dst := some 30, op := Go.Op.fieldAddr 32 (Go.Operand.tmp 8) 0, type := 0, pos := "laws.go:681", after := #[], guard := none }) (v := ?_) rfl (by kernel_rfl) (by kernel_rfl) (by kernel_rfl) (fun _ _ _ h => h) (Or.inl ⟨by rfl, ?_⟩) (by assumption) ?_
        rotate_left
        · (intro w hSw; (try dsimp only at hSw); go_simp; (try with_reducible rfl))
        (try simp only [Act.put, List.setIfInBounds_toArray, List.set_cons_zero, List.set_cons_succ])
        refine wpAnyH_take (i := 1) (oi := { dst := some 31, op := Go.Op.load 2 (Go.Operand.tmp 30), type := 2, pos := "laws.go:681", after := #[{ on := 0, ground := Go.Ground.data }], guard := none }) (v := ?_) rfl (by kernel_rfl) (by kernel_rfl) (by kernel_rfl) (fun _ _ _ h => h) (Or.inl ⟨by rfl, ?_⟩) (by assumption) ?_
        rotate_left
        · (intro w hSw; (try dsimp only at hSw); go_simp; (try with_reducible rfl))
        (try simp only [Act.put, List.setIfInBounds_toArray, List.set_cons_zero, List.set_cons_succ])
        refine wpAnyH_take (i := 2) (oi := { dst := some 32, op := Go.Op.load 26 (Go.Operand.tmp 6), type := 26, pos := "laws.go:681", after := #[], guard := none }) (v := ?_) rfl (by kernel_rfl) (by kernel_rfl) (by kernel_rfl) (fun _ _ _ h => h) (Or.inl ⟨by rfl, ?_⟩) (by assumption) ?_
        rotate_left
        · (intro w hSw; (try dsimp only at hSw); go_simp; (try with_reducible rfl))
        (try simp only [Act.put, List.setIfInBounds_toArray, List.set_cons_zero, List.set_cons_succ])
        refine wpAnyH_take (i := 3) (oi := { dst := some 33, op := Go.Op.load 26 (Go.Operand.tmp 7), type := 26, pos := "laws.go:681", after := #[], guard := none }) (v := ?_) rfl (by kernel_rfl) (by kernel_rfl) (by kernel_rfl) (fun _ _ _ h => h) (Or.inl ⟨by rfl, ?_⟩) (by assumption) ?_
        rotate_left
        · (intro w hSw; (try dsimp only at hSw); go_simp; (try with_reducible rfl))
        (try simp only [Act.put, List.setIfInBounds_toArray, List.set_cons_zero, List.set_cons_succ])
        refine wpAnyH_ready (rs := [4]) (by kernel_rfl) (by simp) ?_
        refine AllReadyH.cons (o := { dst := some 34, op := Go.Op.call { callee := Go.Callee.value (Go.Operand.func 14), args := #[Go.Operand.tmp 32, Go.Operand.tmp 33], argTypes := #[26, 26] }, type := 32, pos := "laws.go:681", after := #[{ on := 2, ground := Go.Ground.data }, { on := 3, ground := Go.Ground.data }], guard := none }) rfl (fun K hK => ?_) AllReadyH.nil
        go_simp
        go_wp2_with (go_at_call 14; (with_reducible refine (specTaintLabel_calls ra n rc A rb m rd B _ hn ?_ hm ?_).mono ?_); exact HAS.out.below (q6_bel (by with_reducible assumption)) (Nat.le_refl _); exact HBS.out.below (q6_bel (by with_reducible assumption)) (Nat.le_refl _); rintro e y1 ⟨_, _, _, rfl, _, ga⟩; have hs1 := q6_below lt0 lt1 lt2 lt3 lt4 lt5 (by with_reducible assumption) ga; clear ga)
        refine hK.out _ _ hs1 (fun hHeld => ?_)
        clear hK K
        (try simp only [Act.put, List.setIfInBounds_toArray, List.set_cons_zero, List.set_cons_succ])
        refine wpAnyH_take (i := 5) (oi := { dst := some 35, op := Go.Op.field 32 (Go.Operand.tmp 34) 0, type := 2, pos := "laws.go:681", after := #[{ on := 4, ground := Go.Ground.data }], guard := none }) (v := ?_) rfl (by kernel_rfl) (by kernel_rfl) (by kernel_rfl) (fun _ _ _ h => h) (Or.inl ⟨by rfl, ?_⟩) (by assumption) ?_
        rotate_left
        · (intro w hSw; (try dsimp only at hSw); go_simp; (try with_reducible rfl))
        (try simp only [Act.put, List.setIfInBounds_toArray, List.set_cons_zero, List.set_cons_succ])
        refine wpAnyH_take (i := 6) (oi := { dst := some 36, op := Go.Op.binOp Go.BinOp.neq 2 (Go.Operand.tmp 31) (Go.Operand.tmp 35) 2, type := 4, pos := "laws.go:681", after := #[{ on := 1, ground := Go.Ground.data }, { on := 5, ground := Go.Ground.data }], guard := none }) (v := ?_) rfl (by kernel_rfl) (by kernel_rfl) (by kernel_rfl) (fun _ _ _ h => h) (Or.inl ⟨by rfl, ?_⟩) (by assumption) ?_
        rotate_left
        · (intro w hSw; (try dsimp only at hSw); go_simp; (try with_reducible rfl))
        (try simp only [Act.put, List.setIfInBounds_toArray, List.set_cons_zero, List.set_cons_succ])
        refine wpAnyH_take (i := 7) (oi := { dst := some 37, op := Go.Op.move (Go.Operand.tmp 36), type := 4, pos := "laws.go:681", after := #[{ on := 6, ground := Go.Ground.data }, { on := 4, ground := Go.Ground.chain }], guard := none }) (v := ?_) rfl (by kernel_rfl) (by kernel_rfl) (by kernel_rfl) (fun _ _ _ h => h) (Or.inl ⟨by rfl, ?_⟩) (by assumption) ?_
        rotate_left
        · (intro w hSw; (try dsimp only at hSw); go_simp; (try with_reducible rfl))
        (try simp only [Act.put, List.setIfInBounds_toArray, List.set_cons_zero, List.set_cons_succ])
        refine wpAnyH_take (i := 8) (oi := { dst := some 38, op := Go.Op.fieldAddr 32 (Go.Operand.tmp 8) 0, type := 0, pos := "laws.go:681", after := #[{ on := 7, ground := Go.Ground.guard }], guard := some (7, false) }) (v := ?_) rfl (by kernel_rfl) (by kernel_rfl) (by kernel_rfl) (fun _ _ _ h => h) (Or.inl ⟨by rfl, ?_⟩) (by assumption) ?_
        rotate_left
        · (intro w hSw; (try dsimp only at hSw); go_simp; (try with_reducible rfl))
        (try simp only [Act.put, List.setIfInBounds_toArray, List.set_cons_zero, List.set_cons_succ])
        refine wpAnyH_take (i := 9) (oi := { dst := some 39, op := Go.Op.load 2 (Go.Operand.tmp 38), type := 2, pos := "laws.go:681", after := #[{ on := 8, ground := Go.Ground.data }, { on := 7, ground := Go.Ground.guard }], guard := some (7, false) }) (v := ?_) rfl (by kernel_rfl) (by kernel_rfl) (by kernel_rfl) (fun _ _ _ h => h) (Or.inl ⟨by rfl, ?_⟩) (by assumption) ?_
        rotate_left
        · (intro w hSw; (try dsimp only at hSw); go_simp; (try with_reducible rfl))
        (try simp only [Act.put, List.setIfInBounds_toArray, List.set_cons_zero, List.set_cons_succ])
        refine wpAnyH_take (i := 10) (oi := { dst := some 40, op := Go.Op.binOp Go.BinOp.eql 2 (Go.Operand.tmp 39) (Go.Operand.const (Go.Value.int Go.IntKind.i64 0)) 2, type := 4, pos := "laws.go:681", after := #[{ on := 9, ground := Go.Ground.data }, { on := 7, ground := Go.Ground.guard }], guard := some (7, false) }) (v := ?_) rfl (by kernel_rfl) (by kernel_rfl) (by kernel_rfl) (fun _ _ _ h => h) (Or.inl ⟨by rfl, ?_⟩) (by assumption) ?_
        rotate_left
        · (intro w hSw; (try dsimp only at hSw); go_simp; (try with_reducible rfl))
        (try simp only [Act.put, List.setIfInBounds_toArray, List.set_cons_zero, List.set_cons_succ])
        refine wpAnyH_take (i := 11) (oi := { dst := some 41, op := Go.Op.move (Go.Operand.tmp 40), type := 4, pos := "laws.go:681", after := #[{ on := 10, ground := Go.Ground.data }, { on := 7, ground := Go.Ground.chain }, { on := 7, ground := Go.Ground.guard }], guard := some (7, false) }) (v := ?_) rfl (by kernel_rfl) (by kernel_rfl) (by kernel_rfl) (fun _ _ _ h => h) (Or.inl ⟨by rfl, ?_⟩) (by assumption) ?_
        rotate_left
        · (intro w hSw; (try dsimp only at hSw); go_simp; (try with_reducible rfl))
        (try simp only [Act.put, List.setIfInBounds_toArray, List.set_cons_zero, List.set_cons_succ])
        refine wpAnyH_take (i := 12) (oi := { dst := some 42, op := Go.Op.load 26 (Go.Operand.tmp 6), type := 26, pos := "laws.go:681", after := #[{ on := 11, ground := Go.Ground.guard }], guard := some (11, true) }) (v := undef) rfl (by kernel_rfl) (by kernel_rfl) (by kernel_rfl) (fun _ _ _ h => h) (Or.inr ⟨by rfl, rfl⟩) (by assumption) ?_
        (try simp only [Act.put, List.setIfInBounds_toArray, List.set_cons_zero, List.set_cons_succ])
        refine wpAnyH_take (i := 13) (oi := { dst := some 43, op := Go.Op.fieldAddr 32 (Go.Operand.tmp 8) 1, type := 0, pos := "laws.go:681", after := #[{ on := 11, ground := Go.Ground.guard }], guard := some (11, true) }) (v := undef) rfl (by kernel_rfl) (by kernel_rfl) (by kernel_rfl) (fun _ _ _ h => h) (Or.inr ⟨by rfl, rfl⟩) (by assumption) ?_
        (try simp only [Act.put, List.setIfInBounds_toArray, List.set_cons_zero, List.set_cons_succ])
        refine wpAnyH_take (i := 14) (oi := { dst := some 44, op := Go.Op.load 26 (Go.Operand.tmp 43), type := 26, pos := "laws.go:681", after := #[{ on := 13, ground := Go.Ground.data }, { on := 11, ground := Go.Ground.guard }], guard := some (11, true) }) (v := undef) rfl (by kernel_rfl) (by kernel_rfl) (by kernel_rfl) (fun _ _ _ h => h) (Or.inr ⟨by rfl, rfl⟩) (by assumption) ?_
        (try simp only [Act.put, List.setIfInBounds_toArray, List.set_cons_zero, List.set_cons_succ])
        refine wpAnyH_take (i := 15) (oi := { dst := some 45, op := Go.Op.call { callee := Go.Callee.value (Go.Operand.func 15), args := #[Go.Operand.tmp 42, Go.Operand.tmp 44], argTypes := #[26, 26] }, type := 4, pos := "laws.go:681", after := #[{ on := 12, ground := Go.Ground.data }, { on := 14, ground := Go.Ground.data }, { on := 11, ground := Go.Ground.chain }, { on := 11, ground := Go.Ground.guard }], guard := some (11, true) }) (v := undef) rfl (by kernel_rfl) (by kernel_rfl) (by kernel_rfl) (fun _ _ _ h => h) (Or.inr ⟨by rfl, rfl⟩) (by assumption) ?_
        (try simp only [Act.put, List.setIfInBounds_toArray, List.set_cons_zero, List.set_cons_succ])
        refine wpAnyH_take (i := 16) (oi := { dst := some 46, op := Go.Op.unOp Go.UnOp.not 4 (Go.Operand.tmp 45), type := 4, pos := "laws.go:681", after := #[{ on := 15, ground := Go.Ground.data }, { on := 11, ground := Go.Ground.guard }], guard := some (11, true) }) (v := undef) rfl (by kernel_rfl) (by kernel_rfl) (by kernel_rfl) (fun _ _ _ h => h) (Or.inr ⟨by rfl, rfl⟩) (by assumption) ?_
        (try simp only [Act.put, List.setIfInBounds_toArray, List.set_cons_zero, List.set_cons_succ])
        refine wpAnyH_take (i := 17) (oi := { dst := some 47, op := Go.Op.move (Go.Operand.tmp 46), type := 4, pos := "laws.go:681", after := #[{ on := 16, ground := Go.Ground.data }, { on := 15, ground := Go.Ground.chain }, { on := 11, ground := Go.Ground.guard }], guard := some (11, true) }) (v := undef) rfl (by kernel_rfl) (by kernel_rfl) (by kernel_rfl) (fun _ _ _ h => h) (Or.inr ⟨by rfl, rfl⟩) (by assumption) ?_
        (try simp only [Act.put, List.setIfInBounds_toArray, List.set_cons_zero, List.set_cons_succ])
        refine wpAnyH_take (i := 18) (oi := { dst := some 48, op := Go.Op.fieldAddr 32 (Go.Operand.tmp 8) 1, type := 0, pos := "laws.go:681", after := #[{ on := 17, ground := Go.Ground.guard }], guard := some (17, false) }) (v := undef) rfl (by kernel_rfl) (by kernel_rfl) (by kernel_rfl) (fun _ _ _ h => h) (Or.inr ⟨by rfl, rfl⟩) (by assumption) ?_
        (try simp only [Act.put, List.setIfInBounds_toArray, List.set_cons_zero, List.set_cons_succ])
        refine wpAnyH_take (i := 19) (oi := { dst := some 49, op := Go.Op.load 26 (Go.Operand.tmp 48), type := 26, pos := "laws.go:681", after := #[{ on := 18, ground := Go.Ground.data }, { on := 17, ground := Go.Ground.guard }], guard := some (17, false) }) (v := undef) rfl (by kernel_rfl) (by kernel_rfl) (by kernel_rfl) (fun _ _ _ h => h) (Or.inr ⟨by rfl, rfl⟩) (by assumption) ?_
        (try simp only [Act.put, List.setIfInBounds_toArray, List.set_cons_zero, List.set_cons_succ])
        refine wpAnyH_take (i := 20) (oi := { dst := some 50, op := Go.Op.load 26 (Go.Operand.tmp 7), type := 26, pos := "laws.go:681", after := #[{ on := 17, ground := Go.Ground.guard }], guard := some (17, false) }) (v := undef) rfl (by kernel_rfl) (by kernel_rfl) (by kernel_rfl) (fun _ _ _ h => h) (Or.inr ⟨by rfl, rfl⟩) (by assumption) ?_
        (try simp only [Act.put, List.setIfInBounds_toArray, List.set_cons_zero, List.set_cons_succ])
        refine wpAnyH_take (i := 21) (oi := { dst := some 51, op := Go.Op.call { callee := Go.Callee.value (Go.Operand.func 16), args := #[Go.Operand.tmp 49, Go.Operand.tmp 50], argTypes := #[26, 26] }, type := 4, pos := "laws.go:681", after := #[{ on := 19, ground := Go.Ground.data }, { on := 20, ground := Go.Ground.data }, { on := 17, ground := Go.Ground.chain }, { on := 17, ground := Go.Ground.guard }], guard := some (17, false) }) (v := undef) rfl (by kernel_rfl) (by kernel_rfl) (by kernel_rfl) (fun _ _ _ h => h) (Or.inr ⟨by rfl, rfl⟩) (by assumption) ?_
        (try simp only [Act.put, List.setIfInBounds_toArray, List.set_cons_zero, List.set_cons_succ])
        refine wpAnyH_take (i := 22) (oi := { dst := some 52, op := Go.Op.unOp Go.UnOp.not 4 (Go.Operand.tmp 51), type := 4, pos := "laws.go:681", after := #[{ on := 21, ground := Go.Ground.data }, { on := 17, ground := Go.Ground.guard }], guard := some (17, false) }) (v := undef) rfl (by kernel_rfl) (by kernel_rfl) (by kernel_rfl) (fun _ _ _ h => h) (Or.inr ⟨by rfl, rfl⟩) (by assumption) ?_
        (try simp only [Act.put, List.setIfInBounds_toArray, List.set_cons_zero, List.set_cons_succ])
        refine wpAnyH_take (i := 23) (oi := { dst := some 53, op := Go.Op.pick (Go.Operand.tmp 47) (Go.Operand.const (Go.Value.bool true)) (Go.Operand.tmp 52), type := 4, pos := "laws.go:681", after := #[{ on := 17, ground := Go.Ground.data }, { on := 22, ground := Go.Ground.data }, { on := 11, ground := Go.Ground.guard }], guard := some (11, true) }) (v := undef) rfl (by kernel_rfl) (by kernel_rfl) (by kernel_rfl) (fun _ _ _ h => h) (Or.inr ⟨by rfl, rfl⟩) (by assumption) ?_
        (try simp only [Act.put, List.setIfInBounds_toArray, List.set_cons_zero, List.set_cons_succ])
        refine wpAnyH_take (i := 24) (oi := { dst := some 54, op := Go.Op.move (Go.Operand.tmp 53), type := 4, pos := "laws.go:681", after := #[{ on := 23, ground := Go.Ground.data }, { on := 21, ground := Go.Ground.chain }, { on := 11, ground := Go.Ground.guard }], guard := some (11, true) }) (v := undef) rfl (by kernel_rfl) (by kernel_rfl) (by kernel_rfl) (fun _ _ _ h => h) (Or.inr ⟨by rfl, rfl⟩) (by assumption) ?_
        (try simp only [Act.put, List.setIfInBounds_toArray, List.set_cons_zero, List.set_cons_succ])
        refine wpAnyH_take (i := 25) (oi := { dst := some 55, op := Go.Op.fieldAddr 32 (Go.Operand.tmp 8) 1, type := 0, pos := "laws.go:681", after := #[{ on := 24, ground := Go.Ground.guard }], guard := some (24, false) }) (v := undef) rfl (by kernel_rfl) (by kernel_rfl) (by kernel_rfl) (fun _ _ _ h => h) (Or.inr ⟨by rfl, rfl⟩) (by assumption) ?_
        (try simp only [Act.put, List.setIfInBounds_toArray, List.set_cons_zero, List.set_cons_succ])
        refine wpAnyH_take (i := 26) (oi := { dst := some 56, op := Go.Op.load 26 (Go.Operand.tmp 55), type := 26, pos := "laws.go:681", after := #[{ on := 25, ground := Go.Ground.data }, { on := 24, ground := Go.Ground.guard }], guard := some (24, false) }) (v := undef) rfl (by kernel_rfl) (by kernel_rfl) (by kernel_rfl) (fun _ _ _ h => h) (Or.inr ⟨by rfl, rfl⟩) (by assumption) ?_
        (try simp only [Act.put, List.setIfInBounds_toArray, List.set_cons_zero, List.set_cons_succ])
        refine wpAnyH_take (i := 27) (oi := { dst := some 57, op := Go.Op.load 26 (Go.Operand.tmp 7), type := 26, pos := "laws.go:681", after := #[{ on := 24, ground := Go.Ground.guard }], guard := some (24, false) }) (v := undef) rfl (by kernel_rfl) (by kernel_rfl) (by kernel_rfl) (fun _ _ _ h => h) (Or.inr ⟨by rfl, rfl⟩) (by assumption) ?_
        (try simp only [Act.put, List.setIfInBounds_toArray, List.set_cons_zero, List.set_cons_succ])
        refine wpAnyH_take (i := 28) (oi := { dst := some 58, op := Go.Op.call { callee := Go.Callee.value (Go.Operand.func 13), args := #[Go.Operand.tmp 56, Go.Operand.tmp 57], argTypes := #[26, 26] }, type := 32, pos := "laws.go:681", after := #[{ on := 26, ground := Go.Ground.data }, { on := 27, ground := Go.Ground.data }, { on := 24, ground := Go.Ground.chain }, { on := 24, ground := Go.Ground.guard }], guard := some (24, false) }) (v := undef) rfl (by kernel_rfl) (by kernel_rfl) (by kernel_rfl) (fun _ _ _ h => h) (Or.inr ⟨by rfl, rfl⟩) (by assumption) ?_
        (try simp only [Act.put, List.setIfInBounds_toArray, List.set_cons_zero, List.set_cons_succ])
        refine wpAnyH_take (i := 29) (oi := { dst := some 59, op := Go.Op.field 32 (Go.Operand.tmp 58) 1, type := 26, pos := "laws.go:681", after := #[{ on := 28, ground := Go.Ground.data }, { on := 24, ground := Go.Ground.guard }], guard := some (24, false) }) (v := undef) rfl (by kernel_rfl) (by kernel_rfl) (by kernel_rfl) (fun _ _ _ h => h) (Or.inr ⟨by rfl, rfl⟩) (by assumption) ?_
        (try simp only [Act.put, List.setIfInBounds_toArray, List.set_cons_zero, List.set_cons_succ])
        refine wpAnyH_take (i := 30) (oi := { dst := some 60, op := Go.Op.field 26 (Go.Operand.tmp 59) 0, type := 24, pos := "laws.go:681", after := #[{ on := 29, ground := Go.Ground.data }, { on := 24, ground := Go.Ground.guard }], guard := some (24, false) }) (v := undef) rfl (by kernel_rfl) (by kernel_rfl) (by kernel_rfl) (fun _ _ _ h => h) (Or.inr ⟨by rfl, rfl⟩) (by assumption) ?_
        (try simp only [Act.put, List.setIfInBounds_toArray, List.set_cons_zero, List.set_cons_succ])
        refine wpAnyH_take (i := 31) (oi := { dst := some 61, op := Go.Op.fieldAddr 32 (Go.Operand.tmp 8) 1, type := 0, pos := "laws.go:681", after := #[{ on := 24, ground := Go.Ground.guard }], guard := some (24, false) }) (v := undef) rfl (by kernel_rfl) (by kernel_rfl) (by kernel_rfl) (fun _ _ _ h => h) (Or.inr ⟨by rfl, rfl⟩) (by assumption) ?_
        (try simp only [Act.put, List.setIfInBounds_toArray, List.set_cons_zero, List.set_cons_succ])
        refine wpAnyH_take (i := 32) (oi := { dst := some 62, op := Go.Op.fieldAddr 26 (Go.Operand.tmp 61) 0, type := 0, pos := "laws.go:681", after := #[{ on := 31, ground := Go.Ground.data }, { on := 24, ground := Go.Ground.guard }], guard := some (24, false) }) (v := undef) rfl (by kernel_rfl) (by kernel_rfl) (by kernel_rfl) (fun _ _ _ h => h) (Or.inr ⟨by rfl, rfl⟩) (by assumption) ?_
        (try simp only [Act.put, List.setIfInBounds_toArray, List.set_cons_zero, List.set_cons_succ])
        refine wpAnyH_take (i := 33) (oi := { dst := some 63, op := Go.Op.load 24 (Go.Operand.tmp 62), type := 24, pos := "laws.go:681", after := #[{ on := 32, ground := Go.Ground.data }, { on := 24, ground := Go.Ground.guard }], guard := some (24, false) }) (v := undef) rfl (by kernel_rfl) (by kernel_rfl) (by kernel_rfl) (fun _ _ _ h => h) (Or.inr ⟨by rfl, rfl⟩) (by assumption) ?_
        (try simp only [Act.put, List.setIfInBounds_toArray, List.set_cons_zero, List.set_cons_succ])
        refine wpAnyH_take (i := 34) (oi := { dst := some 64, op := Go.Op.call { callee := Go.Callee.value (Go.Operand.func 17), args := #[Go.Operand.tmp 60, Go.Operand.tmp 63], argTypes := #[24, 24] }, type := 4, pos := "laws.go:681", after := #[{ on := 30, ground := Go.Ground.data }, { on := 33, ground := Go.Ground.data }, { on := 28, ground := Go.Ground.chain }, { on := 24, ground := Go.Ground.guard }], guard := some (24, false) }) (v := undef) rfl (by kernel_rfl) (by kernel_rfl) (by kernel_rfl) (fun _ _ _ h => h) (Or.inr ⟨by rfl, rfl⟩) (by assumption) ?_
        (try simp only [Act.put, List.setIfInBounds_toArray, List.set_cons_zero, List.set_cons_succ])
        refine wpAnyH_take (i := 35) (oi := { dst := some 65, op := Go.Op.unOp Go.UnOp.not 4 (Go.Operand.tmp 64), type := 4, pos := "laws.go:681", after := #[{ on := 34, ground := Go.Ground.data }, { on := 24, ground := Go.Ground.guard }], guard := some (24, false) }) (v := undef) rfl (by kernel_rfl) (by kernel_rfl) (by kernel_rfl) (fun _ _ _ h => h) (Or.inr ⟨by rfl, rfl⟩) (by assumption) ?_
        (try simp only [Act.put, List.setIfInBounds_toArray, List.set_cons_zero, List.set_cons_succ])
        refine wpAnyH_take (i := 36) (oi := { dst := some 66, op := Go.Op.pick (Go.Operand.tmp 54) (Go.Operand.const (Go.Value.bool true)) (Go.Operand.tmp 65), type := 4, pos := "laws.go:681", after := #[{ on := 24, ground := Go.Ground.data }, { on := 35, ground := Go.Ground.data }, { on := 11, ground := Go.Ground.guard }], guard := some (11, true) }) (v := undef) rfl (by kernel_rfl) (by kernel_rfl) (by kernel_rfl) (fun _ _ _ h => h) (Or.inr ⟨by rfl, rfl⟩) (by assumption) ?_
        (try simp only [Act.put, List.setIfInBounds_toArray, List.set_cons_zero, List.set_cons_succ])
        refine wpAnyH_take (i := 37) (oi := { dst := some 67, op := Go.Op.pick (Go.Operand.tmp 41) (Go.Operand.tmp 66) (Go.Operand.const (Go.Value.bool false)), type := 4, pos := "laws.go:681", after := #[{ on := 11, ground := Go.Ground.data }, { on := 36, ground := Go.Ground.data }, { on := 7, ground := Go.Ground.guard }], guard := some (7, false) }) (v := ?_) rfl (by kernel_rfl) (by kernel_rfl) (by kernel_rfl) (fun _ _ _ h => h) (Or.inl ⟨by rfl, ?_⟩) (by assumption) ?_
        rotate_left
        · (intro w hSw; (try dsimp only at hSw); go_simp; (try with_reducible rfl))
        (try simp only [Act.put, List.setIfInBounds_toArray, List.set_cons_zero, List.set_cons_succ])
        refine wpAnyH_take (i := 38) (oi := { dst := some 68, op := Go.Op.pick (Go.Operand.tmp 37) (Go.Operand.const (Go.Value.bool true)) (Go.Operand.tmp 67), type := 4, pos := "laws.go:681", after := #[{ on := 7, ground := Go.Ground.data }, { on := 37, ground := Go.Ground.data }], guard := none }) (v := ?_) rfl (by kernel_rfl) (by kernel_rfl) (by kernel_rfl) (fun _ _ _ h => h) (Or.inl ⟨by rfl, ?_⟩) (by assumption) ?_
        rotate_left
        · (intro w hSw; (try dsimp only at hSw); go_simp; (try with_reducible rfl))
        (try simp only [Act.put, List.setIfInBounds_toArray, List.set_cons_zero, List.set_cons_succ])
        refine wpAnyH_take (i := 39) (oi := { dst := some 69, op := Go.Op.move (Go.Operand.tmp 68), type := 4, pos := "laws.go:681", after := #[{ on := 38, ground := Go.Ground.data }, { on := 34, ground := Go.Ground.chain }], guard := none }) (v := ?_) rfl (by kernel_rfl) (by kernel_rfl) (by kernel_rfl) (fun _ _ _ h => h) (Or.inl ⟨by rfl, ?_⟩) (by assumption) ?_
        rotate_left
        · (intro w hSw; (try dsimp only at hSw); go_simp; (try with_reducible rfl))
        (try simp only [Act.put, List.setIfInBounds_toArray, List.set_cons_zero, List.set_cons_succ])
        refine wpAnyH_take (i := 40) (oi := { dst := some 70, op := Go.Op.load 28 (Go.Operand.tmp 3), type := 28, pos := "laws.go:681", after := #[{ on := 39, ground := Go.Ground.guard }], guard := some (39, false) }) (v := ?_) rfl (by kernel_rfl) (by kernel_rfl) (by kernel_rfl) (fun _ _ _ h => h) (Or.inl ⟨by rfl, ?_⟩) (by assumption) ?_
        rotate_left
        · (intro w hSw; (try dsimp only at hSw); go_simp; (try with_reducible rfl))
        (try simp only [Act.put, List.setIfInBounds_toArray, List.set_cons_zero, List.set_cons_succ])
        refine wpAnyH_take (i := 42) (oi := { dst := some 72, op := Go.Op.load 28 (Go.Operand.tmp 3), type := 28, pos := "laws.go:681", after := #[{ on := 39, ground := Go.Ground.guard }], guard := some (39, false) }) (v := ?_) rfl (by kernel_rfl) (by kernel_rfl) (by kernel_rfl) (fun _ _ _ h => h) (Or.inl ⟨by rfl, ?_⟩) (by assumption) ?_
        rotate_left
        · (intro w hSw; (try dsimp only at hSw); go_simp; (try with_reducible rfl))
        (try simp only [Act.put, List.setIfInBounds_toArray, List.set_cons_zero, List.set_cons_succ])
        refine wpAnyH_ready (rs := [41]) (by kernel_rfl) (by simp) ?_
        refine AllReadyH.cons (o := { dst := some 71, op := Go.Op.call { callee := Go.Callee.value (Go.Operand.func 18), args := #[Go.Operand.tmp 70], argTypes := #[28] }, type := 2, pos := "laws.go:681", after := #[{ on := 40, ground := Go.Ground.data }, { on := 39, ground := Go.Ground.chain }, { on := 39, ground := Go.Ground.guard }], guard := some (39, false) }) rfl (fun K hK => ?_) AllReadyH.nil
        go_simp
        go_wp2_with (go_at_call 18; (with_reducible refine (implPassFault_calls pa pn pc z ga gn gc y _ ?_).mono ?_); exact HPP.out.below (q6_bel (by with_reducible assumption)) (Nat.le_refl _); rintro e y1 ⟨rfl, ga⟩; have hs1 := q6_below lt0 lt1 lt2 lt3 lt4 lt5 (by with_reducible assumption) ga; clear ga)
        refine hK.out _ _ hs1 (fun hHeld => ?_)
        clear hK K
        (try simp only [Act.put, List.setIfInBounds_toArray, List.set_cons_zero, List.set_cons_succ])
        refine wpAnyH_ready (rs := [43]) (by kernel_rfl) (by simp) ?_
        refine AllReadyH.cons (o := { dst := some 73, op := Go.Op.call { callee := Go.Callee.value (Go.Operand.func 19), args := #[Go.Operand.tmp 72], argTypes := #[28] }, type := 2, pos := "laws.go:681", after := #[{ on := 42, ground := Go.Ground.data }, { on := 41, ground := Go.Ground.chain }, { on := 39, ground := Go.Ground.guard }], guard := some (39, false) }) rfl (fun K hK => ?_) AllReadyH.nil
        go_simp
        go_wp2_with (go_at_call 19; (with_reducible refine (specPassFault_calls pa pn pc z ga gn gc y _ ?_).mono ?_); exact HPP.out.below (q6_bel (by with_reducible assumption)) (Nat.le_refl _); rintro e y1 ⟨rfl, ga⟩; have hs1 := q6_below lt0 lt1 lt2 lt3 lt4 lt5 (by with_reducible assumption) ga; clear ga)
        refine hK.out _ _ hs1 (fun hHeld => ?_)
        clear hK K
        (try simp only [Act.put, List.setIfInBounds_toArray, List.set_cons_zero, List.set_cons_succ])
        refine wpAnyH_take (i := 44) (oi := { dst := some 74, op := Go.Op.binOp Go.BinOp.neq 2 (Go.Operand.tmp 71) (Go.Operand.tmp 73) 2, type := 4, pos := "laws.go:681", after := #[{ on := 41, ground := Go.Ground.data }, { on := 43, ground := Go.Ground.data }, { on := 39, ground := Go.Ground.guard }], guard := some (39, false) }) (v := ?_) rfl (by kernel_rfl) (by kernel_rfl) (by kernel_rfl) (fun _ _ _ h => h) (Or.inl ⟨by rfl, ?_⟩) (by assumption) ?_
        rotate_left
        · (intro w hSw; (try dsimp only at hSw); go_simp; (try with_reducible rfl))
        (try simp only [Act.put, List.setIfInBounds_toArray, List.set_cons_zero, List.set_cons_succ])
        refine wpAnyH_take (i := 45) (oi := { dst := some 75, op := Go.Op.pick (Go.Operand.tmp 69) (Go.Operand.const (Go.Value.bool true)) (Go.Operand.tmp 74), type := 4, pos := "laws.go:681", after := #[{ on := 39, ground := Go.Ground.data }, { on := 44, ground := Go.Ground.data }], guard := none }) (v := ?_) rfl (by kernel_rfl) (by kernel_rfl) (by kernel_rfl) (fun _ _ _ h => h) (Or.inl ⟨by rfl, ?_⟩) (by assumption) ?_
        rotate_left
        · (intro w hSw; (try dsimp only at hSw); go_simp; (try with_reducible rfl))
        (try simp only [Act.put, List.setIfInBounds_toArray, List.set_cons_zero, List.set_cons_succ])
        refine wpAnyH_done (by kernel_rfl) ?_ _
        go_wp2_with fail
        go_meet
        exact ⟨rfl, q6_bel hs1⟩
  case rest =>
    obtain ⟨rfl, gc7⟩ := hcut
    obtain ⟨w5, rfl⟩ : ∃ x, x = wc := ⟨wc, rfl⟩
    have M5 := (HM.out.below gc7).sub (cs' := [(w2.heap.size, 0, .int .i64 (epC z y x)), (w2.heap.size, 1, .slice ea en ec), (w1.heap.size + 1, 0, .slice rq l rk), (w1.heap.size, 0, .slice pa pn pc), (w1.heap.size, 1, .slice ga gn gc)]) (fs' := [(w1.heap.size + 1 + 1, w2.heap.size, OS (InR (w1.heap.size + 1 + 1) w2.heap.size) ea en (epL z y x)), (w.heap.size, w1.heap.size, FrS (InR w.heap.size w1.heap.size) rq l x), (w.heap.size, w1.heap.size, FrS (InR w.heap.size w1.heap.size) ga gn y), (w.heap.size, w1.heap.size, FrS (InR w.heap.size w1.heap.size) pa pn z)]) (fun c h => List.mem_of_mem_drop (i := 4) h) (fun f h => List.mem_of_mem_drop (i := 3) h)
    clear gc7 HM HS0 lt0 lt1 lt2 lt3 lt4 lt5 HTS HBS HAS HPP HW e1 e2
    have v0 := M5.cell 0 rfl
    have v1 := M5.cell 1 rfl
    have v2 := M5.cell 2 rfl
    have v3 := M5.cell 3 rfl
    have v4 := M5.cell 4 rfl
    by_cases hq : epC z y x = 0
    rotate_left
    · have eq : (epC z y x != 0) = true := by simpa using hq
      have eA : (epC z y x == epC z y x) = true := by simp
      have hme := ep_me1 hq
      clear hq
      as_aux_lemma =>
        have lt0 : (Addr.mk (w2.heap.size) 0 none).block < w5.heap.size := M5.lt 0 rfl
        have lt1 : (Addr.mk (w1.heap.size + 1) 0 none).block < w5.heap.size := M5.lt 2 rfl
        have lt2 : (Addr.mk (w1.heap.size) 0 none).block < w5.heap.size := M5.lt 3 rfl
        have lt3 : (Addr.mk (w1.heap.size) 1 none).block < w5.heap.size := M5.lt 4 rfl
        have HM := hide M5
        have HQS := hide ((M5.get 1 rfl).sl)
        have HPP := hide (PR.mk hpn (M5.get 3 rfl).sl hgn (M5.get 2 rfl).sl)
        have HS0 : Hid (w5.drew.cell? ⟨w2.heap.size, 0, none⟩ = some (.int .i64 (epC z y x)) ∧ w5.drew.cell? ⟨w1.heap.size + 1, 0, none⟩ = some (.slice rq l rk) ∧ w5.drew.cell? ⟨w1.heap.size, 0, none⟩ = some (.slice pa pn pc) ∧ w5.drew.cell? ⟨w1.heap.size, 1, none⟩ = some (.slice ga gn gc) ∧ Below w5.heap.size w5 w5.drew) := ⟨M5.cell 0 rfl, M5.cell 2 rfl, M5.cell 3 rfl, M5.cell 4 rfl, (Below.refl _ _).drew⟩
        clear M5
        go_upto_region 10 with fail
        clear v0 v1 v2 v3 v4
        go_region_held2 (fun w' => w'.cell? ⟨w2.heap.size, 0, none⟩ = some (.int .i64 (epC z y x)) ∧ w'.cell? ⟨w1.heap.size + 1, 0, none⟩ = some (.slice rq l rk) ∧ w'.cell? ⟨w1.heap.size, 0, none⟩ = some (.slice pa pn pc) ∧ w'.cell? ⟨w1.heap.size, 1, none⟩ = some (.slice ga gn gc) ∧ Below w5.heap.size w5 w')
          (first | with_reducible exact HS0.out | with_reducible assumption)
          (first
            | (go_at_call 20; (with_reducible refine (specEnterPass_calls pa pn pc z ga gn gc y rq l rk x _ ?_ hl ?_).mono ?_); exact HPP.out.below (q4_bel (by with_reducible assumption)) (Nat.le_refl _); exact HQS.out.below (q4_bel (by with_reducible assumption)) (Nat.le_refl _); rintro e y1 ⟨_, _, _, rfl, _, ga⟩; have hs1 := q4_below lt0 lt1 lt2 lt3 (by with_reducible assumption) ga; clear ga)
            | (go_at_call 21; (with_reducible refine (mayEnter_as pa pn pc z ga gn gc y rq l rk x false _ hme ?_ hl ?_).mono ?_); exact HPP.out.below (q4_bel (by with_reducible assumption)) (Nat.le_refl _); exact HQS.out.below (q4_bel (by with_reducible assumption)) (Nat.le_refl _); rintro e y1 ⟨rfl, ga⟩; have hs1 := q4_below lt0 lt1 lt2 lt3 (by with_reducible assumption) ga; clear ga))
        all_goals (
          have HE := hide (HM.out.below (q4_bel hs1)).bel
          clear hs1 HS0 HM
          go_wp2
          go_ret
          exact ⟨rfl, HE.out⟩)
    have eq : (epC z y x != 0) = false := by simp [hq]
    obtain ⟨hps, hfx, _⟩ := ep_ok hq
    have hfz := (psF_zero hps).1
    obtain ⟨hfE, hlE⟩ := ep_fault hq
    have hLE := epL_ok hq
    have hme := ep_me0 hq
    have hag := ep_again hq
    rw [hLE] at M5
    obtain rfl : en = 4 := by have h1 := (M5.get 0 rfl).1; omega
    obtain rfl : l = 4 := fault_len4 hfx (M5.get 1 rfl).sl
    obtain rfl : pn = 4 := fault_len4 hfz (M5.get 3 rfl).sl
    have hxr := fun j (hj : j < 4) => fault_all hfx j (by have := fault_len hfx; omega)
    have hzr := fun j (hj : j < 4) => fault_all hfz j (by have := fault_len hfz; omega)
    have hgE := fun j (hj : j < 4) => gt_ent (B := z) (fault_len hfx) hj
    have HQ := hide hq
    have HFE := hide hfE
    have HME := hide hme
    have HAG := hide hag
    clear hq hps hfx hfz hfE hlE hLE hme hag
    go_wp2
    go_loopw [9] (fun j wr => ∃ k : Nat, k ≤ 4 ∧ j = .int .i64 (k : Int) ∧ Mm w wr [(w2.heap.size, 0, .int .i64 (epC z y x)), (w2.heap.size, 1, .slice ea 4 ec), (w1.heap.size + 1, 0, .slice rq 4 rk), (w1.heap.size, 0, .slice pa 4 pc), (w1.heap.size, 1, .slice ga gn gc)] [(w1.heap.size + 1 + 1, w2.heap.size, OS (InR (w1.heap.size + 1 + 1) w2.heap.size) ea 4 (mix ent x z)), (w.heap.size, w1.heap.size, FrS (InR w.heap.size w1.heap.size) rq 4 x), (w.heap.size, w1.heap.size, FrS (InR w.heap.size w1.heap.size) ga gn y), (w.heap.size, w1.heap.size, FrS (InR w.heap.size w1.heap.size) pa 4 z)]) (fun j _ => 4 - (intOf j).toNat)
    case atStart => exact ⟨0, Nat.zero_le _, rfl, M5⟩
    case round =>
      clear M5 v0 v1 v2 v3 v4
      obtain ⟨k, hk, rfl, M⟩ := hrel
      have v0 := M.cell 0 rfl
      have v1 := M.cell 1 rfl
      have v2 := M.cell 2 rfl
      have v3 := M.cell 3 rfl
      have v4 := M.cell 4 rfl
      by_cases hlt : k < 4
      · have k0 : (0 : Int) ≤ (k : Int) := by omega
        have k1 : (k : Int) < 4 := by omega
        obtain ⟨eb, eo, rfl, heb, hec⟩ := (M.get 0 rfl).sl.2 (by omega)
        obtain ⟨xb, xo, rfl, hxb, hxc⟩ := (M.get 1 rfl).sl.2 (by omega)
        obtain ⟨zb, zo, rfl, hzb, hzc⟩ := (M.get 3 rfl).sl.2 (by omega)
        have ce := hec k hlt
        have cx := hxc k hlt
        have cz := hzc k hlt
        rw [hgE k hlt] at ce
        have hx0 := (hxr k hlt).1
        have hz0 := (hzr k hlt).1
        have hez := ent_zero hx0 hz0
        have her := fun h1 h2 => ent_rest (a := gt x k) (b := gt z k) h1 h2
        have HR : Hid (∃ q : Nat, q ≤ 4 ∧ Value.int .i64 ((k : Int) + 1) = .int .i64 (q : Int)) := ⟨k + 1, by omega, by go_num⟩
        clear hec hxc hzc hx0 hz0
        by_cases a1 : gt x k = 0
        · have b1 : (gt x k == 0) = true := by simp [a1]
          have b2 : (ent (gt x k) (gt z k) == 0) = true := by rw [hez, b1]; rfl
          clear her hez a1
          as_aux_lemma =>
            have HM := hide M
            have HS0 : Hid (wr.drew.cell? ⟨w2.heap.size, 1, none⟩ = some (.slice (some ⟨eb, eo, none⟩) 4 ec) ∧ wr.drew.cell? ⟨w1.heap.size + 1, 0, none⟩ = some (.slice (some ⟨xb, xo, none⟩) 4 rk) ∧ wr.drew.cell? ⟨w1.heap.size, 0, none⟩ = some (.slice (some ⟨zb, zo, none⟩) 4 pc) ∧ wr.drew.cell? ⟨eb, eo + k, none⟩ = some (.int .i64 (ent (gt x k) (gt z k))) ∧ wr.drew.cell? ⟨xb, xo + k, none⟩ = some (.int .i64 (gt x k)) ∧ wr.drew.cell? ⟨zb, zo + k, none⟩ = some (.int .i64 (gt z k)) ∧ Below wr.heap.size wr wr.drew) := ⟨v1, v2, v3, ce, cx, cz, (Below.refl _ _).drew⟩
            have lt0 : (Addr.mk (w2.heap.size) 1 none).block < wr.heap.size := M.lt 1 rfl
            have lt1 : (Addr.mk (w1.heap.size + 1) 0 none).block < wr.heap.size := M.lt 2 rfl
            have lt2 : (Addr.mk (w1.heap.size) 0 none).block < wr.heap.size := M.lt 3 rfl
            have lt3 : (Addr.mk eb (eo + k) none).block < wr.heap.size := heb
            have lt4 : (Addr.mk xb (xo + k) none).block < wr.heap.size := hxb
            have lt5 : (Addr.mk zb (zo + k) none).block < wr.heap.size := hzb
            clear M
            go_upto_region 17 with fail
            clear v0 v1 v2 v3 v4 ce cx cz
            refine wp_region_held_drew (S := (fun w' => w'.cell? ⟨w2.heap.size, 1, none⟩ = some (.slice (some ⟨eb, eo, none⟩) 4 ec) ∧ w'.cell? ⟨w1.heap.size + 1, 0, none⟩ = some (.slice (some ⟨xb, xo, none⟩) 4 rk) ∧ w'.cell? ⟨w1.heap.size, 0, none⟩ = some (.slice (some ⟨zb, zo, none⟩) 4 pc) ∧ w'.cell? ⟨eb, eo + k, none⟩ = some (.int .i64 (ent (gt x k) (gt z k))) ∧ w'.cell? ⟨xb, xo + k, none⟩ = some (.int .i64 (gt x k)) ∧ w'.cell? ⟨zb, zo + k, none⟩ = some (.int .i64 (gt z k)) ∧ Below wr.heap.size wr w')) (by kernel_rfl) HS0.out (fun hHeld => ?_)
            refine wpAnyH_take (i := 0) (oi := { dst := some 129, op := Go.Op.move (Go.Operand.tmp 10), type := 4, pos := "laws.go:692", after := #[], guard := none }) (v := ?_) rfl (by kernel_rfl) (by kernel_rfl) (by kernel_rfl) (fun _ _ _ h => h) (Or.inl ⟨by rfl, ?_⟩) (by assumption) ?_
            rotate_left
            · (intro w hSw; (try dsimp only at hSw); go_simp; (try with_reducible rfl))
            (try simp only [Act.put, List.setIfInBounds_toArray, List.set_cons_zero, List.set_cons_succ])
            refine wpAnyH_take (i := 1) (oi := { dst := some 130, op := Go.Op.fieldAddr 32 (Go.Operand.tmp 5) 1, type := 0, pos := "laws.go:692", after := #[], guard := none }) (v := ?_) rfl (by kernel_rfl) (by kernel_rfl) (by kernel_rfl) (fun _ _ _ h => h) (Or.inl ⟨by rfl, ?_⟩) (by assumption) ?_
            rotate_left
            · (intro w hSw; (try dsimp only at hSw); go_simp; (try with_reducible rfl))
            (try simp only [Act.put, List.setIfInBounds_toArray, List.set_cons_zero, List.set_cons_succ])
            refine wpAnyH_take (i := 2) (oi := { dst := some 131, op := Go.Op.fieldAddr 26 (Go.Operand.tmp 130) 0, type := 0, pos := "laws.go:692", after := #[{ on := 1, ground := Go.Ground.data }], guard := none }) (v := ?_) rfl (by kernel_rfl) (by kernel_rfl) (by kernel_rfl) (fun _ _ _ h => h) (Or.inl ⟨by rfl, ?_⟩) (by assumption) ?_
            rotate_left
            · (intro w hSw; (try dsimp only at hSw); go_simp; (try with_reducible rfl))
            (try simp only [Act.put, List.setIfInBounds_toArray, List.set_cons_zero, List.set_cons_succ])
            refine wpAnyH_take (i := 3) (oi := { dst := some 132, op := Go.Op.load 24 (Go.Operand.tmp 131), type := 24, pos := "laws.go:692", after := #[{ on := 2, ground := Go.Ground.data }], guard := none }) (v := ?_) rfl (by kernel_rfl) (by kernel_rfl) (by kernel_rfl) (fun _ _ _ h => h) (Or.inl ⟨by rfl, ?_⟩) (by assumption) ?_
            rotate_left
            · (intro w hSw; (try dsimp only at hSw); go_simp; (try with_reducible rfl))
            (try simp only [Act.put, List.setIfInBounds_toArray, List.set_cons_zero, List.set_cons_succ])
            refine wpAnyH_take (i := 4) (oi := { dst := some 133, op := Go.Op.move (Go.Operand.tmp 9), type := 3, pos := "laws.go:692", after := #[], guard := none }) (v := ?_) rfl (by kernel_rfl) (by kernel_rfl) (by kernel_rfl) (fun _ _ _ h => h) (Or.inl ⟨by rfl, ?_⟩) (by assumption) ?_
            rotate_left
            · (intro w hSw; (try dsimp only at hSw); go_simp; (try with_reducible rfl))
            (try simp only [Act.put, List.setIfInBounds_toArray, List.set_cons_zero, List.set_cons_succ])
            refine wpAnyH_take (i := 5) (oi := { dst := some 134, op := Go.Op.indexAddr 24 (Go.Operand.tmp 132) (Go.Operand.tmp 133), type := 0, pos := "laws.go:692", after := #[{ on := 3, ground := Go.Ground.data }, { on := 4, ground := Go.Ground.data }], guard := none }) (v := ?_) rfl (by kernel_rfl) (by kernel_rfl) (by kernel_rfl) (fun _ _ _ h => h) (Or.inl ⟨by rfl, ?_⟩) (by assumption) ?_
            rotate_left
            · (intro w hSw; (try dsimp only at hSw); go_simp; (try with_reducible rfl))
            (try simp only [Act.put, List.setIfInBounds_toArray, List.set_cons_zero, List.set_cons_succ])
            refine wpAnyH_take (i := 6) (oi := { dst := some 135, op := Go.Op.load 2 (Go.Operand.tmp 134), type := 2, pos := "laws.go:692", after := #[{ on := 5, ground := Go.Ground.data }], guard := none }) (v := ?_) rfl (by kernel_rfl) (by kernel_rfl) (by kernel_rfl) (fun _ _ _ h => h) (Or.inl ⟨by rfl, ?_⟩) (by assumption) ?_
            rotate_left
            · (intro w hSw; (try dsimp only at hSw); go_simp; (try with_reducible rfl))
            (try simp only [Act.put, List.setIfInBounds_toArray, List.set_cons_zero, List.set_cons_succ])
            refine wpAnyH_take (i := 7) (oi := { dst := some 136, op := Go.Op.binOp Go.BinOp.eql 2 (Go.Operand.tmp 135) (Go.Operand.const (Go.Value.int Go.IntKind.i64 0)) 2, type := 4, pos := "laws.go:692", after := #[{ on := 6, ground := Go.Ground.data }], guard := none }) (v := ?_) rfl (by kernel_rfl) (by kernel_rfl) (by kernel_rfl) (fun _ _ _ h => h) (Or.inl ⟨by rfl, ?_⟩) (by assumption) ?_
            rotate_left
            · (intro w hSw; (try dsimp only at hSw); go_simp; (try with_reducible rfl))
            (try simp only [Act.put, List.setIfInBounds_toArray, List.set_cons_zero, List.set_cons_succ])
            refine wpAnyH_take (i := 8) (oi := { dst := some 137, op := Go.Op.binOp Go.BinOp.neq 4 (Go.Operand.tmp 129) (Go.Operand.tmp 136) 4, type := 4, pos := "laws.go:692", after := #[{ on := 0, ground := Go.Ground.data }, { on := 7, ground := Go.Ground.data }], guard := none }) (v := ?_) rfl (by kernel_rfl) (by kernel_rfl) (by kernel_rfl) (fun _ _ _ h => h) (Or.inl ⟨by rfl, ?_⟩) (by assumption) ?_
            rotate_left
            · (intro w hSw; (try dsimp only at hSw); go_simp; (try with_reducible rfl))
            (try simp only [Act.put, List.setIfInBounds_toArray, List.set_cons_zero, List.set_cons_succ])
            refine wpAnyH_take (i := 9) (oi := { dst := some 138, op := Go.Op.move (Go.Operand.tmp 137), type := 4, pos := "laws.go:692", after := #[{ on := 8, ground := Go.Ground.data }], guard := none }) (v := ?_) rfl (by kernel_rfl) (by kernel_rfl) (by kernel_rfl) (fun _ _ _ h => h) (Or.inl ⟨by rfl, ?_⟩) (by assumption) ?_
            rotate_left
            · (intro w hSw; (try dsimp only at hSw); go_simp; (try with_reducible rfl))
            (try simp only [Act.put, List.setIfInBounds_toArray, List.set_cons_zero, List.set_cons_succ])
            refine wpAnyH_take (i := 10) (oi := { dst := some 139, op := Go.Op.move (Go.Operand.tmp 10), type := 4, pos := "laws.go:692", after := #[{ on := 9, ground := Go.Ground.guard }], guard := some (9, false) }) (v := ?_) rfl (by kernel_rfl) (by kernel_rfl) (by kernel_rfl) (fun _ _ _ h => h) (Or.inl ⟨by rfl, ?_⟩) (by assumption) ?_
            rotate_left
            · (intro w hSw; (try dsimp only at hSw); go_simp; (try with_reducible rfl))
            (try simp only [Act.put, List.setIfInBounds_toArray, List.set_cons_zero, List.set_cons_succ])
            refine wpAnyH_take (i := 11) (oi := { dst := some 140, op := Go.Op.unOp Go.UnOp.not 4 (Go.Operand.tmp 139), type := 4, pos := "laws.go:692", after := #[{ on := 10, ground := Go.Ground.data }, { on := 9, ground := Go.Ground.guard }], guard := some (9, false) }) (v := ?_) rfl (by kernel_rfl) (by kernel_rfl) (by kernel_rfl) (fun _ _ _ h => h) (Or.inl ⟨by rfl, ?_⟩) (by assumption) ?_
            rotate_left
            · (intro w hSw; (try dsimp only at hSw); go_simp; (try with_reducible rfl))
            (try simp only [Act.put, List.setIfInBounds_toArray, List.set_cons_zero, List.set_cons_succ])
            refine wpAnyH_take (i := 12) (oi := { dst := some 141, op := Go.Op.move (Go.Operand.tmp 140), type := 4, pos := "laws.go:692", after := #[{ on := 11, ground := Go.Ground.data }, { on := 9, ground := Go.Ground.chain }, { on := 9, ground := Go.Ground.guard }], guard := some (9, false) }) (v := ?_) rfl (by kernel_rfl) (by kernel_rfl) (by kernel_rfl) (fun _ _ _ h => h) (Or.inl ⟨by rfl, ?_⟩) (by assumption) ?_
            rotate_left
            · (intro w hSw; (try dsimp only at hSw); go_simp; (try with_reducible rfl))
            (try simp only [Act.put, List.setIfInBounds_toArray, List.set_cons_zero, List.set_cons_succ])
            refine wpAnyH_take (i := 13) (oi := { dst := some 142, op := Go.Op.fieldAddr 32 (Go.Operand.tmp 5) 1, type := 0, pos := "laws.go:692", after := #[{ on := 12, ground := Go.Ground.guard }], guard := some (12, true) }) (v := undef) rfl (by kernel_rfl) (by kernel_rfl) (by kernel_rfl) (fun _ _ _ h => h) (Or.inr ⟨by rfl, rfl⟩) (by assumption) ?_
            (try simp only [Act.put, List.setIfInBounds_toArray, List.set_cons_zero, List.set_cons_succ])
            refine wpAnyH_take (i := 14) (oi := { dst := some 143, op := Go.Op.fieldAddr 26 (Go.Operand.tmp 142) 0, type := 0, pos := "laws.go:692", after := #[{ on := 13, ground := Go.Ground.data }, { on := 12, ground := Go.Ground.guard }], guard := some (12, true) }) (v := undef) rfl (by kernel_rfl) (by kernel_rfl) (by kernel_rfl) (fun _ _ _ h => h) (Or.inr ⟨by rfl, rfl⟩) (by assumption) ?_
            (try simp only [Act.put, List.setIfInBounds_toArray, List.set_cons_zero, List.set_cons_succ])
            refine wpAnyH_take (i := 15) (oi := { dst := some 144, op := Go.Op.load 24 (Go.Operand.tmp 143), type := 24, pos := "laws.go:692", after := #[{ on := 14, ground := Go.Ground.data }, { on := 12, ground := Go.Ground.guard }], guard := some (12, true) }) (v := undef) rfl (by kernel_rfl) (by kernel_rfl) (by kernel_rfl) (fun _ _ _ h => h) (Or.inr ⟨by rfl, rfl⟩) (by assumption) ?_
            (try simp only [Act.put, List.setIfInBounds_toArray, List.set_cons_zero, List.set_cons_succ])
            refine wpAnyH_take (i := 16) (oi := { dst := some 145, op := Go.Op.move (Go.Operand.tmp 9), type := 3, pos := "laws.go:692", after := #[{ on := 12, ground := Go.Ground.guard }], guard := some (12, true) }) (v := undef) rfl (by kernel_rfl) (by kernel_rfl) (by kernel_rfl) (fun _ _ _ h => h) (Or.inr ⟨by rfl, rfl⟩) (by assumption) ?_
            (try simp only [Act.put, List.setIfInBounds_toArray, List.set_cons_zero, List.set_cons_succ])
            refine wpAnyH_take (i := 17) (oi := { dst := some 146, op := Go.Op.indexAddr 24 (Go.Operand.tmp 144) (Go.Operand.tmp 145), type := 0, pos := "laws.go:692", after := #[{ on := 15, ground := Go.Ground.data }, { on := 16, ground := Go.Ground.data }, { on := 12, ground := Go.Ground.guard }], guard := some (12, true) }) (v := undef) rfl (by kernel_rfl) (by kernel_rfl) (by kernel_rfl) (fun _ _ _ h => h) (Or.inr ⟨by rfl, rfl⟩) (by assumption) ?_
            (try simp only [Act.put, List.setIfInBounds_toArray, List.set_cons_zero, List.set_cons_succ])
            refine wpAnyH_take (i := 18) (oi := { dst := some 147, op := Go.Op.load 2 (Go.Operand.tmp 146), type := 2, pos := "laws.go:692", after := #[{ on := 17, ground := Go.Ground.data }, { on := 12, ground := Go.Ground.guard }], guard := some (12, true) }) (v := undef) rfl (by kernel_rfl) (by kernel_rfl) (by kernel_rfl) (fun _ _ _ h => h) (Or.inr ⟨by rfl, rfl⟩) (by assumption) ?_
            (try simp only [Act.put, List.setIfInBounds_toArray, List.set_cons_zero, List.set_cons_succ])
            refine wpAnyH_take (i := 19) (oi := { dst := some 148, op := Go.Op.fieldAddr 26 (Go.Operand.tmp 4) 0, type := 0, pos := "laws.go:692", after := #[{ on := 12, ground := Go.Ground.guard }], guard := some (12, true) }) (v := undef) rfl (by kernel_rfl) (by kernel_rfl) (by kernel_rfl) (fun _ _ _ h => h) (Or.inr ⟨by rfl, rfl⟩) (by assumption) ?_
            (try simp only [Act.put, List.setIfInBounds_toArray, List.set_cons_zero, List.set_cons_succ])
            refine wpAnyH_take (i := 20) (oi := { dst := some 149, op := Go.Op.load 24 (Go.Operand.tmp 148), type := 24, pos := "laws.go:692", after := #[{ on := 19, ground := Go.Ground.data }, { on := 12, ground := Go.Ground.guard }], guard := some (12, true) }) (v := undef) rfl (by kernel_rfl) (by kernel_rfl) (by kernel_rfl) (fun _ _ _ h => h) (Or.inr ⟨by rfl, rfl⟩) (by assumption) ?_
            (try simp only [Act.put, List.setIfInBounds_toArray, List.set_cons_zero, List.set_cons_succ])
            refine wpAnyH_take (i := 21) (oi := { dst := some 150, op := Go.Op.move (Go.Operand.tmp 9), type := 3, pos := "laws.go:692", after := #[{ on := 12, ground := Go.Ground.guard }], guard := some (12, true) }) (v := undef) rfl (by kernel_rfl) (by kernel_rfl) (by kernel_rfl) (fun _ _ _ h => h) (Or.inr ⟨by rfl, rfl⟩) (by assumption) ?_
            (try simp only [Act.put, List.setIfInBounds_toArray, List.set_cons_zero, List.set_cons_succ])
            refine wpAnyH_take (i := 22) (oi := { dst := some 151, op := Go.Op.indexAddr 24 (Go.Operand.tmp 149) (Go.Operand.tmp 150), type := 0, pos := "laws.go:692", after := #[{ on := 20, ground := Go.Ground.data }, { on := 21, ground := Go.Ground.data }, { on := 12, ground := Go.Ground.guard }], guard := some (12, true) }) (v := undef) rfl (by kernel_rfl) (by kernel_rfl) (by kernel_rfl) (fun _ _ _ h => h) (Or.inr ⟨by rfl, rfl⟩) (by assumption) ?_
            (try simp only [Act.put, List.setIfInBounds_toArray, List.set_cons_zero, List.set_cons_succ])
            refine wpAnyH_take (i := 23) (oi := { dst := some 152, op := Go.Op.load 2 (Go.Operand.tmp 151), type := 2, pos := "laws.go:692", after := #[{ on := 22, ground := Go.Ground.data }, { on := 12, ground := Go.Ground.guard }], guard := some (12, true) }) (v := undef) rfl (by kernel_rfl) (by kernel_rfl) (by kernel_rfl) (fun _ _ _ h => h) (Or.inr ⟨by rfl, rfl⟩) (by assumption) ?_
            (try simp only [Act.put, List.setIfInBounds_toArray, List.set_cons_zero, List.set_cons_succ])
            refine wpAnyH_take (i := 24) (oi := { dst := some 153, op := Go.Op.binOp Go.BinOp.lss 2 (Go.Operand.tmp 147) (Go.Operand.tmp 152) 2, type := 4, pos := "laws.go:692", after := #[{ on := 18, ground := Go.Ground.data }, { on := 23, ground := Go.Ground.data }, { on := 12, ground := Go.Ground.guard }], guard := some (12, true) }) (v := undef) rfl (by kernel_rfl) (by kernel_rfl) (by kernel_rfl) (fun _ _ _ h => h) (Or.inr ⟨by rfl, rfl⟩) (by assumption) ?_
            (try simp only [Act.put, List.setIfInBounds_toArray, List.set_cons_zero, List.set_cons_succ])
            refine wpAnyH_take (i := 25) (oi := { dst := some 154, op := Go.Op.move (Go.Operand.tmp 153), type := 4, pos := "laws.go:692", after := #[{ on := 24, ground := Go.Ground.data }, { on := 12, ground := Go.Ground.chain }, { on := 12, ground := Go.Ground.guard }], guard := some (12, true) }) (v := undef) rfl (by kernel_rfl) (by kernel_rfl) (by kernel_rfl) (fun _ _ _ h => h) (Or.inr ⟨by rfl, rfl⟩) (by assumption) ?_
            (try simp only [Act.put, List.setIfInBounds_toArray, List.set_cons_zero, List.set_cons_succ])
            refine wpAnyH_take (i := 26) (oi := { dst := some 155, op := Go.Op.fieldAddr 32 (Go.Operand.tmp 5) 1, type := 0, pos := "laws.go:692", after := #[{ on := 25, ground := Go.Ground.guard }], guard := some (25, false) }) (v := undef) rfl (by kernel_rfl) (by kernel_rfl) (by kernel_rfl) (fun _ _ _ h => h) (Or.inr ⟨by rfl, rfl⟩) (by assumption) ?_
            (try simp only [Act.put, List.setIfInBounds_toArray, List.set_cons_zero, List.set_cons_succ])
            refine wpAnyH_take (i := 27) (oi := { dst := some 156, op := Go.Op.fieldAddr 26 (Go.Operand.tmp 155) 0, type := 0, pos := "laws.go:692", after := #[{ on := 26, ground := Go.Ground.data }, { on := 25, ground := Go.Ground.guard }], guard := some (25, false) }) (v := undef) rfl (by kernel_rfl) (by kernel_rfl) (by kernel_rfl) (fun _ _ _ h => h) (Or.inr ⟨by rfl, rfl⟩) (by assumption) ?_
            (try simp only [Act.put, List.setIfInBounds_toArray, List.set_cons_zero, List.set_cons_succ])
            refine wpAnyH_take (i := 28) (oi := { dst := some 157, op := Go.Op.load 24 (Go.Operand.tmp 156), type := 24, pos := "laws.go:692", after := #[{ on := 27, ground := Go.Ground.data }, { on := 25, ground := Go.Ground.guard }], guard := some (25, false) }) (v := undef) rfl (by kernel_rfl) (by kernel_rfl) (by kernel_rfl) (fun _ _ _ h => h) (Or.inr ⟨by rfl, rfl⟩) (by assumption) ?_
            (try simp only [Act.put, List.setIfInBounds_toArray, List.set_cons_zero, List.set_cons_succ])
            refine wpAnyH_take (i := 29) (oi := { dst := some 158, op := Go.Op.move (Go.Operand.tmp 9), type := 3, pos := "laws.go:692", after := #[{ on := 25, ground := Go.Ground.guard }], guard := some (25, false) }) (v := undef) rfl (by kernel_rfl) (by kernel_rfl) (by kernel_rfl) (fun _ _ _ h => h) (Or.inr ⟨by rfl, rfl⟩) (by assumption) ?_
            (try simp only [Act.put, List.setIfInBounds_toArray, List.set_cons_zero, List.set_cons_succ])
            refine wpAnyH_take (i := 30) (oi := { dst := some 159, op := Go.Op.indexAddr 24 (Go.Operand.tmp 157) (Go.Operand.tmp 158), type := 0, pos := "laws.go:692", after := #[{ on := 28, ground := Go.Ground.data }, { on := 29, ground := Go.Ground.data }, { on := 25, ground := Go.Ground.guard }], guard := some (25, false) }) (v := undef) rfl (by kernel_rfl) (by kernel_rfl) (by kernel_rfl) (fun _ _ _ h => h) (Or.inr ⟨by rfl, rfl⟩) (by assumption) ?_
            (try simp only [Act.put, List.setIfInBounds_toArray, List.set_cons_zero, List.set_cons_succ])
            refine wpAnyH_take (i := 31) (oi := { dst := some 160, op := Go.Op.load 2 (Go.Operand.tmp 159), type := 2, pos := "laws.go:692", after := #[{ on := 30, ground := Go.Ground.data }, { on := 25, ground := Go.Ground.guard }], guard := some (25, false) }) (v := undef) rfl (by kernel_rfl) (by kernel_rfl) (by kernel_rfl) (fun _ _ _ h => h) (Or.inr ⟨by rfl, rfl⟩) (by assumption) ?_
            (try simp only [Act.put, List.setIfInBounds_toArray, List.set_cons_zero, List.set_cons_succ])
            refine wpAnyH_take (i := 32) (oi := { dst := some 161, op := Go.Op.fieldAddr 28 (Go.Operand.tmp 3) 0, type := 0, pos := "laws.go:692", after := #[{ on := 25, ground := Go.Ground.guard }], guard := some (25, false) }) (v := undef) rfl (by kernel_rfl) (by kernel_rfl) (by kernel_rfl) (fun _ _ _ h => h) (Or.inr ⟨by rfl, rfl⟩) (by assumption) ?_
            (try simp only [Act.put, List.setIfInBounds_toArray, List.set_cons_zero, List.set_cons_succ])
            refine wpAnyH_take (i := 33) (oi := { dst := some 162, op := Go.Op.fieldAddr 26 (Go.Operand.tmp 161) 0, type := 0, pos := "laws.go:692", after := #[{ on := 32, ground := Go.Ground.data }, { on := 25, ground := Go.Ground.guard }], guard := some (25, false) }) (v := undef) rfl (by kernel_rfl) (by kernel_rfl) (by kernel_rfl) (fun _ _ _ h => h) (Or.inr ⟨by rfl, rfl⟩) (by assumption) ?_
            (try simp only [Act.put, List.setIfInBounds_toArray, List.set_cons_zero, List.set_cons_succ])
            refine wpAnyH_take (i := 34) (oi := { dst := some 163, op := Go.Op.load 24 (Go.Operand.tmp 162), type := 24, pos := "laws.go:692", after := #[{ on := 33, ground := Go.Ground.data }, { on := 25, ground := Go.Ground.guard }], guard := some (25, false) }) (v := undef) rfl (by kernel_rfl) (by kernel_rfl) (by kernel_rfl) (fun _ _ _ h => h) (Or.inr ⟨by rfl, rfl⟩) (by assumption) ?_
            (try simp only [Act.put, List.setIfInBounds_toArray, List.set_cons_zero, List.set_cons_succ])
            refine wpAnyH_take (i := 35) (oi := { dst := some 164, op := Go.Op.move (Go.Operand.tmp 9), type := 3, pos := "laws.go:692", after := #[{ on := 25, ground := Go.Ground.guard }], guard := some (25, false) }) (v := undef) rfl (by kernel_rfl) (by kernel_rfl) (by kernel_rfl) (fun _ _ _ h => h) (Or.inr ⟨by rfl, rfl⟩) (by assumption) ?_
            (try simp only [Act.put, List.setIfInBounds_toArray, List.set_cons_zero, List.set_cons_succ])
            refine wpAnyH_take (i := 36) (oi := { dst := some 165, op := Go.Op.indexAddr 24 (Go.Operand.tmp 163) (Go.Operand.tmp 164), type := 0, pos := "laws.go:692", after := #[{ on := 34, ground := Go.Ground.data }, { on := 35, ground := Go.Ground.data }, { on := 25, ground := Go.Ground.guard }], guard := some (25, false) }) (v := undef) rfl (by kernel_rfl) (by kernel_rfl) (by kernel_rfl) (fun _ _ _ h => h) (Or.inr ⟨by rfl, rfl⟩) (by assumption) ?_
            (try simp only [Act.put, List.setIfInBounds_toArray, List.set_cons_zero, List.set_cons_succ])
            refine wpAnyH_take (i := 37) (oi := { dst := some 166, op := Go.Op.load 2 (Go.Operand.tmp 165), type := 2, pos := "laws.go:692", after := #[{ on := 36, ground := Go.Ground.data }, { on := 25, ground := Go.Ground.guard }], guard := some (25, false) }) (v := undef) rfl (by kernel_rfl) (by kernel_rfl) (by kernel_rfl) (fun _ _ _ h => h) (Or.inr ⟨by rfl, rfl⟩) (by assumption) ?_
            (try simp only [Act.put, List.setIfInBounds_toArray, List.set_cons_zero, List.set_cons_succ])
            refine wpAnyH_take (i := 38) (oi := { dst := some 167, op := Go.Op.binOp Go.BinOp.lss 2 (Go.Operand.tmp 160) (Go.Operand.tmp 166) 2, type := 4, pos := "laws.go:692", after := #[{ on := 31, ground := Go.Ground.data }, { on := 37, ground := Go.Ground.data }, { on := 25, ground := Go.Ground.guard }], guard := some (25, false) }) (v := undef) rfl (by kernel_rfl) (by kernel_rfl) (by kernel_rfl) (fun _ _ _ h => h) (Or.inr ⟨by rfl, rfl⟩) (by assumption) ?_
            (try simp only [Act.put, List.setIfInBounds_toArray, List.set_cons_zero, List.set_cons_succ])
            refine wpAnyH_take (i := 39) (oi := { dst := some 168, op := Go.Op.pick (Go.Operand.tmp 154) (Go.Operand.const (Go.Value.bool true)) (Go.Operand.tmp 167), type := 4, pos := "laws.go:692", after := #[{ on := 25, ground := Go.Ground.data }, { on := 38, ground := Go.Ground.data }, { on := 12, ground := Go.Ground.guard }], guard := some (12, true) }) (v := undef) rfl (by kernel_rfl) (by kernel_rfl) (by kernel_rfl) (fun _ _ _ h => h) (Or.inr ⟨by rfl, rfl⟩) (by assumption) ?_
            (try simp only [Act.put, List.setIfInBounds_toArray, List.set_cons_zero, List.set_cons_succ])
            refine wpAnyH_take (i := 40) (oi := { dst := some 169, op := Go.Op.pick (Go.Operand.tmp 141) (Go.Operand.tmp 168) (Go.Operand.const (Go.Value.bool false)), type := 4, pos := "laws.go:692", after := #[{ on := 12, ground := Go.Ground.data }, { on := 39, ground := Go.Ground.data }, { on := 9, ground := Go.Ground.guard }], guard := some (9, false) }) (v := ?_) rfl (by kernel_rfl) (by kernel_rfl) (by kernel_rfl) (fun _ _ _ h => h) (Or.inl ⟨by rfl, ?_⟩) (by assumption) ?_
            rotate_left
            · (intro w hSw; (try dsimp only at hSw); go_simp; (try with_reducible rfl))
            (try simp only [Act.put, List.setIfInBounds_toArray, List.set_cons_zero, List.set_cons_succ])
            refine wpAnyH_take (i := 41) (oi := { dst := some 170, op := Go.Op.pick (Go.Operand.tmp 138) (Go.Operand.const (Go.Value.bool true)) (Go.Operand.tmp 169), type := 4, pos := "laws.go:692", after := #[{ on := 9, ground := Go.Ground.data }, { on := 40, ground := Go.Ground.data }], guard := none }) (v := ?_) rfl (by kernel_rfl) (by kernel_rfl) (by kernel_rfl) (fun _ _ _ h => h) (Or.inl ⟨by rfl, ?_⟩) (by assumption) ?_
            rotate_left
            · (intro w hSw; (try dsimp only at hSw); go_simp; (try with_reducible rfl))
            (try simp only [Act.put, List.setIfInBounds_toArray, List.set_cons_zero, List.set_cons_succ])
            refine wpAnyH_done (by kernel_rfl) ?_ _
            all_goals (
              have HMX := hide (HM.out.below (Below.refl wr.heap.size wr).drew)
              clear HS0 HM
              go_wp2
              go_roundw
              case rel => exact ⟨k + 1, by omega, by go_num, HMX.out⟩
              case measure => simp [intOf]; omega)
        have b1 : (gt x k == 0) = false := by simpa using a1
        by_cases a2 : gt z k = 0
        · have b2 : (gt z k == 0) = true := by simp [a2]
          have b3 : (ent (gt x k) (gt z k) == 0) = true := by rw [hez, b1, b2]; rfl
          clear her hez a1 a2
          as_aux_lemma =>
            have HM := hide M
            have HS0 : Hid (wr.drew.cell? ⟨w2.heap.size, 1, none⟩ = some (.slice (some ⟨eb, eo, none⟩) 4 ec) ∧ wr.drew.cell? ⟨w1.heap.size + 1, 0, none⟩ = some (.slice (some ⟨xb, xo, none⟩) 4 rk) ∧ wr.drew.cell? ⟨w1.heap.size, 0, none⟩ = some (.slice (some ⟨zb, zo, none⟩) 4 pc) ∧ wr.drew.cell? ⟨eb, eo + k, none⟩ = some (.int .i64 (ent (gt x k) (gt z k))) ∧ wr.drew.cell? ⟨xb, xo + k, none⟩ = some (.int .i64 (gt x k)) ∧ wr.drew.cell? ⟨zb, zo + k, none⟩ = some (.int .i64 (gt z k)) ∧ Below wr.heap.size wr wr.drew) := ⟨v1, v2, v3, ce, cx, cz, (Below.refl _ _).drew⟩
            have lt0 : (Addr.mk (w2.heap.size) 1 none).block < wr.heap.size := M.lt 1 rfl
            have lt1 : (Addr.mk (w1.heap.size + 1) 0 none).block < wr.heap.size := M.lt 2 rfl
            have lt2 : (Addr.mk (w1.heap.size) 0 none).block < wr.heap.size := M.lt 3 rfl
            have lt3 : (Addr.mk eb (eo + k) none).block < wr.heap.size := heb
            have lt4 : (Addr.mk xb (xo + k) none).block < wr.heap.size := hxb
            have lt5 : (Addr.mk zb (zo + k) none).block < wr.heap.size := hzb
            clear M
            go_upto_region 17 with fail
            clear v0 v1 v2 v3 v4 ce cx cz
            refine wp_region_held_drew (S := (fun w' => w'.cell? ⟨w2.heap.size, 1, none⟩ = some (.slice (some ⟨eb, eo, none⟩) 4 ec) ∧ w'.cell? ⟨w1.heap.size + 1, 0, none⟩ = some (.slice (some ⟨xb, xo, none⟩) 4 rk) ∧ w'.cell? ⟨w1.heap.size, 0, none⟩ = some (.slice (some ⟨zb, zo, none⟩) 4 pc) ∧ w'.cell? ⟨eb, eo + k, none⟩ = some (.int .i64 (ent (gt x k) (gt z k))) ∧ w'.cell? ⟨xb, xo + k, none⟩ = some (.int .i64 (gt x k)) ∧ w'.cell? ⟨zb, zo + k, none⟩ = some (.int .i64 (gt z k)) ∧ Below wr.heap.size wr w')) (by kernel_rfl) HS0.out (fun hHeld => ?_)
            refine wpAnyH_take (i := 0) (oi := { dst := some 129, op := Go.Op.move (Go.Operand.tmp 10), type := 4, pos := "laws.go:692", after := #[], guard := none }) (v := ?_) rfl (by kernel_rfl) (by kernel_rfl) (by kernel_rfl) (fun _ _ _ h => h) (Or.inl ⟨by rfl, ?_⟩) (by assumption) ?_
            rotate_left
            · (intro w hSw; (try dsimp only at hSw); go_simp; (try with_reducible rfl))
            (try simp only [Act.put, List.setIfInBounds_toArray, List.set_cons_zero, List.set_cons_succ])
            refine wpAnyH_take (i := 1) (oi := { dst := some 130, op := Go.Op.fieldAddr 32 (Go.Operand.tmp 5) 1, type := 0, pos := "laws.go:692", after := #[], guard := none }) (v := ?_) rfl (by kernel_rfl) (by kernel_rfl) (by kernel_rfl) (fun _ _ _ h => h) (Or.inl ⟨by rfl, ?_⟩) (by assumption) ?_
            rotate_left
            · (intro w hSw; (try dsimp only at hSw); go_simp; (try with_reducible rfl))
            (try simp only [Act.put, List.setIfInBounds_toArray, List.set_cons_zero, List.set_cons_succ])
            refine wpAnyH_take (i := 2) (oi := { dst := some 131, op := Go.Op.fieldAddr 26 (Go.Operand.tmp 130) 0, type := 0, pos := "laws.go:692", after := #[{ on := 1, ground := Go.Ground.data }], guard := none }) (v := ?_) rfl (by kernel_rfl) (by kernel_rfl) (by kernel_rfl) (fun _ _ _ h => h) (Or.inl ⟨by rfl, ?_⟩) (by assumption) ?_
            rotate_left
            · (intro w hSw; (try dsimp only at hSw); go_simp; (try with_reducible rfl))
            (try simp only [Act.put, List.setIfInBounds_toArray, List.set_cons_zero, List.set_cons_succ])
            refine wpAnyH_take (i := 3) (oi := { dst := some 132, op := Go.Op.load 24 (Go.Operand.tmp 131), type := 24, pos := "laws.go:692", after := #[{ on := 2, ground := Go.Ground.data }], guard := none }) (v := ?_) rfl (by kernel_rfl) (by kernel_rfl) (by kernel_rfl) (fun _ _ _ h => h) (Or.inl ⟨by rfl, ?_⟩) (by assumption) ?_
            rotate_left
            · (intro w hSw; (try dsimp only at hSw); go_simp; (try with_reducible rfl))
            (try simp only [Act.put, List.setIfInBounds_toArray, List.set_cons_zero, List.set_cons_succ])
            refine wpAnyH_take (i := 4) (oi := { dst := some 133, op := Go.Op.move (Go.Operand.tmp 9), type := 3, pos := "laws.go:692", after := #[], guard := none }) (v := ?_) rfl (by kernel_rfl) (by kernel_rfl) (by kernel_rfl) (fun _ _ _ h => h) (Or.inl ⟨by rfl, ?_⟩) (by assumption) ?_
            rotate_left
            · (intro w hSw; (try dsimp only at hSw); go_simp; (try with_reducible rfl))
            (try simp only [Act.put, List.setIfInBounds_toArray, List.set_cons_zero, List.set_cons_succ])
            refine wpAnyH_take (i := 5) (oi := { dst := some 134, op := Go.Op.indexAddr 24 (Go.Operand.tmp 132) (Go.Operand.tmp 133), type := 0, pos := "laws.go:692", after := #[{ on := 3, ground := Go.Ground.data }, { on := 4, ground := Go.Ground.data }], guard := none }) (v := ?_) rfl (by kernel_rfl) (by kernel_rfl) (by kernel_rfl) (fun _ _ _ h => h) (Or.inl ⟨by rfl, ?_⟩) (by assumption) ?_
            rotate_left
            · (intro w hSw; (try dsimp only at hSw); go_simp; (try with_reducible rfl))
            (try simp only [Act.put, List.setIfInBounds_toArray, List.set_cons_zero, List.set_cons_succ])
            refine wpAnyH_take (i := 6) (oi := { dst := some 135, op := Go.Op.load 2 (Go.Operand.tmp 134), type := 2, pos := "laws.go:692", after := #[{ on := 5, ground := Go.Ground.data }], guard := none }) (v := ?_) rfl (by kernel_rfl) (by kernel_rfl) (by kernel_rfl) (fun _ _ _ h => h) (Or.inl ⟨by rfl, ?_⟩) (by assumption) ?_
            rotate_left
            · (intro w hSw; (try dsimp only at hSw); go_simp; (try with_reducible rfl))
            (try simp only [Act.put, List.setIfInBounds_toArray, List.set_cons_zero, List.set_cons_succ])
            refine wpAnyH_take (i := 7) (oi := { dst := some 136, op := Go.Op.binOp Go.BinOp.eql 2 (Go.Operand.tmp 135) (Go.Operand.const (Go.Value.int Go.IntKind.i64 0)) 2, type := 4, pos := "laws.go:692", after := #[{ on := 6, ground := Go.Ground.data }], guard := none }) (v := ?_) rfl (by kernel_rfl) (by kernel_rfl) (by kernel_rfl) (fun _ _ _ h => h) (Or.inl ⟨by rfl, ?_⟩) (by assumption) ?_
            rotate_left
            · (intro w hSw; (try dsimp only at hSw); go_simp; (try with_reducible rfl))
            (try simp only [Act.put, List.setIfInBounds_toArray, List.set_cons_zero, List.set_cons_succ])
            refine wpAnyH_take (i := 8) (oi := { dst := some 137, op := Go.Op.binOp Go.BinOp.neq 4 (Go.Operand.tmp 129) (Go.Operand.tmp 136) 4, type := 4, pos := "laws.go:692", after := #[{ on := 0, ground := Go.Ground.data }, { on := 7, ground := Go.Ground.data }], guard := none }) (v := ?_) rfl (by kernel_rfl) (by kernel_rfl) (by kernel_rfl) (fun _ _ _ h => h) (Or.inl ⟨by rfl, ?_⟩) (by assumption) ?_
            rotate_left
            · (intro w hSw; (try dsimp only at hSw); go_simp; (try with_reducible rfl))
            (try simp only [Act.put, List.setIfInBounds_toArray, List.set_cons_zero, List.set_cons_succ])
            refine wpAnyH_take (i := 9) (oi := { dst := some 138, op := Go.Op.move (Go.Operand.tmp 137), type := 4, pos := "laws.go:692", after := #[{ on := 8, ground := Go.Ground.data }], guard := none }) (v := ?_) rfl (by kernel_rfl) (by kernel_rfl) (by kernel_rfl) (fun _ _ _ h => h) (Or.inl ⟨by rfl, ?_⟩) (by assumption) ?_
            rotate_left
            · (intro w hSw; (try dsimp only at hSw); go_simp; (try with_reducible rfl))
            (try simp only [Act.put, List.setIfInBounds_toArray, List.set_cons_zero, List.set_cons_succ])
            refine wpAnyH_take (i := 10) (oi := { dst := some 139, op := Go.Op.move (Go.Operand.tmp 10), type := 4, pos := "laws.go:692", after := #[{ on := 9, ground := Go.Ground.guard }], guard := some (9, false) }) (v := ?_) rfl (by kernel_rfl) (by kernel_rfl) (by kernel_rfl) (fun _ _ _ h => h) (Or.inl ⟨by rfl, ?_⟩) (by assumption) ?_
            rotate_left
            · (intro w hSw; (try dsimp only at hSw); go_simp; (try with_reducible rfl))
            (try simp only [Act.put, List.setIfInBounds_toArray, List.set_cons_zero, List.set_cons_succ])
            refine wpAnyH_take (i := 11) (oi := { dst := some 140, op := Go.Op.unOp Go.UnOp.not 4 (Go.Operand.tmp 139), type := 4, pos := "laws.go:692", after := #[{ on := 10, ground := Go.Ground.data }, { on := 9, ground := Go.Ground.guard }], guard := some (9, false) }) (v := ?_) rfl (by kernel_rfl) (by kernel_rfl) (by kernel_rfl) (fun _ _ _ h => h) (Or.inl ⟨by rfl, ?_⟩) (by assumption) ?_
            rotate_left
            · (intro w hSw; (try dsimp only at hSw); go_simp; (try with_reducible rfl))
            (try simp only [Act.put, List.setIfInBounds_toArray, List.set_cons_zero, List.set_cons_succ])
            refine wpAnyH_take (i := 12) (oi := { dst := some 141, op := Go.Op.move (Go.Operand.tmp 140), type := 4, pos := "laws.go:692", after := #[{ on := 11, ground := Go.Ground.data }, { on := 9, ground := Go.Ground.chain }, { on := 9, ground := Go.Ground.guard }], guard := some (9, false) }) (v := ?_) rfl (by kernel_rfl) (by kernel_rfl) (by kernel_rfl) (fun _ _ _ h => h) (Or.inl ⟨by rfl, ?_⟩) (by assumption) ?_
            rotate_left
            · (intro w hSw; (try dsimp only at hSw); go_simp; (try with_reducible rfl))
            (try simp only [Act.put, List.setIfInBounds_toArray, List.set_cons_zero, List.set_cons_succ])
            refine wpAnyH_take (i := 13) (oi := { dst := some 142, op := Go.Op.fieldAddr 32 (Go.Operand.tmp 5) 1, type := 0, pos := "laws.go:692", after := #[{ on := 12, ground := Go.Ground.guard }], guard := some (12, true) }) (v := undef) rfl (by kernel_rfl) (by kernel_rfl) (by kernel_rfl) (fun _ _ _ h => h) (Or.inr ⟨by rfl, rfl⟩) (by assumption) ?_
            (try simp only [Act.put, List.setIfInBounds_toArray, List.set_cons_zero, List.set_cons_succ])
            refine wpAnyH_take (i := 14) (oi := { dst := some 143, op := Go.Op.fieldAddr 26 (Go.Operand.tmp 142) 0, type := 0, pos := "laws.go:692", after := #[{ on := 13, ground := Go.Ground.data }, { on := 12, ground := Go.Ground.guard }], guard := some (12, true) }) (v := undef) rfl (by kernel_rfl) (by kernel_rfl) (by kernel_rfl) (fun _ _ _ h => h) (Or.inr ⟨by rfl, rfl⟩) (by assumption) ?_
            (try simp only [Act.put, List.setIfInBounds_toArray, List.set_cons_zero, List.set_cons_succ])
            refine wpAnyH_take (i := 15) (oi := { dst := some 144, op := Go.Op.load 24 (Go.Operand.tmp 143), type := 24, pos := "laws.go:692", after := #[{ on := 14, ground := Go.Ground.data }, { on := 12, ground := Go.Ground.guard }], guard := some (12, true) }) (v := undef) rfl (by kernel_rfl) (by kernel_rfl) (by kernel_rfl) (fun _ _ _ h => h) (Or.inr ⟨by rfl, rfl⟩) (by assumption) ?_
            (try simp only [Act.put, List.setIfInBounds_toArray, List.set_cons_zero, List.set_cons_succ])
            refine wpAnyH_take (i := 16) (oi := { dst := some 145, op := Go.Op.move (Go.Operand.tmp 9), type := 3, pos := "laws.go:692", after := #[{ on := 12, ground := Go.Ground.guard }], guard := some (12, true) }) (v := undef) rfl (by kernel_rfl) (by kernel_rfl) (by kernel_rfl) (fun _ _ _ h => h) (Or.inr ⟨by rfl, rfl⟩) (by assumption) ?_
            (try simp only [Act.put, List.setIfInBounds_toArray, List.set_cons_zero, List.set_cons_succ])
            refine wpAnyH_take (i := 17) (oi := { dst := some 146, op := Go.Op.indexAddr 24 (Go.Operand.tmp 144) (Go.Operand.tmp 145), type := 0, pos := "laws.go:692", after := #[{ on := 15, ground := Go.Ground.data }, { on := 16, ground := Go.Ground.data }, { on := 12, ground := Go.Ground.guard }], guard := some (12, true) }) (v := undef) rfl (by kernel_rfl) (by kernel_rfl) (by kernel_rfl) (fun _ _ _ h => h) (Or.inr ⟨by rfl, rfl⟩) (by assumption) ?_
            (try simp only [Act.put, List.setIfInBounds_toArray, List.set_cons_zero, List.set_cons_succ])
            refine wpAnyH_take (i := 18) (oi := { dst := some 147, op := Go.Op.load 2 (Go.Operand.tmp 146), type := 2, pos := "laws.go:692", after := #[{ on := 17, ground := Go.Ground.data }, { on := 12, ground := Go.Ground.guard }], guard := some (12, true) }) (v := undef) rfl (by kernel_rfl) (by kernel_rfl) (by kernel_rfl) (fun _ _ _ h => h) (Or.inr ⟨by rfl, rfl⟩) (by assumption) ?_
            (try simp only [Act.put, List.setIfInBounds_toArray, List.set_cons_zero, List.set_cons_succ])
            refine wpAnyH_take (i := 19) (oi := { dst := some 148, op := Go.Op.fieldAddr 26 (Go.Operand.tmp 4) 0, type := 0, pos := "laws.go:692", after := #[{ on := 12, ground := Go.Ground.guard }], guard := some (12, true) }) (v := undef) rfl (by kernel_rfl) (by kernel_rfl) (by kernel_rfl) (fun _ _ _ h => h) (Or.inr ⟨by rfl, rfl⟩) (by assumption) ?_
            (try simp only [Act.put, List.setIfInBounds_toArray, List.set_cons_zero, List.set_cons_succ])
            refine wpAnyH_take (i := 20) (oi := { dst := some 149, op := Go.Op.load 24 (Go.Operand.tmp 148), type := 24, pos := "laws.go:692", after := #[{ on := 19, ground := Go.Ground.data }, { on := 12, ground := Go.Ground.guard }], guard := some (12, true) }) (v := undef) rfl (by kernel_rfl) (by kernel_rfl) (by kernel_rfl) (fun _ _ _ h => h) (Or.inr ⟨by rfl, rfl⟩) (by assumption) ?_
            (try simp only [Act.put, List.setIfInBounds_toArray, List.set_cons_zero, List.set_cons_succ])
            refine wpAnyH_take (i := 21) (oi := { dst := some 150, op := Go.Op.move (Go.Operand.tmp 9), type := 3, pos := "laws.go:692", after := #[{ on := 12, ground := Go.Ground.guard }], guard := some (12, true) }) (v := undef) rfl (by kernel_rfl) (by kernel_rfl) (by kernel_rfl) (fun _ _ _ h => h) (Or.inr ⟨by rfl, rfl⟩) (by assumption) ?_
            (try simp only [Act.put, List.setIfInBounds_toArray, List.set_cons_zero, List.set_cons_succ])
            refine wpAnyH_take (i := 22) (oi := { dst := some 151, op := Go.Op.indexAddr 24 (Go.Operand.tmp 149) (Go.Operand.tmp 150), type := 0, pos := "laws.go:692", after := #[{ on := 20, ground := Go.Ground.data }, { on := 21, ground := Go.Ground.data }, { on := 12, ground := Go.Ground.guard }], guard := some (12, true) }) (v := undef) rfl (by kernel_rfl) (by kernel_rfl) (by kernel_rfl) (fun _ _ _ h => h) (Or.inr ⟨by rfl, rfl⟩) (by assumption) ?_
            (try simp only [Act.put, List.setIfInBounds_toArray, List.set_cons_zero, List.set_cons_succ])
            refine wpAnyH_take (i := 23) (oi := { dst := some 152, op := Go.Op.load 2 (Go.Operand.tmp 151), type := 2, pos := "laws.go:692", after := #[{ on := 22, ground := Go.Ground.data }, { on := 12, ground := Go.Ground.guard }], guard := some (12, true) }) (v := undef) rfl (by kernel_rfl) (by kernel_rfl) (by kernel_rfl) (fun _ _ _ h => h) (Or.inr ⟨by rfl, rfl⟩) (by assumption) ?_
            (try simp only [Act.put, List.setIfInBounds_toArray, List.set_cons_zero, List.set_cons_succ])
            refine wpAnyH_take (i := 24) (oi := { dst := some 153, op := Go.Op.binOp Go.BinOp.lss 2 (Go.Operand.tmp 147) (Go.Operand.tmp 152) 2, type := 4, pos := "laws.go:692", after := #[{ on := 18, ground := Go.Ground.data }, { on := 23, ground := Go.Ground.data }, { on := 12, ground := Go.Ground.guard }], guard := some (12, true) }) (v := undef) rfl (by kernel_rfl) (by kernel_rfl) (by kernel_rfl) (fun _ _ _ h => h) (Or.inr ⟨by rfl, rfl⟩) (by assumption) ?_
            (try simp only [Act.put, List.setIfInBounds_toArray, List.set_cons_zero, List.set_cons_succ])
            refine wpAnyH_take (i := 25) (oi := { dst := some 154, op := Go.Op.move (Go.Operand.tmp 153), type := 4, pos := "laws.go:692", after := #[{ on := 24, ground := Go.Ground.data }, { on := 12, ground := Go.Ground.chain }, { on := 12, ground := Go.Ground.guard }], guard := some (12, true) }) (v := undef) rfl (by kernel_rfl) (by kernel_rfl) (by kernel_rfl) (fun _ _ _ h => h) (Or.inr ⟨by rfl, rfl⟩) (by assumption) ?_
            (try simp only [Act.put, List.setIfInBounds_toArray, List.set_cons_zero, List.set_cons_succ])
            refine wpAnyH_take (i := 26) (oi := { dst := some 155, op := Go.Op.fieldAddr 32 (Go.Operand.tmp 5) 1, type := 0, pos := "laws.go:692", after := #[{ on := 25, ground := Go.Ground.guard }], guard := some (25, false) }) (v := undef) rfl (by kernel_rfl) (by kernel_rfl) (by kernel_rfl) (fun _ _ _ h => h) (Or.inr ⟨by rfl, rfl⟩) (by assumption) ?_
            (try simp only [Act.put, List.setIfInBounds_toArray, List.set_cons_zero, List.set_cons_succ])
            refine wpAnyH_take (i := 27) (oi := { dst := some 156, op := Go.Op.fieldAddr 26 (Go.Operand.tmp 155) 0, type := 0, pos := "laws.go:692", after := #[{ on := 26, ground := Go.Ground.data }, { on := 25, ground := Go.Ground.guard }], guard := some (25, false) }) (v := undef) rfl (by kernel_rfl) (by kernel_rfl) (by kernel_rfl) (fun _ _ _ h => h) (Or.inr ⟨by rfl, rfl⟩) (by assumption) ?_
            (try simp only [Act.put, List.setIfInBounds_toArray, List.set_cons_zero, List.set_cons_succ])
            refine wpAnyH_take (i := 28) (oi := { dst := some 157, op := Go.Op.load 24 (Go.Operand.tmp 156), type := 24, pos := "laws.go:692", after := #[{ on := 27, ground := Go.Ground.data }, { on := 25, ground := Go.Ground.guard }], guard := some (25, false) }) (v := undef) rfl (by kernel_rfl) (by kernel_rfl) (by kernel_rfl) (fun _ _ _ h => h) (Or.inr ⟨by rfl, rfl⟩) (by assumption) ?_
            (try simp only [Act.put, List.setIfInBounds_toArray, List.set_cons_zero, List.set_cons_succ])
            refine wpAnyH_take (i := 29) (oi := { dst := some 158, op := Go.Op.move (Go.Operand.tmp 9), type := 3, pos := "laws.go:692", after := #[{ on := 25, ground := Go.Ground.guard }], guard := some (25, false) }) (v := undef) rfl (by kernel_rfl) (by kernel_rfl) (by kernel_rfl) (fun _ _ _ h => h) (Or.inr ⟨by rfl, rfl⟩) (by assumption) ?_
            (try simp only [Act.put, List.setIfInBounds_toArray, List.set_cons_zero, List.set_cons_succ])
            refine wpAnyH_take (i := 30) (oi := { dst := some 159, op := Go.Op.indexAddr 24 (Go.Operand.tmp 157) (Go.Operand.tmp 158), type := 0, pos := "laws.go:692", after := #[{ on := 28, ground := Go.Ground.data }, { on := 29, ground := Go.Ground.data }, { on := 25, ground := Go.Ground.guard }], guard := some (25, false) }) (v := undef) rfl (by kernel_rfl) (by kernel_rfl) (by kernel_rfl) (fun _ _ _ h => h) (Or.inr ⟨by rfl, rfl⟩) (by assumption) ?_
            (try simp only [Act.put, List.setIfInBounds_toArray, List.set_cons_zero, List.set_cons_succ])
            refine wpAnyH_take (i := 31) (oi := { dst := some 160, op := Go.Op.load 2 (Go.Operand.tmp 159), type := 2, pos := "laws.go:692", after := #[{ on := 30, ground := Go.Ground.data }, { on := 25, ground := Go.Ground.guard }], guard := some (25, false) }) (v := undef) rfl (by kernel_rfl) (by kernel_rfl) (by kernel_rfl) (fun _ _ _ h => h) (Or.inr ⟨by rfl, rfl⟩) (by assumption) ?_
            (try simp only [Act.put, List.setIfInBounds_toArray, List.set_cons_zero, List.set_cons_succ])
            refine wpAnyH_take (i := 32) (oi := { dst := some 161, op := Go.Op.fieldAddr 28 (Go.Operand.tmp 3) 0, type := 0, pos := "laws.go:692", after := #[{ on := 25, ground := Go.Ground.guard }], guard := some (25, false) }) (v := undef) rfl (by kernel_rfl) (by kernel_rfl) (by kernel_rfl) (fun _ _ _ h => h) (Or.inr ⟨by rfl, rfl⟩) (by assumption) ?_
            (try simp only [Act.put, List.setIfInBounds_toArray, List.set_cons_zero, List.set_cons_succ])
            refine wpAnyH_take (i := 33) (oi := { dst := some 162, op := Go.Op.fieldAddr 26 (Go.Operand.tmp 161) 0, type := 0, pos := "laws.go:692", after := #[{ on := 32, ground := Go.Ground.data }, { on := 25, ground := Go.Ground.guard }], guard := some (25, false) }) (v := undef) rfl (by kernel_rfl) (by kernel_rfl) (by kernel_rfl) (fun _ _ _ h => h) (Or.inr ⟨by rfl, rfl⟩) (by assumption) ?_
            (try simp only [Act.put, List.setIfInBounds_toArray, List.set_cons_zero, List.set_cons_succ])
            refine wpAnyH_take (i := 34) (oi := { dst := some 163, op := Go.Op.load 24 (Go.Operand.tmp 162), type := 24, pos := "laws.go:692", after := #[{ on := 33, ground := Go.Ground.data }, { on := 25, ground := Go.Ground.guard }], guard := some (25, false) }) (v := undef) rfl (by kernel_rfl) (by kernel_rfl) (by kernel_rfl) (fun _ _ _ h => h) (Or.inr ⟨by rfl, rfl⟩) (by assumption) ?_
            (try simp only [Act.put, List.setIfInBounds_toArray, List.set_cons_zero, List.set_cons_succ])
            refine wpAnyH_take (i := 35) (oi := { dst := some 164, op := Go.Op.move (Go.Operand.tmp 9), type := 3, pos := "laws.go:692", after := #[{ on := 25, ground := Go.Ground.guard }], guard := some (25, false) }) (v := undef) rfl (by kernel_rfl) (by kernel_rfl) (by kernel_rfl) (fun _ _ _ h => h) (Or.inr ⟨by rfl, rfl⟩) (by assumption) ?_
            (try simp only [Act.put, List.setIfInBounds_toArray, List.set_cons_zero, List.set_cons_succ])
            refine wpAnyH_take (i := 36) (oi := { dst := some 165, op := Go.Op.indexAddr 24 (Go.Operand.tmp 163) (Go.Operand.tmp 164), type := 0, pos := "laws.go:692", after := #[{ on := 34, ground := Go.Ground.data }, { on := 35, ground := Go.Ground.data }, { on := 25, ground := Go.Ground.guard }], guard := some (25, false) }) (v := undef) rfl (by kernel_rfl) (by kernel_rfl) (by kernel_rfl) (fun _ _ _ h => h) (Or.inr ⟨by rfl, rfl⟩) (by assumption) ?_
            (try simp only [Act.put, List.setIfInBounds_toArray, List.set_cons_zero, List.set_cons_succ])
            refine wpAnyH_take (i := 37) (oi := { dst := some 166, op := Go.Op.load 2 (Go.Operand.tmp 165), type := 2, pos := "laws.go:692", after := #[{ on := 36, ground := Go.Ground.data }, { on := 25, ground := Go.Ground.guard }], guard := some (25, false) }) (v := undef) rfl (by kernel_rfl) (by kernel_rfl) (by kernel_rfl) (fun _ _ _ h => h) (Or.inr ⟨by rfl, rfl⟩) (by assumption) ?_
            (try simp only [Act.put, List.setIfInBounds_toArray, List.set_cons_zero, List.set_cons_succ])
            refine wpAnyH_take (i := 38) (oi := { dst := some 167, op := Go.Op.binOp Go.BinOp.lss 2 (Go.Operand.tmp 160) (Go.Operand.tmp 166) 2, type := 4, pos := "laws.go:692", after := #[{ on := 31, ground := Go.Ground.data }, { on := 37, ground := Go.Ground.data }, { on := 25, ground := Go.Ground.guard }], guard := some (25, false) }) (v := undef) rfl (by kernel_rfl) (by kernel_rfl) (by kernel_rfl) (fun _ _ _ h => h) (Or.inr ⟨by rfl, rfl⟩) (by assumption) ?_
            (try simp only [Act.put, List.setIfInBounds_toArray, List.set_cons_zero, List.set_cons_succ])
            refine wpAnyH_take (i := 39) (oi := { dst := some 168, op := Go.Op.pick (Go.Operand.tmp 154) (Go.Operand.const (Go.Value.bool true)) (Go.Operand.tmp 167), type := 4, pos := "laws.go:692", after := #[{ on := 25, ground := Go.Ground.data }, { on := 38, ground := Go.Ground.data }, { on := 12, ground := Go.Ground.guard }], guard := some (12, true) }) (v := undef) rfl (by kernel_rfl) (by kernel_rfl) (by kernel_rfl) (fun _ _ _ h => h) (Or.inr ⟨by rfl, rfl⟩) (by assumption) ?_
            (try simp only [Act.put, List.setIfInBounds_toArray, List.set_cons_zero, List.set_cons_succ])
            refine wpAnyH_take (i := 40) (oi := { dst := some 169, op := Go.Op.pick (Go.Operand.tmp 141) (Go.Operand.tmp 168) (Go.Operand.const (Go.Value.bool false)), type := 4, pos := "laws.go:692", after := #[{ on := 12, ground := Go.Ground.data }, { on := 39, ground := Go.Ground.data }, { on := 9, ground := Go.Ground.guard }], guard := some (9, false) }) (v := ?_) rfl (by kernel_rfl) (by kernel_rfl) (by kernel_rfl) (fun _ _ _ h => h) (Or.inl ⟨by rfl, ?_⟩) (by assumption) ?_
            rotate_left
            · (intro w hSw; (try dsimp only at hSw); go_simp; (try with_reducible rfl))
            (try simp only [Act.put, List.setIfInBounds_toArray, List.set_cons_zero, List.set_cons_succ])
            refine wpAnyH_take (i := 41) (oi := { dst := some 170, op := Go.Op.pick (Go.Operand.tmp 138) (Go.Operand.const (Go.Value.bool true)) (Go.Operand.tmp 169), type := 4, pos := "laws.go:692", after := #[{ on := 9, ground := Go.Ground.data }, { on := 40, ground := Go.Ground.data }], guard := none }) (v := ?_) rfl (by kernel_rfl) (by kernel_rfl) (by kernel_rfl) (fun _ _ _ h => h) (Or.inl ⟨by rfl, ?_⟩) (by assumption) ?_
            rotate_left
            · (intro w hSw; (try dsimp only at hSw); go_simp; (try with_reducible rfl))
            (try simp only [Act.put, List.setIfInBounds_toArray, List.set_cons_zero, List.set_cons_succ])
            refine wpAnyH_done (by kernel_rfl) ?_ _
            all_goals (
              have HMX := hide (HM.out.below (Below.refl wr.heap.size wr).drew)
              clear HS0 HM
              go_wp2
              go_roundw
              case rel => exact ⟨k + 1, by omega, by go_num, HMX.out⟩
              case measure => simp [intOf]; omega)
        have b2 : (gt z k == 0) = false := by simpa using a2
        have b3 : (ent (gt x k) (gt z k) == 0) = false := by rw [hez, b1, b2]; rfl
        obtain ⟨b4, b5⟩ := her a1 a2
        clear her hez a1 a2
        as_aux_lemma =>
          have HM := hide M
          have HS0 : Hid (wr.drew.cell? ⟨w2.heap.size, 1, none⟩ = some (.slice (some ⟨eb, eo, none⟩) 4 ec) ∧ wr.drew.cell? ⟨w1.heap.size + 1, 0, none⟩ = some (.slice (some ⟨xb, xo, none⟩) 4 rk) ∧ wr.drew.cell? ⟨w1.heap.size, 0, none⟩ = some (.slice (some ⟨zb, zo, none⟩) 4 pc) ∧ wr.drew.cell? ⟨eb, eo + k, none⟩ = some (.int .i64 (ent (gt x k) (gt z k))) ∧ wr.drew.cell? ⟨xb, xo + k, none⟩ = some (.int .i64 (gt x k)) ∧ wr.drew.cell? ⟨zb, zo + k, none⟩ = some (.int .i64 (gt z k)) ∧ Below wr.heap.size wr wr.drew) := ⟨v1, v2, v3, ce, cx, cz, (Below.refl _ _).drew⟩
          have lt0 : (Addr.mk (w2.heap.size) 1 none).block < wr.heap.size := M.lt 1 rfl
          have lt1 : (Addr.mk (w1.heap.size + 1) 0 none).block < wr.heap.size := M.lt 2 rfl
          have lt2 : (Addr.mk (w1.heap.size) 0 none).block < wr.heap.size := M.lt 3 rfl
          have lt3 : (Addr.mk eb (eo + k) none).block < wr.heap.size := heb
          have lt4 : (Addr.mk xb (xo + k) none).block < wr.heap.size := hxb
          have lt5 : (Addr.mk zb (zo + k) none).block < wr.heap.size := hzb
          clear M
          go_upto_region 17 with fail
          clear v0 v1 v2 v3 v4 ce cx cz
          go_region_held2 (fun w' => w'.cell? ⟨w2.heap.size, 1, none⟩ = some (.slice (some ⟨eb, eo, none⟩) 4 ec) ∧ w'.cell? ⟨w1.heap.size + 1, 0, none⟩ = some (.slice (some ⟨xb, xo, none⟩) 4 rk) ∧ w'.cell? ⟨w1.heap.size, 0, none⟩ = some (.slice (some ⟨zb, zo, none⟩) 4 pc) ∧ w'.cell? ⟨eb, eo + k, none⟩ = some (.int .i64 (ent (gt x k) (gt z k))) ∧ w'.cell? ⟨xb, xo + k, none⟩ = some (.int .i64 (gt x k)) ∧ w'.cell? ⟨zb, zo + k, none⟩ = some (.int .i64 (gt z k)) ∧ Below wr.heap.size wr w')
            (first | with_reducible exact HS0.out | with_reducible assumption)
            (fail)
          all_goals (
            have HMX := hide (HM.out.below (Below.refl wr.heap.size wr).drew)
            clear HS0 HM
            go_wp2
            go_roundw
            case rel => exact ⟨k + 1, by omega, by go_num, HMX.out⟩
            case measure => simp [intOf]; omega)
      · have hge : ¬ ((k : Int) < 4) := by omega
        clear hlt hgE hxr hzr
        have hQ6 : (M.get 0 rfl).1 = (M.get 0 rfl).1 := rfl
        clear hQ6
        go_wp2_with fail
        refine (implEnterPass_calls pa 4 pc z ga gn gc y ea 4 ec (mix ent x z) _ ⟨hpn, (M.get 3 rfl).sl, hgn, (M.get 2 rfl).sl⟩ (by unfold maxLen; omega) (M.get 0 rfl).sl).mono ?_
        rintro e w6 ⟨ba, bn, bc, rfl, o6, g6⟩
        have z6 := g6.size
        have M6 := ((M.below g6).fact OS.loc o6).alloc2 (.int .i64 (epC z y (mix ent x z))) (.slice ba bn bc) 32
        have hbm := osMax o6
        have h4m : 4 ≤ maxLen := by unfold maxLen; omega
        have hfE := HFE.out
        have hme := HME.out
        clear M g6 o6 v0 v1 v2 v3 v4
        have eZ : ((0 : Int) == 0) = true := rfl
        have eC : ((6 : Int) == 6) = true := rfl
        rcases HAG.out with ⟨hz6, hL6⟩ | ⟨_, hz6⟩
        · rw [hz6] at M6
          rw [hL6] at M6
          rw [hz6]
          have hLE : mix ent x z = epL z y x := (epL_ok HQ.out).symm
          obtain ⟨W2, hW⟩ : ∃ W2 : World, W2 = w6.alloc (.cells #[.int .i64 0, .slice ba bn bc] 32) := ⟨_, rfl⟩
          rw [← hW] at M6
          have HW := hide hW
          have lt0 : (Addr.mk (w6.heap.size) 0 none).block < W2.heap.size := M6.lt 0 rfl
          have lt1 : (Addr.mk (w6.heap.size) 1 none).block < W2.heap.size := M6.lt 1 rfl
          have lt2 : (Addr.mk (w2.heap.size) 1 none).block < W2.heap.size := M6.lt 3 rfl
          have lt3 : (Addr.mk (w1.heap.size + 1) 0 none).block < W2.heap.size := M6.lt 4 rfl
          have lt4 : (Addr.mk (w1.heap.size) 0 none).block < W2.heap.size := M6.lt 5 rfl
          have lt5 : (Addr.mk (w1.heap.size) 1 none).block < W2.heap.size := M6.lt 6 rfl
          have HM := hide M6
          have HES := hide ((M6.get 1 rfl).sl)
          have HQS := hide ((M6.get 2 rfl).sl)
          have HPP := hide (PR.mk h4m (M6.get 4 rfl).sl hgn (M6.get 3 rfl).sl)
          have HBS := hide ((M6.get 0 rfl).sl)
          have HS0 : Hid (W2.drew.cell? ⟨w6.heap.size, 0, none⟩ = some (.int .i64 0) ∧ W2.drew.cell? ⟨w6.heap.size, 1, none⟩ = some (.slice ba bn bc) ∧ W2.drew.cell? ⟨w2.heap.size, 1, none⟩ = some (.slice ea 4 ec) ∧ W2.drew.cell? ⟨w1.heap.size + 1, 0, none⟩ = some (.slice rq 4 rk) ∧ W2.drew.cell? ⟨w1.heap.size, 0, none⟩ = some (.slice pa 4 pc) ∧ W2.drew.cell? ⟨w1.heap.size, 1, none⟩ = some (.slice ga gn gc) ∧ Below W2.heap.size W2 W2.drew) := ⟨M6.cell 0 rfl, M6.cell 1 rfl, M6.cell 3 rfl, M6.cell 4 rfl, M6.cell 5 rfl, M6.cell 6 rfl, (Below.refl _ _).drew⟩
          clear M6 hW
          go_upto_region 20 with fail
          rw [← HW.out]
          as_aux_lemma =>
            have eD : ((0 : Int) == 6) = false := rfl
            go_region_held2 (fun w' => w'.cell? ⟨w6.heap.size, 0, none⟩ = some (.int .i64 0) ∧ w'.cell? ⟨w6.heap.size, 1, none⟩ = some (.slice ba bn bc) ∧ w'.cell? ⟨w2.heap.size, 1, none⟩ = some (.slice ea 4 ec) ∧ w'.cell? ⟨w1.heap.size + 1, 0, none⟩ = some (.slice rq 4 rk) ∧ w'.cell? ⟨w1.heap.size, 0, none⟩ = some (.slice pa 4 pc) ∧ w'.cell? ⟨w1.heap.size, 1, none⟩ = some (.slice ga gn gc) ∧ Below W2.heap.size W2 w')
              (first | with_reducible exact HS0.out | with_reducible assumption)
              (first
                | (go_at_call 21; (with_reducible refine (mayEnter_as pa 4 pc z ga gn gc y rq 4 rk x true _ hme ?_ hl ?_).mono ?_); exact HPP.out.below (q6_bel (by with_reducible assumption)) (Nat.le_refl _); exact HQS.out.below (q6_bel (by with_reducible assumption)) (Nat.le_refl _); rintro e y1 ⟨rfl, ga⟩; have hs1 := q6_below lt0 lt1 lt2 lt3 lt4 lt5 (by with_reducible assumption) ga; clear ga)
                | (go_at_call 22; (with_reducible refine (fault_as ea 4 ec (mix ent x z) _ hfE h4m ?_).mono ?_); exact HES.out.below (q6_bel (by with_reducible assumption)) (Nat.le_refl _); rintro e y1 ⟨rfl, ga⟩; have hs1 := q6_below lt0 lt1 lt2 lt3 lt4 lt5 (by with_reducible assumption) ga; clear ga)
                | (go_at_call 17; (with_reducible refine (lwNums_as ba ea bn bc 4 ec (mix ent x z) (mix ent x z) _ rfl hbm h4m ?_ ?_).mono ?_); exact HBS.out.below (q6_bel (by with_reducible assumption)) (Nat.le_refl _); exact HES.out.below (q6_bel (by with_reducible assumption)) (Nat.le_refl _); rintro e y1 ⟨rfl, ga⟩; have hs1 := q6_below lt0 lt1 lt2 lt3 lt4 lt5 (by with_reducible assumption) ga; clear ga)
                | (go_at_call 20; (with_reducible refine (specEnterPass_calls pa 4 pc z ga gn gc y rq 4 rk x _ ?_ hl ?_).mono ?_); exact HPP.out.below (q6_bel (by with_reducible assumption)) (Nat.le_refl _); exact HQS.out.below (q6_bel (by with_reducible assumption)) (Nat.le_refl _); rintro e y1 ⟨k1a, k1n, k1c, rfl, ok, ga⟩; have hs1 := q6_below lt0 lt1 lt2 lt3 lt4 lt5 (by with_reducible assumption) ga; have hk1 := osMax ok; have HK := hide ok.sl; clear ok; clear ga)
                | (go_at_call 17; (with_reducible refine (lwNums_as ea k1a 4 ec k1n k1c (mix ent x z) _ _ hLE h4m hk1 ?_ ?_).mono ?_); exact HES.out.below (q6_bel (by with_reducible assumption)) (Nat.le_refl _); exact HK.out; rintro e y1 ⟨rfl, ga⟩; have hs1 := q6_below lt0 lt1 lt2 lt3 lt4 lt5 (by with_reducible assumption) ga; clear ga))
            all_goals (
              have HE := hide (HM.out.below (q6_bel hs1)).bel
              clear hs1 HS0 HM
              go_wp2
              go_ret
              exact ⟨rfl, HE.out⟩)
        · rw [hz6] at M6
          rw [hz6]
          have hLE : mix ent x z = epL z y x := (epL_ok HQ.out).symm
          obtain ⟨W2, hW⟩ : ∃ W2 : World, W2 = w6.alloc (.cells #[.int .i64 6, .slice ba bn bc] 32) := ⟨_, rfl⟩
          rw [← hW] at M6
          have HW := hide hW
          have lt0 : (Addr.mk (w6.heap.size) 0 none).block < W2.heap.size := M6.lt 0 rfl
          have lt1 : (Addr.mk (w6.heap.size) 1 none).block < W2.heap.size := M6.lt 1 rfl
          have lt2 : (Addr.mk (w2.heap.size) 1 none).block < W2.heap.size := M6.lt 3 rfl
          have lt3 : (Addr.mk (w1.heap.size + 1) 0 none).block < W2.heap.size := M6.lt 4 rfl
          have lt4 : (Addr.mk (w1.heap.size) 0 none).block < W2.heap.size := M6.lt 5 rfl
          have lt5 : (Addr.mk (w1.heap.size) 1 none).block < W2.heap.size := M6.lt 6 rfl
          have HM := hide M6
          have HES := hide ((M6.get 1 rfl).sl)
          have HQS := hide ((M6.get 2 rfl).sl)
          have HPP := hide (PR.mk h4m (M6.get 4 rfl).sl hgn (M6.get 3 rfl).sl)
          have HS0 : Hid (W2.drew.cell? ⟨w6.heap.size, 0, none⟩ = some (.int .i64 6) ∧ W2.drew.cell? ⟨w6.heap.size, 1, none⟩ = some (.slice ba bn bc) ∧ W2.drew.cell? ⟨w2.heap.size, 1, none⟩ = some (.slice ea 4 ec) ∧ W2.drew.cell? ⟨w1.heap.size + 1, 0, none⟩ = some (.slice rq 4 rk) ∧ W2.drew.cell? ⟨w1.heap.size, 0, none⟩ = some (.slice pa 4 pc) ∧ W2.drew.cell? ⟨w1.heap.size, 1, none⟩ = some (.slice ga gn gc) ∧ Below W2.heap.size W2 W2.drew) := ⟨M6.cell 0 rfl, M6.cell 1 rfl, M6.cell 3 rfl, M6.cell 4 rfl, M6.cell 5 rfl, M6.cell 6 rfl, (Below.refl _ _).drew⟩
          clear M6 hW
          go_upto_region 20 with fail
          rw [← HW.out]
          as_aux_lemma =>
            refine wp_region_held_drew (S := (fun w' => w'.cell? ⟨w6.heap.size, 0, none⟩ = some (.int .i64 6) ∧ w'.cell? ⟨w6.heap.size, 1, none⟩ = some (.slice ba bn bc) ∧ w'.cell? ⟨w2.heap.size, 1, none⟩ = some (.slice ea 4 ec) ∧ w'.cell? ⟨w1.heap.size + 1, 0, none⟩ = some (.slice rq 4 rk) ∧ w'.cell? ⟨w1.heap.size, 0, none⟩ = some (.slice pa 4 pc) ∧ w'.cell? ⟨w1.heap.size, 1, none⟩ = some (.slice ga gn gc) ∧ Below W2.heap.size W2 w')) (by kernel_rfl) HS0.out (fun hHeld => ?_)
            refine wpAnyH_take (i := 0) (oi := { dst := some 175, op := Go.Op.load 28 (Go.Operand.tmp 3), type := 28, pos := "laws.go:697", after := #[], guard := none }) (v := ?_) rfl (by kernel_rfl) (by kernel_rfl) (by kernel_rfl) (fun _ _ _ h => h) (Or.inl ⟨by rfl, ?_⟩) (by assumption) ?_
            rotate_left
            · (intro w hSw; (try dsimp only at hSw); go_simp; (try with_reducible rfl))
            (try simp only [Act.put, List.setIfInBounds_toArray, List.set_cons_zero, List.set_cons_succ])
            refine wpAnyH_take (i := 1) (oi := { dst := some 176, op := Go.Op.load 26 (Go.Operand.tmp 4), type := 26, pos := "laws.go:697", after := #[], guard := none }) (v := ?_) rfl (by kernel_rfl) (by kernel_rfl) (by kernel_rfl) (fun _ _ _ h => h) (Or.inl ⟨by rfl, ?_⟩) (by assumption) ?_
            rotate_left
            · (intro w hSw; (try dsimp only at hSw); go_simp; (try with_reducible rfl))
            (try simp only [Act.put, List.setIfInBounds_toArray, List.set_cons_zero, List.set_cons_succ])
            refine wpAnyH_ready (rs := [2]) (by kernel_rfl) (by simp) ?_
            refine AllReadyH.cons (o := { dst := some 177, op := Go.Op.call { callee := Go.Callee.value (Go.Operand.func 21), args := #[Go.Operand.tmp 175, Go.Operand.tmp 176], argTypes := #[28, 26] }, type := 4, pos := "laws.go:697", after := #[{ on := 0, ground := Go.Ground.data }, { on := 1, ground := Go.Ground.data }], guard := none }) rfl (fun K hK => ?_) AllReadyH.nil
            go_simp
            go_wp2_with (go_at_call 21; (with_reducible refine (mayEnter_as pa 4 pc z ga gn gc y rq 4 rk x true _ hme ?_ hl ?_).mono ?_); exact HPP.out.below (q6_bel (by with_reducible assumption)) (Nat.le_refl _); exact HQS.out.below (q6_bel (by with_reducible assumption)) (Nat.le_refl _); rintro e y1 ⟨rfl, ga⟩; have hs1 := q6_below lt0 lt1 lt2 lt3 lt4 lt5 (by with_reducible assumption) ga; clear ga)
            refine hK.out _ _ hs1 (fun hHeld => ?_)
            clear hK K
            (try simp only [Act.put, List.setIfInBounds_toArray, List.set_cons_zero, List.set_cons_succ])
            refine wpAnyH_take (i := 3) (oi := { dst := some 178, op := Go.Op.move (Go.Operand.tmp 177), type := 4, pos := "laws.go:697", after := #[{ on := 2, ground := Go.Ground.data }, { on := 2, ground := Go.Ground.chain }], guard := none }) (v := ?_) rfl (by kernel_rfl) (by kernel_rfl) (by kernel_rfl) (fun _ _ _ h => h) (Or.inl ⟨by rfl, ?_⟩) (by assumption) ?_
            rotate_left
            · (intro w hSw; (try dsimp only at hSw); go_simp; (try with_reducible rfl))
            (try simp only [Act.put, List.setIfInBounds_toArray, List.set_cons_zero, List.set_cons_succ])
            refine wpAnyH_take (i := 4) (oi := { dst := some 179, op := Go.Op.fieldAddr 32 (Go.Operand.tmp 5) 1, type := 0, pos := "laws.go:697", after := #[{ on := 3, ground := Go.Ground.guard }], guard := some (3, true) }) (v := ?_) rfl (by kernel_rfl) (by kernel_rfl) (by kernel_rfl) (fun _ _ _ h => h) (Or.inl ⟨by rfl, ?_⟩) (by assumption) ?_
            rotate_left
            · (intro w hSw; (try dsimp only at hSw); go_simp; (try with_reducible rfl))
            (try simp only [Act.put, List.setIfInBounds_toArray, List.set_cons_zero, List.set_cons_succ])
            refine wpAnyH_take (i := 5) (oi := { dst := some 180, op := Go.Op.load 26 (Go.Operand.tmp 179), type := 26, pos := "laws.go:697", after := #[{ on := 4, ground := Go.Ground.data }, { on := 3, ground := Go.Ground.guard }], guard := some (3, true) }) (v := ?_) rfl (by kernel_rfl) (by kernel_rfl) (by kernel_rfl) (fun _ _ _ h => h) (Or.inl ⟨by rfl, ?_⟩) (by assumption) ?_
            rotate_left
            · (intro w hSw; (try dsimp only at hSw); go_simp; (try with_reducible rfl))
            (try simp only [Act.put, List.setIfInBounds_toArray, List.set_cons_zero, List.set_cons_succ])
            refine wpAnyH_ready (rs := [6]) (by kernel_rfl) (by simp) ?_
            refine AllReadyH.cons (o := { dst := some 181, op := Go.Op.call { callee := Go.Callee.value (Go.Operand.func 22), args := #[Go.Operand.tmp 180], argTypes := #[26] }, type := 2, pos := "laws.go:697", after := #[{ on := 5, ground := Go.Ground.data }, { on := 3, ground := Go.Ground.chain }, { on := 3, ground := Go.Ground.guard }], guard := some (3, true) }) rfl (fun K hK => ?_) AllReadyH.nil
            go_simp
            go_wp2_with (go_at_call 22; (with_reducible refine (fault_as ea 4 ec (mix ent x z) _ hfE h4m ?_).mono ?_); exact HES.out.below (q6_bel (by with_reducible assumption)) (Nat.le_refl _); rintro e y1 ⟨rfl, ga⟩; have hs1 := q6_below lt0 lt1 lt2 lt3 lt4 lt5 (by with_reducible assumption) ga; clear ga)
            refine hK.out _ _ hs1 (fun hHeld => ?_)
            clear hK K
            (try simp only [Act.put, List.setIfInBounds_toArray, List.set_cons_zero, List.set_cons_succ])
            refine wpAnyH_take (i := 7) (oi := { dst := some 182, op := Go.Op.binOp Go.BinOp.eql 2 (Go.Operand.tmp 181) (Go.Operand.const (Go.Value.int Go.IntKind.i64 0)) 2, type := 4, pos := "laws.go:697", after := #[{ on := 6, ground := Go.Ground.data }, { on := 3, ground := Go.Ground.guard }], guard := some (3, true) }) (v := ?_) rfl (by kernel_rfl) (by kernel_rfl) (by kernel_rfl) (fun _ _ _ h => h) (Or.inl ⟨by rfl, ?_⟩) (by assumption) ?_
            rotate_left
            · (intro w hSw; (try dsimp only at hSw); go_simp; (try with_reducible rfl))
            (try simp only [Act.put, List.setIfInBounds_toArray, List.set_cons_zero, List.set_cons_succ])
            refine wpAnyH_take (i := 8) (oi := { dst := some 183, op := Go.Op.pick (Go.Operand.tmp 178) (Go.Operand.tmp 182) (Go.Operand.const (Go.Value.bool false)), type := 4, pos := "laws.go:697", after := #[{ on := 3, ground := Go.Ground.data }, { on := 7, ground := Go.Ground.data }], guard := none }) (v := ?_) rfl (by kernel_rfl) (by kernel_rfl) (by kernel_rfl) (fun _ _ _ h => h) (Or.inl ⟨by rfl, ?_⟩) (by assumption) ?_
            rotate_left
            · (intro w hSw; (try dsimp only at hSw); go_simp; (try with_reducible rfl))
            (try simp only [Act.put, List.setIfInBounds_toArray, List.set_cons_zero, List.set_cons_succ])
            refine wpAnyH_take (i := 9) (oi := { dst := some 184, op := Go.Op.move (Go.Operand.tmp 183), type := 4, pos := "laws.go:697", after := #[{ on := 8, ground := Go.Ground.data }, { on := 6, ground := Go.Ground.chain }], guard := none }) (v := ?_) rfl (by kernel_rfl) (by kernel_rfl) (by kernel_rfl) (fun _ _ _ h => h) (Or.inl ⟨by rfl, ?_⟩) (by assumption) ?_
            rotate_left
            · (intro w hSw; (try dsimp only at hSw); go_simp; (try with_reducible rfl))
            (try simp only [Act.put, List.setIfInBounds_toArray, List.set_cons_zero, List.set_cons_succ])
            refine wpAnyH_take (i := 10) (oi := { dst := some 185, op := Go.Op.fieldAddr 32 (Go.Operand.tmp 11) 0, type := 0, pos := "laws.go:697", after := #[{ on := 9, ground := Go.Ground.guard }], guard := some (9, true) }) (v := ?_) rfl (by kernel_rfl) (by kernel_rfl) (by kernel_rfl) (fun _ _ _ h => h) (Or.inl ⟨by rfl, ?_⟩) (by assumption) ?_
            rotate_left
            · (intro w hSw; (try dsimp only at hSw); go_simp; (try with_reducible rfl))
            (try simp only [Act.put, List.setIfInBounds_toArray, List.set_cons_zero, List.set_cons_succ])
            refine wpAnyH_take (i := 11) (oi := { dst := some 186, op := Go.Op.load 2 (Go.Operand.tmp 185), type := 2, pos := "laws.go:697", after := #[{ on := 10, ground := Go.Ground.data }, { on := 9, ground := Go.Ground.guard }], guard := some (9, true) }) (v := ?_) rfl (by kernel_rfl) (by kernel_rfl) (by kernel_rfl) (fun _ _ _ h => h) (Or.inl ⟨by rfl, ?_⟩) (by assumption) ?_
            rotate_left
            · (intro w hSw; (try dsimp only at hSw); go_simp; (try with_reducible rfl))
            (try simp only [Act.put, List.setIfInBounds_toArray, List.set_cons_zero, List.set_cons_succ])
            refine wpAnyH_take (i := 12) (oi := { dst := some 187, op := Go.Op.binOp Go.BinOp.eql 2 (Go.Operand.tmp 186) (Go.Operand.const (Go.Value.int Go.IntKind.i64 6)) 2, type := 4, pos := "laws.go:697", after := #[{ on := 11, ground := Go.Ground.data }, { on := 9, ground := Go.Ground.guard }], guard := some (9, true) }) (v := ?_) rfl (by kernel_rfl) (by kernel_rfl) (by kernel_rfl) (fun _ _ _ h => h) (Or.inl ⟨by rfl, ?_⟩) (by assumption) ?_
            rotate_left
            · (intro w hSw; (try dsimp only at hSw); go_simp; (try with_reducible rfl))
            (try simp only [Act.put, List.setIfInBounds_toArray, List.set_cons_zero, List.set_cons_succ])
            refine wpAnyH_take (i := 13) (oi := { dst := some 188, op := Go.Op.move (Go.Operand.tmp 187), type := 4, pos := "laws.go:697", after := #[{ on := 12, ground := Go.Ground.data }, { on := 9, ground := Go.Ground.chain }, { on := 9, ground := Go.Ground.guard }], guard := some (9, true) }) (v := ?_) rfl (by kernel_rfl) (by kernel_rfl) (by kernel_rfl) (fun _ _ _ h => h) (Or.inl ⟨by rfl, ?_⟩) (by assumption) ?_
            rotate_left
            · (intro w hSw; (try dsimp only at hSw); go_simp; (try with_reducible rfl))
            (try simp only [Act.put, List.setIfInBounds_toArray, List.set_cons_zero, List.set_cons_succ])
            refine wpAnyH_take (i := 14) (oi := { dst := some 189, op := Go.Op.fieldAddr 32 (Go.Operand.tmp 11) 1, type := 0, pos := "laws.go:697", after := #[{ on := 13, ground := Go.Ground.guard }], guard := some (13, false) }) (v := undef) rfl (by kernel_rfl) (by kernel_rfl) (by kernel_rfl) (fun _ _ _ h => h) (Or.inr ⟨by rfl, rfl⟩) (by assumption) ?_
            (try simp only [Act.put, List.setIfInBounds_toArray, List.set_cons_zero, List.set_cons_succ])
            refine wpAnyH_take (i := 15) (oi := { dst := some 190, op := Go.Op.fieldAddr 26 (Go.Operand.tmp 189) 0, type := 0, pos := "laws.go:697", after := #[{ on := 14, ground := Go.Ground.data }, { on := 13, ground := Go.Ground.guard }], guard := some (13, false) }) (v := undef) rfl (by kernel_rfl) (by kernel_rfl) (by kernel_rfl) (fun _ _ _ h => h) (Or.inr ⟨by rfl, rfl⟩) (by assumption) ?_
            (try simp only [Act.put, List.setIfInBounds_toArray, List.set_cons_zero, List.set_cons_succ])
            refine wpAnyH_take (i := 16) (oi := { dst := some 191, op := Go.Op.load 24 (Go.Operand.tmp 190), type := 24, pos := "laws.go:697", after := #[{ on := 15, ground := Go.Ground.data }, { on := 13, ground := Go.Ground.guard }], guard := some (13, false) }) (v := undef) rfl (by kernel_rfl) (by kernel_rfl) (by kernel_rfl) (fun _ _ _ h => h) (Or.inr ⟨by rfl, rfl⟩) (by assumption) ?_
            (try simp only [Act.put, List.setIfInBounds_toArray, List.set_cons_zero, List.set_cons_succ])
            refine wpAnyH_take (i := 17) (oi := { dst := some 192, op := Go.Op.fieldAddr 32 (Go.Operand.tmp 5) 1, type := 0, pos := "laws.go:697", after := #[{ on := 13, ground := Go.Ground.guard }], guard := some (13, false) }) (v := undef) rfl (by kernel_rfl) (by kernel_rfl) (by kernel_rfl) (fun _ _ _ h => h) (Or.inr ⟨by rfl, rfl⟩) (by assumption) ?_
            (try simp only [Act.put, List.setIfInBounds_toArray, List.set_cons_zero, List.set_cons_succ])
            refine wpAnyH_take (i := 18) (oi := { dst := some 193, op := Go.Op.fieldAddr 26 (Go.Operand.tmp 192) 0, type := 0, pos := "laws.go:697", after := #[{ on := 17, ground := Go.Ground.data }, { on := 13, ground := Go.Ground.guard }], guard := some (13, false) }) (v := undef) rfl (by kernel_rfl) (by kernel_rfl) (by kernel_rfl) (fun _ _ _ h => h) (Or.inr ⟨by rfl, rfl⟩) (by assumption) ?_
            (try simp only [Act.put, List.setIfInBounds_toArray, List.set_cons_zero, List.set_cons_succ])
            refine wpAnyH_take (i := 19) (oi := { dst := some 194, op := Go.Op.load 24 (Go.Operand.tmp 193), type := 24, pos := "laws.go:697", after := #[{ on := 18, ground := Go.Ground.data }, { on := 13, ground := Go.Ground.guard }], guard := some (13, false) }) (v := undef) rfl (by kernel_rfl) (by kernel_rfl) (by kernel_rfl) (fun _ _ _ h => h) (Or.inr ⟨by rfl, rfl⟩) (by assumption) ?_
            (try simp only [Act.put, List.setIfInBounds_toArray, List.set_cons_zero, List.set_cons_succ])
            refine wpAnyH_take (i := 20) (oi := { dst := some 195, op := Go.Op.call { callee := Go.Callee.value (Go.Operand.func 17), args := #[Go.Operand.tmp 191, Go.Operand.tmp 194], argTypes := #[24, 24] }, type := 4, pos := "laws.go:697", after := #[{ on := 16, ground := Go.Ground.data }, { on := 19, ground := Go.Ground.data }, { on := 13, ground := Go.Ground.chain }, { on := 13, ground := Go.Ground.guard }], guard := some (13, false) }) (v := undef) rfl (by kernel_rfl) (by kernel_rfl) (by kernel_rfl) (fun _ _ _ h => h) (Or.inr ⟨by rfl, rfl⟩) (by assumption) ?_
            (try simp only [Act.put, List.setIfInBounds_toArray, List.set_cons_zero, List.set_cons_succ])
            refine wpAnyH_take (i := 21) (oi := { dst := some 196, op := Go.Op.pick (Go.Operand.tmp 188) (Go.Operand.const (Go.Value.bool true)) (Go.Operand.tmp 195), type := 4, pos := "laws.go:697", after := #[{ on := 13, ground := Go.Ground.data }, { on := 20, ground := Go.Ground.data }, { on := 9, ground := Go.Ground.guard }], guard := some (9, true) }) (v := ?_) rfl (by kernel_rfl) (by kernel_rfl) (by kernel_rfl) (fun _ _ _ h => h) (Or.inl ⟨by rfl, ?_⟩) (by assumption) ?_
            rotate_left
            · (intro w hSw; (try dsimp only at hSw); go_simp; (try with_reducible rfl))
            (try simp only [Act.put, List.setIfInBounds_toArray, List.set_cons_zero, List.set_cons_succ])
            refine wpAnyH_take (i := 22) (oi := { dst := some 197, op := Go.Op.pick (Go.Operand.tmp 184) (Go.Operand.tmp 196) (Go.Operand.const (Go.Value.bool false)), type := 4, pos := "laws.go:697", after := #[{ on := 9, ground := Go.Ground.data }, { on := 21, ground := Go.Ground.data }], guard := none }) (v := ?_) rfl (by kernel_rfl) (by kernel_rfl) (by kernel_rfl) (fun _ _ _ h => h) (Or.inl ⟨by rfl, ?_⟩) (by assumption) ?_
            rotate_left
            · (intro w hSw; (try dsimp only at hSw); go_simp; (try with_reducible rfl))
            (try simp only [Act.put, List.setIfInBounds_toArray, List.set_cons_zero, List.set_cons_succ])
            refine wpAnyH_take (i := 23) (oi := { dst := some 198, op := Go.Op.move (Go.Operand.tmp 197), type := 4, pos := "laws.go:697", after := #[{ on := 22, ground := Go.Ground.data }, { on := 20, ground := Go.Ground.chain }], guard := none }) (v := ?_) rfl (by kernel_rfl) (by kernel_rfl) (by kernel_rfl) (fun _ _ _ h => h) (Or.inl ⟨by rfl, ?_⟩) (by assumption) ?_
            rotate_left
            · (intro w hSw; (try dsimp only at hSw); go_simp; (try with_reducible rfl))
            (try simp only [Act.put, List.setIfInBounds_toArray, List.set_cons_zero, List.set_cons_succ])
            refine wpAnyH_take (i := 24) (oi := { dst := some 199, op := Go.Op.fieldAddr 32 (Go.Operand.tmp 5) 1, type := 0, pos := "laws.go:697", after := #[{ on := 23, ground := Go.Ground.guard }], guard := some (23, true) }) (v := ?_) rfl (by kernel_rfl) (by kernel_rfl) (by kernel_rfl) (fun _ _ _ h => h) (Or.inl ⟨by rfl, ?_⟩) (by assumption) ?_
            rotate_left
            · (intro w hSw; (try dsimp only at hSw); go_simp; (try with_reducible rfl))
            (try simp only [Act.put, List.setIfInBounds_toArray, List.set_cons_zero, List.set_cons_succ])
            refine wpAnyH_take (i := 25) (oi := { dst := some 200, op := Go.Op.fieldAddr 26 (Go.Operand.tmp 199) 0, type := 0, pos := "laws.go:697", after := #[{ on := 24, ground := Go.Ground.data }, { on := 23, ground := Go.Ground.guard }], guard := some (23, true) }) (v := ?_) rfl (by kernel_rfl) (by kernel_rfl) (by kernel_rfl) (fun _ _ _ h => h) (Or.inl ⟨by rfl, ?_⟩) (by assumption) ?_
            rotate_left
            · (intro w hSw; (try dsimp only at hSw); go_simp; (try with_reducible rfl))
            (try simp only [Act.put, List.setIfInBounds_toArray, List.set_cons_zero, List.set_cons_succ])
            refine wpAnyH_take (i := 26) (oi := { dst := some 201, op := Go.Op.load 24 (Go.Operand.tmp 200), type := 24, pos := "laws.go:697", after := #[{ on := 25, ground := Go.Ground.data }, { on := 23, ground := Go.Ground.guard }], guard := some (23, true) }) (v := ?_) rfl (by kernel_rfl) (by kernel_rfl) (by kernel_rfl) (fun _ _ _ h => h) (Or.inl ⟨by rfl, ?_⟩) (by assumption) ?_
            rotate_left
            · (intro w hSw; (try dsimp only at hSw); go_simp; (try with_reducible rfl))
            (try simp only [Act.put, List.setIfInBounds_toArray, List.set_cons_zero, List.set_cons_succ])
            refine wpAnyH_take (i := 27) (oi := { dst := some 202, op := Go.Op.load 28 (Go.Operand.tmp 3), type := 28, pos := "laws.go:697", after := #[{ on := 23, ground := Go.Ground.guard }], guard := some (23, true) }) (v := ?_) rfl (by kernel_rfl) (by kernel_rfl) (by kernel_rfl) (fun _ _ _ h => h) (Or.inl ⟨by rfl, ?_⟩) (by assumption) ?_
            rotate_left
            · (intro w hSw; (try dsimp only at hSw); go_simp; (try with_reducible rfl))
            (try simp only [Act.put, List.setIfInBounds_toArray, List.set_cons_zero, List.set_cons_succ])
            refine wpAnyH_take (i := 28) (oi := { dst := some 203, op := Go.Op.load 26 (Go.Operand.tmp 4), type := 26, pos := "laws.go:697", after := #[{ on := 23, ground := Go.Ground.guard }], guard := some (23, true) }) (v := ?_) rfl (by kernel_rfl) (by kernel_rfl) (by kernel_rfl) (fun _ _ _ h => h) (Or.inl ⟨by rfl, ?_⟩) (by assumption) ?_
            rotate_left
            · (intro w hSw; (try dsimp only at hSw); go_simp; (try with_reducible rfl))
            (try simp only [Act.put, List.setIfInBounds_toArray, List.set_cons_zero, List.set_cons_succ])
            refine wpAnyH_ready (rs := [29]) (by kernel_rfl) (by simp) ?_
            refine AllReadyH.cons (o := { dst := some 204, op := Go.Op.call { callee := Go.Callee.value (Go.Operand.func 20), args := #[Go.Operand.tmp 202, Go.Operand.tmp 203], argTypes := #[28, 26] }, type := 32, pos := "laws.go:697", after := #[{ on := 27, ground := Go.Ground.data }, { on := 28, ground := Go.Ground.data }, { on := 23, ground := Go.Ground.chain }, { on := 23, ground := Go.Ground.guard }], guard := some (23, true) }) rfl (fun K hK => ?_) AllReadyH.nil
            go_simp
            go_wp2_with (go_at_call 20; (with_reducible refine (specEnterPass_calls pa 4 pc z ga gn gc y rq 4 rk x _ ?_ hl ?_).mono ?_); exact HPP.out.below (q6_bel (by with_reducible assumption)) (Nat.le_refl _); exact HQS.out.below (q6_bel (by with_reducible assumption)) (Nat.le_refl _); rintro e y1 ⟨k1a, k1n, k1c, rfl, ok, ga⟩; have hs1 := q6_below lt0 lt1 lt2 lt3 lt4 lt5 (by with_reducible assumption) ga; have hk1 := osMax ok; have HK := hide ok.sl; clear ok; clear ga)
            refine hK.out _ _ hs1 (fun hHeld => ?_)
            clear hK K
            (try simp only [Act.put, List.setIfInBounds_toArray, List.set_cons_zero, List.set_cons_succ])
            refine wpAnyH_take (i := 30) (oi := { dst := some 205, op := Go.Op.field 32 (Go.Operand.tmp 204) 1, type := 26, pos := "laws.go:697", after := #[{ on := 29, ground := Go.Ground.data }, { on := 23, ground := Go.Ground.guard }], guard := some (23, true) }) (v := ?_) rfl (by kernel_rfl) (by kernel_rfl) (by kernel_rfl) (fun _ _ _ h => h) (Or.inl ⟨by rfl, ?_⟩) (by assumption) ?_
            rotate_left
            · (intro w hSw; (try dsimp only at hSw); go_simp; (try with_reducible rfl))
            (try simp only [Act.put, List.setIfInBounds_toArray, List.set_cons_zero, List.set_cons_succ])
            refine wpAnyH_take (i := 31) (oi := { dst := some 206, op := Go.Op.field 26 (Go.Operand.tmp 205) 0, type := 24, pos := "laws.go:697", after := #[{ on := 30, ground := Go.Ground.data }, { on := 23, ground := Go.Ground.guard }], guard := some (23, true) }) (v := ?_) rfl (by kernel_rfl) (by kernel_rfl) (by kernel_rfl) (fun _ _ _ h => h) (Or.inl ⟨by rfl, ?_⟩) (by assumption) ?_
            rotate_left
            · (intro w hSw; (try dsimp only at hSw); go_simp; (try with_reducible rfl))
            (try simp only [Act.put, List.setIfInBounds_toArray, List.set_cons_zero, List.set_cons_succ])
            refine wpAnyH_ready (rs := [32]) (by kernel_rfl) (by simp) ?_
            refine AllReadyH.cons (o := { dst := some 207, op := Go.Op.call { callee := Go.Callee.value (Go.Operand.func 17), args := #[Go.Operand.tmp 201, Go.Operand.tmp 206], argTypes := #[24, 24] }, type := 4, pos := "laws.go:697", after := #[{ on := 26, ground := Go.Ground.data }, { on := 31, ground := Go.Ground.data }, { on := 29, ground := Go.Ground.chain }, { on := 23, ground := Go.Ground.guard }], guard := some (23, true) }) rfl (fun K hK => ?_) AllReadyH.nil
            go_simp
            go_wp2_with (go_at_call 17; (with_reducible refine (lwNums_as ea k1a 4 ec k1n k1c (mix ent x z) _ _ hLE h4m hk1 ?_ ?_).mono ?_); exact HES.out.below (q6_bel (by with_reducible assumption)) (Nat.le_refl _); exact HK.out; rintro e y1 ⟨rfl, ga⟩; have hs1 := q6_below lt0 lt1 lt2 lt3 lt4 lt5 (by with_reducible assumption) ga; clear ga)
            refine hK.out _ _ hs1 (fun hHeld => ?_)
            clear hK K
            (try simp only [Act.put, List.setIfInBounds_toArray, List.set_cons_zero, List.set_cons_succ])
            refine wpAnyH_take (i := 33) (oi := { dst := some 208, op := Go.Op.pick (Go.Operand.tmp 198) (Go.Operand.tmp 207) (Go.Operand.const (Go.Value.bool false)), type := 4, pos := "laws.go:697", after := #[{ on := 23, ground := Go.Ground.data }, { on := 32, ground := Go.Ground.data }], guard := none }) (v := ?_) rfl (by kernel_rfl) (by kernel_rfl) (by kernel_rfl) (fun _ _ _ h => h) (Or.inl ⟨by rfl, ?_⟩) (by assumption) ?_
            rotate_left
            · (intro w hSw; (try dsimp only at hSw); go_simp; (try with_reducible rfl))
            (try simp only [Act.put, List.setIfInBounds_toArray, List.set_cons_zero, List.set_cons_succ])
            refine wpAnyH_take (i := 34) (oi := { dst := some 2, op := Go.Op.assign (Go.Operand.tmp 208), type := 4, pos := "laws.go:697", after := #[{ on := 33, ground := Go.Ground.data }, { on := 32, ground := Go.Ground.chain }, { on := 0, ground := Go.Ground.phase }, { on := 1, ground := Go.Ground.phase }, { on := 2, ground := Go.Ground.phase }, { on := 3, ground := Go.Ground.phase }, { on := 4, ground := Go.Ground.phase }, { on := 5, ground := Go.Ground.phase }, { on := 6, ground := Go.Ground.phase }, { on := 7, ground := Go.Ground.phase }, { on := 8, ground := Go.Ground.phase }, { on := 9, ground := Go.Ground.phase }, { on := 10, ground := Go.Ground.phase }, { on := 11, ground := Go.Ground.phase }, { on := 12, ground := Go.Ground.phase }, { on := 13, ground := Go.Ground.phase }, { on := 14, ground := Go.Ground.phase }, { on := 15, ground := Go.Ground.phase }, { on := 16, ground := Go.Ground.phase }, { on := 17, ground := Go.Ground.phase }, { on := 18, ground := Go.Ground.phase }, { on := 19, ground := Go.Ground.phase }, { on := 20, ground := Go.Ground.phase }, { on := 21, ground := Go.Ground.phase }, { on := 22, ground := Go.Ground.phase }, { on := 23, ground := Go.Ground.phase }, { on := 24, ground := Go.Ground.phase }, { on := 25, ground := Go.Ground.phase }, { on := 26, ground := Go.Ground.phase }, { on := 27, ground := Go.Ground.phase }, { on := 28, ground := Go.Ground.phase }, { on := 29, ground := Go.Ground.phase }, { on := 30, ground := Go.Ground.phase }, { on := 31, ground := Go.Ground.phase }, { on := 32, ground := Go.Ground.phase }, { on := 33, ground := Go.Ground.phase }], guard := none }) (v := ?_) rfl (by kernel_rfl) (by kernel_rfl) (by kernel_rfl) (fun _ _ _ h => h) (Or.inl ⟨by rfl, ?_⟩) (by assumption) ?_
            rotate_left
            · (intro w hSw; (try dsimp only at hSw); go_simp; (try with_reducible rfl))
            (try simp only [Act.put, List.setIfInBounds_toArray, List.set_cons_zero, List.set_cons_succ])
            refine wpAnyH_done (by kernel_rfl) ?_ _
            have HE := hide (HM.out.below (q6_bel hs1)).bel
            clear hs1 HS0 HM
            go_wp2
            go_ret
            exact ⟨rfl, HE.out⟩

end Go.Proofs.Ytdcfdmcooonfkaa
