import Derived.Test.YtpcdfeccmiiglaaStepAny
import Derived.Test.YtpcdfeccmiiglaaDrawFO
import Derived.Test.YtpcdfeccmiiglaaFpP
import Derived.Test.YtpcdfeccmiiglaaKiL
import Derived.Test.YtpcdfeccmiiglaaKiK
import Derived.Test.YtpcdfeccmiiglaaKiI
import Derived.Test.YtpcdfeccmiiglaaKiH
import Derived.Test.YtpcdfeccmiiglaaKiA
import Derived.Test.YtpcdfeccmiiglaaQs
import Derived.WalkKit
import Derived.ProofKit
import Derived.OpenShut
import Derived.ShutString
import Derived.ChangeOld
import Derived.Below
import Derived.WalkSpells
import Derived.Deep.QuietTactic
import Derived.BigQuiet
import Derived.Deep.RegionWith
import Derived.Deep.WholeRow
import Derived.Deep.DeepCutAuto
import Derived.Deep.RegionHeld2
import Derived.Deep.AppendLies
import Derived.Deep.RegionLaw
namespace Go.Proofs.Ytpcdfeccmiiglaa
open Go.ChangeShapes Go.WideShapes Go.ChangeAt Go.RowKit

set_option maxRecDepth 100000 in
theorem lwBig_calls (a : Option Addr) (len cap : Nat) (w : World) (_hl : len ≤ maxLen) :
    Calls Try.prog 6 #[.slice a len cap] w fun e w' => e = .returned (.bool (decide (1048576 < (len : Int)))) ∧ w' = w := by
  go_enter Try.func6, Try.ntmps6
  go_wp2
  go_ret
  exact ⟨rfl, rfl⟩

set_option maxRecDepth 100000 in
theorem lwNums_calls (a b : Option Addr) (la ca lb cb : Nat) (xs ys : List Int) (w : World) (hla : la ≤ maxLen) (hlb : lb ≤ maxLen) (hx : Sl w a la xs) (hy : Sl w b lb ys) :
    Calls Try.prog 12 #[.slice a la ca, .slice b lb cb] w fun e w' => e = .returned (.bool (decide (xs = ys))) ∧ Below w.heap.size w w' := by
  unfold maxLen at hla hlb
  obtain ⟨hxl, hx⟩ := hx
  obtain ⟨hyl, hy⟩ := hy
  by_cases hne : la = lb
  · subst hne
    have hn : ((la : Int) == (la : Int)) = true := by simp
    · go_enter Try.func12, Try.ntmps12
      go_wp2
      go_loopw [5] (fun i wr => ∃ k : Nat, k ≤ la ∧ i = .int .i64 k ∧ Below w.heap.size w wr ∧ ∀ j, j < k → gt xs j = gt ys j) (fun i _ => la - (intOf i).toNat)
      case atStart => exact ⟨0, Nat.zero_le _, rfl, Below.refl _ _, fun j hj => by omega⟩
      case round =>
        obtain ⟨k, hk, rfl, hbel, hall⟩ := hrel
        have Hall : Hid (∀ j, j < k → gt xs j = gt ys j) := hall
        clear hall
        by_cases hlt : k < la
        · obtain ⟨b1, o1, rfl, hb1, hc1⟩ := hx (by omega)
          obtain ⟨b2, o2, rfl, hb2, hc2⟩ := hy (by omega)
          have hck1 := (hbel.cell (p := ⟨b1, o1 + k, none⟩) hb1).trans (hc1 k hlt)
          have hck2 := (hbel.cell (p := ⟨b2, o2 + k, none⟩) hb2).trans (hc2 k hlt)
          have hki : (k : Int) < (la : Int) := by omega
          by_cases he : gt xs k = gt ys k
          · have hbq : (gt xs k != gt ys k) = false := by simp [he]
            have He : Hid (gt xs k = gt ys k) := he
            clear he
            go_wp2_with fail
            go_quiet (fail)
            go_wp2
            go_roundw
            case rel => exact ⟨k + 1, by omega, by go_num, bdrewN hbel _, fun j hj => by (by_cases e : j = k); (subst e; exact He.out); exact Hall.out j (by omega)⟩
            case measure => simp [intOf]; omega
          · have hbq : (gt xs k != gt ys k) = true := by simp [he]
            go_wp2_with fail
            go_quiet (fail)
            go_wp2
            go_ret
            exact ⟨ret_bool (by simp; intro e; exact he (by rw [e])), bdrewN hbel _⟩
        · go_wp2
          go_ret
          exact ⟨ret_bool (by simp; exact getD_ext (by omega) (fun i hi => Hall.out i (by omega))), hbel⟩
  · have hn : ((la : Int) == (lb : Int)) = false := by simp; omega
    go_enter Try.func12, Try.ntmps12
    go_wp2
    go_ret
    exact ⟨ret_bool (by simp; intro e; rw [e] at hxl; omega), Below.refl _ _⟩

theorem lwNums_as (a b : Option Addr) (la ca lb cb : Nat) (xs ys : List Int) (w : World) (h : xs = ys) (hla : la ≤ maxLen) (hlb : lb ≤ maxLen) (hx : Sl w a la xs) (hy : Sl w b lb ys) :
    Calls Try.prog 12 #[.slice a la ca, .slice b lb cb] w fun e w' => e = .returned (.bool true) ∧ Below w.heap.size w w' :=
  (lwNums_calls a b la ca lb cb xs ys w hla hlb hx hy).mono fun _ _ ⟨h1, h2⟩ => ⟨by rw [h1, decide_eq_true h], h2⟩

theorem osMax {S : Nat → Prop} {a : Option Addr} {n : Nat} {xs : List Int} {w : World} (h : OS S a n xs w) : n ≤ maxLen := by have h1 := h.2.1; unfold maxLen; omega

theorem nrF0 (c : Int) (l : Value) (w : World) : (Instr.field 31 (.agg #[.int .i64 c, l]) 0).run Try.prog w = .ok (.int .i64 c) w := by kernel_rfl
theorem nrF1 (c a : Value) (w : World) : (Instr.field 31 (.agg #[c, a]) 1).run Try.prog w = .ok a w := by kernel_rfl
theorem irF0 (c v : Int) (w : World) : (Instr.field 36 (.agg #[.int .i64 c, .int .i64 v]) 0).run Try.prog w = .ok (.int .i64 c) w := by kernel_rfl
theorem irF1 (c v : Int) (w : World) : (Instr.field 36 (.agg #[.int .i64 c, .int .i64 v]) 1).run Try.prog w = .ok (.int .i64 v) w := by kernel_rfl

set_option maxRecDepth 100000 in
theorem paths_big (a : Option Addr) (len cap : Nat) (w : World) (hl : len ≤ maxLen) (hbig : 1048576 < len) :
    Calls Try.prog 3 #[.slice a len cap] w fun e w' => e = .returned (.bool true) ∧ Below w.heap.size w w' := by
  go_enter Try.func3, Try.ntmps3
  go_wp2_with fail
  refine (lwBig_calls a len cap _ hl).mono ?_
  rintro e w1 ⟨rfl, hw⟩
  obtain rfl : w = w1 := hw.symm
  clear hw
  rw [decide_eq_true (by omega)]
  go_wp2
  go_ret
  exact ⟨rfl, Below.refl _ _⟩

set_option maxRecDepth 100000 in
set_option maxHeartbeats 8000000 in
theorem paths_small (a : Option Addr) (len cap : Nat) (w : World) (hc : Cd w a len) :
    Calls Try.prog 3 #[.slice a len cap] w fun e w' => e = .returned (.bool true) ∧ Below w.heap.size w w' := by
  have hlm : len ≤ maxLen := by have := hc.1; unfold maxLen; omega
  have M0 := Mm.start w
  have fd0 := nrF0
  have fd1 := nrF1
  have fd2 := irF0
  have fd3 := irF1
  go_enter Try.func3, Try.ntmps3
  go_wp2_with fail
  refine (lwBig_calls a len cap _ hlm).mono ?_
  rintro e w0 ⟨rfl, hw⟩
  obtain rfl : w = w0 := hw.symm
  rw [decide_eq_false (by have := hc.1; omega)]
  clear hw
  go_wp2_with fail
  refine (drawPathOf_calls a len cap _ hc).mono ?_
  rintro e w1 ⟨ra, n, rc, xs, i, rfl, kb, hnc, g1⟩
  have z1 := g1.size
  have hn : n ≤ maxLen := by have := kb.2.1; unfold maxLen; omega
  have M1 := ((M0.below g1).fact SobS.loc kb).alloc1 (.slice ra n rc) 26
  clear M0 g1 kb
  go_wp2_with fail
  refine (implPathOf_calls ra n rc xs i _ hn (M1.get 0 rfl).sob hnc).mono ?_
  rintro e w2 ⟨pa, pn, pc, rfl, o2, g2⟩
  have z2 := g2.size
  simp only [World.size_alloc] at z2 o2
  have M2 := ((M1.below g2).fact OS.loc o2).alloc2 (.int .i64 (askC xs i)) (.slice pa pn pc) 31
  clear M1 g2 o2
  have hc2 := hc.below M2.bel
  go_wp2_with fail
  refine (drawFindObject_calls a len cap _ hc2).mono ?_
  rintro e w3 ⟨xa, xn, xc, ys, za, zn, zc, zs, rfl, kb3, hxc, hzn, fr3, g3⟩
  have z3 := g3.size
  simp only [World.size_alloc] at z3 kb3 fr3
  have hxn : xn ≤ maxLen := by have := kb3.2.1; unfold maxLen; omega
  have M3 := (((M2.below g3).fact SobS.loc kb3).fact FrS.loc fr3).alloc1 (.slice xa xn xc) 26
  clear M2 g3 kb3 fr3 hc2
  go_wp2_with fail
  refine (implFindObject_calls xa xn xc ys za zn zc zs _ hxn (M3.get 1 rfl).sob hxc (by omega) (M3.get 0 rfl).sl).mono ?_
  rintro e w4 ⟨rfl, g4⟩
  have z4 := g4.size
  simp only [World.size_alloc] at z4
  have M4 := (M3.below g4).alloc2 (.int .i64 (foC ys zs)) (.int .i64 (foV ys zs)) 36
  clear M3 g4
  have hzm : zn ≤ 1048576 := by omega
  have hzx : zn ≤ maxLen := by unfold maxLen; omega
  have e1 : (foC ys zs != foC ys zs) = false := by simp
  have e2 : (foV ys zs != foV ys zs) = false := by simp
  obtain ⟨W, hW⟩ : ∃ W : World, W = w4.alloc (.cells #[.int .i64 (foC ys zs), .int .i64 (foV ys zs)] 36) := ⟨_, rfl⟩
  rw [← hW] at M4
  have HW := hide hW
  have lt0 : (Addr.mk (w4.heap.size) 0 none).block < W.heap.size := M4.lt 0 rfl
  have lt1 : (Addr.mk (w4.heap.size) 1 none).block < W.heap.size := M4.lt 1 rfl
  have lt2 : (Addr.mk (w3.heap.size) 0 none).block < W.heap.size := M4.lt 2 rfl
  have HM := hide M4
  have HXS := hide ((M4.get 1 rfl).sob)
  have HZS := hide ((M4.get 0 rfl).sl)
  have HS0 : Hid (W.drew.cell? ⟨w4.heap.size, 0, none⟩ = some (.int .i64 (foC ys zs)) ∧ W.drew.cell? ⟨w4.heap.size, 1, none⟩ = some (.int .i64 (foV ys zs)) ∧ W.drew.cell? ⟨w3.heap.size, 0, none⟩ = some (.slice xa xn xc) ∧ Below W.heap.size W W.drew) := ⟨M4.cell 0 rfl, M4.cell 1 rfl, M4.cell 2 rfl, (Below.refl _ _).drew⟩
  clear M4 hW
  go_upto_region 7 with fail
  rw [← HW.out]
  go_cut [59] (fun v wd => v = .bool false ∧ Below W.heap.size W wd)
  case first =>
    by_cases hf : foC ys zs = 0
    · have e3 : (foC ys zs == 0) = true := by simp [hf]
      have hpz := fp_path hf
      clear hf
      as_aux_lemma =>
        go_region_held2 (fun w' => w'.cell? ⟨w4.heap.size, 0, none⟩ = some (.int .i64 (foC ys zs)) ∧ w'.cell? ⟨w4.heap.size, 1, none⟩ = some (.int .i64 (foV ys zs)) ∧ w'.cell? ⟨w3.heap.size, 0, none⟩ = some (.slice xa xn xc) ∧ Below W.heap.size W w')
          (first | with_reducible exact HS0.out | with_reducible assumption)
          (first
            | (go_at_call 11; (with_reducible refine (specFindObject_calls xa xn xc ys za zn zc zs _ hxn ?_ hxc hzm ?_).mono ?_); exact HXS.out.below (q3_bel (by with_reducible assumption)) (Nat.le_refl _); exact HZS.out.below (q3_bel (by with_reducible assumption)) (Nat.le_refl _); rintro e y1 ⟨rfl, ga⟩; have hs1 := q3_below lt0 lt1 lt2 (by with_reducible assumption) ga; clear ga)
            | (go_at_call 8; (with_reducible refine (implPathOf_calls xa xn xc ys (foV ys zs) _ hxn ?_ hxc).mono ?_); exact HXS.out.below (q3_bel (by with_reducible assumption)) (Nat.le_refl _); rintro e y1 ⟨k1a, k1n, k1c, rfl, ok, ga⟩; have hs1 := q3_below lt0 lt1 lt2 (by with_reducible assumption) ga; have hk1 := osMax ok; have HK := hide ok.sl; clear ok; clear ga)
            | (go_at_call 12; (with_reducible refine (lwNums_as k1a za k1n k1c zn zc _ zs _ hpz hk1 hzx ?_ ?_).mono ?_); exact HK.out; exact HZS.out.below (q3_bel (by with_reducible assumption)) (Nat.le_refl _); rintro e y1 ⟨rfl, ga⟩; have hs1 := q3_below lt0 lt1 lt2 (by with_reducible assumption) ga; clear ga))
        all_goals go_wp2_with fail
        all_goals go_meet
        all_goals exact ⟨rfl, q3_bel hs1⟩
    · have e3 : (foC ys zs == 0) = false := by simpa using hf
      clear hf
      as_aux_lemma =>
        refine wp_region_held_drew (S := (fun w' => w'.cell? ⟨w4.heap.size, 0, none⟩ = some (.int .i64 (foC ys zs)) ∧ w'.cell? ⟨w4.heap.size, 1, none⟩ = some (.int .i64 (foV ys zs)) ∧ w'.cell? ⟨w3.heap.size, 0, none⟩ = some (.slice xa xn xc) ∧ Below W.heap.size W w')) (by kernel_rfl) HS0.out (fun hHeld => ?_)
        refine wpAnyH_take (i := 0) (oi := { dst := some 29, op := Go.Op.fieldAddr 36 (Go.Operand.tmp 8) 0, type := 0, pos := "laws.go:596", after := #[], guard := none }) (v := ?_) rfl (by kernel_rfl) (by kernel_rfl) (by kernel_rfl) (fun _ _ _ h => h) (Or.inl ⟨by rfl, ?_⟩) (by assumption) ?_
        rotate_left
        · (intro w hSw; (try dsimp only at hSw); go_simp; (try with_reducible rfl))
        (try simp only [Act.put, List.setIfInBounds_toArray, List.set_cons_zero, List.set_cons_succ])
        refine wpAnyH_take (i := 1) (oi := { dst := some 30, op := Go.Op.load 2 (Go.Operand.tmp 29), type := 2, pos := "laws.go:596", after := #[{ on := 0, ground := Go.Ground.data }], guard := none }) (v := ?_) rfl (by kernel_rfl) (by kernel_rfl) (by kernel_rfl) (fun _ _ _ h => h) (Or.inl ⟨by rfl, ?_⟩) (by assumption) ?_
        rotate_left
        · (intro w hSw; (try dsimp only at hSw); go_simp; (try with_reducible rfl))
        (try simp only [Act.put, List.setIfInBounds_toArray, List.set_cons_zero, List.set_cons_succ])
        refine wpAnyH_take (i := 2) (oi := { dst := some 31, op := Go.Op.load 26 (Go.Operand.tmp 6), type := 26, pos := "laws.go:596", after := #[], guard := none }) (v := ?_) rfl (by kernel_rfl) (by kernel_rfl) (by kernel_rfl) (fun _ _ _ h => h) (Or.inl ⟨by rfl, ?_⟩) (by assumption) ?_
        rotate_left
        · (intro w hSw; (try dsimp only at hSw); go_simp; (try with_reducible rfl))
        (try simp only [Act.put, List.setIfInBounds_toArray, List.set_cons_zero, List.set_cons_succ])
        refine wpAnyH_take (i := 3) (oi := { dst := some 32, op := Go.Op.move (Go.Operand.tmp 7), type := 29, pos := "laws.go:596", after := #[], guard := none }) (v := ?_) rfl (by kernel_rfl) (by kernel_rfl) (by kernel_rfl) (fun _ _ _ h => h) (Or.inl ⟨by rfl, ?_⟩) (by assumption) ?_
        rotate_left
        · (intro w hSw; (try dsimp only at hSw); go_simp; (try with_reducible rfl))
        (try simp only [Act.put, List.setIfInBounds_toArray, List.set_cons_zero, List.set_cons_succ])
        refine wpAnyH_ready (rs := [4]) (by kernel_rfl) (by simp) ?_
        refine AllReadyH.cons (o := { dst := some 33, op := Go.Op.call { callee := Go.Callee.value (Go.Operand.func 11), args := #[Go.Operand.tmp 31, Go.Operand.tmp 32], argTypes := #[26, 29] }, type := 36, pos := "laws.go:596", after := #[{ on := 2, ground := Go.Ground.data }, { on := 3, ground := Go.Ground.data }], guard := none }) rfl (fun K hK => ?_) AllReadyH.nil
        go_simp
        go_wp2_with (go_at_call 11; (with_reducible refine (specFindObject_calls xa xn xc ys za zn zc zs _ hxn ?_ hxc hzm ?_).mono ?_); exact HXS.out.below (q3_bel (by with_reducible assumption)) (Nat.le_refl _); exact HZS.out.below (q3_bel (by with_reducible assumption)) (Nat.le_refl _); rintro e y1 ⟨rfl, ga⟩; have hs1 := q3_below lt0 lt1 lt2 (by with_reducible assumption) ga; clear ga)
        refine hK.out _ _ hs1 (fun hHeld => ?_)
        clear hK K
        (try simp only [Act.put, List.setIfInBounds_toArray, List.set_cons_zero, List.set_cons_succ])
        refine wpAnyH_take (i := 5) (oi := { dst := some 34, op := Go.Op.field 36 (Go.Operand.tmp 33) 0, type := 2, pos := "laws.go:596", after := #[{ on := 4, ground := Go.Ground.data }], guard := none }) (v := ?_) rfl (by kernel_rfl) (by kernel_rfl) (by kernel_rfl) (fun _ _ _ h => h) (Or.inl ⟨by rfl, ?_⟩) (by assumption) ?_
        rotate_left
        · (intro w hSw; (try dsimp only at hSw); go_simp; (try with_reducible rfl))
        (try simp only [Act.put, List.setIfInBounds_toArray, List.set_cons_zero, List.set_cons_succ])
        refine wpAnyH_take (i := 6) (oi := { dst := some 35, op := Go.Op.binOp Go.BinOp.neq 2 (Go.Operand.tmp 30) (Go.Operand.tmp 34) 2, type := 4, pos := "laws.go:596", after := #[{ on := 1, ground := Go.Ground.data }, { on := 5, ground := Go.Ground.data }], guard := none }) (v := ?_) rfl (by kernel_rfl) (by kernel_rfl) (by kernel_rfl) (fun _ _ _ h => h) (Or.inl ⟨by rfl, ?_⟩) (by assumption) ?_
        rotate_left
        · (intro w hSw; (try dsimp only at hSw); go_simp; (try with_reducible rfl))
        (try simp only [Act.put, List.setIfInBounds_toArray, List.set_cons_zero, List.set_cons_succ])
        refine wpAnyH_take (i := 7) (oi := { dst := some 36, op := Go.Op.move (Go.Operand.tmp 35), type := 4, pos := "laws.go:596", after := #[{ on := 6, ground := Go.Ground.data }, { on := 4, ground := Go.Ground.chain }], guard := none }) (v := ?_) rfl (by kernel_rfl) (by kernel_rfl) (by kernel_rfl) (fun _ _ _ h => h) (Or.inl ⟨by rfl, ?_⟩) (by assumption) ?_
        rotate_left
        · (intro w hSw; (try dsimp only at hSw); go_simp; (try with_reducible rfl))
        (try simp only [Act.put, List.setIfInBounds_toArray, List.set_cons_zero, List.set_cons_succ])
        refine wpAnyH_take (i := 8) (oi := { dst := some 37, op := Go.Op.fieldAddr 36 (Go.Operand.tmp 8) 1, type := 0, pos := "laws.go:596", after := #[{ on := 7, ground := Go.Ground.guard }], guard := some (7, false) }) (v := ?_) rfl (by kernel_rfl) (by kernel_rfl) (by kernel_rfl) (fun _ _ _ h => h) (Or.inl ⟨by rfl, ?_⟩) (by assumption) ?_
        rotate_left
        · (intro w hSw; (try dsimp only at hSw); go_simp; (try with_reducible rfl))
        (try simp only [Act.put, List.setIfInBounds_toArray, List.set_cons_zero, List.set_cons_succ])
        refine wpAnyH_take (i := 9) (oi := { dst := some 38, op := Go.Op.load 2 (Go.Operand.tmp 37), type := 2, pos := "laws.go:596", after := #[{ on := 8, ground := Go.Ground.data }, { on := 7, ground := Go.Ground.guard }], guard := some (7, false) }) (v := ?_) rfl (by kernel_rfl) (by kernel_rfl) (by kernel_rfl) (fun _ _ _ h => h) (Or.inl ⟨by rfl, ?_⟩) (by assumption) ?_
        rotate_left
        · (intro w hSw; (try dsimp only at hSw); go_simp; (try with_reducible rfl))
        (try simp only [Act.put, List.setIfInBounds_toArray, List.set_cons_zero, List.set_cons_succ])
        refine wpAnyH_take (i := 10) (oi := { dst := some 39, op := Go.Op.load 26 (Go.Operand.tmp 6), type := 26, pos := "laws.go:596", after := #[{ on := 7, ground := Go.Ground.guard }], guard := some (7, false) }) (v := ?_) rfl (by kernel_rfl) (by kernel_rfl) (by kernel_rfl) (fun _ _ _ h => h) (Or.inl ⟨by rfl, ?_⟩) (by assumption) ?_
        rotate_left
        · (intro w hSw; (try dsimp only at hSw); go_simp; (try with_reducible rfl))
        (try simp only [Act.put, List.setIfInBounds_toArray, List.set_cons_zero, List.set_cons_succ])
        refine wpAnyH_take (i := 11) (oi := { dst := some 40, op := Go.Op.move (Go.Operand.tmp 7), type := 29, pos := "laws.go:596", after := #[{ on := 7, ground := Go.Ground.guard }], guard := some (7, false) }) (v := ?_) rfl (by kernel_rfl) (by kernel_rfl) (by kernel_rfl) (fun _ _ _ h => h) (Or.inl ⟨by rfl, ?_⟩) (by assumption) ?_
        rotate_left
        · (intro w hSw; (try dsimp only at hSw); go_simp; (try with_reducible rfl))
        (try simp only [Act.put, List.setIfInBounds_toArray, List.set_cons_zero, List.set_cons_succ])
        refine wpAnyH_ready (rs := [12]) (by kernel_rfl) (by simp) ?_
        refine AllReadyH.cons (o := { dst := some 41, op := Go.Op.call { callee := Go.Callee.value (Go.Operand.func 11), args := #[Go.Operand.tmp 39, Go.Operand.tmp 40], argTypes := #[26, 29] }, type := 36, pos := "laws.go:596", after := #[{ on := 10, ground := Go.Ground.data }, { on := 11, ground := Go.Ground.data }, { on := 7, ground := Go.Ground.chain }, { on := 7, ground := Go.Ground.guard }], guard := some (7, false) }) rfl (fun K hK => ?_) AllReadyH.nil
        go_simp
        go_wp2_with (go_at_call 11; (with_reducible refine (specFindObject_calls xa xn xc ys za zn zc zs _ hxn ?_ hxc hzm ?_).mono ?_); exact HXS.out.below (q3_bel (by with_reducible assumption)) (Nat.le_refl _); exact HZS.out.below (q3_bel (by with_reducible assumption)) (Nat.le_refl _); rintro e y1 ⟨rfl, ga⟩; have hs1 := q3_below lt0 lt1 lt2 (by with_reducible assumption) ga; clear ga)
        refine hK.out _ _ hs1 (fun hHeld => ?_)
        clear hK K
        (try simp only [Act.put, List.setIfInBounds_toArray, List.set_cons_zero, List.set_cons_succ])
        refine wpAnyH_take (i := 13) (oi := { dst := some 42, op := Go.Op.field 36 (Go.Operand.tmp 41) 1, type := 2, pos := "laws.go:596", after := #[{ on := 12, ground := Go.Ground.data }, { on := 7, ground := Go.Ground.guard }], guard := some (7, false) }) (v := ?_) rfl (by kernel_rfl) (by kernel_rfl) (by kernel_rfl) (fun _ _ _ h => h) (Or.inl ⟨by rfl, ?_⟩) (by assumption) ?_
        rotate_left
        · (intro w hSw; (try dsimp only at hSw); go_simp; (try with_reducible rfl))
        (try simp only [Act.put, List.setIfInBounds_toArray, List.set_cons_zero, List.set_cons_succ])
        refine wpAnyH_take (i := 14) (oi := { dst := some 43, op := Go.Op.binOp Go.BinOp.neq 2 (Go.Operand.tmp 38) (Go.Operand.tmp 42) 2, type := 4, pos := "laws.go:596", after := #[{ on := 9, ground := Go.Ground.data }, { on := 13, ground := Go.Ground.data }, { on := 7, ground := Go.Ground.guard }], guard := some (7, false) }) (v := ?_) rfl (by kernel_rfl) (by kernel_rfl) (by kernel_rfl) (fun _ _ _ h => h) (Or.inl ⟨by rfl, ?_⟩) (by assumption) ?_
        rotate_left
        · (intro w hSw; (try dsimp only at hSw); go_simp; (try with_reducible rfl))
        (try simp only [Act.put, List.setIfInBounds_toArray, List.set_cons_zero, List.set_cons_succ])
        refine wpAnyH_take (i := 15) (oi := { dst := some 44, op := Go.Op.pick (Go.Operand.tmp 36) (Go.Operand.const (Go.Value.bool true)) (Go.Operand.tmp 43), type := 4, pos := "laws.go:596", after := #[{ on := 7, ground := Go.Ground.data }, { on := 14, ground := Go.Ground.data }], guard := none }) (v := ?_) rfl (by kernel_rfl) (by kernel_rfl) (by kernel_rfl) (fun _ _ _ h => h) (Or.inl ⟨by rfl, ?_⟩) (by assumption) ?_
        rotate_left
        · (intro w hSw; (try dsimp only at hSw); go_simp; (try with_reducible rfl))
        (try simp only [Act.put, List.setIfInBounds_toArray, List.set_cons_zero, List.set_cons_succ])
        refine wpAnyH_take (i := 16) (oi := { dst := some 45, op := Go.Op.move (Go.Operand.tmp 44), type := 4, pos := "laws.go:596", after := #[{ on := 15, ground := Go.Ground.data }, { on := 12, ground := Go.Ground.chain }], guard := none }) (v := ?_) rfl (by kernel_rfl) (by kernel_rfl) (by kernel_rfl) (fun _ _ _ h => h) (Or.inl ⟨by rfl, ?_⟩) (by assumption) ?_
        rotate_left
        · (intro w hSw; (try dsimp only at hSw); go_simp; (try with_reducible rfl))
        (try simp only [Act.put, List.setIfInBounds_toArray, List.set_cons_zero, List.set_cons_succ])
        refine wpAnyH_take (i := 17) (oi := { dst := some 46, op := Go.Op.fieldAddr 36 (Go.Operand.tmp 8) 0, type := 0, pos := "laws.go:596", after := #[{ on := 16, ground := Go.Ground.guard }], guard := some (16, false) }) (v := ?_) rfl (by kernel_rfl) (by kernel_rfl) (by kernel_rfl) (fun _ _ _ h => h) (Or.inl ⟨by rfl, ?_⟩) (by assumption) ?_
        rotate_left
        · (intro w hSw; (try dsimp only at hSw); go_simp; (try with_reducible rfl))
        (try simp only [Act.put, List.setIfInBounds_toArray, List.set_cons_zero, List.set_cons_succ])
        refine wpAnyH_take (i := 18) (oi := { dst := some 47, op := Go.Op.load 2 (Go.Operand.tmp 46), type := 2, pos := "laws.go:596", after := #[{ on := 17, ground := Go.Ground.data }, { on := 16, ground := Go.Ground.guard }], guard := some (16, false) }) (v := ?_) rfl (by kernel_rfl) (by kernel_rfl) (by kernel_rfl) (fun _ _ _ h => h) (Or.inl ⟨by rfl, ?_⟩) (by assumption) ?_
        rotate_left
        · (intro w hSw; (try dsimp only at hSw); go_simp; (try with_reducible rfl))
        (try simp only [Act.put, List.setIfInBounds_toArray, List.set_cons_zero, List.set_cons_succ])
        refine wpAnyH_take (i := 19) (oi := { dst := some 48, op := Go.Op.binOp Go.BinOp.eql 2 (Go.Operand.tmp 47) (Go.Operand.const (Go.Value.int Go.IntKind.i64 0)) 2, type := 4, pos := "laws.go:596", after := #[{ on := 18, ground := Go.Ground.data }, { on := 16, ground := Go.Ground.guard }], guard := some (16, false) }) (v := ?_) rfl (by kernel_rfl) (by kernel_rfl) (by kernel_rfl) (fun _ _ _ h => h) (Or.inl ⟨by rfl, ?_⟩) (by assumption) ?_
        rotate_left
        · (intro w hSw; (try dsimp only at hSw); go_simp; (try with_reducible rfl))
        (try simp only [Act.put, List.setIfInBounds_toArray, List.set_cons_zero, List.set_cons_succ])
        refine wpAnyH_take (i := 20) (oi := { dst := some 49, op := Go.Op.move (Go.Operand.tmp 48), type := 4, pos := "laws.go:596", after := #[{ on := 19, ground := Go.Ground.data }, { on := 16, ground := Go.Ground.chain }, { on := 16, ground := Go.Ground.guard }], guard := some (16, false) }) (v := ?_) rfl (by kernel_rfl) (by kernel_rfl) (by kernel_rfl) (fun _ _ _ h => h) (Or.inl ⟨by rfl, ?_⟩) (by assumption) ?_
        rotate_left
        · (intro w hSw; (try dsimp only at hSw); go_simp; (try with_reducible rfl))
        (try simp only [Act.put, List.setIfInBounds_toArray, List.set_cons_zero, List.set_cons_succ])
        refine wpAnyH_take (i := 21) (oi := { dst := some 50, op := Go.Op.load 26 (Go.Operand.tmp 6), type := 26, pos := "laws.go:596", after := #[{ on := 20, ground := Go.Ground.guard }], guard := some (20, true) }) (v := undef) rfl (by kernel_rfl) (by kernel_rfl) (by kernel_rfl) (fun _ _ _ h => h) (Or.inr ⟨by rfl, rfl⟩) (by assumption) ?_
        (try simp only [Act.put, List.setIfInBounds_toArray, List.set_cons_zero, List.set_cons_succ])
        refine wpAnyH_take (i := 22) (oi := { dst := some 51, op := Go.Op.fieldAddr 36 (Go.Operand.tmp 8) 1, type := 0, pos := "laws.go:596", after := #[{ on := 20, ground := Go.Ground.guard }], guard := some (20, true) }) (v := undef) rfl (by kernel_rfl) (by kernel_rfl) (by kernel_rfl) (fun _ _ _ h => h) (Or.inr ⟨by rfl, rfl⟩) (by assumption) ?_
        (try simp only [Act.put, List.setIfInBounds_toArray, List.set_cons_zero, List.set_cons_succ])
        refine wpAnyH_take (i := 23) (oi := { dst := some 52, op := Go.Op.load 2 (Go.Operand.tmp 51), type := 2, pos := "laws.go:596", after := #[{ on := 22, ground := Go.Ground.data }, { on := 20, ground := Go.Ground.guard }], guard := some (20, true) }) (v := undef) rfl (by kernel_rfl) (by kernel_rfl) (by kernel_rfl) (fun _ _ _ h => h) (Or.inr ⟨by rfl, rfl⟩) (by assumption) ?_
        (try simp only [Act.put, List.setIfInBounds_toArray, List.set_cons_zero, List.set_cons_succ])
        refine wpAnyH_take (i := 24) (oi := { dst := some 53, op := Go.Op.call { callee := Go.Callee.value (Go.Operand.func 8), args := #[Go.Operand.tmp 50, Go.Operand.tmp 52], argTypes := #[26, 2] }, type := 31, pos := "laws.go:596", after := #[{ on := 21, ground := Go.Ground.data }, { on := 23, ground := Go.Ground.data }, { on := 20, ground := Go.Ground.chain }, { on := 20, ground := Go.Ground.guard }], guard := some (20, true) }) (v := undef) rfl (by kernel_rfl) (by kernel_rfl) (by kernel_rfl) (fun _ _ _ h => h) (Or.inr ⟨by rfl, rfl⟩) (by assumption) ?_
        (try simp only [Act.put, List.setIfInBounds_toArray, List.set_cons_zero, List.set_cons_succ])
        refine wpAnyH_take (i := 25) (oi := { dst := some 54, op := Go.Op.field 31 (Go.Operand.tmp 53) 1, type := 29, pos := "laws.go:596", after := #[{ on := 24, ground := Go.Ground.data }, { on := 20, ground := Go.Ground.guard }], guard := some (20, true) }) (v := undef) rfl (by kernel_rfl) (by kernel_rfl) (by kernel_rfl) (fun _ _ _ h => h) (Or.inr ⟨by rfl, rfl⟩) (by assumption) ?_
        (try simp only [Act.put, List.setIfInBounds_toArray, List.set_cons_zero, List.set_cons_succ])
        refine wpAnyH_take (i := 26) (oi := { dst := some 55, op := Go.Op.move (Go.Operand.tmp 7), type := 29, pos := "laws.go:596", after := #[{ on := 20, ground := Go.Ground.guard }], guard := some (20, true) }) (v := undef) rfl (by kernel_rfl) (by kernel_rfl) (by kernel_rfl) (fun _ _ _ h => h) (Or.inr ⟨by rfl, rfl⟩) (by assumption) ?_
        (try simp only [Act.put, List.setIfInBounds_toArray, List.set_cons_zero, List.set_cons_succ])
        refine wpAnyH_take (i := 27) (oi := { dst := some 56, op := Go.Op.call { callee := Go.Callee.value (Go.Operand.func 12), args := #[Go.Operand.tmp 54, Go.Operand.tmp 55], argTypes := #[29, 29] }, type := 4, pos := "laws.go:596", after := #[{ on := 25, ground := Go.Ground.data }, { on := 26, ground := Go.Ground.data }, { on := 24, ground := Go.Ground.chain }, { on := 20, ground := Go.Ground.guard }], guard := some (20, true) }) (v := undef) rfl (by kernel_rfl) (by kernel_rfl) (by kernel_rfl) (fun _ _ _ h => h) (Or.inr ⟨by rfl, rfl⟩) (by assumption) ?_
        (try simp only [Act.put, List.setIfInBounds_toArray, List.set_cons_zero, List.set_cons_succ])
        refine wpAnyH_take (i := 28) (oi := { dst := some 57, op := Go.Op.unOp Go.UnOp.not 4 (Go.Operand.tmp 56), type := 4, pos := "laws.go:596", after := #[{ on := 27, ground := Go.Ground.data }, { on := 20, ground := Go.Ground.guard }], guard := some (20, true) }) (v := undef) rfl (by kernel_rfl) (by kernel_rfl) (by kernel_rfl) (fun _ _ _ h => h) (Or.inr ⟨by rfl, rfl⟩) (by assumption) ?_
        (try simp only [Act.put, List.setIfInBounds_toArray, List.set_cons_zero, List.set_cons_succ])
        refine wpAnyH_take (i := 29) (oi := { dst := some 58, op := Go.Op.pick (Go.Operand.tmp 49) (Go.Operand.tmp 57) (Go.Operand.const (Go.Value.bool false)), type := 4, pos := "laws.go:596", after := #[{ on := 20, ground := Go.Ground.data }, { on := 28, ground := Go.Ground.data }, { on := 16, ground := Go.Ground.guard }], guard := some (16, false) }) (v := ?_) rfl (by kernel_rfl) (by kernel_rfl) (by kernel_rfl) (fun _ _ _ h => h) (Or.inl ⟨by rfl, ?_⟩) (by assumption) ?_
        rotate_left
        · (intro w hSw; (try dsimp only at hSw); go_simp; (try with_reducible rfl))
        (try simp only [Act.put, List.setIfInBounds_toArray, List.set_cons_zero, List.set_cons_succ])
        refine wpAnyH_take (i := 30) (oi := { dst := some 59, op := Go.Op.pick (Go.Operand.tmp 45) (Go.Operand.const (Go.Value.bool true)) (Go.Operand.tmp 58), type := 4, pos := "laws.go:596", after := #[{ on := 16, ground := Go.Ground.data }, { on := 29, ground := Go.Ground.data }], guard := none }) (v := ?_) rfl (by kernel_rfl) (by kernel_rfl) (by kernel_rfl) (fun _ _ _ h => h) (Or.inl ⟨by rfl, ?_⟩) (by assumption) ?_
        rotate_left
        · (intro w hSw; (try dsimp only at hSw); go_simp; (try with_reducible rfl))
        (try simp only [Act.put, List.setIfInBounds_toArray, List.set_cons_zero, List.set_cons_succ])
        refine wpAnyH_done (by kernel_rfl) ?_ _
        go_wp2_with fail
        go_meet
        exact ⟨rfl, q3_bel hs1⟩
  case rest =>
    obtain ⟨rfl, gc7⟩ := hcut
    obtain ⟨w5, rfl⟩ : ∃ x, x = wc := ⟨wc, rfl⟩
    have M5 := (HM.out.below gc7).sub (cs' := [(w2.heap.size, 0, .int .i64 (askC xs i)), (w2.heap.size, 1, .slice pa pn pc), (w1.heap.size, 0, .slice ra n rc)]) (fs' := [(w1.heap.size + 1, w2.heap.size, OS (InR (w1.heap.size + 1) w2.heap.size) pa pn (pathL xs i)), (w.heap.size, w1.heap.size, SobS (InR w.heap.size w1.heap.size) ra n xs)]) (fun c h => List.mem_of_mem_drop (i := 3) h) (fun f h => List.mem_of_mem_drop (i := 2) h)
    clear gc7 HM HS0 lt0 lt1 lt2 HXS HZS HW e1 e2
    have v0 := M5.cell 0 rfl
    have v1 := M5.cell 1 rfl
    have v2 := M5.cell 2 rfl
    by_cases ha : askC xs i = 0
    rotate_left
    · have ea : (askC xs i != 0) = true := by simpa using ha
      have eA : (askC xs i == askC xs i) = true := by simp
      have eB : (kerF xs == kerF xs) = true := by simp
      clear ha
      as_aux_lemma =>
        have lt0 : (Addr.mk (w2.heap.size) 0 none).block < w5.heap.size := M5.lt 0 rfl
        have lt1 : (Addr.mk (w1.heap.size) 0 none).block < w5.heap.size := M5.lt 2 rfl
        have HM := hide M5
        have HKS := hide ((M5.get 1 rfl).sob)
        have HS0 : Hid (w5.drew.cell? ⟨w2.heap.size, 0, none⟩ = some (.int .i64 (askC xs i)) ∧ w5.drew.cell? ⟨w1.heap.size, 0, none⟩ = some (.slice ra n rc) ∧ Below w5.heap.size w5 w5.drew) := ⟨M5.cell 0 rfl, M5.cell 2 rfl, (Below.refl _ _).drew⟩
        clear M5
        go_upto_region 10 with fail
        clear v0 v1 v2
        go_region_held2 (fun w' => w'.cell? ⟨w2.heap.size, 0, none⟩ = some (.int .i64 (askC xs i)) ∧ w'.cell? ⟨w1.heap.size, 0, none⟩ = some (.slice ra n rc) ∧ Below w5.heap.size w5 w')
          (first | with_reducible exact HS0.out | with_reducible assumption)
          (first
            | (go_at_call 13; (with_reducible refine (specPathOf_calls ra n rc xs i _ hn ?_ hnc).mono ?_); exact HKS.out.below (q2_bel (by with_reducible assumption)) (Nat.le_refl _); rintro e y1 ⟨_, _, _, rfl, _, ga⟩; have hs1 := q2_below lt0 lt1 (by with_reducible assumption) ga; clear ga)
            | (go_at_call 14; (with_reducible refine (implKernelFault_calls ra n rc xs _ hn ?_ hnc).mono ?_); exact HKS.out.below (q2_bel (by with_reducible assumption)) (Nat.le_refl _); rintro e y1 ⟨rfl, ga⟩; have hs1 := q2_below lt0 lt1 (by with_reducible assumption) ga; clear ga)
            | (go_at_call 15; (with_reducible refine (specKernelFault_calls ra n rc xs _ hn ?_ hnc).mono ?_); exact HKS.out.below (q2_bel (by with_reducible assumption)) (Nat.le_refl _); rintro e y1 ⟨rfl, ga⟩; have hs1 := q2_below lt0 lt1 (by with_reducible assumption) ga; clear ga))
        have HE := hide (HM.out.below (q2_bel hs1)).bel
        clear hs1 HS0 HM
        go_wp2
        go_ret
        exact ⟨rfl, HE.out⟩
    have ea : (askC xs i != 0) = false := by simp [ha]
    go_wp2_with fail
    refine (implKidsOf_calls ra n rc xs i _ hn (M5.get 1 rfl).sob hnc).mono ?_
    rintro e w6 ⟨ka, kn, kc, rfl, o6, g6⟩
    have z6 := g6.size
    have M6 := ((M5.below g6).fact OS.loc o6).alloc2 (.int .i64 (boxC xs i)) (.slice ka kn kc) 31
    have hkm := osMax o6
    have HA := hide ha
    have HOP := hide (M5.get 0 rfl).1
    obtain ⟨hf0, hf1⟩ := fp_find ha
    have eF : (foV xs (pathL xs i) == i) = true := by simp [hf1]
    have eG : (foC xs (pathL xs i) == 0) = true := by simp [hf0]
    have eH : (boxC xs i == boxC xs i) = true := by simp
    have eI : (frV xs i == frV xs i) = true := by simp
    have eJ : frV xs i ≥ 0 := fp_free xs i
    have hpm : pn ≤ 1048576 := by have h1 := (M5.get 0 rfl).2.1; omega
    have hpx : pn ≤ 12 := by have h1 := (M5.get 0 rfl).1; rw [← h1]; exact fp_len _ _
    have hkl := o6.1
    clear M5 g6 o6 v0 v1 v2 ha hf0 hf1
    go_wp2
    go_loopw [10] (fun j wr => ∃ q : Nat, q ≤ kn ∧ j = .int .i64 (q : Int) ∧ Mm w wr [(w6.heap.size, 0, .int .i64 (boxC xs i)), (w6.heap.size, 1, .slice ka kn kc), (w2.heap.size, 0, .int .i64 (askC xs i)), (w2.heap.size, 1, .slice pa pn pc), (w1.heap.size, 0, .slice ra n rc)] [(w5.heap.size, w6.heap.size, OS (InR w5.heap.size w6.heap.size) ka kn (kidL xs i)), (w1.heap.size + 1, w2.heap.size, OS (InR (w1.heap.size + 1) w2.heap.size) pa pn (pathL xs i)), (w.heap.size, w1.heap.size, SobS (InR w.heap.size w1.heap.size) ra n xs)]) (fun j _ => kn - (intOf j).toNat)
    case atStart => exact ⟨0, Nat.zero_le _, rfl, M6⟩
    case round =>
      clear M6
      obtain ⟨q, hq, rfl, M⟩ := hrel
      have a4 := M.cell 1 rfl
      by_cases hlt : q < kn
      · have HQ1 := hide hlt
        have hkx : kn ≤ 1048576 := (M.get 0 rfl).2.1
        have hnl : q < (kidL xs i).length := by omega
        obtain ⟨kb, ko, eka, hkb, hkc⟩ := (M.get 0 rfl).sl.2 (by omega)
        subst eka
        have ck := hkc q hlt
        have hq1 : (q : Int) < (kn : Int) := by omega
        have hq0 : (0 : Int) ≤ (q : Int) := by omega
        obtain ⟨kd, hkd⟩ : ∃ kd, kd = gt (kidL xs i) q := ⟨_, rfl⟩
        have hfk : foC xs (pathL xs i ++ [kd]) = 0 := (fp_kid (i := i) (by rw [hkd]; simp [gt, hnl])).2
        rw [← hkd] at ck
        have HFK := hide hfk
        have lt0 : (Addr.mk (w1.heap.size) 0 none).block < wr.heap.size := M.lt 4 rfl
        have lt1 : (Addr.mk (w2.heap.size) 1 none).block < wr.heap.size := M.lt 3 rfl
        have lt2 : (Addr.mk (w6.heap.size) 1 none).block < wr.heap.size := M.lt 1 rfl
        have lt3 : (Addr.mk kb (ko + q) none).block < wr.heap.size := hkb
        have HM := hide M
        have HKS := hide ((M.get 2 rfl).sob)
        have HPS := hide ((M.get 1 rfl).sl)
        have hpl : (pathL xs i).length = pn := (M.get 1 rfl).1
        have HPL := hide hpl
        have HLN : Hid (((pathL xs i).map (Value.int .i64)).length = pn * 1) := by show _ = _; rw [List.length_map, hpl, Nat.mul_one]
        have HNI : Hid (pa = none → pn = 0) := (HPS.out.news (Below.refl _ _)).2
        have HM1 : Hid (0 + pn ≤ maxLen) := by show _ ≤ _; unfold maxLen; omega
        have HM2 : Hid ((0 + pn) * 8 ≤ 140737488355328) := by show _ ≤ _; omega
        have HM5 : Hid (0 + pn + 1 ≤ 1048576) := by show _ ≤ _; omega
        have HM6 : Hid (pn + 1 ≤ 1048576) := by show _ ≤ _; omega
        have HOA := hide (owns_empty wr wr.heap.size 2 1 (Nat.le_refl _))
        have HOB : Hid (((wr.alloc (.cells #[.int .i64 kd] 2)).alloc (.cells #[] 2)).ownsRow wr.heap.size 2 1 (.slice (some ⟨wr.heap.size + 1, 0, none⟩) 0 0) 0 []) := by
          have h := owns_empty (wr.alloc (.cells #[.int .i64 kd] 2)) wr.heap.size 2 1 (by simp)
          show World.ownsRow _ _ _ _ _ _ _
          simpa only [World.size_alloc] using h
        have eK : (foC xs (pathL xs i ++ [kd]) != 0) = false := by simp [hfk]
        have HM3 : Hid (0 + pn + 1 ≤ maxLen) := by show _ ≤ _; unfold maxLen; omega
        have HM4 : Hid ((0 + pn + 1) * 8 ≤ 140737488355328) := by show _ ≤ _; omega
        obtain ⟨i0, hi, hz0, hz1, hz2⟩ := info_parts info2
        have HS0 : Hid (wr.drew.cell? ⟨w1.heap.size, 0, none⟩ = some (.slice ra n rc) ∧ wr.drew.cell? ⟨w2.heap.size, 1, none⟩ = some (.slice pa pn pc) ∧ wr.drew.cell? ⟨w6.heap.size, 1, none⟩ = some (.slice (some ⟨kb, ko, none⟩) kn kc) ∧ wr.drew.cell? ⟨kb, ko + q, none⟩ = some (.int .i64 kd) ∧ Below wr.heap.size wr wr.drew) := ⟨M.cell 4 rfl, M.cell 3 rfl, M.cell 1 rfl, ck, (Below.refl _ _).drew⟩
        clear M hkc ck hkd hfk hpl hnl
        go_upto_region 15 with fail
        clear a4 fd0 fd1 fd3 eF eG eH eI eJ z1 z2 z3 z4 z6 HA hzm hzx hzn hxc hc hlm ea
        go_region_held2 (fun w' => w'.cell? ⟨w1.heap.size, 0, none⟩ = some (.slice ra n rc) ∧ w'.cell? ⟨w2.heap.size, 1, none⟩ = some (.slice pa pn pc) ∧ w'.cell? ⟨w6.heap.size, 1, none⟩ = some (.slice (some ⟨kb, ko, none⟩) kn kc) ∧ w'.cell? ⟨kb, ko + q, none⟩ = some (.int .i64 kd) ∧ Below wr.heap.size wr w')
          (first | with_reducible exact HS0.out | (repeat (first | with_reducible assumption | with_reducible exact HS0.out | with_reducible refine q4_allocd lt0 lt1 lt2 lt3 ?_ _ | with_reducible refine q4_alloc lt0 lt1 lt2 lt3 ?_ _)))
          (first
            | (refine step_append_any _ rfl (.tmp 88) (.tmp 90) 29 rfl wr.heap.size 2 i0 (.int .i64 0) 1 8 Try.underlying29 hi hz0 hz1 hz2 rfl (by decide) (.slice (some ⟨wr.heap.size, 0, none⟩) 0 0) 0 [] rfl ?_ pa pn pc ((pathL xs i).map (Value.int .i64)) rfl HLN.out ?_ HNI.out ints_one1 HM1.out HM2.out ?_ ?_; (first | exact ownR_below HOA.out (Below.refl _ _).drew | exact HOA.out); exact (HPS.out.news (q4_bel (by with_reducible assumption))).1; exact (q4_bel (by with_reducible assumption)).size; intro v5 w5 hown5 hg5 hb5; have hs5 := q4_kept lt0 lt1 lt2 lt3 (by with_reducible assumption) hb5;  have HO5 := hide hown5; clear hown5 hb5 hg5)
            | (refine step_append_any _ rfl (.tmp 88) (.tmp 90) 29 rfl wr.heap.size 2 i0 (.int .i64 0) 1 8 Try.underlying29 hi hz0 hz1 hz2 rfl (by decide) (.slice (some ⟨wr.heap.size, 0, none⟩) 0 0) 0 [] rfl ?_ pa pn pc ((pathL xs i).map (Value.int .i64)) rfl HLN.out ?_ HNI.out ints_one1 HM1.out HM2.out ?_ ?_; (first | exact ownR_below HOA.out ((Below.refl _ _).alloc (Nat.le_refl _) _).drew | exact ownR_below HOA.out ((Below.refl _ _).alloc (Nat.le_refl _) _)); exact (HPS.out.news (q4_bel (by with_reducible assumption))).1; exact (q4_bel (by with_reducible assumption)).size; intro v5 w5 hown5 hg5 hb5; have hs5 := q4_kept lt0 lt1 lt2 lt3 (by with_reducible assumption) hb5; have cB : w5.cell? ⟨wr.heap.size + 1, 0, none⟩ = some (.int .i64 kd) := (hg5.cell_far ⟨wr.heap.size + 1, 0, none⟩ (by first | (simp; done) | (simp; omega)) (by simp [Value.ownBlock])).trans (by go_simp); have HO5 := hide hown5; clear hown5 hb5 hg5)
            | (refine step_append_any _ rfl (.tmp 88) (.tmp 90) 29 rfl wr.heap.size 2 i0 (.int .i64 0) 1 8 Try.underlying29 hi hz0 hz1 hz2 rfl (by decide) (.slice (some ⟨(wr.heap.size + 1), 0, none⟩) 0 0) 0 [] rfl ?_ pa pn pc ((pathL xs i).map (Value.int .i64)) rfl HLN.out ?_ HNI.out ints_one1 HM1.out HM2.out ?_ ?_; (first | exact ownR_below HOB.out (Below.refl _ _).drew | exact HOB.out); exact (HPS.out.news (q4_bel (by with_reducible assumption))).1; exact (q4_bel (by with_reducible assumption)).size; intro v5 w5 hown5 hg5 hb5; have hs5 := q4_kept lt0 lt1 lt2 lt3 (by with_reducible assumption) hb5; have cB : w5.cell? ⟨wr.heap.size, 0, none⟩ = some (.int .i64 kd) := (hg5.cell_far ⟨wr.heap.size, 0, none⟩ (by first | (simp; done) | (simp; omega)) (by simp [Value.ownBlock])).trans (by go_simp); have HO5 := hide hown5; clear hown5 hb5 hg5)
            | (refine step_append_any _ rfl (.tmp 91) (.tmp 97) 29 rfl wr.heap.size 2 i0 (.int .i64 0) 1 8 Try.underlying29 hi hz0 hz1 hz2 rfl (by decide) v5 (0 + pn) ([] ++ (pathL xs i).map (Value.int .i64)) rfl ?_ (some ⟨wr.heap.size, 0, none⟩) 1 1 [.int .i64 kd] rfl (by rfl) ?_ (fun h => by cases h) (by simp [Value.oneCell']) HM3.out HM4.out ?_ ?_; (first | exact ownR_below HO5.out (Below.refl _ _).drew | exact HO5.out); (intro ad e; cases e; refine one_new ?_; exact cB); exact (q4_bel (by with_reducible assumption)).size; intro v6 w6x hown6 hg6 hb6; have hs6 := q4_kept lt0 lt1 lt2 lt3 (by with_reducible assumption) hb6; have hown6x := ownsR_list hown6; obtain ⟨rb, rcc, rfl, fr6⟩ := owns_osl HM5.out hown6x; have HF6 := hide (show Sl w6x rb (pn + 1) (pathL xs i ++ [kd]) from (by have h6 := fr6.sl; rwa [Nat.zero_add] at h6)); clear hown6 hown6x hg6 hb6 fr6)
            | (refine step_append_any _ rfl (.tmp 91) (.tmp 97) 29 rfl wr.heap.size 2 i0 (.int .i64 0) 1 8 Try.underlying29 hi hz0 hz1 hz2 rfl (by decide) v5 (0 + pn) ([] ++ (pathL xs i).map (Value.int .i64)) rfl ?_ (some ⟨(wr.heap.size + 1), 0, none⟩) 1 1 [.int .i64 kd] rfl (by rfl) ?_ (fun h => by cases h) (by simp [Value.oneCell']) HM3.out HM4.out ?_ ?_; (first | exact ownR_below HO5.out (Below.refl _ _).drew | exact HO5.out); (intro ad e; cases e; refine one_new ?_; exact cB); exact (q4_bel (by with_reducible assumption)).size; intro v6 w6x hown6 hg6 hb6; have hs6 := q4_kept lt0 lt1 lt2 lt3 (by with_reducible assumption) hb6; have hown6x := ownsR_list hown6; obtain ⟨rb, rcc, rfl, fr6⟩ := owns_osl HM5.out hown6x; have HF6 := hide (show Sl w6x rb (pn + 1) (pathL xs i ++ [kd]) from (by have h6 := fr6.sl; rwa [Nat.zero_add] at h6)); clear hown6 hown6x hg6 hb6 fr6)
            | (refine step_append_any _ rfl (.tmp 91) (.tmp 97) 29 rfl wr.heap.size 2 i0 (.int .i64 0) 1 8 Try.underlying29 hi hz0 hz1 hz2 rfl (by decide) v5 (0 + pn) ([] ++ (pathL xs i).map (Value.int .i64)) rfl ?_ (some ⟨w5.heap.size, 0, none⟩) 1 1 [.int .i64 kd] rfl (by rfl) ?_ (fun h => by cases h) (by simp [Value.oneCell']) HM3.out HM4.out ?_ ?_; (first | exact ownR_below HO5.out ((Below.refl _ _).alloc (Nat.le_refl _) _).drew | exact ownR_below HO5.out ((Below.refl _ _).alloc (Nat.le_refl _) _)); (intro ad e; cases e; refine one_new ?_; go_simp); exact (q4_bel (by with_reducible assumption)).size; intro v6 w6x hown6 hg6 hb6; have hs6 := q4_kept lt0 lt1 lt2 lt3 (by with_reducible assumption) hb6; have hown6x := ownsR_list hown6; obtain ⟨rb, rcc, rfl, fr6⟩ := owns_osl HM5.out hown6x; have HF6 := hide (show Sl w6x rb (pn + 1) (pathL xs i ++ [kd]) from (by have h6 := fr6.sl; rwa [Nat.zero_add] at h6)); clear hown6 hown6x hg6 hb6 fr6)
            | (go_at_call 10; (with_reducible refine (implFindObject_calls ra n rc xs rb (pn + 1) rcc (pathL xs i ++ [kd]) _ hn ?_ hnc HM6.out ?_).mono ?_); exact HKS.out.below (q4_bel (by with_reducible assumption)) (Nat.le_refl _); (first | exact HF6.out.below (Below.refl _ _).drew (Nat.le_refl _) | exact HF6.out); rintro e y1 ⟨rfl, ga⟩; have hs1 := q4_below lt0 lt1 lt2 lt3 (by with_reducible assumption) ga; clear ga))
        all_goals (
          have HMX := hide (HM.out.below (q4_bel (by with_reducible assumption)))
          go_wp2
          go_roundw
          case rel => exact ⟨q + 1, HQ1.out, by go_num, HMX.out⟩
          case measure => have := HQ1.out; simp [intOf]; omega)
      · have hge : ¬ ((q : Int) < (kn : Int)) := by omega
        clear hlt
        have lt0 : (Addr.mk (w6.heap.size) 0 none).block < wr.heap.size := M.lt 0 rfl
        have lt1 : (Addr.mk (w2.heap.size) 1 none).block < wr.heap.size := M.lt 3 rfl
        have lt2 : (Addr.mk (w1.heap.size) 0 none).block < wr.heap.size := M.lt 4 rfl
        have HM := hide M
        have HKS := hide ((M.get 2 rfl).sob)
        have HPS := hide ((M.get 1 rfl).sl)
        have HS0 : Hid (wr.drew.cell? ⟨w6.heap.size, 0, none⟩ = some (.int .i64 (boxC xs i)) ∧ wr.drew.cell? ⟨w2.heap.size, 1, none⟩ = some (.slice pa pn pc) ∧ wr.drew.cell? ⟨w1.heap.size, 0, none⟩ = some (.slice ra n rc) ∧ Below wr.heap.size wr wr.drew) := ⟨M.cell 0 rfl, M.cell 3 rfl, M.cell 4 rfl, (Below.refl _ _).drew⟩
        clear M
        go_upto_region 17 with fail
        clear a4
        go_region_held2 (fun w' => w'.cell? ⟨w6.heap.size, 0, none⟩ = some (.int .i64 (boxC xs i)) ∧ w'.cell? ⟨w2.heap.size, 1, none⟩ = some (.slice pa pn pc) ∧ w'.cell? ⟨w1.heap.size, 0, none⟩ = some (.slice ra n rc) ∧ Below wr.heap.size wr w')
          (first | with_reducible exact HS0.out | with_reducible assumption)
          (first
            | (go_at_call 10; (with_reducible refine (implFindObject_calls ra n rc xs pa pn pc (pathL xs i) _ hn ?_ hnc hpm ?_).mono ?_); exact HKS.out.below (q3_bel (by with_reducible assumption)) (Nat.le_refl _); exact HPS.out.below (q3_bel (by with_reducible assumption)) (Nat.le_refl _); rintro e y1 ⟨rfl, ga⟩; have hs1 := q3_below lt0 lt1 lt2 (by with_reducible assumption) ga; clear ga)
            | (go_at_call 17; (with_reducible refine (specKidsOf_calls ra n rc xs i _ hn ?_ hnc).mono ?_); exact HKS.out.below (q3_bel (by with_reducible assumption)) (Nat.le_refl _); rintro e y1 ⟨_, _, _, rfl, _, ga⟩; have hs1 := q3_below lt0 lt1 lt2 (by with_reducible assumption) ga; clear ga)
            | (go_at_call 18; (with_reducible refine (implFreeOf_calls ra n rc xs i _ hn ?_ hnc).mono ?_); exact HKS.out.below (q3_bel (by with_reducible assumption)) (Nat.le_refl _); rintro e y1 ⟨rfl, ga⟩; have hs1 := q3_below lt0 lt1 lt2 (by with_reducible assumption) ga; clear ga)
            | (go_at_call 19; (with_reducible refine (specFreeOf_calls ra n rc xs i _ hn ?_ hnc).mono ?_); exact HKS.out.below (q3_bel (by with_reducible assumption)) (Nat.le_refl _); rintro e y1 ⟨rfl, ga⟩; have hs1 := q3_below lt0 lt1 lt2 (by with_reducible assumption) ga; clear ga))
        all_goals (
          have HE := hide (HM.out.below (q3_bel hs1)).bel
          clear hs1 HS0 HM
          go_wp2
          go_ret
          exact ⟨rfl, HE.out⟩)

end Go.Proofs.Ytpcdfeccmiiglaa
