import Derived.Test.YtdcfdmcooonfkaaPsC
import Derived.Test.YtdcfdmcooonfkaaPaId
import Derived.WalkKit
import Derived.ProofKit
import Derived.OpenShut
import Derived.ShutString
import Derived.ChangeOld
import Derived.Below
import Derived.WalkSpells
import Derived.Deep.QuietTactic
import Derived.BigQuiet
import Derived.Deep.RegionWith
import Derived.Deep.WholeRow
import Derived.Deep.DeepCutAuto
import Derived.Deep.RegionHeld2
import Derived.Deep.AppendLies
import Derived.Deep.RegionLaw
namespace Go.Proofs.Ytdcfdmcooonfkaa
open Go.ChangeShapes Go.WideShapes Go.ChangeAt Go.RowKit

theorem q5_bel {W X : World} {A0 A1 A2 A3 A4 : Addr} {v0 v1 v2 v3 v4 : Value} (h : X.cell? A0 = some v0 ∧ X.cell? A1 = some v1 ∧ X.cell? A2 = some v2 ∧ X.cell? A3 = some v3 ∧ X.cell? A4 = some v4 ∧ Below W.heap.size W X) : Below W.heap.size W X := h.2.2.2.2.2

theorem q5_below {W X Y : World} {A0 A1 A2 A3 A4 : Addr} {v0 v1 v2 v3 v4 : Value} (h0 : A0.block < W.heap.size) (h1 : A1.block < W.heap.size) (h2 : A2.block < W.heap.size) (h3 : A3.block < W.heap.size) (h4 : A4.block < W.heap.size) (h : X.cell? A0 = some v0 ∧ X.cell? A1 = some v1 ∧ X.cell? A2 = some v2 ∧ X.cell? A3 = some v3 ∧ X.cell? A4 = some v4 ∧ Below W.heap.size W X) (g : Below X.heap.size X Y) : Y.cell? A0 = some v0 ∧ Y.cell? A1 = some v1 ∧ Y.cell? A2 = some v2 ∧ Y.cell? A3 = some v3 ∧ Y.cell? A4 = some v4 ∧ Below W.heap.size W Y := by
  have hz := (h.2.2.2.2.2).size
  exact ⟨(g.cell (by omega)).trans h.1, (g.cell (by omega)).trans h.2.1, (g.cell (by omega)).trans h.2.2.1, (g.cell (by omega)).trans h.2.2.2.1, (g.cell (by omega)).trans h.2.2.2.2.1, (h.2.2.2.2.2).trans (g.mono hz)⟩

theorem q5_alloc {W X : World} {A0 A1 A2 A3 A4 : Addr} {v0 v1 v2 v3 v4 : Value} (h0 : A0.block < W.heap.size) (h1 : A1.block < W.heap.size) (h2 : A2.block < W.heap.size) (h3 : A3.block < W.heap.size) (h4 : A4.block < W.heap.size) (h : X.cell? A0 = some v0 ∧ X.cell? A1 = some v1 ∧ X.cell? A2 = some v2 ∧ X.cell? A3 = some v3 ∧ X.cell? A4 = some v4 ∧ Below W.heap.size W X) (o : Obj) : (X.alloc o).cell? A0 = some v0 ∧ (X.alloc o).cell? A1 = some v1 ∧ (X.alloc o).cell? A2 = some v2 ∧ (X.alloc o).cell? A3 = some v3 ∧ (X.alloc o).cell? A4 = some v4 ∧ Below W.heap.size W (X.alloc o) := q5_below h0 h1 h2 h3 h4 h ((Below.refl _ _).alloc (Nat.le_refl _) o)

theorem q5_allocd {W X : World} {A0 A1 A2 A3 A4 : Addr} {v0 v1 v2 v3 v4 : Value} (h0 : A0.block < W.heap.size) (h1 : A1.block < W.heap.size) (h2 : A2.block < W.heap.size) (h3 : A3.block < W.heap.size) (h4 : A4.block < W.heap.size) (h : X.drew.cell? A0 = some v0 ∧ X.drew.cell? A1 = some v1 ∧ X.drew.cell? A2 = some v2 ∧ X.drew.cell? A3 = some v3 ∧ X.drew.cell? A4 = some v4 ∧ Below W.heap.size W X.drew) (o : Obj) : (X.alloc o).drew.cell? A0 = some v0 ∧ (X.alloc o).drew.cell? A1 = some v1 ∧ (X.alloc o).drew.cell? A2 = some v2 ∧ (X.alloc o).drew.cell? A3 = some v3 ∧ (X.alloc o).drew.cell? A4 = some v4 ∧ Below W.heap.size W (X.alloc o).drew := q5_alloc h0 h1 h2 h3 h4 h o

theorem q5_set {W X : World} {A0 A1 A2 A3 A4 : Addr} {v0 v1 v2 v3 v4 : Value} (h0 : A0.block < W.heap.size) (h1 : A1.block < W.heap.size) (h2 : A2.block < W.heap.size) (h3 : A3.block < W.heap.size) (h4 : A4.block < W.heap.size) (h : X.cell? A0 = some v0 ∧ X.cell? A1 = some v1 ∧ X.cell? A2 = some v2 ∧ X.cell? A3 = some v3 ∧ X.cell? A4 = some v4 ∧ Below W.heap.size W X) {p : Addr} (hp : W.heap.size ≤ p.block) (y : Value) : (X.setCell p y).cell? A0 = some v0 ∧ (X.setCell p y).cell? A1 = some v1 ∧ (X.setCell p y).cell? A2 = some v2 ∧ (X.setCell p y).cell? A3 = some v3 ∧ (X.setCell p y).cell? A4 = some v4 ∧ Below W.heap.size W (X.setCell p y) :=
  ⟨(World.cell?_setCell_other _ _ _ _ (fun e => by rw [e] at hp; omega)).trans h.1, (World.cell?_setCell_other _ _ _ _ (fun e => by rw [e] at hp; omega)).trans h.2.1, (World.cell?_setCell_other _ _ _ _ (fun e => by rw [e] at hp; omega)).trans h.2.2.1, (World.cell?_setCell_other _ _ _ _ (fun e => by rw [e] at hp; omega)).trans h.2.2.2.1, (World.cell?_setCell_other _ _ _ _ (fun e => by rw [e] at hp; omega)).trans h.2.2.2.2.1, (h.2.2.2.2.2).setCell hp y⟩

theorem owns_as (a : Option Addr) (len cap : Nat) (zs : List Int) (v : Bool) (w : World) (h : ownsB zs = v) (hl : len ≤ maxLen) (hs : Sl w a len zs) :
    Calls Try.prog 29 #[.agg #[.slice a len cap]] w fun e w' => e = .returned (.bool v) ∧ Below w.heap.size w w' := h ▸ implOwnsAny_calls a len cap zs w hl hs

set_option maxRecDepth 100000 in
theorem stars_big (a : Option Addr) (len cap : Nat) (w : World) (hl : len ≤ maxLen) (hbig : 1048576 < len) :
    Calls Try.prog 4 #[.slice a len cap] w fun e w' => e = .returned (.bool true) ∧ Below w.heap.size w w' := by
  go_enter Try.func4, Try.ntmps4
  go_wp2_with fail
  refine (lwBig_calls a len cap _ hl).mono ?_
  rintro e w1 ⟨rfl, hw⟩
  obtain rfl : w = w1 := hw.symm
  clear hw
  rw [decide_eq_true (by omega)]
  go_wp2
  go_ret
  exact ⟨rfl, Below.refl _ _⟩

set_option maxRecDepth 100000 in
set_option maxHeartbeats 8000000 in
theorem stars_small (a : Option Addr) (len cap : Nat) (w : World) (hc : Cd w a len) :
    Calls Try.prog 4 #[.slice a len cap] w fun e w' => e = .returned (.bool true) ∧ Below w.heap.size w w' := by
  have hlm : len ≤ maxLen := by have := hc.1; unfold maxLen; omega
  have M0 := Mm.start w
  have fd0 := lrF0
  have fd1 := nrF0
  have fd2 := nrF1
  go_enter Try.func4, Try.ntmps4
  go_wp2_with fail
  refine (lwBig_calls a len cap _ hlm).mono ?_
  rintro e w0 ⟨rfl, hw⟩
  obtain rfl : w = w0 := hw.symm
  rw [decide_eq_false (by have := hc.1; omega)]
  clear hw
  go_wp2_with fail
  refine (drawDropStar_calls a len cap _ hc).mono ?_
  rintro e w1 ⟨ra, n, rc, xs, ct, lv, rfl, fa, hn4, g1⟩
  have z1 := g1.size
  have M1 := ((M0.below g1).fact FrS.loc fa).alloc1 (.slice ra n rc) 26
  have hn : n ≤ maxLen := by unfold maxLen; omega
  clear M0 g1 fa
  go_wp2_with fail
  refine (implDropStar_calls ra n rc xs ct lv _ hn (M1.get 0 rfl).sl).mono ?_
  rintro e w2 ⟨da, dn, dc, rfl, o2, g2⟩
  have z2 := g2.size
  simp only [World.size_alloc] at z2 o2
  have M2 := ((M1.below g2).fact OS.loc o2).alloc2 (.int .i64 (dsC xs ct lv)) (.slice da dn dc) 32
  have hdm := osMax o2
  have hc2 := hc.below M2.bel
  clear M1 g2 o2
  go_wp2_with fail
  refine (drawStarsOf_calls a len cap _ hc2).mono ?_
  rintro e w3 ⟨qa, qn, qc, X, rfl, fx, hq4, g3⟩
  have z3 := g3.size
  simp only [World.size_alloc] at z3 fx
  have M3 := ((M2.below g3).fact FrS.loc fx).alloc1 (.slice qa qn qc) 26
  have hqm : qn ≤ maxLen := by unfold maxLen; omega
  clear M2 g3 fx hc2
  go_wp2_with fail
  refine (implStarsOf_calls qa qn qc X _ hqm (M3.get 0 rfl).sl).mono ?_
  rintro e w4 ⟨sa, sn, sc, rfl, o4, g4⟩
  have z4 := g4.size
  simp only [World.size_alloc] at z4 o4
  have M4 := ((M3.below g4).fact OS.loc o4).alloc2 (.int .i64 (fault X)) (.slice sa sn sc) 47
  have hsm := osMax o4
  have hsl := o4.1
  have hc4 := hc.below M4.bel
  clear M3 g4 o4
  go_wp2_with fail
  refine (drawMayEnter_calls a len cap _ hc4).mono ?_
  rintro e w5 ⟨pa, pn, pc, z, ga, gn, gc, y, rq, l, rk, x, rfl, fa, hpn4, fb, hgn4, fq, hl4, g5⟩
  have z5 := g5.size
  simp only [World.size_alloc] at z5 fa fb fq
  have M5 := (((((M4.below g5).fact FrS.loc fa).fact FrS.loc fb).fact FrS.loc fq).alloc2 (.slice pa pn pc) (.slice ga gn gc) 28).alloc1 (.slice rq l rk) 26
  simp only [World.size_alloc] at M5
  have hpn : pn ≤ maxLen := by unfold maxLen; omega
  have hgn : gn ≤ maxLen := by unfold maxLen; omega
  have hl : l ≤ maxLen := by unfold maxLen; omega
  clear M4 g5 fa fb fq hc4
  have e1 : (fault X != fault X) = false := by simp
  have e2 : (meB z y x != meB z y x) = false := by simp
  obtain ⟨W, hW⟩ : ∃ W : World, W = (w5.alloc (.cells #[.slice pa pn pc, .slice ga gn gc] 28)).alloc (.cells #[.slice rq l rk] 26) := ⟨_, rfl⟩
  rw [← hW] at M5
  have HW := hide hW
  have lt0 : (Addr.mk (w5.heap.size + 1) 0 none).block < W.heap.size := M5.lt 0 rfl
  have lt1 : (Addr.mk (w5.heap.size) 0 none).block < W.heap.size := M5.lt 1 rfl
  have lt2 : (Addr.mk (w5.heap.size) 1 none).block < W.heap.size := M5.lt 2 rfl
  have lt3 : (Addr.mk (w4.heap.size) 0 none).block < W.heap.size := M5.lt 3 rfl
  have lt4 : (Addr.mk (w4.heap.size) 1 none).block < W.heap.size := M5.lt 4 rfl
  have lt5 : (Addr.mk (w3.heap.size) 0 none).block < W.heap.size := M5.lt 5 rfl
  have HM := hide M5
  have HQS := hide ((M5.get 0 rfl).sl)
  have HPP := hide (PR.mk hpn (M5.get 2 rfl).sl hgn (M5.get 1 rfl).sl)
  have HSS := hide ((M5.get 3 rfl).sl)
  have HXS := hide ((M5.get 4 rfl).sl)
  have HS0 : Hid (W.drew.cell? ⟨w5.heap.size + 1, 0, none⟩ = some (.slice rq l rk) ∧ W.drew.cell? ⟨w5.heap.size, 0, none⟩ = some (.slice pa pn pc) ∧ W.drew.cell? ⟨w5.heap.size, 1, none⟩ = some (.slice ga gn gc) ∧ W.drew.cell? ⟨w4.heap.size, 0, none⟩ = some (.int .i64 (fault X)) ∧ W.drew.cell? ⟨w4.heap.size, 1, none⟩ = some (.slice sa sn sc) ∧ W.drew.cell? ⟨w3.heap.size, 0, none⟩ = some (.slice qa qn qc) ∧ Below W.heap.size W W.drew) := ⟨M5.cell 0 rfl, M5.cell 1 rfl, M5.cell 2 rfl, M5.cell 3 rfl, M5.cell 4 rfl, M5.cell 5 rfl, (Below.refl _ _).drew⟩
  clear M5 hW
  go_upto_region 8 with fail
  rw [← HW.out]
  go_cut [71] (fun v wd => v = .bool false ∧ Below W.heap.size W wd)
  case first =>
    by_cases hf : fault X = 0
    · have e3 : (fault X == 0) = true := by simp [hf]
      have hso : (decide (0 < sn) == ownsB X) = true := by rw [← st_owns hf, hsl]; simp
      clear hf hsl
      as_aux_lemma =>
        go_region_held2 (fun w' => w'.cell? ⟨w5.heap.size + 1, 0, none⟩ = some (.slice rq l rk) ∧ w'.cell? ⟨w5.heap.size, 0, none⟩ = some (.slice pa pn pc) ∧ w'.cell? ⟨w5.heap.size, 1, none⟩ = some (.slice ga gn gc) ∧ w'.cell? ⟨w4.heap.size, 0, none⟩ = some (.int .i64 (fault X)) ∧ w'.cell? ⟨w4.heap.size, 1, none⟩ = some (.slice sa sn sc) ∧ w'.cell? ⟨w3.heap.size, 0, none⟩ = some (.slice qa qn qc) ∧ Below W.heap.size W w')
          (first | with_reducible exact HS0.out | with_reducible assumption)
          (first
            | (go_at_call 28; (with_reducible refine (specStarsOf_calls qa qn qc X _ hqm ?_).mono ?_); exact HXS.out.below (q6_bel (by with_reducible assumption)) (Nat.le_refl _); rintro e y1 ⟨k1a, k1n, k1c, rfl, ok, ga⟩; have hs1 := q6_below lt0 lt1 lt2 lt3 lt4 lt5 (by with_reducible assumption) ga; have hk1 := osMax ok; have HK := hide ok.sl; clear ok; clear ga)
            | (go_at_call 17; (with_reducible refine (lwNums_as sa k1a sn sc k1n k1c (stL X) (stL X) _ rfl hsm hk1 ?_ ?_).mono ?_); exact HSS.out.below (q6_bel (by with_reducible assumption)) (Nat.le_refl _); exact HK.out; rintro e y1 ⟨rfl, ga⟩; have hs1 := q6_below lt0 lt1 lt2 lt3 lt4 lt5 (by with_reducible assumption) ga; clear ga)
            | (go_at_call 29; (with_reducible refine (implOwnsAny_calls qa qn qc X _ hqm ?_).mono ?_); exact HXS.out.below (q6_bel (by with_reducible assumption)) (Nat.le_refl _); rintro e y1 ⟨rfl, ga⟩; have hs1 := q6_below lt0 lt1 lt2 lt3 lt4 lt5 (by with_reducible assumption) ga; clear ga)
            | (go_at_call 21; (with_reducible refine (implMayEnter_calls pa pn pc z ga gn gc y rq l rk x _ ?_ hl ?_).mono ?_); exact HPP.out.below (q6_bel (by with_reducible assumption)) (Nat.le_refl _); exact HQS.out.below (q6_bel (by with_reducible assumption)) (Nat.le_refl _); rintro e y1 ⟨rfl, ga⟩; have hs1 := q6_below lt0 lt1 lt2 lt3 lt4 lt5 (by with_reducible assumption) ga; clear ga)
            | (go_at_call 30; (with_reducible refine (specMayEnter_calls pa pn pc z ga gn gc y rq l rk x _ ?_ hl ?_).mono ?_); exact HPP.out.below (q6_bel (by with_reducible assumption)) (Nat.le_refl _); exact HQS.out.below (q6_bel (by with_reducible assumption)) (Nat.le_refl _); rintro e y1 ⟨rfl, ga⟩; have hs1 := q6_below lt0 lt1 lt2 lt3 lt4 lt5 (by with_reducible assumption) ga; clear ga))
        all_goals go_wp2_with fail
        all_goals go_meet
        all_goals exact ⟨rfl, q6_bel hs1⟩
    · have e3 : (fault X == 0) = false := by simpa using hf
      clear hf hsl
      as_aux_lemma =>
        refine wp_region_held_drew (S := (fun w' => w'.cell? ⟨w5.heap.size + 1, 0, none⟩ = some (.slice rq l rk) ∧ w'.cell? ⟨w5.heap.size, 0, none⟩ = some (.slice pa pn pc) ∧ w'.cell? ⟨w5.heap.size, 1, none⟩ = some (.slice ga gn gc) ∧ w'.cell? ⟨w4.heap.size, 0, none⟩ = some (.int .i64 (fault X)) ∧ w'.cell? ⟨w4.heap.size, 1, none⟩ = some (.slice sa sn sc) ∧ w'.cell? ⟨w3.heap.size, 0, none⟩ = some (.slice qa qn qc) ∧ Below W.heap.size W w')) (by kernel_rfl) HS0.out (fun hHeld => ?_)
        refine wpAnyH_take (i := 0) (oi := { dst := some 34, op := Go.Op.fieldAddr 47 (Go.Operand.tmp 8) 0, type := 0, pos := "laws.go:710", after := #[], guard := none }) (v := ?_) rfl (by kernel_rfl) (by kernel_rfl) (by kernel_rfl) (fun _ _ _ h => h) (Or.inl ⟨by rfl, ?_⟩) (by assumption) ?_
        rotate_left
        · (intro w hSw; (try dsimp only at hSw); go_simp; (try with_reducible rfl))
        (try simp only [Act.put, List.setIfInBounds_toArray, List.set_cons_zero, List.set_cons_succ])
        refine wpAnyH_take (i := 1) (oi := { dst := some 35, op := Go.Op.load 2 (Go.Operand.tmp 34), type := 2, pos := "laws.go:710", after := #[{ on := 0, ground := Go.Ground.data }], guard := none }) (v := ?_) rfl (by kernel_rfl) (by kernel_rfl) (by kernel_rfl) (fun _ _ _ h => h) (Or.inl ⟨by rfl, ?_⟩) (by assumption) ?_
        rotate_left
        · (intro w hSw; (try dsimp only at hSw); go_simp; (try with_reducible rfl))
        (try simp only [Act.put, List.setIfInBounds_toArray, List.set_cons_zero, List.set_cons_succ])
        refine wpAnyH_take (i := 2) (oi := { dst := some 36, op := Go.Op.load 26 (Go.Operand.tmp 7), type := 26, pos := "laws.go:710", after := #[], guard := none }) (v := ?_) rfl (by kernel_rfl) (by kernel_rfl) (by kernel_rfl) (fun _ _ _ h => h) (Or.inl ⟨by rfl, ?_⟩) (by assumption) ?_
        rotate_left
        · (intro w hSw; (try dsimp only at hSw); go_simp; (try with_reducible rfl))
        (try simp only [Act.put, List.setIfInBounds_toArray, List.set_cons_zero, List.set_cons_succ])
        refine wpAnyH_ready (rs := [3]) (by kernel_rfl) (by simp) ?_
        refine AllReadyH.cons (o := { dst := some 37, op := Go.Op.call { callee := Go.Callee.value (Go.Operand.func 28), args := #[Go.Operand.tmp 36], argTypes := #[26] }, type := 47, pos := "laws.go:710", after := #[{ on := 2, ground := Go.Ground.data }], guard := none }) rfl (fun K hK => ?_) AllReadyH.nil
        go_simp
        go_wp2_with (go_at_call 28; (with_reducible refine (specStarsOf_calls qa qn qc X _ hqm ?_).mono ?_); exact HXS.out.below (q6_bel (by with_reducible assumption)) (Nat.le_refl _); rintro e y1 ⟨k1a, k1n, k1c, rfl, ok, ga⟩; have hs1 := q6_below lt0 lt1 lt2 lt3 lt4 lt5 (by with_reducible assumption) ga; have hk1 := osMax ok; have HK := hide ok.sl; clear ok; clear ga)
        refine hK.out _ _ hs1 (fun hHeld => ?_)
        clear hK K
        (try simp only [Act.put, List.setIfInBounds_toArray, List.set_cons_zero, List.set_cons_succ])
        refine wpAnyH_take (i := 4) (oi := { dst := some 38, op := Go.Op.field 47 (Go.Operand.tmp 37) 0, type := 2, pos := "laws.go:710", after := #[{ on := 3, ground := Go.Ground.data }], guard := none }) (v := ?_) rfl (by kernel_rfl) (by kernel_rfl) (by kernel_rfl) (fun _ _ _ h => h) (Or.inl ⟨by rfl, ?_⟩) (by assumption) ?_
        rotate_left
        · (intro w hSw; (try dsimp only at hSw); go_simp; (try with_reducible rfl))
        (try simp only [Act.put, List.setIfInBounds_toArray, List.set_cons_zero, List.set_cons_succ])
        refine wpAnyH_take (i := 5) (oi := { dst := some 39, op := Go.Op.binOp Go.BinOp.neq 2 (Go.Operand.tmp 35) (Go.Operand.tmp 38) 2, type := 4, pos := "laws.go:710", after := #[{ on := 1, ground := Go.Ground.data }, { on := 4, ground := Go.Ground.data }], guard := none }) (v := ?_) rfl (by kernel_rfl) (by kernel_rfl) (by kernel_rfl) (fun _ _ _ h => h) (Or.inl ⟨by rfl, ?_⟩) (by assumption) ?_
        rotate_left
        · (intro w hSw; (try dsimp only at hSw); go_simp; (try with_reducible rfl))
        (try simp only [Act.put, List.setIfInBounds_toArray, List.set_cons_zero, List.set_cons_succ])
        refine wpAnyH_take (i := 6) (oi := { dst := some 40, op := Go.Op.move (Go.Operand.tmp 39), type := 4, pos := "laws.go:710", after := #[{ on := 5, ground := Go.Ground.data }, { on := 3, ground := Go.Ground.chain }], guard := none }) (v := ?_) rfl (by kernel_rfl) (by kernel_rfl) (by kernel_rfl) (fun _ _ _ h => h) (Or.inl ⟨by rfl, ?_⟩) (by assumption) ?_
        rotate_left
        · (intro w hSw; (try dsimp only at hSw); go_simp; (try with_reducible rfl))
        (try simp only [Act.put, List.setIfInBounds_toArray, List.set_cons_zero, List.set_cons_succ])
        refine wpAnyH_take (i := 7) (oi := { dst := some 41, op := Go.Op.fieldAddr 47 (Go.Operand.tmp 8) 1, type := 0, pos := "laws.go:710", after := #[{ on := 6, ground := Go.Ground.guard }], guard := some (6, false) }) (v := ?_) rfl (by kernel_rfl) (by kernel_rfl) (by kernel_rfl) (fun _ _ _ h => h) (Or.inl ⟨by rfl, ?_⟩) (by assumption) ?_
        rotate_left
        · (intro w hSw; (try dsimp only at hSw); go_simp; (try with_reducible rfl))
        (try simp only [Act.put, List.setIfInBounds_toArray, List.set_cons_zero, List.set_cons_succ])
        refine wpAnyH_take (i := 8) (oi := { dst := some 42, op := Go.Op.load 24 (Go.Operand.tmp 41), type := 24, pos := "laws.go:710", after := #[{ on := 7, ground := Go.Ground.data }, { on := 6, ground := Go.Ground.guard }], guard := some (6, false) }) (v := ?_) rfl (by kernel_rfl) (by kernel_rfl) (by kernel_rfl) (fun _ _ _ h => h) (Or.inl ⟨by rfl, ?_⟩) (by assumption) ?_
        rotate_left
        · (intro w hSw; (try dsimp only at hSw); go_simp; (try with_reducible rfl))
        (try simp only [Act.put, List.setIfInBounds_toArray, List.set_cons_zero, List.set_cons_succ])
        refine wpAnyH_take (i := 9) (oi := { dst := some 43, op := Go.Op.load 26 (Go.Operand.tmp 7), type := 26, pos := "laws.go:710", after := #[{ on := 6, ground := Go.Ground.guard }], guard := some (6, false) }) (v := ?_) rfl (by kernel_rfl) (by kernel_rfl) (by kernel_rfl) (fun _ _ _ h => h) (Or.inl ⟨by rfl, ?_⟩) (by assumption) ?_
        rotate_left
        · (intro w hSw; (try dsimp only at hSw); go_simp; (try with_reducible rfl))
        (try simp only [Act.put, List.setIfInBounds_toArray, List.set_cons_zero, List.set_cons_succ])
        refine wpAnyH_ready (rs := [10]) (by kernel_rfl) (by simp) ?_
        refine AllReadyH.cons (o := { dst := some 44, op := Go.Op.call { callee := Go.Callee.value (Go.Operand.func 28), args := #[Go.Operand.tmp 43], argTypes := #[26] }, type := 47, pos := "laws.go:710", after := #[{ on := 9, ground := Go.Ground.data }, { on := 6, ground := Go.Ground.chain }, { on := 6, ground := Go.Ground.guard }], guard := some (6, false) }) rfl (fun K hK => ?_) AllReadyH.nil
        go_simp
        go_wp2_with (go_at_call 28; (with_reducible refine (specStarsOf_calls qa qn qc X _ hqm ?_).mono ?_); exact HXS.out.below (q6_bel (by with_reducible assumption)) (Nat.le_refl _); rintro e y1 ⟨k1a, k1n, k1c, rfl, ok, ga⟩; have hs1 := q6_below lt0 lt1 lt2 lt3 lt4 lt5 (by with_reducible assumption) ga; have hk1 := osMax ok; have HK := hide ok.sl; clear ok; clear ga)
        refine hK.out _ _ hs1 (fun hHeld => ?_)
        clear hK K
        (try simp only [Act.put, List.setIfInBounds_toArray, List.set_cons_zero, List.set_cons_succ])
        refine wpAnyH_take (i := 11) (oi := { dst := some 45, op := Go.Op.field 47 (Go.Operand.tmp 44) 1, type := 24, pos := "laws.go:710", after := #[{ on := 10, ground := Go.Ground.data }, { on := 6, ground := Go.Ground.guard }], guard := some (6, false) }) (v := ?_) rfl (by kernel_rfl) (by kernel_rfl) (by kernel_rfl) (fun _ _ _ h => h) (Or.inl ⟨by rfl, ?_⟩) (by assumption) ?_
        rotate_left
        · (intro w hSw; (try dsimp only at hSw); go_simp; (try with_reducible rfl))
        (try simp only [Act.put, List.setIfInBounds_toArray, List.set_cons_zero, List.set_cons_succ])
        refine wpAnyH_ready (rs := [12]) (by kernel_rfl) (by simp) ?_
        refine AllReadyH.cons (o := { dst := some 46, op := Go.Op.call { callee := Go.Callee.value (Go.Operand.func 17), args := #[Go.Operand.tmp 42, Go.Operand.tmp 45], argTypes := #[24, 24] }, type := 4, pos := "laws.go:710", after := #[{ on := 8, ground := Go.Ground.data }, { on := 11, ground := Go.Ground.data }, { on := 10, ground := Go.Ground.chain }, { on := 6, ground := Go.Ground.guard }], guard := some (6, false) }) rfl (fun K hK => ?_) AllReadyH.nil
        go_simp
        go_wp2_with (go_at_call 17; (with_reducible refine (lwNums_as sa k1a sn sc k1n k1c (stL X) (stL X) _ rfl hsm hk1 ?_ ?_).mono ?_); exact HSS.out.below (q6_bel (by with_reducible assumption)) (Nat.le_refl _); exact HK.out; rintro e y1 ⟨rfl, ga⟩; have hs1 := q6_below lt0 lt1 lt2 lt3 lt4 lt5 (by with_reducible assumption) ga; clear ga)
        refine hK.out _ _ hs1 (fun hHeld => ?_)
        clear hK K
        (try simp only [Act.put, List.setIfInBounds_toArray, List.set_cons_zero, List.set_cons_succ])
        refine wpAnyH_take (i := 13) (oi := { dst := some 47, op := Go.Op.unOp Go.UnOp.not 4 (Go.Operand.tmp 46), type := 4, pos := "laws.go:710", after := #[{ on := 12, ground := Go.Ground.data }, { on := 6, ground := Go.Ground.guard }], guard := some (6, false) }) (v := ?_) rfl (by kernel_rfl) (by kernel_rfl) (by kernel_rfl) (fun _ _ _ h => h) (Or.inl ⟨by rfl, ?_⟩) (by assumption) ?_
        rotate_left
        · (intro w hSw; (try dsimp only at hSw); go_simp; (try with_reducible rfl))
        (try simp only [Act.put, List.setIfInBounds_toArray, List.set_cons_zero, List.set_cons_succ])
        refine wpAnyH_take (i := 14) (oi := { dst := some 48, op := Go.Op.pick (Go.Operand.tmp 40) (Go.Operand.const (Go.Value.bool true)) (Go.Operand.tmp 47), type := 4, pos := "laws.go:710", after := #[{ on := 6, ground := Go.Ground.data }, { on := 13, ground := Go.Ground.data }], guard := none }) (v := ?_) rfl (by kernel_rfl) (by kernel_rfl) (by kernel_rfl) (fun _ _ _ h => h) (Or.inl ⟨by rfl, ?_⟩) (by assumption) ?_
        rotate_left
        · (intro w hSw; (try dsimp only at hSw); go_simp; (try with_reducible rfl))
        (try simp only [Act.put, List.setIfInBounds_toArray, List.set_cons_zero, List.set_cons_succ])
        refine wpAnyH_take (i := 15) (oi := { dst := some 49, op := Go.Op.move (Go.Operand.tmp 48), type := 4, pos := "laws.go:710", after := #[{ on := 14, ground := Go.Ground.data }, { on := 12, ground := Go.Ground.chain }], guard := none }) (v := ?_) rfl (by kernel_rfl) (by kernel_rfl) (by kernel_rfl) (fun _ _ _ h => h) (Or.inl ⟨by rfl, ?_⟩) (by assumption) ?_
        rotate_left
        · (intro w hSw; (try dsimp only at hSw); go_simp; (try with_reducible rfl))
        (try simp only [Act.put, List.setIfInBounds_toArray, List.set_cons_zero, List.set_cons_succ])
        refine wpAnyH_take (i := 16) (oi := { dst := some 50, op := Go.Op.fieldAddr 47 (Go.Operand.tmp 8) 0, type := 0, pos := "laws.go:710", after := #[{ on := 15, ground := Go.Ground.guard }], guard := some (15, false) }) (v := ?_) rfl (by kernel_rfl) (by kernel_rfl) (by kernel_rfl) (fun _ _ _ h => h) (Or.inl ⟨by rfl, ?_⟩) (by assumption) ?_
        rotate_left
        · (intro w hSw; (try dsimp only at hSw); go_simp; (try with_reducible rfl))
        (try simp only [Act.put, List.setIfInBounds_toArray, List.set_cons_zero, List.set_cons_succ])
        refine wpAnyH_take (i := 17) (oi := { dst := some 51, op := Go.Op.load 2 (Go.Operand.tmp 50), type := 2, pos := "laws.go:710", after := #[{ on := 16, ground := Go.Ground.data }, { on := 15, ground := Go.Ground.guard }], guard := some (15, false) }) (v := ?_) rfl (by kernel_rfl) (by kernel_rfl) (by kernel_rfl) (fun _ _ _ h => h) (Or.inl ⟨by rfl, ?_⟩) (by assumption) ?_
        rotate_left
        · (intro w hSw; (try dsimp only at hSw); go_simp; (try with_reducible rfl))
        (try simp only [Act.put, List.setIfInBounds_toArray, List.set_cons_zero, List.set_cons_succ])
        refine wpAnyH_take (i := 18) (oi := { dst := some 52, op := Go.Op.binOp Go.BinOp.eql 2 (Go.Operand.tmp 51) (Go.Operand.const (Go.Value.int Go.IntKind.i64 0)) 2, type := 4, pos := "laws.go:710", after := #[{ on := 17, ground := Go.Ground.data }, { on := 15, ground := Go.Ground.guard }], guard := some (15, false) }) (v := ?_) rfl (by kernel_rfl) (by kernel_rfl) (by kernel_rfl) (fun _ _ _ h => h) (Or.inl ⟨by rfl, ?_⟩) (by assumption) ?_
        rotate_left
        · (intro w hSw; (try dsimp only at hSw); go_simp; (try with_reducible rfl))
        (try simp only [Act.put, List.setIfInBounds_toArray, List.set_cons_zero, List.set_cons_succ])
        refine wpAnyH_take (i := 19) (oi := { dst := some 53, op := Go.Op.move (Go.Operand.tmp 52), type := 4, pos := "laws.go:710", after := #[{ on := 18, ground := Go.Ground.data }, { on := 15, ground := Go.Ground.chain }, { on := 15, ground := Go.Ground.guard }], guard := some (15, false) }) (v := ?_) rfl (by kernel_rfl) (by kernel_rfl) (by kernel_rfl) (fun _ _ _ h => h) (Or.inl ⟨by rfl, ?_⟩) (by assumption) ?_
        rotate_left
        · (intro w hSw; (try dsimp only at hSw); go_simp; (try with_reducible rfl))
        (try simp only [Act.put, List.setIfInBounds_toArray, List.set_cons_zero, List.set_cons_succ])
        refine wpAnyH_take (i := 20) (oi := { dst := some 54, op := Go.Op.fieldAddr 47 (Go.Operand.tmp 8) 1, type := 0, pos := "laws.go:710", after := #[{ on := 19, ground := Go.Ground.guard }], guard := some (19, true) }) (v := undef) rfl (by kernel_rfl) (by kernel_rfl) (by kernel_rfl) (fun _ _ _ h => h) (Or.inr ⟨by rfl, rfl⟩) (by assumption) ?_
        (try simp only [Act.put, List.setIfInBounds_toArray, List.set_cons_zero, List.set_cons_succ])
        refine wpAnyH_take (i := 21) (oi := { dst := some 55, op := Go.Op.load 24 (Go.Operand.tmp 54), type := 24, pos := "laws.go:710", after := #[{ on := 20, ground := Go.Ground.data }, { on := 19, ground := Go.Ground.guard }], guard := some (19, true) }) (v := undef) rfl (by kernel_rfl) (by kernel_rfl) (by kernel_rfl) (fun _ _ _ h => h) (Or.inr ⟨by rfl, rfl⟩) (by assumption) ?_
        (try simp only [Act.put, List.setIfInBounds_toArray, List.set_cons_zero, List.set_cons_succ])
        refine wpAnyH_take (i := 22) (oi := { dst := some 56, op := Go.Op.call { callee := Go.Callee.builtin Go.Builtin.len, args := #[Go.Operand.tmp 55], argTypes := #[24] }, type := 3, pos := "laws.go:710", after := #[{ on := 21, ground := Go.Ground.data }, { on := 19, ground := Go.Ground.guard }], guard := some (19, true) }) (v := undef) rfl (by kernel_rfl) (by kernel_rfl) (by kernel_rfl) (fun _ _ _ h => h) (Or.inr ⟨by rfl, rfl⟩) (by assumption) ?_
        (try simp only [Act.put, List.setIfInBounds_toArray, List.set_cons_zero, List.set_cons_succ])
        refine wpAnyH_take (i := 23) (oi := { dst := some 57, op := Go.Op.binOp Go.BinOp.gtr 3 (Go.Operand.tmp 56) (Go.Operand.const (Go.Value.int Go.IntKind.i64 0)) 3, type := 4, pos := "laws.go:710", after := #[{ on := 22, ground := Go.Ground.data }, { on := 19, ground := Go.Ground.guard }], guard := some (19, true) }) (v := undef) rfl (by kernel_rfl) (by kernel_rfl) (by kernel_rfl) (fun _ _ _ h => h) (Or.inr ⟨by rfl, rfl⟩) (by assumption) ?_
        (try simp only [Act.put, List.setIfInBounds_toArray, List.set_cons_zero, List.set_cons_succ])
        refine wpAnyH_take (i := 24) (oi := { dst := some 58, op := Go.Op.load 26 (Go.Operand.tmp 7), type := 26, pos := "laws.go:710", after := #[{ on := 19, ground := Go.Ground.guard }], guard := some (19, true) }) (v := undef) rfl (by kernel_rfl) (by kernel_rfl) (by kernel_rfl) (fun _ _ _ h => h) (Or.inr ⟨by rfl, rfl⟩) (by assumption) ?_
        (try simp only [Act.put, List.setIfInBounds_toArray, List.set_cons_zero, List.set_cons_succ])
        refine wpAnyH_take (i := 25) (oi := { dst := some 59, op := Go.Op.call { callee := Go.Callee.value (Go.Operand.func 29), args := #[Go.Operand.tmp 58], argTypes := #[26] }, type := 4, pos := "laws.go:710", after := #[{ on := 24, ground := Go.Ground.data }, { on := 19, ground := Go.Ground.chain }, { on := 19, ground := Go.Ground.guard }], guard := some (19, true) }) (v := undef) rfl (by kernel_rfl) (by kernel_rfl) (by kernel_rfl) (fun _ _ _ h => h) (Or.inr ⟨by rfl, rfl⟩) (by assumption) ?_
        (try simp only [Act.put, List.setIfInBounds_toArray, List.set_cons_zero, List.set_cons_succ])
        refine wpAnyH_take (i := 26) (oi := { dst := some 60, op := Go.Op.binOp Go.BinOp.neq 4 (Go.Operand.tmp 57) (Go.Operand.tmp 59) 4, type := 4, pos := "laws.go:710", after := #[{ on := 23, ground := Go.Ground.data }, { on := 25, ground := Go.Ground.data }, { on := 19, ground := Go.Ground.guard }], guard := some (19, true) }) (v := undef) rfl (by kernel_rfl) (by kernel_rfl) (by kernel_rfl) (fun _ _ _ h => h) (Or.inr ⟨by rfl, rfl⟩) (by assumption) ?_
        (try simp only [Act.put, List.setIfInBounds_toArray, List.set_cons_zero, List.set_cons_succ])
        refine wpAnyH_take (i := 27) (oi := { dst := some 61, op := Go.Op.pick (Go.Operand.tmp 53) (Go.Operand.tmp 60) (Go.Operand.const (Go.Value.bool false)), type := 4, pos := "laws.go:710", after := #[{ on := 19, ground := Go.Ground.data }, { on := 26, ground := Go.Ground.data }, { on := 15, ground := Go.Ground.guard }], guard := some (15, false) }) (v := ?_) rfl (by kernel_rfl) (by kernel_rfl) (by kernel_rfl) (fun _ _ _ h => h) (Or.inl ⟨by rfl, ?_⟩) (by assumption) ?_
        rotate_left
        · (intro w hSw; (try dsimp only at hSw); go_simp; (try with_reducible rfl))
        (try simp only [Act.put, List.setIfInBounds_toArray, List.set_cons_zero, List.set_cons_succ])
        refine wpAnyH_take (i := 28) (oi := { dst := some 62, op := Go.Op.pick (Go.Operand.tmp 49) (Go.Operand.const (Go.Value.bool true)) (Go.Operand.tmp 61), type := 4, pos := "laws.go:710", after := #[{ on := 15, ground := Go.Ground.data }, { on := 27, ground := Go.Ground.data }], guard := none }) (v := ?_) rfl (by kernel_rfl) (by kernel_rfl) (by kernel_rfl) (fun _ _ _ h => h) (Or.inl ⟨by rfl, ?_⟩) (by assumption) ?_
        rotate_left
        · (intro w hSw; (try dsimp only at hSw); go_simp; (try with_reducible rfl))
        (try simp only [Act.put, List.setIfInBounds_toArray, List.set_cons_zero, List.set_cons_succ])
        refine wpAnyH_take (i := 29) (oi := { dst := some 63, op := Go.Op.move (Go.Operand.tmp 62), type := 4, pos := "laws.go:710", after := #[{ on := 28, ground := Go.Ground.data }, { on := 25, ground := Go.Ground.chain }], guard := none }) (v := ?_) rfl (by kernel_rfl) (by kernel_rfl) (by kernel_rfl) (fun _ _ _ h => h) (Or.inl ⟨by rfl, ?_⟩) (by assumption) ?_
        rotate_left
        · (intro w hSw; (try dsimp only at hSw); go_simp; (try with_reducible rfl))
        (try simp only [Act.put, List.setIfInBounds_toArray, List.set_cons_zero, List.set_cons_succ])
        refine wpAnyH_take (i := 30) (oi := { dst := some 64, op := Go.Op.load 28 (Go.Operand.tmp 9), type := 28, pos := "laws.go:710", after := #[{ on := 29, ground := Go.Ground.guard }], guard := some (29, false) }) (v := ?_) rfl (by kernel_rfl) (by kernel_rfl) (by kernel_rfl) (fun _ _ _ h => h) (Or.inl ⟨by rfl, ?_⟩) (by assumption) ?_
        rotate_left
        · (intro w hSw; (try dsimp only at hSw); go_simp; (try with_reducible rfl))
        (try simp only [Act.put, List.setIfInBounds_toArray, List.set_cons_zero, List.set_cons_succ])
        refine wpAnyH_take (i := 31) (oi := { dst := some 65, op := Go.Op.load 26 (Go.Operand.tmp 10), type := 26, pos := "laws.go:710", after := #[{ on := 29, ground := Go.Ground.guard }], guard := some (29, false) }) (v := ?_) rfl (by kernel_rfl) (by kernel_rfl) (by kernel_rfl) (fun _ _ _ h => h) (Or.inl ⟨by rfl, ?_⟩) (by assumption) ?_
        rotate_left
        · (intro w hSw; (try dsimp only at hSw); go_simp; (try with_reducible rfl))
        (try simp only [Act.put, List.setIfInBounds_toArray, List.set_cons_zero, List.set_cons_succ])
        refine wpAnyH_take (i := 33) (oi := { dst := some 67, op := Go.Op.load 28 (Go.Operand.tmp 9), type := 28, pos := "laws.go:710", after := #[{ on := 29, ground := Go.Ground.guard }], guard := some (29, false) }) (v := ?_) rfl (by kernel_rfl) (by kernel_rfl) (by kernel_rfl) (fun _ _ _ h => h) (Or.inl ⟨by rfl, ?_⟩) (by assumption) ?_
        rotate_left
        · (intro w hSw; (try dsimp only at hSw); go_simp; (try with_reducible rfl))
        (try simp only [Act.put, List.setIfInBounds_toArray, List.set_cons_zero, List.set_cons_succ])
        refine wpAnyH_take (i := 34) (oi := { dst := some 68, op := Go.Op.load 26 (Go.Operand.tmp 10), type := 26, pos := "laws.go:710", after := #[{ on := 29, ground := Go.Ground.guard }], guard := some (29, false) }) (v := ?_) rfl (by kernel_rfl) (by kernel_rfl) (by kernel_rfl) (fun _ _ _ h => h) (Or.inl ⟨by rfl, ?_⟩) (by assumption) ?_
        rotate_left
        · (intro w hSw; (try dsimp only at hSw); go_simp; (try with_reducible rfl))
        (try simp only [Act.put, List.setIfInBounds_toArray, List.set_cons_zero, List.set_cons_succ])
        refine wpAnyH_ready (rs := [32]) (by kernel_rfl) (by simp) ?_
        refine AllReadyH.cons (o := { dst := some 66, op := Go.Op.call { callee := Go.Callee.value (Go.Operand.func 21), args := #[Go.Operand.tmp 64, Go.Operand.tmp 65], argTypes := #[28, 26] }, type := 4, pos := "laws.go:710", after := #[{ on := 30, ground := Go.Ground.data }, { on := 31, ground := Go.Ground.data }, { on := 29, ground := Go.Ground.chain }, { on := 29, ground := Go.Ground.guard }], guard := some (29, false) }) rfl (fun K hK => ?_) AllReadyH.nil
        go_simp
        go_wp2_with (go_at_call 21; (with_reducible refine (implMayEnter_calls pa pn pc z ga gn gc y rq l rk x _ ?_ hl ?_).mono ?_); exact HPP.out.below (q6_bel (by with_reducible assumption)) (Nat.le_refl _); exact HQS.out.below (q6_bel (by with_reducible assumption)) (Nat.le_refl _); rintro e y1 ⟨rfl, ga⟩; have hs1 := q6_below lt0 lt1 lt2 lt3 lt4 lt5 (by with_reducible assumption) ga; clear ga)
        refine hK.out _ _ hs1 (fun hHeld => ?_)
        clear hK K
        (try simp only [Act.put, List.setIfInBounds_toArray, List.set_cons_zero, List.set_cons_succ])
        refine wpAnyH_ready (rs := [35]) (by kernel_rfl) (by simp) ?_
        refine AllReadyH.cons (o := { dst := some 69, op := Go.Op.call { callee := Go.Callee.value (Go.Operand.func 30), args := #[Go.Operand.tmp 67, Go.Operand.tmp 68], argTypes := #[28, 26] }, type := 4, pos := "laws.go:710", after := #[{ on := 33, ground := Go.Ground.data }, { on := 34, ground := Go.Ground.data }, { on := 32, ground := Go.Ground.chain }, { on := 29, ground := Go.Ground.guard }], guard := some (29, false) }) rfl (fun K hK => ?_) AllReadyH.nil
        go_simp
        go_wp2_with (go_at_call 30; (with_reducible refine (specMayEnter_calls pa pn pc z ga gn gc y rq l rk x _ ?_ hl ?_).mono ?_); exact HPP.out.below (q6_bel (by with_reducible assumption)) (Nat.le_refl _); exact HQS.out.below (q6_bel (by with_reducible assumption)) (Nat.le_refl _); rintro e y1 ⟨rfl, ga⟩; have hs1 := q6_below lt0 lt1 lt2 lt3 lt4 lt5 (by with_reducible assumption) ga; clear ga)
        refine hK.out _ _ hs1 (fun hHeld => ?_)
        clear hK K
        (try simp only [Act.put, List.setIfInBounds_toArray, List.set_cons_zero, List.set_cons_succ])
        refine wpAnyH_take (i := 36) (oi := { dst := some 70, op := Go.Op.binOp Go.BinOp.neq 4 (Go.Operand.tmp 66) (Go.Operand.tmp 69) 4, type := 4, pos := "laws.go:710", after := #[{ on := 32, ground := Go.Ground.data }, { on := 35, ground := Go.Ground.data }, { on := 29, ground := Go.Ground.guard }], guard := some (29, false) }) (v := ?_) rfl (by kernel_rfl) (by kernel_rfl) (by kernel_rfl) (fun _ _ _ h => h) (Or.inl ⟨by rfl, ?_⟩) (by assumption) ?_
        rotate_left
        · (intro w hSw; (try dsimp only at hSw); go_simp; (try with_reducible rfl))
        (try simp only [Act.put, List.setIfInBounds_toArray, List.set_cons_zero, List.set_cons_succ])
        refine wpAnyH_take (i := 37) (oi := { dst := some 71, op := Go.Op.pick (Go.Operand.tmp 63) (Go.Operand.const (Go.Value.bool true)) (Go.Operand.tmp 70), type := 4, pos := "laws.go:710", after := #[{ on := 29, ground := Go.Ground.data }, { on := 36, ground := Go.Ground.data }], guard := none }) (v := ?_) rfl (by kernel_rfl) (by kernel_rfl) (by kernel_rfl) (fun _ _ _ h => h) (Or.inl ⟨by rfl, ?_⟩) (by assumption) ?_
        rotate_left
        · (intro w hSw; (try dsimp only at hSw); go_simp; (try with_reducible rfl))
        (try simp only [Act.put, List.setIfInBounds_toArray, List.set_cons_zero, List.set_cons_succ])
        refine wpAnyH_done (by kernel_rfl) ?_ _
        go_wp2_with fail
        go_meet
        exact ⟨rfl, q6_bel hs1⟩
  case rest =>
    obtain ⟨rfl, gc8⟩ := hcut
    obtain ⟨w6, rfl⟩ : ∃ x, x = wc := ⟨wc, rfl⟩
    have M6 := (HM.out.below gc8).sub (cs' := [(w2.heap.size, 0, .int .i64 (dsC xs ct lv)), (w2.heap.size, 1, .slice da dn dc), (w1.heap.size, 0, .slice ra n rc)]) (fs' := [(w1.heap.size + 1, w2.heap.size, OS (InR (w1.heap.size + 1) w2.heap.size) da dn (dsL xs ct lv)), (w.heap.size, w1.heap.size, FrS (InR w.heap.size w1.heap.size) ra n xs)]) (fun c h => List.mem_of_mem_drop (i := 6) h) (fun f h => List.mem_of_mem_drop (i := 5) h)
    clear gc8 HM HS0 lt0 lt1 lt2 lt3 lt4 lt5 HQS HPP HSS HXS HW e1 e2 hsl
    have v0 := M6.cell 0 rfl
    have v1 := M6.cell 1 rfl
    have v2 := M6.cell 2 rfl
    by_cases hd : dsC xs ct lv = 0
    rotate_left
    · have ed : (dsC xs ct lv != 0) = true := by simpa using hd
      have eA : (dsC xs ct lv == dsC xs ct lv) = true := by simp
      clear hd
      as_aux_lemma =>
        have lt0 : (Addr.mk (w2.heap.size) 0 none).block < w6.heap.size := M6.lt 0 rfl
        have lt1 : (Addr.mk (w1.heap.size) 0 none).block < w6.heap.size := M6.lt 2 rfl
        have HM := hide M6
        have HLS := hide ((M6.get 1 rfl).sl)
        have HS0 : Hid (w6.drew.cell? ⟨w2.heap.size, 0, none⟩ = some (.int .i64 (dsC xs ct lv)) ∧ w6.drew.cell? ⟨w1.heap.size, 0, none⟩ = some (.slice ra n rc) ∧ Below w6.heap.size w6 w6.drew) := ⟨M6.cell 0 rfl, M6.cell 2 rfl, (Below.refl _ _).drew⟩
        clear M6
        go_upto_region 11 with fail
        clear v0 v1 v2
        go_region_held2 (fun w' => w'.cell? ⟨w2.heap.size, 0, none⟩ = some (.int .i64 (dsC xs ct lv)) ∧ w'.cell? ⟨w1.heap.size, 0, none⟩ = some (.slice ra n rc) ∧ Below w6.heap.size w6 w')
          (first | with_reducible exact HS0.out | with_reducible assumption)
          (first
            | (go_at_call 31; (with_reducible refine (specDropStar_calls ra n rc xs ct lv _ hn ?_).mono ?_); exact HLS.out.below (q2_bel (by with_reducible assumption)) (Nat.le_refl _); rintro e y1 ⟨_, _, _, rfl, _, ga⟩; have hs1 := q2_below lt0 lt1 (by with_reducible assumption) ga; clear ga))
        all_goals (
          have HE := hide (HM.out.below (q2_bel hs1)).bel
          clear hs1 HS0 HM
          go_wp2
          go_ret
          exact ⟨rfl, HE.out⟩)
    have ed : (dsC xs ct lv != 0) = false := by simp [hd]
    obtain ⟨hfx, j, rfl, hj, hlv1, hlv4, hgj⟩ := dsC_inv hd
    obtain ⟨hfD, hlD, hcn, hbD, hgD, hoD⟩ := ds_facts hfx hj hlv1 hlv4 hgj
    rw [dsL_ok hd] at M6
    obtain rfl : dn = 4 := by have h1 := (M6.get 0 rfl).1; omega
    obtain rfl : n = 4 := fault_len4 hfx (M6.get 1 rfl).sl
    obtain ⟨D, hD⟩ : ∃ D, D = xs.set j lv := ⟨_, rfl⟩
    rw [← hD] at M6 hfD hlD hcn hbD hgD hoD
    clear hD hfx hfD hgj hlv1 hlv4
    have h4m : 4 ≤ maxLen := by unfold maxLen; omega
    go_wp2_with fail
    refine (implStarsOf_calls ra 4 rc xs _ h4m (M6.get 1 rfl).sl).mono ?_
    rintro e w7 ⟨ba, bn, bc, rfl, o7, g7⟩
    have z7 := g7.size
    have hbl := o7.1
    have M7 := ((M6.below g7).fact OS.loc o7).alloc2 (.int .i64 (fault xs)) (.slice ba bn bc) 47
    clear M6 g7 o7 v0 v1 v2
    have v1 := M7.cell 3 rfl
    have v2 := M7.cell 4 rfl
    go_wp2_with fail
    refine (implStarsOf_calls da 4 dc D _ h4m (M7.get 1 rfl).sl).mono ?_
    rintro e w8 ⟨na, nn, nc, rfl, o8, g8⟩
    have z8 := g8.size
    simp only [World.size_alloc] at z8 o8
    have hnl := o8.1
    have M8 := ((M7.below g8).fact OS.loc o8).alloc2 (.int .i64 (fault D)) (.slice na nn nc) 47
    clear M7 g8 o8 v1 v2
    rw [hbl, hnl] at hcn
    rw [hbl] at hoD
    have hbs : bn ≤ 1048576 := (M8.get 1 rfl).2.1
    have hwp : IntKind.i64.wrap ((bn : Int) - 1) = (bn : Int) - 1 := by rw [IntKind.wrap_i64]; omega
    have f1 : ((nn : Int) == (bn : Int) - 1) = true := by simp [hcn]
    have f2 : (ownsB D == decide (1 < bn)) = true := by rw [hoD, beq_iff_eq, decide_eq_decide]; omega
    have f7 : (ownsB D == decide (1 < (bn : Int))) = true := by rw [hoD]; exact beq_self_eq_true _
    have f3 : (lv == lv) = true := by simp
    have f4 : (0 : Int) ≤ (j : Int) := by omega
    have f5 : j < 4 := hj
    have f6 : (j : Int) < 4 := by omega
    obtain ⟨db, do_, rfl, hdb, hdc⟩ := (M8.get 2 rfl).sl.2 (by omega)
    have cd := hdc j hj
    rw [hgD] at cd
    obtain ⟨W, hW⟩ : ∃ W : World, W = w8.alloc (.cells #[.int .i64 (fault D), .slice na nn nc] 47) := ⟨_, rfl⟩
    rw [← hW] at M8 cd hdb
    have HW := hide hW
    clear hdc hW hcn hoD hgD hlD hbl hnl
    have lt0 : (Addr.mk (w8.heap.size) 1 none).block < W.heap.size := M8.lt 1 rfl
    have lt1 : (Addr.mk (w7.heap.size) 1 none).block < W.heap.size := M8.lt 3 rfl
    have lt2 : (Addr.mk (w1.heap.size) 0 none).block < W.heap.size := M8.lt 6 rfl
    have lt3 : (Addr.mk (w2.heap.size) 1 none).block < W.heap.size := M8.lt 5 rfl
    have lt4 : (Addr.mk db (do_ + j) none).block < W.heap.size := hdb
    have HM := hide M8
    have HLS := hide (M8.get 3 rfl).sl
    have HDS := hide (M8.get 2 rfl).sl
    have HS0 : Hid (W.drew.cell? ⟨w8.heap.size, 1, none⟩ = some (.slice na nn nc) ∧ W.drew.cell? ⟨w7.heap.size, 1, none⟩ = some (.slice ba bn bc) ∧ W.drew.cell? ⟨w1.heap.size, 0, none⟩ = some (.slice ra 4 rc) ∧ W.drew.cell? ⟨w2.heap.size, 1, none⟩ = some (.slice (some ⟨db, do_, none⟩) 4 dc) ∧ W.drew.cell? ⟨db, do_ + j, none⟩ = some (.int .i64 lv) ∧ Below W.heap.size W W.drew) := ⟨M8.cell 1 rfl, M8.cell 3 rfl, M8.cell 6 rfl, M8.cell 5 rfl, cd, (Below.refl _ _).drew⟩
    clear M8 cd
    go_upto_region 14 with fail
    rw [← HW.out]
    go_region_held2 (fun w' => w'.cell? ⟨w8.heap.size, 1, none⟩ = some (.slice na nn nc) ∧ w'.cell? ⟨w7.heap.size, 1, none⟩ = some (.slice ba bn bc) ∧ w'.cell? ⟨w1.heap.size, 0, none⟩ = some (.slice ra 4 rc) ∧ w'.cell? ⟨w2.heap.size, 1, none⟩ = some (.slice (some ⟨db, do_, none⟩) 4 dc) ∧ w'.cell? ⟨db, do_ + j, none⟩ = some (.int .i64 lv) ∧ Below W.heap.size W w')
      (first | with_reducible exact HS0.out | with_reducible assumption)
      (first
        | (go_at_call 15; (with_reducible refine (isBelow_as ra (some ⟨db, do_, none⟩) 4 rc 4 dc xs D true _ hbD h4m h4m ?_ ?_).mono ?_); exact HLS.out.below (q5_bel (by with_reducible assumption)) (Nat.le_refl _); exact HDS.out.below (q5_bel (by with_reducible assumption)) (Nat.le_refl _); rintro e y1 ⟨rfl, ga⟩; have hs1 := q5_below lt0 lt1 lt2 lt3 lt4 (by with_reducible assumption) ga; clear ga)
        | (go_at_call 29; (with_reducible refine (implOwnsAny_calls (some ⟨db, do_, none⟩) 4 dc D _ h4m ?_).mono ?_); exact HDS.out.below (q5_bel (by with_reducible assumption)) (Nat.le_refl _); rintro e y1 ⟨rfl, ga⟩; have hs1 := q5_below lt0 lt1 lt2 lt3 lt4 (by with_reducible assumption) ga; clear ga))
    all_goals (
      have HE := hide (HM.out.below (q5_bel hs1)).bel
      clear hs1 HS0 HM
      go_wp2
      go_ret
      exact ⟨rfl, HE.out⟩)

end Go.Proofs.Ytdcfdmcooonfkaa
