import Derived.Test.YtknnahchhbobbaaDoorDrawPL
import Derived.Test.YtknnahchhbobbaaDoorLabP
import Derived.Test.YtknnahchhbobbaaDoorParI
import Derived.Test.YtknnahchhbobbaaDoorTxtI
import Derived.WalkKit
import Derived.ProofKit
import Derived.OpenShut
import Derived.ShutString
import Derived.ChangeOld
import Derived.Below
import Derived.WalkSpells
import Derived.Deep.QuietTactic
import Derived.BigQuiet
import Derived.Deep.RegionWith
import Derived.Deep.WholeRow
import Derived.Deep.DeepCutAuto
import Derived.Deep.RegionHeld2
import Derived.Deep.AppendLies
import Derived.Deep.RegionLaw
namespace Go.Proofs.YtknnahchhbobbaaDoor
open Go.ChangeShapes Go.WideShapes Go.ChangeAt Go.RowKit

set_option maxRecDepth 100000 in
theorem lwBig_calls (a : Option Addr) (len cap : Nat) (w : World) (_hl : len ≤ maxLen) :
    Calls Tryd.prog 6 #[.slice a len cap] w fun e w' => e = .returned (.bool (decide (1048576 < (len : Int)))) ∧ w' = w := by
  go_enter Tryd.func6, Tryd.ntmps6
  go_wp2
  go_ret
  exact ⟨rfl, rfl⟩

set_option maxRecDepth 100000 in
theorem lwNums_calls (a b : Option Addr) (la ca lb cb : Nat) (xs ys : List Int) (w : World) (hla : la ≤ maxLen) (hlb : lb ≤ maxLen) (hx : Sl w a la xs) (hy : Sl w b lb ys) :
    Calls Tryd.prog 14 #[.slice a la ca, .slice b lb cb] w fun e w' => e = .returned (.bool (decide (xs = ys))) ∧ Below w.heap.size w w' := by
  unfold maxLen at hla hlb
  obtain ⟨hxl, hx⟩ := hx
  obtain ⟨hyl, hy⟩ := hy
  by_cases hne : la = lb
  · subst hne
    have hn : ((la : Int) == (la : Int)) = true := by simp
    · go_enter Tryd.func14, Tryd.ntmps14
      go_wp2
      go_loopw [5] (fun i wr => ∃ k : Nat, k ≤ la ∧ i = .int .i64 k ∧ Below w.heap.size w wr ∧ ∀ j, j < k → gt xs j = gt ys j) (fun i _ => la - (intOf i).toNat)
      case atStart => exact ⟨0, Nat.zero_le _, rfl, Below.refl _ _, fun j hj => by omega⟩
      case round =>
        obtain ⟨k, hk, rfl, hbel, hall⟩ := hrel
        have Hall : Hid (∀ j, j < k → gt xs j = gt ys j) := hall
        clear hall
        by_cases hlt : k < la
        · obtain ⟨b1, o1, rfl, hb1, hc1⟩ := hx (by omega)
          obtain ⟨b2, o2, rfl, hb2, hc2⟩ := hy (by omega)
          have hck1 := (hbel.cell (p := ⟨b1, o1 + k, none⟩) hb1).trans (hc1 k hlt)
          have hck2 := (hbel.cell (p := ⟨b2, o2 + k, none⟩) hb2).trans (hc2 k hlt)
          have hki : (k : Int) < (la : Int) := by omega
          by_cases he : gt xs k = gt ys k
          · have hbq : (gt xs k != gt ys k) = false := by simp [he]
            have He : Hid (gt xs k = gt ys k) := he
            clear he
            go_wp2_with fail
            go_quiet (fail)
            go_wp2
            go_roundw
            case rel => exact ⟨k + 1, by omega, by go_num, bdrewN hbel _, fun j hj => by (by_cases e : j = k); (subst e; exact He.out); exact Hall.out j (by omega)⟩
            case measure => simp [intOf]; omega
          · have hbq : (gt xs k != gt ys k) = true := by simp [he]
            go_wp2_with fail
            go_quiet (fail)
            go_wp2
            go_ret
            exact ⟨ret_bool (by simp; intro e; exact he (by rw [e])), bdrewN hbel _⟩
        · go_wp2
          go_ret
          exact ⟨ret_bool (by simp; exact getD_ext (by omega) (fun i hi => Hall.out i (by omega))), hbel⟩
  · have hn : ((la : Int) == (lb : Int)) = false := by simp; omega
    go_enter Tryd.func14, Tryd.ntmps14
    go_wp2
    go_ret
    exact ⟨ret_bool (by simp; intro e; rw [e] at hxl; omega), Below.refl _ _⟩

theorem q2_bel {W X : World} {A0 A1 : Addr} {v0 v1 : Value} (h : X.cell? A0 = some v0 ∧ X.cell? A1 = some v1 ∧ Below W.heap.size W X) : Below W.heap.size W X := h.2.2

theorem q2_below {W X Y : World} {A0 A1 : Addr} {v0 v1 : Value} (h0 : A0.block < W.heap.size) (h1 : A1.block < W.heap.size) (h : X.cell? A0 = some v0 ∧ X.cell? A1 = some v1 ∧ Below W.heap.size W X) (g : Below X.heap.size X Y) : Y.cell? A0 = some v0 ∧ Y.cell? A1 = some v1 ∧ Below W.heap.size W Y := by
  have hz := (h.2.2).size
  exact ⟨(g.cell (by omega)).trans h.1, (g.cell (by omega)).trans h.2.1, (h.2.2).trans (g.mono hz)⟩

theorem q2_alloc {W X : World} {A0 A1 : Addr} {v0 v1 : Value} (h0 : A0.block < W.heap.size) (h1 : A1.block < W.heap.size) (h : X.cell? A0 = some v0 ∧ X.cell? A1 = some v1 ∧ Below W.heap.size W X) (o : Obj) : (X.alloc o).cell? A0 = some v0 ∧ (X.alloc o).cell? A1 = some v1 ∧ Below W.heap.size W (X.alloc o) := q2_below h0 h1 h ((Below.refl _ _).alloc (Nat.le_refl _) o)

theorem q2_allocd {W X : World} {A0 A1 : Addr} {v0 v1 : Value} (h0 : A0.block < W.heap.size) (h1 : A1.block < W.heap.size) (h : X.drew.cell? A0 = some v0 ∧ X.drew.cell? A1 = some v1 ∧ Below W.heap.size W X.drew) (o : Obj) : (X.alloc o).drew.cell? A0 = some v0 ∧ (X.alloc o).drew.cell? A1 = some v1 ∧ Below W.heap.size W (X.alloc o).drew := q2_alloc h0 h1 h o

theorem q2_set {W X : World} {A0 A1 : Addr} {v0 v1 : Value} (h0 : A0.block < W.heap.size) (h1 : A1.block < W.heap.size) (h : X.cell? A0 = some v0 ∧ X.cell? A1 = some v1 ∧ Below W.heap.size W X) {p : Addr} (hp : W.heap.size ≤ p.block) (y : Value) : (X.setCell p y).cell? A0 = some v0 ∧ (X.setCell p y).cell? A1 = some v1 ∧ Below W.heap.size W (X.setCell p y) :=
  ⟨(World.cell?_setCell_other _ _ _ _ (fun e => by rw [e] at hp; omega)).trans h.1, (World.cell?_setCell_other _ _ _ _ (fun e => by rw [e] at hp; omega)).trans h.2.1, (h.2.2).setCell hp y⟩

theorem q4_bel {W X : World} {A0 A1 A2 A3 : Addr} {v0 v1 v2 v3 : Value} (h : X.cell? A0 = some v0 ∧ X.cell? A1 = some v1 ∧ X.cell? A2 = some v2 ∧ X.cell? A3 = some v3 ∧ Below W.heap.size W X) : Below W.heap.size W X := h.2.2.2.2

theorem q4_below {W X Y : World} {A0 A1 A2 A3 : Addr} {v0 v1 v2 v3 : Value} (h0 : A0.block < W.heap.size) (h1 : A1.block < W.heap.size) (h2 : A2.block < W.heap.size) (h3 : A3.block < W.heap.size) (h : X.cell? A0 = some v0 ∧ X.cell? A1 = some v1 ∧ X.cell? A2 = some v2 ∧ X.cell? A3 = some v3 ∧ Below W.heap.size W X) (g : Below X.heap.size X Y) : Y.cell? A0 = some v0 ∧ Y.cell? A1 = some v1 ∧ Y.cell? A2 = some v2 ∧ Y.cell? A3 = some v3 ∧ Below W.heap.size W Y := by
  have hz := (h.2.2.2.2).size
  exact ⟨(g.cell (by omega)).trans h.1, (g.cell (by omega)).trans h.2.1, (g.cell (by omega)).trans h.2.2.1, (g.cell (by omega)).trans h.2.2.2.1, (h.2.2.2.2).trans (g.mono hz)⟩

theorem q4_alloc {W X : World} {A0 A1 A2 A3 : Addr} {v0 v1 v2 v3 : Value} (h0 : A0.block < W.heap.size) (h1 : A1.block < W.heap.size) (h2 : A2.block < W.heap.size) (h3 : A3.block < W.heap.size) (h : X.cell? A0 = some v0 ∧ X.cell? A1 = some v1 ∧ X.cell? A2 = some v2 ∧ X.cell? A3 = some v3 ∧ Below W.heap.size W X) (o : Obj) : (X.alloc o).cell? A0 = some v0 ∧ (X.alloc o).cell? A1 = some v1 ∧ (X.alloc o).cell? A2 = some v2 ∧ (X.alloc o).cell? A3 = some v3 ∧ Below W.heap.size W (X.alloc o) := q4_below h0 h1 h2 h3 h ((Below.refl _ _).alloc (Nat.le_refl _) o)

theorem q4_allocd {W X : World} {A0 A1 A2 A3 : Addr} {v0 v1 v2 v3 : Value} (h0 : A0.block < W.heap.size) (h1 : A1.block < W.heap.size) (h2 : A2.block < W.heap.size) (h3 : A3.block < W.heap.size) (h : X.drew.cell? A0 = some v0 ∧ X.drew.cell? A1 = some v1 ∧ X.drew.cell? A2 = some v2 ∧ X.drew.cell? A3 = some v3 ∧ Below W.heap.size W X.drew) (o : Obj) : (X.alloc o).drew.cell? A0 = some v0 ∧ (X.alloc o).drew.cell? A1 = some v1 ∧ (X.alloc o).drew.cell? A2 = some v2 ∧ (X.alloc o).drew.cell? A3 = some v3 ∧ Below W.heap.size W (X.alloc o).drew := q4_alloc h0 h1 h2 h3 h o

theorem q4_set {W X : World} {A0 A1 A2 A3 : Addr} {v0 v1 v2 v3 : Value} (h0 : A0.block < W.heap.size) (h1 : A1.block < W.heap.size) (h2 : A2.block < W.heap.size) (h3 : A3.block < W.heap.size) (h : X.cell? A0 = some v0 ∧ X.cell? A1 = some v1 ∧ X.cell? A2 = some v2 ∧ X.cell? A3 = some v3 ∧ Below W.heap.size W X) {p : Addr} (hp : W.heap.size ≤ p.block) (y : Value) : (X.setCell p y).cell? A0 = some v0 ∧ (X.setCell p y).cell? A1 = some v1 ∧ (X.setCell p y).cell? A2 = some v2 ∧ (X.setCell p y).cell? A3 = some v3 ∧ Below W.heap.size W (X.setCell p y) :=
  ⟨(World.cell?_setCell_other _ _ _ _ (fun e => by rw [e] at hp; omega)).trans h.1, (World.cell?_setCell_other _ _ _ _ (fun e => by rw [e] at hp; omega)).trans h.2.1, (World.cell?_setCell_other _ _ _ _ (fun e => by rw [e] at hp; omega)).trans h.2.2.1, (World.cell?_setCell_other _ _ _ _ (fun e => by rw [e] at hp; omega)).trans h.2.2.2.1, (h.2.2.2.2).setCell hp y⟩

theorem lrF0 (c : Int) (a : Option Addr) (n m : Nat) (w : World) : (Instr.field 29 (.agg #[.int .i64 c, .slice a n m]) 0).run Tryd.prog w = .ok (.int .i64 c) w := by kernel_rfl

theorem trF0 (c : Int) (s : ByteArray) (w : World) : (Instr.field 32 (.agg #[.int .i64 c, .string s]) 0).run Tryd.prog w = .ok (.int .i64 c) w := by kernel_rfl

theorem trF1 (c : Int) (s : ByteArray) (w : World) : (Instr.field 32 (.agg #[.int .i64 c, .string s]) 1).run Tryd.prog w = .ok (.string s) w := by kernel_rfl

theorem Sg.belowM {w u : World} (h : Sg w) (hb : Below w.heap.size w u) : Sg u := h.below hb

set_option maxRecDepth 100000 in
theorem labels_big (a : Option Addr) (len cap : Nat) (w : World) (hl : len ≤ maxLen) (hbig : 1048576 < len) :
    Calls Tryd.prog 3 #[.slice a len cap] w fun e w' => e = .returned (.bool true) ∧ Below w.heap.size w w' := by
  go_enter Tryd.func3, Tryd.ntmps3
  go_wp2_with fail
  refine (lwBig_calls a len cap _ hl).mono ?_
  rintro e w1 ⟨rfl, hw⟩
  obtain rfl : w = w1 := hw.symm
  clear hw
  rw [decide_eq_true (by omega)]
  go_wp2
  go_ret
  exact ⟨rfl, Below.refl _ _⟩

set_option maxRecDepth 100000 in
set_option maxHeartbeats 4000000 in
theorem labels_small (a : Option Addr) (len cap : Nat) (w : World) (hc : Cd w a len) (hsg : Sg w) :
    Calls Tryd.prog 3 #[.slice a len cap] w fun e w' => e = .returned (.bool true) ∧ Below w.heap.size w w' := by
  have hlm0 : len ≤ maxLen := by have := hc.1; unfold maxLen; omega
  have M0 := Mm.start w
  have fd0 := lrF0
  have fd1 := trF0
  have fd2 := trF1
  go_enter Tryd.func3, Tryd.ntmps3
  go_wp2_with fail
  refine (lwBig_calls a len cap _ hlm0).mono ?_
  rintro e w0 ⟨rfl, hw⟩
  obtain rfl : w = w0 := hw.symm
  rw [decide_eq_false (by have := hc.1; omega)]
  clear hw
  go_wp2_with fail
  refine (drawParseLabel_calls a len cap _ hc).mono ?_
  rintro e w1 ⟨s, rfl, hs4, g1⟩
  have z1 := g1.size
  have hs6 : s.size ≤ 1048576 := by omega
  have hsg1 := hsg.below g1
  have M1 := M0.below g1
  clear M0 g1
  go_wp2_with fail
  refine (implParseLabel_calls s _ hs6 hsg1).mono ?_
  rintro e w2 ⟨ra, rn, rc, rfl, o2, g2⟩
  have z2 := g2.size
  have M2 := ((M1.below g2).fact OS.loc o2).alloc2 (.int .i64 (plC s)) (.slice ra rn rc) 29
  have al2 := (Below.refl w2.heap.size w2).alloc (Nat.le_refl _) (.cells #[.int .i64 (plC s), .slice ra rn rc] 29)
  have hsg2 := (hsg1.below g2).below al2
  have hrm : rn ≤ maxLen := by have := (M2.get 0 rfl).2.1; unfold maxLen; omega
  have u0 := M2.cell 0 rfl
  have u1 := M2.cell 1 rfl
  obtain ⟨W, hW⟩ : ∃ W : World, W = w2.alloc (.cells #[.int .i64 (plC s), .slice ra rn rc] 29) := ⟨_, rfl⟩
  have lt0 : (Addr.mk w2.heap.size 0 none).block < (w2.alloc (.cells #[.int .i64 (plC s), .slice ra rn rc] 29)).heap.size := M2.lt 0 rfl
  have lt1 : (Addr.mk w2.heap.size 1 none).block < (w2.alloc (.cells #[.int .i64 (plC s), .slice ra rn rc] 29)).heap.size := M2.lt 0 rfl
  have HU := hide (M2.get 0 rfl).sl
  have HG := hide hsg2
  rw [← hW] at M2 lt0 lt1 HU HG
  have HW := hide hW
  have HM2 := hide M2
  have HS2 : Hid (W.drew.cell? ⟨w2.heap.size, 0, none⟩ = some (.int .i64 (plC s)) ∧ W.drew.cell? ⟨w2.heap.size, 1, none⟩ = some (.slice ra rn rc) ∧ Below W.heap.size W W.drew) := ⟨M2.cell 0 rfl, M2.cell 1 rfl, (Below.refl _ _).drew⟩
  have e1 : (plC s != plC s) = false := by simp
  clear M1 M2 hW g2 o2 al2 hsg1 hsg2
  by_cases hp : plC s = 0
  · obtain ⟨p1, p2⟩ := pl_back hp
    have e2 : (plC s == 0) = true := by simp [hp]
    have hpr : plR s = plL s := by unfold plR; exact resOf_ok hp
    have HT : Hid (ltS (plR s) = s) := by rw [hpr]; exact p2
    clear hp p1 p2 hpr
    go_upto_region 5 with fail
    rw [← HW.out]
    clear u0 u1
    go_region_held2 (fun w' => w'.cell? ⟨w2.heap.size, 0, none⟩ = some (.int .i64 (plC s)) ∧ w'.cell? ⟨w2.heap.size, 1, none⟩ = some (.slice ra rn rc) ∧ Below W.heap.size W w')
      (first | with_reducible exact HS2.out | with_reducible assumption)
      (first
        | (go_at_call 9; refine (specParseLabel_calls s _ hs6).mono ?_; rintro e y1 ⟨_, _, _, rfl, _, ga⟩; have hs1 := q2_below lt0 lt1 (by with_reducible assumption) ga; clear ga)
        | (go_at_call 10; refine (implLabelText_calls ra rn rc (plR s) _ hrm ?_ ?_).mono ?_; exact HU.out.below (q2_bel (by with_reducible assumption)) (Nat.le_refl _); exact HG.out.below (q2_bel (by with_reducible assumption)); rintro e y1 ⟨rfl, ga⟩; rw [HT.out]; have hs1 := q2_below lt0 lt1 (by with_reducible assumption) ga; clear ga))
    have M4 := HM2.out.below (q2_bel hs1)
    obtain ⟨w4, rfl⟩ : ∃ x, x = y1 := ⟨y1, rfl⟩
    clear hs1 HS2 HM2 HU HG HT lt0 lt1 e1 e2
    have hc4 := hc.below M4.bel
    have hsg4 := hsg.belowM M4.bel
    clear hsg
    go_wp2_with fail
    refine (drawLabelText_calls a len cap _ hc4).mono ?_
    rintro e w5 ⟨la, ln, lc, xs, rfl, hfr, g5⟩
    have z5 := g5.size
    have hln : ln ≤ 4 := hfr.2.1
    have hlm : ln ≤ maxLen := by unfold maxLen; omega
    have M5 := (M4.below g5).alloc1 (.slice la ln lc) 27
    have al5 := (Below.refl w5.heap.size w5).alloc (Nat.le_refl _) (.cells #[.slice la ln lc] 27)
    have sl5 := hfr.sl.below al5 (Nat.le_refl _)
    have hsg5 := (hsg4.below g5).below al5
    clear M4 g5 hfr hc4 hsg4 al5
    go_wp2_with fail
    refine (implLabelText_calls la ln lc xs _ hlm sl5 hsg5).mono ?_
    rintro e w6 ⟨rfl, g6⟩
    have z6 := g6.size
    simp only [World.size_alloc] at z6
    have M6 := (M5.below g6).alloc2 (.int .i64 (fault xs)) (.string (ltS xs)) 32
    have al6 := (Below.refl w6.heap.size w6).alloc (Nat.le_refl _) (.cells #[.int .i64 (fault xs), .string (ltS xs)] 32)
    have sl6 := (sl5.below g6 (Nat.le_refl _)).below al6 (Nat.le_refl _)
    have hsg6 := (hsg5.below g6).below al6
    clear M5 g6 sl5 hsg5 al6
    by_cases hf : fault xs = 0
    · obtain ⟨p1, p2, p3⟩ := lt_back hf
      have ef : (fault xs != 0) = false := by simp [hf]
      have hpr : plR (ltS xs) = xs := by unfold plR; rw [resOf_ok p2]; exact p1
      have t0 := M6.cell 0 rfl
      have t1 := M6.cell 1 rfl
      have hts : (ltS xs).size ≤ 1048576 := by omega
      have HP3 := hide p3
      have HPR := hide hpr
      have HF := hide hf
      clear p1 p3 hpr hf
      go_wp2_with fail
      refine (implParseLabel_calls (ltS xs) _ hts hsg6).mono ?_
      rintro e w7 ⟨ba, bn, bc, rfl, o7, g7⟩
      rw [p2]
      rw [HPR.out] at o7
      have z7 := g7.size
      simp only [World.size_alloc] at z7 o7
      have M7 := ((M6.below g7).fact OS.loc o7).alloc2 (.int .i64 0) (.slice ba bn bc) 29
      have al7 := (Below.refl w7.heap.size w7).alloc (Nat.le_refl _) (.cells #[.int .i64 0, .slice ba bn bc] 29)
      have sl7 := (sl6.below g7 (Nat.le_refl _)).below al7 (Nat.le_refl _)
      have hbm : bn ≤ maxLen := by have := (M7.get 0 rfl).2.1; unfold maxLen; omega
      have HB7 := hide (M7.get 0 rfl).sl
      have HL7 := hide sl7
      clear M6 g7 o7 sl6 al7 sl7 t0 t1 hsg6
      obtain ⟨W, hW⟩ : ∃ W : World, W = w7.alloc (.cells #[.int .i64 0, .slice ba bn bc] 29) := ⟨_, rfl⟩
      have lt0 : (Addr.mk w7.heap.size 0 none).block < (w7.alloc (.cells #[.int .i64 0, .slice ba bn bc] 29)).heap.size := M7.lt 0 rfl
      have lt1 : (Addr.mk w7.heap.size 1 none).block < (w7.alloc (.cells #[.int .i64 0, .slice ba bn bc] 29)).heap.size := M7.lt 0 rfl
      have lt2 : (Addr.mk w6.heap.size 1 none).block < (w7.alloc (.cells #[.int .i64 0, .slice ba bn bc] 29)).heap.size := M7.lt 3 rfl
      have lt3 : (Addr.mk w5.heap.size 0 none).block < (w7.alloc (.cells #[.int .i64 0, .slice ba bn bc] 29)).heap.size := M7.lt 4 rfl
      rw [← hW] at M7 lt0 lt1 lt2 lt3 HB7 HL7
      have HW := hide hW
      have HM7 := hide M7
      have HS7 : Hid (W.drew.cell? ⟨w7.heap.size, 0, none⟩ = some (.int .i64 0) ∧ W.drew.cell? ⟨w7.heap.size, 1, none⟩ = some (.slice ba bn bc) ∧ W.drew.cell? ⟨w6.heap.size, 1, none⟩ = some (.string (ltS xs)) ∧ W.drew.cell? ⟨w5.heap.size, 0, none⟩ = some (.slice la ln lc) ∧ Below W.heap.size W W.drew) := ⟨M7.cell 0 rfl, M7.cell 1 rfl, M7.cell 3 rfl, M7.cell 4 rfl, (Below.refl _ _).drew⟩
      have el : (((ltS xs).size : Int) == 4) = true := by rw [HP3.out]; rfl
      have ed : decide (xs = xs) = true := by simp
      clear M7 hW p2
      go_upto_region 12 with fail
      rw [← HW.out]
      go_region_held2 (fun w' => w'.cell? ⟨w7.heap.size, 0, none⟩ = some (.int .i64 0) ∧ w'.cell? ⟨w7.heap.size, 1, none⟩ = some (.slice ba bn bc) ∧ w'.cell? ⟨w6.heap.size, 1, none⟩ = some (.string (ltS xs)) ∧ w'.cell? ⟨w5.heap.size, 0, none⟩ = some (.slice la ln lc) ∧ Below W.heap.size W w')
        (first | with_reducible exact HS7.out | with_reducible assumption)
        (first
          | (go_at_call 14; refine (lwNums_calls ba la bn bc ln lc xs xs _ hbm hlm ?_ ?_).mono ?_; exact HB7.out.below (q4_bel (by with_reducible assumption)) (Nat.le_refl _); exact HL7.out.below (q4_bel (by with_reducible assumption)) (Nat.le_refl _); rintro e y1 ⟨rfl, ga⟩; have hs1 := q4_below lt0 lt1 lt2 lt3 (by with_reducible assumption) ga; clear ga)
          | (go_at_call 12; refine (specLabelText_calls la ln lc xs _ hlm ?_).mono ?_; exact HL7.out.below (q4_bel (by with_reducible assumption)) (Nat.le_refl _); rintro e y1 ⟨rfl, ga⟩; have hs1 := q4_below lt0 lt1 lt2 lt3 (by with_reducible assumption) ga; clear ga))
      have HE := hide (HM7.out.below (q4_bel hs1)).bel
      clear hs1 HS7
      go_wp2
      go_ret
      exact ⟨rfl, HE.out⟩
    · have ef : (fault xs != 0) = true := by simp [hf]
      have eA : (fault xs == fault xs) = true := by simp
      have t0 := M6.cell 0 rfl
      obtain ⟨W, hW⟩ : ∃ W : World, W = w6.alloc (.cells #[.int .i64 (fault xs), .string (ltS xs)] 32) := ⟨_, rfl⟩
      have lt0 : (Addr.mk w6.heap.size 0 none).block < (w6.alloc (.cells #[.int .i64 (fault xs), .string (ltS xs)] 32)).heap.size := M6.lt 0 rfl
      have lt1 : (Addr.mk w5.heap.size 0 none).block < (w6.alloc (.cells #[.int .i64 (fault xs), .string (ltS xs)] 32)).heap.size := M6.lt 2 rfl
      have HL6 := hide sl6
      rw [← hW] at M6 lt0 lt1 HL6
      have HW := hide hW
      have HM6 := hide M6
      have HS6 : Hid (W.drew.cell? ⟨w6.heap.size, 0, none⟩ = some (.int .i64 (fault xs)) ∧ W.drew.cell? ⟨w5.heap.size, 0, none⟩ = some (.slice la ln lc) ∧ Below W.heap.size W W.drew) := ⟨M6.cell 0 rfl, M6.cell 2 rfl, (Below.refl _ _).drew⟩
      clear M6 hW hf sl6 hsg6
      go_upto_region 10 with fail
      rw [← HW.out]
      clear t0
      go_region_held2 (fun w' => w'.cell? ⟨w6.heap.size, 0, none⟩ = some (.int .i64 (fault xs)) ∧ w'.cell? ⟨w5.heap.size, 0, none⟩ = some (.slice la ln lc) ∧ Below W.heap.size W w')
        (first | with_reducible exact HS6.out | with_reducible assumption)
        (first
          | (go_at_call 12; refine (specLabelText_calls la ln lc xs _ hlm ?_).mono ?_; exact HL6.out.below (q2_bel (by with_reducible assumption)) (Nat.le_refl _); rintro e y1 ⟨rfl, ga⟩; have hs1 := q2_below lt0 lt1 (by with_reducible assumption) ga; clear ga)
          | (go_at_call 13; refine (implLabelFault_calls la ln lc xs _ hlm ?_).mono ?_; exact HL6.out.below (q2_bel (by with_reducible assumption)) (Nat.le_refl _); rintro e y1 ⟨rfl, ga⟩; have hs1 := q2_below lt0 lt1 (by with_reducible assumption) ga; clear ga))
      have HE := hide (HM6.out.below (q2_bel hs1)).bel
      clear hs1 HS6
      go_wp2
      go_ret
      exact ⟨rfl, HE.out⟩
  · have e2 : (plC s == 0) = false := by simpa using hp
    clear hp
    go_upto_region 5 with fail
    rw [← HW.out]
    clear u0 u1
    refine wp_region_held_drew (S := (fun w' => w'.cell? ⟨w2.heap.size, 0, none⟩ = some (.int .i64 (plC s)) ∧ w'.cell? ⟨w2.heap.size, 1, none⟩ = some (.slice ra rn rc) ∧ Below W.heap.size W w')) (by kernel_rfl) HS2.out (fun hHeld => ?_)
    refine wpAnyH_take (i := 0) (oi := { dst := some 14, op := Go.Op.fieldAddr 29 (Go.Operand.tmp 4) 0, type := 0, pos := "laws.go:103", after := #[], guard := none }) (v := ?_) rfl (by kernel_rfl) (by kernel_rfl) (by kernel_rfl) (fun _ _ _ h => h) (Or.inl ⟨by rfl, ?_⟩) (by assumption) ?_
    rotate_left
    · (intro w hSw; (try dsimp only at hSw); go_simp; (try with_reducible rfl))
    (try simp only [Act.put, List.setIfInBounds_toArray, List.set_cons_zero, List.set_cons_succ])
    refine wpAnyH_take (i := 1) (oi := { dst := some 15, op := Go.Op.load 2 (Go.Operand.tmp 14), type := 2, pos := "laws.go:103", after := #[{ on := 0, ground := Go.Ground.data }], guard := none }) (v := ?_) rfl (by kernel_rfl) (by kernel_rfl) (by kernel_rfl) (fun _ _ _ h => h) (Or.inl ⟨by rfl, ?_⟩) (by assumption) ?_
    rotate_left
    · (intro w hSw; (try dsimp only at hSw); go_simp; (try with_reducible rfl))
    (try simp only [Act.put, List.setIfInBounds_toArray, List.set_cons_zero, List.set_cons_succ])
    refine wpAnyH_take (i := 2) (oi := { dst := some 16, op := Go.Op.move (Go.Operand.tmp 3), type := 9, pos := "laws.go:103", after := #[], guard := none }) (v := ?_) rfl (by kernel_rfl) (by kernel_rfl) (by kernel_rfl) (fun _ _ _ h => h) (Or.inl ⟨by rfl, ?_⟩) (by assumption) ?_
    rotate_left
    · (intro w hSw; (try dsimp only at hSw); go_simp; (try with_reducible rfl))
    (try simp only [Act.put, List.setIfInBounds_toArray, List.set_cons_zero, List.set_cons_succ])
    refine wpAnyH_ready (rs := [3]) (by kernel_rfl) (by simp) ?_
    refine AllReadyH.cons (o := { dst := some 17, op := Go.Op.call { callee := Go.Callee.value (Go.Operand.func 9), args := #[Go.Operand.tmp 16], argTypes := #[9] }, type := 29, pos := "laws.go:103", after := #[{ on := 2, ground := Go.Ground.data }], guard := none }) rfl (fun K hK => ?_) AllReadyH.nil
    go_simp
    go_wp2_with (go_at_call 9; refine (specParseLabel_calls s _ hs6).mono ?_; rintro e y1 ⟨_, _, _, rfl, _, ga⟩; have hs1 := q2_below lt0 lt1 (by with_reducible assumption) ga; clear ga)
    refine hK.out _ _ hs1 (fun hHeld => ?_)
    clear hK K
    (try simp only [Act.put, List.setIfInBounds_toArray, List.set_cons_zero, List.set_cons_succ])
    refine wpAnyH_take (i := 4) (oi := { dst := some 18, op := Go.Op.field 29 (Go.Operand.tmp 17) 0, type := 2, pos := "laws.go:103", after := #[{ on := 3, ground := Go.Ground.data }], guard := none }) (v := ?_) rfl (by kernel_rfl) (by kernel_rfl) (by kernel_rfl) (fun _ _ _ h => h) (Or.inl ⟨by rfl, ?_⟩) (by assumption) ?_
    rotate_left
    · (intro w hSw; (try dsimp only at hSw); go_simp; (try with_reducible rfl))
    (try simp only [Act.put, List.setIfInBounds_toArray, List.set_cons_zero, List.set_cons_succ])
    refine wpAnyH_take (i := 5) (oi := { dst := some 19, op := Go.Op.binOp Go.BinOp.neq 2 (Go.Operand.tmp 15) (Go.Operand.tmp 18) 2, type := 4, pos := "laws.go:103", after := #[{ on := 1, ground := Go.Ground.data }, { on := 4, ground := Go.Ground.data }], guard := none }) (v := ?_) rfl (by kernel_rfl) (by kernel_rfl) (by kernel_rfl) (fun _ _ _ h => h) (Or.inl ⟨by rfl, ?_⟩) (by assumption) ?_
    rotate_left
    · (intro w hSw; (try dsimp only at hSw); go_simp; (try with_reducible rfl))
    (try simp only [Act.put, List.setIfInBounds_toArray, List.set_cons_zero, List.set_cons_succ])
    refine wpAnyH_take (i := 6) (oi := { dst := some 20, op := Go.Op.move (Go.Operand.tmp 19), type := 4, pos := "laws.go:103", after := #[{ on := 5, ground := Go.Ground.data }, { on := 3, ground := Go.Ground.chain }], guard := none }) (v := ?_) rfl (by kernel_rfl) (by kernel_rfl) (by kernel_rfl) (fun _ _ _ h => h) (Or.inl ⟨by rfl, ?_⟩) (by assumption) ?_
    rotate_left
    · (intro w hSw; (try dsimp only at hSw); go_simp; (try with_reducible rfl))
    (try simp only [Act.put, List.setIfInBounds_toArray, List.set_cons_zero, List.set_cons_succ])
    refine wpAnyH_take (i := 7) (oi := { dst := some 21, op := Go.Op.fieldAddr 29 (Go.Operand.tmp 4) 0, type := 0, pos := "laws.go:103", after := #[{ on := 6, ground := Go.Ground.guard }], guard := some (6, false) }) (v := ?_) rfl (by kernel_rfl) (by kernel_rfl) (by kernel_rfl) (fun _ _ _ h => h) (Or.inl ⟨by rfl, ?_⟩) (by assumption) ?_
    rotate_left
    · (intro w hSw; (try dsimp only at hSw); go_simp; (try with_reducible rfl))
    (try simp only [Act.put, List.setIfInBounds_toArray, List.set_cons_zero, List.set_cons_succ])
    refine wpAnyH_take (i := 8) (oi := { dst := some 22, op := Go.Op.load 2 (Go.Operand.tmp 21), type := 2, pos := "laws.go:103", after := #[{ on := 7, ground := Go.Ground.data }, { on := 6, ground := Go.Ground.guard }], guard := some (6, false) }) (v := ?_) rfl (by kernel_rfl) (by kernel_rfl) (by kernel_rfl) (fun _ _ _ h => h) (Or.inl ⟨by rfl, ?_⟩) (by assumption) ?_
    rotate_left
    · (intro w hSw; (try dsimp only at hSw); go_simp; (try with_reducible rfl))
    (try simp only [Act.put, List.setIfInBounds_toArray, List.set_cons_zero, List.set_cons_succ])
    refine wpAnyH_take (i := 9) (oi := { dst := some 23, op := Go.Op.binOp Go.BinOp.eql 2 (Go.Operand.tmp 22) (Go.Operand.const (Go.Value.int Go.IntKind.i64 0)) 2, type := 4, pos := "laws.go:103", after := #[{ on := 8, ground := Go.Ground.data }, { on := 6, ground := Go.Ground.guard }], guard := some (6, false) }) (v := ?_) rfl (by kernel_rfl) (by kernel_rfl) (by kernel_rfl) (fun _ _ _ h => h) (Or.inl ⟨by rfl, ?_⟩) (by assumption) ?_
    rotate_left
    · (intro w hSw; (try dsimp only at hSw); go_simp; (try with_reducible rfl))
    (try simp only [Act.put, List.setIfInBounds_toArray, List.set_cons_zero, List.set_cons_succ])
    refine wpAnyH_take (i := 10) (oi := { dst := some 24, op := Go.Op.move (Go.Operand.tmp 23), type := 4, pos := "laws.go:103", after := #[{ on := 9, ground := Go.Ground.data }, { on := 6, ground := Go.Ground.chain }, { on := 6, ground := Go.Ground.guard }], guard := some (6, false) }) (v := ?_) rfl (by kernel_rfl) (by kernel_rfl) (by kernel_rfl) (fun _ _ _ h => h) (Or.inl ⟨by rfl, ?_⟩) (by assumption) ?_
    rotate_left
    · (intro w hSw; (try dsimp only at hSw); go_simp; (try with_reducible rfl))
    (try simp only [Act.put, List.setIfInBounds_toArray, List.set_cons_zero, List.set_cons_succ])
    refine wpAnyH_take (i := 11) (oi := { dst := some 25, op := Go.Op.fieldAddr 29 (Go.Operand.tmp 4) 1, type := 0, pos := "laws.go:103", after := #[{ on := 10, ground := Go.Ground.guard }], guard := some (10, true) }) (v := undef) rfl (by kernel_rfl) (by kernel_rfl) (by kernel_rfl) (fun _ _ _ h => h) (Or.inr ⟨by rfl, rfl⟩) (by assumption) ?_
    (try simp only [Act.put, List.setIfInBounds_toArray, List.set_cons_zero, List.set_cons_succ])
    refine wpAnyH_take (i := 12) (oi := { dst := some 26, op := Go.Op.load 27 (Go.Operand.tmp 25), type := 27, pos := "laws.go:103", after := #[{ on := 11, ground := Go.Ground.data }, { on := 10, ground := Go.Ground.guard }], guard := some (10, true) }) (v := undef) rfl (by kernel_rfl) (by kernel_rfl) (by kernel_rfl) (fun _ _ _ h => h) (Or.inr ⟨by rfl, rfl⟩) (by assumption) ?_
    (try simp only [Act.put, List.setIfInBounds_toArray, List.set_cons_zero, List.set_cons_succ])
    refine wpAnyH_take (i := 13) (oi := { dst := some 27, op := Go.Op.call { callee := Go.Callee.value (Go.Operand.func 10), args := #[Go.Operand.tmp 26], argTypes := #[27] }, type := 32, pos := "laws.go:103", after := #[{ on := 12, ground := Go.Ground.data }, { on := 10, ground := Go.Ground.chain }, { on := 10, ground := Go.Ground.guard }], guard := some (10, true) }) (v := undef) rfl (by kernel_rfl) (by kernel_rfl) (by kernel_rfl) (fun _ _ _ h => h) (Or.inr ⟨by rfl, rfl⟩) (by assumption) ?_
    (try simp only [Act.put, List.setIfInBounds_toArray, List.set_cons_zero, List.set_cons_succ])
    refine wpAnyH_take (i := 14) (oi := { dst := some 28, op := Go.Op.field 32 (Go.Operand.tmp 27) 1, type := 9, pos := "laws.go:103", after := #[{ on := 13, ground := Go.Ground.data }, { on := 10, ground := Go.Ground.guard }], guard := some (10, true) }) (v := undef) rfl (by kernel_rfl) (by kernel_rfl) (by kernel_rfl) (fun _ _ _ h => h) (Or.inr ⟨by rfl, rfl⟩) (by assumption) ?_
    (try simp only [Act.put, List.setIfInBounds_toArray, List.set_cons_zero, List.set_cons_succ])
    refine wpAnyH_take (i := 15) (oi := { dst := some 29, op := Go.Op.move (Go.Operand.tmp 3), type := 9, pos := "laws.go:103", after := #[{ on := 10, ground := Go.Ground.guard }], guard := some (10, true) }) (v := undef) rfl (by kernel_rfl) (by kernel_rfl) (by kernel_rfl) (fun _ _ _ h => h) (Or.inr ⟨by rfl, rfl⟩) (by assumption) ?_
    (try simp only [Act.put, List.setIfInBounds_toArray, List.set_cons_zero, List.set_cons_succ])
    refine wpAnyH_take (i := 16) (oi := { dst := some 30, op := Go.Op.binOp Go.BinOp.neq 9 (Go.Operand.tmp 28) (Go.Operand.tmp 29) 9, type := 4, pos := "laws.go:103", after := #[{ on := 14, ground := Go.Ground.data }, { on := 15, ground := Go.Ground.data }, { on := 10, ground := Go.Ground.guard }], guard := some (10, true) }) (v := undef) rfl (by kernel_rfl) (by kernel_rfl) (by kernel_rfl) (fun _ _ _ h => h) (Or.inr ⟨by rfl, rfl⟩) (by assumption) ?_
    (try simp only [Act.put, List.setIfInBounds_toArray, List.set_cons_zero, List.set_cons_succ])
    refine wpAnyH_take (i := 17) (oi := { dst := some 31, op := Go.Op.pick (Go.Operand.tmp 24) (Go.Operand.tmp 30) (Go.Operand.const (Go.Value.bool false)), type := 4, pos := "laws.go:103", after := #[{ on := 10, ground := Go.Ground.data }, { on := 16, ground := Go.Ground.data }, { on := 6, ground := Go.Ground.guard }], guard := some (6, false) }) (v := ?_) rfl (by kernel_rfl) (by kernel_rfl) (by kernel_rfl) (fun _ _ _ h => h) (Or.inl ⟨by rfl, ?_⟩) (by assumption) ?_
    rotate_left
    · (intro w hSw; (try dsimp only at hSw); go_simp; (try with_reducible rfl))
    (try simp only [Act.put, List.setIfInBounds_toArray, List.set_cons_zero, List.set_cons_succ])
    refine wpAnyH_take (i := 18) (oi := { dst := some 32, op := Go.Op.pick (Go.Operand.tmp 20) (Go.Operand.const (Go.Value.bool true)) (Go.Operand.tmp 31), type := 4, pos := "laws.go:103", after := #[{ on := 6, ground := Go.Ground.data }, { on := 17, ground := Go.Ground.data }], guard := none }) (v := ?_) rfl (by kernel_rfl) (by kernel_rfl) (by kernel_rfl) (fun _ _ _ h => h) (Or.inl ⟨by rfl, ?_⟩) (by assumption) ?_
    rotate_left
    · (intro w hSw; (try dsimp only at hSw); go_simp; (try with_reducible rfl))
    (try simp only [Act.put, List.setIfInBounds_toArray, List.set_cons_zero, List.set_cons_succ])
    refine wpAnyH_done (by kernel_rfl) ?_ _
    have M4 := HM2.out.below (q2_bel hs1)
    obtain ⟨w4, rfl⟩ : ∃ x, x = y1 := ⟨y1, rfl⟩
    clear hs1 hHeld HS2 HM2 HU HG lt0 lt1 e1 e2
    have hc4 := hc.below M4.bel
    have hsg4 := hsg.belowM M4.bel
    clear hsg
    go_wp2_with fail
    refine (drawLabelText_calls a len cap _ hc4).mono ?_
    rintro e w5 ⟨la, ln, lc, xs, rfl, hfr, g5⟩
    have z5 := g5.size
    have hln : ln ≤ 4 := hfr.2.1
    have hlm : ln ≤ maxLen := by unfold maxLen; omega
    have M5 := (M4.below g5).alloc1 (.slice la ln lc) 27
    have al5 := (Below.refl w5.heap.size w5).alloc (Nat.le_refl _) (.cells #[.slice la ln lc] 27)
    have sl5 := hfr.sl.below al5 (Nat.le_refl _)
    have hsg5 := (hsg4.below g5).below al5
    clear M4 g5 hfr hc4 hsg4 al5
    go_wp2_with fail
    refine (implLabelText_calls la ln lc xs _ hlm sl5 hsg5).mono ?_
    rintro e w6 ⟨rfl, g6⟩
    have z6 := g6.size
    simp only [World.size_alloc] at z6
    have M6 := (M5.below g6).alloc2 (.int .i64 (fault xs)) (.string (ltS xs)) 32
    have al6 := (Below.refl w6.heap.size w6).alloc (Nat.le_refl _) (.cells #[.int .i64 (fault xs), .string (ltS xs)] 32)
    have sl6 := (sl5.below g6 (Nat.le_refl _)).below al6 (Nat.le_refl _)
    have hsg6 := (hsg5.below g6).below al6
    clear M5 g6 sl5 hsg5 al6
    by_cases hf : fault xs = 0
    · obtain ⟨p1, p2, p3⟩ := lt_back hf
      have ef : (fault xs != 0) = false := by simp [hf]
      have hpr : plR (ltS xs) = xs := by unfold plR; rw [resOf_ok p2]; exact p1
      have t0 := M6.cell 0 rfl
      have t1 := M6.cell 1 rfl
      have hts : (ltS xs).size ≤ 1048576 := by omega
      have HP3 := hide p3
      have HPR := hide hpr
      have HF := hide hf
      clear p1 p3 hpr hf
      go_wp2_with fail
      refine (implParseLabel_calls (ltS xs) _ hts hsg6).mono ?_
      rintro e w7 ⟨ba, bn, bc, rfl, o7, g7⟩
      rw [p2]
      rw [HPR.out] at o7
      have z7 := g7.size
      simp only [World.size_alloc] at z7 o7
      have M7 := ((M6.below g7).fact OS.loc o7).alloc2 (.int .i64 0) (.slice ba bn bc) 29
      have al7 := (Below.refl w7.heap.size w7).alloc (Nat.le_refl _) (.cells #[.int .i64 0, .slice ba bn bc] 29)
      have sl7 := (sl6.below g7 (Nat.le_refl _)).below al7 (Nat.le_refl _)
      have hbm : bn ≤ maxLen := by have := (M7.get 0 rfl).2.1; unfold maxLen; omega
      have HB7 := hide (M7.get 0 rfl).sl
      have HL7 := hide sl7
      clear M6 g7 o7 sl6 al7 sl7 t0 t1 hsg6
      obtain ⟨W, hW⟩ : ∃ W : World, W = w7.alloc (.cells #[.int .i64 0, .slice ba bn bc] 29) := ⟨_, rfl⟩
      have lt0 : (Addr.mk w7.heap.size 0 none).block < (w7.alloc (.cells #[.int .i64 0, .slice ba bn bc] 29)).heap.size := M7.lt 0 rfl
      have lt1 : (Addr.mk w7.heap.size 1 none).block < (w7.alloc (.cells #[.int .i64 0, .slice ba bn bc] 29)).heap.size := M7.lt 0 rfl
      have lt2 : (Addr.mk w6.heap.size 1 none).block < (w7.alloc (.cells #[.int .i64 0, .slice ba bn bc] 29)).heap.size := M7.lt 3 rfl
      have lt3 : (Addr.mk w5.heap.size 0 none).block < (w7.alloc (.cells #[.int .i64 0, .slice ba bn bc] 29)).heap.size := M7.lt 4 rfl
      rw [← hW] at M7 lt0 lt1 lt2 lt3 HB7 HL7
      have HW := hide hW
      have HM7 := hide M7
      have HS7 : Hid (W.drew.cell? ⟨w7.heap.size, 0, none⟩ = some (.int .i64 0) ∧ W.drew.cell? ⟨w7.heap.size, 1, none⟩ = some (.slice ba bn bc) ∧ W.drew.cell? ⟨w6.heap.size, 1, none⟩ = some (.string (ltS xs)) ∧ W.drew.cell? ⟨w5.heap.size, 0, none⟩ = some (.slice la ln lc) ∧ Below W.heap.size W W.drew) := ⟨M7.cell 0 rfl, M7.cell 1 rfl, M7.cell 3 rfl, M7.cell 4 rfl, (Below.refl _ _).drew⟩
      have el : (((ltS xs).size : Int) == 4) = true := by rw [HP3.out]; rfl
      have ed : decide (xs = xs) = true := by simp
      clear M7 hW p2
      go_upto_region 12 with fail
      rw [← HW.out]
      go_region_held2 (fun w' => w'.cell? ⟨w7.heap.size, 0, none⟩ = some (.int .i64 0) ∧ w'.cell? ⟨w7.heap.size, 1, none⟩ = some (.slice ba bn bc) ∧ w'.cell? ⟨w6.heap.size, 1, none⟩ = some (.string (ltS xs)) ∧ w'.cell? ⟨w5.heap.size, 0, none⟩ = some (.slice la ln lc) ∧ Below W.heap.size W w')
        (first | with_reducible exact HS7.out | with_reducible assumption)
        (first
          | (go_at_call 14; refine (lwNums_calls ba la bn bc ln lc xs xs _ hbm hlm ?_ ?_).mono ?_; exact HB7.out.below (q4_bel (by with_reducible assumption)) (Nat.le_refl _); exact HL7.out.below (q4_bel (by with_reducible assumption)) (Nat.le_refl _); rintro e y1 ⟨rfl, ga⟩; have hs1 := q4_below lt0 lt1 lt2 lt3 (by with_reducible assumption) ga; clear ga)
          | (go_at_call 12; refine (specLabelText_calls la ln lc xs _ hlm ?_).mono ?_; exact HL7.out.below (q4_bel (by with_reducible assumption)) (Nat.le_refl _); rintro e y1 ⟨rfl, ga⟩; have hs1 := q4_below lt0 lt1 lt2 lt3 (by with_reducible assumption) ga; clear ga))
      have HE := hide (HM7.out.below (q4_bel hs1)).bel
      clear hs1 HS7
      go_wp2
      go_ret
      exact ⟨rfl, HE.out⟩
    · have ef : (fault xs != 0) = true := by simp [hf]
      have eA : (fault xs == fault xs) = true := by simp
      have t0 := M6.cell 0 rfl
      obtain ⟨W, hW⟩ : ∃ W : World, W = w6.alloc (.cells #[.int .i64 (fault xs), .string (ltS xs)] 32) := ⟨_, rfl⟩
      have lt0 : (Addr.mk w6.heap.size 0 none).block < (w6.alloc (.cells #[.int .i64 (fault xs), .string (ltS xs)] 32)).heap.size := M6.lt 0 rfl
      have lt1 : (Addr.mk w5.heap.size 0 none).block < (w6.alloc (.cells #[.int .i64 (fault xs), .string (ltS xs)] 32)).heap.size := M6.lt 2 rfl
      have HL6 := hide sl6
      rw [← hW] at M6 lt0 lt1 HL6
      have HW := hide hW
      have HM6 := hide M6
      have HS6 : Hid (W.drew.cell? ⟨w6.heap.size, 0, none⟩ = some (.int .i64 (fault xs)) ∧ W.drew.cell? ⟨w5.heap.size, 0, none⟩ = some (.slice la ln lc) ∧ Below W.heap.size W W.drew) := ⟨M6.cell 0 rfl, M6.cell 2 rfl, (Below.refl _ _).drew⟩
      clear M6 hW hf sl6 hsg6
      go_upto_region 10 with fail
      rw [← HW.out]
      clear t0
      go_region_held2 (fun w' => w'.cell? ⟨w6.heap.size, 0, none⟩ = some (.int .i64 (fault xs)) ∧ w'.cell? ⟨w5.heap.size, 0, none⟩ = some (.slice la ln lc) ∧ Below W.heap.size W w')
        (first | with_reducible exact HS6.out | with_reducible assumption)
        (first
          | (go_at_call 12; refine (specLabelText_calls la ln lc xs _ hlm ?_).mono ?_; exact HL6.out.below (q2_bel (by with_reducible assumption)) (Nat.le_refl _); rintro e y1 ⟨rfl, ga⟩; have hs1 := q2_below lt0 lt1 (by with_reducible assumption) ga; clear ga)
          | (go_at_call 13; refine (implLabelFault_calls la ln lc xs _ hlm ?_).mono ?_; exact HL6.out.below (q2_bel (by with_reducible assumption)) (Nat.le_refl _); rintro e y1 ⟨rfl, ga⟩; have hs1 := q2_below lt0 lt1 (by with_reducible assumption) ga; clear ga))
      have HE := hide (HM6.out.below (q2_bel hs1)).bel
      clear hs1 HS6
      go_wp2
      go_ret
      exact ⟨rfl, HE.out⟩

end Go.Proofs.YtknnahchhbobbaaDoor
