import Derived.Test.YtpgpoeljbppggaaDoorPinE
import Derived.Test.YtpgpoeljbppggaaDoorItxS1
import Derived.WalkKit
import Derived.ProofKit
import Derived.OpenShut
import Derived.ShutString
import Derived.ChangeOld
import Derived.Below
import Derived.WalkSpells
import Derived.Deep.QuietTactic
import Derived.BigQuiet
import Derived.Deep.RegionWith
import Derived.Deep.WholeRow
import Derived.Deep.DeepCutAuto
import Derived.Deep.RegionHeld2
import Derived.Deep.AppendLies
import Derived.Deep.RegionLaw
namespace Go.Proofs.YtpgpoeljbppggaaDoor
open Go.ChangeShapes Go.WideShapes Go.ChangeAt Go.RowKit

theorem q1_bel {W X : World} {A0 : Addr} {v0 : Value} (h : X.cell? A0 = some v0 ∧ Below W.heap.size W X) : Below W.heap.size W X := h.2

theorem q1_below {W X Y : World} {A0 : Addr} {v0 : Value} (h0 : A0.block < W.heap.size) (h : X.cell? A0 = some v0 ∧ Below W.heap.size W X) (g : Below X.heap.size X Y) : Y.cell? A0 = some v0 ∧ Below W.heap.size W Y := by
  have hz := (h.2).size
  exact ⟨(g.cell (by omega)).trans h.1, (h.2).trans (g.mono hz)⟩

theorem q1_alloc {W X : World} {A0 : Addr} {v0 : Value} (h0 : A0.block < W.heap.size) (h : X.cell? A0 = some v0 ∧ Below W.heap.size W X) (o : Obj) : (X.alloc o).cell? A0 = some v0 ∧ Below W.heap.size W (X.alloc o) := q1_below h0 h ((Below.refl _ _).alloc (Nat.le_refl _) o)

theorem q1_allocd {W X : World} {A0 : Addr} {v0 : Value} (h0 : A0.block < W.heap.size) (h : X.drew.cell? A0 = some v0 ∧ Below W.heap.size W X.drew) (o : Obj) : (X.alloc o).drew.cell? A0 = some v0 ∧ Below W.heap.size W (X.alloc o).drew := q1_alloc h0 h o

theorem q1_set {W X : World} {A0 : Addr} {v0 : Value} (h0 : A0.block < W.heap.size) (h : X.cell? A0 = some v0 ∧ Below W.heap.size W X) {p : Addr} (hp : W.heap.size ≤ p.block) (y : Value) : (X.setCell p y).cell? A0 = some v0 ∧ Below W.heap.size W (X.setCell p y) :=
  ⟨(World.cell?_setCell_other _ _ _ _ (fun e => by rw [e] at hp; omega)).trans h.1, (h.2).setCell hp y⟩

theorem q3_bel {W X : World} {A0 A1 A2 : Addr} {v0 v1 v2 : Value} (h : X.cell? A0 = some v0 ∧ X.cell? A1 = some v1 ∧ X.cell? A2 = some v2 ∧ Below W.heap.size W X) : Below W.heap.size W X := h.2.2.2

theorem q3_below {W X Y : World} {A0 A1 A2 : Addr} {v0 v1 v2 : Value} (h0 : A0.block < W.heap.size) (h1 : A1.block < W.heap.size) (h2 : A2.block < W.heap.size) (h : X.cell? A0 = some v0 ∧ X.cell? A1 = some v1 ∧ X.cell? A2 = some v2 ∧ Below W.heap.size W X) (g : Below X.heap.size X Y) : Y.cell? A0 = some v0 ∧ Y.cell? A1 = some v1 ∧ Y.cell? A2 = some v2 ∧ Below W.heap.size W Y := by
  have hz := (h.2.2.2).size
  exact ⟨(g.cell (by omega)).trans h.1, (g.cell (by omega)).trans h.2.1, (g.cell (by omega)).trans h.2.2.1, (h.2.2.2).trans (g.mono hz)⟩

theorem q3_alloc {W X : World} {A0 A1 A2 : Addr} {v0 v1 v2 : Value} (h0 : A0.block < W.heap.size) (h1 : A1.block < W.heap.size) (h2 : A2.block < W.heap.size) (h : X.cell? A0 = some v0 ∧ X.cell? A1 = some v1 ∧ X.cell? A2 = some v2 ∧ Below W.heap.size W X) (o : Obj) : (X.alloc o).cell? A0 = some v0 ∧ (X.alloc o).cell? A1 = some v1 ∧ (X.alloc o).cell? A2 = some v2 ∧ Below W.heap.size W (X.alloc o) := q3_below h0 h1 h2 h ((Below.refl _ _).alloc (Nat.le_refl _) o)

theorem q3_allocd {W X : World} {A0 A1 A2 : Addr} {v0 v1 v2 : Value} (h0 : A0.block < W.heap.size) (h1 : A1.block < W.heap.size) (h2 : A2.block < W.heap.size) (h : X.drew.cell? A0 = some v0 ∧ X.drew.cell? A1 = some v1 ∧ X.drew.cell? A2 = some v2 ∧ Below W.heap.size W X.drew) (o : Obj) : (X.alloc o).drew.cell? A0 = some v0 ∧ (X.alloc o).drew.cell? A1 = some v1 ∧ (X.alloc o).drew.cell? A2 = some v2 ∧ Below W.heap.size W (X.alloc o).drew := q3_alloc h0 h1 h2 h o

theorem q3_set {W X : World} {A0 A1 A2 : Addr} {v0 v1 v2 : Value} (h0 : A0.block < W.heap.size) (h1 : A1.block < W.heap.size) (h2 : A2.block < W.heap.size) (h : X.cell? A0 = some v0 ∧ X.cell? A1 = some v1 ∧ X.cell? A2 = some v2 ∧ Below W.heap.size W X) {p : Addr} (hp : W.heap.size ≤ p.block) (y : Value) : (X.setCell p y).cell? A0 = some v0 ∧ (X.setCell p y).cell? A1 = some v1 ∧ (X.setCell p y).cell? A2 = some v2 ∧ Below W.heap.size W (X.setCell p y) :=
  ⟨(World.cell?_setCell_other _ _ _ _ (fun e => by rw [e] at hp; omega)).trans h.1, (World.cell?_setCell_other _ _ _ _ (fun e => by rw [e] at hp; omega)).trans h.2.1, (World.cell?_setCell_other _ _ _ _ (fun e => by rw [e] at hp; omega)).trans h.2.2.1, (h.2.2.2).setCell hp y⟩

/-- the last of the first k words that a text is; -1: none. -/
def opL (p : ByteArray) : Nat → Int
  | 0 => -1
  | k + 1 => if kw (k : Int) = p then (k : Int) else opL p k

theorem opL_y {p : ByteArray} {k : Nat} (h : kw (k : Int) = p) : opL p (k + 1) = k := if_pos h
theorem opL_n {p : ByteArray} {k : Nat} (h : ¬ kw (k : Int) = p) : opL p (k + 1) = opL p k := if_neg h

noncomputable def psV : List ByteArray → Value
  | [p0, p1, p2, p3] => .tuple #[.agg #[.int .i64 (opL p0 16), .int .i64 (numV p1), .int .i64 (numV p2), .int .i64 (numV p3)], .bool (ifC (opL p0 16) (numV p1) (numV p2) (numV p3) == 0)]
  | _ => noI

theorem psV_no {ps : List ByteArray} (h : ps.length ≠ 4) : psV ps = noI := by
  match ps, h with
  | [], _ => rfl
  | [_], _ => rfl
  | [_, _], _ => rfl
  | [_, _, _], _ => rfl
  | _ :: _ :: _ :: _ :: _ :: _, _ => rfl
  | [_, _, _, _], h => exact absurd rfl h

theorem str_eq {a b : ByteArray} (h : a = b) : (a.toList == b.toList) = true := by subst h; simp

set_option maxRecDepth 100000 in
set_option maxHeartbeats 4000000 in
theorem l5Parse_calls (a : Option Addr) (n c : Nat) (ps : List ByteArray) (w : World) (hs : Sts w a n ps) :
    Calls Tryd.prog 32 #[.slice a n c] w fun e w' => e = .returned (psV ps) ∧ Below w.heap.size w w' := by
  have M0 := (Mm.start w).allocC [.int .i64 0, .int .i64 0, .int .i64 0, .int .i64 0] 26
  obtain ⟨hlen, hs⟩ := hs
  by_cases h4 : n = 4
  rotate_left
  · have e1 : ((n : Int) != 4) = true := by simp; omega
    have HV := hide (psV_no (ps := ps) (by omega))
    have r0 := (M0.get 0 rfl).cell 0 rfl
    have r1 := (M0.get 0 rfl).cell 1 rfl
    have r2 := (M0.get 0 rfl).cell 2 rfl
    have r3 := (M0.get 0 rfl).cell 3 rfl
    have HB := hide M0.bel
    clear h4 M0
    go_enter Tryd.func32, Tryd.ntmps32
    go_wp2
    refine bodyPost_ret (v := noI) (by simp [results, Tryd.results32, go_sem, noI]) rfl ⟨by rw [HV.out], ?_⟩
    first | exact HB.out | exact (((HB.out.setCell (by simp) _).setCell (by simp) _).setCell (by simp) _).setCell (by simp) _
  subst h4
  obtain ⟨b, rfl, hb, hc⟩ := hs (by omega)
  match ps, hlen with
  | [p0, p1, p2, p3], _ =>
  have d0 := hc 0 (by omega)
  have d1 := hc 1 (by omega)
  have d2 := hc 2 (by omega)
  have d3 := hc 3 (by omega)
  simp only [List.getD_cons_zero, List.getD_cons_succ] at d0 d1 d2 d3
  obtain ⟨W, hW⟩ : ∃ W, W = w.alloc (.cells #[.int .i64 0, .int .i64 0, .int .i64 0, .int .i64 0] 26) := ⟨_, rfl⟩
  rw [← hW] at M0
  have HW := hide hW
  have zW : W.heap.size = w.heap.size + 1 := by rw [hW]; simp
  have lt0 : (Addr.mk b 1 none).block < W.heap.size := by show b < _; omega
  have lt1 : (Addr.mk b 2 none).block < W.heap.size := by show b < _; omega
  have lt2 : (Addr.mk b 3 none).block < W.heap.size := by show b < _; omega
  have HS0 : Hid (W.drew.cell? ⟨b, 1, none⟩ = some (.string p1) ∧ W.drew.cell? ⟨b, 2, none⟩ = some (.string p2) ∧ W.drew.cell? ⟨b, 3, none⟩ = some (.string p3) ∧ Below W.heap.size W W.drew) := ⟨(M0.bel.cell (p := ⟨b, 1, none⟩) hb).trans d1, (M0.bel.cell (p := ⟨b, 2, none⟩) hb).trans d2, (M0.bel.cell (p := ⟨b, 3, none⟩) hb).trans d3, (Below.refl _ _).drew⟩
  have HD0 := hide d0
  have HM := hide M0
  clear hs hc d0 d1 d2 d3 M0 hW
  go_enter Tryd.func32, Tryd.ntmps32
  go_upto_region 3 with fail
  rw [← HW.out]
  clear HW
  go_cut [4] (fun v wd => ∃ P, v = .pointer (some ⟨P, 0, none⟩) ∧ W.heap.size ≤ P ∧ Cs P [.int .i64 (-1), .int .i64 (numV p1), .int .i64 (numV p2), .int .i64 (numV p3)] wd ∧ Below W.heap.size W wd)
  case first =>
    go_region_held2 (fun w' => w'.cell? ⟨b, 1, none⟩ = some (.string p1) ∧ w'.cell? ⟨b, 2, none⟩ = some (.string p2) ∧ w'.cell? ⟨b, 3, none⟩ = some (.string p3) ∧ Below W.heap.size W w')
      (first | with_reducible exact HS0.out | (repeat (first | with_reducible assumption | with_reducible exact HS0.out | with_reducible refine q3_allocd lt0 lt1 lt2 ?_ _ | with_reducible refine q3_alloc lt0 lt1 lt2 ?_ _ | with_reducible refine q3_set lt0 lt1 lt2 ?_ ?_ _ | (show (_ : Nat) ≤ _; exact Nat.le_refl _) | (show (_ : Nat) ≤ _; dsimp only; omega))))
      (first
        | (go_at_call 54; refine (l5Number_calls _ _).mono ?_; rintro e y1 ⟨rfl, rfl⟩))
    all_goals go_wp2_with fail
    all_goals go_meet
    all_goals (
      have hcs := Cs.alloc W [.int .i64 (-1), .int .i64 (numV p1), .int .i64 (numV p2), .int .i64 (numV p3)] 26
      rw [zW] at hcs
      exact ⟨_, rfl, by omega, hcs, by first | exact ((Below.refl _ _).alloc (Nat.le_refl _) _).drew | exact (Below.refl _ _).alloc (Nat.le_refl _) _⟩)
  case rest =>
  obtain ⟨P, rfl, hP, hcs, gb⟩ := hcut
  obtain ⟨w1, rfl⟩ : ∃ x, x = wc := ⟨wc, rfl⟩
  have M1 := (HM.out.below gb).fact Cs.loc hcs
  have HM1 := hide M1
  clear M1 hcs gb HM HS0 lt0 lt1 lt2
  go_wp2
  go_loopw [5] (fun q wr => ∃ k : Nat, k ≤ 16 ∧ q = .int .i64 (k : Int) ∧ Mm w wr [] [(P, P + 1, Cs P [.int .i64 (opL p0 k), .int .i64 (numV p1), .int .i64 (numV p2), .int .i64 (numV p3)]), (w.heap.size, w.heap.size + 1, Cs w.heap.size [.int .i64 0, .int .i64 0, .int .i64 0, .int .i64 0])]) (fun q _ => 16 - (intOf q).toNat)
  case atStart => exact ⟨0, by omega, rfl, HM1.out⟩
  case round =>
    clear HM1
    obtain ⟨k, hk, rfl, M⟩ := hrel
    have HMM := hide M
    have cp := (M.bel.cell (p := ⟨b, 0, none⟩) hb).trans HD0.out
    have wk : IntKind.i64.wrap ((k : Int) + 1) = (k : Int) + 1 := by rw [IntKind.wrap_i64]; omega
    by_cases hlt : k < 16
    · have g0 : (k : Int) < 16 := by omega
      have lt0 : (Addr.mk b 0 none).block < wr.heap.size := by have := M.bel.size; show b < _; omega
      have HS0 : Hid (wr.drew.cell? ⟨b, 0, none⟩ = some (.string p0) ∧ Below wr.heap.size wr wr.drew) := ⟨cp, (Below.refl _ _).drew⟩
      have HLT := hide hlt
      clear M hlt
      go_upto_region 7 with fail
      clear cp
      go_cut [32] from 23 to 34 (fun v wd => v = .bool ((kw (k : Int)).toList == p0.toList) ∧ Below wr.heap.size wr wd)
      case first =>
        have k0 : (0 : Int) ≤ (k : Int) := by omega
        have k1 : (k : Int) ≤ 15 := by have := HLT.out; omega
        go_region_held2 (fun w' => w'.cell? ⟨b, 0, none⟩ = some (.string p0) ∧ Below wr.heap.size wr w')
          (first | with_reducible exact HS0.out | with_reducible assumption)
          (first
            | (go_at_call 55; refine (l5Word_calls (k : Int) _ k0 k1).mono ?_; rintro e y1 ⟨rfl, ga⟩; have hs1 := q1_below lt0 (by with_reducible assumption) ga; clear ga))
        all_goals go_wp2_with fail
        all_goals go_meet
        all_goals exact ⟨rfl, q1_bel hs1⟩
      case rest =>
      obtain ⟨rfl, gb⟩ := hcut
      obtain ⟨w2, rfl⟩ : ∃ x, x = wc := ⟨wc, rfl⟩
      have M2 := HMM.out.below gb
      clear gb HS0 lt0
      by_cases he : kw (k : Int) = p0
      · rw [str_eq he]
        have c0 := (M2.get 0 rfl).cell 0 rfl
        have f0 := (M2.get 0 rfl).fz 0 (by simp)
        have MP := M2.put 0 rfl 0 (by simp) (.int .i64 (k : Int)) (by omega) (by simp) (by simp <;> omega)
        simp only [List.set] at MP
        have HMP := hide MP
        have HOY := hide (opL_y he)
        clear M2 MP he
        go_wp2
        go_roundw
        case rel => exact ⟨k + 1, by have := HLT.out; omega, by go_num, by rw [HOY.out]; exact HMP.out⟩
        case measure => have := HLT.out; simp [intOf]; omega
      · rw [str_ne he]
        rw [← opL_n he] at M2
        have HMP := hide M2
        clear M2 he
        go_wp2
        go_roundw
        case rel => exact ⟨k + 1, by have := HLT.out; omega, by go_num, HMP.out⟩
        case measure => have := HLT.out; simp [intOf]; omega
    · obtain rfl : k = 16 := by omega
      have g0 : ¬ (((16 : Nat) : Int) < 16) := by omega
      have MD := M.below (Below.refl wr.heap.size wr).drew
      have HF := hide (l5Fault_calls P _ _ _ _ wr.drew ((MD.get 0 rfl).cell 0 rfl) ((MD.get 0 rfl).cell 1 rfl) ((MD.get 0 rfl).cell 2 rfl) ((MD.get 0 rfl).cell 3 rfl))
      have c0 := (M.get 0 rfl).cell 0 rfl
      have c1 := (M.get 0 rfl).cell 1 rfl
      have c2 := (M.get 0 rfl).cell 2 rfl
      have c3 := (M.get 0 rfl).cell 3 rfl
      have r0 := (M.get 1 rfl).cell 0 rfl
      have r1 := (M.get 1 rfl).cell 1 rfl
      have r2 := (M.get 1 rfl).cell 2 rfl
      have r3 := (M.get 1 rfl).cell 3 rfl
      have f0 := (M.get 1 rfl).fz 0 (by simp)
      have f1 := (M.get 1 rfl).fz 1 (by simp)
      have f2 := (M.get 1 rfl).fz 2 (by simp)
      have f3 := (M.get 1 rfl).fz 3 (by simp)
      have HB := hide M.bel
      clear M MD cp hlt
      go_upto_region 9 with fail
      go_region_with (go_at_call 46; refine HF.out.mono ?_; rintro e y1 ⟨rfl, rfl⟩)
      all_goals (
        go_wp2
        refine bodyPost_ret (v := psV [p0, p1, p2, p3]) (by simp [results, Tryd.results32, go_sem, psV, r0, r1, r2, r3]) rfl ⟨rfl, ?_⟩
        exact (((HB.out.drew.setCell (by simp) _).setCell (by simp) _).setCell (by simp) _).setCell (by simp) _)

end Go.Proofs.YtpgpoeljbppggaaDoor
