import Derived.Test.YtboeceabnlhnoaaImplEL
import Derived.WalkKit
import Derived.ProofKit
import Derived.OpenShut
import Derived.ShutString
import Derived.ChangeOld
import Derived.Below
import Derived.WalkSpells
import Derived.Deep.QuietTactic
import Derived.BigQuiet
import Derived.Deep.RegionWith
import Derived.Deep.WholeRow
import Derived.Deep.DeepCutAuto
import Derived.Deep.RegionHeld2
import Derived.Deep.AppendLies
import Derived.Deep.RegionLaw
namespace Go.Proofs.Ytboeceabnlhnoaa
open Go.ChangeShapes Go.WideShapes Go.ChangeAt Go.RowKit

theorem q2_below {W X Y : World} {A B : Addr} {u v : Value} (hA : A.block < W.heap.size) (hB : B.block < W.heap.size) (h : X.cell? A = some u ∧ X.cell? B = some v ∧ Below W.heap.size W X) (g : Below X.heap.size X Y) :
    Y.cell? A = some u ∧ Y.cell? B = some v ∧ Below W.heap.size W Y := by
  obtain ⟨h1, h2, hb⟩ := h
  have hz := hb.size
  exact ⟨(g.cell (by omega)).trans h1, (g.cell (by omega)).trans h2, hb.trans (g.mono hz)⟩

theorem q2_alloc {W X : World} {A B : Addr} {u v : Value} (hA : A.block < W.heap.size) (hB : B.block < W.heap.size) (h : X.cell? A = some u ∧ X.cell? B = some v ∧ Below W.heap.size W X) (o : Obj) :
    (X.alloc o).cell? A = some u ∧ (X.alloc o).cell? B = some v ∧ Below W.heap.size W (X.alloc o) := q2_below hA hB h ((Below.refl _ _).alloc (Nat.le_refl _) o)

theorem q2_allocd {W X : World} {A B : Addr} {u v : Value} (hA : A.block < W.heap.size) (hB : B.block < W.heap.size) (h : X.drew.cell? A = some u ∧ X.drew.cell? B = some v ∧ Below W.heap.size W X.drew) (o : Obj) :
    (X.alloc o).drew.cell? A = some u ∧ (X.alloc o).drew.cell? B = some v ∧ Below W.heap.size W (X.alloc o).drew := q2_alloc hA hB h o

theorem q2_set {W X : World} {A B : Addr} {u v : Value} (hA : A.block < W.heap.size) (hB : B.block < W.heap.size) (h : X.cell? A = some u ∧ X.cell? B = some v ∧ Below W.heap.size W X) {p : Addr} (hp : W.heap.size ≤ p.block) (y : Value) :
    (X.setCell p y).cell? A = some u ∧ (X.setCell p y).cell? B = some v ∧ Below W.heap.size W (X.setCell p y) :=
  ⟨(World.cell?_setCell_other _ _ _ _ (fun e => by rw [e] at hp; omega)).trans h.1, (World.cell?_setCell_other _ _ _ _ (fun e => by rw [e] at hp; omega)).trans h.2.1, h.2.2.setCell hp y⟩

set_option maxRecDepth 100000 in
theorem implSlotOf_calls (a b : Option Addr) (n ca lb cb : Nat) (ss : List (Int × List Int)) (zs : List Int) (w : World) (hn : n ≤ maxLen) (hlb : lb ≤ maxLen) (hx : Sls w a n ss) (hy : Sl w b lb zs) :
    Calls Try.prog 14 #[.agg #[.slice a n ca], .agg #[.slice b lb cb]] w fun e w' => e = .returned (.agg #[.int .i64 (soC ss zs), .int .i64 (soV ss zs)]) ∧ Below w.heap.size w w' := by
  have M0 := (((Mem.start w).alloc1 (.slice a n ca) 26).alloc1 (.slice b lb cb) 29).alloc2 (.int .i64 0) (.int .i64 0) 43
  simp only [World.size_alloc] at M0
  have hx0 := hx.below M0.bel (Nat.le_refl _)
  have hy0 := hy.below M0.bel (Nat.le_refl _)
  have hlen := hx.1
  by_cases hc : codeFor ss zs = 0
  · have ec : (codeFor ss zs != 0) = false := by simp [hc]
    obtain ⟨hr, hz⟩ := codeFor_zero hc
    have h4 : lb = 4 := by rw [← hy.1]; exact fault_len hz
    subst h4
    have Hz := hide hz
    have Hr := hide hr
    have Hc := hide hc
    clear hr hz hc
    go_enter Try.func14, Try.ntmps14
    go_wp2_with fail
    refine (openRegistryFor_calls a b n ca 4 cb ss zs _ hn hlb hx0 hy0).mono ?_
    rintro e w1 ⟨sz, mo, rfl, g1, hown⟩
    obtain ⟨rfl, M, rfl, hM, hown⟩ := hown Hr.out
    have M1 := (M0.below g1).alloc2 (.int .i64 (n : Int)) (.map (some M)) 49
    have hown1 := hown.alloc (.cells #[.int .i64 (n : Int), .map (some M)] 49)
    have al := (Below.refl w1.heap.size w1).alloc (Nat.le_refl _) (.cells #[.int .i64 (n : Int), .map (some M)] 49)
    have hy1 := (hy0.below g1 (Nat.le_refl _)).below al (Nat.le_refl _)
    have o1 := M1.cell 1 rfl
    have l0 := M1.cell 4 rfl
    have lA := M1.lt 1 rfl
    have lB := M1.lt 4 rfl
    have lR := M1.lt 2 rfl
    have r0 := M1.cell 2 rfl
    have r1 := M1.cell 3 rfl
    have hbM := M1.bel
    have f0 : (w1.alloc (.cells #[.int .i64 (n : Int), .map (some M)] 49)).frozen? ⟨w.heap.size + 1 + 1, 0, none⟩ = false := (World.frozen?_alloc_old _ _ _ (by have := (M0.below g1).lt 0 rfl; simp; omega)).trans ((g1.frozen (p := ⟨w.heap.size + 1 + 1, 0, none⟩) (by simp)).trans (by go_simp))
    have f1 : (w1.alloc (.cells #[.int .i64 (n : Int), .map (some M)] 49)).frozen? ⟨w.heap.size + 1 + 1, 1, none⟩ = false := (World.frozen?_alloc_old _ _ _ (by have := (M0.below g1).lt 0 rfl; simp; omega)).trans ((g1.frozen (p := ⟨w.heap.size + 1 + 1, 1, none⟩) (by simp)).trans (by go_simp))
    clear g1 hown al M0 M1 hx0 hy0
    go_upto_region 4 with fail
    generalize hW : (w1.alloc (.cells #[.int .i64 (n : Int), .map (some M)] 49)) = W at o1 l0 lA lB lR r0 r1 hbM f0 f1 hown1 hy1 ⊢
    clear hW
    obtain ⟨lp, lc, hat, hlook⟩ := look_run hown1 Hz.out
    have Hlook := hide fun (X : World) (hX : Below W.heap.size W X) => hlook X (ownsMap_below hown1 hX (Nat.le_refl _))
    have HY := hide hy1
    have Hat := hide hat
    clear hlook hy1 hat hown1
    go_cut [7, 8] (fun p7 kv wc => ∃ g, p7 = .pointer (some ⟨g, 0, none⟩) ∧ kv = .bool (Go.Maps.has (bk ss n) (kl zs)) ∧ wc.cell? ⟨g, 0, none⟩ = some (.int .i64 lp) ∧ Below W.heap.size W wc)
    case first =>
      have HS0 : Hid (W.drew.cell? ⟨w1.heap.size, 1, none⟩ = some (.map (some M)) ∧ W.drew.cell? ⟨w.heap.size + 1, 0, none⟩ = some (.slice b 4 cb) ∧ Below W.heap.size W W.drew) := ⟨o1, l0, (Below.refl _ _).drew⟩
      go_region_held2 (fun w' => w'.cell? ⟨w1.heap.size, 1, none⟩ = some (.map (some M)) ∧ w'.cell? ⟨w.heap.size + 1, 0, none⟩ = some (.slice b 4 cb) ∧ Below W.heap.size W w')
        (first | with_reducible exact HS0.out | (repeat (first | with_reducible assumption | with_reducible refine q2_allocd lA lB ?_ _ | with_reducible refine q2_alloc lA lB ?_ _ | with_reducible refine q2_set lA lB ?_ ?_ _ | (show (_ : Nat) ≤ _; exact Nat.le_refl _) | (show (_ : Nat) ≤ _; dsimp only; omega))))
        (first
          | (go_at_call 21; refine (markOf_calls b cb zs _ ?_).mono ?_; exact HY.out.below (And.right (And.right (by with_reducible assumption))) (Nat.le_refl _); rintro e v1 ⟨rfl, g1⟩; have hs1 := q2_below lA lB (by with_reducible assumption) g1; have L1 := Hlook.out v1 hs1.2.2; have L2 := Hlook.out (v1.alloc (.cells #[.int .i64 0, .int .i64 0] 80)) (hs1.2.2.alloc hs1.2.2.size _); unfold ints4 at L1 L2; obtain ⟨bc, bf⟩ := bcellQ g1; (try simp only [World.size_alloc, World.size_drew] at bc bf); unfold ints4; clear g1))
      all_goals go_wp2_with fail
      all_goals go_meet
      all_goals refine ⟨_, rfl, rfl, ?_, ?_⟩
      all_goals first | (go_simp; done) | exact hs1.2.2.alloc hs1.2.2.size _ | exact (hs1.2.2.setCell (Nat.le_refl _) _).setCell (Nat.le_refl _) _
    case rest =>
      obtain ⟨g, rfl, rfl, cg, hWc⟩ := hcut
      have s0 := (hWc.cell (p := ⟨w.heap.size + 1 + 1, 0, none⟩) lR).trans r0
      have s1 := (hWc.cell (p := ⟨w.heap.size + 1 + 1, 1, none⟩) lR).trans r1
      have t0 := (hWc.frozen (p := ⟨w.heap.size + 1 + 1, 0, none⟩) lR).trans f0
      have t1 := (hWc.frozen (p := ⟨w.heap.size + 1 + 1, 1, none⟩) lR).trans f1
      have HE := hide (hbM.trans (hWc.mono hbM.size))
      have hbf := bk_found (ss := ss) (zs := zs) Hr.out Hz.out
      rw [hlen] at hbf
      clear r0 r1 f0 f1 hWc hbM o1 l0
      rcases hbf with ⟨h1, hno⟩ | ⟨j, hj, h1, hyes, hat⟩
      · have HC : Hid (soC ss zs = 4) := by show soC ss zs = 4; unfold soC; rw [if_pos Hc.out, h1]; rfl
        have HV : Hid (soV ss zs = 0) := by show soV ss zs = 0; unfold soV; rw [if_pos Hc.out, h1]; rfl
        rw [hno]
        clear h1
        go_wp2
        refine bodyPost_ret (v := .agg #[.int .i64 4, .int .i64 0]) (by simp [results, Try.results14, go_sem, s0, s1]) rfl ⟨by rw [HC.out, HV.out], ?_⟩
        exact (HE.out.setCell (by simp; omega) _).setCell (by simp; omega) _
      · have HC : Hid (soC ss zs = 0) := by show soC ss zs = 0; unfold soC; rw [if_pos Hc.out, h1, if_neg (by omega)]
        have HV : Hid (soV ss zs = (j : Int)) := by show soV ss zs = _; unfold soV; rw [if_pos Hc.out, h1, if_neg (by omega)]
        obtain ⟨rfl, _⟩ := st_inj (Hat.out.symm.trans (hat (st 0 0)))
        rw [hyes]
        clear h1 hat Hat
        go_wp2
        refine bodyPost_ret (v := .agg #[.int .i64 0, .int .i64 (j : Int)]) (by simp [results, Try.results14, go_sem, s0, s1]) rfl ⟨by rw [HC.out, HV.out], ?_⟩
        exact (HE.out.setCell (by simp; omega) _).setCell (by simp; omega) _
  · have ec : (codeFor ss zs != 0) = true := by simp [hc]
    have HC : Hid (soC ss zs = codeFor ss zs) := if_neg hc
    have HV : Hid (soV ss zs = 0) := if_neg hc
    clear hc
    go_enter Try.func14, Try.ntmps14
    go_wp2_with fail
    refine (openRegistryFor_calls a b n ca lb cb ss zs _ hn hlb hx0 hy0).mono ?_
    rintro e w1 ⟨sz, mo, rfl, g1, _⟩
    have M1 := (M0.below g1).alloc2 (.int .i64 sz) (.map mo) 49
    have f0 : (w1.alloc (.cells #[.int .i64 sz, .map mo] 49)).frozen? ⟨w.heap.size + 1 + 1, 0, none⟩ = false := (World.frozen?_alloc_old _ _ _ (by have := (M0.below g1).lt 0 rfl; simp; omega)).trans ((g1.frozen (p := ⟨w.heap.size + 1 + 1, 0, none⟩) (by simp)).trans (by go_simp))
    have f1 : (w1.alloc (.cells #[.int .i64 sz, .map mo] 49)).frozen? ⟨w.heap.size + 1 + 1, 1, none⟩ = false := (World.frozen?_alloc_old _ _ _ (by have := (M0.below g1).lt 0 rfl; simp; omega)).trans ((g1.frozen (p := ⟨w.heap.size + 1 + 1, 1, none⟩) (by simp)).trans (by go_simp))
    have r0 := M1.cell 2 rfl
    have r1 := M1.cell 3 rfl
    have HE := hide M1.bel
    clear g1 M0 M1 hx0 hy0
    go_wp2
    refine bodyPost_ret (v := .agg #[.int .i64 (codeFor ss zs), .int .i64 0]) (by simp [results, Try.results14, go_sem, r0, r1]) rfl ⟨by rw [HC.out, HV.out], ?_⟩
    exact (HE.out.setCell (by simp; omega) _).setCell (by simp; omega) _

end Go.Proofs.Ytboeceabnlhnoaa
