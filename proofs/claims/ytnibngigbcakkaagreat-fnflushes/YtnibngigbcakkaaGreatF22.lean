import Derived.Test.YtnibngigbcakkaaGreatF6
import Derived.Test.YtnibngigbcakkaaGreatF21
import Derived.WalkKit
import Derived.ProofKit
import Derived.OpenShut
import Derived.ShutString
import Derived.ChangeOld
import Derived.Below
import Derived.WalkSpells
import Derived.Deep.QuietTactic
import Derived.BigQuiet
import Derived.Deep.RegionWith
import Derived.Deep.WholeRow
import Derived.Deep.DeepCutAuto
import Derived.Deep.RegionHeld2
import Derived.Deep.AppendLies
import Derived.Deep.RegionLaw
namespace Go.Proofs.YtnibngigbcakkaaGreat
open Go.ChangeShapes Go.WideShapes Go.ChangeAt Go.RowKit

/-- a line says what the tables do. -/
def lineT (ss : List (Int × List Int)) (ts ds : List Int) (x : Int × Int × Int) : Bool := decide (pmC ss ts ds x.1 x.2.1 = 0) && decide (pmV ss ts ds x.1 x.2.1 = x.2.2)

def allT (ss : List (Int × List Int)) (ts ds : List Int) (ls : List (Int × Int × Int)) : Bool := (List.range ls.length).all (fun j => lineT ss ts ds (g3 ls j))

theorem allT_no {ss : List (Int × List Int)} {ts ds : List Int} {ls : List (Int × Int × Int)} {k : Nat} (hk : k < ls.length) (h : lineT ss ts ds (g3 ls k) = false) : allT ss ts ds ls = false := by
  unfold allT
  rw [List.all_eq_false]
  exact ⟨k, List.mem_range.2 hk, by simp [h]⟩

theorem allT_yes {ss : List (Int × List Int)} {ts ds : List Int} {ls : List (Int × Int × Int)} (h : ∀ j, j < ls.length → lineT ss ts ds (g3 ls j) = true) : allT ss ts ds ls = true := by
  unfold allT
  rw [List.all_eq_true]
  exact fun j hj => h j (List.mem_range.1 hj)

def ctB (s : Int) (ls : List (Int × Int × Int)) (ss : List (Int × List Int)) (ts ds : List Int) : Bool := (faultC s ls == 0) && (tabF ss ts ds == 0) && allT ss ts ds ls

theorem ctB_bad1 {s : Int} {ls : List (Int × Int × Int)} {ss : List (Int × List Int)} {ts ds : List Int} (h : faultC s ls ≠ 0) : ctB s ls ss ts ds = false := by
  unfold ctB
  have : (faultC s ls == 0) = false := by simpa using h
  rw [this]; rfl

theorem ctB_bad2 {s : Int} {ls : List (Int × Int × Int)} {ss : List (Int × List Int)} {ts ds : List Int} (h : tabF ss ts ds ≠ 0) : ctB s ls ss ts ds = false := by
  unfold ctB
  have : (tabF ss ts ds == 0) = false := by simpa using h
  rw [this]; simp

theorem ctB_ok {s : Int} {ls : List (Int × Int × Int)} {ss : List (Int × List Int)} {ts ds : List Int} (h : faultC s ls = 0) (h2 : tabF ss ts ds = 0) : ctB s ls ss ts ds = allT ss ts ds ls := by
  unfold ctB
  rw [h, h2]; simp

set_option maxRecDepth 100000 in
set_option maxHeartbeats 2000000 in
theorem implCacheTrue_calls (s : Int) (a : Option Addr) (n c : Nat) (ls : List (Int × Int × Int)) (ra : Option Addr) (rn rc : Nat) (ss : List (Int × List Int)) (ta : Option Addr) (tn tc : Nat) (ts : List Int) (da : Option Addr) (dn dc : Nat) (ds : List Int) (w : World) (hn : n ≤ maxLen) (hnc : n ≤ c) (hs : Sln w a n ls) (hrt : RT w ra rn ss ta tn ts da dn ds) :
    Calls Tryz.prog 11 #[.agg #[.int .i64 s, .slice a n c], .agg #[.slice ra rn rc, .slice ta tn tc, .slice da dn dc]] w fun e w' => e = .returned (.bool (ctB s ls ss ts ds)) ∧ Below w.heap.size w w' := by
  have M0 := ((Mm.start w).alloc2 (.int .i64 s) (.slice a n c) 26).alloc3 (.slice ra rn rc) (.slice ta tn tc) (.slice da dn dc) 40
  try simp only [World.size_alloc] at M0
  have hlen := hs.1
  go_enter Tryz.func11, Tryz.ntmps11
  go_wp2_with fail
  refine (implCacheFault_calls s a n c ls _ hn hnc (hs.below M0.bel (Nat.le_refl _))).mono ?_
  rintro e w1 ⟨rfl, g1⟩
  have M1 := M0.below g1
  clear M0 g1
  by_cases hf : faultC s ls = 0
  rotate_left
  · have HR := hide (ctB_bad1 (ss := ss) (ts := ts) (ds := ds) hf)
    have hne : (faultC s ls != 0) = true := by simpa using hf
    have HB := hide M1.bel
    clear M1 hf
    go_wp2
    go_ret
    exact ⟨ret_bool HR.out.symm, HB.out⟩
  have hne : (faultC s ls != 0) = false := by simp [hf]
  have hinv := faultC_inv hf
  have hn6 : n ≤ 6 := by omega
  have q0 := M1.cell 0 rfl
  have q1 := M1.cell 1 rfl
  have q2 := M1.cell 2 rfl
  have Hf := hide hf
  clear hinv hf
  go_wp2_with fail
  refine (implTablesFault_calls ra rn rc ss ta tn tc ts da dn dc ds _ (hrt.below M1.bel (Nat.le_refl _))).mono ?_
  rintro e w2 ⟨rfl, g2⟩
  have M2 := M1.below g2
  clear M1 g2 q0 q1 q2
  by_cases ht : tabF ss ts ds = 0
  rotate_left
  · have HR := hide (ctB_bad2 (s := s) (ls := ls) ht)
    have hnt : (tabF ss ts ds != 0) = true := by simpa using ht
    have HB := hide M2.bel
    clear M2 ht
    go_wp2
    go_ret
    exact ⟨ret_bool HR.out.symm, HB.out⟩
  have hnt : (tabF ss ts ds != 0) = false := by simp [ht]
  have HC := hide (ctB_ok (ls := ls) Hf.out ht)
  have q0 := M2.cell 3 rfl
  have q1 := M2.cell 4 rfl
  have HM := hide M2
  clear M2 ht
  go_wp2
  go_loopw [19] (fun i wr => ∃ k : Nat, k ≤ n ∧ i = .int .i64 k ∧ Mm w wr [(w.heap.size + 1, 0, .slice ra rn rc), (w.heap.size + 1, 1, .slice ta tn tc), (w.heap.size + 1, 2, .slice da dn dc), (w.heap.size, 0, .int .i64 s), (w.heap.size, 1, .slice a n c)] [] ∧ ∀ j, j < k → lineT ss ts ds (g3 ls j) = true) (fun i _ => n - (intOf i).toNat)
  case atStart => exact ⟨0, Nat.zero_le _, rfl, HM.out, fun j hj => by omega⟩
  case round =>
    clear HM q0 q1
    obtain ⟨k, hk, rfl, M, hall⟩ := hrel
    by_cases hlt : k < n
    · obtain ⟨_, hs'⟩ := hs
      obtain ⟨b, off, rfl, hb, hc⟩ := hs' (by omega)
      obtain ⟨r0, r1, r2⟩ := cells3 hc hlt
      have p0 := (M.bel.cell (p := ⟨b, off + k * 3, none⟩) hb).trans r0
      have p1 := (M.bel.cell (p := ⟨b, off + k * 3 + 1, none⟩) hb).trans r1
      have p2 := (M.bel.cell (p := ⟨b, off + k * 3 + 2, none⟩) hb).trans r2
      clear hc r0 r1 r2
      have q0 := M.cell 0 rfl
      have q1 := M.cell 1 rfl
      have q2 := M.cell 2 rfl
      have kN := M.lt 0 rfl
      have M3 := M.alloc3 (.int .i64 (g3 ls k).1) (.int .i64 (g3 ls k).2.1) (.int .i64 (g3 ls k).2.2) 45
      have i0 : (0 : Int) ≤ (k : Int) := by omega
      have i1 : (k : Int) < (n : Int) := by omega
      clear M
      go_wp2_with fail
      refine (implPermOf_calls ra rn rc ss ta tn tc ts da dn dc ds _ _ _ (hrt.below M3.bel (Nat.le_refl _))).mono ?_
      rintro e w4 ⟨rfl, g4⟩
      have M4 := (M3.below g4).alloc2 (.int .i64 (pmC ss ts ds (g3 ls k).1 (g3 ls k).2.1)) (.int .i64 (pmV ss ts ds (g3 ls k).1 (g3 ls k).2.1)) 47
      have z4 := M4.bel.size
      have x0 := M4.cell 2 rfl
      have x1 := M4.cell 3 rfl
      have x2 := M4.cell 4 rfl
      have zx := M4.lt 2 rfl
      have zy : wr.heap.size < w4.heap.size := by have := g4.size; simp at this; omega
      have x0' := (M3.below g4).cell 0 rfl
      have x1' := (M3.below g4).cell 1 rfl
      have x2' := (M3.below g4).cell 2 rfl
      have HM5 := hide (M4.sub (cs' := [(w.heap.size + 1, 0, .slice ra rn rc), (w.heap.size + 1, 1, .slice ta tn tc), (w.heap.size + 1, 2, .slice da dn dc), (w.heap.size, 0, .int .i64 s), (w.heap.size, 1, .slice (some ⟨b, off, none⟩) n c)]) (fun _ h => List.mem_cons_of_mem _ (List.mem_cons_of_mem _ (List.mem_cons_of_mem _ (List.mem_cons_of_mem _ (List.mem_cons_of_mem _ h))))) (fun _ h => h))
      clear M3 M4 g4 p0 p1 p2 q0 q1 q2
      by_cases h1 : pmC ss ts ds (g3 ls k).1 (g3 ls k).2.1 = 0
      · have e1 : (pmC ss ts ds (g3 ls k).1 (g3 ls k).2.1 != 0) = false := by simp [h1]
        by_cases h2 : (g3 ls k).2.2 = pmV ss ts ds (g3 ls k).1 (g3 ls k).2.1
        · have HN : Hid (∀ j, j < k + 1 → lineT ss ts ds (g3 ls j) = true) := fun j hj => by
            by_cases e : j = k
            · subst e; simp [lineT, h1, ← h2]
            · exact hall j (by omega)
          have e2 := eq_true h2
          clear h1 h2
          go_wp2
          go_roundw
          case rel => exact ⟨k + 1, by omega, by go_num, HM5.out, HN.out⟩
          case measure => simp [intOf]; omega
        · have HR := hide (HC.out.trans (allT_no (ls := ls) (k := k) (by omega) (show lineT ss ts ds (g3 ls k) = false by simp [lineT]; exact fun _ e => h2 e.symm)))
          clear h1
          have HB := hide HM5.out.bel
          go_wp2
          go_ret
          exact ⟨ret_bool HR.out.symm, HB.out⟩
      · have e1 : (pmC ss ts ds (g3 ls k).1 (g3 ls k).2.1 != 0) = true := by simpa using h1
        have HR := hide (HC.out.trans (allT_no (ls := ls) (k := k) (by omega) (show lineT ss ts ds (g3 ls k) = false by simp [lineT, h1])))
        have HB := hide HM5.out.bel
        clear h1
        go_wp2
        go_ret
        exact ⟨ret_bool HR.out.symm, HB.out⟩
    · have HR := hide (HC.out.trans (allT_yes (ls := ls) (fun j hj => hall j (by omega))))
      have HB := hide M.bel
      clear M
      go_wp2
      go_ret
      exact ⟨ret_bool HR.out.symm, HB.out⟩

end Go.Proofs.YtnibngigbcakkaaGreat
