import Derived.Test.YtnlkigjgloeonaaGreatChST
import Derived.WalkKit
import Derived.ProofKit
import Derived.OpenShut
import Derived.ShutString
import Derived.ChangeOld
import Derived.Below
import Derived.WalkSpells
import Derived.Deep.QuietTactic
import Derived.BigQuiet
import Derived.Deep.RegionWith
import Derived.Deep.WholeRow
import Derived.Deep.DeepCutAuto
import Derived.Deep.RegionHeld2
import Derived.Deep.AppendLies
import Derived.Deep.RegionLaw
namespace Go.Proofs.YtnlkigjgloeonaaGreat
open Go.ChangeShapes Go.WideShapes Go.ChangeAt Go.RowKit

/-- three cells of a world that later worlds keep: for a region's loads. -/
theorem held3 {W X Y : World} {A B C : Addr} {a b c : Value} (hA : A.block < W.heap.size) (hB : B.block < W.heap.size) (hC : C.block < W.heap.size)
    (h : X.cell? A = some a ∧ X.cell? B = some b ∧ X.cell? C = some c ∧ Below W.heap.size W X) (g : Below X.heap.size X Y) :
    Y.cell? A = some a ∧ Y.cell? B = some b ∧ Y.cell? C = some c ∧ Below W.heap.size W Y := by
  obtain ⟨h1, h2, h3, hb⟩ := h
  have hz := hb.size
  exact ⟨(g.cell (by omega)).trans h1, (g.cell (by omega)).trans h2, (g.cell (by omega)).trans h3, hb.trans (g.mono hz)⟩

set_option maxRecDepth 100000 in
set_option maxHeartbeats 1000000 in
theorem l4Fault_calls (P : Nat) (s : Int) (a : Option Addr) (n c : Nat) (ls : List (Int × Int × Int)) (w : World) (hn : n ≤ maxLen) (hp0 : w.cell? ⟨P, 0, none⟩ = some (.int .i64 s)) (hp1 : w.cell? ⟨P, 1, none⟩ = some (.slice a n c)) (hs : Sln w a n ls) :
    Calls Tryz.prog 68 #[.pointer (some ⟨P, 0, none⟩)] w fun e w' => e = .returned (.int .i64 (faultC s ls)) ∧ Below w.heap.size w w' := by
  have hn' := hn
  unfold maxLen at hn
  have hP : P < w.heap.size := World.block_lt_of_cell? _ _ hp0
  have hlen := hs.1
  have HPP := hide hp1
  by_cases h1 : (decide (0 ≤ s) && decide (s ≤ 6)) = true
  · go_enter Tryz.func68, Tryz.ntmps68
    go_wp2_with fail
    refine (in_calls s 0 6 _).mono ?_
    rintro e w1 ⟨rfl, g1⟩
    rw [h1]
    have c0 := (g1.cell (p := ⟨P, 0, none⟩) hP).trans hp0
    have c1 := (g1.cell (p := ⟨P, 1, none⟩) hP).trans hp1
    clear hp0 hp1
    by_cases h2 : s < (n : Int)
    · have HR := hide (faultC_many (ls := ls) h1 (by omega))
      have HB := hide g1
      clear g1 h1
      go_wp2_with fail
      go_quiet (fail)
      go_wp2
      go_ret
      exact ⟨ret_int HR.out.symm, bdrewN HB.out _⟩
    · have HG := hide g1
      have HH1 := hide h1
      have HP1 := HPP
      clear g1 h1
      go_wp2_with fail
      go_quiet (fail)
      go_wp2
      go_loopw [3] (fun i wr => ∃ k : Nat, k ≤ n ∧ i = .int .i64 k ∧ Below w.heap.size w wr ∧ ∀ j, j < k → lineF ls j = 0) (fun i _ => n - (intOf i).toNat)
      case atStart => exact ⟨0, Nat.zero_le _, rfl, bdrewN HG.out _, fun j hj => by omega⟩
      case round =>
        obtain ⟨k, hk, rfl, hbel, hno⟩ := hrel
        have q1 := (hbel.cell (p := ⟨P, 1, none⟩) hP).trans HP1.out
        by_cases hlt : k < n
        · have hsr := hs.below hbel (Nat.le_refl _)
          have HSR := hide hsr
          obtain ⟨_, hsr⟩ := hsr
          obtain ⟨b, off, rfl, hb, hc⟩ := hsr (by omega)
          obtain ⟨r0, r1, r2⟩ := cells3 hc hlt
          clear hc
          have hPr : P < wr.heap.size := by have := hbel.size; omega
          cases hok : okL (g3 ls k) with
          | false =>
            have HR := hide (faultC_at (c := 3) HH1.out (by omega) (by omega) hno (lineF_range hok) (by omega))
            go_wp2_with fail
            refine (l4Line_calls b (off + k * 3) _ _ _ _ r0 r1 r2).mono ?_
            rintro e w2 ⟨rfl, g2⟩
            have hok' : okL ((g3 ls k).1, (g3 ls k).2.1, (g3 ls k).2.2) = false := hok
            rw [hok']
            have HB := hide (hbel.trans (g2.mono hbel.size))
            clear g2 hok hok' r0 r1 r2 q1
            go_wp2
            go_ret
            exact ⟨ret_int HR.out.symm, HB.out⟩
          | true =>
            go_wp2_with fail
            refine (l4Line_calls b (off + k * 3) _ _ _ _ r0 r1 r2).mono ?_
            rintro e w2 ⟨rfl, g2⟩
            have hok' : okL ((g3 ls k).1, (g3 ls k).2.1, (g3 ls k).2.2) = true := hok
            rw [hok']
            have s0 := (g2.cell (p := ⟨b, off + k * 3, none⟩) hb).trans r0
            have s1 := (g2.cell (p := ⟨b, off + k * 3 + 1, none⟩) hb).trans r1
            have s2 := (g2.cell (p := ⟨P, 1, none⟩) hPr).trans q1
            have HS2 := hide (HSR.out.below g2 (Nat.le_refl _))
            have HB := hide (hbel.trans (g2.mono hbel.size))
            have k1 : b < w2.heap.size := by have := g2.size; omega
            have k2 : P < w2.heap.size := by have := g2.size; omega
            have HOK := hide hok
            have i0 : (0 : Int) ≤ (k : Int) := by omega
            have i1 : (k : Int) < (n : Int) := by omega
            have HS0 : Hid (w2.drew.cell? ⟨b, off + k * 3, none⟩ = some (.int .i64 (g3 ls k).1) ∧ w2.drew.cell? ⟨b, off + k * 3 + 1, none⟩ = some (.int .i64 (g3 ls k).2.1) ∧ w2.drew.cell? ⟨P, 1, none⟩ = some (.slice (some ⟨b, off, none⟩) n c) ∧ Below w2.heap.size w2 w2.drew) := ⟨s0, s1, s2, (Below.refl _ _).drew⟩
            by_cases hat : atK ls (g3 ls k).1 (g3 ls k).2.1 = (k : Int)
            · have hne : (atK ls (g3 ls k).1 (g3 ls k).2.1 != (k : Int)) = false := by simp [hat]
              have HN : Hid (∀ j, j < k + 1 → lineF ls j = 0) := fun j hj => by
                by_cases e : j = k
                · subst e; exact lineF_ok HOK.out hat
                · exact hno j (by omega)
              clear hat g2 hok hok' r0 r1 r2 q1 hno hbel
              go_wp2_with fail
              clear s0 s1 s2
              go_region_held2 (fun w' => w'.cell? ⟨b, off + k * 3, none⟩ = some (.int .i64 (g3 ls k).1) ∧ w'.cell? ⟨b, off + k * 3 + 1, none⟩ = some (.int .i64 (g3 ls k).2.1) ∧ w'.cell? ⟨P, 1, none⟩ = some (.slice (some ⟨b, off, none⟩) n c) ∧ Below w2.heap.size w2 w')
                (first | with_reducible exact HS0.out | with_reducible assumption)
                (first
                  | (go_at_call 120; refine (l4At_calls P _ n c ls _ _ _ hn' (And.left (And.right (And.right (by with_reducible assumption)))) ?_).mono ?_; exact HS2.out.below (And.right (And.right (And.right (by with_reducible assumption)))) (Nat.le_refl _); rintro e v1 ⟨rfl, ga⟩; have hs1 := held3 (W := w2) k1 k1 k2 (by with_reducible assumption) ga; clear ga))
              have HE := hide (HB.out.trans (hs1.2.2.2.mono HB.out.size))
              clear hs1 HS0
              go_wp2
              go_roundw
              case rel => exact ⟨k + 1, by omega, by go_num, HE.out, HN.out⟩
              case measure => simp [intOf]; omega
            · have hne : (atK ls (g3 ls k).1 (g3 ls k).2.1 != (k : Int)) = true := by simp [hat]
              have HR := hide (faultC_at (c := 8) HH1.out (by omega) (by omega) hno (lineF_state HOK.out hat) (by omega))
              clear hat g2 hok hok' r0 r1 r2 q1 hno hbel
              go_wp2_with fail
              clear s0 s1 s2
              go_region_held2 (fun w' => w'.cell? ⟨b, off + k * 3, none⟩ = some (.int .i64 (g3 ls k).1) ∧ w'.cell? ⟨b, off + k * 3 + 1, none⟩ = some (.int .i64 (g3 ls k).2.1) ∧ w'.cell? ⟨P, 1, none⟩ = some (.slice (some ⟨b, off, none⟩) n c) ∧ Below w2.heap.size w2 w')
                (first | with_reducible exact HS0.out | with_reducible assumption)
                (first
                  | (go_at_call 120; refine (l4At_calls P _ n c ls _ _ _ hn' (And.left (And.right (And.right (by with_reducible assumption)))) ?_).mono ?_; exact HS2.out.below (And.right (And.right (And.right (by with_reducible assumption)))) (Nat.le_refl _); rintro e v1 ⟨rfl, ga⟩; have hs1 := held3 (W := w2) k1 k1 k2 (by with_reducible assumption) ga; clear ga))
              have HE := hide (HB.out.trans (hs1.2.2.2.mono HB.out.size))
              clear hs1 HS0
              go_wp2
              go_ret
              exact ⟨ret_int HR.out.symm, HE.out⟩
        · have HR := hide (faultC_ok HH1.out (by omega) (fun j hj => hno j (by omega)))
          go_wp2
          go_ret
          exact ⟨ret_int HR.out.symm, hbel⟩
  · have h1' : (decide (0 ≤ s) && decide (s ≤ 6)) = false := by simpa using h1
    have HR := hide (faultC_size (ls := ls) h1')
    clear h1
    go_enter Tryz.func68, Tryz.ntmps68
    go_wp2_with fail
    refine (in_calls s 0 6 _).mono ?_
    rintro e w1 ⟨rfl, g1⟩
    rw [h1']
    have HB := hide g1
    clear g1
    go_wp2
    go_ret
    exact ⟨ret_int HR.out.symm, HB.out⟩

end Go.Proofs.YtnlkigjgloeonaaGreat
