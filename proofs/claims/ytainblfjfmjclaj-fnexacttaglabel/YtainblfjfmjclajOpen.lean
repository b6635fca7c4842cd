import Derived.Test.YtainblfjfmjclajTake
import Derived.WalkKit
import Derived.ProofKit
import Derived.OpenShut
import Derived.ShutString
import Derived.ChangeOld
import Derived.Below
import Derived.WalkSpells
import Derived.Deep.QuietTactic
import Derived.BigQuiet
import Derived.Deep.RegionWith
import Derived.Deep.WholeRow
import Derived.Deep.DeepCutAuto
import Derived.Deep.RegionHeld2
import Derived.Deep.AppendLies
import Derived.Deep.RegionLaw
namespace Go.Proofs.Ytainblfjfmjclaj
open Go.ChangeShapes Go.WideShapes Go.ChangeAt Go.RowKit

theorem mkMap (u : World) : (Instr.makeMap 75 none).run Try.prog u = .ok (.map (some u.heap.size)) (u.alloc (.map #[] 0)) := run_makeMap _ u

theorem bk_succ (ss : List (Int × List Int)) (k : Nat) : putS (bk ss k) (k : Int) (gc ss k) (gl ss k) = bk ss (k + 1) := rfl

set_option maxRecDepth 100000 in
theorem openRegistry_calls (a : Option Addr) (n ca : Nat) (ss : List (Int × List Int)) (w : World) (hn : n ≤ maxLen) (hx : Sls w a n ss) :
    Calls Try.prog 91 #[.agg #[.slice a n ca]] w fun e w' => ∃ sz mo, e = .returned (.tuple #[.agg #[.int .i64 sz, .map mo], .int .i64 (faultR ss)]) ∧ Below w.heap.size w w' ∧
      (faultR ss = 0 → sz = (n : Int) ∧ ∃ M, mo = some M ∧ w.heap.size ≤ M ∧ w'.ownsMap Try.prog 116 Rst M n (bk ss n)) := by
  have hx0 := hx
  have hnm := hn
  unfold maxLen at hn
  obtain ⟨hlen, hx⟩ := hx
  by_cases h10 : 10 < n
  · have HF := hide (faultR_many (ss := ss) (by omega))
    go_enter Try.func91, Try.ntmps91
    go_wp2
    refine bodyPost_ret (v := .tuple #[.agg #[.int .i64 0, .map none], .int .i64 2]) (by simp [results, Try.results91, go_sem]) rfl ⟨0, none, by rw [HF.out], ?_, fun h => absurd (HF.out.symm.trans h) (by decide)⟩
    exact ((Below.refl _ _).alloc (Nat.le_refl _) _).alloc (by simp) _
  · have HN : Hid (ss.length ≤ 10) := by show ss.length ≤ 10; omega
    go_enter Try.func91, Try.ntmps91
    have hmk := fun u : World => mkMap u
    go_wp2
    go_loopw [18] (fun i wr => ∃ k : Nat, k ≤ n ∧ i = .int .i64 k ∧ Below w.heap.size w wr ∧ Bk wr (w.heap.size + 1 + 1 + 1) (w.heap.size + 1 + 1) (k : Int) k (bk ss k) ∧
      (wr.cell? ⟨w.heap.size + 1, 0, none⟩ = some (.int .i64 0) ∧ wr.cell? ⟨w.heap.size + 1, 1, none⟩ = some (.map none) ∧ ∀ j, wr.frozen? ⟨w.heap.size + 1, j, none⟩ = false) ∧ ∀ j, j < k → slotF ss j = 0) (fun i _ => n - (intOf i).toNat)
    case atStart =>
      refine ⟨0, Nat.zero_le _, rfl, ?_, ?_, ?_, fun j hj => by omega⟩
      · exact ((((Below.refl _ _).alloc (Nat.le_refl _) _).alloc (by simp) _).alloc (by simp; omega) _).alloc (by simp; omega) _
      · refine ⟨by simp, by go_simp, by go_simp, fun j => by go_simp, ?_⟩
        have h := (World.ownsMap_made (H := Unit) ((w.alloc (.cells #[.slice a n ca] 34)).alloc (.cells #[.int .i64 0, .map none] 77)) Try.prog 116 Rst).alloc (.cells #[.int .i64 0, .map (some (w.heap.size + 1 + 1))] 77)
        simpa only [World.size_alloc, bk] using h
      · exact ⟨by go_simp, by go_simp, fun j => by go_simp⟩
    case round =>
      obtain ⟨k, hk, rfl, hbel, hbk, ⟨r0, r1, rf⟩, hall⟩ := hrel
      have Hall := hide hall
      by_cases hlt : k < n
      · obtain ⟨b, off, rfl, hb, hc⟩ := hx (by omega)
        obtain ⟨hc0, la, ll, lc, hc1, hll, hsl⟩ := hc k hlt
        have hck0 := (hbel.cell (p := ⟨b, off + k * 2, none⟩) hb).trans hc0
        have hck1 := (hbel.cell (p := ⟨b, off + k * 2 + 1, none⟩) hb).trans hc1
        have kL : k < ss.length := by omega
        have al := (Below.refl wr.heap.size wr).alloc (Nat.le_refl _) (.cells #[.int .i64 (gc ss k), .slice la ll lc] 107)
        have hsl1 := (hsl.below hbel (Nat.le_refl _)).below al (Nat.le_refl _)
        have hbk1 := hbk.below al
        have heq := takeC_eq kL hall
        have zN := hbk.lt
        have g0 := (al.cell (p := ⟨w.heap.size + 1, 0, none⟩) (by show w.heap.size + 1 < _; omega)).trans r0
        have g1 := (al.cell (p := ⟨w.heap.size + 1, 1, none⟩) (by show w.heap.size + 1 < _; omega)).trans r1
        have gf := fun j => (al.frozen (p := ⟨w.heap.size + 1, j, none⟩) (by show w.heap.size + 1 < _; omega)).trans (rf j)
        have hbel1 := hbel.trans (al.mono hbel.size)
        clear hall hbk r0 r1 rf al hsl
        by_cases hF : slotF ss k = 0
        · have HF := hide hF
          have eF : (slotF ss k != 0) = false := by simp [hF]
          clear hF
          go_wp2_with fail
          refine (take_calls (w.heap.size + 1 + 1 + 1) (w.heap.size + 1 + 1) k (k : Int) (gc ss k) (bk ss k) la ll lc (gl ss k) _ hll hsl1 hbk1 (by have := HN.out; omega) (by have := HN.out; omega)).mono ?_
          rintro e w1 ⟨rfl, bt, hB⟩
          rw [heq] at hB ⊢
          have hB1 := hB HF.out
          rw [bk_succ] at hB1
          have e0 := bt.block (w.heap.size + 1) (by simp; omega) (by omega) (by omega)
          have HR : Hid (w1.cell? ⟨w.heap.size + 1, 0, none⟩ = some (.int .i64 0) ∧ w1.cell? ⟨w.heap.size + 1, 1, none⟩ = some (.map none) ∧ ∀ j, w1.frozen? ⟨w.heap.size + 1, j, none⟩ = false) :=
            ⟨(World.cell?_of_block (a := ⟨w.heap.size + 1, 0, none⟩) e0).trans g0, (World.cell?_of_block (a := ⟨w.heap.size + 1, 1, none⟩) e0).trans g1, fun j => (World.frozen?_of_block (a := ⟨w.heap.size + 1, j, none⟩) e0).trans (gf j)⟩
          have HE := hide (hbel1.trans (bt.below (B := w.heap.size) (by omega) (by omega) hbel1.size))
          have HB1 := hide hB1
          clear bt hB hB1 e0 g0 g1 gf hbk1 hsl1 hbel1 heq
          go_wp2
          go_roundw
          case rel => exact ⟨k + 1, by omega, by go_num, HE.out, by exact_mod_cast HB1.out, HR.out, fun j hj => by (by_cases e : j = k); (subst e; exact HF.out); exact Hall.out j (by omega)⟩
          case measure => simp [intOf]; omega
        · have HF := hide hF
          have eF : (slotF ss k != 0) = true := by simp [hF]
          have HR := hide (faultR_hit HN.out kL Hall.out hF)
          clear hF
          go_wp2_with fail
          refine (take_calls (w.heap.size + 1 + 1 + 1) (w.heap.size + 1 + 1) k (k : Int) (gc ss k) (bk ss k) la ll lc (gl ss k) _ hll hsl1 hbk1 (by have := HN.out; omega) (by have := HN.out; omega)).mono ?_
          rintro e w1 ⟨rfl, bt, _⟩
          rw [heq]
          have e0 := bt.block (w.heap.size + 1) (by simp; omega) (by omega) (by omega)
          have s0 := (World.cell?_of_block (a := ⟨w.heap.size + 1, 0, none⟩) e0).trans g0
          have s1 := (World.cell?_of_block (a := ⟨w.heap.size + 1, 1, none⟩) e0).trans g1
          have f0 := (World.frozen?_of_block (a := ⟨w.heap.size + 1, 0, none⟩) e0).trans (gf 0)
          have f1 := (World.frozen?_of_block (a := ⟨w.heap.size + 1, 1, none⟩) e0).trans (gf 1)
          have HE := hide (hbel1.trans (bt.below (B := w.heap.size) (by omega) (by omega) hbel1.size))
          clear bt e0 g0 g1 gf hbk1 hsl1 hbel1 heq
          go_wp2
          refine bodyPost_ret (v := .tuple #[.agg #[.int .i64 0, .map none], .int .i64 (slotF ss k)]) (by simp [results, Try.results91, go_sem, s0, s1]) rfl ⟨0, none, by rw [HR.out], ?_, fun h => absurd (HR.out.symm.trans h) HF.out⟩
          exact (HE.out.setCell (by simp) _).setCell (by simp) _
      · have hkn : k = n := by omega
        subst hkn
        have HF := hide (faultR_ok HN.out (fun j hj => hall j (by omega)))
        have p0 := hbk.c0
        have p1 := hbk.c1
        have f0 := rf 0
        have f1 := rf 1
        have HB := hide hbk
        clear hall hbk
        go_wp2
        refine bodyPost_ret (v := .tuple #[.agg #[.int .i64 (k : Int), .map (some (w.heap.size + 1 + 1))], .int .i64 0]) (by simp [results, Try.results91, go_sem, r0, r1]) rfl ⟨(k : Int), some (w.heap.size + 1 + 1), by rw [HF.out], ?_, fun _ => ⟨rfl, w.heap.size + 1 + 1, rfl, by omega, ?_⟩⟩
        · exact (hbel.setCell (by simp) _).setCell (by simp) _
        · exact (HB.out.own.setCell (by simp) _).setCell (by simp) _

end Go.Proofs.Ytainblfjfmjclaj
