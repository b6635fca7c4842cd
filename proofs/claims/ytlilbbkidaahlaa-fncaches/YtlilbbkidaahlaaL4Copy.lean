import Derived.Test.YtlilbbkidaahlaaCloneL
import Derived.WalkKit
import Derived.ProofKit
import Derived.OpenShut
import Derived.ShutString
import Derived.ChangeOld
import Derived.Below
import Derived.WalkSpells
import Derived.Deep.QuietTactic
import Derived.BigQuiet
import Derived.Deep.RegionWith
import Derived.Deep.WholeRow
import Derived.Deep.DeepCutAuto
import Derived.Deep.RegionHeld2
import Derived.Deep.AppendLies
import Derived.Deep.RegionLaw
namespace Go.Proofs.Ytlilbbkidaahlaa
open Go.ChangeShapes Go.WideShapes Go.ChangeAt Go.RowKit

theorem own_lit0 (X : World) (T : TypeId) {B : Nat} (h : B ≤ X.heap.size) : (X.alloc (.cells #[] T)).ownsRow B T 3 (.slice (some ⟨X.heap.size, 0, none⟩) 0 0) 0 [] :=
  ⟨rfl, .inr ⟨X.heap.size, 0, #[], rfl, h, heap_alloc_new X _, Nat.le_refl _, Nat.zero_le _, rfl, rfl⟩⟩

theorem own_drew {w : World} {B n : Nat} {e : TypeId} {v : Value} {xs : List Value} (h : w.ownsRow B e 3 v n xs) : w.drew.ownsRow B e 3 v n xs := h

theorem grow_far {X w1 : World} {row : Option Nat} (hg : X.grownBy w1 row) {b o : Nat} {v : Value} (hb : b < X.heap.size) (hne : some b ≠ row) (hc : X.cell? ⟨b, o, none⟩ = some v) (hf : X.frozen? ⟨b, o, none⟩ = false) : w1.cell? ⟨b, o, none⟩ = some v ∧ w1.frozen? ⟨b, o, none⟩ = false :=
  ⟨(World.cell?_of_block (a := ⟨b, o, none⟩) (hg.block b hb hne)).trans hc, (World.frozen?_of_block (a := ⟨b, o, none⟩) (hg.block b hb hne)).trans hf⟩

theorem own_set_below {w : World} {B n P o : Nat} {e : TypeId} {v : Value} {xs : List Value} (h : w.ownsRow B e 3 v n xs) (hP : P < B) (u : Value) : (w.setCell ⟨P, o, none⟩ u).ownsRow B e 3 v n xs := ownsRow_setCell_below h (by exact hP) u

set_option maxRecDepth 100000 in
set_option maxHeartbeats 1000000 in
theorem l4Copy_R (s : Int) (a : Option Addr) (n c : Nat) (ls : List (Int × Int × Int)) (w : World) (hn : n ≤ 1048576) (hs : Sln w a n ls) :
    Calls Try.prog 29 #[.agg #[.int .i64 s, .slice a n c]] w fun e w' => ∃ ra rc, e = .returned (.agg #[.int .i64 s, .slice ra n rc]) ∧ w'.ownsRow w.heap.size 28 3 (.slice ra n rc) n (vs3 ls) ∧ Below w.heap.size w w' := by
  obtain ⟨hlen, hs⟩ := hs
  obtain ⟨i0, hi, hz0, hz1, hz2⟩ := info_parts infoLine
  have M0 := ((Mm.start w).alloc2 (.int .i64 s) (.slice a n c) 26).alloc2 (.int .i64 0) (.slice none 0 0) 26
  try simp only [World.size_alloc] at M0
  have HO := hide (own_drew (own_lit0 (((w.alloc (.cells #[.int .i64 s, .slice a n c] 26)).alloc (.cells #[.int .i64 0, .slice none 0 0] 26))) 28 (B := w.heap.size + 1 + 1) (by simp)))
  simp only [World.size_alloc] at HO
  by_cases hp : 0 < n
  · obtain ⟨b, off, rfl, hb, hc⟩ := hs hp
    have M1 := M0.below ((Below.refl _ _).alloc (Nat.le_refl _) (.cells #[] 28))
    have HN := hide (news_sln (w := (((w.alloc (.cells #[.int .i64 s, .slice (some ⟨b, off, none⟩) n c] 26)).alloc (.cells #[.int .i64 0, .slice none 0 0] 26)).alloc (.cells #[] 28)).drew) (b := b) (off := off) hlen (fun i hi => (M1.bel.cell (p := ⟨b, off + i, none⟩) hb).trans (hc i hi)))
    have HL : Hid ((vs3 ls).length = n * 3) := by show _ = _; rw [length_vs3, hlen]
    have HM := hide M1.drew
    clear M0 M1 hs hc
    go_enter Try.func29, Try.ntmps29
    go_wp2_with fail
    go_region_law (refine step_append_lies _ rfl _ _ 24 rfl (w.heap.size + 1 + 1) 28 i0 (.agg #[.int .i64 0, .int .i64 0, .int .i64 0]) 3 24 Try.underlying24 hi hz0 hz1 hz2 rfl (by decide) (.slice (some ⟨w.heap.size + 1 + 1, 0, none⟩) 0 0) 0 [] rfl HO.out ⟨b, off, none⟩ n c (vs3 ls) rfl HL.out HN.out ints_one hp (by unfold maxLen; omega) (by omega) (by simp) (w.heap.size + 1 + 1 + 1) (by simp) ?_; intro g cp w1 hown1 hgrow hat hlt1; simp only [Nat.zero_add, List.nil_append] at hown1 ⊢; obtain ⟨c0, f0⟩ := grow_far hgrow (b := w.heap.size + 1) (o := 0) (by simp) (by simp [Value.ownBlock]) (HM.out.cell 0 rfl) (HM.out.fz 0 rfl); obtain ⟨c1, f1⟩ := grow_far hgrow (b := w.heap.size + 1) (o := 1) (by simp) (by simp [Value.ownBlock]) (HM.out.cell 1 rfl) (HM.out.fz 1 rfl); have c2 := (grow_far hgrow (b := w.heap.size) (o := 0) (by simp; omega) (by simp [Value.ownBlock]; omega) (HM.out.cell 2 rfl) (HM.out.fz 2 rfl)).1; have HB := hide (HM.out.bel.grown hgrow (by simp; omega) (fun k hk => by simp [Value.ownBlock] at hk; omega)); have HW := hide hown1; clear hown1 hgrow hat hlt1)
    all_goals (
      go_wp2
      refine bodyPost_ret (v := .agg #[.int .i64 s, .slice (some ⟨g, 0, none⟩) n cp]) (by simp [results, Try.results29, go_sem, c0, c1]) rfl ⟨_, _, rfl, ?_, ?_⟩
      · exact own_mono (own_set_below (own_set_below HW.out (by omega) _) (by omega) _) (by omega)
      · exact (HB.out.setCell (by simp) _).setCell (by simp) _)
  · have h0 : n = 0 := by omega
    subst h0
    have hl0 : ls = [] := List.length_eq_zero_iff.1 hlen
    subst hl0
    have HE : Hid (∀ o1 o2 : Obj, (((w.alloc o1).alloc o2).alloc (.cells #[] 28)).drew.ownsRow w.heap.size 28 3 (.slice (some ⟨w.heap.size + 1 + 1, 0, none⟩) 0 0) 0 []) := fun o1 o2 => by
      have h := own_lit0 ((w.alloc o1).alloc o2) 28 (B := w.heap.size) (by simp; omega)
      simp only [World.size_alloc] at h
      exact own_drew h
    have HB := hide fun o1 o2 o3 => ((((Below.refl w.heap.size w).alloc (Nat.le_refl _) o1).alloc (by simp) o2).alloc (by simp; omega) o3).drew
    clear M0
    cases a
    all_goals (
      go_enter Try.func29, Try.ntmps29
      go_wp2_with fail
      go_region
      all_goals (
        go_wp2
        exact bodyPost_ret (v := .agg #[.int .i64 s, .slice (some ⟨w.heap.size + 1 + 1, 0, none⟩) 0 0]) (by simp [results, Try.results29, go_sem]) rfl ⟨_, _, rfl, HE.out _ _, HB.out _ _ _⟩))

end Go.Proofs.Ytlilbbkidaahlaa
