import Derived.Test.YtjahlhibgnbkgaaTwo
import Derived.WalkKit
import Derived.ProofKit
import Derived.OpenShut
import Derived.ShutString
import Derived.ChangeOld
import Derived.Below
import Derived.WalkSpells
import Derived.Deep.QuietTactic
import Derived.BigQuiet
import Derived.Deep.RegionWith
import Derived.Deep.WholeRow
import Derived.Deep.DeepCutAuto
import Derived.Deep.RegionHeld2
import Derived.Deep.AppendLies
import Derived.Deep.RegionLaw
namespace Go.Proofs.Ytjahlhibgnbkgaa
open Go.ChangeShapes Go.WideShapes Go.ChangeAt Go.RowKit

set_option maxRecDepth 100000 in
theorem drawIsBelow_calls (a : Option Addr) (len cap : Nat) (w : World) (hc : Cd w a len) :
    Calls Try.prog 8 #[.slice a len cap] w fun e w' => ∃ ra n rc xs rb m rd ys, e = .returned (.tuple #[.agg #[.slice ra n rc], .agg #[.slice rb m rd]]) ∧ Fr w' w.heap.size ra n xs ∧ Fr w' w.heap.size rb m ys ∧ Below w.heap.size w w' := by
  have hb0 := fun o1 o2 => ((Below.refl w.heap.size w).alloc (Nat.le_refl _) o1).alloc (by simp) o2
  go_enter Try.func8, Try.ntmps8
  go_wp2_with fail
  refine (l1Two_calls a len cap _ (hc.below (hb0 _ _))).mono ?_
  rintro e w1 ⟨ra, n, rc, xs, rb, m, rd, ys, rfl, sa, sb, hb⟩
  simp only [World.size_alloc] at sa sb
  have r0 : w1.cell? ⟨w.heap.size, 0, none⟩ = some (.slice none 0 0) := (hb.cell (p := ⟨w.heap.size, 0, none⟩) (by simp; omega)).trans (by go_simp)
  have r1 : w1.cell? ⟨w.heap.size + 1, 0, none⟩ = some (.slice none 0 0) := (hb.cell (p := ⟨w.heap.size + 1, 0, none⟩) (by simp)).trans (by go_simp)
  have f0 : w1.frozen? ⟨w.heap.size, 0, none⟩ = false := (hb.frozen (p := ⟨w.heap.size, 0, none⟩) (by simp; omega)).trans (by go_simp)
  have f1 : w1.frozen? ⟨w.heap.size + 1, 0, none⟩ = false := (hb.frozen (p := ⟨w.heap.size + 1, 0, none⟩) (by simp)).trans (by go_simp)
  have hbw : Below w.heap.size w w1 := (hb0 _ _).trans (hb.mono (by simp; omega))
  have HSA := hide sa
  have HSB := hide sb
  have HBW := hide hbw
  clear sa sb hb hbw hb0
  go_wp2
  refine bodyPost_ret (v := .tuple #[.agg #[.slice ra n rc], .agg #[.slice rb m rd]]) (by simp [results, Try.results8, go_sem, r0, r1]) rfl ⟨ra, n, rc, xs, rb, m, rd, ys, rfl, ?_, ?_, ?_⟩
  · exact ((HSA.out.setCell (by show w.heap.size < _; omega) _).setCell (by show w.heap.size + 1 < _; omega) _).lo (by omega)
  · exact ((HSB.out.setCell (by show w.heap.size < _; omega) _).setCell (by show w.heap.size + 1 < _; omega) _).lo (by omega)
  · exact (HBW.out.setCell (Nat.le_refl _) _).setCell (by show w.heap.size ≤ w.heap.size + 1; omega) _

set_option maxRecDepth 100000 in
theorem l1Later_calls (a : Option Addr) (len cap : Nat) (w : World) :
    Calls Try.prog 42 #[.slice a len cap, .int .i64 3] w fun e w' => e = .returned (.pointer (some ⟨w.heap.size, 0, none⟩)) ∧ w' = w.alloc (.cells #[.slice a len cap, .int .i64 26] 105) := by
  go_enter Try.func42, Try.ntmps42
  go_wp2
  go_ret
  exact ⟨rfl, rfl⟩

theorem Cd.src26 {w : World} {a : Option Addr} {len cap : Nat} (h : Cd w a len) (t : TypeId) : Src (w.alloc (.cells #[.slice a len cap, .int .i64 26] t)) w.heap.size a len cap 26 :=
  ⟨by simp, by simp, by simp, by simp, h.1, fun hp => by
    obtain ⟨b, off, e, h1, h2⟩ := h.2 hp
    exact ⟨b, off, e, h1, fun i hi => by obtain ⟨v, v0, v1, hv⟩ := h2 i hi; exact ⟨v, v0, v1, (World.cell?_alloc_past _ _ _ h1).trans hv⟩⟩⟩

theorem owns_fr {w : World} {B0 lo : Nat} {e : TypeId} {v : Value} {n : Nat} {zs : List Int} (hn : n ≤ 4) (hl : lo ≤ B0) (h : w.ownsRow B0 e 1 v n (zs.map (Value.int .i64))) : ∃ a c, v = .slice a n c ∧ Fr w lo a n zs := by
  obtain ⟨a, c, e, ho⟩ := owns_osl (by omega) h
  exact ⟨a, c, e, ho.fr hn hl⟩

end Go.Proofs.Ytjahlhibgnbkgaa
