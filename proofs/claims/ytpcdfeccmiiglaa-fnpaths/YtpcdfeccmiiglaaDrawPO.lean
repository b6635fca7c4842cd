import Derived.Test.YtpcdfeccmiiglaaL11B
import Derived.WalkKit
import Derived.ProofKit
import Derived.OpenShut
import Derived.ShutString
import Derived.ChangeOld
import Derived.Below
import Derived.WalkSpells
import Derived.Deep.QuietTactic
import Derived.BigQuiet
import Derived.Deep.RegionWith
import Derived.Deep.WholeRow
import Derived.Deep.DeepCutAuto
import Derived.Deep.RegionHeld2
import Derived.Deep.AppendLies
import Derived.Deep.RegionLaw
namespace Go.Proofs.Ytpcdfeccmiiglaa
open Go.ChangeShapes Go.WideShapes Go.ChangeAt Go.RowKit

/-- the bytes of a code. -/
def Cd (w : World) (a : Option Addr) (len : Nat) : Prop :=
  len ≤ 1048576 ∧ (0 < len → ∃ b off, a = some ⟨b, off, none⟩ ∧ b < w.heap.size ∧ ∀ i, i < len → ∃ v : Int, 0 ≤ v ∧ v ≤ 255 ∧ w.cell? ⟨b, off + i, none⟩ = some (.int .u8 v))

theorem Cd.below {w u : World} {a : Option Addr} {len : Nat} (h : Cd w a len) (hb : Below w.heap.size w u) : Cd u a len :=
  ⟨h.1, fun hp => by
    obtain ⟨b, off, e, h1, h2⟩ := h.2 hp
    exact ⟨b, off, e, by have := hb.size; omega, fun i hi => by obtain ⟨v, v0, v1, hv⟩ := h2 i hi; exact ⟨v, v0, v1, (hb.cell (p := ⟨b, off + i, none⟩) h1).trans hv⟩⟩⟩

theorem Cd.src {w : World} {a : Option Addr} {len cap : Nat} (h : Cd w a len) (t : TypeId) : Src (w.alloc (.cells #[.slice a len cap, .int .i64 0] t)) w.heap.size a len cap 0 :=
  ⟨by simp, by simp, by simp, by simp, h.1, fun hp => by
    obtain ⟨b, off, e, h1, h2⟩ := h.2 hp
    exact ⟨b, off, e, h1, fun i hi => by obtain ⟨v, v0, v1, hv⟩ := h2 i hi; exact ⟨v, v0, v1, (World.cell?_alloc_past _ _ _ h1).trans hv⟩⟩⟩

set_option maxRecDepth 100000 in
theorem l1Source_calls (a : Option Addr) (len cap : Nat) (w : World) :
    Calls Try.prog 35 #[.slice a len cap] w fun e w' => e = .returned (.pointer (some ⟨w.heap.size, 0, none⟩)) ∧ w' = w.alloc (.cells #[.slice a len cap, .int .i64 0] 108) := by
  go_enter Try.func35, Try.ntmps35
  go_wp2
  go_ret
  exact ⟨rfl, rfl⟩

/-- what a draw of a kernel and a number gives. -/
def DrewPO (w : World) (e : Ending) (w' : World) : Prop :=
  ∃ (ra : Option Addr) (n rc : Nat) (xs : List OB) (x : Int), e = .returned (.tuple #[.agg #[.slice ra n rc], .int .i64 x]) ∧ SobS (InR w.heap.size w'.heap.size) ra n xs w' ∧ n ≤ rc ∧ Below w.heap.size w w'

/-- the result's cell is written: what it holds stays. -/
theorem sob_fin {w X : World} {B T : Nat} {cs : List (Nat × Nat × Value)} {ra : Option Addr} {n : Nat} {xs : List OB} (M : Mm w X cs [(B, T, SobS (InR B T) ra n xs)]) (hB : w.heap.size < B) (hT : T ≤ X.heap.size) (v0 : Value) :
    SobS (InR w.heap.size (X.setCell ⟨w.heap.size, 0, none⟩ v0).heap.size) ra n xs (X.setCell ⟨w.heap.size, 0, none⟩ v0) ∧ Below w.heap.size w (X.setCell ⟨w.heap.size, 0, none⟩ v0) := by
  have hn : ¬ InR B T w.heap.size := fun e => by have := e.1; omega
  exact ⟨(SobS.loc.setC (M.get 0 rfl) (q := ⟨w.heap.size, 0, none⟩) hn v0).mono (fun k hk => ⟨by have := hk.1; omega, by have := hk.2; simp; omega⟩), M.bel.setCell (by simp) _⟩

set_option maxRecDepth 100000 in
set_option maxHeartbeats 2000000 in
theorem drawPathOf_calls (a : Option Addr) (len cap : Nat) (w : World) (hc : Cd w a len) :
    Calls Try.prog 7 #[.slice a len cap] w (DrewPO w) := by
  have M0 := (Mm.start w).alloc1 (.slice none 0 0) 26
  have S0 := (hc.below M0.bel).src (cap := cap) 108
  have M1 := M0.below ((Below.refl _ _).alloc (Nat.le_refl _) (.cells #[.slice a len cap, .int .i64 0] 108))
  simp only [World.size_alloc] at S0
  clear M0
  go_enter Try.func7, Try.ntmps7
  go_wp2_with (go_at_call 35; refine (l1Source_calls a len cap _).mono ?_; rintro e w0 ⟨rfl, rfl⟩)
  refine (l11Bent_calls (w.heap.size + 1) a len cap 0 _ (by omega) S0).mono ?_
  rintro e w1 ⟨ra, n, rc, xs, t1, rfl, tb, hnc, s1, ht1, u1⟩
  have z1 := u1.size
  simp only [World.size_alloc] at z1 tb
  have M2 := (M1.out (OutS.of_outside u1) (by omega) (by simp) (by simp)).fact SobS.loc tb
  clear M1 S0 u1 tb
  go_wp2_with fail
  refine (l1Next_calls (w.heap.size + 1) a len cap (t1) 8 _ (by omega) (by omega) (by omega) s1).mono ?_
  rintro e w2 ⟨x1, rfl, a1, b1, s2, u2⟩
  have M3 := M2.out (OutS.of_outside u2) (by omega) (by simp) (by simp <;> omega)
  have z2 := u2.size
  clear M2 s1 u2
  have c0 := M3.cell 0 rfl
  have f0 := M3.fz 0 rfl
  have HM := hide M3
  clear M3
  go_wp2
  obtain ⟨h1, h2⟩ := sob_fin HM.out (by omega) (by omega) (.slice ra n rc)
  exact bodyPost_ret (v := .tuple #[.agg #[.slice ra n rc], .int .i64 (x1 - 1)]) (by simp [results, Try.results7, go_sem, c0]) rfl ⟨ra, n, rc, xs, x1 - 1, rfl, h1, hnc, h2⟩

end Go.Proofs.Ytpcdfeccmiiglaa
