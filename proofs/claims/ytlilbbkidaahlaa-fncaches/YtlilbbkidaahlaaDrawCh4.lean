import Derived.Test.YtlilbbkidaahlaaDrawCh3
import Derived.WalkKit
import Derived.ProofKit
import Derived.OpenShut
import Derived.ShutString
import Derived.ChangeOld
import Derived.Below
import Derived.WalkSpells
import Derived.Deep.QuietTactic
import Derived.BigQuiet
import Derived.Deep.RegionWith
import Derived.Deep.WholeRow
import Derived.Deep.DeepCutAuto
import Derived.Deep.RegionHeld2
import Derived.Deep.AppendLies
import Derived.Deep.RegionLaw
namespace Go.Proofs.Ytlilbbkidaahlaa
open Go.ChangeShapes Go.WideShapes Go.ChangeAt Go.RowKit

/-- l4Bent's contract, as a proposition. -/
def L4BentOK : Prop := ∀ (p : Nat) (a : Option Addr) (len cap t : Nat) (w : World), t ≤ 980000 → Src w p a len cap t → Calls Try.prog 14 #[.pointer (some ⟨p, 0, none⟩)] w (BentC p a len cap t w)

/-- the bytes of a code. -/
def Cd (w : World) (a : Option Addr) (len : Nat) : Prop :=
  len ≤ 1048576 ∧ (0 < len → ∃ b off, a = some ⟨b, off, none⟩ ∧ b < w.heap.size ∧ ∀ i, i < len → ∃ v : Int, 0 ≤ v ∧ v ≤ 255 ∧ w.cell? ⟨b, off + i, none⟩ = some (.int .u8 v))

theorem Cd.below {w u : World} {a : Option Addr} {len : Nat} (h : Cd w a len) (hb : Below w.heap.size w u) : Cd u a len :=
  ⟨h.1, fun hp => by
    obtain ⟨b, off, e, h1, h2⟩ := h.2 hp
    exact ⟨b, off, e, by have := hb.size; omega, fun i hi => by obtain ⟨v, v0, v1, hv⟩ := h2 i hi; exact ⟨v, v0, v1, (hb.cell (p := ⟨b, off + i, none⟩) h1).trans hv⟩⟩⟩

theorem Cd.src {w : World} {a : Option Addr} {len cap : Nat} (h : Cd w a len) (t : TypeId) : Src (w.alloc (.cells #[.slice a len cap, .int .i64 0] t)) w.heap.size a len cap 0 :=
  ⟨by simp, by simp, by simp, by simp, h.1, fun hp => by
    obtain ⟨b, off, e, h1, h2⟩ := h.2 hp
    exact ⟨b, off, e, h1, fun i hi => by obtain ⟨v, v0, v1, hv⟩ := h2 i hi; exact ⟨v, v0, v1, (World.cell?_alloc_past _ _ _ h1).trans hv⟩⟩⟩

set_option maxRecDepth 100000 in
theorem l1Source_calls (a : Option Addr) (len cap : Nat) (w : World) :
    Calls Try.prog 13 #[.slice a len cap] w fun e w' => e = .returned (.pointer (some ⟨w.heap.size, 0, none⟩)) ∧ w' = w.alloc (.cells #[.slice a len cap, .int .i64 0] 62) := by
  go_enter Try.func13, Try.ntmps13
  go_wp2
  go_ret
  exact ⟨rfl, rfl⟩

/-- what DrawLookCache gives. -/
def DrewL (w : World) (e : Ending) (w' : World) : Prop :=
  ∃ (s : Int) (ra : Option Addr) (n rc : Nat) (ls : List (Int × Int × Int)) (d g : Int), e = .returned (.tuple #[.agg #[.int .i64 s, .slice ra n rc], .int .i64 d, .int .i64 g]) ∧ OL (InR w.heap.size w'.heap.size) ra n ls w' ∧ n ≤ 7 ∧ n ≤ rc ∧ Below w.heap.size w w'

theorem DrewL.mk {w w' : World} {s : Int} {ra : Option Addr} {n rc : Nat} {ls : List (Int × Int × Int)} {d g : Int} (h1 : OL (InR w.heap.size w'.heap.size) ra n ls w') (h2 : n ≤ 7) (h3 : n ≤ rc) (h4 : Below w.heap.size w w') : DrewL w (.returned (.tuple #[.agg #[.int .i64 s, .slice ra n rc], .int .i64 d, .int .i64 g])) w' := ⟨s, ra, n, rc, ls, d, g, rfl, h1, h2, h3, h4⟩

set_option maxRecDepth 100000 in
set_option maxHeartbeats 1000000 in
theorem drawLookCache_calls (hB : L4BentOK) (a : Option Addr) (len cap : Nat) (w : World) (hc : Cd w a len) :
    Calls Try.prog 7 #[.slice a len cap] w (DrewL w) := by
  have M0 := (Mm.start w).alloc2 (.int .i64 0) (.slice none 0 0) 26
  have S0 := (hc.below M0.bel).src (cap := cap) 62
  have M1 := M0.below ((Below.refl _ _).alloc (Nat.le_refl _) (.cells #[.slice a len cap, .int .i64 0] 62))
  simp only [World.size_alloc] at S0
  clear M0
  go_enter Try.func7, Try.ntmps7
  go_wp2_with (go_at_call 13; refine (l1Source_calls a len cap _).mono ?_; rintro e w0 ⟨rfl, rfl⟩)
  refine (hB (w.heap.size + 1) a len cap 0 _ (by omega) S0).mono ?_
  rintro e w1 ⟨s, ra, n, rc, ls, t1, rfl, o1, hn, hrc, s1, ht1, u1⟩
  have z1 := u1.size
  simp only [World.size_alloc] at z1 o1
  have M2 := (M1.out (OutS.of_outside u1) (by omega) (by simp) (by simp)).fact OL.loc o1
  clear M1 S0 u1 o1
  go_wp2_with fail
  refine (l1Next_calls (w.heap.size + 1) a len cap t1 3 _ (by omega) (by omega) (by omega) s1).mono ?_
  rintro e w2 ⟨d, rfl, _, _, s2, u2⟩
  have M3 := M2.out (OutS.of_outside u2) (by omega) (by simp) (by simp)
  have z2 := u2.size
  clear M2 s1 u2
  go_wp2_with fail
  refine (l1Next_calls (w.heap.size + 1) a len cap (t1 + 1) 4 _ (by omega) (by omega) (by omega) s2).mono ?_
  rintro e w3 ⟨g, rfl, _, _, s3, u3⟩
  have M4 := M3.out (OutS.of_outside u3) (by omega) (by simp) (by simp)
  have z3 := u3.size
  clear M3 s2 s3 u3
  have c0 := M4.cell 0 rfl
  have c1 := M4.cell 1 rfl
  have f0 := M4.fz 0 rfl
  have f1 := M4.fz 1 rfl
  have HB := hide M4.bel
  have HO := hide (M4.get 0 rfl)
  clear M4
  go_wp2
  exact bodyPost_ret (v := .tuple #[.agg #[.int .i64 s, .slice ra n rc], .int .i64 d, .int .i64 g]) (by simp [results, Try.results7, go_sem, c0, c1]) rfl (DrewL.mk
    ((OL.loc.setC (OL.loc.setC HO.out (q := ⟨w.heap.size, 0, none⟩) (fun e => by have := e.1; simp only at this; omega) _) (q := ⟨w.heap.size, 1, none⟩) (fun e => by have := e.1; simp only at this; omega) _).mono (fun k hk => ⟨by have := hk.1; omega, by have := hk.2; simp; omega⟩)) hn hrc ((HB.out.setCell (by simp) _).setCell (by simp) _))

end Go.Proofs.Ytlilbbkidaahlaa
