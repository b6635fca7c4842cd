import Derived.Test.YtpkndgkkakomiaaDrawW2
import Derived.WalkKit
import Derived.ProofKit
import Derived.OpenShut
import Derived.ShutString
import Derived.ChangeOld
import Derived.Below
import Derived.WalkSpells
import Derived.Deep.QuietTactic
import Derived.BigQuiet
import Derived.Deep.RegionWith
import Derived.Deep.WholeRow
import Derived.Deep.DeepCutAuto
import Derived.Deep.RegionHeld2
import Derived.Deep.AppendLies
import Derived.Deep.RegionLaw
namespace Go.Proofs.Ytpkndgkkakomiaa
open Go.ChangeShapes Go.WideShapes Go.ChangeAt Go.RowKit

/-- the bytes of a code. -/
def Cd (w : World) (a : Option Addr) (len : Nat) : Prop :=
  len ≤ 1048576 ∧ (0 < len → ∃ b off, a = some ⟨b, off, none⟩ ∧ b < w.heap.size ∧ ∀ i, i < len → ∃ v : Int, 0 ≤ v ∧ v ≤ 255 ∧ w.cell? ⟨b, off + i, none⟩ = some (.int .u8 v))

theorem Cd.below {w u : World} {a : Option Addr} {len : Nat} (h : Cd w a len) (hb : Below w.heap.size w u) : Cd u a len :=
  ⟨h.1, fun hp => by
    obtain ⟨b, off, e, h1, h2⟩ := h.2 hp
    exact ⟨b, off, e, by have := hb.size; omega, fun i hi => by obtain ⟨v, v0, v1, hv⟩ := h2 i hi; exact ⟨v, v0, v1, (hb.cell (p := ⟨b, off + i, none⟩) h1).trans hv⟩⟩⟩

theorem Cd.src {w : World} {a : Option Addr} {len cap : Nat} (h : Cd w a len) (t : TypeId) : Src (w.alloc (.cells #[.slice a len cap, .int .i64 0] t)) w.heap.size a len cap 0 :=
  ⟨by simp, by simp, by simp, by simp, h.1, fun hp => by
    obtain ⟨b, off, e, h1, h2⟩ := h.2 hp
    exact ⟨b, off, e, h1, fun i hi => by obtain ⟨v, v0, v1, hv⟩ := h2 i hi; exact ⟨v, v0, v1, (World.cell?_alloc_past _ _ _ h1).trans hv⟩⟩⟩

set_option maxRecDepth 100000 in
theorem l1Source_calls (a : Option Addr) (len cap : Nat) (w : World) :
    Calls Try.prog 19 #[.slice a len cap] w fun e w' => e = .returned (.pointer (some ⟨w.heap.size, 0, none⟩)) ∧ w' = w.alloc (.cells #[.slice a len cap, .int .i64 0] 61) := by
  go_enter Try.func19, Try.ntmps19
  go_wp2
  go_ret
  exact ⟨rfl, rfl⟩

theorem litN {wr : World} {t : TypeId} (zs : List Int) : ∀ i, i < zs.length → (wr.alloc (.cells (zs.map (Value.int .i64)).toArray t)).cell? ⟨wr.heap.size, i, none⟩ = some (.int .i64 (gt zs i)) := new_at zs

/-- what a draw of a memory and numbers gives. -/
def DrewM (k : Nat) (w : World) (e : Ending) (w' : World) : Prop :=
  ∃ (ra : Option Addr) (n rc : Nat) (ls : List (Int × Int)) (xs : List Int), xs.length = k ∧ e = .returned (.tuple (.agg #[.slice ra n rc] :: xs.map (Value.int .i64)).toArray) ∧ OWd (InR w.heap.size w'.heap.size) ra n ls w' ∧ n ≤ 33 ∧ Below w.heap.size w w'

set_option maxRecDepth 100000 in
set_option maxHeartbeats 1000000 in
theorem drawStoreWord_calls (a : Option Addr) (len cap : Nat) (w : World) (hc : Cd w a len) :
    Calls Try.prog 5 #[.slice a len cap] w (DrewM 2 w) := by
  have M0 := (Mm.start w).alloc1 (.slice none 0 0) 26
  have S0 := (hc.below M0.bel).src (cap := cap) 61
  have M1 := M0.below ((Below.refl _ _).alloc (Nat.le_refl _) (.cells #[.slice a len cap, .int .i64 0] 61))
  simp only [World.size_alloc] at S0
  clear M0
  go_enter Try.func5, Try.ntmps5
  go_wp2_with (go_at_call 19; refine (l1Source_calls a len cap _).mono ?_; rintro e w0 ⟨rfl, rfl⟩)
  refine (l6Bent_calls (w.heap.size + 1) a len cap 0 _ (by omega) S0).mono ?_
  rintro e w1 ⟨ra, n, rc, ls, t1, rfl, o1, hn, s1, ht1, u1⟩
  have z1 := u1.size
  simp only [World.size_alloc] at z1 o1
  have M2 := (M1.out (OutS.of_outside u1) (by omega) (by simp) (by simp)).fact OWd.loc o1
  clear M1 S0 u1 o1
  go_wp2_with fail
  refine (l1Next_calls (w.heap.size + 1) a len cap (t1) 18 _ (by omega) (by omega) (by omega) s1).mono ?_
  rintro e w2 ⟨x1, rfl, _, _, s2, u2⟩
  have M3 := M2.out (OutS.of_outside u2) (by omega) (by simp) (by simp)
  have z2 := u2.size
  clear M2 s1 u2
  go_wp2_with fail
  refine (l1NextBig_calls (w.heap.size + 1) a len cap (t1 + 1) 65536 _ (by omega) (by omega) (by omega) s2).mono ?_
  rintro e w3 ⟨x2, rfl, _, _, s3, u3⟩
  have M4 := M3.out (OutS.of_outside u3) (by omega) (by simp) (by simp)
  have z3 := u3.size
  clear M3 s2 u3
  have al := (Below.refl w3.heap.size w3).alloc (Nat.le_refl _) (.cells #[.int .i64 (x2), .int .i64 (65536), .int .i64 (-1)] 2)
  have sl := s3.below al
  have Ml := M4.below al
  have hlit := @litN w3 2 [x2, 65536, -1]
  clear s3 M4 al
  go_wp2_with fail
  refine (l1PickM_calls (w.heap.size + 1) a len cap (t1 + 1 + 1) w3.heap.size 3 3 [x2, 65536, -1] _ (by omega) (by omega) (by omega) sl (by omega) (by simp) rfl hlit).mono ?_
  rintro e w4 ⟨j, _, rfl, s4, u4⟩
  generalize gt [x2, 65536, -1] j = x3
  have M5 := Ml.out (OutS.of_outside u4) (by omega) (by simp) (by simp)
  have z4 := u4.size
  simp only [World.size_alloc] at z4
  clear Ml sl hlit u4
  clear s4
  have c0 := M5.cell 0 rfl
  have f0 := M5.fz 0 rfl
  have HB := hide M5.bel
  have HO := hide (M5.get 0 rfl)
  clear M5
  go_wp2
  exact bodyPost_ret (v := .tuple #[.agg #[.slice ra n rc], .int .i64 (x1 - 1), .int .i64 (x3)]) (by simp [results, Try.results5, go_sem, c0]) rfl ⟨ra, n, rc, ls, [x1 - 1, x3], rfl, rfl, (OWd.loc.setC HO.out (q := ⟨w.heap.size, 0, none⟩) (fun e => by have h1 : w.heap.size + 1 + 1 + 1 ≤ w.heap.size := e.1; omega) _).mono (fun k hk => ⟨by have := hk.1; omega, by have := hk.2; simp; omega⟩), hn, HB.out.setCell (by simp) _⟩

set_option maxRecDepth 100000 in
set_option maxHeartbeats 1000000 in
theorem drawRetagWords_calls (a : Option Addr) (len cap : Nat) (w : World) (hc : Cd w a len) :
    Calls Try.prog 7 #[.slice a len cap] w (DrewM 3 w) := by
  have M0 := (Mm.start w).alloc1 (.slice none 0 0) 26
  have S0 := (hc.below M0.bel).src (cap := cap) 61
  have M1 := M0.below ((Below.refl _ _).alloc (Nat.le_refl _) (.cells #[.slice a len cap, .int .i64 0] 61))
  simp only [World.size_alloc] at S0
  clear M0
  go_enter Try.func7, Try.ntmps7
  go_wp2_with (go_at_call 19; refine (l1Source_calls a len cap _).mono ?_; rintro e w0 ⟨rfl, rfl⟩)
  refine (l6Bent_calls (w.heap.size + 1) a len cap 0 _ (by omega) S0).mono ?_
  rintro e w1 ⟨ra, n, rc, ls, t1, rfl, o1, hn, s1, ht1, u1⟩
  have z1 := u1.size
  simp only [World.size_alloc] at z1 o1
  have M2 := (M1.out (OutS.of_outside u1) (by omega) (by simp) (by simp)).fact OWd.loc o1
  clear M1 S0 u1 o1
  go_wp2_with fail
  refine (l1Next_calls (w.heap.size + 1) a len cap (t1) 12 _ (by omega) (by omega) (by omega) s1).mono ?_
  rintro e w2 ⟨x1, rfl, _, _, s2, u2⟩
  have M3 := M2.out (OutS.of_outside u2) (by omega) (by simp) (by simp)
  have z2 := u2.size
  clear M2 s1 u2
  go_wp2_with fail
  refine (l1Next_calls (w.heap.size + 1) a len cap (t1 + 1) 7 _ (by omega) (by omega) (by omega) s2).mono ?_
  rintro e w3 ⟨x2, rfl, _, _, s3, u3⟩
  have M4 := M3.out (OutS.of_outside u3) (by omega) (by simp) (by simp)
  have z3 := u3.size
  clear M3 s2 u3
  have al := (Below.refl w3.heap.size w3).alloc (Nat.le_refl _) (.cells #[.int .i64 (0), .int .i64 (2), .int .i64 (6), .int .i64 (7)] 2)
  have sl := s3.below al
  have Ml := M4.below al
  have hlit := @litN w3 2 [0, 2, 6, 7]
  clear s3 M4 al
  go_wp2_with fail
  refine (l1PickM_calls (w.heap.size + 1) a len cap (t1 + 1 + 1) w3.heap.size 4 4 [0, 2, 6, 7] _ (by omega) (by omega) (by omega) sl (by omega) (by simp) rfl hlit).mono ?_
  rintro e w4 ⟨j, _, rfl, s4, u4⟩
  generalize gt [0, 2, 6, 7] j = x3
  have M5 := Ml.out (OutS.of_outside u4) (by omega) (by simp) (by simp)
  have z4 := u4.size
  simp only [World.size_alloc] at z4
  clear Ml sl hlit u4
  clear s4
  have c0 := M5.cell 0 rfl
  have f0 := M5.fz 0 rfl
  have HB := hide M5.bel
  have HO := hide (M5.get 0 rfl)
  clear M5
  go_wp2
  exact bodyPost_ret (v := .tuple #[.agg #[.slice ra n rc], .int .i64 (x1 - 1), .int .i64 (x2 - 1), .int .i64 (x3)]) (by simp [results, Try.results7, go_sem, c0]) rfl ⟨ra, n, rc, ls, [x1 - 1, x2 - 1, x3], rfl, rfl, (OWd.loc.setC HO.out (q := ⟨w.heap.size, 0, none⟩) (fun e => by have h1 : w.heap.size + 1 + 1 + 1 ≤ w.heap.size := e.1; omega) _).mono (fun k hk => ⟨by have := hk.1; omega, by have := hk.2; simp; omega⟩), hn, HB.out.setCell (by simp) _⟩

set_option maxRecDepth 100000 in
set_option maxHeartbeats 1000000 in
theorem drawCountTag_calls (a : Option Addr) (len cap : Nat) (w : World) (hc : Cd w a len) :
    Calls Try.prog 11 #[.slice a len cap] w (DrewM 1 w) := by
  have M0 := (Mm.start w).alloc1 (.slice none 0 0) 26
  have S0 := (hc.below M0.bel).src (cap := cap) 61
  have M1 := M0.below ((Below.refl _ _).alloc (Nat.le_refl _) (.cells #[.slice a len cap, .int .i64 0] 61))
  simp only [World.size_alloc] at S0
  clear M0
  go_enter Try.func11, Try.ntmps11
  go_wp2_with (go_at_call 19; refine (l1Source_calls a len cap _).mono ?_; rintro e w0 ⟨rfl, rfl⟩)
  refine (l6Bent_calls (w.heap.size + 1) a len cap 0 _ (by omega) S0).mono ?_
  rintro e w1 ⟨ra, n, rc, ls, t1, rfl, o1, hn, s1, ht1, u1⟩
  have z1 := u1.size
  simp only [World.size_alloc] at z1 o1
  have M2 := (M1.out (OutS.of_outside u1) (by omega) (by simp) (by simp)).fact OWd.loc o1
  clear M1 S0 u1 o1
  go_wp2_with fail
  refine (l1Next_calls (w.heap.size + 1) a len cap (t1) 5 _ (by omega) (by omega) (by omega) s1).mono ?_
  rintro e w2 ⟨x1, rfl, _, _, s2, u2⟩
  have M3 := M2.out (OutS.of_outside u2) (by omega) (by simp) (by simp)
  have z2 := u2.size
  clear M2 s1 u2
  clear s2
  have c0 := M3.cell 0 rfl
  have f0 := M3.fz 0 rfl
  have HB := hide M3.bel
  have HO := hide (M3.get 0 rfl)
  clear M3
  go_wp2
  exact bodyPost_ret (v := .tuple #[.agg #[.slice ra n rc], .int .i64 (x1)]) (by simp [results, Try.results11, go_sem, c0]) rfl ⟨ra, n, rc, ls, [x1], rfl, rfl, (OWd.loc.setC HO.out (q := ⟨w.heap.size, 0, none⟩) (fun e => by have h1 : w.heap.size + 1 + 1 + 1 ≤ w.heap.size := e.1; omega) _).mono (fun k hk => ⟨by have := hk.1; omega, by have := hk.2; simp; omega⟩), hn, HB.out.setCell (by simp) _⟩

set_option maxRecDepth 100000 in
set_option maxHeartbeats 1000000 in
theorem drawMemoryFault_calls (a : Option Addr) (len cap : Nat) (w : World) (hc : Cd w a len) :
    Calls Try.prog 12 #[.slice a len cap] w (DrewM 1 w) := by
  have M0 := (Mm.start w).alloc1 (.slice none 0 0) 26
  have S0 := (hc.below M0.bel).src (cap := cap) 61
  have M1 := M0.below ((Below.refl _ _).alloc (Nat.le_refl _) (.cells #[.slice a len cap, .int .i64 0] 61))
  simp only [World.size_alloc] at S0
  clear M0
  go_enter Try.func12, Try.ntmps12
  go_wp2_with (go_at_call 19; refine (l1Source_calls a len cap _).mono ?_; rintro e w0 ⟨rfl, rfl⟩)
  refine (l6Bent_calls (w.heap.size + 1) a len cap 0 _ (by omega) S0).mono ?_
  rintro e w1 ⟨ra, n, rc, ls, t1, rfl, o1, hn, s1, ht1, u1⟩
  have z1 := u1.size
  simp only [World.size_alloc] at z1 o1
  have M2 := (M1.out (OutS.of_outside u1) (by omega) (by simp) (by simp)).fact OWd.loc o1
  clear M1 S0 u1 o1
  have al := (Below.refl w1.heap.size w1).alloc (Nat.le_refl _) (.cells #[.int .i64 (3), .int .i64 (6), .int .i64 (2), .int .i64 (0), .int .i64 (7)] 2)
  have sl := s1.below al
  have Ml := M2.below al
  have hlit := @litN w1 2 [3, 6, 2, 0, 7]
  clear s1 M2 al
  go_wp2_with fail
  refine (l1PickM_calls (w.heap.size + 1) a len cap (t1) w1.heap.size 5 5 [3, 6, 2, 0, 7] _ (by omega) (by omega) (by omega) sl (by omega) (by simp) rfl hlit).mono ?_
  rintro e w2 ⟨j, _, rfl, s2, u2⟩
  generalize gt [3, 6, 2, 0, 7] j = x1
  have M3 := Ml.out (OutS.of_outside u2) (by omega) (by simp) (by simp)
  have z2 := u2.size
  simp only [World.size_alloc] at z2
  clear Ml sl hlit u2
  clear s2
  have c0 := M3.cell 0 rfl
  have f0 := M3.fz 0 rfl
  have HB := hide M3.bel
  have HO := hide (M3.get 0 rfl)
  clear M3
  go_wp2
  exact bodyPost_ret (v := .tuple #[.agg #[.slice ra n rc], .int .i64 (x1)]) (by simp [results, Try.results12, go_sem, c0]) rfl ⟨ra, n, rc, ls, [x1], rfl, rfl, (OWd.loc.setC HO.out (q := ⟨w.heap.size, 0, none⟩) (fun e => by have h1 : w.heap.size + 1 + 1 + 1 ≤ w.heap.size := e.1; omega) _).mono (fun k hk => ⟨by have := hk.1; omega, by have := hk.2; simp; omega⟩), hn, HB.out.setCell (by simp) _⟩

end Go.Proofs.Ytpkndgkkakomiaa
