import Derived.Test.YtdcfdmcooonfkaaPsB
import Derived.Test.YtdcfdmcooonfkaaPaT
import Derived.WalkKit
import Derived.ProofKit
import Derived.OpenShut
import Derived.ShutString
import Derived.ChangeOld
import Derived.Below
import Derived.WalkSpells
import Derived.Deep.QuietTactic
import Derived.BigQuiet
import Derived.Deep.RegionWith
import Derived.Deep.WholeRow
import Derived.Deep.DeepCutAuto
import Derived.Deep.RegionHeld2
import Derived.Deep.AppendLies
import Derived.Deep.RegionLaw
namespace Go.Proofs.Ytdcfdmcooonfkaa
open Go.ChangeShapes Go.WideShapes Go.ChangeAt Go.RowKit

/-- the bytes of a code. -/
def Cd (w : World) (a : Option Addr) (len : Nat) : Prop :=
  len ≤ 1048576 ∧ (0 < len → ∃ b off, a = some ⟨b, off, none⟩ ∧ b < w.heap.size ∧ ∀ i, i < len → ∃ v : Int, 0 ≤ v ∧ v ≤ 255 ∧ w.cell? ⟨b, off + i, none⟩ = some (.int .u8 v))

theorem Cd.below {w u : World} {a : Option Addr} {len : Nat} (h : Cd w a len) (hb : Below w.heap.size w u) : Cd u a len :=
  ⟨h.1, fun hp => by
    obtain ⟨b, off, e, h1, h2⟩ := h.2 hp
    exact ⟨b, off, e, by have := hb.size; omega, fun i hi => by obtain ⟨v, v0, v1, hv⟩ := h2 i hi; exact ⟨v, v0, v1, (hb.cell (p := ⟨b, off + i, none⟩) h1).trans hv⟩⟩⟩

theorem Cd.src {w : World} {a : Option Addr} {len cap : Nat} (h : Cd w a len) (t : TypeId) : Src (w.alloc (.cells #[.slice a len cap, .int .i64 0] t)) w.heap.size a len cap 0 :=
  ⟨by simp, by simp, by simp, by simp, h.1, fun hp => by
    obtain ⟨b, off, e, h1, h2⟩ := h.2 hp
    exact ⟨b, off, e, h1, fun i hi => by obtain ⟨v, v0, v1, hv⟩ := h2 i hi; exact ⟨v, v0, v1, (World.cell?_alloc_past _ _ _ h1).trans hv⟩⟩⟩

set_option maxRecDepth 100000 in
theorem l1Source_calls (a : Option Addr) (len cap : Nat) (w : World) :
    Calls Try.prog 61 #[.slice a len cap] w fun e w' => e = .returned (.pointer (some ⟨w.heap.size, 0, none⟩)) ∧ w' = w.alloc (.cells #[.slice a len cap, .int .i64 0] 95) := by
  go_enter Try.func61, Try.ntmps61
  go_wp2
  go_ret
  exact ⟨rfl, rfl⟩

theorem Outside.cellB {B T : Nat} {w u : World} (h : Outside B T w u) {q : Addr} {v : Value} (hq : q.block < w.heap.size) (hn : q.block < B) (hv : w.cell? q = some v) : u.cell? q = some v := (World.cell?_of_block (h.block q.block hq (.inl hn))).trans hv

theorem Outside.frozenB {B T : Nat} {w u : World} (h : Outside B T w u) {q : Addr} {v : Bool} (hq : q.block < w.heap.size) (hn : q.block < B) (hv : w.frozen? q = v) : u.frozen? q = v := (World.frozen?_of_block (h.block q.block hq (.inl hn))).trans hv

theorem Fr.lo {w : World} {lo lo' : Nat} {a : Option Addr} {n : Nat} {xs : List Int} (h : Fr w lo a n xs) (hl : lo' ≤ lo) : Fr w lo' a n xs :=
  ⟨h.1, h.2.1, fun h0 => by obtain ⟨b, off, e, h1, h2⟩ := h.2.2 h0; exact ⟨b, off, e, by omega, h2⟩⟩

theorem OSl.fr {w : World} {B T lo : Nat} {a : Option Addr} {n : Nat} {rs : List Int} (h : OSl w B T a n rs) (h4 : n ≤ 4) (hl : lo ≤ B) : Fr w lo a n rs := by
  obtain ⟨h1, _, h2⟩ := h
  refine ⟨h1, h4, fun h0 => ?_⟩
  rcases h2 with ⟨_, h2⟩ | ⟨b, rfl, h3, _, hb⟩
  · omega
  · exact ⟨b, 0, rfl, by omega, hb.1, fun i hi => by rw [Nat.zero_add]; exact hb.2.1 i (by omega)⟩

theorem Fr.setAt {w : World} {lo Q : Nat} {a : Option Addr} {n : Nat} {xs : List Int} (h : Fr w lo a n xs) (hq : 0 < n → ∃ b off, a = some ⟨b, off, none⟩ ∧ b ≠ Q) (v : Value) : Fr (w.setCell ⟨Q, 0, none⟩ v) lo a n xs :=
  ⟨h.1, h.2.1, fun h0 => by
    obtain ⟨b, off, e, h1, h2, h3⟩ := h.2.2 h0
    obtain ⟨b', off', e', hne⟩ := hq h0
    have eb : b = b' := by rw [e] at e'; injection e' with e1; injection e1
    exact ⟨b, off, e, h1, by simpa using h2, fun i hi => by rw [World.cell?_setCell_other _ _ _ _ (fun e => by injection e with e1; omega)]; exact h3 i hi⟩⟩

set_option maxRecDepth 100000 in
set_option maxHeartbeats 4000000 in
theorem l1Two_calls (a : Option Addr) (len cap : Nat) (w : World) (hc : Cd w a len) :
    Calls Try.prog 47 #[.slice a len cap] w fun e w' => ∃ ra n rc xs rb m rd ys, e = .returned (.tuple #[.agg #[.slice ra n rc], .agg #[.slice rb m rd]]) ∧ Fr w' w.heap.size ra n xs ∧ Fr w' w.heap.size rb m ys ∧ Below w.heap.size w w' := by
  have hb0 := fun o1 o2 => ((Below.refl w.heap.size w).alloc (Nat.le_refl _) o1).alloc (by simp) o2
  go_enter Try.func47, Try.ntmps47
  go_wp2_with fail
  refine (l1Source_calls a len cap _).mono ?_
  rintro e w0 ⟨rfl, rfl⟩
  have S0 := (hc.below (hb0 (.cells #[.slice none 0 0] 26) (.cells #[.slice none 0 0] 26))).src (cap := cap) 95
  simp only [World.size_alloc] at S0 ⊢
  go_wp2_with fail
  refine (l1Bent_calls (w.heap.size + 1 + 1) a len cap 0 _ (by omega) S0).mono ?_
  rintro e w1 ⟨ra, n, rc, xs, t1, rfl, fa, s1, ht1, o1⟩
  simp only [World.size_alloc] at fa
  have z1 : w.heap.size + 3 ≤ w1.heap.size := by have := o1.size; simp at this; omega
  have ha1 := (Below.refl w1.heap.size w1).alloc (Nat.le_refl _) (.cells #[.slice ra n rc] 26)
  go_wp2_with fail
  refine (l1Bent_calls (w.heap.size + 1 + 1) a len cap t1 _ (by omega) (s1.below ha1)).mono ?_
  rintro e w2 ⟨rb, m, rd, ys, t2, rfl, fb, s2, ht2, o2⟩
  simp only [World.size_alloc] at fb
  have z2 : w1.heap.size + 1 ≤ w2.heap.size := by have := o2.size; simp at this; omega
  have ha2 := (Below.refl w2.heap.size w2).alloc (Nat.le_refl _) (.cells #[.slice rb m rd] 26)
  go_wp2_with fail
  refine (l1Chance_calls (w.heap.size + 1 + 1) a len cap t2 3 _ (by omega) (by omega) (by omega) (s2.below ha2)).mono ?_
  rintro e w3 ⟨q, rfl, s3, o3⟩
  have z3 : w2.heap.size + 1 ≤ w3.heap.size := by have := o3.size; simp at this; omega
  have hpl : w.heap.size + 1 + 1 < w.heap.size + 1 + 1 + 1 := by omega
  have OA := (((o1.trans (Outside.alloc _ _ _ _)).trans o2).trans (Outside.alloc _ _ _ _)).trans o3
  have r0 : w3.cell? ⟨w.heap.size, 0, none⟩ = some (.slice none 0 0) := OA.cellB (q := ⟨w.heap.size, 0, none⟩) (by simp; omega) (by show w.heap.size < _; omega) (by go_simp)
  have r1 : w3.cell? ⟨w.heap.size + 1, 0, none⟩ = some (.slice none 0 0) := OA.cellB (q := ⟨w.heap.size + 1, 0, none⟩) (by simp) (by show w.heap.size + 1 < _; omega) (by go_simp)
  have f0 : w3.frozen? ⟨w.heap.size, 0, none⟩ = false := OA.frozenB (q := ⟨w.heap.size, 0, none⟩) (by simp; omega) (by show w.heap.size < _; omega) (by go_simp)
  have f1 : w3.frozen? ⟨w.heap.size + 1, 0, none⟩ = false := OA.frozenB (q := ⟨w.heap.size + 1, 0, none⟩) (by simp) (by show w.heap.size + 1 < _; omega) (by go_simp)
  have xA : w3.cell? ⟨w1.heap.size, 0, none⟩ = some (.slice ra n rc) := ((o2.trans (Outside.alloc _ _ _ _)).trans o3).cell (q := ⟨w1.heap.size, 0, none⟩) (by simp) (by show _ ≤ w1.heap.size; omega) (by go_simp)
  have xB : w3.cell? ⟨w2.heap.size, 0, none⟩ = some (.slice rb m rd) := o3.cell (q := ⟨w2.heap.size, 0, none⟩) (by simp) (by show _ ≤ w2.heap.size; omega) (by go_simp)
  have xBf : w3.frozen? ⟨w2.heap.size, 0, none⟩ = false := o3.frozen (q := ⟨w2.heap.size, 0, none⟩) (by simp) (by show _ ≤ w2.heap.size; omega) (by go_simp)
  have fa3 := ((((fa.below ha1).outside o2 hpl).below ha2).outside o3 hpl)
  have fb3 := (fb.below ha2).outside o3 (by omega)
  have hbw : Below w.heap.size w w3 := ((hb0 _ _).alloc (by simp; omega) _).trans (OA.below (by omega) (by simp; omega))
  have hn4 : n ≤ 4 := fa.2.1
  have hAb : 0 < n → ∃ b off, ra = some ⟨b, off, none⟩ ∧ b ≠ w2.heap.size := fun h => by obtain ⟨b, off, e, _, h2, _⟩ := fa.2.2 h; exact ⟨b, off, e, by omega⟩
  have HFA := hide fa3
  have HFB := hide fb3
  have HBW := hide hbw
  clear OA o1 o2 o3 ha1 ha2 fa fb fa3 fb3 hbw s1 s2 s3 S0 hc hb0 hpl ht1 ht2
  have hA3 : w1.heap.size < w3.heap.size := by omega
  have hB3 : w2.heap.size < w3.heap.size := by omega
  have hj : (q = true ∧ n = m) ∨ (q = false ∨ n ≠ m) := by
    cases q
    · exact .inr (.inl rfl)
    · by_cases e : n = m
      · exact .inl ⟨rfl, e⟩
      · exact .inr (.inr e)
  rcases hj with ⟨rfl, rfl⟩ | hj
  · have hnn : ((n : Int) == (n : Int)) = true := by simp
    go_wp2_with fail
    refine (l1JoinO_calls w1.heap.size 0 w2.heap.size ra rb n rc rd xs ys _ (by omega) hA3 hB3 xA xB HFA.out.sl HFB.out.sl).mono ?_
    rintro e w4 ⟨rj, rjc, rfl, oj, hb4⟩
    have r04 := (hb4.cell (p := ⟨w.heap.size, 0, none⟩) (by show w.heap.size < _; omega)).trans r0
    have r14 := (hb4.cell (p := ⟨w.heap.size + 1, 0, none⟩) (by show w.heap.size + 1 < _; omega)).trans r1
    have f04 := (hb4.frozen (p := ⟨w.heap.size, 0, none⟩) (by show w.heap.size < _; omega)).trans f0
    have f14 := (hb4.frozen (p := ⟨w.heap.size + 1, 0, none⟩) (by show w.heap.size + 1 < _; omega)).trans f1
    have xA4 := (hb4.cell (p := ⟨w1.heap.size, 0, none⟩) hA3).trans xA
    have xB4 := (hb4.cell (p := ⟨w2.heap.size, 0, none⟩) hB3).trans xB
    have xBf4 := (hb4.frozen (p := ⟨w2.heap.size, 0, none⟩) hB3).trans xBf
    have HFA4 := hide (HFA.out.below hb4)
    have HOJ := hide oj
    have HB4 := hide (HBW.out.trans (hb4.mono HBW.out.size))
    clear r0 r1 f0 f1 xA xB xBf oj hb4
    have hBr : w2.heap.size ≠ w.heap.size := by omega
    have hBr1 : w2.heap.size ≠ w.heap.size + 1 := by omega
    have hBA : w2.heap.size ≠ w1.heap.size := by omega
    have r0U : (w4.setCell ⟨w2.heap.size, 0, none⟩ (.slice rj n rjc)).cell? ⟨w.heap.size, 0, none⟩ = some (.slice none 0 0) := (World.cell?_setCell_other _ _ _ _ (fun e => hBr (by injection e with e1))).trans r04
    have r1U : (w4.setCell ⟨w2.heap.size, 0, none⟩ (.slice rj n rjc)).cell? ⟨w.heap.size + 1, 0, none⟩ = some (.slice none 0 0) := (World.cell?_setCell_other _ _ _ _ (fun e => hBr1 (by injection e with e1))).trans r14
    have f0U : (w4.setCell ⟨w2.heap.size, 0, none⟩ (.slice rj n rjc)).frozen? ⟨w.heap.size, 0, none⟩ = false := by rw [World.frozen?_setCell]; exact f04
    have f1U : (w4.setCell ⟨w2.heap.size, 0, none⟩ (.slice rj n rjc)).frozen? ⟨w.heap.size + 1, 0, none⟩ = false := by rw [World.frozen?_setCell]; exact f14
    have xAU : (w4.setCell ⟨w2.heap.size, 0, none⟩ (.slice rj n rjc)).cell? ⟨w1.heap.size, 0, none⟩ = some (.slice ra n rc) := (World.cell?_setCell_other _ _ _ _ (fun e => hBA (by injection e with e1))).trans xA4
    have xBU : (w4.setCell ⟨w2.heap.size, 0, none⟩ (.slice rj n rjc)).cell? ⟨w2.heap.size, 0, none⟩ = some (.slice rj n rjc) := World.cell?_setCell_same _ _ _ xB4
    have hAr : w1.heap.size ≠ w.heap.size := by omega
    have hAr1 : w1.heap.size ≠ w.heap.size + 1 := by omega
    clear r04 r14 f04 f14 xA4
    go_wp2
    go_region
    all_goals go_wp2
    all_goals refine bodyPost_ret (v := .tuple #[.agg #[.slice ra n rc], .agg #[.slice rj n rjc]]) (by simp [results, Try.results47, go_sem, r0U, r1U]) rfl ⟨ra, n, rc, xs, rj, n, rjc, mix max xs ys, rfl, ?_, ?_, ?_⟩
    all_goals first | exact Fr.lo ((((HFA4.out.setAt hAb _).setCell (by show w.heap.size < _; omega) _).setCell (by show w.heap.size + 1 < _; omega) _).below (Below.refl _ _).drew) (by omega) | exact OSl.fr ((HOJ.out.map (fun b h1 _ hb => ((hb.setCell (by simp; omega) _).setCell (by simp; omega) _).setCell (by simp; omega) _)).below (Below.refl _ _).drew) hn4 (by omega) | exact (((HB4.out.setCell (by show w.heap.size ≤ w2.heap.size; omega) _).setCell (Nat.le_refl _) _).setCell (by show w.heap.size ≤ w.heap.size + 1; omega) _).drew
  · have hAr : w1.heap.size ≠ w.heap.size := by omega
    have hAr1 : w1.heap.size ≠ w.heap.size + 1 := by omega
    have hBr : w2.heap.size ≠ w.heap.size := by omega
    have hBr1 : w2.heap.size ≠ w.heap.size + 1 := by omega
    cases q with
    | false =>
      go_wp2
      go_region
      all_goals go_wp2
      all_goals refine bodyPost_ret (v := .tuple #[.agg #[.slice ra n rc], .agg #[.slice rb m rd]]) (by simp [results, Try.results47, go_sem, r0, r1]) rfl ⟨ra, n, rc, xs, rb, m, rd, ys, rfl, ?_, ?_, ?_⟩
      all_goals first | exact (((HFA.out.setCell (by show w.heap.size < _; omega) _).setCell (by show w.heap.size + 1 < _; omega) _).below (Below.refl _ _).drew).lo (by omega) | exact (((HFB.out.setCell (by show w.heap.size < _; omega) _).setCell (by show w.heap.size + 1 < _; omega) _).below (Below.refl _ _).drew).lo (by omega) | exact ((HBW.out.setCell (Nat.le_refl _) _).setCell (by show w.heap.size ≤ w.heap.size + 1; omega) _).drew
    | true =>
      have hne : ((n : Int) == (m : Int)) = false := by
        rcases hj with hj | hj
        · cases hj
        · simp; omega
      go_wp2
      go_region
      all_goals go_wp2
      all_goals refine bodyPost_ret (v := .tuple #[.agg #[.slice ra n rc], .agg #[.slice rb m rd]]) (by simp [results, Try.results47, go_sem, r0, r1]) rfl ⟨ra, n, rc, xs, rb, m, rd, ys, rfl, ?_, ?_, ?_⟩
      all_goals first | exact (((HFA.out.setCell (by show w.heap.size < _; omega) _).setCell (by show w.heap.size + 1 < _; omega) _).below (Below.refl _ _).drew).lo (by omega) | exact (((HFB.out.setCell (by show w.heap.size < _; omega) _).setCell (by show w.heap.size + 1 < _; omega) _).below (Below.refl _ _).drew).lo (by omega) | exact ((HBW.out.setCell (Nat.le_refl _) _).setCell (by show w.heap.size ≤ w.heap.size + 1; omega) _).drew

theorem OSl.frS {w : World} {B T : Nat} {a : Option Addr} {n : Nat} {rs : List Int} (h : OSl w B T a n rs) : FrS (InR B T) a n rs w := by
  obtain ⟨h1, _, h2⟩ := h
  refine ⟨h1, fun h0 => ?_⟩
  rcases h2 with ⟨_, h2⟩ | ⟨b, rfl, h3, h4, hb⟩
  · omega
  · exact ⟨b, 0, rfl, ⟨by omega, by omega⟩, hb.1, fun i hi => by rw [Nat.zero_add]; exact hb.2.1 i (by omega)⟩

theorem frS_four {w : World} {t : TypeId} : FrS (InR w.heap.size (w.heap.size + 1)) (some ⟨w.heap.size, 0, none⟩) 4 [4, 4, 4, 4] (w.alloc (.cells #[.int .i64 4, .int .i64 4, .int .i64 4, .int .i64 4] t)) :=
  ⟨rfl, fun _ => ⟨w.heap.size, 0, rfl, ⟨Nat.le_refl _, by omega⟩, by simp, fun i hi => by
    rw [Nat.zero_add, World.cell?_alloc_new]
    rcases (by omega : i = 0 ∨ i = 1 ∨ i = 2 ∨ i = 3) with rfl | rfl | rfl | rfl <;> rfl⟩⟩

/-- what a draw of a pass gives. -/
def DrewPs (p : Nat) (a : Option Addr) (len cap t : Nat) (w : World) (e : Ending) (w' : World) : Prop :=
  ∃ (ra : Option Addr) (n rc : Nat) (xs : List Int) (rb : Option Addr) (m rd : Nat) (ys : List Int) (t' : Nat), e = .returned (.agg #[.slice ra n rc, .slice rb m rd]) ∧ FrS (InR w.heap.size w'.heap.size) ra n xs w' ∧ n ≤ 4 ∧ FrS (InR w.heap.size w'.heap.size) rb m ys w' ∧ m ≤ 4 ∧ Src w' p a len cap t' ∧ t' ≤ t + 40 ∧ Outside p (p + 1) w w'

set_option maxRecDepth 100000 in
set_option maxHeartbeats 4000000 in
theorem l13Draw_calls (p : Nat) (a : Option Addr) (len cap t : Nat) (w : World) (ht : t ≤ 900000) (hs : Src w p a len cap t) :
    Calls Try.prog 65 #[.pointer (some ⟨p, 0, none⟩)] w (DrewPs p a len cap t w) := by
  have hp : p < w.heap.size := hs.1
  have M0 := (Mo.start p w).alloc2 hp (.slice none 0 0) (.slice none 0 0) 28
  have s0 := hs.below ((Below.refl _ _).alloc (Nat.le_refl _) (.cells #[.slice none 0 0, .slice none 0 0] 28))
  go_enter Try.func65, Try.ntmps65
  go_wp2_with fail
  refine (l1Draw_calls p a len cap t _ (by omega) s0).mono ?_
  rintro e w1 ⟨ra, rc, xs, t1, rfl, _, ho, s1, ht1, o1⟩
  have z1 := o1.size
  simp only [World.size_alloc] at z1 ho
  have M1 := (M0.next o1).fact (by omega) FrS.loc (OSl.frS ho)
  have al1 := (Below.refl w1.heap.size w1).alloc (Nat.le_refl _) (.cells #[.int .i64 4, .int .i64 4, .int .i64 4, .int .i64 4] 2)
  have M2 := ((M1.below al1).fact (by omega) FrS.loc frS_four).alloc2 (by simp; omega) (.slice ra 4 rc) (.slice (some ⟨w1.heap.size, 0, none⟩) 4 4) 28
  have s2 := (s1.below al1).below ((Below.refl _ _).alloc (Nat.le_refl _) (.cells #[.slice ra 4 rc, .slice (some ⟨w1.heap.size, 0, none⟩) 4 4] 28))
  simp only [World.size_alloc] at M2
  clear M0 M1 s0 s1 o1 ho al1 hs
  go_wp2_with fail
  refine (l1Chance_calls p a len cap t1 3 _ (by omega) (by omega) (by omega) s2).mono ?_
  rintro e w2 ⟨q1, rfl, s3, o2⟩
  have z2 := o2.size
  simp only [World.size_alloc] at z2
  have M3 := M2.next o2
  clear M2 s2 o2
  cases q1 with
  | true =>
    have p0 := M3.cell 0 rfl
    have p1 := M3.cell 1 rfl
    go_wp2_with fail
    refine (l1Plain_calls p a len cap (t1 + 1) _ (by omega) s3).mono ?_
    rintro e w3 ⟨rb, rd, ys, rfl, _, ho2, s4, o3⟩
    have z3 := o3.size
    have MA := (M3.next o3).fact (by omega) FrS.loc (OSl.frS ho2)
    have u0 := MA.cell 1 rfl
    have uf := MA.fz 1 rfl
    have M4 := MA.set 1 rfl (.slice rb 4 rd) (by omega) (by simp <;> omega) (by simp <;> omega)
    simp only [List.set] at M4
    have s4 := s4.setCell (q := ⟨w1.heap.size + 1, 1, none⟩) (by show p < w1.heap.size + 1; omega) (.slice rb 4 rd)
    obtain ⟨t4, ht4⟩ : ∃ t4, t4 = t1 + 1 + 4 := ⟨_, rfl⟩
    rw [← ht4] at s4
    clear M3 MA s3 o3 ho2 p0 p1
    have c0 := M4.cell 0 rfl
    have c1 := M4.cell 1 rfl
    have z4 := M4.lt 0 rfl
    go_wp2_with fail
    refine (l1Next_calls p a len cap t4 12 _ (by omega) (by omega) (by omega) s4).mono ?_
    rintro e w5 ⟨q2, rfl, qa, qb, s5, o5⟩
    have z5 := o5.size
    try simp only [World.size_setCell] at z5
    have M5 := M4.next o5
    clear M4 s4 o5 c0 c1
    by_cases hq0 : q2 = 0
    · have e0 : (q2 == 0) = true := by simp [hq0]
      clear hq0 qa qb
      have p0 := M5.cell 0 rfl
      have p1 := M5.cell 1 rfl
      go_wp2_with fail
      refine (l1Bent_calls p a len cap (t4 + 1) _ (by omega) s5).mono ?_
      rintro e w6 ⟨rq, l, rk, zs, t6, rfl, fq, s6, ht6, o6⟩
      have z6 := o6.size
      have hl4 : l ≤ 4 := fq.2.1
      have M6 := (M5.next o6).fact (by omega) FrS.loc fq.frS
      have u0 := M6.cell 0 rfl
      have uf := M6.fz 0 rfl
      have M7 := M6.set 0 rfl (.slice rq l rk) (by omega) (by simp <;> omega) (by simp <;> omega)
      simp only [List.set] at M7
      have sN := s6.setCell (q := ⟨w1.heap.size + 1, 0, none⟩) (by show p < w1.heap.size + 1; omega) (.slice rq l rk)
      clear M5 M6 s5 s6 o6 fq p0 p1
      have r0 := (M7.cell 2 rfl)
      have r1 := (M7.cell 3 rfl)
      have h0 := (M7.fz 2 rfl)
      have h1 := (M7.fz 3 rfl)
      have c0 := (M7.cell 0 rfl)
      have c1 := (M7.cell 1 rfl)
      have HX := hide (M7.get 0 rfl)
      have HY := hide (M7.get 1 rfl)
      have HO := hide M7.out
      have HS := hide sN
      clear M7 sN
      go_wp2
      refine bodyPost_ret (v := .agg #[.slice rq l rk, .slice rb 4 rd]) (by simp [results, Try.results65, go_sem, r0, r1]) rfl ⟨_, _, _, zs, _, _, _, ys, _, rfl, ?_, hl4, ?_, Nat.le_refl _, (HS.out.setCell (by exact hp) _).setCell (by exact hp) _, by omega, (HO.out.setNew (Nat.le_refl _) _).setNew (Nat.le_refl _) _⟩
      · exact (FrS.loc.setC (FrS.loc.setC HX.out (fun e => by have := e.1; simp at this; omega) _) (fun e => by have := e.1; simp at this; omega) _).mono (fun k hk => ⟨by have := hk.1; omega, by have := hk.2; simp; omega⟩)
      · exact (FrS.loc.setC (FrS.loc.setC HY.out (fun e => by have := e.1; simp at this; omega) _) (fun e => by have := e.1; simp at this; omega) _).mono (fun k hk => ⟨by have := hk.1; omega, by have := hk.2; simp; omega⟩)
    by_cases hq1 : q2 = 1
    · have e0 : (q2 == 1) = true := by simp [hq1]
      have e1 : (q2 == 0) = false := by simp [hq0]
      clear hq1 qa qb
      have p0 := M5.cell 0 rfl
      have p1 := M5.cell 1 rfl
      go_wp2_with fail
      refine (l1Bent_calls p a len cap (t4 + 1) _ (by omega) s5).mono ?_
      rintro e w6 ⟨rq, l, rk, zs, t6, rfl, fq, s6, ht6, o6⟩
      have z6 := o6.size
      have hl4 : l ≤ 4 := fq.2.1
      have M6 := (M5.next o6).fact (by omega) FrS.loc fq.frS
      have u0 := M6.cell 1 rfl
      have uf := M6.fz 1 rfl
      have M7 := M6.set 1 rfl (.slice rq l rk) (by omega) (by simp <;> omega) (by simp <;> omega)
      simp only [List.set] at M7
      have sN := s6.setCell (q := ⟨w1.heap.size + 1, 1, none⟩) (by show p < w1.heap.size + 1; omega) (.slice rq l rk)
      clear M5 M6 s5 s6 o6 fq p0 p1
      have r0 := (M7.cell 2 rfl)
      have r1 := (M7.cell 3 rfl)
      have h0 := (M7.fz 2 rfl)
      have h1 := (M7.fz 3 rfl)
      have c0 := (M7.cell 0 rfl)
      have c1 := (M7.cell 1 rfl)
      have HX := hide (M7.get 3 rfl)
      have HY := hide (M7.get 0 rfl)
      have HO := hide M7.out
      have HS := hide sN
      clear M7 sN
      go_wp2
      refine bodyPost_ret (v := .agg #[.slice ra 4 rc, .slice rq l rk]) (by simp [results, Try.results65, go_sem, r0, r1]) rfl ⟨_, _, _, xs, _, _, _, zs, _, rfl, ?_, Nat.le_refl _, ?_, hl4, (HS.out.setCell (by exact hp) _).setCell (by exact hp) _, by omega, (HO.out.setNew (Nat.le_refl _) _).setNew (Nat.le_refl _) _⟩
      · exact (FrS.loc.setC (FrS.loc.setC HX.out (fun e => by have := e.1; simp at this; omega) _) (fun e => by have := e.1; simp at this; omega) _).mono (fun k hk => ⟨by have := hk.1; omega, by have := hk.2; simp; omega⟩)
      · exact (FrS.loc.setC (FrS.loc.setC HY.out (fun e => by have := e.1; simp at this; omega) _) (fun e => by have := e.1; simp at this; omega) _).mono (fun k hk => ⟨by have := hk.1; omega, by have := hk.2; simp; omega⟩)
    have e1 : (q2 == 0) = false := by simp [hq0]
    have e2 : (q2 == 1) = false := by simp [hq1]
    have sN := s5
    clear s5 hq0 hq1 qa qb
    have r0 := (M5.cell 2 rfl)
    have r1 := (M5.cell 3 rfl)
    have h0 := (M5.fz 2 rfl)
    have h1 := (M5.fz 3 rfl)
    have c0 := (M5.cell 0 rfl)
    have c1 := (M5.cell 1 rfl)
    have HX := hide (M5.get 2 rfl)
    have HY := hide (M5.get 0 rfl)
    have HO := hide M5.out
    have HS := hide sN
    clear M5 sN
    go_wp2
    refine bodyPost_ret (v := .agg #[.slice ra 4 rc, .slice rb 4 rd]) (by simp [results, Try.results65, go_sem, r0, r1]) rfl ⟨_, _, _, xs, _, _, _, ys, _, rfl, ?_, Nat.le_refl _, ?_, Nat.le_refl _, (HS.out.setCell (by exact hp) _).setCell (by exact hp) _, by omega, (HO.out.setNew (Nat.le_refl _) _).setNew (Nat.le_refl _) _⟩
    · exact (FrS.loc.setC (FrS.loc.setC HX.out (fun e => by have := e.1; simp at this; omega) _) (fun e => by have := e.1; simp at this; omega) _).mono (fun k hk => ⟨by have := hk.1; omega, by have := hk.2; simp; omega⟩)
    · exact (FrS.loc.setC (FrS.loc.setC HY.out (fun e => by have := e.1; simp at this; omega) _) (fun e => by have := e.1; simp at this; omega) _).mono (fun k hk => ⟨by have := hk.1; omega, by have := hk.2; simp; omega⟩)
  | false =>
    have M4 := M3
    have s4 := s3
    obtain ⟨t4, ht4⟩ : ∃ t4, t4 = t1 + 1 := ⟨_, rfl⟩
    rw [← ht4] at s4
    clear M3 s3
    have c0 := M4.cell 0 rfl
    have c1 := M4.cell 1 rfl
    have z4 := M4.lt 0 rfl
    go_wp2_with fail
    refine (l1Next_calls p a len cap t4 12 _ (by omega) (by omega) (by omega) s4).mono ?_
    rintro e w5 ⟨q2, rfl, qa, qb, s5, o5⟩
    have z5 := o5.size
    try simp only [World.size_setCell] at z5
    have M5 := M4.next o5
    clear M4 s4 o5 c0 c1
    by_cases hq0 : q2 = 0
    · have e0 : (q2 == 0) = true := by simp [hq0]
      clear hq0 qa qb
      have p0 := M5.cell 0 rfl
      have p1 := M5.cell 1 rfl
      go_wp2_with fail
      refine (l1Bent_calls p a len cap (t4 + 1) _ (by omega) s5).mono ?_
      rintro e w6 ⟨rq, l, rk, zs, t6, rfl, fq, s6, ht6, o6⟩
      have z6 := o6.size
      have hl4 : l ≤ 4 := fq.2.1
      have M6 := (M5.next o6).fact (by omega) FrS.loc fq.frS
      have u0 := M6.cell 0 rfl
      have uf := M6.fz 0 rfl
      have M7 := M6.set 0 rfl (.slice rq l rk) (by omega) (by simp <;> omega) (by simp <;> omega)
      simp only [List.set] at M7
      have sN := s6.setCell (q := ⟨w1.heap.size + 1, 0, none⟩) (by show p < w1.heap.size + 1; omega) (.slice rq l rk)
      clear M5 M6 s5 s6 o6 fq p0 p1
      have r0 := (M7.cell 2 rfl)
      have r1 := (M7.cell 3 rfl)
      have h0 := (M7.fz 2 rfl)
      have h1 := (M7.fz 3 rfl)
      have c0 := (M7.cell 0 rfl)
      have c1 := (M7.cell 1 rfl)
      have HX := hide (M7.get 0 rfl)
      have HY := hide (M7.get 1 rfl)
      have HO := hide M7.out
      have HS := hide sN
      clear M7 sN
      go_wp2
      refine bodyPost_ret (v := .agg #[.slice rq l rk, .slice (some ⟨w1.heap.size, 0, none⟩) 4 4]) (by simp [results, Try.results65, go_sem, r0, r1]) rfl ⟨_, _, _, zs, _, _, _, [4, 4, 4, 4], _, rfl, ?_, hl4, ?_, Nat.le_refl _, (HS.out.setCell (by exact hp) _).setCell (by exact hp) _, by omega, (HO.out.setNew (Nat.le_refl _) _).setNew (Nat.le_refl _) _⟩
      · exact (FrS.loc.setC (FrS.loc.setC HX.out (fun e => by have := e.1; simp at this; omega) _) (fun e => by have := e.1; simp at this; omega) _).mono (fun k hk => ⟨by have := hk.1; omega, by have := hk.2; simp; omega⟩)
      · exact (FrS.loc.setC (FrS.loc.setC HY.out (fun e => by have := e.1; simp at this; omega) _) (fun e => by have := e.1; simp at this; omega) _).mono (fun k hk => ⟨by have := hk.1; omega, by have := hk.2; simp; omega⟩)
    by_cases hq1 : q2 = 1
    · have e0 : (q2 == 1) = true := by simp [hq1]
      have e1 : (q2 == 0) = false := by simp [hq0]
      clear hq1 qa qb
      have p0 := M5.cell 0 rfl
      have p1 := M5.cell 1 rfl
      go_wp2_with fail
      refine (l1Bent_calls p a len cap (t4 + 1) _ (by omega) s5).mono ?_
      rintro e w6 ⟨rq, l, rk, zs, t6, rfl, fq, s6, ht6, o6⟩
      have z6 := o6.size
      have hl4 : l ≤ 4 := fq.2.1
      have M6 := (M5.next o6).fact (by omega) FrS.loc fq.frS
      have u0 := M6.cell 1 rfl
      have uf := M6.fz 1 rfl
      have M7 := M6.set 1 rfl (.slice rq l rk) (by omega) (by simp <;> omega) (by simp <;> omega)
      simp only [List.set] at M7
      have sN := s6.setCell (q := ⟨w1.heap.size + 1, 1, none⟩) (by show p < w1.heap.size + 1; omega) (.slice rq l rk)
      clear M5 M6 s5 s6 o6 fq p0 p1
      have r0 := (M7.cell 2 rfl)
      have r1 := (M7.cell 3 rfl)
      have h0 := (M7.fz 2 rfl)
      have h1 := (M7.fz 3 rfl)
      have c0 := (M7.cell 0 rfl)
      have c1 := (M7.cell 1 rfl)
      have HX := hide (M7.get 2 rfl)
      have HY := hide (M7.get 0 rfl)
      have HO := hide M7.out
      have HS := hide sN
      clear M7 sN
      go_wp2
      refine bodyPost_ret (v := .agg #[.slice ra 4 rc, .slice rq l rk]) (by simp [results, Try.results65, go_sem, r0, r1]) rfl ⟨_, _, _, xs, _, _, _, zs, _, rfl, ?_, Nat.le_refl _, ?_, hl4, (HS.out.setCell (by exact hp) _).setCell (by exact hp) _, by omega, (HO.out.setNew (Nat.le_refl _) _).setNew (Nat.le_refl _) _⟩
      · exact (FrS.loc.setC (FrS.loc.setC HX.out (fun e => by have := e.1; simp at this; omega) _) (fun e => by have := e.1; simp at this; omega) _).mono (fun k hk => ⟨by have := hk.1; omega, by have := hk.2; simp; omega⟩)
      · exact (FrS.loc.setC (FrS.loc.setC HY.out (fun e => by have := e.1; simp at this; omega) _) (fun e => by have := e.1; simp at this; omega) _).mono (fun k hk => ⟨by have := hk.1; omega, by have := hk.2; simp; omega⟩)
    have e1 : (q2 == 0) = false := by simp [hq0]
    have e2 : (q2 == 1) = false := by simp [hq1]
    have sN := s5
    clear s5 hq0 hq1 qa qb
    have r0 := (M5.cell 2 rfl)
    have r1 := (M5.cell 3 rfl)
    have h0 := (M5.fz 2 rfl)
    have h1 := (M5.fz 3 rfl)
    have c0 := (M5.cell 0 rfl)
    have c1 := (M5.cell 1 rfl)
    have HX := hide (M5.get 1 rfl)
    have HY := hide (M5.get 0 rfl)
    have HO := hide M5.out
    have HS := hide sN
    clear M5 sN
    go_wp2
    refine bodyPost_ret (v := .agg #[.slice ra 4 rc, .slice (some ⟨w1.heap.size, 0, none⟩) 4 4]) (by simp [results, Try.results65, go_sem, r0, r1]) rfl ⟨_, _, _, xs, _, _, _, [4, 4, 4, 4], _, rfl, ?_, Nat.le_refl _, ?_, Nat.le_refl _, (HS.out.setCell (by exact hp) _).setCell (by exact hp) _, by omega, (HO.out.setNew (Nat.le_refl _) _).setNew (Nat.le_refl _) _⟩
    · exact (FrS.loc.setC (FrS.loc.setC HX.out (fun e => by have := e.1; simp at this; omega) _) (fun e => by have := e.1; simp at this; omega) _).mono (fun k hk => ⟨by have := hk.1; omega, by have := hk.2; simp; omega⟩)
    · exact (FrS.loc.setC (FrS.loc.setC HY.out (fun e => by have := e.1; simp at this; omega) _) (fun e => by have := e.1; simp at this; omega) _).mono (fun k hk => ⟨by have := hk.1; omega, by have := hk.2; simp; omega⟩)

/-- what a draw of a pass and of who comes gives. -/
def DrewMe (w : World) (e : Ending) (w' : World) : Prop :=
  ∃ (ra : Option Addr) (n rc : Nat) (xs : List Int) (rb : Option Addr) (m rd : Nat) (ys : List Int) (rq : Option Addr) (l rk : Nat) (zs : List Int), e = .returned (.tuple #[.agg #[.slice ra n rc, .slice rb m rd], .agg #[.slice rq l rk]]) ∧ FrS (InR w.heap.size w'.heap.size) ra n xs w' ∧ n ≤ 4 ∧ FrS (InR w.heap.size w'.heap.size) rb m ys w' ∧ m ≤ 4 ∧ FrS (InR w.heap.size w'.heap.size) rq l zs w' ∧ l ≤ 4 ∧ Below w.heap.size w w'

set_option maxRecDepth 100000 in
set_option maxHeartbeats 4000000 in
theorem drawMayEnter_calls (a : Option Addr) (len cap : Nat) (w : World) (hc : Cd w a len) :
    Calls Try.prog 27 #[.slice a len cap] w (DrewMe w) := by
  have M0 := ((Mm.start w).alloc2 (.slice none 0 0) (.slice none 0 0) 28).alloc1 (.slice none 0 0) 26
  have S0 := (hc.below M0.bel).src (cap := cap) 95
  have M1 := M0.below ((Below.refl _ _).alloc (Nat.le_refl _) (.cells #[.slice a len cap, .int .i64 0] 95))
  simp only [World.size_alloc] at S0 M1
  clear M0
  go_enter Try.func27, Try.ntmps27
  go_wp2_with (go_at_call 61; refine (l1Source_calls a len cap _).mono ?_; rintro e w0 ⟨rfl, rfl⟩)
  refine (l13Draw_calls (w.heap.size + 1 + 1) a len cap 0 _ (by omega) S0).mono ?_
  rintro e w1 ⟨ra, n, rc, xs, rb, m, rd, ys, t1, rfl, fa, hn, fb, hm, s1, ht1, u1⟩
  have z1 := u1.size
  simp only [World.size_alloc] at z1 fa fb
  have M2 := ((M1.out (OutS.of_outside u1) (by omega) (by simp <;> omega) (by simp)).fact FrS.loc fa).fact FrS.loc fb
  clear M1 S0 u1 fa fb
  go_wp2_with fail
  refine (l1Bent_calls (w.heap.size + 1 + 1) a len cap t1 _ (by omega) s1).mono ?_
  rintro e w2 ⟨rq, l, rk, zs, t2, rfl, fq, s2, ht2, u2⟩
  have z2 := u2.size
  have M3 := (M2.out (OutS.of_outside u2) (by omega) (by simp <;> omega) (by simp <;> omega)).fact FrS.loc fq.frS
  have hl : l ≤ 4 := fq.2.1
  clear M2 s1 s2 u2 fq
  have c0 := M3.cell 0 rfl
  have f0 := M3.fz 0 rfl
  have c1 := M3.cell 1 rfl
  have f1 := M3.fz 1 rfl
  have c2 := M3.cell 2 rfl
  have f2 := M3.fz 2 rfl
  have HX := hide (M3.get 2 rfl)
  have HY := hide (M3.get 1 rfl)
  have HZ := hide (M3.get 0 rfl)
  have HB := hide M3.bel
  clear M3
  go_wp2
  refine bodyPost_ret (v := .tuple #[.agg #[.slice ra n rc, .slice rb m rd], .agg #[.slice rq l rk]]) (by simp [results, Try.results27, go_sem, c0, c1, c2]) rfl ⟨ra, n, rc, xs, rb, m, rd, ys, rq, l, rk, zs, rfl, ?_, hn, ?_, hm, ?_, hl, ((HB.out.setCell (by simp) _).setCell (by simp) _).setCell (by simp) _⟩
  · exact (FrS.loc.setC (FrS.loc.setC (FrS.loc.setC HX.out (fun e => by have := e.1; simp at this; omega) _) (fun e => by have := e.1; simp at this; omega) _) (fun e => by have := e.1; simp at this; omega) _).mono (fun k hk => ⟨by have := hk.1; omega, by have := hk.2; simp; omega⟩)
  · exact (FrS.loc.setC (FrS.loc.setC (FrS.loc.setC HY.out (fun e => by have := e.1; simp at this; omega) _) (fun e => by have := e.1; simp at this; omega) _) (fun e => by have := e.1; simp at this; omega) _).mono (fun k hk => ⟨by have := hk.1; omega, by have := hk.2; simp; omega⟩)
  · exact (FrS.loc.setC (FrS.loc.setC (FrS.loc.setC HZ.out (fun e => by have := e.1; simp at this; omega) _) (fun e => by have := e.1; simp at this; omega) _) (fun e => by have := e.1; simp at this; omega) _).mono (fun k hk => ⟨by have := hk.1; omega, by have := hk.2; simp; omega⟩)

set_option maxRecDepth 100000 in
set_option maxHeartbeats 4000000 in
theorem drawEnterPass_calls (a : Option Addr) (len cap : Nat) (w : World) (hc : Cd w a len) :
    Calls Try.prog 10 #[.slice a len cap] w (DrewMe w) := by
  have M0 := ((Mm.start w).alloc2 (.slice none 0 0) (.slice none 0 0) 28).alloc1 (.slice none 0 0) 26
  have hc0 := hc.below M0.bel
  simp only [World.size_alloc] at M0
  go_enter Try.func10, Try.ntmps10
  go_wp2_with fail
  refine (drawMayEnter_calls a len cap _ hc0).mono ?_
  rintro e w1 ⟨ra, n, rc, xs, rb, m, rd, ys, rq, l, rk, zs, rfl, fa, hn, fb, hm, fq, hl, g1⟩
  have z1 := g1.size
  simp only [World.size_alloc] at z1 fa fb fq
  have M3 := M0.below g1
  clear M0 g1 hc0
  have c0 := M3.cell 0 rfl
  have f0 := M3.fz 0 rfl
  have c1 := M3.cell 1 rfl
  have f1 := M3.fz 1 rfl
  have c2 := M3.cell 2 rfl
  have f2 := M3.fz 2 rfl
  have HX := hide fa
  have HY := hide fb
  have HZ := hide fq
  have HB := hide M3.bel
  clear M3 fa fb fq
  go_wp2
  refine bodyPost_ret (v := .tuple #[.agg #[.slice ra n rc, .slice rb m rd], .agg #[.slice rq l rk]]) (by simp [results, Try.results10, go_sem, c0, c1, c2]) rfl ⟨ra, n, rc, xs, rb, m, rd, ys, rq, l, rk, zs, rfl, ?_, hn, ?_, hm, ?_, hl, ((HB.out.setCell (by simp) _).setCell (by simp) _).setCell (by simp) _⟩
  · exact (FrS.loc.setC (FrS.loc.setC (FrS.loc.setC HX.out (fun e => by have := e.1; simp at this; omega) _) (fun e => by have := e.1; simp at this; omega) _) (fun e => by have := e.1; simp at this; omega) _).mono (fun k hk => ⟨by have := hk.1; omega, by have := hk.2; simp; omega⟩)
  · exact (FrS.loc.setC (FrS.loc.setC (FrS.loc.setC HY.out (fun e => by have := e.1; simp at this; omega) _) (fun e => by have := e.1; simp at this; omega) _) (fun e => by have := e.1; simp at this; omega) _).mono (fun k hk => ⟨by have := hk.1; omega, by have := hk.2; simp; omega⟩)
  · exact (FrS.loc.setC (FrS.loc.setC (FrS.loc.setC HZ.out (fun e => by have := e.1; simp at this; omega) _) (fun e => by have := e.1; simp at this; omega) _) (fun e => by have := e.1; simp at this; omega) _).mono (fun k hk => ⟨by have := hk.1; omega, by have := hk.2; simp; omega⟩)

/-- what a draw of two labels gives. -/
def DrewTwo (w : World) (e : Ending) (w' : World) : Prop :=
  ∃ (ra : Option Addr) (n rc : Nat) (xs : List Int) (rb : Option Addr) (m rd : Nat) (ys : List Int), e = .returned (.tuple #[.agg #[.slice ra n rc], .agg #[.slice rb m rd]]) ∧ FrS (InR w.heap.size w'.heap.size) ra n xs w' ∧ n ≤ 4 ∧ FrS (InR w.heap.size w'.heap.size) rb m ys w' ∧ m ≤ 4 ∧ Below w.heap.size w w'

set_option maxRecDepth 100000 in
set_option maxHeartbeats 4000000 in
theorem drawTaintLabel_calls (a : Option Addr) (len cap : Nat) (w : World) (hc : Cd w a len) :
    Calls Try.prog 12 #[.slice a len cap] w (DrewTwo w) := by
  have M0 := ((Mm.start w).alloc1 (.slice none 0 0) 26).alloc1 (.slice none 0 0) 26
  have hc0 := hc.below M0.bel
  simp only [World.size_alloc] at M0
  go_enter Try.func12, Try.ntmps12
  go_wp2_with fail
  refine (l1Two_calls a len cap _ hc0).mono ?_
  rintro e w1 ⟨ra, n, rc, xs, rb, m, rd, ys, rfl, fa, fb, g1⟩
  have z1 := g1.size
  simp only [World.size_alloc] at z1 fa fb
  have hn : n ≤ 4 := fa.2.1
  have hm : m ≤ 4 := fb.2.1
  have M3 := M0.below g1
  clear M0 g1 hc0
  have c0 := M3.cell 0 rfl
  have f0 := M3.fz 0 rfl
  have c1 := M3.cell 1 rfl
  have f1 := M3.fz 1 rfl
  have HX := hide fa.frS
  have HY := hide fb.frS
  have HB := hide M3.bel
  clear M3 fa fb
  go_wp2
  refine bodyPost_ret (v := .tuple #[.agg #[.slice ra n rc], .agg #[.slice rb m rd]]) (by simp [results, Try.results12, go_sem, c0, c1]) rfl ⟨ra, n, rc, xs, rb, m, rd, ys, rfl, ?_, hn, ?_, hm, (HB.out.setCell (by simp) _).setCell (by simp) _⟩
  · exact (FrS.loc.setC (FrS.loc.setC HX.out (fun e => by have := e.1; simp at this; omega) _) (fun e => by have := e.1; simp at this; omega) _).mono (fun k hk => ⟨by have := hk.1; omega, by have := hk.2; simp; omega⟩)
  · exact (FrS.loc.setC (FrS.loc.setC HY.out (fun e => by have := e.1; simp at this; omega) _) (fun e => by have := e.1; simp at this; omega) _).mono (fun k hk => ⟨by have := hk.1; omega, by have := hk.2; simp; omega⟩)

set_option maxRecDepth 100000 in
set_option maxHeartbeats 4000000 in
theorem drawStarsOf_calls (a : Option Addr) (len cap : Nat) (w : World) (hc : Cd w a len) :
    Calls Try.prog 25 #[.slice a len cap] w fun e w' => ∃ (ra : Option Addr) (n rc : Nat) (xs : List Int), e = .returned (.agg #[.slice ra n rc]) ∧ FrS (InR w.heap.size w'.heap.size) ra n xs w' ∧ n ≤ 4 ∧ Below w.heap.size w w' := by
  have M0 := (Mm.start w).alloc1 (.slice none 0 0) 26
  have S0 := (hc.below M0.bel).src (cap := cap) 95
  have M1 := M0.below ((Below.refl _ _).alloc (Nat.le_refl _) (.cells #[.slice a len cap, .int .i64 0] 95))
  simp only [World.size_alloc] at S0
  clear M0
  go_enter Try.func25, Try.ntmps25
  go_wp2_with (go_at_call 61; refine (l1Source_calls a len cap _).mono ?_; rintro e w0 ⟨rfl, rfl⟩)
  refine (l1Bent_calls (w.heap.size + 1) a len cap 0 _ (by omega) S0).mono ?_
  rintro e w2 ⟨rq, l, rk, zs, t2, rfl, fq, s2, ht2, u2⟩
  have z2 := u2.size
  simp only [World.size_alloc] at z2 fq
  have M3 := M1.out (OutS.of_outside u2) (by omega) (by simp) (by simp)
  have hl : l ≤ 4 := fq.2.1
  have HX := hide fq.frS
  clear M1 s2 u2 fq S0
  have c0 := M3.cell 0 rfl
  have f0 := M3.fz 0 rfl
  have HB := hide M3.bel
  clear M3
  go_wp2
  refine bodyPost_ret (v := .agg #[.slice rq l rk]) (by simp [results, Try.results25, go_sem, c0]) rfl ⟨rq, l, rk, zs, rfl, ?_, hl, HB.out.setCell (by simp) _⟩
  exact (FrS.loc.setC HX.out (fun e => by have := e.1; simp at this; omega) _).mono (fun k hk => ⟨by have := hk.1; omega, by have := hk.2; simp; omega⟩)

theorem five_at {wr : World} {t : TypeId} : ∀ i, i < 5 → ((wr.alloc (.cells #[.int .i64 1, .int .i64 2, .int .i64 4, .int .i64 5, .int .i64 0] t))).cell? ⟨wr.heap.size, i, none⟩ = some (.int .i64 (gt [1, 2, 4, 5, 0] i)) := by
  intro i hi
  rw [World.cell?_alloc_new]
  rcases (by omega : i = 0 ∨ i = 1 ∨ i = 2 ∨ i = 3 ∨ i = 4) with rfl | rfl | rfl | rfl | rfl <;> rfl

set_option maxRecDepth 100000 in
set_option maxHeartbeats 4000000 in
theorem drawDropStar_calls (a : Option Addr) (len cap : Nat) (w : World) (hc : Cd w a len) :
    Calls Try.prog 23 #[.slice a len cap] w fun e w' => ∃ (ra : Option Addr) (n rc : Nat) (xs : List Int) (ct lv : Int), e = .returned (.tuple #[.agg #[.slice ra n rc], .int .i64 ct, .int .i64 lv]) ∧ FrS (InR w.heap.size w'.heap.size) ra n xs w' ∧ n ≤ 4 ∧ Below w.heap.size w w' := by
  have M0 := (Mm.start w).alloc1 (.slice none 0 0) 26
  have S0 := (hc.below M0.bel).src (cap := cap) 95
  have M1 := M0.below ((Below.refl _ _).alloc (Nat.le_refl _) (.cells #[.slice a len cap, .int .i64 0] 95))
  simp only [World.size_alloc] at S0
  clear M0
  go_enter Try.func23, Try.ntmps23
  go_wp2_with (go_at_call 61; refine (l1Source_calls a len cap _).mono ?_; rintro e w0 ⟨rfl, rfl⟩)
  refine (l1Bent_calls (w.heap.size + 1) a len cap 0 _ (by omega) S0).mono ?_
  rintro e w2 ⟨rq, l, rk, zs, t2, rfl, fq, s2, ht2, u2⟩
  have z2 := u2.size
  simp only [World.size_alloc] at z2 fq
  have M2 := (M1.out (OutS.of_outside u2) (by omega) (by simp) (by simp)).fact FrS.loc fq.frS
  have hl : l ≤ 4 := fq.2.1
  clear M1 u2 fq S0
  go_wp2_with fail
  refine (l1Next_calls (w.heap.size + 1) a len cap t2 6 _ (by omega) (by omega) (by omega) s2).mono ?_
  rintro e w3 ⟨ct, rfl, _, _, s3, u3⟩
  have z3 := u3.size
  have M3 := (M2.out (OutS.of_outside u3) (by omega) (by simp) (by simp <;> omega)).below ((Below.refl _ _).alloc (Nat.le_refl _) (.cells #[.int .i64 1, .int .i64 2, .int .i64 4, .int .i64 5, .int .i64 0] 2))
  have s4 := s3.below ((Below.refl _ _).alloc (Nat.le_refl _) (.cells #[.int .i64 1, .int .i64 2, .int .i64 4, .int .i64 5, .int .i64 0] 2))
  clear M2 s2 s3 u3
  go_wp2_with fail
  refine (l1PickM_calls (w.heap.size + 1) a len cap (t2 + 1) w3.heap.size 5 5 [1, 2, 4, 5, 0] _ (by omega) (by omega) (by omega) s4 (by omega) (by simp) rfl five_at).mono ?_
  rintro e w4 ⟨j, _, rfl, s5, u4⟩
  have z4 := u4.size
  simp only [World.size_alloc] at z4
  have M4 := M3.out (OutS.of_outside u4) (by omega) (by simp) (by simp <;> omega)
  generalize gt [1, 2, 4, 5, 0] j = lv
  have c0 := M4.cell 0 rfl
  have f0 := M4.fz 0 rfl
  have HX := hide (M4.get 0 rfl)
  have HB := hide M4.bel
  clear M3 M4 s4 s5 u4
  go_wp2
  refine bodyPost_ret (v := .tuple #[.agg #[.slice rq l rk], .int .i64 (ct - 1), .int .i64 lv]) (by simp [results, Try.results23, go_sem, c0]) rfl ⟨rq, l, rk, zs, _, _, rfl, ?_, hl, HB.out.setCell (by simp) _⟩
  exact (FrS.loc.setC HX.out (fun e => by have := e.1; simp at this; omega) _).mono (fun k hk => ⟨by have := hk.1; omega, by have := hk.2; simp; omega⟩)

end Go.Proofs.Ytdcfdmcooonfkaa
