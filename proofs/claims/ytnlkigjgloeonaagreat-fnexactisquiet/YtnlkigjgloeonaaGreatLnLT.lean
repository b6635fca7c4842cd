import Derived.Test.YtnlkigjgloeonaaGreatLnT
import Derived.Test.YtnlkigjgloeonaaGreatEqReg
import Derived.WalkKit
import Derived.ProofKit
import Derived.OpenShut
import Derived.ShutString
import Derived.ChangeOld
import Derived.Below
import Derived.WalkSpells
import Derived.Deep.QuietTactic
import Derived.BigQuiet
import Derived.Deep.RegionWith
import Derived.Deep.WholeRow
import Derived.Deep.DeepCutAuto
import Derived.Deep.RegionHeld2
import Derived.Deep.AppendLies
import Derived.Deep.RegionLaw
namespace Go.Proofs.YtnlkigjgloeonaaGreat
open Go.ChangeShapes Go.WideShapes Go.ChangeAt Go.RowKit

theorem infoLine : (Tryz.prog.info? 193).map (fun i => (i.zero, i.size, i.bytes)) = some (some (.agg #[.int .i64 0, .int .i64 0, .int .i64 0]), 3, 24) := by kernel_rfl

set_option maxRecDepth 100000 in
theorem szLineS_calls (a : Option Addr) (len cap : Nat) (left : Int) (w : World) (h0 : 0 ≤ left) (h1 : left ≤ 1048576) (hl : len ≤ maxLen) :
    Calls Tryz.prog 62 #[.slice a len cap, .int .i64 left] w fun e w' => e = .returned (.int .i64 (szI len left)) ∧ Below w.heap.size w w' := by
  unfold maxLen at hl
  by_cases h : left - len < 0
  · go_enter Tryz.func62, Tryz.ntmps62
    go_wp2
    go_ret
    exact ⟨ret_int (szI_neg h).symm, Below.refl _ _⟩
  · go_enter Tryz.func62, Tryz.ntmps62
    go_wp2
    go_ret
    exact ⟨ret_int (szI_pos h).symm, Below.refl _ _⟩

set_option maxRecDepth 100000 in
theorem szCache_calls (s : Int) (a : Option Addr) (len cap : Nat) (left : Int) (w : World) (h0 : 0 ≤ left) (h1 : left ≤ 1048576) (hl : len ≤ maxLen) :
    Calls Tryz.prog 23 #[.agg #[.int .i64 s, .slice a len cap], .int .i64 left] w fun e w' => e = .returned (.int .i64 (szI len left)) ∧ Below w.heap.size w w' := by
  by_cases h : left - len < 0
  · go_enter Tryz.func23, Tryz.ntmps23
    go_wp2_with fail
    refine (szLineS_calls a len cap left _ h0 h1 hl).mono ?_
    rintro e w1 ⟨rfl, hb⟩
    rw [szI_neg h]
    go_wp2
    go_ret
    exact ⟨ret_int (szI_neg h).symm, ((Below.refl _ _).alloc (Nat.le_refl _) _).trans (hb.mono (by simp))⟩
  · have hp : 0 ≤ left - len := by omega
    go_enter Tryz.func23, Tryz.ntmps23
    go_wp2_with fail
    refine (szLineS_calls a len cap left _ h0 h1 hl).mono ?_
    rintro e w1 ⟨rfl, hb⟩
    rw [szI_pos hp]
    go_wp2
    go_ret
    exact ⟨ret_int (szI_pos hp).symm, ((Below.refl _ _).alloc (Nat.le_refl _) _).trans (hb.mono (by simp))⟩

set_option maxRecDepth 100000 in
theorem toLine_calls (d t p : Int) (w : World) :
    Calls Tryz.prog 125 #[.agg #[.int .i64 d, .int .i64 t, .int .i64 p]] w fun e w' => e = .returned (.agg #[.int .i64 d, .int .i64 t, .int .i64 p]) ∧ Below w.heap.size w w' := by
  have hb3 := fun o1 o2 o3 => (((Below.refl w.heap.size w).alloc (Nat.le_refl _) o1).alloc (by simp) o2).alloc (by simp; omega) o3
  have HB := hide hb3
  clear hb3
  go_enter Tryz.func125, Tryz.ntmps125
  go_wp2
  refine bodyPost_ret (v := .agg #[.int .i64 d, .int .i64 t, .int .i64 p]) (by simp [results, Tryz.results125, go_sem]) rfl ⟨rfl, ?_⟩
  first
    | exact HB.out _ _ _
    | exact ((((((HB.out _ _ _).setCell (by simp; omega) _).setCell (by simp; omega) _).setCell (by simp; omega) _).setCell (by simp) _).setCell (by simp) _).setCell (by simp) _

set_option maxRecDepth 100000 in
theorem toLineS_O (a : Option Addr) (n cap : Nat) (ls : List (Int × Int × Int)) (w : World) (hm : n ≤ 1048576) (hs : Sln w a n ls) :
    Calls Tryz.prog 80 #[.slice a n cap] w fun e w' => ∃ b, e = .returned (.slice (some ⟨b, 0, none⟩) n n) ∧ OL (InR w.heap.size w'.heap.size) (some ⟨b, 0, none⟩) n ls w' ∧ Below w.heap.size w w' := by
  obtain ⟨hlen, hs⟩ := hs
  obtain ⟨i0, hi, hz0, hz1, hz2⟩ := info_parts infoLine
  have hmk : ∀ u : World, (Instr.makeSlice 57 (.int .i64 (n : Int)) (.int .i64 (n : Int))).run Tryz.prog u =
      .ok (.slice (some ⟨u.heap.size, 0, none⟩) n n) (u.alloc (.cells (madeCells #[.int .i64 0, .int .i64 0, .int .i64 0] (n * 3)) 193)) := fun u => by
    have h := run_make (P := Tryz.prog) u 57 193 i0 (.agg #[.int .i64 0, .int .i64 0, .int .i64 0]) Tryz.underlying57 hi hz0 .i64 .i64 (n : Int) (n : Int) (by omega) (Int.le_refl _) (by rw [hz2]; omega) (by omega)
    simpa [hz1, Value.cells] using h
  go_enter Tryz.func80, Tryz.ntmps80
  go_wp2
  go_loopw [4] (fun i wr => ∃ k : Nat, k ≤ n ∧ i = .int .i64 k ∧ Below w.heap.size w wr ∧ Half3 wr w.heap.size n k ls) (fun i _ => n - (intOf i).toNat)
  case atStart => exact ⟨0, Nat.zero_le _, rfl, (Below.refl _ _).alloc (Nat.le_refl _) _, Half3.start _ _ _ _⟩
  case round =>
    obtain ⟨k, hk, rfl, hbel, hh⟩ := hrel
    by_cases hlt : k < n
    · obtain ⟨b, off, rfl, hb, hc⟩ := hs (by omega)
      obtain ⟨hc0, hc1, hc2⟩ := cells3 hc hlt
      have hck0 := (hbel.cell (p := ⟨b, off + k * 3, none⟩) hb).trans hc0
      have hck1 := (hbel.cell (p := ⟨b, off + k * 3 + 1, none⟩) hb).trans hc1
      have hck2 := (hbel.cell (p := ⟨b, off + k * 3 + 2, none⟩) hb).trans hc2
      clear hc0 hc1 hc2 hc
      go_wp2_with fail
      refine (toLine_calls (g3 ls k).1 (g3 ls k).2.1 (g3 ls k).2.2 _).mono ?_
      rintro e w1 ⟨rfl, hb1⟩
      have hh1 := hh.below hb1
      obtain ⟨v0, hv0⟩ := hh1.2.2.1 (k * 3) (by omega)
      obtain ⟨v1, hv1⟩ := hh1.2.2.1 (k * 3 + 1) (by omega)
      obtain ⟨v2, hv2⟩ := hh1.2.2.1 (k * 3 + 2) (by omega)
      have hf0 := hh1.2.2.2 (k * 3)
      have hf1 := hh1.2.2.2 (k * 3 + 1)
      have hf2 := hh1.2.2.2 (k * 3 + 2)
      have hbw := hbel.trans (hb1.mono hbel.size)
      have hN := hh.1
      have HH := hide (hh1.store hlt)
      unfold set3 at HH
      clear hh hh1 hb1 hck0 hck1 hck2
      go_wp2
      go_roundw
      case rel => exact ⟨k + 1, by omega, by go_num, ((hbw.setCell (Nat.le_refl _) _).setCell (Nat.le_refl _) _).setCell (Nat.le_refl _) _, HH.out⟩
      case measure => simp [intOf]; omega
    · have hkn : k = n := by omega
      subst hkn
      go_wp2
      go_ret
      exact ⟨w.heap.size, rfl, OL.ofBlk (hh.done hlen) ⟨Nat.le_refl _, hh.1⟩ hlen hm, hbel⟩

set_option maxRecDepth 100000 in
theorem toCache_O (s : Int) (a : Option Addr) (n cap : Nat) (ls : List (Int × Int × Int)) (w : World) (hm : n ≤ 1048576) (hs : Sln w a n ls) :
    Calls Tryz.prog 32 #[.agg #[.int .i64 s, .slice a n cap]] w fun e w' => ∃ b, e = .returned (.agg #[.int .i64 s, .slice (some ⟨b, 0, none⟩) n n]) ∧ OL (InR w.heap.size w'.heap.size) (some ⟨b, 0, none⟩) n ls w' ∧ Below w.heap.size w w' := by
  have hb3 := fun o1 o2 o3 => (((Below.refl w.heap.size w).alloc (Nat.le_refl _) o1).alloc (by simp) o2).alloc (by simp; omega) o3
  go_enter Tryz.func32, Tryz.ntmps32
  go_wp2_with fail
  refine (toLineS_O a n cap ls _ hm (hs.below (hb3 _ _ _) (Nat.le_refl _))).mono ?_
  rintro e w1 ⟨b, rfl, hh, hb⟩
  have hbw : Below w.heap.size w w1 := (hb3 _ _ _).trans (hb.mono (by simp; omega))
  simp only [World.size_alloc] at hh
  have c10 : w1.cell? ⟨w.heap.size + 1, 0, none⟩ = some (.int .i64 0) := (hb.cell (p := ⟨w.heap.size + 1, 0, none⟩) (by simp)).trans (by go_simp)
  have c11 : w1.cell? ⟨w.heap.size + 1, 1, none⟩ = some (.slice none 0 0) := (hb.cell (p := ⟨w.heap.size + 1, 1, none⟩) (by simp)).trans (by go_simp)
  have f10 : w1.frozen? ⟨w.heap.size + 1, 0, none⟩ = false := (hb.frozen (p := ⟨w.heap.size + 1, 0, none⟩) (by simp)).trans (by go_simp)
  have f11 : w1.frozen? ⟨w.heap.size + 1, 1, none⟩ = false := (hb.frozen (p := ⟨w.heap.size + 1, 1, none⟩) (by simp)).trans (by go_simp)
  have c20 : w1.cell? ⟨w.heap.size + 1 + 1, 0, none⟩ = some (.int .i64 s) := (hb.cell (p := ⟨w.heap.size + 1 + 1, 0, none⟩) (by simp)).trans (by go_simp)
  have c21 : w1.cell? ⟨w.heap.size + 1 + 1, 1, none⟩ = some (.slice none 0 0) := (hb.cell (p := ⟨w.heap.size + 1 + 1, 1, none⟩) (by simp)).trans (by go_simp)
  have f21 : w1.frozen? ⟨w.heap.size + 1 + 1, 1, none⟩ = false := (hb.frozen (p := ⟨w.heap.size + 1 + 1, 1, none⟩) (by simp)).trans (by go_simp)
  clear hb hb3
  go_wp2
  refine bodyPost_ret (v := .agg #[.int .i64 s, .slice (some ⟨b, 0, none⟩) n n]) (by simp [results, Tryz.results32, go_sem, c10, c11]) rfl ⟨b, rfl, ?_, ((hbw.setCell (by simp; omega) _).setCell (by simp) _).setCell (by simp) _⟩
  have hk : ∀ i o v (u : World), w.heap.size + 1 ≤ i → i < w.heap.size + 1 + 1 + 1 → OL (InR (w.heap.size + 1 + 1 + 1) w1.heap.size) (some ⟨b, 0, none⟩) n ls u → OL (InR (w.heap.size + 1 + 1 + 1) w1.heap.size) (some ⟨b, 0, none⟩) n ls (u.setCell ⟨i, o, none⟩ v) := fun i o v u h1 h2 h =>
    OL.loc u _ (fun k hk _ => Below.heap_setCell _ _ _ _ (fun e => by have := hk.1; simp at e; omega)) h
  exact (hk _ _ _ _ (by omega) (by omega) (hk _ _ _ _ (by omega) (by omega) (hk _ _ _ _ (by omega) (by omega) hh))).mono (fun k hk => ⟨by have := hk.1; omega, by simpa using hk.2⟩)

set_option maxRecDepth 100000 in
theorem eqLine_calls (d t p : Int) (w : World) :
    Calls Tryz.prog 139 #[.agg #[.int .i64 d, .int .i64 t, .int .i64 p], .agg #[.int .i64 d, .int .i64 t, .int .i64 p]] w fun e w' => e = .returned (.bool true) ∧ Below w.heap.size w w' := by
  have h1 : (d != d) = false := by simp
  have h2 : (t != t) = false := by simp
  have h3 : (p != p) = false := by simp
  go_enter Tryz.func139, Tryz.ntmps139
  go_wp2
  go_ret
  exact ⟨rfl, ((Below.refl _ _).alloc (Nat.le_refl _) _).alloc (by simp) _⟩

/-- six cells of a world that later worlds keep: for a region's loads. -/
theorem held6 {W X Y : World} {A B C D E F : Addr} {a b c d e f : Value} (hA : A.block < W.heap.size) (hB : B.block < W.heap.size) (hC : C.block < W.heap.size) (hD : D.block < W.heap.size) (hE : E.block < W.heap.size) (hF : F.block < W.heap.size)
    (h : X.cell? A = some a ∧ X.cell? B = some b ∧ X.cell? C = some c ∧ X.cell? D = some d ∧ X.cell? E = some e ∧ X.cell? F = some f ∧ Below W.heap.size W X) (g : Below X.heap.size X Y) :
    Y.cell? A = some a ∧ Y.cell? B = some b ∧ Y.cell? C = some c ∧ Y.cell? D = some d ∧ Y.cell? E = some e ∧ Y.cell? F = some f ∧ Below W.heap.size W Y := by
  obtain ⟨h1, h2, h3, h4, h5, h6, hb⟩ := h
  have hz := hb.size
  exact ⟨(g.cell (by omega)).trans h1, (g.cell (by omega)).trans h2, (g.cell (by omega)).trans h3, (g.cell (by omega)).trans h4, (g.cell (by omega)).trans h5, (g.cell (by omega)).trans h6, hb.trans (g.mono hz)⟩

set_option maxRecDepth 100000 in
theorem eqLineS_calls (a b : Option Addr) (n ca cb : Nat) (ls : List (Int × Int × Int)) (w : World) (hn : n ≤ maxLen) (hx : Sln w a n ls) (hy : Sln w b n ls) :
    Calls Tryz.prog 102 #[.slice a n ca, .slice b n cb] w fun e w' => e = .returned (.bool true) ∧ Below w.heap.size w w' := by
  unfold maxLen at hn
  obtain ⟨hlen, hx⟩ := hx
  obtain ⟨_, hy⟩ := hy
  have hnn : ((n : Int) == (n : Int)) = true := by simp
  go_enter Tryz.func102, Tryz.ntmps102
  go_wp2
  go_loopw [5] (fun i wr => ∃ k : Nat, k ≤ n ∧ i = .int .i64 k ∧ Below w.heap.size w wr) (fun i _ => n - (intOf i).toNat)
  case atStart => exact ⟨0, Nat.zero_le _, rfl, Below.refl _ _⟩
  case round =>
    obtain ⟨k, hk, rfl, hbel⟩ := hrel
    by_cases hlt : k < n
    · obtain ⟨b1, o1, rfl, hb1, hc1⟩ := hx (by omega)
      obtain ⟨b2, o2, rfl, hb2, hc2⟩ := hy (by omega)
      obtain ⟨p0, p1, p2⟩ := cells3 hc1 hlt
      obtain ⟨r0, r1, r2⟩ := cells3 hc2 hlt
      have hp0 := (hbel.cell (p := ⟨b1, o1 + k * 3, none⟩) hb1).trans p0
      have hp1 := (hbel.cell (p := ⟨b1, o1 + k * 3 + 1, none⟩) hb1).trans p1
      have hp2 := (hbel.cell (p := ⟨b1, o1 + k * 3 + 2, none⟩) hb1).trans p2
      have hq0 := (hbel.cell (p := ⟨b2, o2 + k * 3, none⟩) hb2).trans r0
      have hq1 := (hbel.cell (p := ⟨b2, o2 + k * 3 + 1, none⟩) hb2).trans r1
      have hq2 := (hbel.cell (p := ⟨b2, o2 + k * 3 + 2, none⟩) hb2).trans r2
      clear p0 p1 p2 r0 r1 r2 hc1 hc2
      have i0 : (0 : Int) ≤ (k : Int) := by omega
      have i1 : (k : Int) < (n : Int) := by omega
      have k1 : b1 < wr.heap.size := by have := hbel.size; omega
      have k2 : b2 < wr.heap.size := by have := hbel.size; omega
      have HS0 : Hid (wr.drew.cell? ⟨b1, o1 + k * 3, none⟩ = some (.int .i64 (g3 ls k).1) ∧ wr.drew.cell? ⟨b1, o1 + k * 3 + 1, none⟩ = some (.int .i64 (g3 ls k).2.1) ∧ wr.drew.cell? ⟨b1, o1 + k * 3 + 2, none⟩ = some (.int .i64 (g3 ls k).2.2) ∧ wr.drew.cell? ⟨b2, o2 + k * 3, none⟩ = some (.int .i64 (g3 ls k).1) ∧ wr.drew.cell? ⟨b2, o2 + k * 3 + 1, none⟩ = some (.int .i64 (g3 ls k).2.1) ∧ wr.drew.cell? ⟨b2, o2 + k * 3 + 2, none⟩ = some (.int .i64 (g3 ls k).2.2) ∧ Below wr.heap.size wr wr.drew) := ⟨hp0, hp1, hp2, hq0, hq1, hq2, (Below.refl _ _).drew⟩
      go_wp2_with fail
      clear hp0 hp1 hp2 hq0 hq1 hq2
      go_region_held2 (fun w' => w'.cell? ⟨b1, o1 + k * 3, none⟩ = some (.int .i64 (g3 ls k).1) ∧ w'.cell? ⟨b1, o1 + k * 3 + 1, none⟩ = some (.int .i64 (g3 ls k).2.1) ∧ w'.cell? ⟨b1, o1 + k * 3 + 2, none⟩ = some (.int .i64 (g3 ls k).2.2) ∧ w'.cell? ⟨b2, o2 + k * 3, none⟩ = some (.int .i64 (g3 ls k).1) ∧ w'.cell? ⟨b2, o2 + k * 3 + 1, none⟩ = some (.int .i64 (g3 ls k).2.1) ∧ w'.cell? ⟨b2, o2 + k * 3 + 2, none⟩ = some (.int .i64 (g3 ls k).2.2) ∧ Below wr.heap.size wr w')
        (first | with_reducible exact HS0.out | with_reducible assumption)
        (first
          | (go_at_call 139; refine (eqLine_calls (g3 ls k).1 (g3 ls k).2.1 (g3 ls k).2.2 _).mono ?_; rintro e v1 ⟨rfl, g1⟩; have hs1 := held6 (W := wr) k1 k1 k1 k2 k2 k2 (by with_reducible assumption) g1; clear g1))
      have HE := hide (hbel.trans (hs1.2.2.2.2.2.2.mono hbel.size))
      clear hs1 HS0
      go_wp2
      go_roundw
      case rel => exact ⟨k + 1, by omega, by go_num, HE.out⟩
      case measure => simp [intOf]; omega
    · go_wp2
      go_ret
      exact ⟨rfl, hbel⟩

set_option maxRecDepth 100000 in
theorem eqCache_calls (s : Int) (a b : Option Addr) (n ca cb : Nat) (ls : List (Int × Int × Int)) (w : World) (hn : n ≤ maxLen) (hx : Sln w a n ls) (hy : Sln w b n ls) :
    Calls Tryz.prog 42 #[.agg #[.int .i64 s, .slice a n ca], .agg #[.int .i64 s, .slice b n cb]] w fun e w' => e = .returned (.bool true) ∧ Below w.heap.size w w' := by
  have h1 : (s != s) = false := by simp
  have hb2 := fun o1 o2 => ((Below.refl w.heap.size w).alloc (Nat.le_refl _) o1).alloc (by simp) o2
  go_enter Tryz.func42, Tryz.ntmps42
  go_wp2_with fail
  refine (eqLineS_calls a b n ca cb ls _ hn (hx.below (hb2 _ _) (Nat.le_refl _)) (hy.below (hb2 _ _) (Nat.le_refl _))).mono ?_
  rintro e w1 ⟨rfl, hb⟩
  have hbw : Below w.heap.size w w1 := (hb2 _ _).trans (hb.mono (by simp; omega))
  clear hb hb2
  go_wp2
  go_ret
  exact ⟨rfl, hbw⟩

theorem eqCache_O (S S' : Nat → Prop) (s : Int) (a b : Option Addr) (n ca cb : Nat) (ls : List (Int × Int × Int)) (w : World) (hx : OL S a n ls w) (hy : OL S' b n ls w) :
    Calls Tryz.prog 42 #[.agg #[.int .i64 s, .slice a n ca], .agg #[.int .i64 s, .slice b n cb]] w fun e w' => e = .returned (.bool true) ∧ Below w.heap.size w w' :=
  eqCache_calls s a b n ca cb ls w (by have := hx.2.1; unfold maxLen; omega) hx.sln hy.sln

end Go.Proofs.YtnlkigjgloeonaaGreat
