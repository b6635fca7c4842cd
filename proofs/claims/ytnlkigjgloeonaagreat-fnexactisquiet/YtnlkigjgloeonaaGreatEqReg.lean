import Derived.Test.YtnlkigjgloeonaaGreatBase
import Derived.Test.YtnlkigjgloeonaaGreatReg
import Derived.WalkKit
import Derived.ProofKit
import Derived.OpenShut
import Derived.ShutString
import Derived.ChangeOld
import Derived.Below
import Derived.WalkSpells
import Derived.Deep.QuietTactic
import Derived.BigQuiet
import Derived.Deep.RegionWith
import Derived.Deep.WholeRow
import Derived.Deep.DeepCutAuto
import Derived.Deep.RegionHeld2
import Derived.Deep.AppendLies
import Derived.Deep.RegionLaw
namespace Go.Proofs.YtnlkigjgloeonaaGreat
open Go.ChangeShapes Go.WideShapes Go.ChangeAt Go.RowKit

/-- four cells of a world that later worlds keep: for a region's loads. -/
theorem held4 {W X Y : World} {A B C D : Addr} {a b c d : Value} (hA : A.block < W.heap.size) (hB : B.block < W.heap.size) (hC : C.block < W.heap.size) (hD : D.block < W.heap.size)
    (h : X.cell? A = some a ∧ X.cell? B = some b ∧ X.cell? C = some c ∧ X.cell? D = some d ∧ Below W.heap.size W X) (g : Below X.heap.size X Y) :
    Y.cell? A = some a ∧ Y.cell? B = some b ∧ Y.cell? C = some c ∧ Y.cell? D = some d ∧ Below W.heap.size W Y := by
  obtain ⟨h1, h2, h3, h4, hb⟩ := h
  have hz := hb.size
  exact ⟨(g.cell (by omega)).trans h1, (g.cell (by omega)).trans h2, (g.cell (by omega)).trans h3, (g.cell (by omega)).trans h4, hb.trans (g.mono hz)⟩

set_option maxRecDepth 100000 in
theorem eqSlot_calls (c : Int) (a b : Option Addr) (la ca lb cb : Nat) (zs : List Int) (w : World) (hla : la ≤ maxLen) (hlb : lb ≤ maxLen) (hx : Sl w a la zs) (hy : Sl w b lb zs) :
    Calls Tryz.prog 158 #[.agg #[.int .i64 c, .slice a la ca], .agg #[.int .i64 c, .slice b lb cb]] w fun e w' => e = .returned (.bool true) ∧ Below w.heap.size w w' := by
  have hn : (c != c) = false := by simp
  have HX := hide fun o1 o2 => hx.below (((Below.refl w.heap.size w).alloc (Nat.le_refl _) o1).alloc (by simp) o2) (Nat.le_refl _)
  have HY := hide fun o1 o2 => hy.below (((Below.refl w.heap.size w).alloc (Nat.le_refl _) o1).alloc (by simp) o2) (Nat.le_refl _)
  have HB := hide fun o1 o2 => ((Below.refl w.heap.size w).alloc (Nat.le_refl _) o1).alloc (by simp) o2
  go_enter Tryz.func158, Tryz.ntmps158
  go_wp2_with fail
  refine (eqLabel_calls a b la ca lb cb zs zs _ hla hlb (HX.out _ _) (HY.out _ _)).mono ?_
  rintro e w1 ⟨rfl, g1⟩
  rw [decide_eq_true rfl]
  go_wp2
  go_ret
  exact ⟨rfl, (HB.out _ _).trans (g1.mono (HB.out _ _).size)⟩

set_option maxRecDepth 100000 in
theorem eqSlotS_calls (a b : Option Addr) (n ca cb : Nat) (ss : List (Int × List Int)) (w : World) (hn : n ≤ maxLen) (hx : Sls w a n ss) (hy : Sls w b n ss) :
    Calls Tryz.prog 138 #[.slice a n ca, .slice b n cb] w fun e w' => e = .returned (.bool true) ∧ Below w.heap.size w w' := by
  unfold maxLen at hn
  obtain ⟨hlen, hx⟩ := hx
  obtain ⟨_, hy⟩ := hy
  have hnn : ((n : Int) == (n : Int)) = true := by simp
  go_enter Tryz.func138, Tryz.ntmps138
  go_wp2
  go_loopw [5] (fun i wr => ∃ k : Nat, k ≤ n ∧ i = .int .i64 k ∧ Below w.heap.size w wr) (fun i _ => n - (intOf i).toNat)
  case atStart => exact ⟨0, Nat.zero_le _, rfl, Below.refl _ _⟩
  case round =>
    obtain ⟨k, hk, rfl, hbel⟩ := hrel
    by_cases hlt : k < n
    · obtain ⟨b1, o1, rfl, hb1, hc1⟩ := hx (by omega)
      obtain ⟨b2, o2, rfl, hb2, hc2⟩ := hy (by omega)
      obtain ⟨p0, la, ll, lc, p1, pl, psl⟩ := hc1 k hlt
      obtain ⟨q0, ma, ml, mc, q1, ql, qsl⟩ := hc2 k hlt
      have hp0 := (hbel.cell (p := ⟨b1, o1 + k * 2, none⟩) hb1).trans p0
      have hp1 := (hbel.cell (p := ⟨b1, o1 + k * 2 + 1, none⟩) hb1).trans p1
      have hq0 := (hbel.cell (p := ⟨b2, o2 + k * 2, none⟩) hb2).trans q0
      have hq1 := (hbel.cell (p := ⟨b2, o2 + k * 2 + 1, none⟩) hb2).trans q1
      have HP := hide (psl.below hbel (Nat.le_refl _))
      have HQ := hide (qsl.below hbel (Nat.le_refl _))
      clear p0 p1 q0 q1 psl qsl
      have i0 : (0 : Int) ≤ (k : Int) := by omega
      have i1 : (k : Int) < (n : Int) := by omega
      have k1 : b1 < wr.heap.size := by have := hbel.size; omega
      have k2 : b2 < wr.heap.size := by have := hbel.size; omega
      have HS0 : Hid (wr.drew.cell? ⟨b1, o1 + k * 2, none⟩ = some (.int .i64 (gc ss k)) ∧ wr.drew.cell? ⟨b1, o1 + k * 2 + 1, none⟩ = some (.slice la ll lc) ∧ wr.drew.cell? ⟨b2, o2 + k * 2, none⟩ = some (.int .i64 (gc ss k)) ∧ wr.drew.cell? ⟨b2, o2 + k * 2 + 1, none⟩ = some (.slice ma ml mc) ∧ Below wr.heap.size wr wr.drew) := ⟨hp0, hp1, hq0, hq1, (Below.refl _ _).drew⟩
      go_wp2_with fail
      clear hp0 hp1 hq0 hq1
      go_region_held2 (fun w' => w'.cell? ⟨b1, o1 + k * 2, none⟩ = some (.int .i64 (gc ss k)) ∧ w'.cell? ⟨b1, o1 + k * 2 + 1, none⟩ = some (.slice la ll lc) ∧ w'.cell? ⟨b2, o2 + k * 2, none⟩ = some (.int .i64 (gc ss k)) ∧ w'.cell? ⟨b2, o2 + k * 2 + 1, none⟩ = some (.slice ma ml mc) ∧ Below wr.heap.size wr w')
        (first | with_reducible exact HS0.out | with_reducible assumption)
        (first
          | (go_at_call 158; refine (eqSlot_calls (gc ss k) la ma ll lc ml mc (gl ss k) _ pl ql ?_ ?_).mono ?_; exact HP.out.below (And.right (And.right (And.right (And.right (by with_reducible assumption))))) (Nat.le_refl _); exact HQ.out.below (And.right (And.right (And.right (And.right (by with_reducible assumption))))) (Nat.le_refl _); rintro e v1 ⟨rfl, g1⟩; have hs1 := held4 (W := wr) k1 k1 k2 k2 (by with_reducible assumption) g1; clear g1))
      have HE := hide (hbel.trans (hs1.2.2.2.2.mono hbel.size))
      clear hs1 HS0 HP HQ
      go_wp2
      go_roundw
      case rel => exact ⟨k + 1, by omega, by go_num, HE.out⟩
      case measure => simp [intOf]; omega
    · go_wp2
      go_ret
      exact ⟨rfl, hbel⟩

set_option maxRecDepth 100000 in
theorem eqRegistry_calls (a b : Option Addr) (n ca cb : Nat) (ss : List (Int × List Int)) (w : World) (hn : n ≤ maxLen) (hx : Sls w a n ss) (hy : Sls w b n ss) :
    Calls Tryz.prog 100 #[.agg #[.slice a n ca], .agg #[.slice b n cb]] w fun e w' => e = .returned (.bool true) ∧ Below w.heap.size w w' := by
  have hb2 := fun o1 o2 => ((Below.refl w.heap.size w).alloc (Nat.le_refl _) o1).alloc (by simp) o2
  go_enter Tryz.func100, Tryz.ntmps100
  go_wp2_with fail
  refine (eqSlotS_calls a b n ca cb ss _ hn (hx.below (hb2 _ _) (Nat.le_refl _)) (hy.below (hb2 _ _) (Nat.le_refl _))).mono ?_
  rintro e w1 ⟨rfl, hb⟩
  have hbw : Below w.heap.size w w1 := (hb2 _ _).trans (hb.mono (by simp; omega))
  clear hb hb2
  go_wp2
  go_ret
  exact ⟨rfl, hbw⟩

end Go.Proofs.YtnlkigjgloeonaaGreat
