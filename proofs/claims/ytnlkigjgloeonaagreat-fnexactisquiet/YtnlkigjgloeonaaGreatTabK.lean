import Derived.Test.YtnlkigjgloeonaaGreatOpenTab
import Derived.Test.YtnlkigjgloeonaaGreatSzReg
import Derived.Test.YtnlkigjgloeonaaGreatToRegO
import Derived.WalkKit
import Derived.ProofKit
import Derived.OpenShut
import Derived.ShutString
import Derived.ChangeOld
import Derived.Below
import Derived.WalkSpells
import Derived.Deep.QuietTactic
import Derived.BigQuiet
import Derived.Deep.RegionWith
import Derived.Deep.WholeRow
import Derived.Deep.DeepCutAuto
import Derived.Deep.RegionHeld2
import Derived.Deep.AppendLies
import Derived.Deep.RegionLaw
namespace Go.Proofs.YtnlkigjgloeonaaGreat
open Go.ChangeShapes Go.WideShapes Go.ChangeAt Go.RowKit

set_option maxRecDepth 100000 in
theorem szTables_calls (a : Option Addr) (n c : Nat) (ss : List (Int × List Int)) (ta : Option Addr) (tl tc : Nat) (ts : List Int) (da : Option Addr) (dl dc : Nat) (ds : List Int) (left : Int) (w : World) (h0 : 0 ≤ left) (h1 : left ≤ 1048576) (hrt : RT w a n ss ta tl ts da dl ds) :
    Calls Tryz.prog 20 #[.agg #[.slice a n c, .slice ta tl tc, .slice da dl dc], .int .i64 left] w fun e w' => e = .returned (.int .i64 (szI (n + lenSum ss + tl + dl) left)) ∧ Below w.heap.size w w' := by
  obtain ⟨hn, hx, htm, ht, hdm, hd⟩ := hrt
  have M0 := (Mm.start w).alloc3 (.slice a n c) (.slice ta tl tc) (.slice da dl dc) 27
  have hx0 := hx.below M0.bel (Nat.le_refl _)
  by_cases hA : left - (n + lenSum ss : Nat) < 0
  · have HR := hide (szI_neg (len := n + lenSum ss + tl + dl) (left := left) (by omega))
    go_enter Tryz.func20, Tryz.ntmps20
    go_wp2_with fail
    refine (szRegistry_calls a n c ss left _ h0 h1 hn hx0).mono ?_
    rintro e w1 ⟨rfl, g1⟩
    have HE := hide (M0.below g1).bel
    rw [szI_neg hA]
    clear g1 M0 hx0
    go_wp2
    go_ret
    exact ⟨ret_int HR.out.symm, HE.out⟩
  · have hA' : ¬ (left - ((n : Int) + (lenSum ss : Int)) < 0) := by omega
    by_cases hB : left - (n + lenSum ss : Nat) - tl < 0
    · have HR := hide (szI_neg (len := n + lenSum ss + tl + dl) (left := left) (by omega))
      go_enter Tryz.func20, Tryz.ntmps20
      go_wp2_with fail
      refine (szRegistry_calls a n c ss left _ h0 h1 hn hx0).mono ?_
      rintro e w1 ⟨rfl, g1⟩
      have M1 := M0.below g1
      have q1 := M1.cell 1 rfl
      rw [szI_pos (by omega)]
      clear g1 M0 hx0
      go_wp2_with fail
      refine (sz_calls ta tl tc _ _ (by omega) (by omega) htm).mono ?_
      rintro e w2 ⟨rfl, g2⟩
      have HE := hide (M1.below g2).bel
      rw [szI_neg (by omega)]
      clear g2 M1 q1
      go_wp2
      go_ret
      exact ⟨ret_int HR.out.symm, HE.out⟩
    · have hB' : ¬ (left - ((n : Int) + (lenSum ss : Int)) - (tl : Int) < 0) := by omega
      by_cases hC : left - (n + lenSum ss : Nat) - tl - dl < 0
      · have HR := hide (szI_neg (len := n + lenSum ss + tl + dl) (left := left) (by omega))
        go_enter Tryz.func20, Tryz.ntmps20
        go_wp2_with fail
        refine (szRegistry_calls a n c ss left _ h0 h1 hn hx0).mono ?_
        rintro e w1 ⟨rfl, g1⟩
        have M1 := M0.below g1
        have q1 := M1.cell 1 rfl
        rw [szI_pos (by omega)]
        clear g1 M0 hx0
        go_wp2_with fail
        refine (sz_calls ta tl tc _ _ (by omega) (by omega) htm).mono ?_
        rintro e w2 ⟨rfl, g2⟩
        have M2 := M1.below g2
        have q2 := M2.cell 2 rfl
        rw [szI_pos (by omega)]
        clear g2 M1 q1
        go_wp2_with fail
        refine (sz_calls da dl dc _ _ (by omega) (by omega) hdm).mono ?_
        rintro e w3 ⟨rfl, g3⟩
        have HE := hide (M2.below g3).bel
        rw [szI_neg (by omega)]
        clear g3 M2 q2
        go_wp2
        go_ret
        exact ⟨ret_int HR.out.symm, HE.out⟩
      · have HR : Hid (szI (n + lenSum ss + tl + dl) left = left - (n + lenSum ss : Nat) - tl - dl) := by show _ = _; rw [szI_pos (by omega)]; omega
        have hC' : ¬ (left - ((n : Int) + (lenSum ss : Int)) - (tl : Int) - (dl : Int) < 0) := by omega
        go_enter Tryz.func20, Tryz.ntmps20
        go_wp2_with fail
        refine (szRegistry_calls a n c ss left _ h0 h1 hn hx0).mono ?_
        rintro e w1 ⟨rfl, g1⟩
        have M1 := M0.below g1
        have q1 := M1.cell 1 rfl
        rw [szI_pos (by omega)]
        clear g1 M0 hx0
        go_wp2_with fail
        refine (sz_calls ta tl tc _ _ (by omega) (by omega) htm).mono ?_
        rintro e w2 ⟨rfl, g2⟩
        have M2 := M1.below g2
        have q2 := M2.cell 2 rfl
        rw [szI_pos (by omega)]
        clear g2 M1 q1
        go_wp2_with fail
        refine (sz_calls da dl dc _ _ (by omega) (by omega) hdm).mono ?_
        rintro e w3 ⟨rfl, g3⟩
        have HE := hide (M2.below g3).bel
        rw [szI_pos (by omega)]
        clear g3 M2 q2
        go_wp2
        go_ret
        exact ⟨ret_int (by rw [HR.out]; (try simp); (try omega)), HE.out⟩

/-- owned tables: slots, tags and domains in blocks of S, no two of the three in one. -/
def OT (S : Nat → Prop) (a : Option Addr) (n : Nat) (ss : List (Int × List Int)) (ta : Option Addr) (tn : Nat) (ts : List Int) (da : Option Addr) (dn : Nat) (ds : List Int) (w : World) : Prop :=
  ∃ S1 S2 S3 : Nat → Prop, (∀ k, S1 k → S k) ∧ (∀ k, S2 k → S k) ∧ (∀ k, S3 k → S k) ∧ (∀ k, S1 k → ¬ S2 k) ∧ (∀ k, S1 k → ¬ S3 k) ∧ (∀ k, S2 k → ¬ S3 k) ∧ OR S1 a n ss w ∧ OS S2 ta tn ts w ∧ OS S3 da dn ds w

theorem OT.loc {S : Nat → Prop} {a : Option Addr} {n : Nat} {ss : List (Int × List Int)} {ta : Option Addr} {tn : Nat} {ts : List Int} {da : Option Addr} {dn : Nat} {ds : List Int} : Loc S (OT S a n ss ta tn ts da dn ds) := fun w w' hk h => by
  obtain ⟨S1, S2, S3, i1, i2, i3, d1, d2, d3, o1, o2, o3⟩ := h
  exact ⟨S1, S2, S3, i1, i2, i3, d1, d2, d3, OR.loc w w' (fun k h hl => hk k (i1 k h) hl) o1, OS.loc w w' (fun k h hl => hk k (i2 k h) hl) o2, OS.loc w w' (fun k h hl => hk k (i3 k h) hl) o3⟩

theorem OT.mono {S S' : Nat → Prop} {a : Option Addr} {n : Nat} {ss : List (Int × List Int)} {ta : Option Addr} {tn : Nat} {ts : List Int} {da : Option Addr} {dn : Nat} {ds : List Int} {w : World} (h : OT S a n ss ta tn ts da dn ds w) (hs : ∀ k, S k → S' k) : OT S' a n ss ta tn ts da dn ds w := by
  obtain ⟨S1, S2, S3, i1, i2, i3, d⟩ := h
  exact ⟨S1, S2, S3, fun k h => hs k (i1 k h), fun k h => hs k (i2 k h), fun k h => hs k (i3 k h), d⟩

theorem OT.rt {S : Nat → Prop} {a : Option Addr} {n : Nat} {ss : List (Int × List Int)} {ta : Option Addr} {tn : Nat} {ts : List Int} {da : Option Addr} {dn : Nat} {ds : List Int} {w : World} (h : OT S a n ss ta tn ts da dn ds w) : RT w a n ss ta tn ts da dn ds := by
  obtain ⟨S1, S2, S3, i1, i2, i3, d1, d2, d3, o1, o2, o3⟩ := h
  exact ⟨by have := o1.2.1; unfold maxLen; omega, o1.sls, by have := o2.2.1; unfold maxLen; omega, o2.sl, by have := o3.2.1; unfold maxLen; omega, o3.sl⟩

set_option maxRecDepth 100000 in
theorem toTables_O (a : Option Addr) (n c : Nat) (ss : List (Int × List Int)) (ta : Option Addr) (tl tc : Nat) (ts : List Int) (da : Option Addr) (dl dc : Nat) (ds : List Int) (w : World) (hm : n + lenSum ss + tl + dl ≤ 1048576) (hrt : RT w a n ss ta tl ts da dl ds) :
    Calls Tryz.prog 29 #[.agg #[.slice a n c, .slice ta tl tc, .slice da dl dc]] w fun e w' => ∃ b bt bd, e = .returned (.agg #[.slice (some ⟨b, 0, none⟩) n n, .slice (some ⟨bt, 0, none⟩) tl tl, .slice (some ⟨bd, 0, none⟩) dl dl]) ∧ OT (InR w.heap.size w'.heap.size) (some ⟨b, 0, none⟩) n ss (some ⟨bt, 0, none⟩) tl ts (some ⟨bd, 0, none⟩) dl ds w' ∧ Below w.heap.size w w' := by
  obtain ⟨hn, hx, htm, ht, hdm, hd⟩ := hrt
  have M0 := (((Mm.start w).alloc3 (.slice a n c) (.slice ta tl tc) (.slice da dl dc) 27).alloc3 (.slice none 0 0) (.slice none 0 0) (.slice none 0 0) 54).alloc3 (.slice none 0 0) (.slice none 0 0) (.slice none 0 0) 54
  simp only [World.size_alloc] at M0
  have hb0 := M0.bel
  go_enter Tryz.func29, Tryz.ntmps29
  go_wp2_with fail
  refine (toRegistry_O a n c ss _ (by omega) (hx.below hb0 (Nat.le_refl _))).mono ?_
  rintro e w1 ⟨b, rfl, o1, g1⟩
  have z1 := g1.size
  simp only [World.size_alloc] at o1 z1
  have M1 := (M0.below g1).fact OR.loc o1
  have q1 := M1.cell 7 rfl
  have u0 := M1.cell 0 rfl
  have v0 := M1.fz 0 rfl
  have N1 := M1.set 0 rfl (.slice (some ⟨b, 0, none⟩) n n) (by omega) (by simp <;> omega) (by simp <;> omega)
  have p1 := N1.cell 7 rfl
  clear g1 M0 M1 o1 hb0
  go_wp2_with fail
  refine (toInts_calls ta tl tc ts _ (by omega) (ht.below N1.bel (Nat.le_refl _))).mono ?_
  rintro e w2 ⟨bt, rfl, hbt, blk2, g2⟩
  have z2 := g2.size
  simp only [World.size_setCell] at hbt z2
  have M2 := (N1.below g2).fact (OS.loc (S := InR w1.heap.size w2.heap.size)) (OS.ofBlk (n := tl) blk2 ⟨hbt, blk2.1⟩ ht.1 (by omega))
  have u1 := M2.cell 1 rfl
  have v1 := M2.fz 1 rfl
  have N2 := M2.set 1 rfl (.slice (some ⟨bt, 0, none⟩) tl tl) (by omega) (by simp <;> omega) (by simp <;> omega)
  have p2 := N2.cell 8 rfl
  have q2 := M2.cell 8 rfl
  clear g2 N1 M2 blk2 u0 v0 q1 p1
  go_wp2_with fail
  refine (toInts_calls da dl dc ds _ (by omega) (hd.below N2.bel (Nat.le_refl _))).mono ?_
  rintro e w3 ⟨bd, rfl, hbd, blk3, g3⟩
  have z3 := g3.size
  simp only [World.size_setCell] at hbd z3
  have M3 := (N2.below g3).fact (OS.loc (S := InR w2.heap.size w3.heap.size)) (OS.ofBlk (n := dl) blk3 ⟨hbd, blk3.1⟩ hd.1 (by omega))
  have u2 := M3.cell 2 rfl
  have v2 := M3.fz 2 rfl
  have N3 := M3.set 2 rfl (.slice (some ⟨bd, 0, none⟩) dl dl) (by omega) (by simp <;> omega) (by simp <;> omega)
  have x0 := N3.cell 0 rfl
  have x1 := N3.cell 1 rfl
  have x2 := N3.cell 2 rfl
  have r0 := N3.cell 3 rfl
  have r1 := N3.cell 4 rfl
  have r2 := N3.cell 5 rfl
  have f0 := N3.fz 3 rfl
  have f1 := N3.fz 4 rfl
  have f2 := N3.fz 5 rfl
  have R0 := N3.set 3 rfl (.slice (some ⟨b, 0, none⟩) n n) (by omega) (by simp <;> omega) (by simp <;> omega)
  have R1 := R0.set 4 rfl (.slice (some ⟨bt, 0, none⟩) tl tl) (by omega) (by simp <;> omega) (by simp <;> omega)
  have R2 := R1.set 5 rfl (.slice (some ⟨bd, 0, none⟩) dl dl) (by omega) (by simp <;> omega) (by simp <;> omega)
  have HR := hide R2
  clear g3 N2 M3 N3 R0 R1 R2 blk3 u1 v1 q2 p2
  go_wp2
  refine bodyPost_ret (v := .agg #[.slice (some ⟨b, 0, none⟩) n n, .slice (some ⟨bt, 0, none⟩) tl tl, .slice (some ⟨bd, 0, none⟩) dl dl]) (by simp [results, Tryz.results29, go_sem, r0, r1, r2]) rfl ⟨b, bt, bd, rfl, ?_, HR.out.bel⟩
  refine ⟨InR (w.heap.size + 1 + 1 + 1) w1.heap.size, InR w1.heap.size w2.heap.size, InR w2.heap.size w3.heap.size, fun k hk => ?_, fun k hk => ?_, fun k hk => ?_, fun k h1 h2 => ?_, fun k h1 h2 => ?_, fun k h1 h2 => ?_, HR.out.get 2 rfl, HR.out.get 1 rfl, HR.out.get 0 rfl⟩
  · have h1 := hk.1; have h2 := hk.2; exact ⟨by omega, by simp; omega⟩
  · have h1 := hk.1; have h2 := hk.2; exact ⟨by omega, by simp; omega⟩
  · have h1 := hk.1; have h2 := hk.2; exact ⟨by omega, by simp; omega⟩
  · have e1 := h1.2; have e2 := h2.1; omega
  · have e1 := h1.2; have e2 := h2.1; omega
  · have e1 := h1.2; have e2 := h2.1; omega

set_option maxRecDepth 100000 in
theorem eqTables_O (S S' : Nat → Prop) (a b : Option Addr) (n c1 c2 : Nat) (ss : List (Int × List Int)) (ta tb : Option Addr) (tl tc1 tc2 : Nat) (ts : List Int) (da db : Option Addr) (dl dc1 dc2 : Nat) (ds : List Int) (w : World) (hx : OT S a n ss ta tl ts da dl ds w) (hy : OT S' b n ss tb tl ts db dl ds w) :
    Calls Tryz.prog 39 #[.agg #[.slice a n c1, .slice ta tl tc1, .slice da dl dc1], .agg #[.slice b n c2, .slice tb tl tc2, .slice db dl dc2]] w fun e w' => e = .returned (.bool true) ∧ Below w.heap.size w w' := by
  obtain ⟨hn, x1, htm, x2, hdm, x3⟩ := hx.rt
  obtain ⟨_, y1, _, y2, _, y3⟩ := hy.rt
  have M0 := ((Mm.start w).alloc3 (.slice a n c1) (.slice ta tl tc1) (.slice da dl dc1) 54).alloc3 (.slice b n c2) (.slice tb tl tc2) (.slice db dl dc2) 54
  simp only [World.size_alloc] at M0
  go_enter Tryz.func39, Tryz.ntmps39
  go_wp2_with fail
  refine (eqRegistry_calls a b n c1 c2 ss _ hn (x1.below M0.bel (Nat.le_refl _)) (y1.below M0.bel (Nat.le_refl _))).mono ?_
  rintro e w1 ⟨rfl, g1⟩
  have M1 := M0.below g1
  have p1 := M1.cell 4 rfl
  have q1 := M1.cell 1 rfl
  clear g1 M0
  go_wp2_with fail
  refine (eqInts_calls ta tb tl tc1 tl tc2 ts ts _ htm htm (x2.below M1.bel (Nat.le_refl _)) (y2.below M1.bel (Nat.le_refl _))).mono ?_
  rintro e w2 ⟨rfl, g2⟩
  rw [decide_eq_true rfl]
  have M2 := M1.below g2
  have p2 := M2.cell 5 rfl
  have q2 := M2.cell 2 rfl
  clear g2 M1 p1 q1
  go_wp2_with fail
  refine (eqInts_calls da db dl dc1 dl dc2 ds ds _ hdm hdm (x3.below M2.bel (Nat.le_refl _)) (y3.below M2.bel (Nat.le_refl _))).mono ?_
  rintro e w3 ⟨rfl, g3⟩
  rw [decide_eq_true rfl]
  have HE := hide (M2.below g3).bel
  clear g3 M2 p2 q2
  go_wp2
  go_ret
  exact ⟨rfl, HE.out⟩

end Go.Proofs.YtnlkigjgloeonaaGreat
