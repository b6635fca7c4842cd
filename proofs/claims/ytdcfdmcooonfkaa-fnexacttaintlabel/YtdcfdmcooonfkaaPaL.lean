import Derived.Test.YtdcfdmcooonfkaaPaP
import Derived.Test.YtdcfdmcooonfkaaQs
import Derived.Test.YtdcfdmcooonfkaaRegO
import Derived.WalkKit
import Derived.ProofKit
import Derived.OpenShut
import Derived.ShutString
import Derived.ChangeOld
import Derived.Below
import Derived.WalkSpells
import Derived.Deep.QuietTactic
import Derived.BigQuiet
import Derived.Deep.RegionWith
import Derived.Deep.WholeRow
import Derived.Deep.DeepCutAuto
import Derived.Deep.RegionHeld2
import Derived.Deep.AppendLies
import Derived.Deep.RegionLaw
namespace Go.Proofs.Ytdcfdmcooonfkaa
open Go.ChangeShapes Go.WideShapes Go.ChangeAt Go.RowKit

set_option maxRecDepth 100000 in
theorem markInt64S_O (S : Nat → Prop) (a : Option Addr) (n cap : Nat) (rs : List Int) (m : Int) (w : World) (hm0 : 0 ≤ m) (hm : m ≤ 4194304) (hs : OS S a n rs w) :
    Calls Try.prog 71 #[.slice a n cap, .int .i64 m] w fun e w' => e = .returned (.int .i64 (m + n)) ∧ OS S a n (marksFrom m n) w' ∧ OutS S w w' := by
  obtain ⟨hlen, hn, hs⟩ := hs
  rcases hs with rfl | ⟨b, rfl, hB, blk⟩
  · go_enter Try.func71, Try.ntmps71
    go_wp2
    go_loop [1, 5] (fun k i => k = .int .i64 m ∧ i = .int .i64 0) (fun _ _ => 0)
    case atStart => exact ⟨rfl, rfl⟩
    case round =>
      obtain ⟨rfl, rfl⟩ := hrel
      go_wp2
      go_ret
      exact ⟨ret_int (by simp), ⟨length_marksFrom _ _, by omega, (.inl rfl)⟩, OutS.refl _ _⟩
  · subst hlen
    go_enter Try.func71, Try.ntmps71
    go_wp2
    go_loopw [1, 5] (fun q i wr => ∃ k : Nat, k ≤ rs.length ∧ q = .int .i64 (m + k) ∧ i = .int .i64 k ∧ MRow wr b rs.length k m ∧ OutS S w wr) (fun _ i _ => rs.length - (intOf i).toNat)
    case atStart => exact ⟨0, Nat.zero_le _, by simp, rfl, MRow.start blk, OutS.refl _ _⟩
    case round =>
      obtain ⟨k, hk, rfl, rfl, hrow, hbut⟩ := hrel
      by_cases hlt : k < rs.length
      · obtain ⟨v, hv⟩ := hrow.2.2.1 k hlt
        have hfz := hrow.2.2.2 k
        go_wp2
        go_roundw
        case rel => exact ⟨k + 1, by omega, by go_num, by go_num, hrow.store hlt, hbut.setCell hB _⟩
        case measure => simp [intOf]; omega
      · have e : k = rs.length := by omega
        subst e
        go_wp2
        go_ret
        exact ⟨rfl, ⟨length_marksFrom _ _, hn, .inr ⟨b, rfl, hB, hrow.done⟩⟩, hbut⟩

theorem toLabel_O (a : Option Addr) (n cap : Nat) (zs : List Int) (w : World) (hl : n ≤ 1048576) (hs : Sl w a n zs) :
    Calls Try.prog 36 #[.agg #[.slice a n cap]] w fun e w' => ∃ b, e = .returned (.agg #[.slice (some ⟨b, 0, none⟩) n n]) ∧ OS (InR w.heap.size w'.heap.size) (some ⟨b, 0, none⟩) n zs w' ∧ Below w.heap.size w w' :=
  (toLabel_calls a n cap zs w hl hs).mono (fun _ _ h => by obtain ⟨b, e, h1, h2, h3⟩ := h; exact ⟨b, e, OS.ofBlk h2 ⟨h1, h2.1⟩ hs.1 hl, h3⟩)

theorem eqLabel_O (S S' : Nat → Prop) (a b : Option Addr) (n ca cb : Nat) (zs : List Int) (w : World) (hx : OS S a n zs w) (hy : OS S' b n zs w) :
    Calls Try.prog 37 #[.agg #[.slice a n ca], .agg #[.slice b n cb]] w fun e w' => e = .returned (.bool true) ∧ Below w.heap.size w w' :=
  (eqLabel_calls a b n ca n cb zs zs w (by have := hx.2.1; unfold maxLen; omega) (by have := hx.2.1; unfold maxLen; omega) hx.sl hy.sl).mono (fun _ _ h => by obtain ⟨h1, h2⟩ := h; exact ⟨by rw [h1, decide_eq_true rfl], h2⟩)

set_option maxRecDepth 100000 in
theorem markLabel_O (S : Nat → Prop) (a : Option Addr) (n cap : Nat) (rs : List Int) (m : Int) (w : World) (hm0 : 0 ≤ m) (hm : m ≤ 4194304) (hs : OS S a n rs w) :
    Calls Try.prog 40 #[.agg #[.slice a n cap], .int .i64 m] w fun e w' => e = .returned (.int .i64 (m + n)) ∧ OS S a n (marksFrom m n) w' ∧ OutS S w w' := by
  go_enter Try.func40, Try.ntmps40
  go_wp2_with fail
  refine (markInt64S_O S a n cap rs m _ hm0 hm (OS.loc.below ((Below.refl _ _).alloc (Nat.le_refl _) _) hs)).mono ?_
  rintro e w1 ⟨rfl, h1, h2⟩
  go_wp2
  go_ret
  exact ⟨rfl, h1, (OutS.of_below ((Below.refl _ _).alloc (Nat.le_refl _) _)).trans h2⟩

set_option maxRecDepth 100000 in
theorem szPass_calls (a : Option Addr) (n c : Nat) (b : Option Addr) (m d : Nat) (left : Int) (w : World) (h0 : 0 ≤ left) (h1 : left ≤ 1048576) (hn : n ≤ maxLen) (hm : m ≤ maxLen) :
    Calls Try.prog 32 #[.agg #[.slice a n c, .slice b m d], .int .i64 left] w fun e w' => e = .returned (.int .i64 (szI (n + m) left)) ∧ Below w.heap.size w w' := by
  have M0 := (Mm.start w).allocC [.slice a n c, .slice b m d] 52
  by_cases h : left - n < 0
  · have HR := hide (szI_neg (len := n + m) (left := left) (by omega))
    go_enter Try.func32, Try.ntmps32
    go_wp2_with fail
    refine (szLabel_calls a n c left _ h0 h1 hn).mono ?_
    rintro e w1 ⟨rfl, g1⟩
    rw [szI_neg h]
    have HB := hide (M0.below g1).bel
    clear g1 M0
    go_wp2
    go_ret
    exact ⟨ret_int HR.out.symm, HB.out⟩
  have hp : 0 ≤ left - n := by omega
  have hge : ¬ (left - (n : Int) < 0) := by omega
  by_cases h2 : left - n - m < 0
  all_goals (
    go_enter Try.func32, Try.ntmps32
    go_wp2_with fail
    refine (szLabel_calls a n c left _ h0 h1 hn).mono ?_
    rintro e w1 ⟨rfl, g1⟩
    rw [szI_pos hp]
    have M1 := M0.below g1
    have c1 := (M1.get 0 rfl).cell 1 rfl
    clear g1 M0
    go_wp2_with fail
    refine (szLabel_calls b m d _ _ hp (by omega) hm).mono ?_
    rintro e w2 ⟨rfl, g2⟩
    have HB := hide (M1.below g2).bel
    clear g2 M1 c1)
  · rw [szI_neg h2]
    have HR := hide (szI_neg (len := n + m) (left := left) (by omega))
    go_wp2
    go_ret
    exact ⟨ret_int HR.out.symm, HB.out⟩
  · have hp2 : 0 ≤ left - n - m := by omega
    rw [szI_pos hp2]
    have hge2 : ¬ (left - (n : Int) - (m : Int) < 0) := by omega
    have HR : Hid (szI (n + m) left = left - n - m) := by show _ = _; rw [szI_pos (by omega)]; omega
    go_wp2
    go_ret
    exact ⟨ret_int HR.out.symm, HB.out⟩

set_option maxRecDepth 100000 in
set_option maxHeartbeats 1000000 in
theorem toPass_O (a : Option Addr) (n c : Nat) (z : List Int) (b : Option Addr) (m d : Nat) (y : List Int) (w : World) (hm : n + m ≤ 1048576) (hr : PR w a n z b m y) :
    Calls Try.prog 33 #[.agg #[.slice a n c, .slice b m d]] w fun e w' => ∃ b1 b2 : Nat, e = .returned (.agg #[.slice (some ⟨b1, 0, none⟩) n n, .slice (some ⟨b2, 0, none⟩) m m]) ∧ OPs (InR w.heap.size w'.heap.size) (some ⟨b1, 0, none⟩) n z (some ⟨b2, 0, none⟩) m y w' ∧ Below w.heap.size w w' := by
  have M0 := (((Mm.start w).allocC [.slice a n c, .slice b m d] 52).allocC [.slice none 0 0, .slice none 0 0] 28).allocC [.slice none 0 0, .slice none 0 0] 28
  simp only [World.size_alloc] at M0
  obtain ⟨_, hz, _, hy⟩ := hr
  have hl1 := hz.1
  have hl2 := hy.1
  go_enter Try.func33, Try.ntmps33
  go_wp2_with fail
  refine (toLabel_calls a n c z _ (by omega) (hz.below M0.bel (Nat.le_refl _))).mono ?_
  rintro e w1 ⟨b1, rfl, hb1, blk1, g1⟩
  have z1 := g1.size
  simp only [World.size_alloc] at hb1 z1
  have lb1 := blk1.1
  have M1 := (M0.below g1).fact (B := b1) (T := b1 + 1) (P := fun u => Blk u b1 z) (Blk.loc ⟨Nat.le_refl _, by omega⟩) blk1
  have P1 := M1.put 1 rfl 0 (by simp) (.slice (some ⟨b1, 0, none⟩) n n) (by omega) (by simp) (by simp <;> omega)
  simp only [List.set] at P1
  have a1 := (M1.get 3 rfl).cell 1 rfl
  have o0 := (M1.get 1 rfl).cell 0 rfl
  have f0 := (M1.get 1 rfl).fz 0 (by simp)
  have HM := hide P1
  have HS := hide (hy.below P1.bel (Nat.le_refl _))
  clear M1 P1 M0 g1 blk1
  go_wp2_with fail
  refine (toLabel_calls b m d y _ (by omega) HS.out).mono ?_
  rintro e w2 ⟨b2, rfl, hb2, blk2, g2⟩
  have z2 := g2.size
  simp only [World.size_setCell] at hb2 z2
  have lb2 := blk2.1
  have M2 := (HM.out.below g2).fact (B := b2) (T := b2 + 1) (P := fun u => Blk u b2 y) (Blk.loc ⟨Nat.le_refl _, by omega⟩) blk2
  clear g2 blk2 HM HS a1 o0 f0
  have o0 := (M2.get 2 rfl).cell 0 rfl
  have o1 := (M2.get 2 rfl).cell 1 rfl
  have f1 := (M2.get 2 rfl).fz 1 (by simp)
  have P2 := M2.put 2 rfl 1 (by simp) (.slice (some ⟨b2, 0, none⟩) m m) (by omega) (by simp) (by simp <;> omega)
  simp only [List.set] at P2
  have HB := hide P2.bel
  have HK1 := hide (P2.get 1 rfl)
  have HK2 := hide (P2.get 0 rfl)
  have lb3 := (P2.get 0 rfl).1
  have lb4 := (P2.get 1 rfl).1
  have d0 := (P2.get 3 rfl).cell 0 rfl
  have d1 := (P2.get 3 rfl).cell 1 rfl
  have q0 := (P2.get 3 rfl).fz 0 (by simp)
  have q1 := (P2.get 3 rfl).fz 1 (by simp)
  have d0' := (M2.get 3 rfl).cell 0 rfl
  have d1' := (M2.get 3 rfl).cell 1 rfl
  have q0' := (M2.get 3 rfl).fz 0 (by simp)
  have q1' := (M2.get 3 rfl).fz 1 (by simp)
  clear M2 P2 hz hy
  go_wp2
  refine bodyPost_ret (v := .agg #[.slice (some ⟨b1, 0, none⟩) n n, .slice (some ⟨b2, 0, none⟩) m m]) (by simp [results, Try.results33, go_sem, d0, d1]) rfl ⟨b1, b2, rfl, ⟨b2, ?_, ?_⟩, ?_⟩
  · exact OS.ofBlk ((HK1.out.setCell (by show w.heap.size + 1 ≠ _; omega) _).setCell (by show w.heap.size + 1 ≠ _; omega) _) ⟨⟨by omega, by simp at lb4 ⊢; omega⟩, by omega⟩ hl1 (by omega)
  · exact OS.ofBlk ((HK2.out.setCell (by show w.heap.size + 1 ≠ _; omega) _).setCell (by show w.heap.size + 1 ≠ _; omega) _) ⟨⟨by omega, by simp at lb3 ⊢; omega⟩, by omega⟩ hl2 (by omega)
  · exact (HB.out.setCell (by simp <;> omega) _).setCell (by simp <;> omega) _

set_option maxRecDepth 100000 in
set_option maxHeartbeats 1000000 in
theorem eqPass_O (S S' : Nat → Prop) (a b a' b' : Option Addr) (n c c' : Nat) (z : List Int) (m d d' : Nat) (y : List Int) (w : World) (hx : OPs S a n z b m y w) (hy : OPs S' a' n z b' m y w) :
    Calls Try.prog 34 #[.agg #[.slice a n c, .slice b m d], .agg #[.slice a' n c', .slice b' m d']] w fun e w' => e = .returned (.bool true) ∧ Below w.heap.size w w' := by
  have M0 := ((Mm.start w).allocC [.slice a n c, .slice b m d] 28).allocC [.slice a' n c', .slice b' m d'] 28
  simp only [World.size_alloc] at M0
  obtain ⟨xm, xs, xl, xlm⟩ := hx.pr
  obtain ⟨ym, ys, yl, ylm⟩ := hy.pr
  clear hx hy
  go_enter Try.func34, Try.ntmps34
  go_wp2_with fail
  refine (eqLabel_calls a a' n c n c' z z _ xm ym (xs.below M0.bel (Nat.le_refl _)) (ys.below M0.bel (Nat.le_refl _))).mono ?_
  rintro e w1 ⟨rfl, g1⟩
  rw [decide_eq_true rfl]
  have M1 := M0.below g1
  have a1 := (M1.get 1 rfl).cell 1 rfl
  have b1 := (M1.get 0 rfl).cell 1 rfl
  clear M0 g1
  go_wp2_with fail
  refine (eqLabel_calls b b' m d m d' y y _ xl yl (xlm.below M1.bel (Nat.le_refl _)) (ylm.below M1.bel (Nat.le_refl _))).mono ?_
  rintro e w2 ⟨rfl, g2⟩
  rw [decide_eq_true rfl]
  have HB := hide (M1.below g2).bel
  clear M1 g2 a1 b1
  go_wp2
  go_ret
  exact ⟨rfl, HB.out⟩

set_option maxRecDepth 100000 in
set_option maxHeartbeats 1000000 in
theorem markPass_O (S : Nat → Prop) (a : Option Addr) (n c : Nat) (z : List Int) (b : Option Addr) (m d : Nat) (y : List Int) (k : Int) (w : World) (hk0 : 0 ≤ k) (hk : k ≤ 1048577) (hs : OPs S a n z b m y w) (hlt : ∀ j, S j → j < w.heap.size) :
    Calls Try.prog 39 #[.agg #[.slice a n c, .slice b m d], .int .i64 k] w fun e w' => e = .returned (.int .i64 (k + n + m)) ∧ True ∧ OutS S w w' := by
  obtain ⟨T, h1, h2⟩ := hs
  have al : Below w.heap.size w (w.alloc (.cells #[.slice a n c, .slice b m d] 28)) := (Below.refl _ _).alloc (Nat.le_refl _) _
  have hln := h1.2.1
  have hlm := h2.2.1
  have p1 := OS.loc.below al h1
  have p2 := OS.loc.below al h2
  have nS : ¬ S w.heap.size := fun h => Nat.lt_irrefl _ (hlt _ h)
  go_enter Try.func39, Try.ntmps39
  go_wp2_with fail
  refine (markLabel_O _ a n c z k _ hk0 (by omega) p1).mono ?_
  rintro e w1 ⟨rfl, _, o1⟩
  have c1 : w1.cell? ⟨w.heap.size, 1, none⟩ = some (.slice b m d) := (World.cell?_of_block (a := ⟨w.heap.size, 1, none⟩) (o1.block _ (by simp) (fun h => nS h.1))).trans (by go_simp)
  have q2 := OS.loc.out o1 (fun j h2 h1 => by have := h1.2; have := h2.2; omega) p2
  clear p1 p2 h1 h2
  go_wp2_with fail
  refine (markLabel_O _ b m d y _ _ (by omega) (by omega) q2).mono ?_
  rintro e w2 ⟨rfl, _, o2⟩
  have HO : Hid (OutS S w w2) := ((OutS.of_below al).trans (o1.mono (fun j h => h.1))).trans (o2.mono (fun j h => h.1))
  clear o1 o2 al q2 c1
  go_wp2
  go_ret
  exact ⟨rfl, trivial, HO.out⟩

end Go.Proofs.Ytdcfdmcooonfkaa
