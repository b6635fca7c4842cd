import Derived.Test.YtbbfhnmilfnicaaRows
import Derived.Test.YtbbfhnmilfnicaaSepL
import Derived.WalkKit
import Derived.ProofKit
import Derived.OpenShut
import Derived.ShutString
import Derived.ChangeOld
import Derived.Below
import Derived.WalkSpells
import Derived.Deep.QuietTactic
import Derived.BigQuiet
import Derived.Deep.RegionWith
import Derived.Deep.WholeRow
import Derived.Deep.DeepCutAuto
import Derived.Deep.RegionHeld2
import Derived.Deep.AppendLies
import Derived.Deep.RegionLaw
namespace Go.Proofs.Ytbbfhnmilfnicaa
open Go.ChangeShapes Go.WideShapes Go.ChangeAt Go.RowKit

/-- four cells of a world that later worlds keep: for a region's loads. -/
theorem held4 {W X Y : World} {A B C D : Addr} {a b c d : Value} (hA : A.block < W.heap.size) (hB : B.block < W.heap.size) (hC : C.block < W.heap.size) (hD : D.block < W.heap.size)
    (h : X.cell? A = some a ∧ X.cell? B = some b ∧ X.cell? C = some c ∧ X.cell? D = some d ∧ Below W.heap.size W X) (g : Below X.heap.size X Y) :
    Y.cell? A = some a ∧ Y.cell? B = some b ∧ Y.cell? C = some c ∧ Y.cell? D = some d ∧ Below W.heap.size W Y := by
  obtain ⟨h1, h2, h3, h4, hb⟩ := h
  have hz := hb.size
  exact ⟨(g.cell (by omega)).trans h1, (g.cell (by omega)).trans h2, (g.cell (by omega)).trans h3, (g.cell (by omega)).trans h4, hb.trans (g.mono hz)⟩

set_option maxRecDepth 100000 in
theorem sz_calls (a : Option Addr) (len cap : Nat) (left : Int) (w : World) (h0 : 0 ≤ left) (h1 : left ≤ 1048576) (hl : len ≤ maxLen) :
    Calls Try.prog 26 #[.slice a len cap, .int .i64 left] w fun e w' => e = .returned (.int .i64 (szI len left)) ∧ Below w.heap.size w w' := by
  unfold maxLen at hl
  by_cases h : left - len < 0
  · go_enter Try.func26, Try.ntmps26
    go_wp2
    go_ret
    exact ⟨ret_int (szI_neg h).symm, Below.refl _ _⟩
  · go_enter Try.func26, Try.ntmps26
    go_wp2
    go_ret
    exact ⟨ret_int (szI_pos h).symm, Below.refl _ _⟩

theorem info2 : (Try.prog.info? 2).map (fun i => (i.zero, i.size, i.bytes)) = some (some (.int .i64 0), 1, 8) := by kernel_rfl

set_option maxRecDepth 100000 in
theorem toInts_calls (a : Option Addr) (len cap : Nat) (zs : List Int) (w : World) (hl : len ≤ 1048576) (hs : Sl w a len zs) :
    Calls Try.prog 28 #[.slice a len cap] w fun e w' => ∃ b, e = .returned (.slice (some ⟨b, 0, none⟩) len len) ∧ w.heap.size ≤ b ∧ Blk w' b zs ∧ Below w.heap.size w w' := by
  obtain ⟨hlen, hs⟩ := hs
  obtain ⟨i0, hi, hz0, hz1, hz2⟩ := info_parts info2
  have hmk : ∀ u : World, (Instr.makeSlice 22 (.int .i64 (len : Int)) (.int .i64 (len : Int))).run Try.prog u =
      .ok (.slice (some ⟨u.heap.size, 0, none⟩) len len) (u.alloc (.cells (madeCells #[.int .i64 0] len) 2)) := fun u => by
    have h := run_make (P := Try.prog) u 22 2 i0 (.int .i64 0) Try.underlying22 hi hz0 .i64 .i64 (len : Int) (len : Int) (by omega) (Int.le_refl _) (by rw [hz2]; omega) (by omega)
    simpa [hz1, Value.cells] using h
  · go_enter Try.func28, Try.ntmps28
    go_wp2
    go_loopw [4] (fun i wr => ∃ k : Nat, k ≤ len ∧ i = .int .i64 k ∧ Below w.heap.size w wr ∧ Half wr w.heap.size len k zs) (fun i _ => len - (intOf i).toNat)
    case atStart => exact ⟨0, Nat.zero_le _, rfl, (Below.refl _ _).alloc (Nat.le_refl _) _, Half.start _ _ _ _⟩
    case round =>
      obtain ⟨k, hk, rfl, hbel, hh⟩ := hrel
      by_cases hlt : k < len
      · obtain ⟨b, off, rfl, hb, hc⟩ := hs (by omega)
        have hck := (hbel.cell (p := ⟨b, off + k, none⟩) hb).trans (hc k hlt)
        obtain ⟨v, hv⟩ := hh.2.2.1 k hlt
        have hfz := hh.2.2.2 k
        go_wp2
        go_roundw
        case rel => exact ⟨k + 1, by omega, by go_num, hbel.setCell (Nat.le_refl _) _, hh.store hlt⟩
        case measure => simp [intOf]; omega
      · go_wp2
        go_ret
        exact ⟨w.heap.size, rfl, Nat.le_refl _, ⟨by have := hh.1; omega, fun i hi => hh.2.1 i (by omega), hh.2.2.2⟩, hbel⟩

set_option maxRecDepth 100000 in
theorem eqInts_calls (a b : Option Addr) (la ca lb cb : Nat) (xs ys : List Int) (w : World) (hla : la ≤ maxLen) (hlb : lb ≤ maxLen) (hx : Sl w a la xs) (hy : Sl w b lb ys) :
    Calls Try.prog 30 #[.slice a la ca, .slice b lb cb] w fun e w' => e = .returned (.bool (decide (xs = ys))) ∧ Below w.heap.size w w' := by
  unfold maxLen at hla hlb
  obtain ⟨hxl, hx⟩ := hx
  obtain ⟨hyl, hy⟩ := hy
  by_cases hne : la = lb
  · subst hne
    have hn : ((la : Int) == (la : Int)) = true := by simp
    · go_enter Try.func30, Try.ntmps30
      go_wp2
      go_loopw [5] (fun i wr => ∃ k : Nat, k ≤ la ∧ i = .int .i64 k ∧ Below w.heap.size w wr ∧ ∀ j, j < k → gt xs j = gt ys j) (fun i _ => la - (intOf i).toNat)
      case atStart => exact ⟨0, Nat.zero_le _, rfl, Below.refl _ _, fun j hj => by omega⟩
      case round =>
        obtain ⟨k, hk, rfl, hbel, hall⟩ := hrel
        have Hall : Hid (∀ j, j < k → gt xs j = gt ys j) := hall
        clear hall
        by_cases hlt : k < la
        · obtain ⟨b1, o1, rfl, hb1, hc1⟩ := hx (by omega)
          obtain ⟨b2, o2, rfl, hb2, hc2⟩ := hy (by omega)
          have hck1 := (hbel.cell (p := ⟨b1, o1 + k, none⟩) hb1).trans (hc1 k hlt)
          have hck2 := (hbel.cell (p := ⟨b2, o2 + k, none⟩) hb2).trans (hc2 k hlt)
          have hki : (k : Int) < (la : Int) := by omega
          by_cases he : gt xs k = gt ys k
          · have hbq : (gt xs k != gt ys k) = false := by simp [he]
            have He : Hid (gt xs k = gt ys k) := he
            clear he
            go_wp2_with fail
            go_quiet (fail)
            go_wp2
            go_roundw
            case rel => exact ⟨k + 1, by omega, by go_num, bdrewN hbel _, fun j hj => by (by_cases e : j = k); (subst e; exact He.out); exact Hall.out j (by omega)⟩
            case measure => simp [intOf]; omega
          · have hbq : (gt xs k != gt ys k) = true := by simp [he]
            go_wp2_with fail
            go_quiet (fail)
            go_wp2
            go_ret
            exact ⟨ret_bool (by simp; intro e; exact he (by rw [e])), bdrewN hbel _⟩
        · go_wp2
          go_ret
          exact ⟨ret_bool (by simp; exact getD_ext (by omega) (fun i hi => Hall.out i (by omega))), hbel⟩
  · have hn : ((la : Int) == (lb : Int)) = false := by simp; omega
    go_enter Try.func30, Try.ntmps30
    go_wp2
    go_ret
    exact ⟨ret_bool (by simp; intro e; rw [e] at hxl; omega), Below.refl _ _⟩

set_option maxRecDepth 100000 in
theorem szContext_calls (a : Option Addr) (len cap : Nat) (p : Int) (h : Bool) (left : Int) (w : World) (h0 : 0 ≤ left) (h1 : left ≤ 1048576) (hl : len ≤ maxLen) :
    Calls Try.prog 11 #[.agg #[.slice a len cap, .int .i64 p, .bool h], .int .i64 left] w fun e w' => e = .returned (.int .i64 (szI len left)) ∧ Below w.heap.size w w' := by
  by_cases h : left - len < 0
  · go_enter Try.func11, Try.ntmps11
    go_wp2_with fail
    refine (sz_calls a len cap left _ h0 h1 hl).mono ?_
    rintro e w1 ⟨rfl, hb⟩
    rw [szI_neg h]
    go_wp2
    go_ret
    exact ⟨ret_int (szI_neg h).symm, ((Below.refl _ _).alloc (Nat.le_refl _) _).trans (hb.mono (by simp))⟩
  · have hp : 0 ≤ left - len := by omega
    go_enter Try.func11, Try.ntmps11
    go_wp2_with fail
    refine (sz_calls a len cap left _ h0 h1 hl).mono ?_
    rintro e w1 ⟨rfl, hb⟩
    rw [szI_pos hp]
    go_wp2
    go_ret
    exact ⟨ret_int (szI_pos hp).symm, ((Below.refl _ _).alloc (Nat.le_refl _) _).trans (hb.mono (by simp))⟩

set_option maxRecDepth 100000 in
theorem toContext_O (a : Option Addr) (n cap : Nat) (p : Int) (h : Bool) (zs : List Int) (w : World) (hl : n ≤ 1048576) (hs : Sl w a n zs) :
    Calls Try.prog 13 #[.agg #[.slice a n cap, .int .i64 p, .bool h]] w fun e w' => ∃ b, e = .returned (.agg #[.slice (some ⟨b, 0, none⟩) n n, .int .i64 p, .bool h]) ∧ OS (InR w.heap.size w'.heap.size) (some ⟨b, 0, none⟩) n zs w' ∧ Below w.heap.size w w' := by
  have M0 := (((Mm.start w).alloc3 (.slice a n cap) (.int .i64 p) (.bool h) 31).alloc3 (.slice none 0 0) (.int .i64 0) (.bool false) 24).alloc3 (.slice none 0 0) (.int .i64 0) (.bool false) 24
  try simp only [World.size_alloc] at M0
  have hb3 := M0.bel
  go_enter Try.func13, Try.ntmps13
  go_wp2_with fail
  refine (toInts_calls a n cap zs _ hl (hs.below hb3 (Nat.le_refl _))).mono ?_
  rintro e w1 ⟨b, rfl, hbN, hblk, hb⟩
  have M1 := M0.below hb
  have hz := hb.size
  simp only [World.size_alloc] at hbN hz
  have c0 := M1.cell 0 rfl
  have c1 := M1.cell 1 rfl
  have c2 := M1.cell 2 rfl
  have c3 := M1.cell 3 rfl
  have c4 := M1.cell 4 rfl
  have c5 := M1.cell 5 rfl
  have c6 := M1.cell 6 rfl
  have c7 := M1.cell 7 rfl
  have c8 := M1.cell 8 rfl
  have f0 := M1.fz 0 rfl
  have f1 := M1.fz 1 rfl
  have f2 := M1.fz 2 rfl
  have f3 := M1.fz 3 rfl
  have f4 := M1.fz 4 rfl
  have f5 := M1.fz 5 rfl
  have HB := hide M1.bel
  have HK := hide hblk
  have HS := hide hs
  clear M0 M1 hb hb3 hblk hs
  go_wp2
  refine bodyPost_ret (v := .agg #[.slice (some ⟨b, 0, none⟩) n n, .int .i64 p, .bool h]) (by simp [results, Try.results13, go_sem, c3, c4, c5]) rfl ⟨b, rfl, ?_, ?_⟩
  · have hk := HK.out
    refine OS.ofBlk (?_ : Blk _ b zs) ⟨by omega, by have := HK.out.1; simpa using this⟩ HS.out.1 hl
    exact (((((hk.setCell (by simp; omega) _).setCell (by simp; omega) _).setCell (by simp; omega) _).setCell (by simp; omega) _).setCell (by simp; omega) _).setCell (by simp; omega) _
  · exact (((((HB.out.setCell (by simp; omega) _).setCell (by simp; omega) _).setCell (by simp; omega) _).setCell (by simp) _).setCell (by simp) _).setCell (by simp) _

set_option maxRecDepth 100000 in
theorem eqContext_calls (a b : Option Addr) (n m ca cb : Nat) (p : Int) (h : Bool) (zs : List Int) (w : World) (hn : n ≤ maxLen) (hm : m ≤ maxLen) (hx : Sl w a n zs) (hy : Sl w b m zs) :
    Calls Try.prog 15 #[.agg #[.slice a n ca, .int .i64 p, .bool h], .agg #[.slice b m cb, .int .i64 p, .bool h]] w fun e w' => e = .returned (.bool true) ∧ Below w.heap.size w w' := by
  have M0 := ((Mm.start w).alloc3 (.slice a n ca) (.int .i64 p) (.bool h) 24).alloc3 (.slice b m cb) (.int .i64 p) (.bool h) 24
  try simp only [World.size_alloc] at M0
  have hb2 := M0.bel
  have h1 : (p != p) = false := by simp
  have h2 : (h != h) = false := by simp
  go_enter Try.func15, Try.ntmps15
  go_wp2_with fail
  refine (eqInts_calls a b n ca m cb zs zs _ hn hm (hx.below hb2 (Nat.le_refl _)) (hy.below hb2 (Nat.le_refl _))).mono ?_
  rintro e w1 ⟨rfl, hb⟩
  rw [decide_eq_true rfl]
  have M1 := M0.below hb
  have c1 := M1.cell 1 rfl
  have c2 := M1.cell 2 rfl
  have c4 := M1.cell 4 rfl
  have c5 := M1.cell 5 rfl
  have HB := hide M1.bel
  clear M0 M1 hb hb2
  go_wp2
  go_ret
  exact ⟨rfl, HB.out⟩

theorem eqContext_O (S S' : Nat → Prop) (a b : Option Addr) (n ca cb : Nat) (p : Int) (h : Bool) (zs : List Int) (w : World) (hx : OS S a n zs w) (hy : OS S' b n zs w) :
    Calls Try.prog 15 #[.agg #[.slice a n ca, .int .i64 p, .bool h], .agg #[.slice b n cb, .int .i64 p, .bool h]] w fun e w' => e = .returned (.bool true) ∧ Below w.heap.size w w' :=
  eqContext_calls a b n n ca cb p h zs w (by have := hx.2.1; unfold maxLen; omega) (by have := hx.2.1; unfold maxLen; omega) hx.sl hy.sl

end Go.Proofs.Ytbbfhnmilfnicaa
