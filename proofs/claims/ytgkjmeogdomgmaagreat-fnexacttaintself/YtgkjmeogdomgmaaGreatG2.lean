import Derived.Test.YtgkjmeogdomgmaaGreatRows
import Derived.Test.YtgkjmeogdomgmaaGreatG1
import Derived.WalkKit
import Derived.ProofKit
import Derived.OpenShut
import Derived.ShutString
import Derived.ChangeOld
import Derived.Below
import Derived.WalkSpells
import Derived.Deep.QuietTactic
import Derived.BigQuiet
import Derived.Deep.RegionWith
import Derived.Deep.WholeRow
import Derived.Deep.DeepCutAuto
import Derived.Deep.RegionHeld2
import Derived.Deep.AppendLies
import Derived.Deep.RegionLaw
namespace Go.Proofs.YtgkjmeogdomgmaaGreat
open Go.ChangeShapes Go.WideShapes Go.ChangeAt Go.RowKit

set_option maxRecDepth 100000 in
theorem sz_calls (a : Option Addr) (len cap : Nat) (left : Int) (w : World) (h0 : 0 ≤ left) (h1 : left ≤ 1048576) (hl : len ≤ maxLen) :
    Calls Tryz.prog 17 #[.slice a len cap, .int .i64 left] w fun e w' => e = .returned (.int .i64 (szI len left)) ∧ Below w.heap.size w w' := by
  unfold maxLen at hl
  by_cases h : left - len < 0
  · go_enter Tryz.func17, Tryz.ntmps17
    go_wp2
    go_ret
    exact ⟨ret_int (szI_neg h).symm, Below.refl _ _⟩
  · go_enter Tryz.func17, Tryz.ntmps17
    go_wp2
    go_ret
    exact ⟨ret_int (szI_pos h).symm, Below.refl _ _⟩

set_option maxRecDepth 100000 in
theorem szLabel_calls (a : Option Addr) (len cap : Nat) (left : Int) (w : World) (h0 : 0 ≤ left) (h1 : left ≤ 1048576) (hl : len ≤ maxLen) :
    Calls Tryz.prog 160 #[.agg #[.slice a len cap], .int .i64 left] w fun e w' => e = .returned (.int .i64 (szI len left)) ∧ Below w.heap.size w w' := by
  by_cases h : left - len < 0
  · go_enter Tryz.func160, Tryz.ntmps160
    go_wp2_with fail
    refine (sz_calls a len cap left _ h0 h1 hl).mono ?_
    rintro e w1 ⟨rfl, hb⟩
    rw [szI_neg h]
    go_wp2
    go_ret
    exact ⟨ret_int (szI_neg h).symm, ((Below.refl _ _).alloc (Nat.le_refl _) _).trans (hb.mono (by simp))⟩
  · have hp : 0 ≤ left - len := by omega
    go_enter Tryz.func160, Tryz.ntmps160
    go_wp2_with fail
    refine (sz_calls a len cap left _ h0 h1 hl).mono ?_
    rintro e w1 ⟨rfl, hb⟩
    rw [szI_pos hp]
    go_wp2
    go_ret
    exact ⟨ret_int (szI_pos hp).symm, ((Below.refl _ _).alloc (Nat.le_refl _) _).trans (hb.mono (by simp))⟩

set_option maxRecDepth 100000 in
theorem in_calls (v lo hi : Int) (w : World) :
    Calls Tryz.prog 99 #[.int .i64 v, .int .i64 lo, .int .i64 hi] w fun e w' => e = .returned (.bool (decide (lo ≤ v) && decide (v ≤ hi))) ∧ Below w.heap.size w w' := by
  by_cases h1 : lo ≤ v
  · by_cases h2 : v ≤ hi
    all_goals
      go_enter Tryz.func99, Tryz.ntmps99
      go_wp2
      go_ret
      exact ⟨ret_bool (by simp [h1, h2]), Below.refl _ _⟩
  · go_enter Tryz.func99, Tryz.ntmps99
    go_wp2
    go_ret
    exact ⟨ret_bool (by simp; omega), Below.refl _ _⟩

theorem info2 : (Tryz.prog.info? 2).map (fun i => (i.zero, i.size, i.bytes)) = some (some (.int .i64 0), 1, 8) := by kernel_rfl

set_option maxRecDepth 100000 in
theorem toInts_calls (a : Option Addr) (len cap : Nat) (zs : List Int) (w : World) (hl : len ≤ 1048576) (hs : Sl w a len zs) :
    Calls Tryz.prog 27 #[.slice a len cap] w fun e w' => ∃ b, e = .returned (.slice (some ⟨b, 0, none⟩) len len) ∧ w.heap.size ≤ b ∧ Blk w' b zs ∧ Below w.heap.size w w' := by
  obtain ⟨hlen, hs⟩ := hs
  obtain ⟨i0, hi, hz0, hz1, hz2⟩ := info_parts info2
  have hmk : ∀ u : World, (Instr.makeSlice 25 (.int .i64 (len : Int)) (.int .i64 (len : Int))).run Tryz.prog u =
      .ok (.slice (some ⟨u.heap.size, 0, none⟩) len len) (u.alloc (.cells (madeCells #[.int .i64 0] len) 2)) := fun u => by
    have h := run_make (P := Tryz.prog) u 25 2 i0 (.int .i64 0) Tryz.underlying25 hi hz0 .i64 .i64 (len : Int) (len : Int) (by omega) (Int.le_refl _) (by rw [hz2]; omega) (by omega)
    simpa [hz1, Value.cells] using h
  · go_enter Tryz.func27, Tryz.ntmps27
    go_wp2
    go_loopw [4] (fun i wr => ∃ k : Nat, k ≤ len ∧ i = .int .i64 k ∧ Below w.heap.size w wr ∧ Half wr w.heap.size len k zs) (fun i _ => len - (intOf i).toNat)
    case atStart => exact ⟨0, Nat.zero_le _, rfl, (Below.refl _ _).alloc (Nat.le_refl _) _, Half.start _ _ _ _⟩
    case round =>
      obtain ⟨k, hk, rfl, hbel, hh⟩ := hrel
      by_cases hlt : k < len
      · obtain ⟨b, off, rfl, hb, hc⟩ := hs (by omega)
        have hck := (hbel.cell (p := ⟨b, off + k, none⟩) hb).trans (hc k hlt)
        obtain ⟨v, hv⟩ := hh.2.2.1 k hlt
        have hfz := hh.2.2.2 k
        go_wp2
        go_roundw
        case rel => exact ⟨k + 1, by omega, by go_num, hbel.setCell (Nat.le_refl _) _, hh.store hlt⟩
        case measure => simp [intOf]; omega
      · go_wp2
        go_ret
        exact ⟨w.heap.size, rfl, Nat.le_refl _, ⟨by have := hh.1; omega, fun i hi => hh.2.1 i (by omega), hh.2.2.2⟩, hbel⟩

set_option maxRecDepth 100000 in
theorem toLabel_calls (a : Option Addr) (len cap : Nat) (zs : List Int) (w : World) (hl : len ≤ 1048576) (hs : Sl w a len zs) :
    Calls Tryz.prog 165 #[.agg #[.slice a len cap]] w fun e w' => ∃ b, e = .returned (.agg #[.slice (some ⟨b, 0, none⟩) len len]) ∧ w.heap.size ≤ b ∧ Blk w' b zs ∧ Below w.heap.size w w' := by
  have hb3 := fun o1 o2 o3 => (((Below.refl w.heap.size w).alloc (Nat.le_refl _) o1).alloc (by simp) o2).alloc (by simp; omega) o3
  go_enter Tryz.func165, Tryz.ntmps165
  go_wp2_with fail
  refine (toInts_calls a len cap zs _ hl (hs.below (hb3 _ _ _) (Nat.le_refl _))).mono ?_
  rintro e w1 ⟨b, rfl, hbN, hblk, hb⟩
  have hbw : Below w.heap.size w w1 := (hb3 _ _ _).trans (hb.mono (by simp; omega))
  simp only [World.size_alloc] at hbN
  have c1 : w1.cell? ⟨w.heap.size + 1, 0, none⟩ = some (.slice none 0 0) := (hb.cell (p := ⟨w.heap.size + 1, 0, none⟩) (by simp)).trans (by go_simp)
  have f1 : w1.frozen? ⟨w.heap.size + 1, 0, none⟩ = false := (hb.frozen (p := ⟨w.heap.size + 1, 0, none⟩) (by simp)).trans (by go_simp)
  have c2 : w1.cell? ⟨w.heap.size + 1 + 1, 0, none⟩ = some (.slice none 0 0) := (hb.cell (p := ⟨w.heap.size + 1 + 1, 0, none⟩) (by simp)).trans (by go_simp)
  have f2 : w1.frozen? ⟨w.heap.size + 1 + 1, 0, none⟩ = false := (hb.frozen (p := ⟨w.heap.size + 1 + 1, 0, none⟩) (by simp)).trans (by go_simp)
  clear hb hb3
  go_wp2
  refine bodyPost_ret (v := .agg #[.slice (some ⟨b, 0, none⟩) len len]) (by simp [results, Tryz.results165, go_sem, c1]) rfl ⟨b, rfl, by omega, (hblk.setCell (by simp; omega) _).setCell (by simp; omega) _, (hbw.setCell (by simp; omega) _).setCell (by simp) _⟩

set_option maxRecDepth 100000 in
theorem implLabelFault_calls (a : Option Addr) (len cap : Nat) (zs : List Int) (w : World) (hl : len ≤ maxLen) (hs : Sl w a len zs) :
    Calls Tryz.prog 152 #[.agg #[.slice a len cap]] w fun e w' => e = .returned (.int .i64 (fault zs)) ∧ Below w.heap.size w w' := by
  unfold maxLen at hl
  obtain ⟨hlen, hs⟩ := hs
  by_cases h4 : len = 4
  · subst h4
    obtain ⟨b, off, rfl, hb, hc⟩ := hs (by omega)
    · go_enter Tryz.func152, Tryz.ntmps152
      go_wp2
      go_loop [12] (fun i => ∃ k : Nat, k ≤ 4 ∧ i = .int .i64 k ∧ (zs.take k).all okI = true) (fun i => 4 - (intOf i).toNat)
      case atStart => exact ⟨0, Nat.zero_le _, rfl, by simp⟩
      case round =>
        obtain ⟨k, hk, rfl, hall⟩ := hrel
        by_cases hlt : k < 4
        · have hck := hc k hlt
          have hts := all_take_succ zs k (by omega)
          have HS : Hid ((zs.take (k + 1)).all okI = ((zs.take k).all okI && okI (gt zs k))) := hts
          clear hts
          by_cases h1 : gt zs k < 0
          · go_wp2
            go_ret
            exact ⟨ret_int (fault_bad zs k (by omega) hlen (by simp [okI]; omega)).symm, (Below.refl _ _).alloc (Nat.le_refl _) _⟩
          · by_cases h2 : 5 < gt zs k
            · go_wp2
              go_ret
              exact ⟨ret_int (fault_bad zs k (by omega) hlen (by simp [okI]; omega)).symm, (Below.refl _ _).alloc (Nat.le_refl _) _⟩
            · go_wp2
              go_round
              case rel => exact ⟨k + 1, by omega, by go_num, by rw [HS.out]; simp [okI, hall]; omega⟩
              case measure => simp [intOf]; omega
        · go_wp2
          go_ret
          exact ⟨ret_int (fault_ok zs hlen (by rw [List.take_of_length_le (by omega)] at hall; exact hall)).symm, (Below.refl _ _).alloc (Nat.le_refl _) _⟩
  · have hne : ((len : Int) == 4) = false := by simp; omega
    go_enter Tryz.func152, Tryz.ntmps152
    go_wp2
    go_ret
    exact ⟨by simp [fault, hlen, h4], (Below.refl _ _).alloc (Nat.le_refl _) _⟩

set_option maxRecDepth 100000 in
theorem eqInts_calls (a b : Option Addr) (la ca lb cb : Nat) (xs ys : List Int) (w : World) (hla : la ≤ maxLen) (hlb : lb ≤ maxLen) (hx : Sl w a la xs) (hy : Sl w b lb ys) :
    Calls Tryz.prog 35 #[.slice a la ca, .slice b lb cb] w fun e w' => e = .returned (.bool (decide (xs = ys))) ∧ Below w.heap.size w w' := by
  unfold maxLen at hla hlb
  obtain ⟨hxl, hx⟩ := hx
  obtain ⟨hyl, hy⟩ := hy
  by_cases hne : la = lb
  · subst hne
    have hn : ((la : Int) == (la : Int)) = true := by simp
    · go_enter Tryz.func35, Tryz.ntmps35
      go_wp2
      go_loopw [5] (fun i wr => ∃ k : Nat, k ≤ la ∧ i = .int .i64 k ∧ Below w.heap.size w wr ∧ ∀ j, j < k → gt xs j = gt ys j) (fun i _ => la - (intOf i).toNat)
      case atStart => exact ⟨0, Nat.zero_le _, rfl, Below.refl _ _, fun j hj => by omega⟩
      case round =>
        obtain ⟨k, hk, rfl, hbel, hall⟩ := hrel
        have Hall : Hid (∀ j, j < k → gt xs j = gt ys j) := hall
        clear hall
        by_cases hlt : k < la
        · obtain ⟨b1, o1, rfl, hb1, hc1⟩ := hx (by omega)
          obtain ⟨b2, o2, rfl, hb2, hc2⟩ := hy (by omega)
          have hck1 := (hbel.cell (p := ⟨b1, o1 + k, none⟩) hb1).trans (hc1 k hlt)
          have hck2 := (hbel.cell (p := ⟨b2, o2 + k, none⟩) hb2).trans (hc2 k hlt)
          have hki : (k : Int) < (la : Int) := by omega
          by_cases he : gt xs k = gt ys k
          · have hbq : (gt xs k != gt ys k) = false := by simp [he]
            have He : Hid (gt xs k = gt ys k) := he
            clear he
            go_wp2_with fail
            go_quiet (fail)
            go_wp2
            go_roundw
            case rel => exact ⟨k + 1, by omega, by go_num, bdrewN hbel _, fun j hj => by (by_cases e : j = k); (subst e; exact He.out); exact Hall.out j (by omega)⟩
            case measure => simp [intOf]; omega
          · have hbq : (gt xs k != gt ys k) = true := by simp [he]
            go_wp2_with fail
            go_quiet (fail)
            go_wp2
            go_ret
            exact ⟨ret_bool (by simp; intro e; exact he (by rw [e])), bdrewN hbel _⟩
        · go_wp2
          go_ret
          exact ⟨ret_bool (by simp; exact getD_ext (by omega) (fun i hi => Hall.out i (by omega))), hbel⟩
  · have hn : ((la : Int) == (lb : Int)) = false := by simp; omega
    go_enter Tryz.func35, Tryz.ntmps35
    go_wp2
    go_ret
    exact ⟨ret_bool (by simp; intro e; rw [e] at hxl; omega), Below.refl _ _⟩

set_option maxRecDepth 100000 in
theorem eqLabel_calls (a b : Option Addr) (la ca lb cb : Nat) (xs ys : List Int) (w : World) (hla : la ≤ maxLen) (hlb : lb ≤ maxLen) (hx : Sl w a la xs) (hy : Sl w b lb ys) :
    Calls Tryz.prog 184 #[.agg #[.slice a la ca], .agg #[.slice b lb cb]] w fun e w' => e = .returned (.bool (decide (xs = ys))) ∧ Below w.heap.size w w' := by
  have hb2 := fun o1 o2 => ((Below.refl w.heap.size w).alloc (Nat.le_refl _) o1).alloc (by simp) o2
  go_enter Tryz.func184, Tryz.ntmps184
  go_wp2_with fail
  refine (eqInts_calls a b la ca lb cb xs ys _ hla hlb (hx.below (hb2 _ _) (Nat.le_refl _)) (hy.below (hb2 _ _) (Nat.le_refl _))).mono ?_
  rintro e w1 ⟨rfl, hb⟩
  have hbw : Below w.heap.size w w1 := (hb2 _ _).trans (hb.mono (by simp; omega))
  clear hb hb2
  cases hd : decide (xs = ys)
  all_goals
    have Hd := hide hd
    clear hd
    go_wp2
    go_ret
    exact ⟨ret_bool Hd.out.symm, hbw⟩

theorem mix_take (f : Int → Int → Int) (xs ys : List Int) (k : Nat) (h : k < xs.length) : ((mix f xs ys).take (k + 1)).map (Value.int .i64) = ((mix f xs ys).take k).map (Value.int .i64) ++ [.int .i64 (f (gt xs k) (gt ys k))] := by
  rw [List.take_succ_eq_append_getElem (by rw [length_mix]; exact h), List.map_append]
  simp [mix]

theorem one_new {W : World} {B : Nat} {v : Value} (h : W.cell? ⟨B, 0, none⟩ = some v) : ∀ j u, [v][j]? = some u → W.cell? ((Addr.mk B 0 none).add j) = some u := by
  intro j u hj
  match j, hj with
  | 0, hj => simp at hj; subst hj; simpa [Addr.add] using h

theorem grow_cell {wr w1 : World} {o : Obj} {B0 : Nat} {e : TypeId} {v : Value} {k : Nat} {L : List Value} (hown : wr.ownsRow B0 e 1 v k L) (hg : ((wr.alloc o).drew).grownBy w1 v.ownBlock) (hs : B0 ≤ wr.heap.size) {p : Addr} (hp : p.block < B0) :
    w1.cell? p = wr.cell? p ∧ w1.frozen? p = wr.frozen? p := by
  have hlt : p.block < wr.heap.size := by omega
  have hne : some p.block ≠ v.ownBlock := fun e => by have := (hown.lt p.block e.symm).1; omega
  have hb : w1.heap[p.block]? = wr.heap[p.block]? := (hg.block p.block (by simp; omega) hne).trans (Below.heap_alloc wr o p.block hlt)
  exact ⟨World.cell?_of_block hb, World.frozen?_of_block hb⟩

/-- 'x.f = append(x.f, y)': the field's cell lies at block P, the row from B0 on. -/
theorem app_step {w wr w1 : World} {o : Obj} {B0 P : Nat} {e : TypeId} {v nv : Value} {k : Nat} {L L' : List Value} (hbel : Below w.heap.size w wr) (hs : B0 ≤ wr.heap.size) (hP : P < B0) (hw : w.heap.size ≤ P) (hv : wr.cell? ⟨P, 0, none⟩ = some v) (hvf : wr.frozen? ⟨P, 0, none⟩ = false)
    (hown : wr.ownsRow B0 e 1 v k L) (hg : ((wr.alloc o).drew).grownBy w1 v.ownBlock) (hown1 : w1.ownsRow B0 e 1 nv (k + 1) L') :
    (w1.setCell ⟨P, 0, none⟩ nv).cell? ⟨P, 0, none⟩ = some nv ∧ (w1.setCell ⟨P, 0, none⟩ nv).frozen? ⟨P, 0, none⟩ = false ∧ (w1.setCell ⟨P, 0, none⟩ nv).ownsRow B0 e 1 nv (k + 1) L' ∧
      (∀ p : Addr, p.block < B0 → p.block ≠ P → (w1.setCell ⟨P, 0, none⟩ nv).cell? p = wr.cell? p ∧ (w1.setCell ⟨P, 0, none⟩ nv).frozen? p = wr.frozen? p) ∧ Below w.heap.size w (w1.setCell ⟨P, 0, none⟩ nv) ∧ B0 ≤ (w1.setCell ⟨P, 0, none⟩ nv).heap.size := by
  have g0 := grow_cell hown hg hs (p := ⟨P, 0, none⟩) hP
  refine ⟨World.cell?_setCell_same _ _ _ (g0.1.trans hv), by rw [World.frozen?_setCell]; exact g0.2.trans hvf, ownsRow_setCell_below hown1 hP _, fun p hp hne => ?_, ?_, ?_⟩
  · have g1 := grow_cell hown hg hs (p := p) hp
    exact ⟨by rw [World.cell?_setCell_other _ _ _ _ (fun h => hne (by rw [← h]))]; exact g1.1, by rw [World.frozen?_setCell]; exact g1.2⟩
  · refine Below.setCell ?_ (by exact hw) _
    exact ((hbel.alloc hbel.size o).drew).grown hg (by have := hbel.size; simp; omega) (fun g hg' => by have := (hown.lt g hg').1; omega)
  · have := hg.size
    simp at this ⊢
    omega

theorem owns_osl {w : World} {B0 : Nat} {e : TypeId} {v : Value} {n : Nat} {zs : List Int} (hn : n ≤ 1048576) (h : w.ownsRow B0 e 1 v n (zs.map (Value.int .i64))) : ∃ a c, v = .slice a n c ∧ OSl w B0 w.heap.size a n zs := by
  have hlen : zs.length = n := by simpa using h.1
  by_cases h0 : n = 0
  · subst h0
    rcases h.2 with ⟨rfl, _⟩ | ⟨g, cap, cur, rfl, hb, hg, _, _, _, _⟩
    · exact ⟨none, 0, rfl, hlen, hn, .inl ⟨rfl, rfl⟩⟩
    · exact ⟨_, _, rfl, hlen, hn, .inr ⟨g, rfl, hb, (Array.getElem?_eq_some_iff.1 hg).1, (Array.getElem?_eq_some_iff.1 hg).1, fun i hi => by omega, fun i => by simp [World.frozen?, hg]⟩⟩
  · obtain ⟨g, cap, rfl, hb, _, _, blk⟩ := owns_blk (by omega) h
    exact ⟨_, _, rfl, hlen, hn, .inr ⟨g, rfl, hb, blk.1, blk⟩⟩

set_option maxRecDepth 100000 in
set_option maxHeartbeats 1000000 in
theorem clone_calls (a : Option Addr) (n cap : Nat) (zs : List Int) (w : World) (hn : n ≤ 1048576) (hs : Sl w a n zs) :
    Calls Tryz.prog 142 #[.slice a n cap] w fun e w' => ∃ ra rc, e = .returned (.slice ra n rc) ∧ OS (InR w.heap.size w'.heap.size) ra n zs w' ∧ Below w.heap.size w w' := by
  obtain ⟨hlen, hs⟩ := hs
  obtain ⟨i0, hi, hz0, hz1, hz2⟩ := info_parts info2
  have hnil := fun (u : World) (x : Option Addr) (m c : Nat) => Lib.run_eql_slice_nil (P := Tryz.prog) u 25 2 x m c 0 0 Tryz.underlying25
  have hb0 := fun o1 => (Below.refl w.heap.size w).alloc (Nat.le_refl _) o1
  by_cases hp : 0 < n
  · obtain ⟨b, off, rfl, hb, hc⟩ := hs hp
    have hown := World.ownsRow_lit (base := w.heap.size) (e := 2) (size := 1) w #[] 0 (Nat.le_refl _) (Nat.zero_le _) rfl
    have hnews := ints_at_sl (w := w.alloc (.cells #[] 2)) (b := b) (off := off) (zs := zs) (fun i hi => ((hb0 _).cell (p := ⟨b, off + i, none⟩) hb).trans (hc i (by omega)))
    have HO := hide hown
    have HN := hide hnews
    have hm1 : 0 + n ≤ maxLen := by unfold maxLen; omega
    have hm2 : (0 + n) * 8 ≤ 140737488355328 := by omega
    have hl1 : (zs.map (Value.int .i64)).length = n * 1 := by simp [hlen]
    have hbs : w.heap.size ≤ (w.alloc (.cells #[] 2)).heap.size := by simp
    have HL := hide hl1
    have HM1 := hide hm1
    have HM2 := hide hm2
    have HBS := hide hbs
    clear hown hnews hs hc hl1 hm1 hm2 hbs
    go_enter Tryz.func142, Tryz.ntmps142
    go_wp2_with (first
      | (at_builtin; refine wpList_append_own _ rfl _ _ 25 rfl w.heap.size 2 i0 (.int .i64 0) 1 8 Tryz.underlying25 hi hz0 hz1 hz2 rfl (by decide) _ 0 [] rfl HO.out ⟨b, off, none⟩ n cap (zs.map (Value.int .i64)) rfl HL.out HN.out ints_one HM1.out HM2.out HBS.out ?_)
      | go_in)
    intro v' w1 hown' hgrow _
    have hown2 : w1.ownsRow w.heap.size 2 1 v' n (zs.map (Value.int .i64)) := by simpa using hown'
    obtain ⟨ra, rc, rfl, fr⟩ := owns_osl hn hown2
    have h1 : Below w.heap.size w w1 := (hb0 _).grown hgrow (by simp) (fun k hk => by simp [Value.ownBlock] at hk; omega)
    have HFR := hide (OS.ofOSl fr)
    have HB1 := hide h1
    clear HO HN hown' hown2 hgrow hb0 fr h1
    go_wp2
    go_ret
    exact ⟨ra, rc, rfl, HFR.out, HB1.out⟩
  · have h0 : n = 0 := by omega
    subst h0
    cases a
    · go_enter Tryz.func142, Tryz.ntmps142
      go_wp2
      go_ret
      exact ⟨_, 0, rfl, ⟨hlen, by omega, .inl rfl⟩, Below.refl _ _⟩
    · go_enter Tryz.func142, Tryz.ntmps142
      go_wp2
      go_ret
      exact ⟨_, 0, rfl, ⟨hlen, by omega, .inl rfl⟩, hb0 _⟩

set_option maxRecDepth 100000 in
set_option maxHeartbeats 1000000 in
theorem l1Copy_O (a : Option Addr) (n cap : Nat) (zs : List Int) (w : World) (hn : n ≤ 1048576) (hs : Sl w a n zs) :
    Calls Tryz.prog 61 #[.agg #[.slice a n cap]] w fun e w' => ∃ ra rc, e = .returned (.agg #[.slice ra n rc]) ∧ OS (InR w.heap.size w'.heap.size) ra n zs w' ∧ Below w.heap.size w w' := by
  obtain ⟨hlen, hs⟩ := hs
  obtain ⟨i0, hi, hz0, hz1, hz2⟩ := info_parts info2
  have hb0 := fun o1 o2 o3 => (((Below.refl w.heap.size w).alloc (Nat.le_refl _) o1).alloc (by simp) o2).alloc (by simp; omega) o3
  by_cases hp : 0 < n
  · obtain ⟨b, off, rfl, hb, hc⟩ := hs hp
    have hown := World.ownsRow_lit (base := w.heap.size + 2) (e := 2) (size := 1) ((w.alloc (.cells #[.slice (some ⟨b, off, none⟩) n cap] 112)).alloc (.cells #[.slice none 0 0] 112)) #[] 0 (by simp) (Nat.zero_le _) rfl
    simp only [World.size_alloc] at hown
    have hnews := ints_at_sl (w := ((w.alloc (.cells #[.slice (some ⟨b, off, none⟩) n cap] 112)).alloc (.cells #[.slice none 0 0] 112)).alloc (.cells #[] 2)) (b := b) (off := off) (zs := zs) (fun i hi => ((hb0 _ _ _).cell (p := ⟨b, off + i, none⟩) hb).trans (hc i (by omega)))
    have HO := hide hown
    have HN := hide hnews
    have hm1 : 0 + n ≤ maxLen := by unfold maxLen; omega
    have hm2 : (0 + n) * 8 ≤ 140737488355328 := by omega
    have hl1 : (zs.map (Value.int .i64)).length = n * 1 := by simp [hlen]
    have hbs : w.heap.size + 2 ≤ (((w.alloc (.cells #[.slice (some ⟨b, off, none⟩) n cap] 112)).alloc (.cells #[.slice none 0 0] 112)).alloc (.cells #[] 2)).heap.size := by simp
    have HL := hide hl1
    have HM1 := hide hm1
    have HM2 := hide hm2
    have HBS := hide hbs
    clear hown hnews hs hc hl1 hm1 hm2 hbs
    go_enter Tryz.func61, Tryz.ntmps61
    go_wp2_with (first
      | (at_builtin; refine wpList_append_own _ rfl _ _ 25 rfl (w.heap.size + 2) 2 i0 (.int .i64 0) 1 8 Tryz.underlying25 hi hz0 hz1 hz2 rfl (by decide) _ 0 [] rfl HO.out ⟨b, off, none⟩ n cap (zs.map (Value.int .i64)) rfl HL.out HN.out ints_one HM1.out HM2.out HBS.out ?_)
      | go_in)
    intro v' w1 hown' hgrow _
    have hown2 : w1.ownsRow (w.heap.size + 2) 2 1 v' n (zs.map (Value.int .i64)) := by simpa using hown'
    obtain ⟨ra, rc, rfl, fr⟩ := owns_osl hn hown2
    have h1 : Below w.heap.size w w1 := (hb0 _ _ _).grown hgrow (by simp; omega) (fun k hk => by simp [Value.ownBlock] at hk; omega)
    have rc1 : w1.cell? ⟨w.heap.size + 1, 0, none⟩ = some (.slice none 0 0) := (World.cell?_of_block (a := ⟨w.heap.size + 1, 0, none⟩) (hgrow.block (w.heap.size + 1) (by simp) (by simp [Value.ownBlock]))).trans (by go_simp)
    have rf1 : w1.frozen? ⟨w.heap.size + 1, 0, none⟩ = false := (World.frozen?_of_block (a := ⟨w.heap.size + 1, 0, none⟩) (hgrow.block (w.heap.size + 1) (by simp) (by simp [Value.ownBlock]))).trans (by go_simp)
    have HFR := hide (OS.ofOSl fr)
    have HB1 := hide h1
    clear HO HN hown' hown2 hgrow hb0 fr h1
    go_wp2
    refine bodyPost_ret (v := .agg #[.slice ra n rc]) (by simp [results, Tryz.results61, go_sem, rc1]) rfl ⟨ra, rc, rfl, ?_, HB1.out.setCell (by show w.heap.size ≤ w.heap.size + 1; omega) _⟩
    exact (OS.loc w1 _ (fun k hk _ => Below.heap_setCell _ _ _ _ (fun e => by have := hk.1; simp at e; omega)) HFR.out).mono (fun k hk => ⟨by have := hk.1; omega, by simpa using hk.2⟩)
  · have h0 : n = 0 := by omega
    subst h0
    cases a
    all_goals
      go_enter Tryz.func61, Tryz.ntmps61
      go_wp2
      refine bodyPost_ret (v := .agg #[.slice (some ⟨w.heap.size + 1 + 1, 0, none⟩) 0 0]) (by simp [results, Tryz.results61, go_sem]) rfl ⟨_, 0, rfl, ⟨hlen, by omega, .inl rfl⟩, hb0 _ _ _⟩

end Go.Proofs.YtgkjmeogdomgmaaGreat
