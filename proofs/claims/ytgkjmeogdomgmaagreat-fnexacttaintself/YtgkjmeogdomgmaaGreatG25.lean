import Derived.Test.YtgkjmeogdomgmaaGreatG34
import Derived.Test.YtgkjmeogdomgmaaGreatG2
import Derived.WalkKit
import Derived.ProofKit
import Derived.OpenShut
import Derived.ShutString
import Derived.ChangeOld
import Derived.Below
import Derived.WalkSpells
import Derived.Deep.QuietTactic
import Derived.BigQuiet
import Derived.Deep.RegionWith
import Derived.Deep.WholeRow
import Derived.Deep.DeepCutAuto
import Derived.Deep.RegionHeld2
import Derived.Deep.AppendLies
import Derived.Deep.RegionLaw
namespace Go.Proofs.YtgkjmeogdomgmaaGreat
open Go.ChangeShapes Go.WideShapes Go.ChangeAt Go.RowKit

set_option maxRecDepth 100000 in
set_option maxHeartbeats 1000000 in
theorem cloneG_calls (a : Option Addr) (n cap : Nat) (ls : List (Int × Int)) (w : World) (hn : n ≤ 1048576) (hs : Swd w a n ls) :
    Calls Tryz.prog 151 #[.slice a n cap] w fun e w' => ∃ v, e = .returned v ∧ w'.ownsRow w.heap.size 123 2 v n (vsw ls) ∧ Below w.heap.size w w' := by
  obtain ⟨hlen, hs⟩ := hs
  obtain ⟨i0, hi, hz0, hz1, hz2⟩ := info_parts infoGate2
  have hnil := fun (u : World) (x : Option Addr) (m c : Nat) => Lib.run_eql_slice_nil (P := Tryz.prog) u 51 123 x m c 0 0 Tryz.underlying51
  have hb0 := fun o1 => (Below.refl w.heap.size w).alloc (Nat.le_refl _) o1
  by_cases hp : 0 < n
  · obtain ⟨b, off, rfl, hb, hc⟩ := hs hp
    have hown := World.ownsRow_lit (base := w.heap.size) (e := 123) (size := 2) w #[] 0 (Nat.le_refl _) (Nat.zero_le _) rfl
    have hnews := news_swd (w := w.alloc (.cells #[] 123)) (b := b) (off := off) hlen (fun i hi => ((hb0 _).cell (p := ⟨b, off + i, none⟩) hb).trans (hc i (by omega)))
    have HO := hide hown
    have HN := hide hnews
    have HL : Hid ((vsw ls).length = n * 2) := by show _ = _; rw [length_vsw, hlen]
    have HM1 : Hid (0 + n ≤ maxLen) := by show _ ≤ _; unfold maxLen; omega
    have HM2 : Hid ((0 + n) * 16 ≤ 140737488355328) := by show _ ≤ _; omega
    have HBS : Hid (w.heap.size ≤ (w.alloc (.cells #[] 123)).heap.size) := by show _ ≤ _; simp
    clear hown hnews hs hc
    go_enter Tryz.func151, Tryz.ntmps151
    go_wp2_with (first
      | (at_builtin; refine wpList_append_own _ rfl _ _ 51 rfl w.heap.size 123 i0 (.agg #[.int .i64 0, .int .i64 0]) 2 16 Tryz.underlying51 hi hz0 hz1 hz2 rfl (by decide) _ 0 [] rfl HO.out ⟨b, off, none⟩ n cap (vsw ls) rfl HL.out HN.out ints_onew HM1.out HM2.out HBS.out ?_)
      | go_in)
    intro v' w1 hown' hgrow _
    have hown2 : w1.ownsRow w.heap.size 123 2 v' n (vsw ls) := by simpa using hown'
    have h1 : Below w.heap.size w w1 := (hb0 _).grown hgrow (by simp) (fun k hk => by simp [Value.ownBlock] at hk; omega)
    have HFR := hide hown2
    have HB1 := hide h1
    clear HO HN hown' hown2 hgrow hb0 h1
    go_wp2
    go_ret
    exact ⟨_, rfl, HFR.out, HB1.out⟩
  · have h0 : n = 0 := by omega
    subst h0
    have hl0 : ls = [] := List.length_eq_zero_iff.1 hlen
    subst hl0
    cases a
    · go_enter Tryz.func151, Tryz.ntmps151
      go_wp2
      go_ret
      exact ⟨_, rfl, World.ownsRow_nil _ _ _ _, Below.refl _ _⟩
    · have HO := hide (World.ownsRow_lit (base := w.heap.size) (e := 123) (size := 2) w #[] 0 (Nat.le_refl _) (Nat.zero_le _) rfl)
      go_enter Tryz.func151, Tryz.ntmps151
      go_wp2
      go_ret
      exact ⟨_, rfl, HO.out, hb0 _⟩

theorem CPx.grow {wr X w1 : World} {B : Nat} {ss : List (Int × List Int)} {k : Nat} {v : Value} {la : Nat → Option Addr} {lc lb : Nat → Nat} {xs : List Value} (h : CPx wr B ss k v la lc lb xs)
    (hc : Below wr.heap.size wr X) {ra : Option Addr} {ll rc g cp : Nat} (hll : (gl ss k).length = ll) (hB : B ≤ wr.heap.size) (ho : OS (InR wr.heap.size X.heap.size) ra ll (gl ss k) X) (hg : X.grownBy w1 v.ownBlock) (hat : v.ownBlock = some g ∨ g = X.heap.size)
    (hown : w1.ownsRow B 150 2 (.slice (some ⟨g, 0, none⟩) (k + 1) cp) (k + 1) (xs ++ [.int .i64 (gc ss k), .slice ra ll rc])) :
    ∃ la' lc' lb', CPx w1 B ss (k + 1) (.slice (some ⟨g, 0, none⟩) (k + 1) cp) la' lc' lb' (xs ++ [.int .i64 (gc ss k), .slice ra ll rc]) := by
  subst hll
  obtain ⟨b, ob, hb⟩ := ho.one
  have hx : xs.length = k * 2 := h.own.1
  have hsz := hc.size
  have hgs := hg.size
  have hvb : ∀ q, v.ownBlock = some q → q < wr.heap.size := fun q e => (h.own.lt q e).2
  have hgne : ∀ q, q < X.heap.size → v.ownBlock ≠ some q → g ≠ q := fun q hq hv e => by
    rcases hat with hat | hat
    · exact hv (by rw [hat, e])
    · omega
  have keep : ∀ {S : Nat → Prop} {a : Option Addr} {n : Nat} {zs : List Int}, (∀ q, S q → q < X.heap.size ∧ v.ownBlock ≠ some q) → OS S a n zs X → OS S a n zs w1 := fun hS h0 =>
    OS.loc X w1 (fun q hq hlt => hg.block q hlt (fun e => (hS q hq).2 e.symm)) h0
  refine ⟨fun j => if j = k then ra else la j, fun j => if j = k then rc else lc j, fun j => if j = k then b else lb j, hown, fun j hj => ?_, fun j hj => ?_, fun j hj => ?_, fun j hj hl => ?_, fun j hj hl => ?_, fun i j hi hj hij li lj => ?_⟩
  · by_cases e : j = k
    · subst e; rw [List.getElem?_append_right (by omega)]; simp [hx]
    · rw [List.getElem?_append_left (by omega)]; exact h.x0 j (by omega)
  · by_cases e : j = k
    · subst e; rw [if_pos rfl, if_pos rfl, List.getElem?_append_right (by omega)]; simp [hx]
    · rw [if_neg e, if_neg e, List.getElem?_append_left (by omega)]; exact h.x1 j (by omega)
  · by_cases e : j = k
    · subst e
      simp only [if_true]
      exact keep (fun q hq => ⟨by have := hb hq.2; have := hq.1; omega, fun e => by have := hvb q e; have := hb hq.2; have := hq.1; omega⟩) ob
    · simp only [if_neg e]
      have hj' : j < k := by omega
      exact keep (fun q hq => ⟨by have := (h.ge j hj' hq.2).2; have := hq.1; omega, fun e => h.ne j hj' hq.2 (by rw [e, hq.1])⟩) (OS.loc.below hc (h.os j hj'))
  · by_cases e : j = k
    · subst e; rw [if_pos rfl]; have := hb hl; omega
    · rw [if_neg e]; have := h.ge j (by omega) hl; omega
  · by_cases e : j = k
    · subst e
      rw [if_pos rfl]
      have := hb hl
      intro e2
      injection e2 with e2
      exact hgne b (by omega) (fun e3 => by have := hvb b e3; omega) e2
    · rw [if_neg e]
      have hj' : j < k := by omega
      have := (h.ge j hj' hl).2
      intro e2
      injection e2 with e2
      exact hgne (lb j) (by omega) (h.ne j hj' hl) e2
  · by_cases e : i = k
    · rw [if_pos e, if_neg (by omega)]
      have := h.ge j (by omega) lj
      subst e
      have := hb li
      omega
    · rw [if_neg e]
      by_cases e2 : j = k
      · rw [if_pos e2]
        have := h.ge i (by omega) li
        subst e2
        have := hb lj
        omega
      · rw [if_neg e2]
        exact h.ap i j (by omega) (by omega) hij li lj

theorem CPx.begin {wr : World} {B : Nat} (ss : List (Int × List Int)) {v : Value} (h : wr.ownsRow B 150 2 v 0 []) : CPx wr B ss 0 v (fun _ => none) (fun _ => 0) (fun _ => 0) [] :=
  ⟨h, fun j hj => by omega, fun j hj => by omega, fun j hj => by omega, fun j hj => by omega, fun j hj => by omega, fun i j hi => by omega⟩

/-- what a round of a copy of slots leaves, the row in a variable of the frame. -/
def T7r (w : World) (B : Nat) (fs : List (Nat × Nat × (World → Prop))) (ss : List (Int × List Int)) (k : Nat) (v : Value) (wr : World) : Prop :=
  ∃ (la : Nat → Option Addr) (lc lb : Nat → Nat) (xs : List Value), CPx wr B ss k v la lc lb xs ∧ Mm w wr [] fs ∧ B ≤ wr.heap.size

set_option maxRecDepth 100000 in
set_option maxHeartbeats 8000000 in
theorem copiedTables_O (a : Option Addr) (n c : Nat) (ss : List (Int × List Int)) (ta : Option Addr) (tn tc : Nat) (ts : List Int) (da : Option Addr) (dn dc : Nat) (ds : List Int) (w : World) (hm : n + lenSum ss ≤ 1048576) (htn : tn ≤ 1048576) (hdn : dn ≤ 1048576) (hrt : RT w a n ss ta tn ts da dn ds) :
    Calls Tryz.prog 148 #[.agg #[.slice a n c, .slice ta tn tc, .slice da dn dc]] w fun e w' => ∃ ra rc xa xc ya yc, e = .returned (.agg #[.slice ra n rc, .slice xa tn xc, .slice ya dn yc]) ∧ L3K w.heap.size ra n rc ss xa tn ts ya dn ds w' ∧ Below w.heap.size w w' := by
  have hx := hrt.2.1
  have hlen := hx.1
  obtain ⟨i0, hi, hz0, hz1, hz2⟩ := info_parts infoSlot
  have hmk : ∀ u : World, (Instr.makeSlice 39 (.int .i64 0) (.int .i64 (n : Int))).run Tryz.prog u =
      .ok (.slice (some ⟨u.heap.size, 0, none⟩) 0 n) (u.alloc (.cells (madeCells #[.int .i64 0, .slice none 0 0] (n * 2)) 150)) := fun u => by
    have h := run_make (P := Tryz.prog) u 39 150 i0 (.agg #[.int .i64 0, .slice none 0 0]) Tryz.underlying39 hi hz0 .i64 .i64 0 (n : Int) (by omega) (by omega) (by rw [hz2]; omega) (by omega)
    simpa [hz1, Value.cells] using h
  have M0 := ((Mm.start w).allocC [.slice a n c, .slice ta tn tc, .slice da dn dc] 43).allocC [.slice none 0 0, .slice none 0 0, .slice none 0 0] 43
  simp only [World.size_alloc] at M0
  have hown0 := World.ownsRow_made (base := w.heap.size + 1 + 1) (e := 150) (size := 2) ((w.alloc (.cells #[.slice a n c, .slice ta tn tc, .slice da dn dc] 43)).alloc (.cells #[.slice none 0 0, .slice none 0 0, .slice none 0 0] 43)) (madeCells #[.int .i64 0, .slice none 0 0] (n * 2)) n (by simp) (by unfold maxLen; omega) (by rw [size_madeCells])
  simp only [World.size_alloc] at hown0
  have HO0 := hide hown0
  have HM0 := hide (M0.below ((Below.refl _ _).alloc (Nat.le_refl _) (.cells (madeCells #[.int .i64 0, .slice none 0 0] (n * 2)) 150)))
  clear hown0 M0
  go_enter Tryz.func148, Tryz.ntmps148
  go_wp2
  go_loopw [15, 3] (fun i v wr => ∃ k : Nat, k ≤ n ∧ i = .int .i64 k ∧ T7r w (w.heap.size + 1 + 1) [(w.heap.size + 1, w.heap.size + 1 + 1, Cs (w.heap.size + 1) [.slice none 0 0, .slice none 0 0, .slice none 0 0]), (w.heap.size, w.heap.size + 1, Cs w.heap.size [.slice a n c, .slice ta tn tc, .slice da dn dc])] ss k v wr) (fun i _ _ => n - (intOf i).toNat)
  case atStart => exact ⟨0, Nat.zero_le _, rfl, _, _, _, _, CPx.begin ss HO0.out, HM0.out, by simp⟩
  case round =>
    clear HO0 HM0 hmk
    obtain ⟨k, hkn, rfl, la, lc, lb, xs, hcp, M, hB⟩ := hrel
    have HX := hide hcp
    have HM := hide M
    have h6 := M.bel
    clear hcp M
    by_cases hlt : k < n
    · obtain ⟨b, off, rfl, hb, hc⟩ := hx.2 (by omega)
      obtain ⟨hc0, ra0, ll, rc0, hc1, hll, hsl⟩ := hc k hlt
      have hck0 := (h6.cell (p := ⟨b, off + k * 2, none⟩) hb).trans hc0
      have hck1 := (h6.cell (p := ⟨b, off + k * 2 + 1, none⟩) hb).trans hc1
      have hzl : (gl ss k).length = ll := hsl.1
      have hl2 := gl_le ss k (by omega)
      have hsl2 := hsl.below h6 (Nat.le_refl _)
      have hki : (k : Int) < (n : Int) := by omega
      have hbr : b < wr.heap.size := by have := h6.size; omega
      clear hc hc0 hc1 hsl
      obtain ⟨W, hW⟩ : ∃ x, x = wr.alloc (.cells #[.int .i64 (gc ss k), .slice ra0 ll rc0] 150) := ⟨_, rfl⟩
      have gW : Below wr.heap.size wr W := hW ▸ (Below.refl _ _).alloc (Nat.le_refl _) _
      have hWs : W.heap.size = wr.heap.size + 1 := by rw [hW]; simp
      have e0 : W.cell? ⟨wr.heap.size, 0, none⟩ = some (.int .i64 (gc ss k)) := by rw [hW]; simp
      have e1 : W.cell? ⟨wr.heap.size, 1, none⟩ = some (.slice ra0 ll rc0) := by rw [hW]; simp
      have HSL := hide ((hsl2.below gW (Nat.le_refl _)).below (Below.refl W.heap.size W).drew (Nat.le_refl _))
      go_upto_region 5 with fail
      rw [← hW]
      have HWs := hide hWs
      have lW : wr.heap.size < W.heap.size := by omega
      have HB := hide hB
      have hB2 : w.heap.size + 1 + 1 ≤ W.heap.size := by omega
      clear hW hsl2 hck0 hck1 hWs
      go_region_law (first
        | (refine step_append_lies _ rfl _ _ 39 rfl (w.heap.size + 1 + 1) 150 i0 (.agg #[.int .i64 0, .slice none 0 0]) 2 32 Tryz.underlying39 hi hz0 hz1 hz2 rfl (by decide) u3 k xs rfl (HW2.out.alloc _) ⟨wc.heap.size, 0, none⟩ 1 1 [.int .i64 (gc ss k), .slice rb ll rd] rfl rfl (two_new (by go_simp) (by go_simp)) (by simp [Value.oneCell']) (by omega) (by unfold maxLen; omega) (by omega) (by simp; omega) (wc.heap.size + 1) (by simp) ?_; intro g cp w3 hown1 hgrow hat hlt1; have HST := hide (HX.out.grow (HC.out.trans (((Below.refl _ _).alloc (Nat.le_refl _) _).mono HC.out.size)) hzl HB.out ((OS.loc.alloc HO.out _).mono (fun q hq => ⟨hq.1, Nat.lt_of_lt_of_le hq.2 (by simp)⟩)) hgrow (by rw [World.size_alloc]; exact hat) hown1); have MG := HM.out.grown (HC.out.trans (((Below.refl _ _).alloc (Nat.le_refl _) _).mono HC.out.size)) hgrow (B := w.heap.size + 1 + 1) (by omega) HB.out (fun q e => (HX.out.own.lt q e).1) (by simp) (by simp <;> omega); have HMG := hide MG; have hz3 := hgrow.size; clear hown1 hgrow hat MG)
        | (go_simp; go_at_call 142; refine (clone_calls ra0 ll rc0 (gl ss k) _ (by omega) HSL.out).mono ?_; rintro e wc ⟨rb, rd, rfl, os, gw⟩; have j0 := (gw.cell (p := ⟨wr.heap.size, 0, none⟩) (by simpa using lW)).trans e0; have j1 := (gw.cell (p := ⟨wr.heap.size, 1, none⟩) (by simpa using lW)).trans e1; have HC : Hid (Below wr.heap.size wr wc) := (by have h1 := (Below.refl W.heap.size W).drew; exact gW.trans ((h1.trans gw).mono gW.size)); have HO : Hid (OS (InR wr.heap.size wc.heap.size) rb ll (gl ss k) wc) := (OS.mono os (fun q hq => ⟨by have h1 := hq.1; (try simp only [World.size_drew] at h1); omega, hq.2⟩)); have HW2 := hide (owns_out HX.out.own HC.out); have hS1 : w.heap.size + 1 + 1 ≤ wc.heap.size := (by have := gw.size; simp at this; omega); clear os gw))
      all_goals (
        obtain ⟨la', lc', lb', hst⟩ := HST.out
        have HST2 := hide hst
        clear hst HST
        go_wp2
        go_roundw
        case rel => exact ⟨k + 1, by omega, by go_num, _, _, _, _, HST2.out, HMG.out, by simp at hz3; omega⟩
        case measure => simp [intOf]; omega)
    · have ek : k = n := by omega
      subst ek
      obtain ⟨ra, rc, rfl, o1⟩ := HX.out.or hlen hm
      have oR : RG (w.heap.size + 1 + 1) wr.heap.size ra k rc ss wr := ⟨o1, ⟨xs, HX.out.own⟩, fun g e => HX.out.own.lt g e⟩
      have M := HM.out
      have q0 := (M.get 1 rfl).cell 1 rfl
      have q1 := (M.get 1 rfl).cell 2 rfl
      have l0 : w.heap.size < wr.heap.size := by omega
      have l1 : w.heap.size + 1 < wr.heap.size := by omega
      have hst := hrt.2.2.2.1.below h6 (Nat.le_refl _)
      have hsd := hrt.2.2.2.2.2.below h6 (Nat.le_refl _)
      have HST := hide (hst.below (Below.refl _ _).drew (Nat.le_refl _))
      have HSD := hide hsd
      have HO1 := hide oR
      have HM' := hide M
      clear HX HM hlt M o1 oR hst hsd h6 hx hrt
      go_wp2_with fail
      go_region_with (first
        | (go_at_call_of 142 (Value.slice ta tn tc); refine (clone_calls ta tn tc ts _ htn HST.out).mono ?_; rintro e w2 ⟨xa, xc, rfl, o2, g2⟩; have gw : Below wr.heap.size wr w2 := (Below.refl _ _).drew.trans g2; have z2 := gw.size; have M2 := HM'.out.below gw; have r1 := (M2.get 1 rfl).cell 2 rfl; have HM2 := hide M2; have HO12 := hide (RG.loc.below gw HO1.out); have HO2 : Hid (OS (InR wr.heap.size w2.heap.size) xa tn ts w2) := o2; have HSD2 := hide (HSD.out.below gw (Nat.le_refl _)); clear g2 gw M2 o2)
        | (go_at_call_of 142 (Value.slice da dn dc); refine (clone_calls da dn dc ds _ hdn HSD2.out).mono ?_; rintro e w3 ⟨ya, yc, rfl, o3, g3⟩; have z3 := g3.size; have M3 := HM2.out.below g3; have u0 := (M3.get 0 rfl).cell 0 rfl; have u1 := (M3.get 0 rfl).cell 1 rfl; have u2 := (M3.get 0 rfl).cell 2 rfl; have f0 := (M3.get 0 rfl).fz 0 (by simp); have f1 := (M3.get 0 rfl).fz 1 (by simp); have f2 := (M3.get 0 rfl).fz 2 (by simp); have HM3 := hide M3; have HO13 := hide (RG.loc.below g3 HO12.out); have HO23 := hide (OS.loc.below g3 HO2.out); have HO3 := hide o3; clear g3 M3 o3))
      all_goals (
        have HL : Hid (L3K (w.heap.size + 1 + 1) ra k rc ss xa tn ts ya dn ds w3) := ⟨_, _, _, _, Nat.le_refl _, by omega, z2, z3, Nat.le_refl _, HO13.out, HO23.out, HO3.out⟩
        have MM := ((HM3.out.put 0 rfl 0 (by simp) (.slice ra k rc) (by simp) (by simp) (by simp)).put 0 rfl 1 (by simp) (.slice xa tn xc) (by simp) (by simp) (by simp)).put 0 rfl 2 (by simp) (.slice ya dn yc) (by simp) (by simp) (by simp)
        have HMM := hide MM
        clear MM HM3 HM2 HM' HO1 HO12 HO13 HO2 HO23 HO3 HST HSD HSD2
        go_wp2
        have MF := HMM.out
        simp only [List.set] at MF
        have y0 := (MF.get 0 rfl).cell 0 rfl
        have y1 := (MF.get 0 rfl).cell 1 rfl
        have y2 := (MF.get 0 rfl).cell 2 rfl
        refine bodyPost_ret (v := .agg #[.slice ra k rc, .slice xa tn xc, .slice ya dn yc]) (by simp [results, Tryz.results148, go_sem, y0, y1, y2]) rfl ⟨ra, rc, xa, xc, ya, yc, rfl, ?_, MF.bel⟩
        obtain ⟨B1, B2, B3, B4, k1, kr⟩ := ((HL.out.setC (P := w.heap.size + 1) (o := 0) (by omega) (.slice ra k rc)).setC (P := w.heap.size + 1) (o := 1) (by omega) (.slice xa tn xc)).setC (P := w.heap.size + 1) (o := 2) (by omega) (.slice ya dn yc)
        exact ⟨B1, B2, B3, B4, by omega, kr⟩)

set_option maxRecDepth 100000 in
set_option maxHeartbeats 1000000 in
theorem clone_R (a : Option Addr) (n cap : Nat) (zs : List Int) (w : World) (hn : n ≤ 1048576) (hs : Sl w a n zs) :
    Calls Tryz.prog 142 #[.slice a n cap] w fun e w' => ∃ ra rc, e = .returned (.slice ra n rc) ∧ n ≤ rc ∧ RW (InR w.heap.size w'.heap.size) ra n rc zs w' ∧ Below w.heap.size w w' := by
  obtain ⟨hlen, hs⟩ := hs
  obtain ⟨i0, hi, hz0, hz1, hz2⟩ := info_parts info2
  have hnil := fun (u : World) (x : Option Addr) (m c : Nat) => Lib.run_eql_slice_nil (P := Tryz.prog) u 25 2 x m c 0 0 Tryz.underlying25
  have hb0 := fun o1 => (Below.refl w.heap.size w).alloc (Nat.le_refl _) o1
  by_cases hp : 0 < n
  · obtain ⟨b, off, rfl, hb, hc⟩ := hs hp
    have hown := World.ownsRow_lit (base := w.heap.size) (e := 2) (size := 1) w #[] 0 (Nat.le_refl _) (Nat.zero_le _) rfl
    have hnews := ints_at_sl (w := w.alloc (.cells #[] 2)) (b := b) (off := off) (zs := zs) (fun i hi => ((hb0 _).cell (p := ⟨b, off + i, none⟩) hb).trans (hc i (by omega)))
    have HO := hide hown
    have HN := hide hnews
    have hm1 : 0 + n ≤ maxLen := by unfold maxLen; omega
    have hm2 : (0 + n) * 8 ≤ 140737488355328 := by omega
    have hl1 : (zs.map (Value.int .i64)).length = n * 1 := by simp [hlen]
    have hbs : w.heap.size ≤ (w.alloc (.cells #[] 2)).heap.size := by simp
    have HL := hide hl1
    have HM1 := hide hm1
    have HM2 := hide hm2
    have HBS := hide hbs
    clear hown hnews hs hc hl1 hm1 hm2 hbs
    go_enter Tryz.func142, Tryz.ntmps142
    go_wp2_with (first
      | (at_builtin; refine wpList_append_own _ rfl _ _ 25 rfl w.heap.size 2 i0 (.int .i64 0) 1 8 Tryz.underlying25 hi hz0 hz1 hz2 rfl (by decide) _ 0 [] rfl HO.out ⟨b, off, none⟩ n cap (zs.map (Value.int .i64)) rfl HL.out HN.out ints_one HM1.out HM2.out HBS.out ?_)
      | go_in)
    intro v' w1 hown' hgrow _
    have hown2 : w1.ownsRow w.heap.size 2 1 v' n (zs.map (Value.int .i64)) := by simpa using hown'
    obtain ⟨ra, rc, rfl, fr⟩ := RW.of hn hown2
    have hcap := fr.room
    have h1 : Below w.heap.size w w1 := (hb0 _).grown hgrow (by simp) (fun k hk => by simp [Value.ownBlock] at hk; omega)
    have HFR := hide fr
    have HB1 := hide h1
    clear HO HN hown' hown2 hgrow hb0 fr h1
    go_wp2
    go_ret
    exact ⟨ra, rc, rfl, hcap, HFR.out, HB1.out⟩
  · have h0 : n = 0 := by omega
    subst h0
    cases a
    · go_enter Tryz.func142, Tryz.ntmps142
      go_wp2
      go_ret
      exact ⟨_, 0, rfl, by omega, RW.nil _ _ hlen, Below.refl _ _⟩
    · go_enter Tryz.func142, Tryz.ntmps142
      go_wp2
      go_ret
      exact ⟨_, 0, rfl, by omega, RW.lit w hlen, hb0 _⟩

theorem e11_bel {w X : World} {v0 v1 v2 v3 v4 v5 v6 v7 v8 v9 v10 : Value} (h : X.cell? ⟨w.heap.size, 0, none⟩ = some v0 ∧ X.cell? ⟨w.heap.size, 1, none⟩ = some v1 ∧ X.cell? ⟨w.heap.size, 2, none⟩ = some v2 ∧ X.cell? ⟨w.heap.size, 3, none⟩ = some v3 ∧ X.cell? ⟨w.heap.size, 4, none⟩ = some v4 ∧ X.cell? ⟨w.heap.size, 5, none⟩ = some v5 ∧ X.cell? ⟨w.heap.size, 6, none⟩ = some v6 ∧ X.cell? ⟨w.heap.size, 7, none⟩ = some v7 ∧ X.cell? ⟨w.heap.size, 8, none⟩ = some v8 ∧ X.cell? ⟨w.heap.size, 9, none⟩ = some v9 ∧ X.cell? ⟨w.heap.size, 10, none⟩ = some v10 ∧ w.heap.size + 1 < X.heap.size ∧ Below w.heap.size w X) : Below w.heap.size w X := h.2.2.2.2.2.2.2.2.2.2.2.2

theorem e11_lt {w X : World} {v0 v1 v2 v3 v4 v5 v6 v7 v8 v9 v10 : Value} (h : X.cell? ⟨w.heap.size, 0, none⟩ = some v0 ∧ X.cell? ⟨w.heap.size, 1, none⟩ = some v1 ∧ X.cell? ⟨w.heap.size, 2, none⟩ = some v2 ∧ X.cell? ⟨w.heap.size, 3, none⟩ = some v3 ∧ X.cell? ⟨w.heap.size, 4, none⟩ = some v4 ∧ X.cell? ⟨w.heap.size, 5, none⟩ = some v5 ∧ X.cell? ⟨w.heap.size, 6, none⟩ = some v6 ∧ X.cell? ⟨w.heap.size, 7, none⟩ = some v7 ∧ X.cell? ⟨w.heap.size, 8, none⟩ = some v8 ∧ X.cell? ⟨w.heap.size, 9, none⟩ = some v9 ∧ X.cell? ⟨w.heap.size, 10, none⟩ = some v10 ∧ w.heap.size + 1 < X.heap.size ∧ Below w.heap.size w X) : w.heap.size + 1 < X.heap.size := h.2.2.2.2.2.2.2.2.2.2.2.1

theorem e11_below {w X : World} {v0 v1 v2 v3 v4 v5 v6 v7 v8 v9 v10 : Value} {Y : World} (h : X.cell? ⟨w.heap.size, 0, none⟩ = some v0 ∧ X.cell? ⟨w.heap.size, 1, none⟩ = some v1 ∧ X.cell? ⟨w.heap.size, 2, none⟩ = some v2 ∧ X.cell? ⟨w.heap.size, 3, none⟩ = some v3 ∧ X.cell? ⟨w.heap.size, 4, none⟩ = some v4 ∧ X.cell? ⟨w.heap.size, 5, none⟩ = some v5 ∧ X.cell? ⟨w.heap.size, 6, none⟩ = some v6 ∧ X.cell? ⟨w.heap.size, 7, none⟩ = some v7 ∧ X.cell? ⟨w.heap.size, 8, none⟩ = some v8 ∧ X.cell? ⟨w.heap.size, 9, none⟩ = some v9 ∧ X.cell? ⟨w.heap.size, 10, none⟩ = some v10 ∧ w.heap.size + 1 < X.heap.size ∧ Below w.heap.size w X) (g : Below X.heap.size X Y) : Y.cell? ⟨w.heap.size, 0, none⟩ = some v0 ∧ Y.cell? ⟨w.heap.size, 1, none⟩ = some v1 ∧ Y.cell? ⟨w.heap.size, 2, none⟩ = some v2 ∧ Y.cell? ⟨w.heap.size, 3, none⟩ = some v3 ∧ Y.cell? ⟨w.heap.size, 4, none⟩ = some v4 ∧ Y.cell? ⟨w.heap.size, 5, none⟩ = some v5 ∧ Y.cell? ⟨w.heap.size, 6, none⟩ = some v6 ∧ Y.cell? ⟨w.heap.size, 7, none⟩ = some v7 ∧ Y.cell? ⟨w.heap.size, 8, none⟩ = some v8 ∧ Y.cell? ⟨w.heap.size, 9, none⟩ = some v9 ∧ Y.cell? ⟨w.heap.size, 10, none⟩ = some v10 ∧ w.heap.size + 1 < Y.heap.size ∧ Below w.heap.size w Y := by
  have hl := e11_lt h
  have hb := e11_bel h
  have hz := g.size
  exact ⟨(g.cell (p := ⟨w.heap.size, 0, none⟩) (by show w.heap.size < _; omega)).trans h.1, (g.cell (p := ⟨w.heap.size, 1, none⟩) (by show w.heap.size < _; omega)).trans h.2.1, (g.cell (p := ⟨w.heap.size, 2, none⟩) (by show w.heap.size < _; omega)).trans h.2.2.1, (g.cell (p := ⟨w.heap.size, 3, none⟩) (by show w.heap.size < _; omega)).trans h.2.2.2.1, (g.cell (p := ⟨w.heap.size, 4, none⟩) (by show w.heap.size < _; omega)).trans h.2.2.2.2.1, (g.cell (p := ⟨w.heap.size, 5, none⟩) (by show w.heap.size < _; omega)).trans h.2.2.2.2.2.1, (g.cell (p := ⟨w.heap.size, 6, none⟩) (by show w.heap.size < _; omega)).trans h.2.2.2.2.2.2.1, (g.cell (p := ⟨w.heap.size, 7, none⟩) (by show w.heap.size < _; omega)).trans h.2.2.2.2.2.2.2.1, (g.cell (p := ⟨w.heap.size, 8, none⟩) (by show w.heap.size < _; omega)).trans h.2.2.2.2.2.2.2.2.1, (g.cell (p := ⟨w.heap.size, 9, none⟩) (by show w.heap.size < _; omega)).trans h.2.2.2.2.2.2.2.2.2.1, (g.cell (p := ⟨w.heap.size, 10, none⟩) (by show w.heap.size < _; omega)).trans h.2.2.2.2.2.2.2.2.2.2.1, by omega, hb.trans (g.mono hb.size)⟩

theorem e11_set {w X : World} {v0 v1 v2 v3 v4 v5 v6 v7 v8 v9 v10 : Value} (h : X.cell? ⟨w.heap.size, 0, none⟩ = some v0 ∧ X.cell? ⟨w.heap.size, 1, none⟩ = some v1 ∧ X.cell? ⟨w.heap.size, 2, none⟩ = some v2 ∧ X.cell? ⟨w.heap.size, 3, none⟩ = some v3 ∧ X.cell? ⟨w.heap.size, 4, none⟩ = some v4 ∧ X.cell? ⟨w.heap.size, 5, none⟩ = some v5 ∧ X.cell? ⟨w.heap.size, 6, none⟩ = some v6 ∧ X.cell? ⟨w.heap.size, 7, none⟩ = some v7 ∧ X.cell? ⟨w.heap.size, 8, none⟩ = some v8 ∧ X.cell? ⟨w.heap.size, 9, none⟩ = some v9 ∧ X.cell? ⟨w.heap.size, 10, none⟩ = some v10 ∧ w.heap.size + 1 < X.heap.size ∧ Below w.heap.size w X) (o : Nat) (y : Value) : (X.setCell ⟨w.heap.size + 1, o, none⟩ y).cell? ⟨w.heap.size, 0, none⟩ = some v0 ∧ (X.setCell ⟨w.heap.size + 1, o, none⟩ y).cell? ⟨w.heap.size, 1, none⟩ = some v1 ∧ (X.setCell ⟨w.heap.size + 1, o, none⟩ y).cell? ⟨w.heap.size, 2, none⟩ = some v2 ∧ (X.setCell ⟨w.heap.size + 1, o, none⟩ y).cell? ⟨w.heap.size, 3, none⟩ = some v3 ∧ (X.setCell ⟨w.heap.size + 1, o, none⟩ y).cell? ⟨w.heap.size, 4, none⟩ = some v4 ∧ (X.setCell ⟨w.heap.size + 1, o, none⟩ y).cell? ⟨w.heap.size, 5, none⟩ = some v5 ∧ (X.setCell ⟨w.heap.size + 1, o, none⟩ y).cell? ⟨w.heap.size, 6, none⟩ = some v6 ∧ (X.setCell ⟨w.heap.size + 1, o, none⟩ y).cell? ⟨w.heap.size, 7, none⟩ = some v7 ∧ (X.setCell ⟨w.heap.size + 1, o, none⟩ y).cell? ⟨w.heap.size, 8, none⟩ = some v8 ∧ (X.setCell ⟨w.heap.size + 1, o, none⟩ y).cell? ⟨w.heap.size, 9, none⟩ = some v9 ∧ (X.setCell ⟨w.heap.size + 1, o, none⟩ y).cell? ⟨w.heap.size, 10, none⟩ = some v10 ∧ w.heap.size + 1 < (X.setCell ⟨w.heap.size + 1, o, none⟩ y).heap.size ∧ Below w.heap.size w (X.setCell ⟨w.heap.size + 1, o, none⟩ y) := by
  have hl := e11_lt h
  exact ⟨(World.cell?_setCell_other _ _ _ _ (fun e => by injection e with e1 _; omega)).trans h.1, (World.cell?_setCell_other _ _ _ _ (fun e => by injection e with e1 _; omega)).trans h.2.1, (World.cell?_setCell_other _ _ _ _ (fun e => by injection e with e1 _; omega)).trans h.2.2.1, (World.cell?_setCell_other _ _ _ _ (fun e => by injection e with e1 _; omega)).trans h.2.2.2.1, (World.cell?_setCell_other _ _ _ _ (fun e => by injection e with e1 _; omega)).trans h.2.2.2.2.1, (World.cell?_setCell_other _ _ _ _ (fun e => by injection e with e1 _; omega)).trans h.2.2.2.2.2.1, (World.cell?_setCell_other _ _ _ _ (fun e => by injection e with e1 _; omega)).trans h.2.2.2.2.2.2.1, (World.cell?_setCell_other _ _ _ _ (fun e => by injection e with e1 _; omega)).trans h.2.2.2.2.2.2.2.1, (World.cell?_setCell_other _ _ _ _ (fun e => by injection e with e1 _; omega)).trans h.2.2.2.2.2.2.2.2.1, (World.cell?_setCell_other _ _ _ _ (fun e => by injection e with e1 _; omega)).trans h.2.2.2.2.2.2.2.2.2.1, (World.cell?_setCell_other _ _ _ _ (fun e => by injection e with e1 _; omega)).trans h.2.2.2.2.2.2.2.2.2.2.1, by simpa using hl, (e11_bel h).setCell (by simp) y⟩

/-- what a round of a copy of contexts leaves, the row in a variable of the frame. -/
def X7r (w : World) (B : Nat) (fs : List (Nat × Nat × (World → Prop))) (cs : List (List Int × Int × Bool)) (k : Nat) (v : Value) (wr : World) : Prop :=
  ∃ (la : Nat → Option Addr) (lc lb : Nat → Nat) (xs : List Value), CX wr B cs k v la lc lb xs ∧ Mm w wr [] fs ∧ B ≤ wr.heap.size

set_option maxRecDepth 100000 in
set_option maxHeartbeats 16000000 in
theorem copiedSystem_O (A : SA) (D : SD) (w : World) (hm : szY A D ≤ 1048576) (hr : RS w A D) :
    Calls Tryz.prog 119 #[.agg #[.slice A.a A.n A.c, .slice A.ta A.tn A.tc, .slice A.da A.dn A.dc, .slice A.wa A.wn A.wc, .slice A.xa A.xn A.xc, .int .i64 D.ac, .int .i64 D.cz, .slice A.la A.ln A.lc, .int .i64 D.dv, .slice A.oa A.on A.oc, .slice A.ga A.gn A.gc]] w fun e w' => ∃ B : SA, e = .returned (.agg #[.slice B.a B.n B.c, .slice B.ta B.tn B.tc, .slice B.da B.dn B.dc, .slice B.wa B.wn B.wc, .slice B.xa B.xn B.xc, .int .i64 D.ac, .int .i64 D.cz, .slice B.la B.ln B.lc, .int .i64 D.dv, .slice B.oa B.on B.oc, .slice B.ga B.gn B.gc]) ∧ OYR (InR w.heap.size w'.heap.size) B D w' ∧ Below w.heap.size w w' := by
  obtain ⟨za, zn, zc, zta, ztn, ztc, zda, zdn, zdc, zwa, zwn, zwc, zxa, zxn, zxc, zla, zln, zlc, zoa, zon, zoc, zga, zgn, zgc⟩ := A
  unfold szY at hm
  obtain ⟨k0, k1, k2, k3, k4, k5, k6, k7⟩ := hr.len
  have hrt := hr.rt
  have hws := hr.ws
  have hxs := hr.xs
  have hls := hr.ls
  have hos := hr.os
  have hgs := hr.gs
  dsimp only at hm k0 k1 k2 k3 k4 k5 k6 k7 hrt hws hxs hls hos hgs ⊢
  clear hr
  obtain ⟨ix, hix, hzx0, hzx1, hzx2⟩ := info_parts infoContext
  have hmk : (Instr.makeSlice 47 (.int .i64 0) (.int .i64 (zxn : Int))).run Tryz.prog ((w.alloc (.cells #[.slice za zn zc, .slice zta ztn ztc, .slice zda zdn zdc, .slice zwa zwn zwc, .slice zxa zxn zxc, .int .i64 D.ac, .int .i64 D.cz, .slice zla zln zlc, .int .i64 D.dv, .slice zoa zon zoc, .slice zga zgn zgc] 53)).alloc (.cells #[.slice none 0 0, .slice none 0 0, .slice none 0 0, .slice none 0 0, .slice none 0 0, .int .i64 0, .int .i64 0, .slice none 0 0, .int .i64 0, .slice none 0 0, .slice none 0 0] 53)) =
      .ok (.slice (some ⟨w.heap.size + 1 + 1, 0, none⟩) 0 zxn) (((w.alloc (.cells #[.slice za zn zc, .slice zta ztn ztc, .slice zda zdn zdc, .slice zwa zwn zwc, .slice zxa zxn zxc, .int .i64 D.ac, .int .i64 D.cz, .slice zla zln zlc, .int .i64 D.dv, .slice zoa zon zoc, .slice zga zgn zgc] 53)).alloc (.cells #[.slice none 0 0, .slice none 0 0, .slice none 0 0, .slice none 0 0, .slice none 0 0, .int .i64 0, .int .i64 0, .slice none 0 0, .int .i64 0, .slice none 0 0, .slice none 0 0] 53)).alloc (.cells (madeCells #[.slice none 0 0, .int .i64 0, .bool false] (zxn * 3)) 108)) := by
    have h := run_make (P := Tryz.prog) ((w.alloc (.cells #[.slice za zn zc, .slice zta ztn ztc, .slice zda zdn zdc, .slice zwa zwn zwc, .slice zxa zxn zxc, .int .i64 D.ac, .int .i64 D.cz, .slice zla zln zlc, .int .i64 D.dv, .slice zoa zon zoc, .slice zga zgn zgc] 53)).alloc (.cells #[.slice none 0 0, .slice none 0 0, .slice none 0 0, .slice none 0 0, .slice none 0 0, .int .i64 0, .int .i64 0, .slice none 0 0, .int .i64 0, .slice none 0 0, .slice none 0 0] 53)) 47 108 ix (.agg #[.slice none 0 0, .int .i64 0, .bool false]) Tryz.underlying47 hix hzx0 .i64 .i64 0 (zxn : Int) (by omega) (by omega) (by rw [hzx2]; omega) (by omega)
    simpa [hzx1, Value.cells] using h
  have M0 := ((Mm.start w).allocC [.slice za zn zc, .slice zta ztn ztc, .slice zda zdn zdc, .slice zwa zwn zwc, .slice zxa zxn zxc, .int .i64 D.ac, .int .i64 D.cz, .slice zla zln zlc, .int .i64 D.dv, .slice zoa zon zoc, .slice zga zgn zgc] 53).allocC [.slice none 0 0, .slice none 0 0, .slice none 0 0, .slice none 0 0, .slice none 0 0, .int .i64 0, .int .i64 0, .slice none 0 0, .int .i64 0, .slice none 0 0, .slice none 0 0] 53
  simp only [World.size_alloc] at M0
  have hown0 := World.ownsRow_made (base := w.heap.size + 1 + 1) (e := 108) (size := 3) ((w.alloc (.cells #[.slice za zn zc, .slice zta ztn ztc, .slice zda zdn zdc, .slice zwa zwn zwc, .slice zxa zxn zxc, .int .i64 D.ac, .int .i64 D.cz, .slice zla zln zlc, .int .i64 D.dv, .slice zoa zon zoc, .slice zga zgn zgc] 53)).alloc (.cells #[.slice none 0 0, .slice none 0 0, .slice none 0 0, .slice none 0 0, .slice none 0 0, .int .i64 0, .int .i64 0, .slice none 0 0, .int .i64 0, .slice none 0 0, .slice none 0 0] 53)) (madeCells #[.slice none 0 0, .int .i64 0, .bool false] (zxn * 3)) zxn (by simp) (by unfold maxLen; omega) (by rw [size_madeCells])
  simp only [World.size_alloc] at hown0
  have HO0 := hide hown0
  have HM0 := hide (M0.below ((Below.refl _ _).alloc (Nat.le_refl _) (.cells (madeCells #[.slice none 0 0, .int .i64 0, .bool false] (zxn * 3)) 108)))
  clear hown0 M0
  go_enter Tryz.func119, Tryz.ntmps119
  go_wp2
  go_loopw [13, 3] (fun i v wr => ∃ k : Nat, k ≤ zxn ∧ i = .int .i64 k ∧ X7r w (w.heap.size + 1 + 1) [(w.heap.size + 1, w.heap.size + 1 + 1, Cs (w.heap.size + 1) [.slice none 0 0, .slice none 0 0, .slice none 0 0, .slice none 0 0, .slice none 0 0, .int .i64 0, .int .i64 0, .slice none 0 0, .int .i64 0, .slice none 0 0, .slice none 0 0]), (w.heap.size, w.heap.size + 1, Cs w.heap.size [.slice za zn zc, .slice zta ztn ztc, .slice zda zdn zdc, .slice zwa zwn zwc, .slice zxa zxn zxc, .int .i64 D.ac, .int .i64 D.cz, .slice zla zln zlc, .int .i64 D.dv, .slice zoa zon zoc, .slice zga zgn zgc])] D.cs k v wr) (fun i _ _ => zxn - (intOf i).toNat)
  case atStart => exact ⟨0, Nat.zero_le _, rfl, _, _, _, _, CX.start D.cs HO0.out, HM0.out, by simp⟩
  case round =>
    clear HO0 HM0 hmk
    obtain ⟨k, hkn, rfl, la, lc, lb, xs, hcp, M, hB⟩ := hrel
    have HX := hide hcp
    have HM := hide M
    have h6 := M.bel
    clear hcp M
    by_cases hlt : k < zxn
    · obtain ⟨b, off, rfl, hb, hc⟩ := hxs.2 (by omega)
      obtain ⟨ra0, ll, rc0, hc0, hc1, hc2, hll, hsl⟩ := hc k hlt
      have hck0 := (h6.cell (p := ⟨b, off + k * 3, none⟩) hb).trans hc0
      have hck1 := (h6.cell (p := ⟨b, off + k * 3 + 1, none⟩) hb).trans hc1
      have hck2 := (h6.cell (p := ⟨b, off + k * 3 + 2, none⟩) hb).trans hc2
      have hzl : (gx D.cs k).1.length = ll := hsl.1
      have hl2 := gx_le D.cs k (by omega)
      have gW : Below wr.heap.size wr (wr.alloc (.cells #[.slice ra0 ll rc0, .int .i64 (gx D.cs k).2.1, .bool (gx D.cs k).2.2] 108)) := (Below.refl _ _).alloc (Nat.le_refl _) _
      have hsl2 := (hsl.below h6 (Nat.le_refl _)).below gW (Nat.le_refl _)
      clear hc hc0 hc1 hc2 hsl h6
      go_wp2_with fail
      refine (copiedContext_O ra0 ll rc0 (gx D.cs k).2.1 (gx D.cs k).2.2 (gx D.cs k).1 _ (by omega) hsl2).mono ?_
      rintro e wc ⟨rb, rd, rfl, os, gw⟩
      have hC : Below wr.heap.size wr wc := gW.trans (gw.mono gW.size)
      have HO : Hid (OS (InR wr.heap.size wc.heap.size) rb ll (gx D.cs k).1 wc) := OS.mono os (fun q hq => ⟨by have h1 := hq.1; simp at h1; omega, hq.2⟩)
      have HC := hide hC
      have HW2 := hide (owns_out HX.out.own hC)
      have hS1 : wr.heap.size ≤ wc.heap.size := hC.size
      have HN := hide (three_new (W := wc.alloc (.cells #[.slice rb ll rd, .int .i64 (gx D.cs k).2.1, .bool (gx D.cs k).2.2] 108)) (B := wc.heap.size) (u := .slice rb ll rd) (v := .int .i64 (gx D.cs k).2.1) (x := .bool (gx D.cs k).2.2) (by simp) (by simp) (by simp))
      clear os gw hC hck0 hck1 hck2 hsl2 gW
      go_wp2_with (first
        | (at_builtin; refine wpList_append_lies _ rfl _ _ 47 rfl (w.heap.size + 1 + 1) 108 ix (.agg #[.slice none 0 0, .int .i64 0, .bool false]) 3 40 Tryz.underlying47 hix hzx0 hzx1 hzx2 rfl (by decide) u3 k xs rfl (HW2.out.alloc _) ⟨wc.heap.size, 0, none⟩ 1 1 [.slice rb ll rd, .int .i64 (gx D.cs k).2.1, .bool (gx D.cs k).2.2] rfl rfl HN.out (by simp [Value.oneCell']) (by omega) (by unfold maxLen; omega) (by omega) (by simp; omega) (wc.heap.size + 1) (by simp) ?_)
        | go_in)
      intro g cp w3 hown1 hgrow hat _
      obtain ⟨la', lc', lb', hst⟩ := HX.out.step (HC.out.trans (((Below.refl _ _).alloc (Nat.le_refl _) _).mono HC.out.size)) hzl hB ((OS.loc.alloc HO.out _).mono (fun q hq => ⟨hq.1, Nat.lt_of_lt_of_le hq.2 (by simp)⟩)) hgrow (by rw [World.size_alloc]; exact hat) hown1
      have MG := HM.out.grown (HC.out.trans (((Below.refl _ _).alloc (Nat.le_refl _) _).mono HC.out.size)) hgrow (B := w.heap.size + 1 + 1) (by omega) hB (fun q e => (HX.out.own.lt q e).1) (by simp) (by simp <;> omega)
      have HMG := hide MG
      have HST2 := hide hst
      have hz3 := hgrow.size
      clear hown1 hgrow hat MG hst HX HM HO HC HW2 HN
      go_wp2
      go_roundw
      case rel => exact ⟨k + 1, by omega, by go_num, _, _, _, _, HST2.out, HMG.out, by simp at hz3; omega⟩
      case measure => simp [intOf]; omega
    · have ek : zxn = k := by omega
      subst ek
      obtain ⟨ya2, yc2, rfl, ox⟩ := HX.out.ox k4 (by omega)
      have M := HM.out
      have HK := hide (M.get 0 rfl)
      have a0 := (M.get 1 rfl).cell 0 rfl
      have a1 := (M.get 1 rfl).cell 1 rfl
      have a2 := (M.get 1 rfl).cell 2 rfl
      have a3 := (M.get 1 rfl).cell 3 rfl
      have a4 := (M.get 1 rfl).cell 4 rfl
      have a5 := (M.get 1 rfl).cell 5 rfl
      have a6 := (M.get 1 rfl).cell 6 rfl
      have a7 := (M.get 1 rfl).cell 7 rfl
      have a8 := (M.get 1 rfl).cell 8 rfl
      have a9 := (M.get 1 rfl).cell 9 rfl
      have a10 := (M.get 1 rfl).cell 10 rfl
      have HS0 : Hid (wr.drew.cell? ⟨w.heap.size, 0, none⟩ = some (.slice za zn zc) ∧ wr.drew.cell? ⟨w.heap.size, 1, none⟩ = some (.slice zta ztn ztc) ∧ wr.drew.cell? ⟨w.heap.size, 2, none⟩ = some (.slice zda zdn zdc) ∧ wr.drew.cell? ⟨w.heap.size, 3, none⟩ = some (.slice zwa zwn zwc) ∧ wr.drew.cell? ⟨w.heap.size, 4, none⟩ = some (.slice zxa zxn zxc) ∧ wr.drew.cell? ⟨w.heap.size, 5, none⟩ = some (.int .i64 D.ac) ∧ wr.drew.cell? ⟨w.heap.size, 6, none⟩ = some (.int .i64 D.cz) ∧ wr.drew.cell? ⟨w.heap.size, 7, none⟩ = some (.slice zla zln zlc) ∧ wr.drew.cell? ⟨w.heap.size, 8, none⟩ = some (.int .i64 D.dv) ∧ wr.drew.cell? ⟨w.heap.size, 9, none⟩ = some (.slice zoa zon zoc) ∧ wr.drew.cell? ⟨w.heap.size, 10, none⟩ = some (.slice zga zgn zgc) ∧ w.heap.size + 1 < wr.drew.heap.size ∧ Below w.heap.size w wr.drew) := ⟨a0, a1, a2, a3, a4, a5, a6, a7, a8, a9, a10, by show _ < wr.heap.size; omega, h6.drew⟩
      have HOX := hide ox
      clear HX HM hlt M ox h6 a0 a1 a2 a3 a4 a5 a6 a7 a8 a9 a10
      go_wp2_with fail
      go_region_held2 (fun w' => w'.cell? ⟨w.heap.size, 0, none⟩ = some (.slice za zn zc) ∧ w'.cell? ⟨w.heap.size, 1, none⟩ = some (.slice zta ztn ztc) ∧ w'.cell? ⟨w.heap.size, 2, none⟩ = some (.slice zda zdn zdc) ∧ w'.cell? ⟨w.heap.size, 3, none⟩ = some (.slice zwa zwn zwc) ∧ w'.cell? ⟨w.heap.size, 4, none⟩ = some (.slice zxa zxn zxc) ∧ w'.cell? ⟨w.heap.size, 5, none⟩ = some (.int .i64 D.ac) ∧ w'.cell? ⟨w.heap.size, 6, none⟩ = some (.int .i64 D.cz) ∧ w'.cell? ⟨w.heap.size, 7, none⟩ = some (.slice zla zln zlc) ∧ w'.cell? ⟨w.heap.size, 8, none⟩ = some (.int .i64 D.dv) ∧ w'.cell? ⟨w.heap.size, 9, none⟩ = some (.slice zoa zon zoc) ∧ w'.cell? ⟨w.heap.size, 10, none⟩ = some (.slice zga zgn zgc) ∧ w.heap.size + 1 < w'.heap.size ∧ Below w.heap.size w w')
        (first | with_reducible exact HS0.out | (repeat (first | with_reducible assumption | with_reducible refine e11_set ?_ _ _)))
        (first
          | (go_at_call 148; refine (copiedTables_O za zn zc D.ss zta ztn ztc D.ts zda zdn zdc D.ds _ (by omega) (by omega) (by omega) ?_).mono ?_; exact hrt.below (e11_bel HS0.out) (Nat.le_refl _); rintro e v1 ⟨ra, rc, xa, xc, ya, yc, rfl, o1, g1⟩; have h1 := e11_below HS0.out g1; have z1 := g1.size; (try simp only [World.size_drew] at z1 o1); have HK1 := hide (Cs.loc.below ((Below.refl wr.heap.size wr).drew.trans g1) HK.out); have HOX1 := hide (OX.loc.below ((Below.refl wr.heap.size wr).drew.trans g1) HOX.out); have HO1 := hide (o1.otk (Nat.le_refl _)); clear g1 o1)
          | (go_at_call 149; refine (copiedMemory_O zwa zwn zwc D.ws _ (by omega) ?_).mono ?_; exact hws.below (e11_bel h1) (Nat.le_refl _); rintro e v2 ⟨ma, mc, rfl, o2, g2⟩; have h2 := e11_below h1 g2; have z2 := g2.size; have HK2 := hide (Cs.loc.below g2 HK1.out); have HOX2 := hide (OX.loc.below g2 HOX1.out); have HO12 := hide (OTK.loc.below g2 HO1.out); have HO2 := hide o2; clear g2 o2)
          | (go_at_call 150; refine (cloneL_calls zla zln zlc D.ls _ (by omega) ?_).mono ?_; exact hls.below (e11_bel h2) (Nat.le_refl _); rintro e v3 ⟨lv, rfl, own3, g3⟩; obtain ⟨ca, cc, rfl, _⟩ := own_ol (by omega) k5 own3; have h3 := e11_below h2 g3; have z3 := g3.size; have HK3 := hide (Cs.loc.below g3 HK2.out); have HOX3 := hide (OX.loc.below g3 HOX2.out); have HO13 := hide (OTK.loc.below g3 HO12.out); have HO23 := hide (OWd.loc.below g3 HO2.out); have HO3 := hide (own_ol2 (by omega) k5 own3); have HO3K : Hid (OLK (InR v2.heap.size v3.heap.size) ca zln cc D.ls v3) := ⟨HO3.out.1, owns_base own3, fun g e => own3.lt g e⟩; clear g3 own3)
          | (go_at_call 142; refine (clone_R zoa zon zoc D.os _ (by omega) ?_).mono ?_; exact hos.below (e11_bel h3) (Nat.le_refl _); rintro e v4 ⟨ob, oc, rfl, _, o4, g4⟩; have h4 := e11_below h3 g4; have z4 := g4.size; have HK4 := hide (Cs.loc.below g4 HK3.out); have HOX4 := hide (OX.loc.below g4 HOX3.out); have HO14 := hide (OTK.loc.below g4 HO13.out); have HO24 := hide (OWd.loc.below g4 HO23.out); have HO34 := hide (OLK.loc.below g4 HO3K.out); have HO4 := hide o4; clear g4 o4)
          | (go_at_call 151; refine (cloneG_calls zga zgn zgc D.gs _ (by omega) ?_).mono ?_; exact hgs.below (e11_bel h4) (Nat.le_refl _); rintro e v5 ⟨gv, rfl, own5, g5⟩; obtain ⟨ga2, gc2, rfl, og⟩ := own_owd (by omega) k7 own5; have h5 := e11_below h4 g5; have z5 := g5.size; have K5 := Cs.loc.below g5 HK4.out; have HK5 := hide K5; have HOX5 := hide (OX.loc.below g5 HOX4.out); have HO15 := hide (OTK.loc.below g5 HO14.out); have HO25 := hide (OWd.loc.below g5 HO24.out); have HO35 := hide (OLK.loc.below g5 HO34.out); have HO45 := hide (RW.loc.below g5 HO4.out); have HO5 := hide og; have d0 := K5.cell 0 rfl; have f0 := K5.fz 0 (by simp); have d1 := K5.cell 1 rfl; have f1 := K5.fz 1 (by simp); have d2 := K5.cell 2 rfl; have f2 := K5.fz 2 (by simp); have d3 := K5.cell 3 rfl; have f3 := K5.fz 3 (by simp); have d4 := K5.cell 4 rfl; have f4 := K5.fz 4 (by simp); have d5 := K5.cell 5 rfl; have f5 := K5.fz 5 (by simp); have d6 := K5.cell 6 rfl; have f6 := K5.fz 6 (by simp); have d7 := K5.cell 7 rfl; have f7 := K5.fz 7 (by simp); have d8 := K5.cell 8 rfl; have f8 := K5.fz 8 (by simp); have d9 := K5.cell 9 rfl; have f9 := K5.fz 9 (by simp); have d10 := K5.cell 10 rfl; have f10 := K5.fz 10 (by simp); clear g5 own5 og K5))
      have M5 : Mm w v5 [] [(v4.heap.size, v5.heap.size, OWd (InR v4.heap.size v5.heap.size) ga2 zgn D.gs), (v3.heap.size, v4.heap.size, RW (InR v3.heap.size v4.heap.size) ob zon oc D.os), (v2.heap.size, v3.heap.size, OLK (InR v2.heap.size v3.heap.size) ca zln cc D.ls), (w.heap.size + 1 + 1, wr.heap.size, OX (InR (w.heap.size + 1 + 1) wr.heap.size) ya2 zxn D.cs), (v1.heap.size, v2.heap.size, OWd (InR v1.heap.size v2.heap.size) ma zwn D.ws), (wr.heap.size, v1.heap.size, OTK (InR wr.heap.size v1.heap.size) ra zn rc D.ss xa ztn D.ts ya zdn D.ds), (w.heap.size + 1, w.heap.size + 1 + 1, Cs (w.heap.size + 1) [.slice none 0 0, .slice none 0 0, .slice none 0 0, .slice none 0 0, .slice none 0 0, .int .i64 0, .int .i64 0, .slice none 0 0, .int .i64 0, .slice none 0 0, .slice none 0 0])] := ((((((((Mm.start w).below (e11_bel h5)).fact Cs.loc HK5.out).fact OTK.loc HO15.out).fact OWd.loc HO25.out).fact OX.loc HOX5.out).fact OLK.loc HO35.out).fact RW.loc HO45.out).fact OWd.loc HO5.out
      have R_0 := M5.put 6 rfl 0 (by simp) (.slice ra zn rc) (by simp) (by simp) (by simp <;> omega)
      have R_1 := R_0.put 6 rfl 1 (by simp) (.slice xa ztn xc) (by simp) (by simp) (by simp <;> omega)
      have R_2 := R_1.put 6 rfl 2 (by simp) (.slice ya zdn yc) (by simp) (by simp) (by simp <;> omega)
      have R_3 := R_2.put 6 rfl 3 (by simp) (.slice ma zwn mc) (by simp) (by simp) (by simp <;> omega)
      have R_4 := R_3.put 6 rfl 4 (by simp) (.slice ya2 zxn yc2) (by simp) (by simp) (by simp <;> omega)
      have R_5 := R_4.put 6 rfl 5 (by simp) (.int .i64 D.ac) (by simp) (by simp) (by simp <;> omega)
      have R_6 := R_5.put 6 rfl 6 (by simp) (.int .i64 D.cz) (by simp) (by simp) (by simp <;> omega)
      have R_7 := R_6.put 6 rfl 7 (by simp) (.slice ca zln cc) (by simp) (by simp) (by simp <;> omega)
      have R_8 := R_7.put 6 rfl 8 (by simp) (.int .i64 D.dv) (by simp) (by simp) (by simp <;> omega)
      have R_9 := R_8.put 6 rfl 9 (by simp) (.slice ob zon oc) (by simp) (by simp) (by simp <;> omega)
      have R_10 := R_9.put 6 rfl 10 (by simp) (.slice ga2 zgn gc2) (by simp) (by simp) (by simp <;> omega)
      have HR := hide R_10
      have hlk := HO3.out.2
      clear R_10 R_9 R_8 R_7 R_6 R_5 R_4 R_3 R_2 R_1 R_0 M5
      clear h1 h2 h3 h4 h5 HS0 HK HK1 HK2 HK3 HK4 HK5 HOX HOX1 HOX2 HOX3 HOX4 HOX5 HO1 HO12 HO13 HO14 HO15 HO2 HO23 HO24 HO25 HO3 HO3K HO34 HO35 HO4 HO45 HO5
      go_wp2
      have HF := HR.out
      simp only [List.set] at HF
      have y0 := (HF.get 6 rfl).cell 0 rfl
      have y1 := (HF.get 6 rfl).cell 1 rfl
      have y2 := (HF.get 6 rfl).cell 2 rfl
      have y3 := (HF.get 6 rfl).cell 3 rfl
      have y4 := (HF.get 6 rfl).cell 4 rfl
      have y5 := (HF.get 6 rfl).cell 5 rfl
      have y6 := (HF.get 6 rfl).cell 6 rfl
      have y7 := (HF.get 6 rfl).cell 7 rfl
      have y8 := (HF.get 6 rfl).cell 8 rfl
      have y9 := (HF.get 6 rfl).cell 9 rfl
      have y10 := (HF.get 6 rfl).cell 10 rfl
      refine bodyPost_ret (v := .agg #[.slice ra zn rc, .slice xa ztn xc, .slice ya zdn yc, .slice ma zwn mc, .slice ya2 zxn yc2, .int .i64 D.ac, .int .i64 D.cz, .slice ca zln cc, .int .i64 D.dv, .slice ob zon oc, .slice ga2 zgn gc2]) (by simp [results, Tryz.results119, go_sem, y0, y1, y2, y3, y4, y5, y6, y7, y8, y9, y10]) rfl ⟨⟨ra, zn, rc, xa, ztn, xc, ya, zdn, yc, ma, zwn, mc, ya2, zxn, yc2, ca, zln, cc, ob, zon, oc, ga2, zgn, gc2⟩, rfl, ?_, HF.bel⟩
      refine ⟨fun i => if i = 0 then InR (wr.heap.size) (v1.heap.size) else if i = 1 then InR (v1.heap.size) (v2.heap.size) else if i = 2 then InR (w.heap.size + 1 + 1) (wr.heap.size) else if i = 3 then InR (v2.heap.size) (v3.heap.size) else if i = 4 then InR (v3.heap.size) (v4.heap.size) else if i = 5 then InR (v4.heap.size) (v5.heap.size) else fun _ => False, fun i k hk => ?_, fun i j k hij h1 h2 => ?_, by unfold szY; dsimp only; omega, hlk, ⟨(HF.get 5 rfl).1, HF.get 4 rfl, HF.get 3 rfl, (HF.get 2 rfl).1, (HF.get 1 rfl).1, HF.get 0 rfl⟩, HF.get 1 rfl, (HF.get 2 rfl).2, (HF.get 5 rfl).2⟩
      · simp only [World.size_setCell]
        dsimp only at hk
        (repeat (split at hk; (have e1 := hk.1; have e2 := hk.2; exact ⟨by omega, by omega⟩)))
        exact hk.elim
      · dsimp only at h1 h2
        (repeat (split at h1; (have e1 := h1.1; have e2 := h1.2; (repeat (split at h2; first | omega | (have e3 := h2.1; have e4 := h2.2; omega))); exact h2)))
        exact h1

end Go.Proofs.YtgkjmeogdomgmaaGreat
