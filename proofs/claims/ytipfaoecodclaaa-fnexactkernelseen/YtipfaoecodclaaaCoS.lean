import Derived.Test.YtipfaoecodclaaaCoP
import Derived.Test.YtipfaoecodclaaaL1Copy
import Derived.WalkKit
import Derived.ProofKit
import Derived.OpenShut
import Derived.ShutString
import Derived.ChangeOld
import Derived.Below
import Derived.WalkSpells
import Derived.Deep.QuietTactic
import Derived.BigQuiet
import Derived.Deep.RegionWith
import Derived.Deep.WholeRow
import Derived.Deep.DeepCutAuto
import Derived.Deep.RegionHeld2
import Derived.Deep.AppendLies
import Derived.Deep.RegionLaw
namespace Go.Proofs.Ytipfaoecodclaaa
open Go.ChangeShapes Go.WideShapes Go.ChangeAt Go.RowKit

set_option maxRecDepth 100000 in
set_option maxHeartbeats 1000000 in
theorem l1Ints_O (a : Option Addr) (n cap : Nat) (zs : List Int) (w : World) (hn : n ≤ 1048576) (hs : Sl w a n zs) :
    Calls Try.prog 49 #[.slice a n cap] w fun e w' => ∃ ra rc, e = .returned (.slice ra n rc) ∧ n ≤ rc ∧ OS (InR w.heap.size w'.heap.size) ra n zs w' ∧ Below w.heap.size w w' := by
  obtain ⟨hlen, hs⟩ := hs
  obtain ⟨i0, hi, hz0, hz1, hz2⟩ := info_parts info2
  have hb0 := fun o1 => (Below.refl w.heap.size w).alloc (Nat.le_refl _) o1
  by_cases hp : 0 < n
  · obtain ⟨b, off, rfl, hb, hc⟩ := hs hp
    have hown := World.ownsRow_lit (base := w.heap.size) (e := 2) (size := 1) w #[] 0 (Nat.le_refl _) (Nat.zero_le _) rfl
    have hnews := ints_at_sl (w := w.alloc (.cells #[] 2)) (b := b) (off := off) (zs := zs) (fun i hi => ((hb0 _).cell (p := ⟨b, off + i, none⟩) hb).trans (hc i (by omega)))
    have HO := hide hown
    have HN := hide hnews
    have hm1 : 0 + n ≤ maxLen := by unfold maxLen; omega
    have hm2 : (0 + n) * 8 ≤ 140737488355328 := by omega
    have hl1 : (zs.map (Value.int .i64)).length = n * 1 := by simp [hlen]
    have hbs : w.heap.size ≤ (w.alloc (.cells #[] 2)).heap.size := by simp
    have HL := hide hl1
    have HM1 := hide hm1
    have HM2 := hide hm2
    have HBS := hide hbs
    clear hown hnews hs hc hl1 hm1 hm2 hbs
    go_enter Try.func49, Try.ntmps49
    go_wp2_with (first
      | (at_builtin; refine wpList_append_own _ rfl _ _ 25 rfl w.heap.size 2 i0 (.int .i64 0) 1 8 Try.underlying25 hi hz0 hz1 hz2 rfl (by decide) _ 0 [] rfl HO.out ⟨b, off, none⟩ n cap (zs.map (Value.int .i64)) rfl HL.out HN.out ints_one HM1.out HM2.out HBS.out ?_)
      | go_in)
    intro v' w1 hown' hgrow _
    have hown2 : w1.ownsRow w.heap.size 2 1 v' n (zs.map (Value.int .i64)) := by simpa using hown'
    obtain ⟨ra, rc, rfl, fr⟩ := owns_osl hn hown2
    have hcap : n ≤ rc := by
      rcases hown2.2 with ⟨h, h0⟩ | ⟨g, cp, cur, h, _, _, hc, _⟩
      · omega
      · simp only [Value.slice.injEq] at h; omega
    have h1 : Below w.heap.size w w1 := (hb0 _).grown hgrow (by simp) (fun k hk => by simp [Value.ownBlock] at hk; omega)
    have HFR := hide (OS.ofOSl fr)
    have HB1 := hide h1
    clear HO HN hown' hown2 hgrow hb0 fr h1
    go_wp2
    go_ret
    exact ⟨ra, rc, rfl, hcap, HFR.out, HB1.out⟩
  · have h0 : n = 0 := by omega
    subst h0
    cases a
    all_goals
      go_enter Try.func49, Try.ntmps49
      go_wp2
      go_ret
      exact ⟨_, 0, rfl, by omega, ⟨hlen, by omega, .inl rfl⟩, hb0 _⟩

set_option maxRecDepth 100000 in
set_option maxHeartbeats 4000000 in
theorem l11Copy_C (a : Option Addr) (n c : Nat) (xs : List OB) (w : World) (hm : n + lenO xs ≤ 1048576) (hn1 : 0 < n) (hs : Sob w a n xs) :
    Calls Try.prog 26 #[.agg #[.slice a n c]] w fun e w' => ∃ v la lc lb L, e = .returned (.agg #[v]) ∧ CO w' (w.heap.size + 3) (gO xs) n v la lc lb L ∧ Below w.heap.size w w' := by
  obtain ⟨hlen, hs⟩ := hs
  obtain ⟨b, off, rfl, hb, hc⟩ := hs hn1
  obtain ⟨i0, hi, hz0, hz1, hz2⟩ := info_parts infoObject
  have M0 := (((Mm.start w).allocC [.slice (some ⟨b, off, none⟩) n c] 35).allocC [.slice none 0 0] 35).alloc1 (.slice none 0 0) 35
  simp only [World.size_alloc] at M0
  have HM0 := hide M0
  obtain ⟨u, hu⟩ : ∃ u, u = ((w.alloc (.cells #[.slice (some ⟨b, off, none⟩) n c] 35)).alloc (.cells #[.slice none 0 0] 35)).alloc (.cells #[.slice none 0 0] 35) := ⟨_, rfl⟩
  rw [← hu] at HM0
  have zu : u.heap.size = w.heap.size + 3 := by rw [hu]; simp
  have HC0 := hide (CO.start (wr := u) (B := w.heap.size + 3) (gO xs) (World.ownsRow_nil u (w.heap.size + 3) 57 7))
  have HU := hide hu
  have HC := hide hc
  clear M0 hu hs hc
  go_enter Try.func26, Try.ntmps26
  go_upto_region 2 with fail
  rw [← HU.out]
  clear HU
  go_wp2
  go_loopw [4] (fun i wr => ∃ (k : Nat) (v : Value) (la : Nat → Option Addr) (lc lb : Nat → Nat) (L : List Value), k ≤ n ∧ i = .int .i64 (k : Int) ∧ CO wr (w.heap.size + 3) (gO xs) k v la lc lb L ∧ Mm w wr [(w.heap.size + 1 + 1, 0, v)] [(w.heap.size + 1, w.heap.size + 1 + 1, Cs (w.heap.size + 1) [.slice none 0 0]), (w.heap.size, w.heap.size + 1, Cs w.heap.size [.slice (some ⟨b, off, none⟩) n c])]) (fun i _ => n - (intOf i).toNat)
  case atStart => exact ⟨0, _, _, _, _, _, Nat.zero_le _, rfl, HC0.out, HM0.out⟩
  case round =>
    obtain ⟨k, v, la0, lc0, lb0, L, hk, rfl, hco, M⟩ := hrel
    have HCO := hide hco
    have zw : w.heap.size + 3 ≤ wr.heap.size := by have h1 := M.lt 0 rfl; have h2 : w.heap.size + 1 + 1 < wr.heap.size := h1; omega
    have a0 := (M.get 1 rfl).cell 0 rfl
    by_cases hlt : k < n
    · obtain ⟨la, lc, da, dc, h7, hll, hsl, hdl, hsd⟩ := HC.out k hlt
      obtain ⟨r0, r1, r2, r3, r4, r5, r6⟩ := h7.of_block (M.bel.block b hb)
      have hle := gO_le xs k (by omega)
      have HL := hide (hsl.below M.bel (Nat.le_refl _))
      have HD := hide (hsd.below M.bel (Nat.le_refl _))
      have k0 : (0 : Int) ≤ (k : Int) := by omega
      have k1 : (k : Int) < (n : Int) := by omega
      have M1 := M.allocC [.int .i64 (gO xs k).1, .int .i64 (gO xs k).2.1, .int .i64 (gO xs k).2.2.1, .slice la (gO xs k).2.2.2.1.length lc, .int .i64 (gO xs k).2.2.2.2.1, .int .i64 (gO xs k).2.2.2.2.2.1, .slice da (gO xs k).2.2.2.2.2.2.length dc] 57
      have g1 : Below wr.heap.size wr (wr.alloc (.cells #[.int .i64 (gO xs k).1, .int .i64 (gO xs k).2.1, .int .i64 (gO xs k).2.2.1, .slice la (gO xs k).2.2.2.1.length lc, .int .i64 (gO xs k).2.2.2.2.1, .int .i64 (gO xs k).2.2.2.2.2.1, .slice da (gO xs k).2.2.2.2.2.2.length dc] 57)) := (Below.refl _ _).alloc (Nat.le_refl _) _
      have HM1 := hide M1
      have HMR := hide M
      have HG1 := hide g1
      have hl2 : (gO xs k).2.2.2.1.length ≤ 1048576 := by omega
      have hd2 : (gO xs k).2.2.2.2.2.2.length ≤ 1048576 := by omega
      clear M1 g1 M hco h7 hsl hsd
      go_wp2_with fail
      refine (l1Copy_O la _ lc (gO xs k).2.2.2.1 _ hl2 (HL.out.below HG1.out (Nat.le_refl _))).mono ?_
      rintro e w2 ⟨ra, rc, rfl, o1, g2⟩
      have z2 := g2.size
      simp only [World.size_alloc] at z2 o1
      have M2 := HM1.out.below g2
      have P3 := M2.put 0 rfl 3 (by simp) (.slice ra (gO xs k).2.2.2.1.length rc) (by omega) (by simp <;> omega) (by simp <;> omega)
      simp only [List.set] at P3
      have q3 := (M2.get 0 rfl).cell 3 rfl
      have f3 := (M2.get 0 rfl).fz 3 (by simp)
      have q6 := (M2.get 0 rfl).cell 6 rfl
      have HP3 := hide P3
      have HG2 := hide (HG1.out.trans (g2.mono HG1.out.size))
      have HO1 := hide o1
      clear M2 P3 HM1 g2 o1 r0 r1 r2 r3 r4 r5 r6 a0
      go_wp2_with fail
      refine (l1Ints_O da _ dc (gO xs k).2.2.2.2.2.2 _ hd2 (HD.out.below (HG2.out.setCell (p := ⟨wr.heap.size, 3, none⟩) (Nat.le_refl _) _) (Nat.le_refl _))).mono ?_
      rintro e w3 ⟨rb, rd, rfl, _, o2, g3⟩
      have z3 := g3.size
      simp only [World.size_setCell] at z3 o2
      have HG3 := hide ((HG2.out.setCell (p := ⟨wr.heap.size, 3, none⟩) (Nat.le_refl _) (.slice ra (gO xs k).2.2.2.1.length rc)).trans (g3.mono (by have := HG2.out.size; simp; omega)))
      have M3 := HP3.out.below g3
      obtain ⟨b1, ob1, hb1⟩ := HO1.out.one
      obtain ⟨b2, ob2, hb2⟩ := o2.one
      have s6 := (M3.get 0 rfl).cell 6 rfl
      have f6 := (M3.get 0 rfl).fz 6 (by simp)
      have P6 := M3.put 0 rfl 6 (by simp) (.slice rb (gO xs k).2.2.2.2.2.2.length rd) (by omega) (by simp <;> omega) (by simp <;> omega)
      simp only [List.set] at P6
      obtain ⟨Y, hY⟩ : ∃ Y, Y = w3.setCell ⟨wr.heap.size, 6, none⟩ (.slice rb (gO xs k).2.2.2.2.2.2.length rd) := ⟨_, rfl⟩
      have zY : Y.heap.size = w3.heap.size := by rw [hY]; simp
      have hGY : Below wr.heap.size wr Y := by rw [hY]; exact HG3.out.setCell (Nat.le_refl _) _
      have o1Y : OS (fun q => q = b1 ∧ 0 < (gO xs k).2.2.2.1.length) ra (gO xs k).2.2.2.1.length (gO xs k).2.2.2.1 Y := by
        rw [hY]
        exact OS.loc.setC (OS.loc.below g3 (OS.loc.setC ob1 (fun e => by have h1 := hb1 e.2; have h2 := e.1; simp at h2; omega) _)) (fun e => by have h1 := hb1 e.2; have h2 := e.1; simp at h2; omega) _
      have o2Y : OS (fun q => q = b2 ∧ 0 < (gO xs k).2.2.2.2.2.2.length) rb (gO xs k).2.2.2.2.2.2.length (gO xs k).2.2.2.2.2.2 Y := by
        rw [hY]
        exact OS.loc.setC ob2 (fun e => by have h1 := hb2 e.2; have h2 := e.1; simp at h2; omega) _
      rw [← hY] at P6
      obtain ⟨t0, t1, t2, t3, t4, t5, t6⟩ : _ ∧ _ ∧ _ ∧ _ ∧ _ ∧ _ ∧ _ := ⟨(P6.get 0 rfl).cell 0 rfl, (P6.get 0 rfl).cell 1 rfl, (P6.get 0 rfl).cell 2 rfl, (P6.get 0 rfl).cell 3 rfl, (P6.get 0 rfl).cell 4 rfl, (P6.get 0 rfl).cell 5 rfl, (P6.get 0 rfl).cell 6 rfl⟩
      have dv := P6.cell 0 rfl
      have hbx : Below Y.heap.size Y (Y.alloc (.cells #[.int .i64 (gO xs k).1, .int .i64 (gO xs k).2.1, .int .i64 (gO xs k).2.2.1, .slice ra (gO xs k).2.2.2.1.length rc, .int .i64 (gO xs k).2.2.2.2.1, .int .i64 (gO xs k).2.2.2.2.2.1, .slice rb (gO xs k).2.2.2.2.2.2.length rd] 57)) := (Below.refl _ _).alloc (Nat.le_refl _) _
      have hX : Below wr.heap.size wr (Y.alloc (.cells #[.int .i64 (gO xs k).1, .int .i64 (gO xs k).2.1, .int .i64 (gO xs k).2.2.1, .slice ra (gO xs k).2.2.2.1.length rc, .int .i64 (gO xs k).2.2.2.2.1, .int .i64 (gO xs k).2.2.2.2.2.1, .slice rb (gO xs k).2.2.2.2.2.2.length rd] 57)) := hGY.trans (hbx.mono hGY.size)
      have HX := hide hX
      have HOW := hide (HCO.out.below hX).own
      have HNW : Hid (∀ j y, (v7 (gO xs k) ra rc rb rd)[j]? = some y → (Y.alloc (.cells #[.int .i64 (gO xs k).1, .int .i64 (gO xs k).2.1, .int .i64 (gO xs k).2.2.1, .slice ra (gO xs k).2.2.2.1.length rc, .int .i64 (gO xs k).2.2.2.2.1, .int .i64 (gO xs k).2.2.2.2.2.1, .slice rb (gO xs k).2.2.2.2.2.2.length rd] 57)).cell? ((Addr.mk Y.heap.size 0 none).add j) = some y) := World.news_of_block (t := 57) (fr := (0, 0)) (heap_alloc_new Y _)
      have H1 := hide (OS.loc.below hbx o1Y)
      have H2 := hide (OS.loc.below hbx o2Y)
      have HY := hide hY
      have HZY := hide zY
      have zX : w.heap.size + 3 ≤ (Y.alloc (.cells #[.int .i64 (gO xs k).1, .int .i64 (gO xs k).2.1, .int .i64 (gO xs k).2.2.1, .slice ra (gO xs k).2.2.2.1.length rc, .int .i64 (gO xs k).2.2.2.2.1, .int .i64 (gO xs k).2.2.2.2.2.1, .slice rb (gO xs k).2.2.2.2.2.2.length rd] 57)).heap.size := by simp; omega
      clear zY M3 P6 HP3 g3 o2 hY hGY o1Y o2Y ob1 ob2 hbx hX HG3 HG2 HO1 HL HD q3 q6 f3
      go_upto_region 8 with fail
      rw [← HY.out]
      clear HY s6 f6
      go_wp2_with (first
        | (at_builtin; go_loud (refine wpList_append_lies _ rfl _ _ 30 rfl (w.heap.size + 3) 57 i0 (.agg #[.int .i64 0, .int .i64 0, .int .i64 0, .slice none 0 0, .int .i64 0, .int .i64 0, .slice none 0 0]) 7 88 Try.underlying30 hi hz0 hz1 hz2 rfl (by decide) v k L rfl HOW.out ⟨Y.heap.size, 0, none⟩ 1 1 (v7 (gO xs k) ra rc rb rd) rfl rfl HNW.out (v7_one _ _ _ _ _) (by omega) (by unfold maxLen; omega) (by omega) zX (Y.heap.size + 1) (by simp) ?_))
        | go_in)
      intro g cp w5 hown5 hg5 hat5 hlt5
      have zY := HZY.out
      have hvl : ∀ q, v.ownBlock = some q → w.heap.size + 3 ≤ q ∧ q < wr.heap.size := fun q e => HCO.out.own.lt q e
      obtain ⟨la', lc', lb', hc5, _⟩ := HCO.out.push HX.out H1.out H2.out
        (fun hp => ⟨by have := hb1 hp; omega, by have := hb1 hp; simp; omega, fun e => by have h1 := hvl b1 e; have h2 := hb1 hp; omega, fun q hq hl => by have h1 := HCO.out.ge q hq hl; have h2 := hb1 hp; omega⟩)
        (fun hp => ⟨by have := hb2 hp; omega, by have := hb2 hp; simp; omega, fun e => by have h1 := hvl b2 e; have h2 := hb2 hp; omega, fun q hq hl => by have h1 := HCO.out.ge q hq hl; have h2 := hb2 hp; omega⟩)
        (fun h1 h2 => by have := hb1 h1; have := hb2 h2; omega) hg5 (hat5.imp id (fun e => by rw [e]; simp)) hown5
      have M5 := HMR.out.grownN HX.out hg5 (B := w.heap.size + 3) (by omega) (by omega) (fun q e => (hvl q e).1) (by simp) (by simp <;> omega)
      have e0 := M5.cell 0 rfl
      have fe0 := M5.fz 0 rfl
      have HM5 := hide (M5.set 0 rfl (.slice (some ⟨g, 0, none⟩) (k + 1) cp) (by omega) (by simp) (by simp <;> omega))
      have HC5 := hide (hc5.setC (P := w.heap.size + 1 + 1) (o := 0) (by omega) (.slice (some ⟨g, 0, none⟩) (k + 1) cp))
      clear zY M5 hc5 hown5 hg5 hat5 hlt5 hvl t0 t1 t2 t3 t4 t5 t6 dv
      go_wp2
      go_roundw
      case rel => exact ⟨k + 1, _, la', lc', lb', _, by omega, by go_num, HC5.out, HM5.out⟩
      case measure => simp [intOf]; omega
    · obtain rfl : k = n := by omega
      have d0 := (M.get 0 rfl).cell 0 rfl
      have f0 := (M.get 0 rfl).fz 0 (by simp)
      obtain ⟨g, cc, rfl, _, _, _⟩ := hco.form hn1
      have cv := M.cell 0 rfl
      have HB := hide M.bel
      have HF := hide (hco.setC (P := w.heap.size + 1) (o := 0) (by omega) (.slice (some ⟨g, 0, none⟩) k cc))
      clear hco M
      go_wp2
      refine bodyPost_ret (v := .agg #[.slice (some ⟨g, 0, none⟩) k cc]) (by simp [results, Try.results26, go_sem, d0]) rfl ⟨_, la0, lc0, lb0, L, rfl, HF.out, HB.out.setCell (by simp) _⟩

end Go.Proofs.Ytipfaoecodclaaa
