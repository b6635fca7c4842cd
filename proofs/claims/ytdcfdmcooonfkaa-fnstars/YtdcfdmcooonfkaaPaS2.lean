import Derived.Test.YtdcfdmcooonfkaaPaS
import Derived.Test.YtdcfdmcooonfkaaPaT
import Derived.WalkKit
import Derived.ProofKit
import Derived.OpenShut
import Derived.ShutString
import Derived.ChangeOld
import Derived.Below
import Derived.WalkSpells
import Derived.Deep.QuietTactic
import Derived.BigQuiet
import Derived.Deep.RegionWith
import Derived.Deep.WholeRow
import Derived.Deep.DeepCutAuto
import Derived.Deep.RegionHeld2
import Derived.Deep.AppendLies
import Derived.Deep.RegionLaw
namespace Go.Proofs.Ytdcfdmcooonfkaa
open Go.ChangeShapes Go.WideShapes Go.ChangeAt Go.RowKit

theorem mix4e (f : Int → Int → Int) {xs : List Int} (ys : List Int) (h : xs.length = 4) : mix f xs ys = (List.range 4).map (fun j => f (gt xs j) (gt ys j)) := by unfold mix; rw [h]

/-- two labels joined, of which the first k levels are done: what is owned on either side has its star. -/
def enK (k : Nat) (xs ys : List Int) : List Int := (List.range 4).map (fun j => if j < k then ent (gt xs j) (gt ys j) else max (gt xs j) (gt ys j))

theorem length_enK (k : Nat) (xs ys : List Int) : (enK k xs ys).length = 4 := by simp [enK]

theorem enK_start {xs : List Int} (ys : List Int) (h : xs.length = 4) : enK 0 xs ys = mix max xs ys := by simp [enK, mix, h]

theorem enK_end {xs : List Int} (ys : List Int) (h : xs.length = 4) : enK 4 xs ys = mix ent xs ys := by
  unfold enK
  rw [mix4e ent ys h]
  exact List.map_congr_left (fun j hj => if_pos (by simpa using hj))

theorem ent_star {x g : Int} (h : x = 0 ∨ g = 0) : ent x g = 0 := by
  unfold ent td
  rcases h with h | h
  · subst h; split <;> rfl
  · rw [if_pos h]

theorem ent_same {x g : Int} (h : x ≠ 0) (h2 : g ≠ 0) : ent x g = max x g := by unfold ent td; rw [if_neg h2, if_neg h]

theorem enK_star {k : Nat} {xs : List Int} (ys : List Int) (hk : k < 4) (h : gt xs k = 0 ∨ gt ys k = 0) : (enK k xs ys).set k 0 = enK (k + 1) xs ys := by
  have he := ent_star h
  obtain rfl | rfl | rfl | rfl : k = 0 ∨ k = 1 ∨ k = 2 ∨ k = 3 := by omega
  all_goals simp [enK, he, List.range, List.range.loop]

theorem enK_same {k : Nat} {xs : List Int} (ys : List Int) (hk : k < 4) (h : gt xs k ≠ 0) (h2 : gt ys k ≠ 0) : enK k xs ys = enK (k + 1) xs ys := by
  have he := ent_same h h2
  obtain rfl | rfl | rfl | rfl : k = 0 ∨ k = 1 ∨ k = 2 ∨ k = 3 := by omega
  all_goals simp [enK, he, List.range, List.range.loop]

theorem epC_psF {z y x : List Int} (h : psF z y ≠ 0) : epC z y x = psF z y := if_neg h

theorem epC_who {z y x : List Int} (h : psF z y = 0) (h2 : fault x ≠ 0) : epC z y x = fault x := by unfold epC; rw [if_pos h, if_neg h2]

theorem epC_den {z y x : List Int} (h : psF z y = 0) (h2 : fault x = 0) (h3 : belowB x y = false) : epC z y x = 6 := by unfold epC; rw [if_pos h, if_pos h2, h3]; rfl

theorem epC_ok {z y x : List Int} (h : psF z y = 0) (h2 : fault x = 0) (h3 : belowB x y = true) : epC z y x = 0 := by unfold epC; rw [if_pos h, if_pos h2, h3]; rfl

theorem epL_no {z y x : List Int} (h : epC z y x ≠ 0) : epL z y x = [] := if_neg h

theorem epL_ok {z y x : List Int} (h : epC z y x = 0) : epL z y x = mix ent x z := if_pos h

theorem osNil (S : Nat → Prop) (w : World) : OS S none 0 [] w := ⟨rfl, by omega, .inl rfl⟩

theorem Blk.past {w : World} {b : Nat} {zs : List Int} (h : Blk w b zs) (o : Obj) : Blk (w.alloc o) b zs := h.below ((Below.refl _ _).alloc (Nat.le_refl _) o)

set_option maxRecDepth 100000 in
set_option maxHeartbeats 4000000 in
theorem specEnterPass_calls (a : Option Addr) (n c : Nat) (z : List Int) (b : Option Addr) (m d : Nat) (y : List Int) (q : Option Addr) (l k : Nat) (x : List Int) (w : World) (hr : PR w a n z b m y) (hl : l ≤ maxLen) (hs : Sl w q l x) :
    Calls Try.prog 20 #[.agg #[.slice a n c, .slice b m d], .agg #[.slice q l k]] w fun e w' => ∃ ra rn rc, e = .returned (.agg #[.int .i64 (epC z y x), .slice ra rn rc]) ∧ OS (InR w.heap.size w'.heap.size) ra rn (epL z y x) w' ∧ Below w.heap.size w w' := by
  have M0 := (((Mm.start w).allocC [.slice a n c, .slice b m d] 28).allocC [.slice q l k] 26).allocC [.int .i64 0, .slice none 0 0] 32
  simp only [World.size_alloc] at M0
  have c0 := (M0.get 2 rfl).cell 0 rfl
  have c1 := (M0.get 2 rfl).cell 1 rfl
  have hr0 := hr.below M0.bel (Nat.le_refl _)
  have hs0 := hs.below M0.bel (Nat.le_refl _)
  have HF := hide (l13Fault_calls _ a n c z b m d y _ c0 c1 hr0)
  clear c0 c1
  go_enter Try.func20, Try.ntmps20
  go_wp2_with fail
  refine HF.out.mono ?_
  rintro e w1 ⟨rfl, g1⟩
  have M1 := M0.below g1
  have hr1 := hr0.below g1 (Nat.le_refl _)
  have hs1 := hs0.below g1 (Nat.le_refl _)
  have z1 := g1.size
  simp only [World.size_alloc] at z1
  clear g1 HF M0 hr0 hs0
  by_cases h1 : psF z y = 0
  rotate_left
  · have HC := hide (epC_psF (x := x) h1)
    have HN : Hid (epL z y x = []) := epL_no (by rw [HC.out]; exact h1)
    have e1 : (psF z y != 0) = true := by simpa using h1
    clear h1
    have r0 := (M1.get 0 rfl).cell 0 rfl
    have r1 := (M1.get 0 rfl).cell 1 rfl
    have f0 := (M1.get 0 rfl).fz 0 (by simp)
    have f1 := (M1.get 0 rfl).fz 1 (by simp)
    have HB := hide M1.bel
    clear M1
    go_wp2
    refine bodyPost_ret (v := .agg #[.int .i64 (psF z y), .slice none 0 0]) (by simp [results, Try.results20, go_sem, r0, r1]) rfl ⟨none, 0, 0, by rw [HC.out], ?_, (HB.out.setCell (by simp <;> omega) _).setCell (by simp <;> omega) _⟩
    rw [HN.out]
    exact osNil _ _
  have e1 : (psF z y != 0) = false := by simp [h1]
  have d0 := (M1.get 1 rfl).cell 0 rfl
  have H1 := hide h1
  clear h1
  go_wp2_with fail
  refine (l1FaultO_calls _ 0 q l k x _ hl (by omega) d0 hs1).mono ?_
  rintro e w2 ⟨rfl, g2⟩
  have M2 := M1.below g2
  have hr2 := hr1.below g2 (Nat.le_refl _)
  have hs2 := hs1.below g2 (Nat.le_refl _)
  have z2 := g2.size
  clear g2 M1 hr1 hs1 d0
  by_cases h2 : fault x = 0
  rotate_left
  · have HC := hide (epC_who H1.out h2)
    have HN : Hid (epL z y x = []) := epL_no (by rw [HC.out]; exact h2)
    have e2 : (fault x != 0) = true := by simpa using h2
    clear h2
    have r0 := (M2.get 0 rfl).cell 0 rfl
    have r1 := (M2.get 0 rfl).cell 1 rfl
    have f0 := (M2.get 0 rfl).fz 0 (by simp)
    have f1 := (M2.get 0 rfl).fz 1 (by simp)
    have HB := hide M2.bel
    clear M2
    go_wp2
    refine bodyPost_ret (v := .agg #[.int .i64 (fault x), .slice none 0 0]) (by simp [results, Try.results20, go_sem, r0, r1]) rfl ⟨none, 0, 0, by rw [HC.out], ?_, (HB.out.setCell (by simp <;> omega) _).setCell (by simp <;> omega) _⟩
    rw [HN.out]
    exact osNil _ _
  have e2 : (fault x != 0) = false := by simp [h2]
  obtain rfl := fault_len4 h2 hs2
  obtain rfl := fault_len4 (psF_zero H1.out).2 hr2.hy
  obtain rfl := fault_len4 (psF_zero H1.out).1 hr2.hz
  have H2 := hide h2
  have hxl0 := hs.1
  obtain ⟨_, hxc⟩ := hs
  obtain ⟨xb, xo, rfl, hxb, hxc⟩ := hxc (by omega)
  obtain ⟨_, ⟨_, hzc⟩, _, _⟩ := hr
  obtain ⟨zb, zo, rfl, hzb, hzc⟩ := hzc (by omega)
  have d0 := (M2.get 1 rfl).cell 0 rfl
  have c1 := (M2.get 2 rfl).cell 1 rfl
  clear h2
  go_wp2_with fail
  refine (l1BelowO_calls _ 0 _ 1 _ b k d x y _ (by omega) (by omega) d0 c1 hs2 hr2.hy).mono ?_
  rintro e w3 ⟨rfl, g3⟩
  have M3 := M2.below g3
  have hz3 := hr2.hz.below g3 (Nat.le_refl _)
  have hs3 := hs2.below g3 (Nat.le_refl _)
  have z3 := g3.size
  clear g3 M2 hr2 hs2 d0 c1
  cases h3 : belowB x y with
  | false =>
    have HC := hide (epC_den H1.out H2.out h3)
    have HN : Hid (epL z y x = []) := epL_no (by rw [HC.out]; decide)
    clear h3
    have r0 := (M3.get 0 rfl).cell 0 rfl
    have r1 := (M3.get 0 rfl).cell 1 rfl
    have f0 := (M3.get 0 rfl).fz 0 (by simp)
    have f1 := (M3.get 0 rfl).fz 1 (by simp)
    have HB := hide M3.bel
    clear M3
    go_wp2
    refine bodyPost_ret (v := .agg #[.int .i64 (6), .slice none 0 0]) (by simp [results, Try.results20, go_sem, r0, r1]) rfl ⟨none, 0, 0, by rw [HC.out], ?_, (HB.out.setCell (by simp <;> omega) _).setCell (by simp <;> omega) _⟩
    rw [HN.out]
    exact osNil _ _
  | true =>
    have HC := hide (epC_ok H1.out H2.out h3)
    have HN := hide (epL_ok HC.out)
    have d0 := (M3.get 1 rfl).cell 0 rfl
    have c0 := (M3.get 2 rfl).cell 0 rfl
    clear h3
    go_wp2_with fail
    refine (l1JoinO_calls _ 0 _ _ _ 4 k c x z _ (by omega) (by omega) (by omega) d0 c0 hs3 hz3).mono ?_
    rintro e w4 ⟨ra, rc, rfl, o4, g4⟩
    obtain ⟨_, _, h4 | ⟨bb, rfl, hbb, blk⟩⟩ := OS.ofOSl o4
    · omega
    have z4 := g4.size
    have hb1 := hbb.1
    have hb2 := hbb.2
    have hz4 := hz3.below g4 (Nat.le_refl _)
    have M4 := (M3.below g4).allocC [.slice (some ⟨bb, 0, none⟩) 4 rc] 26
    have blk1 := blk.below ((Below.refl w4.heap.size w4).alloc (Nat.le_refl _) (.cells #[.slice (some ⟨bb, 0, none⟩) 4 rc] 26))
    rw [← enK_start z hxl0] at blk1
    have HM4 := hide M4
    have HBk := hide blk1
    clear M3 M4 g4 o4 blk blk1 hbb hz3 hs3 hz4 d0 c0
    go_wp2
    go_loopw [8] (fun i wr => ∃ j : Nat, j ≤ 4 ∧ i = .int .i64 j ∧ Blk wr bb (enK j x z) ∧ OutS (fun g => g = bb) (w4.alloc (.cells #[.slice (some ⟨bb, 0, none⟩) 4 rc] 26)) wr) (fun i _ => 4 - (intOf i).toNat)
    case atStart => exact ⟨0, Nat.zero_le _, rfl, HBk.out, OutS.refl _ _⟩
    case round =>
      obtain ⟨j, hj, rfl, blk, oS⟩ := hrel
      have M5 := HM4.out.out (B := bb) (T := bb + 1) (oS.mono (fun g hg => by subst hg; exact ⟨Nat.le_refl _, Nat.lt_succ_self _⟩)) (by omega) (by simp) (by simp <;> omega)
      have v0 := (M5.get 0 rfl).cell 0 rfl
      have q0 := (M5.get 2 rfl).cell 0 rfl
      have p0 := (M5.get 3 rfl).cell 0 rfl
      have r0 := (M5.get 1 rfl).cell 0 rfl
      have r1 := (M5.get 1 rfl).cell 1 rfl
      have f0 := (M5.get 1 rfl).fz 0 (by simp)
      have f1 := (M5.get 1 rfl).fz 1 (by simp)
      have HB5 := hide M5.bel
      clear M5
      by_cases hlt : j < 4
      · have cx := (HB5.out.cell (p := ⟨xb, xo + j, none⟩) hxb).trans (hxc j hlt)
        have cz := (HB5.out.cell (p := ⟨zb, zo + j, none⟩) hzb).trans (hzc j hlt)
        have hki : (j : Int) < 4 := by omega
        have bc := blk.2.1 j (by rw [length_enK]; exact hlt)
        have bf := blk.2.2 j
        by_cases h0 : gt x j = 0
        · have e0 : (gt x j == 0) = true := by simp [h0]
          have HBs : Hid (Blk (wr.setCell ⟨bb, j, none⟩ (.int .i64 0)) bb (enK (j + 1) x z)) := by show Blk _ _ _; rw [← enK_star z hlt (.inl h0)]; exact blk_store blk (by rw [length_enK]; exact hlt)
          have HO := hide (oS.setCell (p := ⟨bb, j, none⟩) rfl (.int .i64 0))
          clear oS blk h0
          go_wp2
          go_roundw
          case rel => exact ⟨j + 1, by omega, by go_num, HBs.out, HO.out⟩
          case measure => simp [intOf]; omega
        · have e0 : (gt x j == 0) = false := by simp [h0]
          by_cases h1 : gt z j = 0
          · have e1 : (gt z j == 0) = true := by simp [h1]
            have HBs : Hid (Blk (wr.setCell ⟨bb, j, none⟩ (.int .i64 0)) bb (enK (j + 1) x z)) := by show Blk _ _ _; rw [← enK_star z hlt (.inr h1)]; exact blk_store blk (by rw [length_enK]; exact hlt)
            have HO := hide (oS.setCell (p := ⟨bb, j, none⟩) rfl (.int .i64 0))
            clear oS blk h0 h1
            go_wp2
            go_roundw
            case rel => exact ⟨j + 1, by omega, by go_num, HBs.out, HO.out⟩
            case measure => simp [intOf]; omega
          · have e1 : (gt z j == 0) = false := by simp [h1]
            have HBs : Hid (Blk wr bb (enK (j + 1) x z)) := by show Blk _ _ _; rw [← enK_same z hlt h0 h1]; exact blk
            have HO := hide oS
            clear oS blk h0 h1
            go_wp2
            go_roundw
            case rel => exact ⟨j + 1, by omega, by go_num, HBs.out, HO.out⟩
            case measure => simp [intOf]; omega
      · obtain rfl : j = 4 := by omega
        rw [enK_end z hxl0] at blk
        have HBs := hide blk
        have zr := oS.size
        simp only [World.size_alloc] at zr
        have HLn : Hid ((mix ent x z).length = 4) := (length_mix ent x z).trans hxl0
        have lb := blk.1
        clear blk oS
        go_wp2
        refine bodyPost_ret (v := .agg #[.int .i64 0, .slice (some ⟨bb, 0, none⟩) 4 rc]) (by simp [results, Try.results20, go_sem, r0, r1]) rfl ⟨_, _, _, by rw [HC.out], ?_, (HB5.out.setCell (by simp <;> omega) _).setCell (by simp <;> omega) _⟩
        rw [HN.out]
        exact OS.ofBlk ((HBs.out.setCell (by show w.heap.size + 2 ≠ _; omega) _).setCell (by show w.heap.size + 2 ≠ _; omega) _) ⟨by omega, by simpa using lb⟩ HLn.out (by omega)

theorem tlC_who {x y : List Int} (h : fault x ≠ 0) : tlC x y = fault x := if_neg h

theorem tlC_thg {x y : List Int} (h : fault x = 0) : tlC x y = thgF y := if_pos h

theorem tlL_no {x y : List Int} (h : tlC x y ≠ 0) : tlL x y = [] := if_neg h

theorem tlL_ok {x y : List Int} (h : tlC x y = 0) : tlL x y = mix td x y := if_pos h

theorem tlC_both {x y : List Int} (h : both x y ≠ 0) : tlC x y = both x y := by
  unfold both at h ⊢
  by_cases hx : fault x = 0
  · rw [if_pos hx] at h ⊢
    rw [tlC_thg hx]; exact if_pos h
  · rw [if_neg hx]; exact tlC_who hx

theorem tlC_form {x y : List Int} (h : both x y = 0) (ht : thing0 y = false) : tlC x y = 1 := by
  have hx : fault x = 0 := by unfold both at h; split at h <;> simp_all
  have hy : fault y = 0 := by unfold both at h; rw [if_pos hx] at h; exact h
  rw [tlC_thg hx]; unfold thgF; rw [if_neg (by simp [hy]), if_pos ht]

theorem tlC_ok {x y : List Int} (h : both x y = 0) (ht : thing0 y = true) : tlC x y = 0 := by
  have hx : fault x = 0 := by unfold both at h; split at h <;> simp_all
  have hy : fault y = 0 := by unfold both at h; rw [if_pos hx] at h; exact h
  rw [tlC_thg hx]; unfold thgF; rw [if_neg (by simp [hy]), if_neg (by simp [ht])]

theorem both_zz {x y : List Int} (h : both x y = 0) : fault x = 0 ∧ fault y = 0 := by
  have hx : fault x = 0 := by unfold both at h; split at h <;> simp_all
  exact ⟨hx, by unfold both at h; rw [if_pos hx] at h; exact h⟩

set_option maxRecDepth 100000 in
set_option maxHeartbeats 4000000 in
theorem specTaintLabel_calls (a : Option Addr) (n c : Nat) (z : List Int) (b : Option Addr) (m d : Nat) (y : List Int) (w : World) (hn : n ≤ maxLen) (hz : Sl w a n z) (hm : m ≤ maxLen) (hy : Sl w b m y) :
    Calls Try.prog 14 #[.agg #[.slice a n c], .agg #[.slice b m d]] w fun e w' => ∃ ra rn rc, e = .returned (.agg #[.int .i64 (tlC z y), .slice ra rn rc]) ∧ OS (InR w.heap.size w'.heap.size) ra rn (tlL z y) w' ∧ Below w.heap.size w w' := by
  have M0 := (((Mm.start w).allocC [.slice a n c] 26).allocC [.slice b m d] 26).allocC [.int .i64 0, .slice none 0 0] 32
  simp only [World.size_alloc] at M0
  have c0 := (M0.get 2 rfl).cell 0 rfl
  have c1 := (M0.get 1 rfl).cell 0 rfl
  have hz0 := hz.below M0.bel (Nat.le_refl _)
  have hy0 := hy.below M0.bel (Nat.le_refl _)
  clear hz hy
  go_enter Try.func14, Try.ntmps14
  go_wp2_with fail
  refine (l1BothO_calls _ 0 _ 0 a b n c m d z y _ hn hm (by simp <;> omega) (by simp <;> omega) c0 c1 hz0 hy0).mono ?_
  rintro e w1 ⟨rfl, g1⟩
  have M1 := M0.below g1
  have hz1 := hz0.below g1 (Nat.le_refl _)
  have hy1 := hy0.below g1 (Nat.le_refl _)
  have z1 := g1.size
  simp only [World.size_alloc] at z1
  clear g1 M0 hz0 hy0 c0 c1
  by_cases h1 : both z y = 0
  rotate_left
  · have HC := hide (tlC_both h1)
    have HN : Hid (tlL z y = []) := tlL_no (by rw [HC.out]; exact h1)
    have e1 : (both z y != 0) = true := by simpa using h1
    clear h1
    have r0 := (M1.get 0 rfl).cell 0 rfl
    have r1 := (M1.get 0 rfl).cell 1 rfl
    have f0 := (M1.get 0 rfl).fz 0 (by simp)
    have f1 := (M1.get 0 rfl).fz 1 (by simp)
    have HB := hide M1.bel
    clear M1
    go_wp2
    refine bodyPost_ret (v := .agg #[.int .i64 (both z y), .slice none 0 0]) (by simp [results, Try.results14, go_sem, r0, r1]) rfl ⟨none, 0, 0, by rw [HC.out], ?_, (HB.out.setCell (by simp <;> omega) _).setCell (by simp <;> omega) _⟩
    rw [HN.out]
    exact osNil _ _
  have e1 : (both z y != 0) = false := by simp [h1]
  obtain rfl := fault_len4 (both_zz h1).1 hz1
  obtain rfl := fault_len4 (both_zz h1).2 hy1
  have c1 := (M1.get 1 rfl).cell 0 rfl
  have H1 := hide h1
  clear h1
  go_wp2_with fail
  refine (l1ThingO_calls _ 0 b 4 d y _ (by unfold maxLen; omega) c1 hy1).mono ?_
  rintro e w2 ⟨rfl, rfl⟩
  cases h2 : thing0 y with
  | false =>
    have HC := hide (tlC_form H1.out h2)
    have HN : Hid (tlL z y = []) := tlL_no (by rw [HC.out]; decide)
    clear h2
    have r0 := (M1.get 0 rfl).cell 0 rfl
    have r1 := (M1.get 0 rfl).cell 1 rfl
    have f0 := (M1.get 0 rfl).fz 0 (by simp)
    have f1 := (M1.get 0 rfl).fz 1 (by simp)
    have HB := hide M1.bel
    clear M1
    go_wp2
    refine bodyPost_ret (v := .agg #[.int .i64 (1), .slice none 0 0]) (by simp [results, Try.results14, go_sem, r0, r1]) rfl ⟨none, 0, 0, by rw [HC.out], ?_, (HB.out.setCell (by simp <;> omega) _).setCell (by simp <;> omega) _⟩
    rw [HN.out]
    exact osNil _ _
  | true =>
    have HC := hide (tlC_ok H1.out h2)
    have HN := hide (tlL_ok HC.out)
    have d0 := (M1.get 2 rfl).cell 0 rfl
    clear h2
    go_wp2_with fail
    refine (l3Tainted_calls _ 0 _ a b c d z y _ (by omega) (by omega) d0 c1 hz1 hy1).mono ?_
    rintro e w3 ⟨ra, rc, rfl, o3, g3⟩
    have M3 := (M1.below g3).fact OS.loc o3
    have z3 := g3.size
    have r0 := (M3.get 1 rfl).cell 0 rfl
    have r1 := (M3.get 1 rfl).cell 1 rfl
    have f0 := (M3.get 1 rfl).fz 0 (by simp)
    have f1 := (M3.get 1 rfl).fz 1 (by simp)
    have HB := hide M3.bel
    have HO := hide (M3.get 0 rfl)
    clear M1 M3 g3 o3 hz1 hy1 c1 d0
    go_wp2
    refine bodyPost_ret (v := .agg #[.int .i64 0, .slice ra 4 rc]) (by simp [results, Try.results14, go_sem, r0, r1]) rfl ⟨_, _, _, by rw [HC.out], ?_, (HB.out.setCell (by simp <;> omega) _).setCell (by simp <;> omega) _⟩
    rw [HN.out]
    exact ((OS.loc.setC (OS.loc.setC HO.out (fun h => by have := h.1; simp at this; omega) _) (fun h => by have := h.1; simp at this; omega) _).mono (fun g hg => ⟨by have := hg.1; omega, by have := hg.2; simpa using this⟩))

end Go.Proofs.Ytdcfdmcooonfkaa
