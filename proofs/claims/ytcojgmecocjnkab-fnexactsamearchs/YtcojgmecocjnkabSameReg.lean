import Derived.Test.YtcojgmecocjnkabSpecReg
import Derived.Test.YtcojgmecocjnkabSep
import Derived.Test.YtcojgmecocjnkabEqReg
import Derived.WalkKit
import Derived.ProofKit
import Derived.OpenShut
import Derived.ShutString
import Derived.ChangeOld
import Derived.Below
import Derived.WalkSpells
import Derived.Deep.QuietTactic
import Derived.BigQuiet
import Derived.Deep.RegionWith
import Derived.Deep.WholeRow
import Derived.Deep.DeepCutAuto
import Derived.Deep.RegionHeld2
import Derived.Deep.AppendLies
import Derived.Deep.RegionLaw
namespace Go.Proofs.Ytcojgmecocjnkab
open Go.ChangeShapes Go.WideShapes Go.ChangeAt Go.RowKit

theorem s4_lt {W X : World} {A B C D : Addr} {a b c d : Value} (h : X.cell? A = some a ∧ X.cell? B = some b ∧ X.cell? C = some c ∧ X.cell? D = some d ∧ Below W.heap.size W X) {k : Nat} (hk : k < W.heap.size) : k < X.heap.size := Nat.lt_of_lt_of_le hk h.2.2.2.2.size

theorem s4_cell {W X : World} {A B C D : Addr} {a b c d : Value} (h : X.cell? A = some a ∧ X.cell? B = some b ∧ X.cell? C = some c ∧ X.cell? D = some d ∧ Below W.heap.size W X) {k o : Nat} {v : Value} (hk : k < W.heap.size) (hc : W.cell? ⟨k, o, none⟩ = some v) : X.cell? ⟨k, o, none⟩ = some v := (h.2.2.2.2.cell (p := ⟨k, o, none⟩) hk).trans hc

theorem slots_ext {ss rr : List (Int × List Int)} (h : ss.length = rr.length) (hc : ∀ j, j < ss.length → gc ss j = gc rr j) (hl : ∀ j, j < ss.length → gl ss j = gl rr j) : ss = rr := by
  apply List.ext_getElem h
  intro i h1 h2
  have e1 := hc i h1
  have e2 := hl i h1
  simp [gc, h1, h2] at e1
  simp [gl, h1, h2] at e2
  exact Prod.ext e1 e2

set_option maxRecDepth 100000 in
theorem slicesEqual_calls (a b : Option Addr) (la ca lb cb : Nat) (xs ys : List Int) (w : World) (hla : la ≤ maxLen) (hlb : lb ≤ maxLen) (hx : Sl w a la xs) (hy : Sl w b lb ys) :
    Calls Try.prog 29 #[.slice a la ca, .slice b lb cb] w fun e w' => e = .returned (.bool (decide (xs = ys))) ∧ Below w.heap.size w w' := by
  unfold maxLen at hla hlb
  obtain ⟨hxl, hx⟩ := hx
  obtain ⟨hyl, hy⟩ := hy
  by_cases hne : la = lb
  · subst hne
    have hn : ((la : Int) != (la : Int)) = false := by simp
    go_enter Try.func29, Try.ntmps29
    go_wp2
    go_loopw [13] (fun i wr => ∃ k : Nat, k ≤ la ∧ i = .int .i64 k ∧ Below w.heap.size w wr ∧ ∀ j, j < k → gt xs j = gt ys j) (fun i _ => la - (intOf i).toNat)
    case atStart => exact ⟨0, Nat.zero_le _, rfl, Below.refl _ _, fun j hj => by omega⟩
    case round =>
      obtain ⟨k, hk, rfl, hbel, hall⟩ := hrel
      have Hall : Hid (∀ j, j < k → gt xs j = gt ys j) := hall
      clear hall
      by_cases hlt : k < la
      · obtain ⟨b1, o1, rfl, hb1, hc1⟩ := hx (by omega)
        obtain ⟨b2, o2, rfl, hb2, hc2⟩ := hy (by omega)
        have hck1 := (hbel.cell (p := ⟨b1, o1 + k, none⟩) hb1).trans (hc1 k hlt)
        have hck2 := (hbel.cell (p := ⟨b2, o2 + k, none⟩) hb2).trans (hc2 k hlt)
        have hki : (k : Int) < (la : Int) := by omega
        by_cases he : gt xs k = gt ys k
        · have hbq : (gt xs k != gt ys k) = false := by simp [he]
          have He : Hid (gt xs k = gt ys k) := he
          clear he
          go_wp2_with fail
          go_quiet (fail)
          go_wp2
          go_roundw
          case rel => exact ⟨k + 1, by omega, by go_num, bdrewN hbel _, fun j hj => by (by_cases e : j = k); (subst e; exact He.out); exact Hall.out j (by omega)⟩
          case measure => simp [intOf]; omega
        · have hbq : (gt xs k != gt ys k) = true := by simp [he]
          go_wp2_with fail
          go_quiet (fail)
          go_wp2
          go_ret
          exact ⟨ret_bool (by simp; intro e; exact he (by rw [e])), bdrewN hbel _⟩
      · go_wp2
        go_ret
        exact ⟨ret_bool (by simp; exact getD_ext (by omega) (fun i hi => Hall.out i (by omega))), hbel⟩
  · have hn : ((la : Int) != (lb : Int)) = true := by simp; omega
    go_enter Try.func29, Try.ntmps29
    go_wp2
    go_ret
    exact ⟨ret_bool (by simp; intro e; rw [e] at hxl; omega), Below.refl _ _⟩

def sameSl (c d : Int) (xs ys : List Int) : Bool := decide (c = d) && decide (xs = ys)

set_option maxRecDepth 100000 in
theorem sameSlots_calls (c d : Int) (a b : Option Addr) (la ca lb cb : Nat) (xs ys : List Int) (w : World) (hla : la ≤ maxLen) (hlb : lb ≤ maxLen) (hx : Sl w a la xs) (hy : Sl w b lb ys) :
    Calls Try.prog 60 #[.agg #[.int .i64 c, .slice a la ca], .agg #[.int .i64 d, .slice b lb cb]] w fun e w' => e = .returned (.bool (sameSl c d xs ys)) ∧ Below w.heap.size w w' := by
  have HX := hide fun o1 o2 => hx.below (((Below.refl w.heap.size w).alloc (Nat.le_refl _) o1).alloc (by simp) o2) (Nat.le_refl _)
  have HY := hide fun o1 o2 => hy.below (((Below.refl w.heap.size w).alloc (Nat.le_refl _) o1).alloc (by simp) o2) (Nat.le_refl _)
  have HB := hide fun o1 o2 => ((Below.refl w.heap.size w).alloc (Nat.le_refl _) o1).alloc (by simp) o2
  by_cases he : c = d
  · subst he
    have e1 : (c == c) = true := by simp
    go_enter Try.func60, Try.ntmps60
    go_wp2_with fail
    refine (slicesEqual_calls a b la ca lb cb xs ys _ hla hlb (HX.out _ _) (HY.out _ _)).mono ?_
    rintro e w1 ⟨rfl, g1⟩
    have HE := hide ((HB.out (.cells #[.int .i64 c, .slice a la ca] 106) (.cells #[.int .i64 c, .slice b lb cb] 106)).trans (g1.mono (HB.out _ _).size))
    clear g1
    go_wp2
    go_ret
    exact ⟨ret_bool (by simp [sameSl]), HE.out⟩
  · have e1 : (c == d) = false := by simp [he]
    have He := hide he
    clear he
    go_enter Try.func60, Try.ntmps60
    go_wp2
    go_ret
    exact ⟨ret_bool (by simp [sameSl, He.out]), HB.out _ _⟩

set_option maxRecDepth 100000 in
set_option maxHeartbeats 1000000 in
theorem equalFunc_calls (a b : Option Addr) (n m ca cb : Nat) (ss rr : List (Int × List Int)) (w : World) (hn : n ≤ maxLen) (hm : m ≤ maxLen) (hx : Sls w a n ss) (hy : Sls w b m rr) :
    Calls Try.prog 59 #[.slice a n ca, .slice b m cb, .func (.func 60) #[] #[]] w fun e w' => e = .returned (.bool (decide (ss = rr))) ∧ Below w.heap.size w w' := by
  unfold maxLen at hn hm
  obtain ⟨hxl, hx⟩ := hx
  obtain ⟨hyl, hy⟩ := hy
  by_cases hne : n = m
  · subst hne
    have hnn : ((n : Int) != (n : Int)) = false := by simp
    go_enter Try.func59, Try.ntmps59
    go_wp2
    go_loopw [17] (fun i wr => ∃ k : Nat, k ≤ n ∧ i = .int .i64 k ∧ Below w.heap.size w wr ∧ ∀ j, j < k → gc ss j = gc rr j ∧ gl ss j = gl rr j) (fun i _ => n - (intOf i).toNat)
    case atStart => exact ⟨0, Nat.zero_le _, rfl, Below.refl _ _, fun j hj => by omega⟩
    case round =>
      obtain ⟨k, hk, rfl, hbel, hall⟩ := hrel
      have Hall := hide hall
      clear hall
      by_cases hlt : k < n
      · obtain ⟨b1, o1, rfl, hb1, hc1⟩ := hx (by omega)
        obtain ⟨b2, o2, rfl, hb2, hc2⟩ := hy (by omega)
        obtain ⟨p0, la, ll, lc, p1, pl, psl⟩ := hc1 k hlt
        obtain ⟨q0, ma, ml, mc, q1, ql, qsl⟩ := hc2 k hlt
        have hp0 := (hbel.cell (p := ⟨b1, o1 + k * 2, none⟩) hb1).trans p0
        have hp1 := (hbel.cell (p := ⟨b1, o1 + k * 2 + 1, none⟩) hb1).trans p1
        have hb2' : b2 < wr.heap.size := by have := hbel.size; omega
        have hq0 : (wr.alloc (.cells #[.int .i64 (gc ss k), .slice la ll lc] 106)).cell? ⟨b2, o2 + k * 2, none⟩ = some (.int .i64 (gc rr k)) := (World.cell?_alloc_past _ _ _ hb2').trans ((hbel.cell (p := ⟨b2, o2 + k * 2, none⟩) hb2).trans q0)
        have hq1 : (wr.alloc (.cells #[.int .i64 (gc ss k), .slice la ll lc] 106)).cell? ⟨b2, o2 + k * 2 + 1, none⟩ = some (.slice ma ml mc) := (World.cell?_alloc_past _ _ _ hb2').trans ((hbel.cell (p := ⟨b2, o2 + k * 2 + 1, none⟩) hb2).trans q1)
        have al := ((Below.refl wr.heap.size wr).alloc (Nat.le_refl _) (.cells #[.int .i64 (gc ss k), .slice la ll lc] 106)).alloc (by simp) (.cells #[.int .i64 (gc rr k), .slice ma ml mc] 106)
        have HP := hide ((psl.below hbel (Nat.le_refl _)).below al (Nat.le_refl _))
        have HQ := hide ((qsl.below hbel (Nat.le_refl _)).below al (Nat.le_refl _))
        have HB := hide (hbel.trans (al.mono hbel.size))
        clear p0 p1 q0 q1 psl qsl al
        cases hs : sameSl (gc ss k) (gc rr k) (gl ss k) (gl rr k) with
        | true =>
          have He : Hid (gc ss k = gc rr k ∧ gl ss k = gl rr k) := by show _ ∧ _; simpa [sameSl] using hs
          go_wp2_with fail
          refine (sameSlots_calls (gc ss k) (gc rr k) la ma ll lc ml mc (gl ss k) (gl rr k) _ pl ql HP.out HQ.out).mono ?_
          rintro e w1 ⟨rfl, g1⟩
          rw [hs]
          have HE := hide (HB.out.trans (g1.mono HB.out.size))
          clear g1
          go_wp2
          go_roundw
          case rel => exact ⟨k + 1, by omega, by go_num, HE.out, fun j hj => by (by_cases e : j = k); (subst e; exact He.out); exact Hall.out j (by omega)⟩
          case measure => simp [intOf]; omega
        | false =>
          have He : Hid (ss ≠ rr) := by
            show ss ≠ rr
            intro e
            subst e
            simp [sameSl] at hs
          go_wp2_with fail
          refine (sameSlots_calls (gc ss k) (gc rr k) la ma ll lc ml mc (gl ss k) (gl rr k) _ pl ql HP.out HQ.out).mono ?_
          rintro e w1 ⟨rfl, g1⟩
          rw [hs]
          have HE := hide (HB.out.trans (g1.mono HB.out.size))
          clear g1
          go_wp2
          go_ret
          exact ⟨ret_bool (by simp; exact He.out), HE.out⟩
      · go_wp2
        go_ret
        exact ⟨ret_bool (by simp; exact slots_ext (by omega) (fun j hj => (Hall.out j (by omega)).1) (fun j hj => (Hall.out j (by omega)).2)), hbel⟩
  · have hnn : ((n : Int) != (m : Int)) = true := by simp; omega
    go_enter Try.func59, Try.ntmps59
    go_wp2
    go_ret
    exact ⟨ret_bool (by simp; intro e; rw [e] at hxl; omega), Below.refl _ _⟩

set_option maxRecDepth 100000 in
theorem implSameRegistries_calls (a : Option Addr) (n ca : Nat) (ss : List (Int × List Int)) (b : Option Addr) (m cb : Nat) (rr : List (Int × List Int)) (w : World) (hn : n ≤ maxLen) (hx : Sls w a n ss) (hm : m ≤ maxLen) (hy : Sls w b m rr) :
    Calls Try.prog 47 #[.agg #[.slice a n ca], .agg #[.slice b m cb]] w fun e w' => e = .returned (.bool (decide (ss = rr))) ∧ Below w.heap.size w w' := by
  have hb2 := fun o1 o2 => ((Below.refl w.heap.size w).alloc (Nat.le_refl _) o1).alloc (by simp) o2
  go_enter Try.func47, Try.ntmps47
  go_wp2_with fail
  refine (equalFunc_calls a b n m ca cb ss rr _ hn hm (hx.below (hb2 _ _) (Nat.le_refl _)) (hy.below (hb2 _ _) (Nat.le_refl _))).mono ?_
  rintro e w1 ⟨rfl, g1⟩
  have HE : Hid (Below w.heap.size w w1) := (hb2 _ _).trans (g1.mono (hb2 _ _).size)
  clear g1 hb2
  go_wp2
  go_ret
  exact ⟨rfl, HE.out⟩

set_option maxRecDepth 100000 in
set_option maxHeartbeats 1000000 in
theorem specSameRegistries_calls (a : Option Addr) (n ca : Nat) (ss : List (Int × List Int)) (b : Option Addr) (m cb : Nat) (rr : List (Int × List Int)) (w : World) (hn : n ≤ maxLen) (hx : Sls w a n ss) (hm : m ≤ maxLen) (hy : Sls w b m rr) :
    Calls Try.prog 41 #[.agg #[.slice a n ca], .agg #[.slice b m cb]] w fun e w' => e = .returned (.bool (decide (ss = rr))) ∧ Below w.heap.size w w' := by
  have M0 := ((Mm.start w).alloc1 (.slice a n ca) 42).alloc1 (.slice b m cb) 42
  simp only [World.size_alloc] at M0
  have hx0 := hx.below M0.bel (Nat.le_refl _)
  have hy0 := hy.below M0.bel (Nat.le_refl _)
  unfold maxLen at hn hm
  obtain ⟨hxl, _⟩ := hx
  obtain ⟨hyl, _⟩ := hy
  by_cases hne : n = m
  · subst hne
    have hnn : ((n : Int) != (n : Int)) = false := by simp
    have HM := hide M0
    clear M0
    go_enter Try.func41, Try.ntmps41
    go_wp2_with fail
    go_loopw [5] (fun i wr => ∃ k : Nat, k ≤ n ∧ i = .int .i64 k ∧ Mm w wr [(w.heap.size + 1, 0, .slice b n cb), (w.heap.size, 0, .slice a n ca)] [] ∧ Below ((w.alloc (.cells #[.slice a n ca] 42)).alloc (.cells #[.slice b n cb] 42)).heap.size ((w.alloc (.cells #[.slice a n ca] 42)).alloc (.cells #[.slice b n cb] 42)) wr ∧ ∀ j, j < k → gc ss j = gc rr j ∧ gl ss j = gl rr j) (fun i _ => n - (intOf i).toNat)
    case atStart => exact ⟨0, Nat.zero_le _, rfl, HM.out, Below.refl _ _, fun j hj => by omega⟩
    case round =>
      obtain ⟨k, hk, rfl, hmm, hbel, hall⟩ := hrel
      have Hall := hide hall
      clear hall
      have hpa := hmm.cell 1 rfl
      have hpb := hmm.cell 0 rfl
      have lpa := hmm.lt 1 rfl
      have lpb := hmm.lt 0 rfl
      by_cases hlt : k < n
      · obtain ⟨b1, o1, rfl, hb1, hc1⟩ := (hx0.below hbel (Nat.le_refl _)).2 (by omega)
        obtain ⟨b2, o2, rfl, hb2, hc2⟩ := (hy0.below hbel (Nat.le_refl _)).2 (by omega)
        obtain ⟨p0, la, ll, lc, p1, pl, psl⟩ := hc1 k hlt
        obtain ⟨q0, ma, ml, mc, q1, ql, qsl⟩ := hc2 k hlt
        have hki : (k : Int) < (n : Int) := by omega
        have hk0 : (0 : Int) ≤ (k : Int) := by omega
        by_cases hcc : gc ss k = gc rr k
        · have ecc : (gc ss k != gc rr k) = false := by simp [hcc]
          have HS0 : Hid (wr.drew.cell? ⟨w.heap.size, 0, none⟩ = some (.slice (some ⟨b1, o1, none⟩) n ca) ∧ wr.drew.cell? ⟨w.heap.size + 1, 0, none⟩ = some (.slice (some ⟨b2, o2, none⟩) n cb) ∧ wr.drew.cell? ⟨b1, o1 + k * 2, none⟩ = some (.int .i64 (gc ss k)) ∧ wr.drew.cell? ⟨b2, o2 + k * 2, none⟩ = some (.int .i64 (gc rr k)) ∧ Below wr.heap.size wr wr.drew) := ⟨hpa, hpb, p0, q0, (Below.refl _ _).drew⟩
          have HP := hide psl
          have HQ := hide qsl
          have P1 := hide p1
          have Q1 := hide q1
          have HMM := hide hmm
          have HBEL := hide hbel
          clear p0 q0 p1 q1 psl qsl hc1 hc2 hx0 hy0 hmm hbel hpa
          by_cases hll : gl ss k = gl rr k
          · have He : Hid (gc ss k = gc rr k ∧ gl ss k = gl rr k) := ⟨hcc, hll⟩
            have hpa := HMM.out.cell 1 rfl
            go_wp2_with fail
            clear hpa hpb
            go_region_held2 (fun w' => w'.cell? ⟨w.heap.size, 0, none⟩ = some (.slice (some ⟨b1, o1, none⟩) n ca) ∧ w'.cell? ⟨w.heap.size + 1, 0, none⟩ = some (.slice (some ⟨b2, o2, none⟩) n cb) ∧ w'.cell? ⟨b1, o1 + k * 2, none⟩ = some (.int .i64 (gc ss k)) ∧ w'.cell? ⟨b2, o2 + k * 2, none⟩ = some (.int .i64 (gc rr k)) ∧ Below wr.heap.size wr w')
              (first | with_reducible exact HS0.out | with_reducible assumption)
              (first
                | (go_at_call 55; refine (l1Same_calls b1 _ b2 _ la ma ll lc ml mc (gl ss k) (gl rr k) _ pl ql ?_ ?_ ?_ ?_ ?_ ?_).mono ?_; exact s4_lt (by with_reducible assumption) hb1; exact s4_lt (by with_reducible assumption) hb2; exact s4_cell (by with_reducible assumption) hb1 P1.out; exact s4_cell (by with_reducible assumption) hb2 Q1.out; exact HP.out.below (And.right (And.right (And.right (And.right (by with_reducible assumption))))) (Nat.le_refl _); exact HQ.out.below (And.right (And.right (And.right (And.right (by with_reducible assumption))))) (Nat.le_refl _); rintro e v1 ⟨rfl, g1⟩; rw [decide_eq_true hll]; have hs1 := held4 (W := wr) lpa lpb hb1 hb2 (by with_reducible assumption) g1; clear g1))
            have HM1 := hide (HMM.out.below hs1.2.2.2.2)
            have HB1 := hide (HBEL.out.trans (hs1.2.2.2.2.mono HBEL.out.size))
            clear hs1 HS0 HP HQ
            go_wp2
            go_roundw
            case rel => exact ⟨k + 1, by omega, by go_num, HM1.out, HB1.out, fun j hj => by (by_cases e : j = k); (subst e; exact He.out); exact Hall.out j (by omega)⟩
            case measure => simp [intOf]; omega
          · have He : Hid (ss ≠ rr) := by
              show ss ≠ rr
              intro e
              exact hll (by rw [e])
            have hpa := HMM.out.cell 1 rfl
            go_wp2_with fail
            clear hpa hpb
            go_region_held2 (fun w' => w'.cell? ⟨w.heap.size, 0, none⟩ = some (.slice (some ⟨b1, o1, none⟩) n ca) ∧ w'.cell? ⟨w.heap.size + 1, 0, none⟩ = some (.slice (some ⟨b2, o2, none⟩) n cb) ∧ w'.cell? ⟨b1, o1 + k * 2, none⟩ = some (.int .i64 (gc ss k)) ∧ w'.cell? ⟨b2, o2 + k * 2, none⟩ = some (.int .i64 (gc rr k)) ∧ Below wr.heap.size wr w')
              (first | with_reducible exact HS0.out | with_reducible assumption)
              (first
                | (go_at_call 55; refine (l1Same_calls b1 _ b2 _ la ma ll lc ml mc (gl ss k) (gl rr k) _ pl ql ?_ ?_ ?_ ?_ ?_ ?_).mono ?_; exact s4_lt (by with_reducible assumption) hb1; exact s4_lt (by with_reducible assumption) hb2; exact s4_cell (by with_reducible assumption) hb1 P1.out; exact s4_cell (by with_reducible assumption) hb2 Q1.out; exact HP.out.below (And.right (And.right (And.right (And.right (by with_reducible assumption))))) (Nat.le_refl _); exact HQ.out.below (And.right (And.right (And.right (And.right (by with_reducible assumption))))) (Nat.le_refl _); rintro e v1 ⟨rfl, g1⟩; rw [decide_eq_false hll]; have hs1 := held4 (W := wr) lpa lpb hb1 hb2 (by with_reducible assumption) g1; clear g1))
            have HB1 := hide (HMM.out.bel.trans (hs1.2.2.2.2.mono HMM.out.bel.size))
            clear hs1 HS0 HP HQ
            go_wp2
            go_ret
            exact ⟨ret_bool (by simp; exact He.out), HB1.out⟩
        · have ecc : (gc ss k != gc rr k) = true := by simp [hcc]
          have He : Hid (ss ≠ rr) := by
            show ss ≠ rr
            intro e
            exact hcc (by rw [e])
          have HB := hide hmm.bel
          clear hc1 hc2 hx0 hy0 hmm hbel psl qsl
          go_wp2_with fail
          go_quiet (fail)
          go_wp2
          go_ret
          exact ⟨ret_bool (by simp; exact He.out), bdrewN HB.out _⟩
      · have HB := hide hmm.bel
        clear hmm hbel
        go_wp2
        go_ret
        exact ⟨ret_bool (by simp; exact slots_ext (by omega) (fun j hj => (Hall.out j (by omega)).1) (fun j hj => (Hall.out j (by omega)).2)), HB.out⟩
  · have hnn : ((n : Int) != (m : Int)) = true := by simp; omega
    have HB := hide M0.bel
    clear M0
    go_enter Try.func41, Try.ntmps41
    go_wp2
    go_ret
    exact ⟨ret_bool (by simp; intro e; rw [e] at hxl; omega), HB.out⟩

end Go.Proofs.Ytcojgmecocjnkab
