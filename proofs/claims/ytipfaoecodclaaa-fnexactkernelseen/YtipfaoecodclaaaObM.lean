import Derived.Test.YtipfaoecodclaaaObL
import Derived.Test.YtipfaoecodclaaaRegO
import Derived.WalkKit
import Derived.ProofKit
import Derived.OpenShut
import Derived.ShutString
import Derived.ChangeOld
import Derived.Below
import Derived.WalkSpells
import Derived.Deep.QuietTactic
import Derived.BigQuiet
import Derived.Deep.RegionWith
import Derived.Deep.WholeRow
import Derived.Deep.DeepCutAuto
import Derived.Deep.RegionHeld2
import Derived.Deep.AppendLies
import Derived.Deep.RegionLaw
namespace Go.Proofs.Ytipfaoecodclaaa
open Go.ChangeShapes Go.WideShapes Go.ChangeAt Go.RowKit

set_option maxRecDepth 100000 in
theorem markInt64B_O (S : Nat → Prop) (a : Option Addr) (n cap : Nat) (rs : List Int) (m : Int) (w : World) (hm0 : 0 ≤ m) (hm : m ≤ 8388608) (hs : OS S a n rs w) :
    Calls Try.prog 37 #[.slice a n cap, .int .i64 m] w fun e w' => e = .returned (.int .i64 (m + n)) ∧ OS S a n (marksFrom m n) w' ∧ OutS S w w' := by
  obtain ⟨hlen, hn, hs⟩ := hs
  rcases hs with rfl | ⟨b, rfl, hB, blk⟩
  · go_enter Try.func37, Try.ntmps37
    go_wp2
    go_loop [1, 5] (fun k i => k = .int .i64 m ∧ i = .int .i64 0) (fun _ _ => 0)
    case atStart => exact ⟨rfl, rfl⟩
    case round =>
      obtain ⟨rfl, rfl⟩ := hrel
      go_wp2
      go_ret
      exact ⟨ret_int (by simp), ⟨length_marksFrom _ _, by omega, (.inl rfl)⟩, OutS.refl _ _⟩
  · subst hlen
    go_enter Try.func37, Try.ntmps37
    go_wp2
    go_loopw [1, 5] (fun q i wr => ∃ k : Nat, k ≤ rs.length ∧ q = .int .i64 (m + k) ∧ i = .int .i64 k ∧ MRow wr b rs.length k m ∧ OutS S w wr) (fun _ i _ => rs.length - (intOf i).toNat)
    case atStart => exact ⟨0, Nat.zero_le _, by simp, rfl, MRow.start blk, OutS.refl _ _⟩
    case round =>
      obtain ⟨k, hk, rfl, rfl, hrow, hbut⟩ := hrel
      by_cases hlt : k < rs.length
      · obtain ⟨v, hv⟩ := hrow.2.2.1 k hlt
        have hfz := hrow.2.2.2 k
        go_wp2
        go_roundw
        case rel => exact ⟨k + 1, by omega, by go_num, by go_num, hrow.store hlt, hbut.setCell hB _⟩
        case measure => simp [intOf]; omega
      · have e : k = rs.length := by omega
        subst e
        go_wp2
        go_ret
        exact ⟨rfl, ⟨length_marksFrom _ _, hn, .inr ⟨b, rfl, hB, hrow.done⟩⟩, hbut⟩

theorem O7.of_eq {w : World} {b o : Nat} {x y : OB} {la : Option Addr} {lc : Nat} {da : Option Addr} {dc : Nat} (h : O7 w b o x la lc da dc) (h0 : x.1 = y.1) (h1 : x.2.1 = y.2.1) (h2 : x.2.2.1 = y.2.2.1) (h3 : x.2.2.2.1.length = y.2.2.2.1.length) (h4 : x.2.2.2.2.1 = y.2.2.2.2.1) (h5 : x.2.2.2.2.2.1 = y.2.2.2.2.2.1) (h6 : x.2.2.2.2.2.2.length = y.2.2.2.2.2.2.length) : O7 w b o y la lc da dc := by
  unfold O7 at *
  rw [← h0, ← h1, ← h2, ← h3, ← h4, ← h5, ← h6]
  exact h

theorem OOb.congr {S : Nat → Prop} {N n : Nat} {la : Nat → Option Addr} {lc lb : Nat → Nat} {f : Nat → OB} {g : Nat → OB} {w : World} (h : OOb S N n la lc lb f w) (e : ∀ i, i < n → f i = g i) : OOb S N n la lc lb g w := by
  have hs : ∀ q, q < 2 * n → sbO f q = sbO g q := fun q hq => by unfold sbO; rw [e _ (by omega)]
  exact ⟨h.hS, h.lt, h.fz, fun i hi => e i hi ▸ h.c i hi, fun q hq => hs q hq ▸ h.os q hq, fun q hq hl => h.lS q hq (by rw [hs q hq]; exact hl), fun q hq hl => h.ne q hq (by rw [hs q hq]; exact hl), fun q r hq hr a b c => h.ap q r hq hr a (by rw [hs q hq]; exact b) (by rw [hs r hr]; exact c)⟩

/-- numbers of object i are written. -/
theorem OOb.setV {S : Nat → Prop} {N n : Nat} {la : Nat → Option Addr} {lc lb : Nat → Nat} {f : Nat → OB} {w : World} (h : OOb S N n la lc lb f w) {i : Nat} (hi : i < n) (x : OB) (hl : x.2.2.2.1 = (f i).2.2.2.1) (hd : x.2.2.2.2.2.2 = (f i).2.2.2.2.2.2) (o : Nat) (vs : List Value) (hv : o + vs.length ≤ 7) (hx : O7 (setL w N (i * 7 + o) vs) N (i * 7) x (la (2 * i)) (lc (2 * i)) (la (2 * i + 1)) (lc (2 * i + 1))) : OOb S N n la lc lb (fun j => if j = i then x else f j) (setL w N (i * 7 + o) vs) := by
  have hs : sbO (fun j => if j = i then x else f j) = sbO f := by
    funext q
    unfold sbO
    by_cases e : q / 2 = i
    · simp only [e, if_true, hl, hd]
    · simp only [e, if_false]
  refine ⟨h.hS, by rw [setL_size]; exact h.lt, fun j => by rw [setL_fz]; exact h.fz j, fun j hj => ?_, ?_, ?_, ?_, ?_⟩
  · by_cases e : j = i
    · subst e; rw [if_pos rfl]; exact hx
    · rw [if_neg e]; exact O7_other (h.c j hj) _ (by omega)
  · rw [hs]; exact fun q hq => OS.loc w _ (fun k hk _ => setL_blk _ _ _ _ _ (fun e => h.ne q hq hk.2 (hk.1.symm.trans e))) (h.os q hq)
  · rw [hs]; exact h.lS
  · rw [hs]; exact h.ne
  · rw [hs]; exact h.ap

/-- the row q is written. -/
theorem OOb.setRow {S : Nat → Prop} {N n : Nat} {la : Nat → Option Addr} {lc lb : Nat → Nat} {f : Nat → OB} {w w' : World} (h : OOb S N n la lc lb f w) {q : Nat} (hq : q < 2 * n) (g : Nat → OB) (hg : ∀ i, i < n → (f i).1 = (g i).1 ∧ (f i).2.1 = (g i).2.1 ∧ (f i).2.2.1 = (g i).2.2.1 ∧ (f i).2.2.2.2.1 = (g i).2.2.2.2.1 ∧ (f i).2.2.2.2.2.1 = (g i).2.2.2.2.2.1) (hz : (sbO g q).length = (sbO f q).length) (hr : ∀ r, r ≠ q → sbO g r = sbO f r) (ho : OutS (fun k => k = lb q ∧ 0 < (sbO f q).length) w w') (hs : OS (fun k => k = lb q ∧ 0 < (sbO f q).length) (la q) (sbO f q).length (sbO g q) w') : OOb S N n la lc lb g w' := by
  have eN := ho.block N h.lt (fun e => h.ne q hq e.2 e.1.symm)
  have hlen : ∀ r, (sbO g r).length = (sbO f r).length := fun r => by
    by_cases e : r = q
    · subst e; exact hz
    · rw [hr r e]
  refine ⟨h.hS, by have := ho.size; have := h.lt; omega, fun j => (World.frozen?_of_block (a := ⟨N, j, none⟩) eN).trans (h.fz j), fun i hi => ?_, fun r hr2 => ?_, fun r hr2 hl => h.lS r hr2 (by rw [hlen] at hl; exact hl), fun r hr2 hl => h.ne r hr2 (by rw [hlen] at hl; exact hl), fun a b ha hb e ea eb => h.ap a b ha hb e (by rw [hlen] at ea; exact ea) (by rw [hlen] at eb; exact eb)⟩
  · obtain ⟨g0, g1, g2, g4, g5⟩ := hg i hi
    have l0 := hlen (2 * i)
    have l1 := hlen (2 * i + 1)
    rw [sbO_l, sbO_l] at l0
    rw [sbO_d, sbO_d] at l1
    exact ((h.c i hi).of_block eN).of_eq g0 g1 g2 l0.symm g4 g5 l1.symm
  · rw [hlen]
    by_cases e : r = q
    · subst e; exact hs
    · rw [hr r e]; exact OS.loc.out ho (fun k hk e2 => h.ap r q hr2 hq e hk.2 e2.2 (hk.1.symm.trans e2.1)) (h.os r hr2)

/-- the mark at which object j begins, marks from m on. -/
def moC (m : Int) (xs : List OB) (j : Nat) : Int := m + 5 * (j : Int) + (lenO (xs.take j) : Int)

def mk1 (u : Int) (x : OB) : OB := (u, u + 1, u + 1 + 1, marksFrom (u + 1 + 1 + 1) x.2.2.2.1.length, u + 1 + 1 + 1 + (x.2.2.2.1.length : Int), u + 1 + 1 + 1 + (x.2.2.2.1.length : Int) + 1, marksFrom (u + 1 + 1 + 1 + (x.2.2.2.1.length : Int) + 1 + 1) x.2.2.2.2.2.2.length)

def mkO (m : Int) (xs : List OB) : List OB := (List.range xs.length).map (fun j => mk1 (moC m xs j) (gO xs j))

theorem length_mkO (m : Int) (xs : List OB) : (mkO m xs).length = xs.length := by simp [mkO]

theorem gO_mkO (m : Int) (xs : List OB) (j : Nat) (h : j < xs.length) : gO (mkO m xs) j = mk1 (moC m xs j) (gO xs j) := by simp [mkO, gO, h]

theorem lenO_congr : ∀ (xs ys : List OB), xs.length = ys.length → (∀ j, j < xs.length → (gO xs j).2.2.2.1.length + (gO xs j).2.2.2.2.2.2.length = (gO ys j).2.2.2.1.length + (gO ys j).2.2.2.2.2.2.length) → lenO xs = lenO ys
  | [], [], _, _ => rfl
  | [], _ :: _, h, _ => by simp at h
  | _ :: _, [], h, _ => by simp at h
  | x :: r, y :: s, h, hc => by
    have h0 := hc 0 (by simp)
    have ih := lenO_congr r s (by simpa using h) (fun j hj => by have := hc (j + 1) (by simpa using hj); simpa [gO] using this)
    simp [gO] at h0
    simp only [lenO]
    omega

theorem lenO_mkO (m : Int) (xs : List OB) : lenO (mkO m xs) = lenO xs :=
  lenO_congr _ _ (length_mkO m xs) (fun j hj => by rw [length_mkO] at hj; rw [gO_mkO m xs j hj]; simp [mk1, length_marksFrom])

theorem moC_succ (m : Int) (xs : List OB) (j : Nat) (h : j < xs.length) : moC m xs (j + 1) = moC m xs j + 1 + 1 + 1 + ((gO xs j).2.2.2.1.length : Int) + 1 + 1 + ((gO xs j).2.2.2.2.2.2.length : Int) := by
  unfold moC
  rw [lenO_take xs j h]
  omega

theorem moC_le (m : Int) (xs : List OB) (j : Nat) : moC m xs j ≤ m + 5 * (j : Int) + (lenO xs : Int) := by
  unfold moC
  have := lenO_le xs j
  omega

theorem moC_ge (m : Int) (xs : List OB) (j : Nat) : m ≤ moC m xs j := by
  unfold moC
  omega

theorem moC_all (m : Int) (xs : List OB) : moC m xs xs.length = m + 5 * (xs.length : Int) + (lenO xs : Int) := by
  unfold moC
  rw [List.take_length]

set_option maxRecDepth 100000 in
set_option maxHeartbeats 2000000 in
theorem markObjectS_O (S : Nat → Prop) (a : Option Addr) (n cap : Nat) (xs : List OB) (m : Int) (w : World) (hm0 : 0 ≤ m) (hm : m ≤ 3000000) (hs : OO S a n xs w) :
    Calls Try.prog 36 #[.slice a n cap, .int .i64 m] w fun e w' => e = .returned (.int .i64 (m + 5 * n + lenO xs)) ∧ OO S a n (mkO m xs) w' ∧ OutS S w w' := by
  obtain ⟨hlen, hbd, hs⟩ := hs
  rcases hs with h0 | ⟨N, la, lc, lb, rfl, hb⟩
  · subst h0
    obtain rfl : xs = [] := List.eq_nil_of_length_eq_zero hlen
    go_enter Try.func36, Try.ntmps36
    go_wp2
    go_loop [1, 5] (fun k i => k = .int .i64 m ∧ i = .int .i64 0) (fun _ _ => 0)
    case atStart => exact ⟨rfl, rfl⟩
    case round =>
      obtain ⟨rfl, rfl⟩ := hrel
      go_wp2
      go_ret
      exact ⟨ret_int (by simp [lenO]), ⟨rfl, by simp [mkO, lenO], .inl rfl⟩, OutS.refl _ _⟩
  · have hn1 : n ≤ 1048576 := by omega
    go_enter Try.func36, Try.ntmps36
    go_wp2
    go_loopw [1, 5] (fun q i wr => ∃ k : Nat, k ≤ n ∧ q = .int .i64 (moC m xs k) ∧ i = .int .i64 k ∧ OOb S N n la lc lb (fun j => if j < k then gO (mkO m xs) j else gO xs j) wr ∧ OutS S w wr) (fun _ i _ => n - (intOf i).toNat)
    case atStart => exact ⟨0, Nat.zero_le _, by simp [moC, lenO], rfl, hb.congr (fun i _ => by simp), OutS.refl _ _⟩
    case round =>
      obtain ⟨k, hk, rfl, rfl, hrow, hbut⟩ := hrel
      by_cases hlt : k < n
      · have kc := moC_le m xs k
        have kg := moC_ge m xs k
        have hl1 := gO_le xs k (by omega)
        have Hst := hide (moC_succ m xs k (by omega))
        have HGK := hide (gO_mkO m xs k (by omega))
        have hS := hrow.hS
        have hf0 := hrow.fz (k * 7)
        have hf1 := hrow.fz (k * 7 + 1)
        have hf2 := hrow.fz (k * 7 + 2)
        have hc := hrow.c k hlt
        rw [if_neg (by omega)] at hc
        generalize hx : gO xs k = x at hc hl1 Hst HGK
        have R0 := hrow.setV hlt ((moC m xs k), (moC m xs k) + 1, (moC m xs k) + 1 + 1, x.2.2.2) (by rw [if_neg (by omega), hx]) (by rw [if_neg (by omega), hx]) 0 [.int .i64 (moC m xs k), .int .i64 ((moC m xs k) + 1), .int .i64 ((moC m xs k) + 1 + 1)] (by simp) (by
          have ha := setL_at [.int .i64 (moC m xs k), .int .i64 ((moC m xs k) + 1), .int .i64 ((moC m xs k) + 1 + 1)] wr N (k * 7 + 0) (fun i hi => by
            have : i < 3 := by simpa using hi
            match i, this with
            | 0, _ => exact ⟨_, hc.1⟩
            | 1, _ => exact ⟨_, hc.2.1⟩
            | 2, _ => exact ⟨_, hc.2.2.1⟩)
          refine ⟨ha 0 _ rfl, ha 1 _ rfl, ha 2 _ rfl, ?_, ?_, ?_, ?_⟩
          · exact (setL_other _ _ _ _ _ (by simp)).trans hc.2.2.2.1
          · exact (setL_other _ _ _ _ _ (by simp)).trans hc.2.2.2.2.1
          · exact (setL_other _ _ _ _ _ (by simp)).trans hc.2.2.2.2.2.1
          · exact (setL_other _ _ _ _ _ (by simp)).trans hc.2.2.2.2.2.2)
        change OOb S N n la lc lb (fun j => if j = k then ((moC m xs k), (moC m xs k) + 1, (moC m xs k) + 1 + 1, x.2.2.2) else if j < k then gO (mkO m xs) j else gO xs j) (((wr.setCell ⟨N, k * 7, none⟩ (.int .i64 (moC m xs k))).setCell ⟨N, k * 7 + 1, none⟩ (.int .i64 ((moC m xs k) + 1))).setCell ⟨N, k * 7 + 2, none⟩ (.int .i64 ((moC m xs k) + 1 + 1))) at R0
        have O0 := ((hbut.setCell (p := ⟨N, k * 7, none⟩) hS (.int .i64 (moC m xs k))).setCell (p := ⟨N, k * 7 + 1, none⟩) hS (.int .i64 ((moC m xs k) + 1))).setCell (p := ⟨N, k * 7 + 2, none⟩) hS (.int .i64 ((moC m xs k) + 1 + 1))
        have s0 := R0.os (2 * k) (by omega)
        rw [sbO_l, if_pos rfl] at s0
        have HR0 := hide R0
        have HO0 := hide O0
        have HS0 := hide s0
        obtain ⟨p0, p1, p2, p3, _, _, _⟩ := hc
        clear R0 O0 s0 hrow hbut
        go_wp2_with fail
        refine (markInt64B_O _ (la (2 * k)) _ (lc (2 * k)) x.2.2.2.1 ((moC m xs k) + 1 + 1 + 1) _ (by omega) (by omega) HS0.out).mono ?_
        rintro e w1 ⟨rfl, hs1, ho1⟩
        have R1 := HR0.out.setRow (q := 2 * k) (by omega) (fun j => if j = k then ((moC m xs k), (moC m xs k) + 1, (moC m xs k) + 1 + 1, marksFrom ((moC m xs k) + 1 + 1 + 1) x.2.2.2.1.length, x.2.2.2.2) else if j < k then gO (mkO m xs) j else gO xs j) (fun i hi => by by_cases e : i = k <;> simp [e]) (by rw [sbO_l, sbO_l, if_pos rfl, if_pos rfl]; exact length_marksFrom _ _) (fun r hr => by
          unfold sbO
          by_cases e : r / 2 = k
          · rw [if_neg (by omega), if_neg (by omega)]; simp [e]
          · simp [e]) (by rw [sbO_l, if_pos rfl]; exact ho1) (by rw [sbO_l, sbO_l, if_pos rfl, if_pos rfl]; exact hs1)
        have O1 := HO0.out.trans (ho1.mono (fun j hj => hj.1 ▸ HR0.out.lS (2 * k) (by omega) (by rw [sbO_l, if_pos rfl]; exact hj.2)))
        have hd := R1.c k hlt
        rw [if_pos rfl] at hd
        have hf4 := R1.fz (k * 7 + 4)
        have hf5 := R1.fz (k * 7 + 5)
        have R2 := R1.setV hlt ((moC m xs k), (moC m xs k) + 1, (moC m xs k) + 1 + 1, marksFrom ((moC m xs k) + 1 + 1 + 1) x.2.2.2.1.length, (moC m xs k) + 1 + 1 + 1 + (x.2.2.2.1.length : Int), (moC m xs k) + 1 + 1 + 1 + (x.2.2.2.1.length : Int) + 1, x.2.2.2.2.2.2) (by rw [if_pos rfl]) (by rw [if_pos rfl]) 4 [.int .i64 ((moC m xs k) + 1 + 1 + 1 + (x.2.2.2.1.length : Int)), .int .i64 ((moC m xs k) + 1 + 1 + 1 + (x.2.2.2.1.length : Int) + 1)] (by simp) (by
          have ha := setL_at [.int .i64 ((moC m xs k) + 1 + 1 + 1 + (x.2.2.2.1.length : Int)), .int .i64 ((moC m xs k) + 1 + 1 + 1 + (x.2.2.2.1.length : Int) + 1)] w1 N (k * 7 + 4) (fun i hi => by
            have : i < 2 := by simpa using hi
            match i, this with
            | 0, _ => exact ⟨_, hd.2.2.2.2.1⟩
            | 1, _ => exact ⟨_, hd.2.2.2.2.2.1⟩)
          refine ⟨?_, ?_, ?_, ?_, ha 0 _ rfl, ha 1 _ rfl, ?_⟩
          · exact (setL_other _ _ _ _ _ (by simp)).trans hd.1
          · exact (setL_other _ _ _ _ _ (by simp)).trans hd.2.1
          · exact (setL_other _ _ _ _ _ (by simp)).trans hd.2.2.1
          · exact (setL_other _ _ _ _ _ (by simp)).trans hd.2.2.2.1
          · exact (setL_other _ _ _ _ _ (by simp)).trans hd.2.2.2.2.2.2)
        change OOb S N n la lc lb _ ((w1.setCell ⟨N, k * 7 + 4, none⟩ (.int .i64 ((moC m xs k) + 1 + 1 + 1 + (x.2.2.2.1.length : Int)))).setCell ⟨N, k * 7 + 5, none⟩ (.int .i64 ((moC m xs k) + 1 + 1 + 1 + (x.2.2.2.1.length : Int) + 1))) at R2
        have O2 := (O1.setCell (p := ⟨N, k * 7 + 4, none⟩) hS (.int .i64 ((moC m xs k) + 1 + 1 + 1 + (x.2.2.2.1.length : Int)))).setCell (p := ⟨N, k * 7 + 5, none⟩) hS (.int .i64 ((moC m xs k) + 1 + 1 + 1 + (x.2.2.2.1.length : Int) + 1))
        have s2 := R2.os (2 * k + 1) (by omega)
        rw [sbO_d, if_pos rfl] at s2
        have HR2 := hide R2
        have HO2 := hide O2
        have HS2 := hide s2
        obtain ⟨_, _, _, _, p4, p5, p6⟩ := hd
        clear R1 R2 O1 O2 s2 hs1 ho1 HR0 HO0 HS0 p0 p1 p2 p3 hf0 hf1 hf2
        go_wp2_with fail
        refine (markInt64B_O _ (la (2 * k + 1)) _ (lc (2 * k + 1)) x.2.2.2.2.2.2 ((moC m xs k) + 1 + 1 + 1 + (x.2.2.2.1.length : Int) + 1 + 1) _ (by omega) (by omega) HS2.out).mono ?_
        rintro e w2 ⟨rfl, hs2, ho2⟩
        have R3 := HR2.out.setRow (q := 2 * k + 1) (by omega) (fun j => if j < k + 1 then gO (mkO m xs) j else gO xs j) (fun i hi => by
          by_cases e : i = k
          · subst e; simp [HGK.out, mk1]
          · by_cases e2 : i < k
            · simp [e, e2, show i < k + 1 by omega]
            · simp [e, e2, show ¬ i < k + 1 by omega]) (by rw [sbO_d, sbO_d, if_pos rfl, if_pos (by omega), HGK.out]; exact length_marksFrom _ _) (fun r hr => by
          unfold sbO
          by_cases e : r / 2 = k
          · rw [if_pos (by omega), if_pos (by omega)]; simp [e, HGK.out, mk1]
          · by_cases e2 : r / 2 < k
            · simp [e, e2, show r / 2 < k + 1 by omega]
            · simp [e, e2, show ¬ r / 2 < k + 1 by omega]) (by rw [sbO_d, if_pos rfl]; exact ho2) (by rw [sbO_d, sbO_d, if_pos rfl, if_pos (by omega), HGK.out]; exact hs2)
        have O3 := HO2.out.trans (ho2.mono (fun j hj => hj.1 ▸ HR2.out.lS (2 * k + 1) (by omega) (by rw [sbO_d, if_pos rfl]; exact hj.2)))
        have HR3 := hide R3
        have HO3 := hide O3
        clear R3 O3 hs2 ho2 HR2 HO2 HS2 p4 p5 p6 hf4 hf5
        go_wp2
        go_roundw
        case rel => exact ⟨k + 1, by omega, by rw [Hst.out], by go_num, HR3.out, HO3.out⟩
        case measure => simp [intOf]; omega
      · have e : k = n := by omega
        subst e
        have HE : Hid (moC m xs k = m + 5 * k + lenO xs) := by show _ = _; rw [← hlen]; exact moC_all m xs
        have HR : Hid (OO S (some ⟨N, 0, none⟩) k (mkO m xs) wr) := ⟨by rw [length_mkO]; exact hlen, by rw [lenO_mkO]; exact hbd, .inr ⟨N, la, lc, lb, rfl, hrow.congr (fun i hi => by rw [if_pos hi])⟩⟩
        have HO := hide hbut
        clear hrow hbut
        go_wp2
        go_ret
        exact ⟨ret_int HE.out, HR.out, HO.out⟩

set_option maxRecDepth 100000 in
theorem markKernel_O (S : Nat → Prop) (a : Option Addr) (n cap : Nat) (xs : List OB) (m : Int) (w : World) (hm0 : 0 ≤ m) (hm : m ≤ 3000000) (hs : OO S a n xs w) :
    Calls Try.prog 14 #[.agg #[.slice a n cap], .int .i64 m] w fun e w' => e = .returned (.int .i64 (m + 5 * n + lenO xs)) ∧ OO S a n (mkO m xs) w' ∧ OutS S w w' := by
  go_enter Try.func14, Try.ntmps14
  go_wp2_with fail
  refine (markObjectS_O S a n cap xs m _ hm0 hm (OO.loc.below ((Below.refl _ _).alloc (Nat.le_refl _) _) hs)).mono ?_
  rintro e w1 ⟨rfl, h1, h2⟩
  go_wp2
  go_ret
  exact ⟨rfl, h1, (OutS.of_below ((Below.refl _ _).alloc (Nat.le_refl _) _)).trans h2⟩

end Go.Proofs.Ytipfaoecodclaaa
