import Derived.Test.YtpcdfeccmiiglaaKfT
import Derived.Test.YtpcdfeccmiiglaaCsK
import Derived.WalkKit
import Derived.ProofKit
import Derived.OpenShut
import Derived.ShutString
import Derived.ChangeOld
import Derived.Below
import Derived.WalkSpells
import Derived.Deep.QuietTactic
import Derived.BigQuiet
import Derived.Deep.RegionWith
import Derived.Deep.WholeRow
import Derived.Deep.DeepCutAuto
import Derived.Deep.RegionHeld2
import Derived.Deep.AppendLies
import Derived.Deep.RegionLaw
namespace Go.Proofs.Ytpcdfeccmiiglaa
open Go.ChangeShapes Go.WideShapes Go.ChangeAt Go.RowKit

/-- is i in the box p with the name x. -/
def kidHit (f : Nat → OB) (p x : Int) (i : Nat) : Bool := decide (1 ≤ i) && (decide ((f i).1 = p) && decide ((f i).2.1 = x))
def kidAt (f : Nat → OB) (n : Nat) (p x : Int) : Int := match (List.range n).find? (kidHit f p x) with | some i => (i : Int) | none => -1

theorem kidAt_hit {f : Nat → OB} {n k : Nat} {p x : Int} (hk : k < n) (hno : ∀ j, j < k → kidHit f p x j = false) (h : kidHit f p x k = true) : kidAt f n p x = (k : Int) := by
  unfold kidAt
  rw [find_first hk hno h]
theorem kidAt_no {f : Nat → OB} {n : Nat} {p x : Int} (hno : ∀ j, j < n → kidHit f p x j = false) : kidAt f n p x = -1 := by
  unfold kidAt
  have : (List.range n).find? (kidHit f p x) = none := by
    rw [List.find?_eq_none]
    intro j hj
    simp [hno j (List.mem_range.1 hj)]
  rw [this]
theorem kidAt_in (f : Nat → OB) (n : Nat) (p x : Int) : kidAt f n p x = -1 ∨ (1 ≤ kidAt f n p x ∧ kidAt f n p x < (n : Int)) := by
  unfold kidAt
  cases h : (List.range n).find? (kidHit f p x) with
  | none => exact .inl rfl
  | some i =>
    have h1 := List.mem_of_find?_eq_some h
    have h2 := List.find?_some h
    unfold kidHit at h2
    simp at h2 h1
    right
    show 1 ≤ (i : Int) ∧ (i : Int) < (n : Int)
    omega

/-- a name of the path more. -/
def findS (f : Nat → OB) (n : Nat) (p x : Int) : Int := if p < 0 then p else kidAt f n p x
def findO (f : Nat → OB) (n : Nat) (zs : List Int) : Int := zs.foldl (findS f n) 0

theorem findO_take {f : Nat → OB} {n : Nat} {zs : List Int} {k : Nat} (hk : k < zs.length) : findO f n (zs.take (k + 1)) = findS f n (findO f n (zs.take k)) (gt zs k) := by
  have e : gt zs k = zs[k] := by unfold gt; simp [hk]
  unfold findO
  rw [List.take_succ_eq_append_getElem hk, List.foldl_append, e]
  rfl

theorem foldl_neg {f : Nat → OB} {n : Nat} {p : Int} (hp : p < 0) : ∀ zs : List Int, zs.foldl (findS f n) p = p
  | [] => rfl
  | x :: r => by rw [List.foldl_cons, show findS f n p x = p from if_pos hp]; exact foldl_neg hp r

theorem findO_neg {f : Nat → OB} {n : Nat} {zs : List Int} {k : Nat} (h : findO f n (zs.take k) < 0) : findO f n zs = findO f n (zs.take k) := by
  unfold findO at h ⊢
  conv => lhs; rw [← List.take_append_drop k zs]
  rw [List.foldl_append]
  exact foldl_neg h _

theorem findO_in (f : Nat → OB) (n : Nat) (hn : 0 < n) (zs : List Int) : findO f n zs = -1 ∨ (0 ≤ findO f n zs ∧ findO f n zs < (n : Int)) := by
  have : ∀ (zs : List Int) (p : Int), (p = -1 ∨ (0 ≤ p ∧ p < (n : Int))) → (zs.foldl (findS f n) p = -1 ∨ (0 ≤ zs.foldl (findS f n) p ∧ zs.foldl (findS f n) p < (n : Int))) := by
    intro zs
    induction zs with
    | nil => intro p hp; exact hp
    | cons x r ih =>
      intro p hp
      rw [List.foldl_cons]
      apply ih
      unfold findS
      by_cases h : p < 0
      · rw [if_pos h]; exact hp
      · rw [if_neg h]
        rcases kidAt_in f n p x with h1 | h1
        · exact .inl h1
        · right; omega
  exact this zs 0 (.inr (by omega))

def foC (xs : List OB) (zs : List Int) : Int := if kerF xs = 0 then (if findO (gO xs) xs.length zs < 0 then 4 else 0) else kerF xs
def foV (xs : List OB) (zs : List Int) : Int := if foC xs zs = 0 then findO (gO xs) xs.length zs else 0

set_option maxRecDepth 100000 in
theorem l11Kid_calls (P : Nat) (a : Option Addr) (n c : Nat) (xs : List OB) (p x : Int) (w : World) (hk : KR P a n c xs w) (hn : n ≤ 12) (h0 : 0 < n) : Calls Try.prog 71 #[.pointer (some ⟨P, 0, none⟩), .int .i64 p, .int .i64 x] w fun e w' => e = .returned (.int .i64 (kidAt (gO xs) n p x)) ∧ w' = w := by
  have c0 := hk.c0
  obtain ⟨b, off, ea, hb, hc⟩ := hk.so.2 h0
  rw [ea] at c0
  clear hk ea
  go_enter Try.func71, Try.ntmps71
  go_wp2
  go_loop [7] (fun q => ∃ k : Nat, 1 ≤ k ∧ k ≤ n ∧ q = .int .i64 k ∧ ∀ j, j < k → kidHit (gO xs) p x j = false) (fun q => n - (intOf q).toNat)
  case atStart => exact ⟨1, Nat.le_refl _, by omega, rfl, fun j hj => by obtain rfl : j = 0 := (by omega); rfl⟩
  case round =>
    obtain ⟨k, hk1, hkn, rfl, hno⟩ := hrel
    have Hno := hide hno
    clear hno
    by_cases hlt : k < n
    · obtain ⟨_, _, _, _, ⟨t0, t1, _, _, _, _, _⟩, _⟩ := hc k hlt
      have k0 : (0 : Int) ≤ (k : Int) := by omega
      have k1 : (k : Int) < (n : Int) := by omega
      clear hc
      by_cases h2 : (gO xs k).1 = p
      · have e2 : ((gO xs k).1 == p) = true := by simpa using h2
        by_cases h3 : (gO xs k).2.1 = x
        · have e3 : ((gO xs k).2.1 == x) = true := by simpa using h3
          have HV := hide (kidAt_hit hlt Hno.out (by unfold kidHit; simp [h2, h3]; omega))
          clear h2 h3
          go_wp2
          go_ret
          exact ⟨ret_int HV.out.symm, rfl⟩
        · have e3 : ((gO xs k).2.1 == x) = false := by simpa using h3
          have HN : Hid (∀ j, j < k + 1 → kidHit (gO xs) p x j = false) := fun j hj => by
            by_cases e0 : j = k
            · subst e0; unfold kidHit; simp [h3]
            · exact Hno.out j (by omega)
          clear h2 h3
          go_wp2
          go_round
          case rel => exact ⟨k + 1, by omega, by omega, by go_num, HN.out⟩
          case measure => simp [intOf]; omega
      · have e2 : ((gO xs k).1 == p) = false := by simpa using h2
        have HN : Hid (∀ j, j < k + 1 → kidHit (gO xs) p x j = false) := fun j hj => by
          by_cases e0 : j = k
          · subst e0; unfold kidHit; simp [h2]
          · exact Hno.out j (by omega)
        clear h2
        go_wp2
        go_round
        case rel => exact ⟨k + 1, by omega, by omega, by go_num, HN.out⟩
        case measure => simp [intOf]; omega
    · have HV := hide (kidAt_no (f := gO xs) (n := n) (p := p) (x := x) (fun j hj => Hno.out j (by omega)))
      clear hc
      go_wp2
      go_ret
      exact ⟨ret_int HV.out.symm, rfl⟩

set_option maxRecDepth 100000 in
set_option maxHeartbeats 1000000 in
theorem l11Find_calls (P : Nat) (a : Option Addr) (n c : Nat) (xs : List OB) (za : Option Addr) (zn zc : Nat) (zs : List Int) (w : World) (hk : KR P a n c xs w) (hn : n ≤ 12) (h0 : 0 < n) (hz : zn ≤ 1048576) (hs : Sl w za zn zs) : Calls Try.prog 43 #[.pointer (some ⟨P, 0, none⟩), .slice za zn zc] w fun e w' => e = .returned (.int .i64 (findO (gO xs) n zs)) ∧ w' = w := by
  obtain ⟨hlen, hs⟩ := hs
  go_enter Try.func43, Try.ntmps43
  go_wp2
  go_loop [5, 6] (fun v q => ∃ k : Nat, k ≤ zn ∧ q = .int .i64 k ∧ v = .int .i64 (findO (gO xs) n (zs.take k))) (fun _ q => zn - (intOf q).toNat)
  case atStart => exact ⟨0, Nat.zero_le _, rfl, by simp [findO]⟩
  case round =>
    obtain ⟨k, hkn, rfl, rfl⟩ := hrel
    have hin := findO_in (gO xs) n h0 (zs.take k)
    obtain ⟨p, ep⟩ : ∃ y, y = findO (gO xs) n (zs.take k) := ⟨_, rfl⟩
    rw [← ep] at hin ⊢
    have EP := hide ep
    clear ep
    by_cases hlt : k < zn
    · obtain ⟨bz, oz, rfl, hbz, hcz⟩ := hs (by omega)
      have ck := hcz k hlt
      have k0 : (0 : Int) ≤ (k : Int) := by omega
      have k1 : (k : Int) < (zn : Int) := by omega
      clear hcz
      by_cases hp : 0 ≤ p
      · have hge : p ≥ 0 := hp
        have HN : Hid (kidAt (gO xs) n p (gt zs k) = findO (gO xs) n (zs.take (k + 1))) := by show _ = _; rw [findO_take (by omega), ← EP.out]; unfold findS; rw [if_neg (by omega)]
        go_wp2_with fail
        refine (l11Kid_calls P a n c xs p (gt zs k) _ hk hn h0).mono ?_
        rintro e w' ⟨rfl, hw'⟩
        rw [hw']
        clear hw' w'
        go_wp2
        go_round
        case rel => exact ⟨k + 1, by omega, by go_num, by rw [← HN.out]⟩
        case measure => simp [intOf]; omega
      · have hge : ¬ (p ≥ 0) := hp
        have HV : Hid (findO (gO xs) n zs = p) := by show _ = _; rw [EP.out]; exact findO_neg (by rw [← EP.out]; omega)
        go_wp2
        go_ret
        exact ⟨ret_int HV.out.symm, rfl⟩
    · have HV : Hid (findO (gO xs) n zs = p) := by show _ = _; rw [EP.out, show zs.take k = zs from List.take_of_length_le (by omega)]
      have k1 : ¬ ((k : Int) < (zn : Int)) := by omega
      clear hs
      go_wp2
      go_ret
      exact ⟨ret_int HV.out.symm, rfl⟩

set_option maxRecDepth 100000 in
theorem specFindObject_calls (a : Option Addr) (n c : Nat) (xs : List OB) (za : Option Addr) (zn zc : Nat) (zs : List Int) (w : World) (hm : n ≤ maxLen) (hs : Sob w a n xs) (_hcap : n ≤ c) (hz : zn ≤ 1048576) (ht : Sl w za zn zs) : Calls Try.prog 11 #[.agg #[.slice a n c], .slice za zn zc] w fun e w' => e = .returned (.agg #[.int .i64 (foC xs zs), .int .i64 (foV xs zs)]) ∧ Below w.heap.size w w' := by
  have M0 := ((Mm.start w).alloc1 (.slice a n c) 26).alloc2 (.int .i64 0) (.int .i64 0) 36
  simp only [World.size_alloc] at M0
  have HK : Hid (KR w.heap.size a n c xs ((w.alloc (.cells #[.slice a n c] 26)).alloc (.cells #[.int .i64 0, .int .i64 0] 36))) := ⟨by simp; omega, M0.cell 2 rfl, hm, hs.below M0.bel (Nat.le_refl _)⟩
  have hlen := hs.1
  go_enter Try.func11, Try.ntmps11
  go_wp2_with fail
  refine (l11Fault_calls _ a n c xs _ HK.out).mono ?_
  rintro e w1 ⟨rfl, g1⟩
  have M1 := M0.below g1
  have HK1 := hide (HK.out.below g1)
  have HT := hide (ht.below M1.bel (Nat.le_refl _))
  have r0 := M1.cell 0 rfl
  have r1 := M1.cell 1 rfl
  have f0 := M1.fz 0 rfl
  have f1 := M1.fz 1 rfl
  have HB := hide M1.bel
  clear M0 M1 g1 HK
  by_cases h1 : kerF xs = 0
  rotate_left
  · have HC : Hid (foC xs zs = kerF xs) := if_neg h1
    have HV : Hid (foV xs zs = 0) := if_neg (by rw [HC.out]; exact h1)
    have e1 : (kerF xs != 0) = true := by simpa using h1
    clear h1
    go_wp2
    refine bodyPost_ret (v := .agg #[.int .i64 (kerF xs), .int .i64 0]) (by simp [results, Try.results11, go_sem, r0, r1]) rfl ⟨by rw [HC.out, HV.out], (HB.out.setCell (by simp) _).setCell (by simp) _⟩
  have e1 : (kerF xs != 0) = false := by simp [h1]
  obtain ⟨hn1, h12, _, _⟩ := kerF_inv h1
  have HFD := hide (l11Find_calls _ a n c xs za zn zc zs w1 HK1.out (by omega) (by omega) hz HT.out)
  have HC0 : Hid (foC xs zs = if findO (gO xs) n zs < 0 then 4 else 0) := by show _ = _; unfold foC; rw [if_pos h1, hlen]
  clear h1
  go_wp2_with fail
  refine HFD.out.mono ?_
  rintro e w' ⟨rfl, hw'⟩
  rw [hw']
  clear hw' w'
  by_cases h2 : findO (gO xs) n zs < 0
  · have HC : Hid (foC xs zs = 4) := HC0.out.trans (if_pos h2)
    have HV : Hid (foV xs zs = 0) := if_neg (by rw [HC.out]; decide)
    go_wp2
    refine bodyPost_ret (v := .agg #[.int .i64 4, .int .i64 0]) (by simp [results, Try.results11, go_sem, r0, r1]) rfl ⟨by rw [HC.out, HV.out], (HB.out.setCell (by simp) _).setCell (by simp) _⟩
  · have HC : Hid (foC xs zs = 0) := HC0.out.trans (if_neg h2)
    have HV : Hid (foV xs zs = findO (gO xs) n zs) := by show _ = _; unfold foV; rw [if_pos HC.out, hlen]
    go_wp2
    refine bodyPost_ret (v := .agg #[.int .i64 0, .int .i64 (findO (gO xs) n zs)]) (by simp [results, Try.results11, go_sem, r0, r1]) rfl ⟨by rw [HC.out, HV.out], (HB.out.setCell (by simp) _).setCell (by simp) _⟩

end Go.Proofs.Ytpcdfeccmiiglaa
