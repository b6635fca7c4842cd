import Derived.Test.YtipfaoecodclaaaKiB
import Derived.Test.YtipfaoecodclaaaApp
import Derived.Test.YtipfaoecodclaaaObL
import Derived.Test.YtipfaoecodclaaaKgK
import Derived.Deep.AppendLies
import Derived.WalkKit
import Derived.ProofKit
import Derived.OpenShut
import Derived.ShutString
import Derived.ChangeOld
import Derived.Below
import Derived.WalkSpells
import Derived.Deep.QuietTactic
import Derived.BigQuiet
import Derived.Deep.RegionWith
import Derived.Deep.WholeRow
import Derived.Deep.DeepCutAuto
import Derived.Deep.RegionHeld2
import Derived.Deep.AppendLies
import Derived.Deep.RegionLaw
namespace Go.Proofs.Ytipfaoecodclaaa
open Go.ChangeShapes Go.WideShapes Go.ChangeAt Go.RowKit

def v7 (x : OB) (la : Option Addr) (lc : Nat) (da : Option Addr) (dc : Nat) : List Value := [.int .i64 x.1, .int .i64 x.2.1, .int .i64 x.2.2.1, .slice la x.2.2.2.1.length lc, .int .i64 x.2.2.2.2.1, .int .i64 x.2.2.2.2.2.1, .slice da x.2.2.2.2.2.2.length dc]

/-- the cells of a row of objects. -/
def C7 (L : List Value) (ks : List OB) : Prop := L.length = ks.length * 7 ∧ ∀ i, i < ks.length → ∃ la lc da dc, ∀ j v, (v7 (gO ks i) la lc da dc)[j]? = some v → L[i * 7 + j]? = some v

theorem C7.nil : C7 [] [] := ⟨rfl, fun i hi => by simp at hi⟩

theorem C7.app {L : List Value} {ks : List OB} (h : C7 L ks) (x : OB) (la : Option Addr) (lc : Nat) (da : Option Addr) (dc : Nat) : C7 (L ++ v7 x la lc da dc) (ks ++ [x]) := by
  obtain ⟨h1, h2⟩ := h
  refine ⟨by rw [List.length_append, List.length_append, h1]; simp [v7]; omega, fun i hi => ?_⟩
  rw [List.length_append] at hi
  by_cases e : i = ks.length
  · subst e
    refine ⟨la, lc, da, dc, fun j v hv => ?_⟩
    rw [gO_last] at hv
    rw [← h1, List.getElem?_append_right (by omega), Nat.add_sub_cancel_left]
    exact hv
  · have hi' : i < ks.length := by simp at hi; omega
    obtain ⟨la', lc', da', dc', h3⟩ := h2 i hi'
    refine ⟨la', lc', da', dc', fun j v hv => ?_⟩
    rw [gO_left hi'] at hv
    have hj : j < 7 := by
      have := (List.getElem?_eq_some_iff.1 hv).1
      simpa [v7] using this
    rw [List.getElem?_append_left (by omega)]
    exact h3 j v hv

theorem owns_S7 {w : World} {B : Nat} {v : Value} {n : Nat} {L : List Value} {ks : List OB} (h : w.ownsRow B 57 7 v n L) (hc : C7 L ks) (hn : ks.length = n) : ∃ ka kc, v = .slice ka n kc ∧ S7 w ka n (gO ks) ∧ ∀ ad, ka = some ad → B ≤ ad.block := by
  obtain ⟨h1, h2⟩ := h
  rcases h2 with ⟨rfl, rfl⟩ | ⟨g, cap, cur, rfl, hB, hg, hcap, _, hsz, htk⟩
  · exact ⟨none, 0, rfl, fun hp => by omega, fun ad e => by cases e⟩
  · refine ⟨_, _, rfl, fun _ => ⟨g, 0, rfl, (Array.getElem?_eq_some_iff.1 hg).1, fun i hi => ?_⟩, fun ad e => by cases e; exact hB⟩
    obtain ⟨la, lc, da, dc, h3⟩ := hc.2 i (by omega)
    have key : ∀ j u, (v7 (gO ks i) la lc da dc)[j]? = some u → w.cell? ⟨g, i * 7 + j, none⟩ = some u := fun j u hu => by
      have h4 := h3 j u hu
      rw [cell_of_row w g (i * 7 + j) cur _ _ hg]
      rw [← htk, List.getElem?_take] at h4
      split at h4
      · simpa using h4
      · exact absurd h4 (by simp)
    refine ⟨la, lc, da, dc, ?_⟩
    rw [Nat.zero_add]
    exact ⟨key 0 _ rfl, key 1 _ rfl, key 2 _ rfl, key 3 _ rfl, key 4 _ rfl, key 5 _ rfl, key 6 _ rfl⟩

theorem owns_empty (w : World) (B : Nat) (e : TypeId) (s : Nat) (hB : B ≤ w.heap.size) : (w.alloc (.cells #[] e)).ownsRow B e s (.slice (some ⟨w.heap.size, 0, none⟩) 0 0) 0 [] :=
  World.ownsRow_lit (base := B) (e := e) (size := s) w #[] 0 hB (Nat.zero_le _) (by simp)

theorem v7_one (x : OB) (la : Option Addr) (lc : Nat) (da : Option Addr) (dc : Nat) : ∀ u ∈ v7 x la lc da dc, u.oneCell' = true := by
  intro u hu
  simp [v7] at hu
  rcases hu with rfl | rfl | rfl | rfl | rfl | rfl | rfl <;> rfl

set_option maxRecDepth 100000 in
theorem contentAt_out (a : Option Addr) (n c : Nat) (p : Int) (w : World) (hn : n ≤ maxLen) (h : up p ((n : Int) - 1) = false) : Calls Try.prog 73 #[.slice a n c, .int .i64 p] w fun e w' => e = .returned .nilIface ∧ w' = w := by
  unfold maxLen at hn
  have hwp : IntKind.i64.wrap ((n : Int) - 1) = (n : Int) - 1 := IntWalk.i64_in _ (by omega)
  go_enter Try.func73, Try.ntmps73
  go_wp2_with (go_at_call 68; with_reducible refine (isUpTo_is _ _ _ _ h).mono ?_; rintro e w' ⟨rfl, hw'⟩; rw [hw']; clear hw' w')
  go_ret
  exact ⟨rfl, rfl⟩

set_option maxRecDepth 100000 in
set_option maxHeartbeats 4000000 in
theorem contentAt_in (a : Option Addr) (n c : Nat) (f : Nat → OB) (p : Nat) (w : World) (hn : n ≤ 12) (hs : S7 w a n f) (hp : p < n) : Calls Try.prog 73 #[.slice a n c, .int .i64 (p : Int)] w fun e w' => ∃ da dc ka kc, e = .returned (ctV (f p) da dc ka (kidX f (p : Int) n).length kc) ∧ S7 w' ka (kidX f (p : Int) n).length (gO (kidX f (p : Int) n)) ∧ (∀ ad, ka = some ad → w.heap.size ≤ ad.block) ∧ Below w.heap.size w w' := by
  have hup : up (p : Int) ((n : Int) - 1) = true := up_iff.2 ⟨by omega, by omega⟩
  have hwp : IntKind.i64.wrap ((n : Int) - 1) = (n : Int) - 1 := IntWalk.i64_in _ (by omega)
  obtain ⟨b, off, rfl, hb, hc⟩ := hs (by omega)
  obtain ⟨i0, hi, hz0, hz1, hz2⟩ := info_parts infoObject
  have HO0 := hide (owns_empty w w.heap.size 57 7 (Nat.le_refl _))
  have HB0 : Hid (Below w.heap.size w (w.alloc (.cells #[] 57))) := (Below.refl _ _).alloc (Nat.le_refl _) _
  go_enter Try.func73, Try.ntmps73
  go_wp2_with (go_at_call 68; with_reducible refine (isUpTo_is _ _ _ _ hup).mono ?_; rintro e w' ⟨rfl, hw'⟩; rw [hw']; clear hw' w')
  go_loopw [17, 5] (fun i v wr => ∃ (k : Nat) (L : List Value), k ≤ n ∧ i = .int .i64 k ∧ wr.ownsRow w.heap.size 57 7 v (kidX f (p : Int) k).length L ∧ C7 L (kidX f (p : Int) k) ∧ Below w.heap.size w wr) (fun i _ _ => n - (intOf i).toNat)
  case atStart => exact ⟨0, [], Nat.zero_le _, rfl, HO0.out, C7.nil, HB0.out⟩
  case round =>
    obtain ⟨k, L, hk, rfl, hown, hC, hbel⟩ := hrel
    have hkl := kidX_le f (p : Int) k
    have k0 : (0 : Int) ≤ (k : Int) := by omega
    by_cases hlt : k < n
    · obtain ⟨la, lc, da, dc, h7⟩ := hc k hlt
      obtain ⟨r0, r1, r2, r3, r4, r5, r6⟩ := h7.of_block (hbel.block b hb)
      have hsz := hbel.size
      have k1 : (k : Int) < (n : Int) := by omega
      obtain ⟨u, hu⟩ : ∃ u, u = wr.alloc (.cells #[.int .i64 (f k).1, .int .i64 (f k).2.1, .int .i64 (f k).2.2.1, .slice la (f k).2.2.2.1.length lc, .int .i64 (f k).2.2.2.2.1, .int .i64 (f k).2.2.2.2.2.1, .slice da (f k).2.2.2.2.2.2.length dc] 57) := ⟨_, rfl⟩
      have gu : Below w.heap.size w u := by rw [hu]; exact hbel.alloc hbel.size _
      have gwu : Below wr.heap.size wr u := by rw [hu]; exact (Below.refl _ _).alloc (Nat.le_refl _) _
      have HOU := hide (ownR_below hown gwu)
      have HBU := hide gu
      have hzu : w.heap.size ≤ u.heap.size := gu.size
      have HC := hide hC
      have HU := hide hu
      have q0 : u.cell? ⟨wr.heap.size, 0, none⟩ = some (.int .i64 (f k).1) := by rw [hu]; go_simp
      have q1 : u.cell? ⟨wr.heap.size, 1, none⟩ = some (.int .i64 (f k).2.1) := by rw [hu]; go_simp
      have q2 : u.cell? ⟨wr.heap.size, 2, none⟩ = some (.int .i64 (f k).2.2.1) := by rw [hu]; go_simp
      have q3 : u.cell? ⟨wr.heap.size, 3, none⟩ = some (.slice la (f k).2.2.2.1.length lc) := by rw [hu]; go_simp
      have q4 : u.cell? ⟨wr.heap.size, 4, none⟩ = some (.int .i64 (f k).2.2.2.2.1) := by rw [hu]; go_simp
      have q5 : u.cell? ⟨wr.heap.size, 5, none⟩ = some (.int .i64 (f k).2.2.2.2.2.1) := by rw [hu]; go_simp
      have q6 : u.cell? ⟨wr.heap.size, 6, none⟩ = some (.slice da (f k).2.2.2.2.2.2.length dc) := by rw [hu]; go_simp
      clear h7 hbel hown hC gu gwu hu
      by_cases h1 : (f k).1 = (p : Int)
      · have e1 : ((f k).1 == (p : Int)) = true := by simpa using h1
        have HN := hide (kidX_y (f := f) h1)
        have HB2 : Hid (Below u.heap.size u (u.alloc (.cells #[.int .i64 (f k).1, .int .i64 (f k).2.1, .int .i64 (f k).2.2.1, .slice la (f k).2.2.2.1.length lc, .int .i64 (f k).2.2.2.2.1, .int .i64 (f k).2.2.2.2.2.1, .slice da (f k).2.2.2.2.2.2.length dc] 57))) := (Below.refl _ _).alloc (Nat.le_refl _) _
        have HX : Hid (∀ j y, (v7 (f k) la lc da dc)[j]? = some y → (u.alloc (.cells #[.int .i64 (f k).1, .int .i64 (f k).2.1, .int .i64 (f k).2.2.1, .slice la (f k).2.2.2.1.length lc, .int .i64 (f k).2.2.2.2.1, .int .i64 (f k).2.2.2.2.2.1, .slice da (f k).2.2.2.2.2.2.length dc] 57)).cell? ((Addr.mk u.heap.size 0 none).add j) = some y) := World.news_of_block (t := 57) (fr := (0, 0)) (heap_alloc_new u _)
        clear h1
        go_upto_region 8 with fail
        rw [← HU.out]
        go_wp2_with (first
          | (at_builtin; refine wpList_append_lies _ rfl _ _ 30 rfl w.heap.size 57 i0 (.agg #[.int .i64 0, .int .i64 0, .int .i64 0, .slice none 0 0, .int .i64 0, .int .i64 0, .slice none 0 0]) 7 88 Try.underlying30 hi hz0 hz1 hz2 rfl (by decide) _ _ _ rfl (ownR_below HOU.out HB2.out) ⟨u.heap.size, 0, none⟩ 1 1 (v7 (f k) la lc da dc) rfl rfl HX.out (v7_one _ _ _ _ _) (by omega) (by unfold maxLen; omega) (by omega) (by simp; omega) (u.heap.size + 1) (by simp) ?_)
          | go_in)
        intro g cp w5 hown5 hg5 hat5 hlt5
        have HO5 := hide hown5
        have HC5 := hide (HC.out.app (f k) la lc da dc)
        have HB5 : Hid (Below w.heap.size w w5) := ((HBU.out.trans (HB2.out.mono HBU.out.size)).grown hg5 (by have := HBU.out.size; simp; omega) (fun q hq => (HOU.out.lt q hq).1))
        clear hown5 hg5 hat5 hlt5
        go_wp2
        go_roundw
        case rel => exact ⟨k + 1, _, by omega, by go_num, by rw [HN.out, List.length_append]; exact HO5.out, by rw [HN.out]; exact HC5.out, HB5.out⟩
        case measure => simp [intOf]; omega
      · have e1 : ((f k).1 == (p : Int)) = false := by simpa using h1
        have HN := hide (kidX_n (f := f) h1)
        clear h1
        go_upto_region 9 with fail
        rw [← HU.out]
        go_wp2
        go_roundw
        case rel => exact ⟨k + 1, L, by omega, by go_num, by rw [HN.out]; exact HOU.out, by rw [HN.out]; exact HC.out, HBU.out⟩
        case measure => simp [intOf]; omega
    · obtain rfl : k = n := by omega
      obtain ⟨ka, kc, rfl, h7, hfr⟩ := owns_S7 hown hC rfl
      obtain ⟨la, lc, da, dc, r⟩ := hc p hp
      obtain ⟨r0, r1, r2, r3, r4, r5, r6⟩ := r.of_block (hbel.block b hb)
      have p0 : (0 : Int) ≤ (p : Int) := by omega
      have p1 : (p : Int) < (k : Int) := by omega
      have HS := hide h7
      have HB := hide hbel
      clear hs hc hown hC h7 hbel r
      go_wp2_with fail
      refine (contentOf_calls (f p) la lc da dc ka _ kc _).mono ?_
      rintro e w2 ⟨rfl, g2⟩
      have HB2 := hide (HB.out.trans (g2.mono HB.out.size))
      have HS2 := hide (HS.out.below g2 (Nat.le_refl _))
      clear g2
      go_wp2
      go_ret
      exact ⟨da, dc, ka, kc, rfl, HS2.out, hfr, HB2.out⟩

end Go.Proofs.Ytipfaoecodclaaa
