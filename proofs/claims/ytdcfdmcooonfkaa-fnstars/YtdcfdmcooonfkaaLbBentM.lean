import Derived.Test.YtdcfdmcooonfkaaLbDrawM2
import Derived.WalkKit
import Derived.ProofKit
import Derived.OpenShut
import Derived.ShutString
import Derived.ChangeOld
import Derived.Below
import Derived.WalkSpells
import Derived.Deep.QuietTactic
import Derived.BigQuiet
import Derived.Deep.RegionWith
import Derived.Deep.WholeRow
import Derived.Deep.DeepCutAuto
import Derived.Deep.RegionHeld2
import Derived.Deep.AppendLies
import Derived.Deep.RegionLaw
namespace Go.Proofs.Ytdcfdmcooonfkaa
open Go.ChangeShapes Go.WideShapes Go.ChangeAt Go.RowKit

/-- a slice of at most four numbers in a block from lo on. -/
def Fr (w : World) (lo : Nat) (a : Option Addr) (n : Nat) (xs : List Int) : Prop :=
  xs.length = n ∧ n ≤ 4 ∧ (0 < n → ∃ b off, a = some ⟨b, off, none⟩ ∧ lo ≤ b ∧ b < w.heap.size ∧ ∀ i, i < n → w.cell? ⟨b, off + i, none⟩ = some (.int .i64 (gt xs i)))

theorem Fr.sl {w : World} {lo : Nat} {a : Option Addr} {n : Nat} {xs : List Int} (h : Fr w lo a n xs) : Sl w a n xs :=
  ⟨h.1, fun hp => by obtain ⟨b, off, e, _, h2, h3⟩ := h.2.2 hp; exact ⟨b, off, e, h2, h3⟩⟩

theorem Fr.below {w u : World} {lo : Nat} {a : Option Addr} {n : Nat} {xs : List Int} (h : Fr w lo a n xs) (hb : Below w.heap.size w u) : Fr u lo a n xs :=
  ⟨h.1, h.2.1, fun hp => by
    obtain ⟨b, off, e, h1, h2, h3⟩ := h.2.2 hp
    exact ⟨b, off, e, h1, by have := hb.size; omega, fun i hi => (hb.cell (p := ⟨b, off + i, none⟩) h2).trans (h3 i hi)⟩⟩

theorem Fr.outside {w u : World} {lo p : Nat} {a : Option Addr} {n : Nat} {xs : List Int} (h : Fr w lo a n xs) (ho : Outside p (p + 1) w u) (hp : p < lo) : Fr u lo a n xs :=
  ⟨h.1, h.2.1, fun h0 => by
    obtain ⟨b, off, e, h1, h2, h3⟩ := h.2.2 h0
    exact ⟨b, off, e, h1, by have := ho.size; omega, fun i hi => ho.cell (q := ⟨b, off + i, none⟩) h2 (by show p + 1 ≤ b; omega) (h3 i hi)⟩⟩

theorem Fr.setCell {w : World} {lo : Nat} {a : Option Addr} {n : Nat} {xs : List Int} (h : Fr w lo a n xs) {q : Addr} (hq : q.block < lo) (v : Value) : Fr (w.setCell q v) lo a n xs :=
  ⟨h.1, h.2.1, fun h0 => by
    obtain ⟨b, off, e, h1, h2, h3⟩ := h.2.2 h0
    exact ⟨b, off, e, h1, by simpa using h2, fun i hi => by rw [World.cell?_setCell_other _ _ _ _ (fun e => by rw [e] at hq; simp at hq; omega)]; exact h3 i hi⟩⟩

theorem Fr.ofBlk {w : World} {lo g : Nat} {zs : List Int} (h : Blk w g zs) (hl : lo ≤ g) (h4 : zs.length = 4) : Fr w lo (some ⟨g, 0, none⟩) 4 zs :=
  ⟨h4, by omega, fun _ => ⟨g, 0, rfl, hl, h.1, fun i hi => by rw [Nat.zero_add]; exact h.2.1 i (by omega)⟩⟩

theorem Fr.tail {w : World} {lo g : Nat} {zs : List Int} (h : Blk w g zs) (hl : lo ≤ g) (h4 : zs.length = 4) : Fr w lo (some ⟨g, 1, none⟩) 3 (zs.drop 1) :=
  ⟨by simp [h4], by omega, fun _ => ⟨g, 1, rfl, hl, h.1, fun i hi => by rw [h.2.1 (1 + i) (by omega)]; simp [gt, Nat.add_comm]⟩⟩

theorem three_at {wr : World} {t : TypeId} : ∀ i, i < 3 → ((wr.alloc (.cells #[.int .i64 (-1), .int .i64 5, .int .i64 6] t))).cell? ⟨wr.heap.size, i, none⟩ = some (.int .i64 (gt [-1, 5, 6] i)) := by
  intro i hi
  rw [World.cell?_alloc_new]
  rcases (by omega : i = 0 ∨ i = 1 ∨ i = 2) with rfl | rfl | rfl <;> rfl

set_option maxRecDepth 100000 in
set_option maxHeartbeats 4000000 in
theorem l1Bent_calls (p : Nat) (a : Option Addr) (len cap t : Nat) (w : World) (ht : t ≤ 990000) (hs : Src w p a len cap t) :
    Calls Try.prog 62 #[.pointer (some ⟨p, 0, none⟩)] w fun e w' => ∃ ra n rc xs t', e = .returned (.agg #[.slice ra n rc]) ∧ Fr w' w.heap.size ra n xs ∧ Src w' p a len cap t' ∧ t' ≤ t + 10 ∧ Outside p (p + 1) w w' := by
  have hp : p < w.heap.size := hs.1
  have hpn : p + 1 ≤ w.heap.size := hp
  go_enter Try.func62, Try.ntmps62
  go_wp2_with fail
  refine (l1Draw_calls p a len cap t _ (by omega) (hs.below ((Below.refl _ _).alloc (Nat.le_refl _) _))).mono ?_
  rintro e w1 ⟨ra, rc, zs, t1, rfl, hcap, ho, s1, ht1, o1⟩
  obtain ⟨g, rfl, hgB, hgT, blk, h4⟩ := ho.four
  simp only [World.size_alloc] at hgB
  have hN1 : w.heap.size < w1.heap.size := by have := o1.size; simp at this; omega
  have rc1 : w1.cell? ⟨w.heap.size, 0, none⟩ = some (.slice none 0 0) := o1.cell (q := ⟨w.heap.size, 0, none⟩) (by simp) hpn (by go_simp)
  have rf1 : w1.frozen? ⟨w.heap.size, 0, none⟩ = false := o1.frozen (q := ⟨w.heap.size, 0, none⟩) (by simp) hpn (by go_simp)
  have o1w : Outside p (p + 1) w w1 := (Outside.alloc _ _ _ _).trans o1
  have ha := (Below.refl w1.heap.size w1).alloc (Nat.le_refl _) (.cells #[.slice (some ⟨g, 0, none⟩) 4 rc] 26)
  clear ho o1
  go_wp2_with fail
  refine (l1Next_calls p a len cap t1 12 _ (by omega) (by omega) (by omega) (s1.below ha)).mono ?_
  rintro e w2 ⟨q, rfl, q0, q1, s2, o2⟩
  have hpg : p < g := by omega
  have hp1 : p + 1 ≤ w1.heap.size := by omega
  have x2 : w2.cell? ⟨w1.heap.size, 0, none⟩ = some (.slice (some ⟨g, 0, none⟩) 4 rc) := o2.cell (q := ⟨w1.heap.size, 0, none⟩) (by simp) hp1 (by go_simp)
  have xf2 : w2.frozen? ⟨w1.heap.size, 0, none⟩ = false := o2.frozen (q := ⟨w1.heap.size, 0, none⟩) (by simp) hp1 (by go_simp)
  have hn2 : w1.heap.size < w2.heap.size := by have := o2.size; simp at this; omega
  have hN2 : w.heap.size < w2.heap.size := by omega
  have rc2 : w2.cell? ⟨w.heap.size, 0, none⟩ = some (.slice none 0 0) := o2.cell (q := ⟨w.heap.size, 0, none⟩) (by simp; omega) hpn (by go_simp)
  have rf2 : w2.frozen? ⟨w.heap.size, 0, none⟩ = false := o2.frozen (q := ⟨w.heap.size, 0, none⟩) (by simp; omega) hpn (by go_simp)
  have blk2 : Blk w2 g zs := (blk.below ha).outside o2 hpg
  have o2w : Outside p (p + 1) w w2 := (o1w.trans (Outside.alloc _ _ _ _)).trans o2
  clear rc1 rf1 blk s1 o1w ha o2
  have hgw : w.heap.size ≠ g := by omega
  have hg1 : w1.heap.size ≠ g := by omega
  by_cases hq0 : q = 0
  · have hb0 : (q == 0) = true := by simp [hq0]
    have Hs2 := hide s2
    have Ho2 := hide o2w
    have Hb2 := hide blk2
    clear s2 o2w blk2 hq0 q0 q1
    have hne : w1.heap.size ≠ w.heap.size := by omega
    have hcapi : (4 : Int) ≤ (rc : Int) := by omega
    have ru : (w2.setCell ⟨w1.heap.size, 0, none⟩ (.slice (some ⟨g, 1, none⟩) 3 (rc - 1))).cell? ⟨w.heap.size, 0, none⟩ = some (.slice none 0 0) := by
      rw [World.cell?_setCell_other _ _ _ _ (fun e => hne (by injection e with e1))]; exact rc2
    go_wp2
    refine bodyPost_ret (v := .agg #[.slice (some ⟨g, 1, none⟩) 3 (rc - 1)]) (by simp [results, Try.results62, go_sem, rc2]) rfl ⟨_, 3, _, zs.drop 1, _, rfl, Fr.tail ((Hb2.out.setCell (by simpa using hg1) _).setCell (by simpa using hgw) _) (by omega) h4, (Hs2.out.setCell (by show p < w1.heap.size; omega) _).setCell (by exact hp) _, by omega, (Ho2.out.setNew (by show w.heap.size ≤ w1.heap.size; omega) _).setNew (Nat.le_refl _) _⟩
  · have hb0 : (q == 0) = false := by simp [hq0]
    by_cases hq1 : q = 1
    · have hb1 : (q == 1) = true := by simp [hq1]
      have htt : t1 + 1 ≤ 1000000 := by omega
      have htt2 : t1 + 1 + 1 ≤ 1000000 := by omega
      have Hs2 := hide s2
      have Ho2 := hide o2w
      have Hb2 := hide blk2
      clear s2 o2w blk2 hq0 hq1 q0 q1
      have HA := hide (Src.drew Hs2.out)
      have HB := hide (Src.drew (Hs2.out.below ((Below.refl w2.heap.size w2).alloc (Nat.le_refl _) (.cells #[.int .i64 (-1), .int .i64 5, .int .i64 6] 2))))
      have HOA := hide (Outside.drew (Outside.refl p (p + 1) w2))
      have HOB := hide (Outside.drew (Outside.alloc p (p + 1) w2 (.cells #[.int .i64 (-1), .int .i64 5, .int .i64 6] 2)))
      have hgs2 : w2.heap.size < ((w2.alloc (.cells #[.int .i64 (-1), .int .i64 5, .int .i64 6] 2)).drew).heap.size := by simp
      have HG := hide hgs2
      have hpw2 : p < w2.heap.size := by omega
      have hpw2' : p + 1 ≤ w2.heap.size := hpw2
      clear hgs2
      go_wp2_with fail
      go_region_with (first
        | (go_at_call 63; refine (l1Next_calls p a len cap (t1 + 1) 4 _ (by decide) (by decide) htt ?_).mono ?_; (first | with_reducible exact HA.out | with_reducible exact HB.out); rintro e w3 ⟨r, rfl, r0, r4, s3, o3⟩; have o23 : Outside p (p + 1) w2 w3 := (by first | with_reducible exact Outside.trans HOA.out o3 | with_reducible exact Outside.trans HOB.out o3); have x3 := Outside.cell (q := ⟨w1.heap.size, 0, none⟩) o23 hn2 hp1 x2; have HB3 := hide (Blk.outside Hb2.out o23 hpg); have HX := hide (idx_lt r0 r4); have S3 := hide s3; have O3 := hide o23; have O3r := hide o3; have hpw3 : p < w3.heap.size := Nat.lt_of_lt_of_le hpw2 o23.size; have hn3 : w1.heap.size < w3.heap.size := Nat.lt_of_lt_of_le hn2 o23.size; clear s3 o3 o23)
        | (go_at_call_of 64 (Value.slice (some ⟨w2.heap.size, 0, none⟩) 3 3); refine (l1Pick_calls p a len cap (t1 + 1 + 1) w2.heap.size 3 3 [-1, 5, 6] _ (by decide) (by decide) htt2 S3.out hpw2 (Nat.lt_of_lt_of_le HG.out O3r.out.size) rfl ?_).mono ?_; exact (fun i hi => O3r.out.cell (q := ⟨w2.heap.size, i, none⟩) HG.out hpw2' (three_at i hi)); rintro e w4 ⟨y, rfl, s4, o4⟩; have o34 : Outside p (p + 1) w3 w4 := o4; have O4 := hide o34; have S4 := hide s4; have x4 := Outside.cell (q := ⟨w1.heap.size, 0, none⟩) (Outside.trans O3.out o34) hn2 hp1 x2; have HB4 := hide (Blk.outside HB3.out o34 hpg); have hc4 := HB4.out.2.1 r.toNat (h4.symm ▸ HX.out); have hf4 := HB4.out.2.2 r.toNat; clear s4 o4 o34)
        | (go_at_call_of 64 (Value.slice (some ⟨w3.heap.size, 0, none⟩) 3 3); refine (l1Pick_calls p a len cap (t1 + 1 + 1) w3.heap.size 3 3 [-1, 5, 6] _ (by decide) (by decide) htt2 (S3.out.below ((Below.refl w3.heap.size w3).alloc (Nat.le_refl _) (.cells #[.int .i64 (-1), .int .i64 5, .int .i64 6] 2))) hpw3 ?_ rfl ?_).mono ?_; (simp); exact three_at; rintro e w4 ⟨y, rfl, s4, o4⟩; have o34 := Outside.trans (Outside.alloc p (p + 1) w3 (.cells #[.int .i64 (-1), .int .i64 5, .int .i64 6] 2)) o4; have O4 := hide o34; have S4 := hide s4; have x4 := Outside.cell (q := ⟨w1.heap.size, 0, none⟩) (Outside.trans O3.out o34) hn2 hp1 x2; have HB4 := hide (Blk.outside HB3.out o34 hpg); have hc4 := HB4.out.2.1 r.toNat (h4.symm ▸ HX.out); have hf4 := HB4.out.2.2 r.toNat; clear s4 o4 o34))
      all_goals
        have O24 := hide (O3.out.trans O4.out)
        have xu : (w4.setCell ⟨g, r.toNat, none⟩ (.int .i64 y)).cell? ⟨w1.heap.size, 0, none⟩ = some (.slice (some ⟨g, 0, none⟩) 4 rc) := by
          rw [World.cell?_setCell_other _ _ _ _ (fun e => hg1 (by injection e with e1; exact e1.symm))]; exact x4
        have ru : (w4.setCell ⟨g, r.toNat, none⟩ (.int .i64 y)).cell? ⟨w.heap.size, 0, none⟩ = some (.slice none 0 0) := by
          rw [World.cell?_setCell_other _ _ _ _ (fun e => hgw (by injection e with e1; exact e1.symm))]; exact O24.out.cell (q := ⟨w.heap.size, 0, none⟩) hN2 hpn rc2
        have rfu : (w4.setCell ⟨g, r.toNat, none⟩ (.int .i64 y)).frozen? ⟨w.heap.size, 0, none⟩ = false := by
          rw [World.frozen?_setCell]; exact O24.out.frozen (q := ⟨w.heap.size, 0, none⟩) hN2 hpn rf2
        have bu := hide (Blk.store (x := y) HB4.out (h4.symm ▸ HX.out))
        have su := hide (S4.out.setCell (q := ⟨g, r.toNat, none⟩) hpg (.int .i64 y))
        have ou := hide ((Ho2.out.trans O24.out).setNew (q := ⟨g, r.toNat, none⟩) (by show w.heap.size ≤ g; omega) (.int .i64 y))
        have hlen : (zs.set r.toNat y).length = 4 := by rw [List.length_set]; exact h4
        clear x3 x2 x4 rc2 rf2 hc4 hf4
        go_wp2
        refine bodyPost_ret (v := .agg #[.slice (some ⟨g, 0, none⟩) 4 rc]) (by simp [results, Try.results62, go_sem, ru]) rfl ⟨_, 4, rc, _, _, rfl, Fr.ofBlk (bu.out.setCell (by simpa using hgw) _) (by omega) hlen, su.out.setCell (by exact hp) _, by omega, ou.out.setNew (Nat.le_refl _) _⟩
    · have hb1 : (q == 1) = false := by simp [hq1]
      have Hs2 := hide s2
      have Ho2 := hide o2w
      have Hb2 := hide blk2
      clear s2 o2w blk2 hq0 hq1 q0 q1
      go_wp2
      refine bodyPost_ret (v := .agg #[.slice (some ⟨g, 0, none⟩) 4 rc]) (by simp [results, Try.results62, go_sem, rc2]) rfl ⟨_, 4, rc, zs, _, rfl, Fr.ofBlk (Hb2.out.setCell (by simpa using hgw) _) (by omega) h4, Hs2.out.setCell (by exact hp) _, by omega, Ho2.out.setNew (Nat.le_refl _) _⟩

end Go.Proofs.Ytdcfdmcooonfkaa
