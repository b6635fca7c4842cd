import Derived.Test.YtfnknfpioagjcaaL4Copy
import Derived.WalkKit
import Derived.ProofKit
import Derived.OpenShut
import Derived.ShutString
import Derived.ChangeOld
import Derived.Below
import Derived.WalkSpells
import Derived.Deep.QuietTactic
import Derived.BigQuiet
import Derived.Deep.RegionWith
import Derived.Deep.WholeRow
import Derived.Deep.DeepCutAuto
import Derived.Deep.RegionHeld2
import Derived.Deep.AppendLies
import Derived.Deep.RegionLaw
namespace Go.Proofs.Ytfnknfpioagjcaa
open Go.ChangeShapes Go.WideShapes Go.ChangeAt Go.RowKit

/-- a variable of a cache at block P: its size, and a row of its own from B on. -/
structure CV (w : World) (B P : Nat) (s : Int) (v : Value) (n : Nat) (ls : List (Int × Int × Int)) : Prop where
  hB : B ≤ P
  lt : P < w.heap.size
  c0 : w.cell? ⟨P, 0, none⟩ = some (.int .i64 s)
  c1 : w.cell? ⟨P, 1, none⟩ = some v
  f0 : w.frozen? ⟨P, 0, none⟩ = false
  f1 : w.frozen? ⟨P, 1, none⟩ = false
  own : w.ownsRow B 43 3 v n (vs3 ls)
  len : ls.length = n
  ne : v.ownBlock ≠ some P

theorem own_sln {w : World} {B n : Nat} {e : TypeId} {a : Option Addr} {c : Nat} {ls : List (Int × Int × Int)} (h : w.ownsRow B e 3 (.slice a n c) n (vs3 ls)) (hl : ls.length = n) : Sln w a n ls := by
  refine ⟨hl, fun hp => ?_⟩
  obtain ⟨g, cap, hv, _, hlt⟩ := h.form hp
  simp only [Value.slice.injEq] at hv
  obtain ⟨rfl, _, rfl⟩ := hv
  exact ⟨g, 0, rfl, hlt, fun i hi => by rw [Nat.zero_add]; exact own_cell h hi⟩

theorem CV.below {w w' : World} {B P : Nat} {s : Int} {v : Value} {n : Nat} {ls : List (Int × Int × Int)} (h : CV w B P s v n ls) (hb : Below w.heap.size w w') : CV w' B P s v n ls :=
  ⟨h.hB, by have := hb.size; have := h.lt; omega, (hb.cell (p := ⟨P, 0, none⟩) h.lt).trans h.c0, (hb.cell (p := ⟨P, 1, none⟩) h.lt).trans h.c1, (hb.frozen (p := ⟨P, 0, none⟩) h.lt).trans h.f0, (hb.frozen (p := ⟨P, 1, none⟩) h.lt).trans h.f1, own_below h.own hb, h.len, h.ne⟩

/-- the field of lines is stored anew. -/
theorem CV.put {w u : World} {B P : Nat} {s : Int} {v v' : Value} {n m : Nat} {ls rs : List (Int × Int × Int)} (h : CV w B P s v n ls) (c0 : u.cell? ⟨P, 0, none⟩ = some (.int .i64 s)) (c1 : ∃ x, u.cell? ⟨P, 1, none⟩ = some x) (f0 : u.frozen? ⟨P, 0, none⟩ = false) (f1 : u.frozen? ⟨P, 1, none⟩ = false)
    (ho : u.ownsRow B 43 3 v' m (vs3 rs)) (hl : rs.length = m) (hne : v'.ownBlock ≠ some P) : CV (u.setCell ⟨P, 1, none⟩ v') B P s v' m rs := by
  obtain ⟨x, c1⟩ := c1
  refine ⟨h.hB, by simpa using World.block_lt_of_cell? _ _ c1, ?_, World.cell?_setCell_same _ _ _ c1, by simpa using f0, by simpa using f1, ownsRow_setCell_other ho (by exact hne) _, hl, hne⟩
  rw [World.cell?_setCell_other _ _ _ _ (fun e => by injection e with _ e2; omega)]
  exact c0

theorem three_new {W : World} {N : Nat} {x : Int × Int × Int} (h0 : W.cell? ⟨N, 0, none⟩ = some (.int .i64 x.1)) (h1 : W.cell? ⟨N, 1, none⟩ = some (.int .i64 x.2.1)) (h2 : W.cell? ⟨N, 2, none⟩ = some (.int .i64 x.2.2)) : ∀ j u, (vs3 [x])[j]? = some u → W.cell? ((Addr.mk N 0 none).add j) = some u := by
  intro j u hj
  match j, hj with
  | 0, hj => simp [fl3] at hj; subst hj; simpa [Addr.add] using h0
  | 1, hj => simp [fl3] at hj; subst hj; simpa [Addr.add] using h1
  | 2, hj => simp [fl3] at hj; subst hj; simpa [Addr.add] using h2
  | j + 3, hj => simp [fl3] at hj

theorem vs3_append (xs ys : List (Int × Int × Int)) : vs3 (xs ++ ys) = vs3 xs ++ vs3 ys := by rw [vs3, fl3_append, List.map_append]

set_option maxRecDepth 100000 in
set_option maxHeartbeats 2000000 in
theorem l4Flush_V (B P : Nat) (s : Int) (a : Option Addr) (n c : Nat) (ls : List (Int × Int × Int)) (d t : Int) (w : World) (hn : n ≤ 1048576) (hv : CV w B P s (.slice a n c) n ls) :
    Calls Try.prog 44 #[.pointer (some ⟨P, 0, none⟩), .int .i64 d, .int .i64 t] w fun e w' => e = .returned (.tuple #[]) ∧ ∃ ra rc, CV w' B P s (.slice ra (flL ls d t).length rc) (flL ls d t).length (flL ls d t) ∧ Below B w w' := by
  have hs := own_sln hv.own hv.len
  have hlen := hv.len
  have hP := hv.lt
  have hBP := hv.hB
  have HV := hide hv
  have c1 := hv.c1
  have HP1 := hide c1
  obtain ⟨i0, hi, hz0, hz1, hz2⟩ := info_parts infoLine
  have HO0 := hide (own_lit0 w 43 (B := w.heap.size) (Nat.le_refl _))
  clear hv
  go_enter Try.func44, Try.ntmps44
  go_wp2
  clear c1
  go_loopw [6, 7] (fun l0 i wr => ∃ (k q : Nat) (lv : Value), k ≤ n ∧ q ≤ k ∧ lv = l0 ∧ i = .int .i64 k ∧ (flL (ls.take k) d t).length = q ∧ wr.ownsRow w.heap.size 43 3 lv q (vs3 (flL (ls.take k) d t)) ∧ Below w.heap.size w wr) (fun _ i _ => n - (intOf i).toNat)
  case atStart => exact ⟨0, 0, _, Nat.zero_le _, Nat.le_refl _, rfl, rfl, rfl, HO0.out, (Below.refl _ _).alloc (Nat.le_refl _) _⟩
  case round =>
    clear HO0
    obtain ⟨k, q, lv, hk, hqk, rfl, rfl, hq, ho, hbel⟩ := hrel
    have c1 := (hbel.cell (p := ⟨P, 1, none⟩) hP).trans HP1.out
    by_cases hlt : k < n
    · obtain ⟨_, hs'⟩ := hs
      obtain ⟨b, off, rfl, hb, hc⟩ := hs' (by omega)
      obtain ⟨r0, r1, r2⟩ := cells3 hc hlt
      have p0 := (hbel.cell (p := ⟨b, off + k * 3, none⟩) hb).trans r0
      have p1 := (hbel.cell (p := ⟨b, off + k * 3 + 1, none⟩) hb).trans r1
      have p2 := (hbel.cell (p := ⟨b, off + k * 3 + 2, none⟩) hb).trans r2
      clear hc r0 r1 r2
      have hbr : b < wr.heap.size := by have := hbel.size; omega
      have hPr : P < wr.heap.size := by have := hbel.size; omega
      have hzr := hbel.size
      have HO := hide ho
      have HB := hide hbel
      have HQ := hide hq
      have i0' : (0 : Int) ≤ (k : Int) := by omega
      have i1' : (k : Int) < (n : Int) := by omega
      clear ho hbel hq
      by_cases h1 : d = -1
      · have e1 : (d == -1) = true := by simpa using h1
        by_cases h3 : t = -1
        · have e3 : (t == -1) = true := by simpa using h3
          have HN := hide (flL_drop (d := d) (t := t) (by omega : k < ls.length) (by simp [gone, h1, h3]))
          clear h1 h3
          go_wp2
          go_roundw
          case rel => exact ⟨k + 1, q, _, by omega, by omega, rfl, by go_num, by rw [HN.out]; exact HQ.out, by rw [HN.out]; exact own_below HO.out ((Below.refl _ _).alloc (Nat.le_refl _) _), (HB.out.alloc hzr _)⟩
          case measure => simp [intOf]; omega
        · have e3 : (t == -1) = false := by simpa using h3
          by_cases h4 : (g3 ls k).2.1 = t
          · have e4 : ((g3 ls k).2.1 == t) = true := by simpa using h4
            have HN := hide (flL_drop (d := d) (t := t) (by omega : k < ls.length) (by simp [gone, h1, h4]))
            clear h1 h3 h4
            go_wp2
            go_roundw
            case rel => exact ⟨k + 1, q, _, by omega, by omega, rfl, by go_num, by rw [HN.out]; exact HQ.out, by rw [HN.out]; exact own_below HO.out ((Below.refl _ _).alloc (Nat.le_refl _) _), (HB.out.alloc hzr _)⟩
            case measure => simp [intOf]; omega
          · have e4 : ((g3 ls k).2.1 == t) = false := by simpa using h4
            have HN := hide (flL_keep (d := d) (t := t) (by omega : k < ls.length) (by simp [gone, h3, h4]))
            clear h1 h3 h4
            have HW := hide (own_below (own_below HO.out ((Below.refl _ _).alloc (Nat.le_refl _) (.cells #[.int .i64 (g3 ls k).1, .int .i64 (g3 ls k).2.1, .int .i64 (g3 ls k).2.2] 43))) ((Below.refl _ _).alloc (Nat.le_refl _) (.cells #[.int .i64 (g3 ls k).1, .int .i64 (g3 ls k).2.1, .int .i64 (g3 ls k).2.2] 43)))
            have HM1 : Hid (q + 1 ≤ maxLen) := by show _ ≤ _; unfold maxLen; omega
            have HM2 : Hid ((q + 1) * 24 ≤ 140737488355328) := by show _ ≤ _; omega
            have HBS : Hid (w.heap.size ≤ ((wr.alloc (.cells #[.int .i64 (g3 ls k).1, .int .i64 (g3 ls k).2.1, .int .i64 (g3 ls k).2.2] 43)).alloc (.cells #[.int .i64 (g3 ls k).1, .int .i64 (g3 ls k).2.1, .int .i64 (g3 ls k).2.2] 43)).heap.size) := by show _ ≤ _; simp; omega
            go_wp2_with (first
              | (at_builtin; refine wpList_append_own _ rfl _ _ 27 rfl w.heap.size 43 i0 (.agg #[.int .i64 0, .int .i64 0, .int .i64 0]) 3 24 Try.underlying27 hi hz0 hz1 hz2 rfl (by decide) lv q (vs3 (flL (ls.take k) d t)) rfl HW.out ⟨wr.heap.size + 1, 0, none⟩ 1 1 (vs3 [g3 ls k]) rfl rfl (three_new (by go_simp) (by go_simp) (by go_simp)) ints_one HM1.out HM2.out HBS.out ?_)
              | go_in)
            intro v' w1 hown' hgrow _
            have HF : Hid (w1.ownsRow w.heap.size 43 3 v' (q + 1) (vs3 (flL (ls.take (k + 1)) d t)) ∧ (flL (ls.take (k + 1)) d t).length = q + 1) := ⟨by rw [HN.out, vs3_append]; exact hown', by rw [HN.out, List.length_append, HQ.out]; rfl⟩
            have HB1 := hide (((HB.out.alloc hzr _).alloc (by simp; omega) _).grown hgrow (by simp; omega) (fun g hg => by have := (HO.out.lt g hg).1; omega))
            clear hown' hgrow HW
            go_wp2
            go_roundw
            case rel => exact ⟨k + 1, q + 1, _, by omega, by omega, rfl, by go_num, HF.out.2, HF.out.1, HB1.out⟩
            case measure => simp [intOf]; omega
      · have e1 : (d == -1) = false := by simpa using h1
        by_cases h2 : (g3 ls k).1 = d
        · have e2 : ((g3 ls k).1 == d) = true := by simpa using h2
          by_cases h3 : t = -1
          · have e3 : (t == -1) = true := by simpa using h3
            have HN := hide (flL_drop (d := d) (t := t) (by omega : k < ls.length) (by simp [gone, h2, h3]))
            clear h1 h2 h3
            go_wp2
            go_roundw
            case rel => exact ⟨k + 1, q, _, by omega, by omega, rfl, by go_num, by rw [HN.out]; exact HQ.out, by rw [HN.out]; exact own_below HO.out ((Below.refl _ _).alloc (Nat.le_refl _) _), (HB.out.alloc hzr _)⟩
            case measure => simp [intOf]; omega
          · have e3 : (t == -1) = false := by simpa using h3
            by_cases h4 : (g3 ls k).2.1 = t
            · have e4 : ((g3 ls k).2.1 == t) = true := by simpa using h4
              have HN := hide (flL_drop (d := d) (t := t) (by omega : k < ls.length) (by simp [gone, h2, h4]))
              clear h1 h2 h3 h4
              go_wp2
              go_roundw
              case rel => exact ⟨k + 1, q, _, by omega, by omega, rfl, by go_num, by rw [HN.out]; exact HQ.out, by rw [HN.out]; exact own_below HO.out ((Below.refl _ _).alloc (Nat.le_refl _) _), (HB.out.alloc hzr _)⟩
              case measure => simp [intOf]; omega
            · have e4 : ((g3 ls k).2.1 == t) = false := by simpa using h4
              have HN := hide (flL_keep (d := d) (t := t) (by omega : k < ls.length) (by simp [gone, h3, h4]))
              clear h1 h2 h3 h4
              have HW := hide (own_below (own_below HO.out ((Below.refl _ _).alloc (Nat.le_refl _) (.cells #[.int .i64 (g3 ls k).1, .int .i64 (g3 ls k).2.1, .int .i64 (g3 ls k).2.2] 43))) ((Below.refl _ _).alloc (Nat.le_refl _) (.cells #[.int .i64 (g3 ls k).1, .int .i64 (g3 ls k).2.1, .int .i64 (g3 ls k).2.2] 43)))
              have HM1 : Hid (q + 1 ≤ maxLen) := by show _ ≤ _; unfold maxLen; omega
              have HM2 : Hid ((q + 1) * 24 ≤ 140737488355328) := by show _ ≤ _; omega
              have HBS : Hid (w.heap.size ≤ ((wr.alloc (.cells #[.int .i64 (g3 ls k).1, .int .i64 (g3 ls k).2.1, .int .i64 (g3 ls k).2.2] 43)).alloc (.cells #[.int .i64 (g3 ls k).1, .int .i64 (g3 ls k).2.1, .int .i64 (g3 ls k).2.2] 43)).heap.size) := by show _ ≤ _; simp; omega
              go_wp2_with (first
                | (at_builtin; refine wpList_append_own _ rfl _ _ 27 rfl w.heap.size 43 i0 (.agg #[.int .i64 0, .int .i64 0, .int .i64 0]) 3 24 Try.underlying27 hi hz0 hz1 hz2 rfl (by decide) lv q (vs3 (flL (ls.take k) d t)) rfl HW.out ⟨wr.heap.size + 1, 0, none⟩ 1 1 (vs3 [g3 ls k]) rfl rfl (three_new (by go_simp) (by go_simp) (by go_simp)) ints_one HM1.out HM2.out HBS.out ?_)
                | go_in)
              intro v' w1 hown' hgrow _
              have HF : Hid (w1.ownsRow w.heap.size 43 3 v' (q + 1) (vs3 (flL (ls.take (k + 1)) d t)) ∧ (flL (ls.take (k + 1)) d t).length = q + 1) := ⟨by rw [HN.out, vs3_append]; exact hown', by rw [HN.out, List.length_append, HQ.out]; rfl⟩
              have HB1 := hide (((HB.out.alloc hzr _).alloc (by simp; omega) _).grown hgrow (by simp; omega) (fun g hg => by have := (HO.out.lt g hg).1; omega))
              clear hown' hgrow HW
              go_wp2
              go_roundw
              case rel => exact ⟨k + 1, q + 1, _, by omega, by omega, rfl, by go_num, HF.out.2, HF.out.1, HB1.out⟩
              case measure => simp [intOf]; omega
        · have e2 : ((g3 ls k).1 == d) = false := by simpa using h2
          have HN := hide (flL_keep (d := d) (t := t) (by omega : k < ls.length) (by simp [gone, h1, h2]))
          clear h1 h2
          have HW := hide (own_below (own_below HO.out ((Below.refl _ _).alloc (Nat.le_refl _) (.cells #[.int .i64 (g3 ls k).1, .int .i64 (g3 ls k).2.1, .int .i64 (g3 ls k).2.2] 43))) ((Below.refl _ _).alloc (Nat.le_refl _) (.cells #[.int .i64 (g3 ls k).1, .int .i64 (g3 ls k).2.1, .int .i64 (g3 ls k).2.2] 43)))
          have HM1 : Hid (q + 1 ≤ maxLen) := by show _ ≤ _; unfold maxLen; omega
          have HM2 : Hid ((q + 1) * 24 ≤ 140737488355328) := by show _ ≤ _; omega
          have HBS : Hid (w.heap.size ≤ ((wr.alloc (.cells #[.int .i64 (g3 ls k).1, .int .i64 (g3 ls k).2.1, .int .i64 (g3 ls k).2.2] 43)).alloc (.cells #[.int .i64 (g3 ls k).1, .int .i64 (g3 ls k).2.1, .int .i64 (g3 ls k).2.2] 43)).heap.size) := by show _ ≤ _; simp; omega
          go_wp2_with (first
            | (at_builtin; refine wpList_append_own _ rfl _ _ 27 rfl w.heap.size 43 i0 (.agg #[.int .i64 0, .int .i64 0, .int .i64 0]) 3 24 Try.underlying27 hi hz0 hz1 hz2 rfl (by decide) lv q (vs3 (flL (ls.take k) d t)) rfl HW.out ⟨wr.heap.size + 1, 0, none⟩ 1 1 (vs3 [g3 ls k]) rfl rfl (three_new (by go_simp) (by go_simp) (by go_simp)) ints_one HM1.out HM2.out HBS.out ?_)
            | go_in)
          intro v' w1 hown' hgrow _
          have HF : Hid (w1.ownsRow w.heap.size 43 3 v' (q + 1) (vs3 (flL (ls.take (k + 1)) d t)) ∧ (flL (ls.take (k + 1)) d t).length = q + 1) := ⟨by rw [HN.out, vs3_append]; exact hown', by rw [HN.out, List.length_append, HQ.out]; rfl⟩
          have HB1 := hide (((HB.out.alloc hzr _).alloc (by simp; omega) _).grown hgrow (by simp; omega) (fun g hg => by have := (HO.out.lt g hg).1; omega))
          clear hown' hgrow HW
          go_wp2
          go_roundw
          case rel => exact ⟨k + 1, q + 1, _, by omega, by omega, rfl, by go_num, HF.out.2, HF.out.1, HB1.out⟩
          case measure => simp [intOf]; omega
    · have hkn : k = n := by omega
      rw [hkn, ← hlen, List.take_length] at hq ho
      have hzr := hbel.size
      have hne : lv.ownBlock ≠ some P := fun e => by have := (ho.lt P e).1; omega
      have hB1 : B ≤ w.heap.size := by omega
      obtain ⟨ra, rc, rfl, _⟩ := own_ol (by omega) hq ho
      have c0 := (hbel.cell (p := ⟨P, 0, none⟩) hP).trans HV.out.c0
      have f0 := (hbel.frozen (p := ⟨P, 0, none⟩) hP).trans HV.out.f0
      have f1 := (hbel.frozen (p := ⟨P, 1, none⟩) hP).trans HV.out.f1
      have HR := hide (HV.out.put c0 ⟨_, c1⟩ f0 f1 (own_mono ho hB1) hq hne)
      have HE := hide ((hbel.mono hB1).setCell (p := ⟨P, 1, none⟩) (by exact hBP) (.slice ra q rc))
      subst hq
      clear ho hbel c0 f0 hne
      go_wp2
      exact bodyPost_end (v := .tuple #[]) (by simp [results, Try.results44, go_sem]) rfl ⟨rfl, _, _, HR.out, HE.out⟩

end Go.Proofs.Ytfnknfpioagjcaa
