import Derived.Test.YtgkjmeogdomgmaaGreatG24
import Derived.Test.YtgkjmeogdomgmaaGreatG12
import Derived.Test.YtgkjmeogdomgmaaGreatG34
import Derived.Test.YtgkjmeogdomgmaaGreatG13
import Derived.WalkKit
import Derived.ProofKit
import Derived.OpenShut
import Derived.ShutString
import Derived.ChangeOld
import Derived.Below
import Derived.WalkSpells
import Derived.Deep.QuietTactic
import Derived.BigQuiet
import Derived.Deep.RegionWith
import Derived.Deep.WholeRow
import Derived.Deep.DeepCutAuto
import Derived.Deep.RegionHeld2
import Derived.Deep.AppendLies
import Derived.Deep.RegionLaw
namespace Go.Proofs.YtgkjmeogdomgmaaGreat
open Go.ChangeShapes Go.WideShapes Go.ChangeAt Go.RowKit

theorem own_sln {w : World} {B n : Nat} {e : TypeId} {a : Option Addr} {c : Nat} {ls : List (Int × Int × Int)} (h : w.ownsRow B e 3 (.slice a n c) n (vs3 ls)) (hl : ls.length = n) : Sln w a n ls := by
  refine ⟨hl, fun hp => ?_⟩
  obtain ⟨g, cap, hv, _, hlt⟩ := h.form hp
  simp only [Value.slice.injEq] at hv
  obtain ⟨rfl, _, rfl⟩ := hv
  exact ⟨g, 0, rfl, hlt, fun i hi => by rw [Nat.zero_add]; exact own_cell h hi⟩

theorem three_newL {W : World} {N : Nat} {x : Int × Int × Int} (h0 : W.cell? ⟨N, 0, none⟩ = some (.int .i64 x.1)) (h1 : W.cell? ⟨N, 1, none⟩ = some (.int .i64 x.2.1)) (h2 : W.cell? ⟨N, 2, none⟩ = some (.int .i64 x.2.2)) : ∀ j u, (vs3 [x])[j]? = some u → W.cell? ((Addr.mk N 0 none).add j) = some u := by
  intro j u hj
  match j, hj with
  | 0, hj => simp [fl3] at hj; subst hj; simpa [Addr.add] using h0
  | 1, hj => simp [fl3] at hj; subst hj; simpa [Addr.add] using h1
  | 2, hj => simp [fl3] at hj; subst hj; simpa [Addr.add] using h2
  | j + 3, hj => simp [fl3] at hj

theorem vs3_append (xs ys : List (Int × Int × Int)) : vs3 (xs ++ ys) = vs3 xs ++ vs3 ys := by rw [vs3, fl3_append, List.map_append]

/-- a line is of d and t, where -1 is of any. -/
def gone (d t : Int) (x : Int × Int × Int) : Bool := (decide (d = -1) || decide (x.1 = d)) && (decide (t = -1) || decide (x.2.1 = t))

def flL (ls : List (Int × Int × Int)) (d t : Int) : List (Int × Int × Int) := ls.filter (fun x => !gone d t x)

theorem take_snoc3 (ls : List (Int × Int × Int)) (k : Nat) (h : k < ls.length) : ls.take (k + 1) = ls.take k ++ [g3 ls k] := by
  rw [List.take_succ_eq_append_getElem h]
  simp [g3, h]

theorem flL_keep {ls : List (Int × Int × Int)} {d t : Int} {k : Nat} (h : k < ls.length) (hg : gone d t (g3 ls k) = false) : flL (ls.take (k + 1)) d t = flL (ls.take k) d t ++ [g3 ls k] := by
  rw [take_snoc3 ls k h]
  simp [flL, hg]

theorem flL_drop {ls : List (Int × Int × Int)} {d t : Int} {k : Nat} (h : k < ls.length) (hg : gone d t (g3 ls k) = true) : flL (ls.take (k + 1)) d t = flL (ls.take k) d t := by
  rw [take_snoc3 ls k h]
  simp [flL, hg]

theorem length_flL' (ls : List (Int × Int × Int)) (d t : Int) : (flL ls d t).length ≤ ls.length := List.length_filter_le _ _

/-- the cache of a system that lies in block P (its size in cell 6, its lines in cell 7), as it is turned from w0 on: the lines' row lies in blocks of S, or in new ones. -/
structure CW (w0 : World) (S : Nat → Prop) (P : Nat) (s : Int) (v : Value) (n : Nat) (ls : List (Int × Int × Int)) (w : World) : Prop where
  lt : P < w0.heap.size
  c6 : w0.cell? ⟨P, 6, none⟩ = some (.int .i64 s)
  kp : ∀ q, q ≠ 7 → w.cell? ⟨P, q, none⟩ = w0.cell? ⟨P, q, none⟩
  c1 : w.cell? ⟨P, 7, none⟩ = some v
  fz : ∀ q, w.frozen? ⟨P, q, none⟩ = false
  own : w.ownsRow 0 160 3 v n (vs3 ls)
  len : ls.length = n
  hS : ∀ g, v.ownBlock = some g → (S g ∨ w0.heap.size ≤ g) ∧ g < w.heap.size
  nS : ¬ S P
  out : OutS (fun k => S k ∨ k = P) w0 w

theorem CW.ltw {w0 w : World} {S : Nat → Prop} {P : Nat} {s : Int} {v : Value} {n : Nat} {ls : List (Int × Int × Int)} (h : CW w0 S P s v n ls w) : P < w.heap.size := Nat.lt_of_lt_of_le h.lt h.out.size

theorem CW.c0 {w0 w : World} {S : Nat → Prop} {P : Nat} {s : Int} {v : Value} {n : Nat} {ls : List (Int × Int × Int)} (h : CW w0 S P s v n ls w) : w.cell? ⟨P, 6, none⟩ = some (.int .i64 s) := (h.kp 6 (by decide)).trans h.c6

theorem CW.ne {w0 w : World} {S : Nat → Prop} {P : Nat} {s : Int} {v : Value} {n : Nat} {ls : List (Int × Int × Int)} (h : CW w0 S P s v n ls w) : v.ownBlock ≠ some P := fun e => by
  rcases (h.hS P e).1 with h1 | h1
  · exact h.nS h1
  · have := h.lt; omega

theorem own_belowZ {w w' : World} {n : Nat} {e : TypeId} {v : Value} {xs : List Value} (h : w.ownsRow 0 e 3 v n xs) (hl : ∀ g, v.ownBlock = some g → g < w.heap.size) (hb : Below w.heap.size w w') : w'.ownsRow 0 e 3 v n xs :=
  owns_loc (S := fun g => g < w.heap.size) hl (fun k hk _ => hb.block k hk) h

theorem CW.below {w0 w w' : World} {S : Nat → Prop} {P : Nat} {s : Int} {v : Value} {n : Nat} {ls : List (Int × Int × Int)} (h : CW w0 S P s v n ls w) (hb : Below w.heap.size w w') : CW w0 S P s v n ls w' :=
  ⟨h.lt, h.c6, fun q hq => (hb.cell (p := ⟨P, q, none⟩) h.ltw).trans (h.kp q hq), (hb.cell (p := ⟨P, 7, none⟩) h.ltw).trans h.c1, fun q => (hb.frozen (p := ⟨P, q, none⟩) h.ltw).trans (h.fz q), own_belowZ h.own (fun g e => (h.hS g e).2) hb, h.len, fun g e => ⟨(h.hS g e).1, Nat.lt_of_lt_of_le (h.hS g e).2 hb.size⟩, h.nS, h.out.trans (OutS.of_below hb)⟩

/-- the field of lines is stored anew, behind a world in which all but new blocks and the old row's is as it was. -/
theorem CW.put {w0 w u : World} {S : Nat → Prop} {P : Nat} {s : Int} {v v' : Value} {n m : Nat} {ls rs : List (Int × Int × Int)} (h : CW w0 S P s v n ls w) (hu : OutS (fun k => v.ownBlock = some k) w u)
    (ho : u.ownsRow 0 160 3 v' m (vs3 rs)) (hl : rs.length = m) (hn : ∀ g, v'.ownBlock = some g → (v.ownBlock = some g ∨ w.heap.size ≤ g) ∧ g < u.heap.size) :
    u.cell? ⟨P, 7, none⟩ = some v ∧ u.frozen? ⟨P, 7, none⟩ = false ∧ CW w0 S P s v' m rs (u.setCell ⟨P, 7, none⟩ v') ∧ OutS (fun k => v.ownBlock = some k ∨ k = P) w (u.setCell ⟨P, 7, none⟩ v') := by
  have pb : u.heap[P]? = w.heap[P]? := hu.block P h.ltw (fun e => h.ne e)
  have k1 := (World.cell?_of_block (a := ⟨P, 7, none⟩) pb).trans h.c1
  have kf : ∀ q, u.frozen? ⟨P, q, none⟩ = false := fun q => (World.frozen?_of_block (a := ⟨P, q, none⟩) pb).trans (h.fz q)
  have hz := h.out.size
  have hne : v'.ownBlock ≠ some P := fun e => by
    rcases (hn P e).1 with h1 | h1
    · exact h.ne h1
    · have := h.ltw; omega
  refine ⟨k1, kf 7, ⟨h.lt, h.c6, fun q hq => ?_, World.cell?_setCell_same _ _ _ k1, fun q => by simpa using kf q, ownsRow_setCell_other ho (by exact hne) _, hl, fun g e => ⟨?_, by simpa using (hn g e).2⟩, h.nS, ?_⟩, ?_⟩
  · rw [World.cell?_setCell_other _ _ _ _ (fun e => by injection e with _ e2; exact hq e2.symm)]
    exact (World.cell?_of_block (a := ⟨P, q, none⟩) pb).trans (h.kp q hq)
  · rcases (hn g e).1 with h1 | h1
    · exact (h.hS g h1).1
    · exact .inr (by omega)
  · refine OutS.setCell ?_ (by exact .inr rfl) _
    refine ⟨hu.os.trans h.out.os, hu.tape.trans h.out.tape, hu.output.trans h.out.output, Nat.le_trans h.out.size hu.size, fun k hk hn' => ?_⟩
    rw [hu.block k (by omega) (fun e => ?_), h.out.block k hk hn']
    rcases (h.hS k e).1 with h1 | h1
    · exact hn' (.inl h1)
    · omega
  · exact OutS.setCell (hu.mono (fun k e => .inl e)) (by exact .inr rfl) _

set_option maxRecDepth 100000 in
set_option maxHeartbeats 2000000 in
theorem l4Flush_W (w0 : World) (S : Nat → Prop) (P : Nat) (s : Int) (a : Option Addr) (n c : Nat) (ls : List (Int × Int × Int)) (d t : Int) (w : World) (hn : n ≤ 1048576) (hv : CW w0 S P s (.slice a n c) n ls w) :
    Calls Tryz.prog 64 #[.pointer (some ⟨P, 6, none⟩), .int .i64 d, .int .i64 t] w fun e w' => e = .returned (.tuple #[]) ∧ ∃ ra rc, CW w0 S P s (.slice ra (flL ls d t).length rc) (flL ls d t).length (flL ls d t) w' := by
  have hs := own_sln hv.own hv.len
  have hlen := hv.len
  have hP := hv.ltw
  have HV := hide hv
  have c1 := hv.c1
  have HP1 := hide c1
  obtain ⟨i0, hi, hz0, hz1, hz2⟩ := info_parts infoLine
  have HO0 := hide (own_lit0 w 160 (B := w.heap.size) (Nat.le_refl _))
  clear hv
  go_enter Tryz.func64, Tryz.ntmps64
  go_wp2
  clear c1
  go_loopw [6, 7] (fun l0 i wr => ∃ (k q : Nat) (lv : Value), k ≤ n ∧ q ≤ k ∧ lv = l0 ∧ i = .int .i64 k ∧ (flL (ls.take k) d t).length = q ∧ wr.ownsRow w.heap.size 160 3 lv q (vs3 (flL (ls.take k) d t)) ∧ Below w.heap.size w wr) (fun _ i _ => n - (intOf i).toNat)
  case atStart => exact ⟨0, 0, _, Nat.zero_le _, Nat.le_refl _, rfl, rfl, rfl, HO0.out, (Below.refl _ _).alloc (Nat.le_refl _) _⟩
  case round =>
    clear HO0
    obtain ⟨k, q, lv, hk, hqk, rfl, rfl, hq, ho, hbel⟩ := hrel
    have c1 := (hbel.cell (p := ⟨P, 7, none⟩) hP).trans HP1.out
    by_cases hlt : k < n
    · obtain ⟨_, hs'⟩ := hs
      obtain ⟨b, off, rfl, hb, hc⟩ := hs' (by omega)
      obtain ⟨r0, r1, r2⟩ := cells3 hc hlt
      have p0 := (hbel.cell (p := ⟨b, off + k * 3, none⟩) hb).trans r0
      have p1 := (hbel.cell (p := ⟨b, off + k * 3 + 1, none⟩) hb).trans r1
      have p2 := (hbel.cell (p := ⟨b, off + k * 3 + 2, none⟩) hb).trans r2
      clear hc r0 r1 r2
      have hbr : b < wr.heap.size := by have := hbel.size; omega
      have hPr : P < wr.heap.size := by have := hbel.size; omega
      have hzr := hbel.size
      have HO := hide ho
      have HB := hide hbel
      have HQ := hide hq
      have i0' : (0 : Int) ≤ (k : Int) := by omega
      have i1' : (k : Int) < (n : Int) := by omega
      clear ho hbel hq
      by_cases h1 : d = -1
      · have e1 : (d == -1) = true := by simpa using h1
        by_cases h3 : t = -1
        · have e3 : (t == -1) = true := by simpa using h3
          have HN := hide (flL_drop (d := d) (t := t) (by omega : k < ls.length) (by simp [gone, h1, h3]))
          clear h1 h3
          go_wp2
          go_roundw
          case rel => exact ⟨k + 1, q, _, by omega, by omega, rfl, by go_num, by rw [HN.out]; exact HQ.out, by rw [HN.out]; exact own_below HO.out ((Below.refl _ _).alloc (Nat.le_refl _) _), (HB.out.alloc hzr _)⟩
          case measure => simp [intOf]; omega
        · have e3 : (t == -1) = false := by simpa using h3
          by_cases h4 : (g3 ls k).2.1 = t
          · have e4 : ((g3 ls k).2.1 == t) = true := by simpa using h4
            have HN := hide (flL_drop (d := d) (t := t) (by omega : k < ls.length) (by simp [gone, h1, h4]))
            clear h1 h3 h4
            go_wp2
            go_roundw
            case rel => exact ⟨k + 1, q, _, by omega, by omega, rfl, by go_num, by rw [HN.out]; exact HQ.out, by rw [HN.out]; exact own_below HO.out ((Below.refl _ _).alloc (Nat.le_refl _) _), (HB.out.alloc hzr _)⟩
            case measure => simp [intOf]; omega
          · have e4 : ((g3 ls k).2.1 == t) = false := by simpa using h4
            have HN := hide (flL_keep (d := d) (t := t) (by omega : k < ls.length) (by simp [gone, h3, h4]))
            clear h1 h3 h4
            have HW := hide (own_below (own_below HO.out ((Below.refl _ _).alloc (Nat.le_refl _) (.cells #[.int .i64 (g3 ls k).1, .int .i64 (g3 ls k).2.1, .int .i64 (g3 ls k).2.2] 160))) ((Below.refl _ _).alloc (Nat.le_refl _) (.cells #[.int .i64 (g3 ls k).1, .int .i64 (g3 ls k).2.1, .int .i64 (g3 ls k).2.2] 160)))
            have HM1 : Hid (q + 1 ≤ maxLen) := by show _ ≤ _; unfold maxLen; omega
            have HM2 : Hid ((q + 1) * 24 ≤ 140737488355328) := by show _ ≤ _; omega
            have HBS : Hid (w.heap.size ≤ ((wr.alloc (.cells #[.int .i64 (g3 ls k).1, .int .i64 (g3 ls k).2.1, .int .i64 (g3 ls k).2.2] 160)).alloc (.cells #[.int .i64 (g3 ls k).1, .int .i64 (g3 ls k).2.1, .int .i64 (g3 ls k).2.2] 160)).heap.size) := by show _ ≤ _; simp; omega
            go_wp2_with (first
              | (at_builtin; refine wpList_append_own _ rfl _ _ 48 rfl w.heap.size 160 i0 (.agg #[.int .i64 0, .int .i64 0, .int .i64 0]) 3 24 Tryz.underlying48 hi hz0 hz1 hz2 rfl (by decide) lv q (vs3 (flL (ls.take k) d t)) rfl HW.out ⟨wr.heap.size + 1, 0, none⟩ 1 1 (vs3 [g3 ls k]) rfl rfl (three_newL (by go_simp) (by go_simp) (by go_simp)) ints_one HM1.out HM2.out HBS.out ?_)
              | go_in)
            intro v' w1 hown' hgrow _
            have HF : Hid (w1.ownsRow w.heap.size 160 3 v' (q + 1) (vs3 (flL (ls.take (k + 1)) d t)) ∧ (flL (ls.take (k + 1)) d t).length = q + 1) := ⟨by rw [HN.out, vs3_append]; exact hown', by rw [HN.out, List.length_append, HQ.out]; rfl⟩
            have HB1 := hide (((HB.out.alloc hzr _).alloc (by simp; omega) _).grown hgrow (by simp; omega) (fun g hg => by have := (HO.out.lt g hg).1; omega))
            clear hown' hgrow HW
            go_wp2
            go_roundw
            case rel => exact ⟨k + 1, q + 1, _, by omega, by omega, rfl, by go_num, HF.out.2, HF.out.1, HB1.out⟩
            case measure => simp [intOf]; omega
      · have e1 : (d == -1) = false := by simpa using h1
        by_cases h2 : (g3 ls k).1 = d
        · have e2 : ((g3 ls k).1 == d) = true := by simpa using h2
          by_cases h3 : t = -1
          · have e3 : (t == -1) = true := by simpa using h3
            have HN := hide (flL_drop (d := d) (t := t) (by omega : k < ls.length) (by simp [gone, h2, h3]))
            clear h1 h2 h3
            go_wp2
            go_roundw
            case rel => exact ⟨k + 1, q, _, by omega, by omega, rfl, by go_num, by rw [HN.out]; exact HQ.out, by rw [HN.out]; exact own_below HO.out ((Below.refl _ _).alloc (Nat.le_refl _) _), (HB.out.alloc hzr _)⟩
            case measure => simp [intOf]; omega
          · have e3 : (t == -1) = false := by simpa using h3
            by_cases h4 : (g3 ls k).2.1 = t
            · have e4 : ((g3 ls k).2.1 == t) = true := by simpa using h4
              have HN := hide (flL_drop (d := d) (t := t) (by omega : k < ls.length) (by simp [gone, h2, h4]))
              clear h1 h2 h3 h4
              go_wp2
              go_roundw
              case rel => exact ⟨k + 1, q, _, by omega, by omega, rfl, by go_num, by rw [HN.out]; exact HQ.out, by rw [HN.out]; exact own_below HO.out ((Below.refl _ _).alloc (Nat.le_refl _) _), (HB.out.alloc hzr _)⟩
              case measure => simp [intOf]; omega
            · have e4 : ((g3 ls k).2.1 == t) = false := by simpa using h4
              have HN := hide (flL_keep (d := d) (t := t) (by omega : k < ls.length) (by simp [gone, h3, h4]))
              clear h1 h2 h3 h4
              have HW := hide (own_below (own_below HO.out ((Below.refl _ _).alloc (Nat.le_refl _) (.cells #[.int .i64 (g3 ls k).1, .int .i64 (g3 ls k).2.1, .int .i64 (g3 ls k).2.2] 160))) ((Below.refl _ _).alloc (Nat.le_refl _) (.cells #[.int .i64 (g3 ls k).1, .int .i64 (g3 ls k).2.1, .int .i64 (g3 ls k).2.2] 160)))
              have HM1 : Hid (q + 1 ≤ maxLen) := by show _ ≤ _; unfold maxLen; omega
              have HM2 : Hid ((q + 1) * 24 ≤ 140737488355328) := by show _ ≤ _; omega
              have HBS : Hid (w.heap.size ≤ ((wr.alloc (.cells #[.int .i64 (g3 ls k).1, .int .i64 (g3 ls k).2.1, .int .i64 (g3 ls k).2.2] 160)).alloc (.cells #[.int .i64 (g3 ls k).1, .int .i64 (g3 ls k).2.1, .int .i64 (g3 ls k).2.2] 160)).heap.size) := by show _ ≤ _; simp; omega
              go_wp2_with (first
                | (at_builtin; refine wpList_append_own _ rfl _ _ 48 rfl w.heap.size 160 i0 (.agg #[.int .i64 0, .int .i64 0, .int .i64 0]) 3 24 Tryz.underlying48 hi hz0 hz1 hz2 rfl (by decide) lv q (vs3 (flL (ls.take k) d t)) rfl HW.out ⟨wr.heap.size + 1, 0, none⟩ 1 1 (vs3 [g3 ls k]) rfl rfl (three_newL (by go_simp) (by go_simp) (by go_simp)) ints_one HM1.out HM2.out HBS.out ?_)
                | go_in)
              intro v' w1 hown' hgrow _
              have HF : Hid (w1.ownsRow w.heap.size 160 3 v' (q + 1) (vs3 (flL (ls.take (k + 1)) d t)) ∧ (flL (ls.take (k + 1)) d t).length = q + 1) := ⟨by rw [HN.out, vs3_append]; exact hown', by rw [HN.out, List.length_append, HQ.out]; rfl⟩
              have HB1 := hide (((HB.out.alloc hzr _).alloc (by simp; omega) _).grown hgrow (by simp; omega) (fun g hg => by have := (HO.out.lt g hg).1; omega))
              clear hown' hgrow HW
              go_wp2
              go_roundw
              case rel => exact ⟨k + 1, q + 1, _, by omega, by omega, rfl, by go_num, HF.out.2, HF.out.1, HB1.out⟩
              case measure => simp [intOf]; omega
        · have e2 : ((g3 ls k).1 == d) = false := by simpa using h2
          have HN := hide (flL_keep (d := d) (t := t) (by omega : k < ls.length) (by simp [gone, h1, h2]))
          clear h1 h2
          have HW := hide (own_below (own_below HO.out ((Below.refl _ _).alloc (Nat.le_refl _) (.cells #[.int .i64 (g3 ls k).1, .int .i64 (g3 ls k).2.1, .int .i64 (g3 ls k).2.2] 160))) ((Below.refl _ _).alloc (Nat.le_refl _) (.cells #[.int .i64 (g3 ls k).1, .int .i64 (g3 ls k).2.1, .int .i64 (g3 ls k).2.2] 160)))
          have HM1 : Hid (q + 1 ≤ maxLen) := by show _ ≤ _; unfold maxLen; omega
          have HM2 : Hid ((q + 1) * 24 ≤ 140737488355328) := by show _ ≤ _; omega
          have HBS : Hid (w.heap.size ≤ ((wr.alloc (.cells #[.int .i64 (g3 ls k).1, .int .i64 (g3 ls k).2.1, .int .i64 (g3 ls k).2.2] 160)).alloc (.cells #[.int .i64 (g3 ls k).1, .int .i64 (g3 ls k).2.1, .int .i64 (g3 ls k).2.2] 160)).heap.size) := by show _ ≤ _; simp; omega
          go_wp2_with (first
            | (at_builtin; refine wpList_append_own _ rfl _ _ 48 rfl w.heap.size 160 i0 (.agg #[.int .i64 0, .int .i64 0, .int .i64 0]) 3 24 Tryz.underlying48 hi hz0 hz1 hz2 rfl (by decide) lv q (vs3 (flL (ls.take k) d t)) rfl HW.out ⟨wr.heap.size + 1, 0, none⟩ 1 1 (vs3 [g3 ls k]) rfl rfl (three_newL (by go_simp) (by go_simp) (by go_simp)) ints_one HM1.out HM2.out HBS.out ?_)
            | go_in)
          intro v' w1 hown' hgrow _
          have HF : Hid (w1.ownsRow w.heap.size 160 3 v' (q + 1) (vs3 (flL (ls.take (k + 1)) d t)) ∧ (flL (ls.take (k + 1)) d t).length = q + 1) := ⟨by rw [HN.out, vs3_append]; exact hown', by rw [HN.out, List.length_append, HQ.out]; rfl⟩
          have HB1 := hide (((HB.out.alloc hzr _).alloc (by simp; omega) _).grown hgrow (by simp; omega) (fun g hg => by have := (HO.out.lt g hg).1; omega))
          clear hown' hgrow HW
          go_wp2
          go_roundw
          case rel => exact ⟨k + 1, q + 1, _, by omega, by omega, rfl, by go_num, HF.out.2, HF.out.1, HB1.out⟩
          case measure => simp [intOf]; omega
    · have hkn : k = n := by omega
      rw [hkn, ← hlen, List.take_length] at hq ho
      have hzr := hbel.size
      obtain ⟨ra, rc, rfl, _⟩ := own_ol (by omega) hq ho
      obtain ⟨y1, y2, y3, y4⟩ := HV.out.put (OutS.of_below hbel) (owns_base ho) hq (fun g e => ⟨.inr (ho.lt g e).1, (ho.lt g e).2⟩)
      have HR := hide y3
      clear y3 y4
      subst hq
      clear ho hbel
      go_wp2
      exact bodyPost_end (v := .tuple #[]) (by simp [results, Tryz.results64, go_sem]) rfl ⟨rfl, _, _, HR.out⟩

end Go.Proofs.YtgkjmeogdomgmaaGreat
