import Derived.Test.YtnibngigbcakkaaGreatF4
import Derived.Test.YtnibngigbcakkaaGreatF3
import Derived.WalkKit
import Derived.ProofKit
import Derived.OpenShut
import Derived.ShutString
import Derived.ChangeOld
import Derived.Below
import Derived.WalkSpells
import Derived.Deep.QuietTactic
import Derived.BigQuiet
import Derived.Deep.RegionWith
import Derived.Deep.WholeRow
import Derived.Deep.DeepCutAuto
import Derived.Deep.RegionHeld2
import Derived.Deep.AppendLies
import Derived.Deep.RegionLaw
namespace Go.Proofs.YtnibngigbcakkaaGreat
open Go.ChangeShapes Go.WideShapes Go.ChangeAt Go.RowKit

def setL : List Int → Nat → List Int → List Int
  | ys, _, [] => ys
  | ys, o, z :: r => setL (ys.set o z) (o + 1) r

theorem setL_take : ∀ (zs ys : List Int) (o : Nat), o + zs.length ≤ ys.length → (setL ys o zs).take (o + zs.length) = ys.take o ++ zs
  | [], ys, o, _ => by simp [setL]
  | z :: r, ys, o, h => by
    simp only [List.length_cons] at h
    have := setL_take r (ys.set o z) (o + 1) (by simp; omega)
    rw [setL, List.length_cons, show o + (r.length + 1) = o + 1 + r.length by omega, this]
    have e : (ys.set o z).take (o + 1) = ys.take o ++ [z] := by
      rw [List.take_succ_eq_append_getElem (by simp; omega)]
      simp
      apply List.ext_getElem?
      intro i
      by_cases hi : i < o
      · rw [List.getElem?_take_of_lt hi, List.getElem?_take_of_lt hi, List.getElem?_set_ne (by omega)]
      · rw [List.getElem?_take_eq_none (by omega), List.getElem?_take_eq_none (by omega)]
    rw [e, List.append_assoc]
    rfl

theorem own_setL : ∀ (zs : List Int) (o : Nat) {w : World} {B g n cap : Nat} {e : TypeId} {ys : List Int}, w.ownsRow B e 3 (.slice (some ⟨g, 0, none⟩) n cap) n (ys.map (Value.int .i64)) →
    (w.setCells g o (zs.map (Value.int .i64))).ownsRow B e 3 (.slice (some ⟨g, 0, none⟩) n cap) n ((setL ys o zs).map (Value.int .i64))
  | [], _, _, _, _, _, _, _, _, h => h
  | z :: r, o, w, B, g, n, cap, e, ys, h => by
    have h1 := (h.stored o (.int .i64 z)).1
    have h2 : (w.setCell ⟨g, o, none⟩ (.int .i64 z)).ownsRow B e 3 (.slice (some ⟨g, 0, none⟩) n cap) n ((ys.set o z).map (Value.int .i64)) := by simpa [List.map_set] using h1
    exact own_setL r (o + 1) h2

theorem erase_fl3 (ls : List (Int × Int × Int)) (i : Nat) : fl3 (ls.eraseIdx i) = (fl3 ls).take (i * 3) ++ (fl3 ls).drop ((i + 1) * 3) := by
  rw [List.eraseIdx_eq_take_drop_succ, fl3_append, fl3_take, fl3_drop]

set_option maxRecDepth 100000 in
set_option maxHeartbeats 2000000 in
theorem deleteL_calls (B g n cap i : Nat) (ls : List (Int × Int × Int)) (w : World) (hn : n ≤ 1048576) (hi : i < n) (hl : ls.length = n) (ho : w.ownsRow B 45 3 (.slice (some ⟨g, 0, none⟩) n cap) n (vs3 ls)) :
    Calls Tryz.prog 42 #[.slice (some ⟨g, 0, none⟩) n cap, .int .i64 i, .int .i64 ((i : Int) + 1)] w fun e w' => e = .returned (.slice (some ⟨g, 0, none⟩) (n - 1) cap) ∧ w'.ownsRow B 45 3 (.slice (some ⟨g, 0, none⟩) (n - 1) cap) (n - 1) (vs3 (ls.eraseIdx i)) ∧ Below B w w' := by
  obtain ⟨i0, hi0, hz0, hz1, hz2⟩ := info_parts infoLine
  have hz : ∀ u, (zeroValue 45).run Tryz.prog u = .ok (.agg #[.int .i64 0, .int .i64 0, .int .i64 0]) u := fun u => by simp [go_sem]
  obtain ⟨hnc, hcm, hBg, hgw⟩ := own_room ho
  unfold maxLen at hcm
  have hvl : (fl3 ls).length = n * 3 := by rw [length_fl3, hl]
  obtain ⟨zs, hzs⟩ : ∃ zs, zs = (fl3 ls).drop ((i + 1) * 3) := ⟨_, rfl⟩
  have hzl : zs.length = (n - (i + 1)) * 3 := by rw [hzs, List.length_drop, hvl]; omega
  obtain ⟨A, hA, hsrc⟩ : ∃ A : Addr, (if cap = i + 1 then some (⟨g, 0, none⟩ : Addr) else some ⟨g, (i + 1) * 3, none⟩) = some A ∧ Hid (∀ t u, (zs.map (Value.int .i64))[t]? = some u → w.drew.cell? (A.add t) = some u) := by
    by_cases h : cap = i + 1
    · refine ⟨⟨g, 0, none⟩, by simp [h], fun t u hu => ?_⟩
      have h0 : zs.length = 0 := by rw [hzl]; omega
      rw [List.length_eq_zero_iff.1 h0] at hu
      simp at hu
    · refine ⟨⟨g, (i + 1) * 3, none⟩, by simp [h], fun t u hu => ?_⟩
      have ht : t < zs.length := by have := (List.getElem?_eq_some_iff.1 hu).1; simpa using this
      have hadd : (Addr.mk g ((i + 1) * 3) none).add t = ⟨g, (i + 1) * 3 + t, none⟩ := by cases t <;> simp [Addr.add]
      rw [hadd]
      refine (own_cell ho (j := (i + 1) * 3 + t) (by omega)).trans ?_
      rw [← hu, hzs]
      simp [gt, show (i + 1) * 3 + t < (fl3 ls).length by omega]
  have s1 : Hid ((zs.map (Value.int .i64)).length = (n - (i + 1)) * 3) := by show _ = _; rw [List.length_map]; exact hzl
  have s3 : Hid (∀ t, t < (zs.map (Value.int .i64)).length → (w.drew.cell? ⟨g, 0 + i * 3 + t, none⟩).isSome = true ∧ w.drew.frozen? ⟨g, 0 + i * 3 + t, none⟩ = false) := by
    intro t ht
    rw [s1.out] at ht
    exact ⟨by show (w.cell? _).isSome = true; rw [own_cell ho (j := 0 + i * 3 + t) (by omega)]; rfl, ho.frozenAt _⟩
  have O1 := own_setL zs (i * 3) (own_drew ho)
  obtain ⟨W1, hW1⟩ : ∃ W1, W1 = w.drew.setCells g (i * 3) (zs.map (Value.int .i64)) := ⟨_, rfl⟩
  rw [← hW1] at O1
  have hcl : ∀ ty, (Builtin.clear_ #[24] ty #[.slice (some ⟨g, (i + (n - (i + 1))) * 3, none⟩) (n - (i + (n - (i + 1)))) (cap - (i + (n - (i + 1))))]).run Tryz.prog W1 = .ok (.tuple #[]) (W1.setCells g ((i + (n - (i + 1))) * 3) (List.replicate ((n - (i + (n - (i + 1)))) * 3) (.int .i64 0))) :=
    fun ty => run_clear_lines W1 _ _ ty Tryz.underlying24 hz g _ _ _ (by omega) (fun j hj => ⟨_, own_cell O1 (by omega)⟩) (fun j => O1.frozenAt _)
  obtain ⟨ts, ht1, ht2⟩ := own_zero ((n - (i + (n - (i + 1)))) * 3) ((i + (n - (i + 1))) * 3) O1
  have HO : Hid ((W1.setCells g ((i + (n - (i + 1))) * 3) (List.replicate ((n - (i + (n - (i + 1)))) * 3) (.int .i64 0))).ownsRow B 45 3 (.slice (some ⟨g, 0, none⟩) (n - 1) cap) (n - 1) (vs3 (ls.eraseIdx i))) := by
    show World.ownsRow _ _ _ _ _ _ _
    have h := own_take ht2 (k := n - 1) (by omega)
    have e : ts.take ((n - 1) * 3) = fl3 (ls.eraseIdx i) := by
      rw [show (n - 1) * 3 = (i + (n - (i + 1))) * 3 by omega, ht1, show (i + (n - (i + 1))) * 3 = i * 3 + zs.length by omega, setL_take _ _ _ (by omega), hzs, ← erase_fl3]
    rw [← List.map_take, e] at h
    exact h
  have HB : Hid (Below B w (W1.setCells g ((i + (n - (i + 1))) * 3) (List.replicate ((n - (i + (n - (i + 1)))) * 3) (.int .i64 0)))) := by
    show Below _ _ _
    rw [hW1]
    exact below_setCells _ _ (below_setCells _ _ (Below.refl _ _).drew hBg) hBg
  have hW : Hid (W1 = w.drew.setCells g (0 + i * 3) (zs.map (Value.int .i64))) := by show _ = _; rw [hW1, Nat.zero_add]
  have hic : i ≤ cap := by omega
  have hjc : i + 1 ≤ cap := by omega
  have hkc : ¬ cap = i + (n - (i + 1)) := by omega
  have hii : ¬ i = i + 1 := by omega
  have hb1 : (0 : Int) ≤ (i : Int) + 1 := by omega
  have hb2 : (i : Int) + 1 ≤ (n : Int) := by omega
  clear hW1 O1 ht1 ht2 hzs ho
  go_enter Tryz.func42, Tryz.ntmps42
  go_wp2_with fail
  go_region_law (refine step_append_room rfl (.tmp 22) (.tmp 25) 24 rfl 45 i0 3 Tryz.underlying24 hi0 hz1 g 0 i cap (by simp [Act.eval, Act.put]) A (n - (i + 1)) (cap - (i + 1)) (zs.map (Value.int .i64)) (by simp [Act.eval, Act.put]) s1.out hsrc.out ints_one (by omega) s3.out ?_; rw [← hW.out])
  all_goals (
    go_wp2
    go_ret
    exact ⟨by rw [show n - 1 = i + (n - (i + 1)) by omega]; rfl, HO.out, HB.out⟩)

/-- a variable of a cache at block P: its size, and a row of its own from B on. -/
structure CV (w : World) (B P : Nat) (s : Int) (v : Value) (n : Nat) (ls : List (Int × Int × Int)) : Prop where
  hB : B ≤ P
  lt : P < w.heap.size
  c0 : w.cell? ⟨P, 0, none⟩ = some (.int .i64 s)
  c1 : w.cell? ⟨P, 1, none⟩ = some v
  f0 : w.frozen? ⟨P, 0, none⟩ = false
  f1 : w.frozen? ⟨P, 1, none⟩ = false
  own : w.ownsRow B 45 3 v n (vs3 ls)
  len : ls.length = n
  ne : v.ownBlock ≠ some P

theorem own_sln {w : World} {B n : Nat} {e : TypeId} {a : Option Addr} {c : Nat} {ls : List (Int × Int × Int)} (h : w.ownsRow B e 3 (.slice a n c) n (vs3 ls)) (hl : ls.length = n) : Sln w a n ls := by
  refine ⟨hl, fun hp => ?_⟩
  obtain ⟨g, cap, hv, _, hlt⟩ := h.form hp
  simp only [Value.slice.injEq] at hv
  obtain ⟨rfl, _, rfl⟩ := hv
  exact ⟨g, 0, rfl, hlt, fun i hi => by rw [Nat.zero_add]; exact own_cell h hi⟩

theorem CV.below {w w' : World} {B P : Nat} {s : Int} {v : Value} {n : Nat} {ls : List (Int × Int × Int)} (h : CV w B P s v n ls) (hb : Below w.heap.size w w') : CV w' B P s v n ls :=
  ⟨h.hB, by have := hb.size; have := h.lt; omega, (hb.cell (p := ⟨P, 0, none⟩) h.lt).trans h.c0, (hb.cell (p := ⟨P, 1, none⟩) h.lt).trans h.c1, (hb.frozen (p := ⟨P, 0, none⟩) h.lt).trans h.f0, (hb.frozen (p := ⟨P, 1, none⟩) h.lt).trans h.f1, own_below h.own hb, h.len, h.ne⟩

/-- the field of lines is stored anew. -/
theorem CV.put {w u : World} {B P : Nat} {s : Int} {v v' : Value} {n m : Nat} {ls rs : List (Int × Int × Int)} (h : CV w B P s v n ls) (c0 : u.cell? ⟨P, 0, none⟩ = some (.int .i64 s)) (c1 : ∃ x, u.cell? ⟨P, 1, none⟩ = some x) (f0 : u.frozen? ⟨P, 0, none⟩ = false) (f1 : u.frozen? ⟨P, 1, none⟩ = false)
    (ho : u.ownsRow B 45 3 v' m (vs3 rs)) (hl : rs.length = m) (hne : v'.ownBlock ≠ some P) : CV (u.setCell ⟨P, 1, none⟩ v') B P s v' m rs := by
  obtain ⟨x, c1⟩ := c1
  refine ⟨h.hB, by simpa using World.block_lt_of_cell? _ _ c1, ?_, World.cell?_setCell_same _ _ _ c1, by simpa using f0, by simpa using f1, ownsRow_setCell_other ho (by exact hne) _, hl, hne⟩
  rw [World.cell?_setCell_other _ _ _ _ (fun e => by injection e with _ e2; omega)]
  exact c0

theorem three_new {W : World} {N : Nat} {x : Int × Int × Int} (h0 : W.cell? ⟨N, 0, none⟩ = some (.int .i64 x.1)) (h1 : W.cell? ⟨N, 1, none⟩ = some (.int .i64 x.2.1)) (h2 : W.cell? ⟨N, 2, none⟩ = some (.int .i64 x.2.2)) : ∀ j u, (vs3 [x])[j]? = some u → W.cell? ((Addr.mk N 0 none).add j) = some u := by
  intro j u hj
  match j, hj with
  | 0, hj => simp [fl3] at hj; subst hj; simpa [Addr.add] using h0
  | 1, hj => simp [fl3] at hj; subst hj; simpa [Addr.add] using h1
  | 2, hj => simp [fl3] at hj; subst hj; simpa [Addr.add] using h2
  | j + 3, hj => simp [fl3] at hj

theorem vs3_append (xs ys : List (Int × Int × Int)) : vs3 (xs ++ ys) = vs3 xs ++ vs3 ys := by rw [vs3, fl3_append, List.map_append]

set_option maxRecDepth 100000 in
set_option maxHeartbeats 2000000 in
theorem l4Flush_V (B P : Nat) (s : Int) (a : Option Addr) (n c : Nat) (ls : List (Int × Int × Int)) (d t : Int) (w : World) (hn : n ≤ 1048576) (hv : CV w B P s (.slice a n c) n ls) :
    Calls Tryz.prog 35 #[.pointer (some ⟨P, 0, none⟩), .int .i64 d, .int .i64 t] w fun e w' => e = .returned (.tuple #[]) ∧ ∃ ra rc, CV w' B P s (.slice ra (flL ls d t).length rc) (flL ls d t).length (flL ls d t) ∧ Below B w w' := by
  have hs := own_sln hv.own hv.len
  have hlen := hv.len
  have hP := hv.lt
  have hBP := hv.hB
  have HV := hide hv
  have c1 := hv.c1
  have HP1 := hide c1
  obtain ⟨i0, hi, hz0, hz1, hz2⟩ := info_parts infoLine
  have HO0 := hide (own_lit0 w 45 (B := w.heap.size) (Nat.le_refl _))
  clear hv
  go_enter Tryz.func35, Tryz.ntmps35
  go_wp2
  clear c1
  go_loopw [6, 7] (fun l0 i wr => ∃ (k q : Nat) (lv : Value), k ≤ n ∧ q ≤ k ∧ lv = l0 ∧ i = .int .i64 k ∧ (flL (ls.take k) d t).length = q ∧ wr.ownsRow w.heap.size 45 3 lv q (vs3 (flL (ls.take k) d t)) ∧ Below w.heap.size w wr) (fun _ i _ => n - (intOf i).toNat)
  case atStart => exact ⟨0, 0, _, Nat.zero_le _, Nat.le_refl _, rfl, rfl, rfl, HO0.out, (Below.refl _ _).alloc (Nat.le_refl _) _⟩
  case round =>
    clear HO0
    obtain ⟨k, q, lv, hk, hqk, rfl, rfl, hq, ho, hbel⟩ := hrel
    have c1 := (hbel.cell (p := ⟨P, 1, none⟩) hP).trans HP1.out
    by_cases hlt : k < n
    · obtain ⟨_, hs'⟩ := hs
      obtain ⟨b, off, rfl, hb, hc⟩ := hs' (by omega)
      obtain ⟨r0, r1, r2⟩ := cells3 hc hlt
      have p0 := (hbel.cell (p := ⟨b, off + k * 3, none⟩) hb).trans r0
      have p1 := (hbel.cell (p := ⟨b, off + k * 3 + 1, none⟩) hb).trans r1
      have p2 := (hbel.cell (p := ⟨b, off + k * 3 + 2, none⟩) hb).trans r2
      clear hc r0 r1 r2
      have hbr : b < wr.heap.size := by have := hbel.size; omega
      have hPr : P < wr.heap.size := by have := hbel.size; omega
      have hzr := hbel.size
      have HO := hide ho
      have HB := hide hbel
      have HQ := hide hq
      have i0' : (0 : Int) ≤ (k : Int) := by omega
      have i1' : (k : Int) < (n : Int) := by omega
      clear ho hbel hq
      by_cases h1 : d = -1
      · have e1 : (d == -1) = true := by simpa using h1
        by_cases h3 : t = -1
        · have e3 : (t == -1) = true := by simpa using h3
          have HN := hide (flL_drop (d := d) (t := t) (by omega : k < ls.length) (by simp [gone, h1, h3]))
          clear h1 h3
          go_wp2
          go_roundw
          case rel => exact ⟨k + 1, q, _, by omega, by omega, rfl, by go_num, by rw [HN.out]; exact HQ.out, by rw [HN.out]; exact own_below HO.out ((Below.refl _ _).alloc (Nat.le_refl _) _), (HB.out.alloc hzr _)⟩
          case measure => simp [intOf]; omega
        · have e3 : (t == -1) = false := by simpa using h3
          by_cases h4 : (g3 ls k).2.1 = t
          · have e4 : ((g3 ls k).2.1 == t) = true := by simpa using h4
            have HN := hide (flL_drop (d := d) (t := t) (by omega : k < ls.length) (by simp [gone, h1, h4]))
            clear h1 h3 h4
            go_wp2
            go_roundw
            case rel => exact ⟨k + 1, q, _, by omega, by omega, rfl, by go_num, by rw [HN.out]; exact HQ.out, by rw [HN.out]; exact own_below HO.out ((Below.refl _ _).alloc (Nat.le_refl _) _), (HB.out.alloc hzr _)⟩
            case measure => simp [intOf]; omega
          · have e4 : ((g3 ls k).2.1 == t) = false := by simpa using h4
            have HN := hide (flL_keep (d := d) (t := t) (by omega : k < ls.length) (by simp [gone, h3, h4]))
            clear h1 h3 h4
            have HW := hide (own_below (own_below HO.out ((Below.refl _ _).alloc (Nat.le_refl _) (.cells #[.int .i64 (g3 ls k).1, .int .i64 (g3 ls k).2.1, .int .i64 (g3 ls k).2.2] 45))) ((Below.refl _ _).alloc (Nat.le_refl _) (.cells #[.int .i64 (g3 ls k).1, .int .i64 (g3 ls k).2.1, .int .i64 (g3 ls k).2.2] 45)))
            have HM1 : Hid (q + 1 ≤ maxLen) := by show _ ≤ _; unfold maxLen; omega
            have HM2 : Hid ((q + 1) * 24 ≤ 140737488355328) := by show _ ≤ _; omega
            have HBS : Hid (w.heap.size ≤ ((wr.alloc (.cells #[.int .i64 (g3 ls k).1, .int .i64 (g3 ls k).2.1, .int .i64 (g3 ls k).2.2] 45)).alloc (.cells #[.int .i64 (g3 ls k).1, .int .i64 (g3 ls k).2.1, .int .i64 (g3 ls k).2.2] 45)).heap.size) := by show _ ≤ _; simp; omega
            go_wp2_with (first
              | (at_builtin; refine wpList_append_own _ rfl _ _ 24 rfl w.heap.size 45 i0 (.agg #[.int .i64 0, .int .i64 0, .int .i64 0]) 3 24 Tryz.underlying24 hi hz0 hz1 hz2 rfl (by decide) lv q (vs3 (flL (ls.take k) d t)) rfl HW.out ⟨wr.heap.size + 1, 0, none⟩ 1 1 (vs3 [g3 ls k]) rfl rfl (three_new (by go_simp) (by go_simp) (by go_simp)) ints_one HM1.out HM2.out HBS.out ?_)
              | go_in)
            intro v' w1 hown' hgrow _
            have HF : Hid (w1.ownsRow w.heap.size 45 3 v' (q + 1) (vs3 (flL (ls.take (k + 1)) d t)) ∧ (flL (ls.take (k + 1)) d t).length = q + 1) := ⟨by rw [HN.out, vs3_append]; exact hown', by rw [HN.out, List.length_append, HQ.out]; rfl⟩
            have HB1 := hide (((HB.out.alloc hzr _).alloc (by simp; omega) _).grown hgrow (by simp; omega) (fun g hg => by have := (HO.out.lt g hg).1; omega))
            clear hown' hgrow HW
            go_wp2
            go_roundw
            case rel => exact ⟨k + 1, q + 1, _, by omega, by omega, rfl, by go_num, HF.out.2, HF.out.1, HB1.out⟩
            case measure => simp [intOf]; omega
      · have e1 : (d == -1) = false := by simpa using h1
        by_cases h2 : (g3 ls k).1 = d
        · have e2 : ((g3 ls k).1 == d) = true := by simpa using h2
          by_cases h3 : t = -1
          · have e3 : (t == -1) = true := by simpa using h3
            have HN := hide (flL_drop (d := d) (t := t) (by omega : k < ls.length) (by simp [gone, h2, h3]))
            clear h1 h2 h3
            go_wp2
            go_roundw
            case rel => exact ⟨k + 1, q, _, by omega, by omega, rfl, by go_num, by rw [HN.out]; exact HQ.out, by rw [HN.out]; exact own_below HO.out ((Below.refl _ _).alloc (Nat.le_refl _) _), (HB.out.alloc hzr _)⟩
            case measure => simp [intOf]; omega
          · have e3 : (t == -1) = false := by simpa using h3
            by_cases h4 : (g3 ls k).2.1 = t
            · have e4 : ((g3 ls k).2.1 == t) = true := by simpa using h4
              have HN := hide (flL_drop (d := d) (t := t) (by omega : k < ls.length) (by simp [gone, h2, h4]))
              clear h1 h2 h3 h4
              go_wp2
              go_roundw
              case rel => exact ⟨k + 1, q, _, by omega, by omega, rfl, by go_num, by rw [HN.out]; exact HQ.out, by rw [HN.out]; exact own_below HO.out ((Below.refl _ _).alloc (Nat.le_refl _) _), (HB.out.alloc hzr _)⟩
              case measure => simp [intOf]; omega
            · have e4 : ((g3 ls k).2.1 == t) = false := by simpa using h4
              have HN := hide (flL_keep (d := d) (t := t) (by omega : k < ls.length) (by simp [gone, h3, h4]))
              clear h1 h2 h3 h4
              have HW := hide (own_below (own_below HO.out ((Below.refl _ _).alloc (Nat.le_refl _) (.cells #[.int .i64 (g3 ls k).1, .int .i64 (g3 ls k).2.1, .int .i64 (g3 ls k).2.2] 45))) ((Below.refl _ _).alloc (Nat.le_refl _) (.cells #[.int .i64 (g3 ls k).1, .int .i64 (g3 ls k).2.1, .int .i64 (g3 ls k).2.2] 45)))
              have HM1 : Hid (q + 1 ≤ maxLen) := by show _ ≤ _; unfold maxLen; omega
              have HM2 : Hid ((q + 1) * 24 ≤ 140737488355328) := by show _ ≤ _; omega
              have HBS : Hid (w.heap.size ≤ ((wr.alloc (.cells #[.int .i64 (g3 ls k).1, .int .i64 (g3 ls k).2.1, .int .i64 (g3 ls k).2.2] 45)).alloc (.cells #[.int .i64 (g3 ls k).1, .int .i64 (g3 ls k).2.1, .int .i64 (g3 ls k).2.2] 45)).heap.size) := by show _ ≤ _; simp; omega
              go_wp2_with (first
                | (at_builtin; refine wpList_append_own _ rfl _ _ 24 rfl w.heap.size 45 i0 (.agg #[.int .i64 0, .int .i64 0, .int .i64 0]) 3 24 Tryz.underlying24 hi hz0 hz1 hz2 rfl (by decide) lv q (vs3 (flL (ls.take k) d t)) rfl HW.out ⟨wr.heap.size + 1, 0, none⟩ 1 1 (vs3 [g3 ls k]) rfl rfl (three_new (by go_simp) (by go_simp) (by go_simp)) ints_one HM1.out HM2.out HBS.out ?_)
                | go_in)
              intro v' w1 hown' hgrow _
              have HF : Hid (w1.ownsRow w.heap.size 45 3 v' (q + 1) (vs3 (flL (ls.take (k + 1)) d t)) ∧ (flL (ls.take (k + 1)) d t).length = q + 1) := ⟨by rw [HN.out, vs3_append]; exact hown', by rw [HN.out, List.length_append, HQ.out]; rfl⟩
              have HB1 := hide (((HB.out.alloc hzr _).alloc (by simp; omega) _).grown hgrow (by simp; omega) (fun g hg => by have := (HO.out.lt g hg).1; omega))
              clear hown' hgrow HW
              go_wp2
              go_roundw
              case rel => exact ⟨k + 1, q + 1, _, by omega, by omega, rfl, by go_num, HF.out.2, HF.out.1, HB1.out⟩
              case measure => simp [intOf]; omega
        · have e2 : ((g3 ls k).1 == d) = false := by simpa using h2
          have HN := hide (flL_keep (d := d) (t := t) (by omega : k < ls.length) (by simp [gone, h1, h2]))
          clear h1 h2
          have HW := hide (own_below (own_below HO.out ((Below.refl _ _).alloc (Nat.le_refl _) (.cells #[.int .i64 (g3 ls k).1, .int .i64 (g3 ls k).2.1, .int .i64 (g3 ls k).2.2] 45))) ((Below.refl _ _).alloc (Nat.le_refl _) (.cells #[.int .i64 (g3 ls k).1, .int .i64 (g3 ls k).2.1, .int .i64 (g3 ls k).2.2] 45)))
          have HM1 : Hid (q + 1 ≤ maxLen) := by show _ ≤ _; unfold maxLen; omega
          have HM2 : Hid ((q + 1) * 24 ≤ 140737488355328) := by show _ ≤ _; omega
          have HBS : Hid (w.heap.size ≤ ((wr.alloc (.cells #[.int .i64 (g3 ls k).1, .int .i64 (g3 ls k).2.1, .int .i64 (g3 ls k).2.2] 45)).alloc (.cells #[.int .i64 (g3 ls k).1, .int .i64 (g3 ls k).2.1, .int .i64 (g3 ls k).2.2] 45)).heap.size) := by show _ ≤ _; simp; omega
          go_wp2_with (first
            | (at_builtin; refine wpList_append_own _ rfl _ _ 24 rfl w.heap.size 45 i0 (.agg #[.int .i64 0, .int .i64 0, .int .i64 0]) 3 24 Tryz.underlying24 hi hz0 hz1 hz2 rfl (by decide) lv q (vs3 (flL (ls.take k) d t)) rfl HW.out ⟨wr.heap.size + 1, 0, none⟩ 1 1 (vs3 [g3 ls k]) rfl rfl (three_new (by go_simp) (by go_simp) (by go_simp)) ints_one HM1.out HM2.out HBS.out ?_)
            | go_in)
          intro v' w1 hown' hgrow _
          have HF : Hid (w1.ownsRow w.heap.size 45 3 v' (q + 1) (vs3 (flL (ls.take (k + 1)) d t)) ∧ (flL (ls.take (k + 1)) d t).length = q + 1) := ⟨by rw [HN.out, vs3_append]; exact hown', by rw [HN.out, List.length_append, HQ.out]; rfl⟩
          have HB1 := hide (((HB.out.alloc hzr _).alloc (by simp; omega) _).grown hgrow (by simp; omega) (fun g hg => by have := (HO.out.lt g hg).1; omega))
          clear hown' hgrow HW
          go_wp2
          go_roundw
          case rel => exact ⟨k + 1, q + 1, _, by omega, by omega, rfl, by go_num, HF.out.2, HF.out.1, HB1.out⟩
          case measure => simp [intOf]; omega
    · have hkn : k = n := by omega
      rw [hkn, ← hlen, List.take_length] at hq ho
      have hzr := hbel.size
      have hne : lv.ownBlock ≠ some P := fun e => by have := (ho.lt P e).1; omega
      have hB1 : B ≤ w.heap.size := by omega
      obtain ⟨ra, rc, rfl, _⟩ := own_ol (by omega) hq ho
      have c0 := (hbel.cell (p := ⟨P, 0, none⟩) hP).trans HV.out.c0
      have f0 := (hbel.frozen (p := ⟨P, 0, none⟩) hP).trans HV.out.f0
      have f1 := (hbel.frozen (p := ⟨P, 1, none⟩) hP).trans HV.out.f1
      have HR := hide (HV.out.put c0 ⟨_, c1⟩ f0 f1 (own_mono ho hB1) hq hne)
      have HE := hide ((hbel.mono hB1).setCell (p := ⟨P, 1, none⟩) (by exact hBP) (.slice ra q rc))
      subst hq
      clear ho hbel c0 f0 hne
      go_wp2
      exact bodyPost_end (v := .tuple #[]) (by simp [results, Tryz.results35, go_sem]) rfl ⟨rfl, _, _, HR.out, HE.out⟩

/-- the line at the place that their number leaves of p is gone. -/
def evL (ls : List (Int × Int × Int)) (p : Int) : List (Int × Int × Int) := if ls.length = 0 then ls else ls.eraseIdx (p % (ls.length : Int)).toNat

def evC (s : Int) (ls : List (Int × Int × Int)) (p : Int) : Int := if faultC s ls = 0 then (if p < 0 then 3 else 0) else faultC s ls

theorem evL_nil {ls : List (Int × Int × Int)} {p : Int} (h : ls.length = 0) : evL ls p = ls := if_pos h

theorem evL_at {ls : List (Int × Int × Int)} {p : Int} {i : Nat} (h : 0 < ls.length) (hi : p % (ls.length : Int) = (i : Int)) : evL ls p = ls.eraseIdx i := by
  unfold evL
  rw [if_neg (by omega), hi]
  rfl

theorem length_evL (ls : List (Int × Int × Int)) (p : Int) : (evL ls p).length ≤ ls.length := by
  unfold evL
  split
  · exact Nat.le_refl _
  · exact List.length_eraseIdx_le _ _

theorem rem_nat (p : Int) (n : Nat) (h : 0 < n) : ∃ i : Nat, p % (n : Int) = (i : Int) ∧ i < n := by
  have h1 := Int.emod_nonneg p (b := (n : Int)) (by omega)
  have h2 := Int.emod_lt_of_pos p (b := (n : Int)) (by omega)
  exact ⟨(p % (n : Int)).toNat, by omega, by omega⟩

set_option maxRecDepth 100000 in
set_option maxHeartbeats 1000000 in
theorem evicted_calls (a : Option Addr) (n c : Nat) (ls : List (Int × Int × Int)) (p : Int) (w : World) (hn : n ≤ 1048576) (hp : 0 ≤ p) (hs : Sln w a n ls) :
    Calls Tryz.prog 22 #[.slice a n c, .int .i64 p] w fun e w' => ∃ v, e = .returned v ∧ w'.ownsRow w.heap.size 45 3 v (evL ls p).length (vs3 (evL ls p)) ∧ Below w.heap.size w w' := by
  have hlen := hs.1
  by_cases h0 : 0 < n
  · obtain ⟨i, hpi, hin⟩ := rem_nat p n h0
    have HE := hide (evL_at (ls := ls) (by omega) (by rw [hlen]; exact hpi))
    have hll : (ls.eraseIdx i).length = n - 1 := by rw [List.length_eraseIdx_of_lt (by omega), hlen]
    have HLL := hide hll
    have hnz : ((n : Int) == 0) = false := by simp; omega
    clear hll
    go_enter Tryz.func22, Tryz.ntmps22
    go_wp2_with fail
    refine (cloneL_calls a n c ls _ hn hs).mono ?_
    rintro e w1 ⟨v, rfl, ho, g1⟩
    obtain ⟨g, cap, rfl, hB, hlt⟩ := ho.form h0
    have HO := hide ho
    have HG := hide g1
    clear ho g1 hs
    go_wp2_with fail
    refine (deleteL_calls w.heap.size g n cap i ls _ hn hin hlen HO.out).mono ?_
    rintro e w2 ⟨rfl, ho2, g2⟩
    have HO2 : Hid (w2.ownsRow w.heap.size 45 3 (.slice (some ⟨g, 0, none⟩) (n - 1) cap) (evL ls p).length (vs3 (evL ls p))) := by
      show World.ownsRow _ _ _ _ _ _ _
      rw [HE.out, HLL.out]
      exact ho2
    have HB := hide (HG.out.trans g2)
    clear ho2 g2
    go_wp2
    go_ret
    exact ⟨_, rfl, HO2.out, HB.out⟩
  · have hn0 : n = 0 := by omega
    subst hn0
    have HE := hide (evL_nil (p := p) hlen)
    go_enter Tryz.func22, Tryz.ntmps22
    go_wp2_with fail
    refine (cloneL_calls a 0 c ls _ hn hs).mono ?_
    rintro e w1 ⟨v, rfl, ho, g1⟩
    obtain ⟨ra, rc, rfl, _⟩ := own_ol hn hlen ho
    have HO : Hid (w1.ownsRow w.heap.size 45 3 (.slice ra 0 rc) (evL ls p).length (vs3 (evL ls p))) := by
      show World.ownsRow _ _ _ _ _ _ _
      rw [HE.out, hlen]
      exact ho
    have HB := hide g1
    clear ho g1
    go_wp2
    go_ret
    exact ⟨_, rfl, HO.out, HB.out⟩

set_option maxRecDepth 100000 in
set_option maxHeartbeats 2000000 in
theorem l4Drop_V (B P : Nat) (s : Int) (a : Option Addr) (n c i : Nat) (ls : List (Int × Int × Int)) (w : World) (hn : n ≤ 1048576) (hin : i < n) (hv : CV w B P s (.slice a n c) n ls) :
    Calls Tryz.prog 54 #[.pointer (some ⟨P, 0, none⟩), .int .i64 i] w fun e w' => e = .returned (.tuple #[]) ∧ ∃ ra rc, CV w' B P s (.slice ra (n - 1) rc) (n - 1) (ls.eraseIdx i) ∧ Below B w w' ∧ OutS (fun k => k = P) w w' := by
  obtain ⟨i0, hi0, hz0, hz1, hz2⟩ := info_parts infoLine
  have hlen := hv.len
  have hP := hv.lt
  have hBP := hv.hB
  have c1 := hv.c1
  obtain ⟨g, c', hgv, _, hgw⟩ := hv.own.form (by omega)
  simp only [Value.slice.injEq] at hgv
  obtain ⟨rfl, _, rfl⟩ := hgv
  have hrm := own_room hv.own
  obtain ⟨hnc, hcm, hBg, _⟩ := hrm
  unfold maxLen at hcm
  have hvl : (fl3 ls).length = n * 3 := by rw [length_fl3, hlen]
  have HV := hide hv
  have O0 := own_lit0 w 45 (B := w.heap.size) (Nat.le_refl _)
  have N0 : Hid (∀ j u, (vs3 (ls.take i))[j]? = some u → (w.alloc (.cells #[] 45)).cell? ((Addr.mk g 0 none).add j) = some u) := by
    refine news_sln (n := i) (by simp; omega) (fun j hj => ?_)
    rw [Nat.zero_add, ← fl3_take, (((Below.refl w.heap.size w).alloc (Nat.le_refl _) (.cells #[] 45)).cell (p := ⟨g, j, none⟩) hgw).trans (own_cell hv.own (j := j) (by omega))]
    simp [gt, hj]
  have HL : Hid ((vs3 (ls.take i)).length = i * 3) := by show _ = _; rw [length_vs3, List.length_take, hlen, Nat.min_eq_left (by omega)]
  have HM1 : Hid (0 + i ≤ maxLen) := by show _ ≤ _; unfold maxLen; omega
  have HM2 : Hid ((0 + i) * 24 ≤ 140737488355328) := by show _ ≤ _; omega
  have HBS : Hid (w.heap.size ≤ (w.alloc (.cells #[] 45)).heap.size) := by show _ ≤ _; simp
  have HO := hide O0
  have b0 : (0 : Int) ≤ (i : Int) := by omega
  have b1 : (i : Int) ≤ (c : Int) := by omega
  have b2 : (0 : Int) ≤ (i : Int) + 1 := by omega
  have b3 : (i : Int) + 1 ≤ (n : Int) := by omega
  have b4 : i ≤ c := by omega
  clear O0 hv
  go_enter Tryz.func54, Tryz.ntmps54
  go_wp2_with (first
    | (at_builtin; refine wpList_append_own _ rfl _ _ 24 rfl w.heap.size 45 i0 (.agg #[.int .i64 0, .int .i64 0, .int .i64 0]) 3 24 Tryz.underlying24 hi0 hz0 hz1 hz2 rfl (by decide) _ 0 [] rfl HO.out ⟨g, 0, none⟩ i c (vs3 (ls.take i)) rfl HL.out N0.out ints_one HM1.out HM2.out HBS.out ?_)
    | go_in)
  intro v1 w1 hown1 hgrow1 _
  have G1 : Below w.heap.size w w1 := ((Below.refl _ _).alloc (Nat.le_refl _) _).grown hgrow1 (by simp) (fun k hk => by simp [Value.ownBlock] at hk; omega)
  have z1 := G1.size
  have c1' := (G1.cell (p := ⟨P, 1, none⟩) hP).trans c1
  have own1 : w1.ownsRow w.heap.size 45 3 v1 i (vs3 (ls.take i)) := by simpa using hown1
  obtain ⟨A, hA, hsrc⟩ : ∃ A : Addr, (if c = i + 1 then some (⟨g, 0, none⟩ : Addr) else some ⟨g, (i + 1) * 3, none⟩) = some A ∧ Hid (∀ t u, (vs3 (ls.drop (i + 1)))[t]? = some u → w1.cell? (A.add t) = some u) := by
    have hdl : (vs3 (ls.drop (i + 1))).length = (n - (i + 1)) * 3 := by rw [length_vs3, List.length_drop, hlen]
    by_cases h : c = i + 1
    · refine ⟨⟨g, 0, none⟩, by simp [h], fun t u hu => ?_⟩
      have := (List.getElem?_eq_some_iff.1 hu).1
      omega
    · refine ⟨⟨g, (i + 1) * 3, none⟩, by simp [h], fun t u hu => ?_⟩
      have ht := (List.getElem?_eq_some_iff.1 hu).1
      have hadd : (Addr.mk g ((i + 1) * 3) none).add t = ⟨g, (i + 1) * 3 + t, none⟩ := by cases t <;> simp [Addr.add]
      rw [hadd, (G1.cell (p := ⟨g, (i + 1) * 3 + t, none⟩) hgw).trans (own_cell HV.out.own (j := (i + 1) * 3 + t) (by omega)), ← hu, vs3, ← fl3_drop]
      simp [gt, show (i + 1) * 3 + t < (fl3 ls).length by omega]
  have HL2 : Hid ((vs3 (ls.drop (i + 1))).length = (n - (i + 1)) * 3) := by show _ = _; rw [length_vs3, List.length_drop, hlen]
  have HM3 : Hid (i + (n - (i + 1)) ≤ maxLen) := by show _ ≤ _; unfold maxLen; omega
  have HM4 : Hid ((i + (n - (i + 1))) * 24 ≤ 140737488355328) := by show _ ≤ _; omega
  have HO1 := hide own1
  have HG1 := hide G1
  clear hown1 hgrow1 own1 G1 HO N0 c1
  go_wp2_with (first
    | (at_builtin; refine wpList_append_own _ rfl _ _ 24 rfl w.heap.size 45 i0 (.agg #[.int .i64 0, .int .i64 0, .int .i64 0]) 3 24 Tryz.underlying24 hi0 hz0 hz1 hz2 rfl (by decide) v1 i (vs3 (ls.take i)) rfl HO1.out A (n - (i + 1)) (c - (i + 1)) (vs3 (ls.drop (i + 1))) rfl HL2.out hsrc.out ints_one HM3.out HM4.out z1 ?_)
    | go_in)
  intro v2 w2 hown2 hgrow2 _
  have G2 : Below w.heap.size w w2 := HG1.out.grown hgrow2 z1 (fun k hk => (HO1.out.lt k hk).1)
  have own2 : w2.ownsRow w.heap.size 45 3 v2 (n - 1) (vs3 (ls.eraseIdx i)) := by
    rw [List.eraseIdx_eq_take_drop_succ, vs3_append, show n - 1 = i + (n - (i + 1)) by omega]
    exact hown2
  have hel : (ls.eraseIdx i).length = n - 1 := by rw [List.length_eraseIdx_of_lt (by omega), hlen]
  obtain ⟨ra, rc, rfl, _⟩ := own_ol (by omega) hel own2
  have k0 := (G2.cell (p := ⟨P, 0, none⟩) hP).trans HV.out.c0
  have k1 := (G2.cell (p := ⟨P, 1, none⟩) hP).trans HV.out.c1
  have m0 := (G2.frozen (p := ⟨P, 0, none⟩) hP).trans HV.out.f0
  have m1 := (G2.frozen (p := ⟨P, 1, none⟩) hP).trans HV.out.f1
  have hB1 : B ≤ w.heap.size := by omega
  have HR := hide (HV.out.put k0 ⟨_, k1⟩ m0 m1 (own_mono own2 hB1) hel (fun e => by have := (own2.lt P e).1; omega))
  have HE := hide ((G2.mono hB1).setCell (p := ⟨P, 1, none⟩) (by exact hBP) (.slice ra (n - 1) rc))
  have HU := hide (OutS.setCell (S := fun k => k = P) (OutS.of_below G2) (p := ⟨P, 1, none⟩) (by rfl) (.slice ra (n - 1) rc))
  clear hown2 hgrow2 own2 G2 k0 m0 HO1 HG1 c1'
  go_wp2
  exact bodyPost_end (v := .tuple #[]) (by simp [results, Tryz.results54, go_sem]) rfl ⟨rfl, _, _, HR.out, HE.out, HU.out⟩

set_option maxRecDepth 100000 in
theorem l4Evict_V (B P : Nat) (s : Int) (a : Option Addr) (n c : Nat) (ls : List (Int × Int × Int)) (p : Int) (w : World) (hn : n ≤ 1048576) (hp : 0 ≤ p) (hv : CV w B P s (.slice a n c) n ls) :
    Calls Tryz.prog 30 #[.pointer (some ⟨P, 0, none⟩), .int .i64 p] w fun e w' => e = .returned (.tuple #[]) ∧ ∃ ra rc, CV w' B P s (.slice ra (evL ls p).length rc) (evL ls p).length (evL ls p) ∧ Below B w w' ∧ OutS (fun k => k = P) w w' := by
  have hlen := hv.len
  have c1 := hv.c1
  have HV := hide hv
  clear hv
  by_cases h0 : 0 < n
  · obtain ⟨i, hpi, hin⟩ := rem_nat p n h0
    have HE := hide (evL_at (ls := ls) (by omega) (by rw [hlen]; exact hpi))
    have HLL : Hid ((ls.eraseIdx i).length = n - 1) := by show _ = _; rw [List.length_eraseIdx_of_lt (by omega), hlen]
    have hnz : (0 : Int) < (n : Int) := by omega
    go_enter Tryz.func30, Tryz.ntmps30
    go_wp2_with fail
    refine (l4Drop_V B P s a n c i ls _ hn hin HV.out).mono ?_
    rintro e w2 ⟨rfl, ra, rc, V2, g2, u2⟩
    have HR : Hid (CV w2 B P s (.slice ra (evL ls p).length rc) (evL ls p).length (evL ls p)) := by
      show CV _ _ _ _ _ _ _
      rw [HE.out, HLL.out]
      exact V2
    have HB := hide g2
    have HU := hide u2
    clear V2 g2 u2
    go_wp2
    exact bodyPost_end (v := .tuple #[]) (by simp [results, Tryz.results30, go_sem]) rfl ⟨rfl, _, _, HR.out, HB.out, HU.out⟩
  · have hn0 : n = 0 := by omega
    subst hn0
    have HE := hide (evL_nil (p := p) hlen)
    have HR : Hid (CV w B P s (.slice a (evL ls p).length c) (evL ls p).length (evL ls p)) := by
      show CV _ _ _ _ _ _ _
      rw [HE.out, hlen]
      exact HV.out
    go_enter Tryz.func30, Tryz.ntmps30
    go_wp2
    exact bodyPost_end (v := .tuple #[]) (by simp [results, Tryz.results30, go_sem]) rfl ⟨rfl, _, _, HR.out, Below.refl _ _, OutS.refl _ _⟩

/-- without the line of d and t. -/
def dropL (ls : List (Int × Int × Int)) (d t : Int) : List (Int × Int × Int) := if atK ls d t < 0 then ls else ls.eraseIdx (atK ls d t).toNat

/-- a line is put behind the others, one is gone where there is no room. -/
def fiL (s : Int) (ls : List (Int × Int × Int)) (x : Int × Int × Int) (p : Int) : List (Int × Int × Int) :=
  if s = 0 then [] else (if s ≤ ((dropL ls x.1 x.2.1).length : Int) then evL (dropL ls x.1 x.2.1) p else dropL ls x.1 x.2.1) ++ [x]

theorem mem_g3 {ls : List (Int × Int × Int)} {y : Int × Int × Int} (h : y ∈ ls) : ∃ j, j < ls.length ∧ g3 ls j = y := by
  obtain ⟨j, hj, rfl⟩ := List.getElem_of_mem h
  exact ⟨j, hj, by simp [g3, hj]⟩

theorem hitL_eq {d t : Int} {x : Int × Int × Int} (h : hitL d t x = true) : x.1 = d ∧ x.2.1 = t := by simpa [hitL] using h

theorem length_dropL (ls : List (Int × Int × Int)) (d t : Int) : (dropL ls d t).length ≤ ls.length := by
  unfold dropL
  split
  · exact Nat.le_refl _
  · exact List.length_eraseIdx_le _ _

theorem dropL_no {ls : List (Int × Int × Int)} {d t : Int} (h : atK ls d t < 0) : dropL ls d t = ls := if_pos h

theorem dropL_at {ls : List (Int × Int × Int)} {d t : Int} {i : Nat} (h : atK ls d t = (i : Int)) : dropL ls d t = ls.eraseIdx i := by
  unfold dropL
  rw [h, if_neg (by omega)]
  rfl

theorem fiL_zero {s : Int} {ls : List (Int × Int × Int)} {x : Int × Int × Int} {p : Int} (h : s = 0) : fiL s ls x p = [] := if_pos h

theorem fiL_full {s : Int} {ls ks : List (Int × Int × Int)} {x : Int × Int × Int} {p : Int} (h : s ≠ 0) (hk : dropL ls x.1 x.2.1 = ks) (hf : s ≤ (ks.length : Int)) : fiL s ls x p = evL ks p ++ [x] := by
  unfold fiL
  rw [if_neg h, hk, if_pos hf]

theorem fiL_room {s : Int} {ls ks : List (Int × Int × Int)} {x : Int × Int × Int} {p : Int} (h : s ≠ 0) (hk : dropL ls x.1 x.2.1 = ks) (hf : ¬ s ≤ (ks.length : Int)) : fiL s ls x p = ks ++ [x] := by
  unfold fiL
  rw [if_neg h, hk, if_neg hf]

end Go.Proofs.YtnibngigbcakkaaGreat
