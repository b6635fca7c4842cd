import Derived.Test.YtcojgmecocjnkabGreatG24
import Derived.Test.YtcojgmecocjnkabGreatG61
import Derived.Test.YtcojgmecocjnkabGreatG12
import Derived.WalkKit
import Derived.ProofKit
import Derived.OpenShut
import Derived.ShutString
import Derived.ChangeOld
import Derived.Below
import Derived.WalkSpells
import Derived.Deep.QuietTactic
import Derived.BigQuiet
import Derived.Deep.RegionWith
import Derived.Deep.WholeRow
import Derived.Deep.DeepCutAuto
import Derived.Deep.RegionHeld2
import Derived.Deep.AppendLies
import Derived.Deep.RegionLaw
namespace Go.Proofs.YtcojgmecocjnkabGreat
open Go.ChangeShapes Go.WideShapes Go.ChangeAt Go.RowKit

def setL : List Int → Nat → List Int → List Int
  | ys, _, [] => ys
  | ys, o, z :: r => setL (ys.set o z) (o + 1) r

theorem setL_take : ∀ (zs ys : List Int) (o : Nat), o + zs.length ≤ ys.length → (setL ys o zs).take (o + zs.length) = ys.take o ++ zs
  | [], ys, o, _ => by simp [setL]
  | z :: r, ys, o, h => by
    simp only [List.length_cons] at h
    have := setL_take r (ys.set o z) (o + 1) (by simp; omega)
    rw [setL, List.length_cons, show o + (r.length + 1) = o + 1 + r.length by omega, this]
    have e : (ys.set o z).take (o + 1) = ys.take o ++ [z] := by
      rw [List.take_succ_eq_append_getElem (by simp; omega)]
      simp
      apply List.ext_getElem?
      intro i
      by_cases hi : i < o
      · rw [List.getElem?_take_of_lt hi, List.getElem?_take_of_lt hi, List.getElem?_set_ne (by omega)]
      · rw [List.getElem?_take_eq_none (by omega), List.getElem?_take_eq_none (by omega)]
    rw [e, List.append_assoc]
    rfl

theorem own_setL : ∀ (zs : List Int) (o : Nat) {w : World} {B g n cap : Nat} {e : TypeId} {ys : List Int}, w.ownsRow B e 3 (.slice (some ⟨g, 0, none⟩) n cap) n (ys.map (Value.int .i64)) →
    (w.setCells g o (zs.map (Value.int .i64))).ownsRow B e 3 (.slice (some ⟨g, 0, none⟩) n cap) n ((setL ys o zs).map (Value.int .i64))
  | [], _, _, _, _, _, _, _, _, h => h
  | z :: r, o, w, B, g, n, cap, e, ys, h => by
    have h1 := (h.stored o (.int .i64 z)).1
    have h2 : (w.setCell ⟨g, o, none⟩ (.int .i64 z)).ownsRow B e 3 (.slice (some ⟨g, 0, none⟩) n cap) n ((ys.set o z).map (Value.int .i64)) := by simpa [List.map_set] using h1
    exact own_setL r (o + 1) h2

theorem erase_fl3 (ls : List (Int × Int × Int)) (i : Nat) : fl3 (ls.eraseIdx i) = (fl3 ls).take (i * 3) ++ (fl3 ls).drop ((i + 1) * 3) := by
  rw [List.eraseIdx_eq_take_drop_succ, fl3_append, fl3_take, fl3_drop]

set_option maxRecDepth 100000 in
set_option maxHeartbeats 2000000 in
theorem deleteL_calls (B g n cap i : Nat) (ls : List (Int × Int × Int)) (w : World) (hn : n ≤ 1048576) (hi : i < n) (hl : ls.length = n) (ho : w.ownsRow B 118 3 (.slice (some ⟨g, 0, none⟩) n cap) n (vs3 ls)) :
    Calls Tryz.prog 179 #[.slice (some ⟨g, 0, none⟩) n cap, .int .i64 i, .int .i64 ((i : Int) + 1)] w fun e w' => e = .returned (.slice (some ⟨g, 0, none⟩) (n - 1) cap) ∧ w'.ownsRow B 118 3 (.slice (some ⟨g, 0, none⟩) (n - 1) cap) (n - 1) (vs3 (ls.eraseIdx i)) ∧ Below B w w' := by
  obtain ⟨i0, hi0, hz0, hz1, hz2⟩ := info_parts infoLine
  have hz : ∀ u, (zeroValue 118).run Tryz.prog u = .ok (.agg #[.int .i64 0, .int .i64 0, .int .i64 0]) u := fun u => by simp [go_sem]
  obtain ⟨hnc, hcm, hBg, hgw⟩ := own_room ho
  unfold maxLen at hcm
  have hvl : (fl3 ls).length = n * 3 := by rw [length_fl3, hl]
  obtain ⟨zs, hzs⟩ : ∃ zs, zs = (fl3 ls).drop ((i + 1) * 3) := ⟨_, rfl⟩
  have hzl : zs.length = (n - (i + 1)) * 3 := by rw [hzs, List.length_drop, hvl]; omega
  obtain ⟨A, hA, hsrc⟩ : ∃ A : Addr, (if cap = i + 1 then some (⟨g, 0, none⟩ : Addr) else some ⟨g, (i + 1) * 3, none⟩) = some A ∧ Hid (∀ t u, (zs.map (Value.int .i64))[t]? = some u → w.drew.cell? (A.add t) = some u) := by
    by_cases h : cap = i + 1
    · refine ⟨⟨g, 0, none⟩, by simp [h], fun t u hu => ?_⟩
      have h0 : zs.length = 0 := by rw [hzl]; omega
      rw [List.length_eq_zero_iff.1 h0] at hu
      simp at hu
    · refine ⟨⟨g, (i + 1) * 3, none⟩, by simp [h], fun t u hu => ?_⟩
      have ht : t < zs.length := by have := (List.getElem?_eq_some_iff.1 hu).1; simpa using this
      have hadd : (Addr.mk g ((i + 1) * 3) none).add t = ⟨g, (i + 1) * 3 + t, none⟩ := by cases t <;> simp [Addr.add]
      rw [hadd]
      refine (own_cell ho (j := (i + 1) * 3 + t) (by omega)).trans ?_
      rw [← hu, hzs]
      simp [gt, show (i + 1) * 3 + t < (fl3 ls).length by omega]
  have s1 : Hid ((zs.map (Value.int .i64)).length = (n - (i + 1)) * 3) := by show _ = _; rw [List.length_map]; exact hzl
  have s3 : Hid (∀ t, t < (zs.map (Value.int .i64)).length → (w.drew.cell? ⟨g, 0 + i * 3 + t, none⟩).isSome = true ∧ w.drew.frozen? ⟨g, 0 + i * 3 + t, none⟩ = false) := by
    intro t ht
    rw [s1.out] at ht
    exact ⟨by show (w.cell? _).isSome = true; rw [own_cell ho (j := 0 + i * 3 + t) (by omega)]; rfl, ho.frozenAt _⟩
  have O1 := own_setL zs (i * 3) (own_drew ho)
  obtain ⟨W1, hW1⟩ : ∃ W1, W1 = w.drew.setCells g (i * 3) (zs.map (Value.int .i64)) := ⟨_, rfl⟩
  rw [← hW1] at O1
  have hcl : ∀ ty, (Builtin.clear_ #[48] ty #[.slice (some ⟨g, (i + (n - (i + 1))) * 3, none⟩) (n - (i + (n - (i + 1)))) (cap - (i + (n - (i + 1))))]).run Tryz.prog W1 = .ok (.tuple #[]) (W1.setCells g ((i + (n - (i + 1))) * 3) (List.replicate ((n - (i + (n - (i + 1)))) * 3) (.int .i64 0))) :=
    fun ty => run_clear_lines W1 _ _ ty Tryz.underlying48 hz g _ _ _ (by omega) (fun j hj => ⟨_, own_cell O1 (by omega)⟩) (fun j => O1.frozenAt _)
  obtain ⟨ts, ht1, ht2⟩ := own_zero ((n - (i + (n - (i + 1)))) * 3) ((i + (n - (i + 1))) * 3) O1
  have HO : Hid ((W1.setCells g ((i + (n - (i + 1))) * 3) (List.replicate ((n - (i + (n - (i + 1)))) * 3) (.int .i64 0))).ownsRow B 118 3 (.slice (some ⟨g, 0, none⟩) (n - 1) cap) (n - 1) (vs3 (ls.eraseIdx i))) := by
    show World.ownsRow _ _ _ _ _ _ _
    have h := own_take ht2 (k := n - 1) (by omega)
    have e : ts.take ((n - 1) * 3) = fl3 (ls.eraseIdx i) := by
      rw [show (n - 1) * 3 = (i + (n - (i + 1))) * 3 by omega, ht1, show (i + (n - (i + 1))) * 3 = i * 3 + zs.length by omega, setL_take _ _ _ (by omega), hzs, ← erase_fl3]
    rw [← List.map_take, e] at h
    exact h
  have HB : Hid (Below B w (W1.setCells g ((i + (n - (i + 1))) * 3) (List.replicate ((n - (i + (n - (i + 1)))) * 3) (.int .i64 0)))) := by
    show Below _ _ _
    rw [hW1]
    exact below_setCells _ _ (below_setCells _ _ (Below.refl _ _).drew hBg) hBg
  have hW : Hid (W1 = w.drew.setCells g (0 + i * 3) (zs.map (Value.int .i64))) := by show _ = _; rw [hW1, Nat.zero_add]
  have hic : i ≤ cap := by omega
  have hjc : i + 1 ≤ cap := by omega
  have hkc : ¬ cap = i + (n - (i + 1)) := by omega
  have hii : ¬ i = i + 1 := by omega
  have hb1 : (0 : Int) ≤ (i : Int) + 1 := by omega
  have hb2 : (i : Int) + 1 ≤ (n : Int) := by omega
  clear hW1 O1 ht1 ht2 hzs ho
  go_enter Tryz.func179, Tryz.ntmps179
  go_wp2_with fail
  go_region_law (refine step_append_room rfl (.tmp 22) (.tmp 25) 48 rfl 118 i0 3 Tryz.underlying48 hi0 hz1 g 0 i cap (by simp [Act.eval, Act.put]) A (n - (i + 1)) (cap - (i + 1)) (zs.map (Value.int .i64)) (by simp [Act.eval, Act.put]) s1.out hsrc.out ints_one (by omega) s3.out ?_; rw [← hW.out])
  all_goals (
    go_wp2
    go_ret
    exact ⟨by rw [show n - 1 = i + (n - (i + 1)) by omega]; rfl, HO.out, HB.out⟩)

set_option maxRecDepth 100000 in
set_option maxHeartbeats 1000000 in
theorem evicted_calls (a : Option Addr) (n c : Nat) (ls : List (Int × Int × Int)) (p : Int) (w : World) (hn : n ≤ 1048576) (hp : 0 ≤ p) (hs : Sln w a n ls) :
    Calls Tryz.prog 134 #[.slice a n c, .int .i64 p] w fun e w' => ∃ v, e = .returned v ∧ w'.ownsRow w.heap.size 118 3 v (evL ls p).length (vs3 (evL ls p)) ∧ Below w.heap.size w w' := by
  have hlen := hs.1
  by_cases h0 : 0 < n
  · obtain ⟨i, hpi, hin⟩ := rem_nat p n h0
    have HE := hide (evL_at (ls := ls) (by omega) (by rw [hlen]; exact hpi))
    have hll : (ls.eraseIdx i).length = n - 1 := by rw [List.length_eraseIdx_of_lt (by omega), hlen]
    have HLL := hide hll
    have hnz : ((n : Int) == 0) = false := by simp; omega
    clear hll
    go_enter Tryz.func134, Tryz.ntmps134
    go_wp2_with fail
    refine (cloneL_calls a n c ls _ hn hs).mono ?_
    rintro e w1 ⟨v, rfl, ho, g1⟩
    obtain ⟨g, cap, rfl, hB, hlt⟩ := ho.form h0
    have HO := hide ho
    have HG := hide g1
    clear ho g1 hs
    go_wp2_with fail
    refine (deleteL_calls w.heap.size g n cap i ls _ hn hin hlen HO.out).mono ?_
    rintro e w2 ⟨rfl, ho2, g2⟩
    have HO2 : Hid (w2.ownsRow w.heap.size 118 3 (.slice (some ⟨g, 0, none⟩) (n - 1) cap) (evL ls p).length (vs3 (evL ls p))) := by
      show World.ownsRow _ _ _ _ _ _ _
      rw [HE.out, HLL.out]
      exact ho2
    have HB := hide (HG.out.trans g2)
    clear ho2 g2
    go_wp2
    go_ret
    exact ⟨_, rfl, HO2.out, HB.out⟩
  · have hn0 : n = 0 := by omega
    subst hn0
    have HE := hide (evL_nil (p := p) hlen)
    go_enter Tryz.func134, Tryz.ntmps134
    go_wp2_with fail
    refine (cloneL_calls a 0 c ls _ hn hs).mono ?_
    rintro e w1 ⟨v, rfl, ho, g1⟩
    obtain ⟨ra, rc, rfl, _⟩ := own_ol hn hlen ho
    have HO : Hid (w1.ownsRow w.heap.size 118 3 (.slice ra 0 rc) (evL ls p).length (vs3 (evL ls p))) := by
      show World.ownsRow _ _ _ _ _ _ _
      rw [HE.out, hlen]
      exact ho
    have HB := hide g1
    clear ho g1
    go_wp2
    go_ret
    exact ⟨_, rfl, HO.out, HB.out⟩

set_option maxRecDepth 100000 in
set_option maxHeartbeats 400000 in
theorem isFlushedBy_calls (d t p wd wt : Int) (w : World) :
    Calls Tryz.prog 178 #[.agg #[.int .i64 d, .int .i64 t, .int .i64 p], .agg #[.int .i64 wd, .int .i64 wt, .int .i64 0]] w fun e w' => e = .returned (.bool (gone wd wt (d, t, p))) ∧ Below w.heap.size w w' := by
  have M0 := ((Mm.start w).alloc3 (.int .i64 d) (.int .i64 t) (.int .i64 p) 118).alloc3 (.int .i64 wd) (.int .i64 wt) (.int .i64 0) 118
  try simp only [World.size_alloc] at M0
  go_enter Tryz.func178, Tryz.ntmps178
  go_wp2_with fail
  refine (withoutPerm_calls d t p _).mono ?_
  rintro e w1 ⟨rfl, g1⟩
  have M1 := M0.below g1
  have f3 := M1.fz 3 rfl
  have f4 := M1.fz 4 rfl
  have f5 := M1.fz 5 rfl
  have c3 := M1.cell 3 rfl
  have c4 := M1.cell 4 rfl
  have c5 := M1.cell 5 rfl
  have M2 := ((M1.set 3 rfl (.int .i64 d) (Nat.le_refl _) (by simp) (by simp)).set 4 rfl (.int .i64 t) (Nat.le_refl _) (by simp) (by simp)).set 5 rfl (.int .i64 0) (Nat.le_refl _) (by simp) (by simp)
  obtain ⟨X, hX⟩ : ∃ X, X = ((w1.setCell ⟨w.heap.size, 0, none⟩ (.int .i64 d)).setCell ⟨w.heap.size, 1, none⟩ (.int .i64 t)).setCell ⟨w.heap.size, 2, none⟩ (.int .i64 0) := ⟨_, rfl⟩
  have HX := hide hX
  rw [← hX] at M2
  simp only [List.set_cons_succ, List.set_cons_zero] at M2
  clear hX M0 M1 g1
  go_upto_region 2 with fail
  rw [← HX.out]
  clear c3 c4 c5 f3 f4 f5 HX
  have c0 := M2.cell 0 rfl
  have c1 := M2.cell 1 rfl
  have c2 := M2.cell 2 rfl
  have c3 := M2.cell 3 rfl
  have c4 := M2.cell 4 rfl
  have c5 := M2.cell 5 rfl
  have f3 := M2.fz 3 rfl
  have f4 := M2.fz 4 rfl
  have HB := hide M2.bel
  clear M2
  by_cases h1 : wd = -1
  · have e1 := eq_true h1
    have e1' : (wd == -1) = true := by simpa using h1
    by_cases h2 : wt = -1
    · have e2' : (wt == -1) = true := by simpa using h2
      have HR : Hid (gone wd wt (d, t, p) = true) := by show _ = _; simp [gone, h1, h2]
      subst h1 h2
      clear e1
      go_wp2
      go_ret
      refine ⟨ret_bool HR.out.symm, ?_⟩
      repeat (first | with_reducible exact HB.out | with_reducible refine Below.setCell ?_ (by simp) _)
    · have e2' : (wt == -1) = false := by simpa using h2
      by_cases h4 : t = wt
      · have HR : Hid (gone wd wt (d, t, p) = true) := by show _ = _; simp [gone, h1, h4]
        subst h1 h4
        clear e1
        go_wp2
        go_ret
        refine ⟨ret_bool HR.out.symm, ?_⟩
        repeat (first | with_reducible exact HB.out | with_reducible refine Below.setCell ?_ (by simp) _)
      · have HR : Hid (gone wd wt (d, t, p) = false) := by show _ = _; simp [gone, h2, h4]
        subst h1
        clear e1
        go_wp2
        go_ret
        refine ⟨ret_bool HR.out.symm, ?_⟩
        repeat (first | with_reducible exact HB.out | with_reducible refine Below.setCell ?_ (by simp) _)
  · have e1' : (wd == -1) = false := by simpa using h1
    by_cases h3 : d = wd
    · by_cases h2 : wt = -1
      · have e2' : (wt == -1) = true := by simpa using h2
        have HR : Hid (gone wd wt (d, t, p) = true) := by show _ = _; simp [gone, h2, h3]
        subst h2 h3
        go_wp2
        go_ret
        refine ⟨ret_bool HR.out.symm, ?_⟩
        repeat (first | with_reducible exact HB.out | with_reducible refine Below.setCell ?_ (by simp) _)
      · have e2' : (wt == -1) = false := by simpa using h2
        by_cases h4 : t = wt
        · have HR : Hid (gone wd wt (d, t, p) = true) := by show _ = _; simp [gone, h3, h4]
          subst h3 h4
          go_wp2
          go_ret
          refine ⟨ret_bool HR.out.symm, ?_⟩
          repeat (first | with_reducible exact HB.out | with_reducible refine Below.setCell ?_ (by simp) _)
        · have HR : Hid (gone wd wt (d, t, p) = false) := by show _ = _; simp [gone, h2, h4]
          subst h3
          go_wp2
          go_ret
          refine ⟨ret_bool HR.out.symm, ?_⟩
          repeat (first | with_reducible exact HB.out | with_reducible refine Below.setCell ?_ (by simp) _)
    · have HR : Hid (gone wd wt (d, t, p) = false) := by show _ = _; simp [gone, h1, h3]
      by_cases h2 : wt = -1
      · have e2' : (wt == -1) = true := by simpa using h2
        subst h2
        go_wp2
        go_ret
        refine ⟨ret_bool HR.out.symm, ?_⟩
        repeat (first | with_reducible exact HB.out | with_reducible refine Below.setCell ?_ (by simp) _)
      · have e2' : (wt == -1) = false := by simpa using h2
        go_wp2
        go_ret
        refine ⟨ret_bool HR.out.symm, ?_⟩
        repeat (first | with_reducible exact HB.out | with_reducible refine Below.setCell ?_ (by simp) _)

/-- what 'flushed' keeps: the box of what is wanted, and the row with the first q lines as they are to be. -/
structure FI (w : World) (d t : Int) (g n cap k : Nat) (ls : List (Int × Int × Int)) (q : Nat) (wr : World) : Prop where
  m : Mm w wr [(w.heap.size, 0, .int .i64 d), (w.heap.size, 1, .int .i64 t), (w.heap.size, 2, .int .i64 0)] []
  hq : (flL (ls.take k) d t).length = q
  row : ∃ ys : List Int, ys.take (q * 3) = fl3 (flL (ls.take k) d t) ∧ wr.ownsRow (w.heap.size + 1) 118 3 (.slice (some ⟨g, 0, none⟩) n cap) n (ys.map (Value.int .i64))

theorem FI.below {w : World} {d t : Int} {g n cap k : Nat} {ls : List (Int × Int × Int)} {q : Nat} {wr w' : World} (h : FI w d t g n cap k ls q wr) (hb : Below wr.heap.size wr w') : FI w d t g n cap k ls q w' := by
  obtain ⟨ys, e, ho⟩ := h.row
  exact ⟨h.m.below hb, h.hq, ys, e, own_below ho hb⟩

theorem FI.skip {w : World} {d t : Int} {g n cap k : Nat} {ls : List (Int × Int × Int)} {q : Nat} {wr : World} (h : FI w d t g n cap k ls q wr) (hk : k < ls.length) (hg : gone d t (g3 ls k) = true) : FI w d t g n cap (k + 1) ls q wr := by
  have e := flL_drop hk hg
  exact ⟨h.m, by rw [e]; exact h.hq, by rw [e]; exact h.row⟩

theorem FI.keep {w : World} {d t : Int} {g n cap k : Nat} {ls : List (Int × Int × Int)} {q : Nat} {wr : World} (h : FI w d t g n cap k ls q wr) (hk : k < ls.length) (hq : q < n) (hg : gone d t (g3 ls k) = false) : FI w d t g n cap (k + 1) ls (q + 1) (set3 wr g (q * 3) (g3 ls k)) := by
  have e := flL_keep hk hg
  obtain ⟨ys, e1, ho⟩ := h.row
  have hlt := (own_room ho).2.2.1
  have hyl : ys.length = n * 3 := by have := ho.1; rwa [List.length_map] at this
  refine ⟨?_, by rw [e, List.length_append, h.hq]; rfl, put3 ys q (g3 ls k), ?_, own_set3 ho q _⟩
  · refine ⟨((h.m.bel.setCell (by show w.heap.size ≤ g; omega) _).setCell (by show w.heap.size ≤ g; omega) _).setCell (by show w.heap.size ≤ g; omega) _, fun c hc => ?_, fun f hf => by cases hf⟩
    obtain ⟨a1, a2, a3⟩ := h.m.cells c hc
    have hcb : c.1 = w.heap.size := by
      rcases List.mem_cons.1 hc with rfl | hc
      · rfl
      · rcases List.mem_cons.1 hc with rfl | hc
        · rfl
        · rcases List.mem_cons.1 hc with rfl | hc
          · rfl
          · cases hc
    refine ⟨by simpa [set3] using a1, ?_, by simpa [set3] using a3⟩
    unfold set3
    rw [World.cell?_setCell_other _ _ _ _ (fun e => by injection e with e1; omega), World.cell?_setCell_other _ _ _ _ (fun e => by injection e with e1; omega), World.cell?_setCell_other _ _ _ _ (fun e => by injection e with e1; omega)]
    exact a2
  · rw [put3_take _ (by omega), e1, e, fl3_append]
    rfl

set_option maxRecDepth 100000 in
set_option maxHeartbeats 1000000 in
theorem flushed_calls (a : Option Addr) (n c : Nat) (ls : List (Int × Int × Int)) (d t : Int) (w : World) (hn : n ≤ 1048576) (hs : Sln w a n ls) :
    Calls Tryz.prog 132 #[.slice a n c, .agg #[.int .i64 d, .int .i64 t, .int .i64 0]] w fun e w' => ∃ v, e = .returned v ∧ w'.ownsRow w.heap.size 118 3 v (flL ls d t).length (vs3 (flL ls d t)) ∧ Below w.heap.size w w' := by
  have hlen := hs.1
  have M0 := (Mm.start w).alloc3 (.int .i64 d) (.int .i64 t) (.int .i64 0) 118
  have hz : ∀ u, (zeroValue 118).run Tryz.prog u = .ok (.agg #[.int .i64 0, .int .i64 0, .int .i64 0]) u := fun u => by simp [go_sem]
  have hcl0 : ∀ (u : World) (ty : TypeId) (x : Option Addr) (m : Nat), (Builtin.clear_ #[48] ty #[.slice x 0 m]).run Tryz.prog u = .ok (.tuple #[]) u := fun u ty x m => by
    cases x <;> simp [Builtin.clear_, run_underlying Tryz.underlying48]
  by_cases hp : 0 < n
  · go_enter Tryz.func132, Tryz.ntmps132
    go_wp2_with fail
    refine (cloneL_calls a n c ls _ hn (hs.below M0.bel (Nat.le_refl _))).mono ?_
    rintro e w1 ⟨v, rfl, ho, g1⟩
    obtain ⟨g, cap, rfl, hB, hlt⟩ := ho.form hp
    simp only [World.size_alloc] at ho hB
    have hrm := own_room ho
    have hnc := hrm.1
    have hcm := hrm.2.1
    unfold maxLen at hcm
    have F0 : FI w d t g n cap 0 ls 0 w1 := ⟨M0.below g1, by simp [flL], fl3 ls, by simp [flL, fl3], ho⟩
    have HF0 := hide F0
    clear F0 ho g1 M0 hrm
    go_wp2
    go_loopw [6, 13] (fun kq i wr => ∃ k q : Nat, k ≤ n ∧ q ≤ k ∧ i = .int .i64 k ∧ kq = .int .i64 q ∧ FI w d t g n cap k ls q wr) (fun _ i _ => n - (intOf i).toNat)
    case atStart => exact ⟨0, 0, Nat.zero_le _, Nat.le_refl _, rfl, rfl, HF0.out⟩
    case round =>
      clear HF0
      obtain ⟨k, q, hk, hqk, rfl, rfl, F⟩ := hrel
      by_cases hlt : k < n
      · obtain ⟨_, hs'⟩ := hs
        obtain ⟨b, off, rfl, hb, hc⟩ := hs' (by omega)
        obtain ⟨r0, r1, r2⟩ := cells3 hc hlt
        have p0 := (F.m.bel.cell (p := ⟨b, off + k * 3, none⟩) hb).trans r0
        have p1 := (F.m.bel.cell (p := ⟨b, off + k * 3 + 1, none⟩) hb).trans r1
        have p2 := (F.m.bel.cell (p := ⟨b, off + k * 3 + 2, none⟩) hb).trans r2
        have q0 := F.m.cell 0 rfl
        have q1 := F.m.cell 1 rfl
        have q2 := F.m.cell 2 rfl
        have kN := F.m.lt 0 rfl
        have F1 := F.below ((Below.refl wr.heap.size wr).alloc (Nat.le_refl _) (.cells #[.int .i64 (g3 ls k).1, .int .i64 (g3 ls k).2.1, .int .i64 (g3 ls k).2.2] 118))
        clear hc r0 r1 r2 F
        cases hg : gone d t (g3 ls k) with
        | true =>
          go_wp2_with fail
          refine (isFlushedBy_calls (g3 ls k).1 (g3 ls k).2.1 (g3 ls k).2.2 d t _).mono ?_
          rintro e w2 ⟨rfl, g2⟩
          have hg' : gone d t ((g3 ls k).1, (g3 ls k).2.1, (g3 ls k).2.2) = true := hg
          rw [hg']
          have HF := hide ((F1.below g2).skip (by omega) hg)
          clear F1 g2 hg hg' p0 p1 p2 q0 q1 q2
          go_wp2
          go_roundw
          case rel => exact ⟨k + 1, q, by omega, by omega, by go_num, rfl, HF.out⟩
          case measure => simp [intOf]; omega
        | false =>
          go_wp2_with fail
          refine (isFlushedBy_calls (g3 ls k).1 (g3 ls k).2.1 (g3 ls k).2.2 d t _).mono ?_
          rintro e w2 ⟨rfl, g2⟩
          have hg' : gone d t ((g3 ls k).1, (g3 ls k).2.1, (g3 ls k).2.2) = false := hg
          rw [hg']
          have F2 := F1.below g2
          obtain ⟨ys, _, ho⟩ := F2.row
          have s0 := own_cell ho (j := q * 3) (by omega)
          have s1 := own_cell ho (j := q * 3 + 1) (by omega)
          have s2 := own_cell ho (j := q * 3 + 2) (by omega)
          have f0 := ho.frozenAt (q * 3)
          have f1 := ho.frozenAt (q * 3 + 1)
          have f2 := ho.frozenAt (q * 3 + 2)
          have z2 := g2.size
          simp only [World.size_alloc] at z2
          have l0 : w2.cell? ⟨wr.heap.size, 0, none⟩ = some (.int .i64 (g3 ls k).1) := (g2.cell (p := ⟨wr.heap.size, 0, none⟩) (by simp)).trans (by go_simp)
          have l1 : w2.cell? ⟨wr.heap.size, 1, none⟩ = some (.int .i64 (g3 ls k).2.1) := (g2.cell (p := ⟨wr.heap.size, 1, none⟩) (by simp)).trans (by go_simp)
          have l2 : w2.cell? ⟨wr.heap.size, 2, none⟩ = some (.int .i64 (g3 ls k).2.2) := (g2.cell (p := ⟨wr.heap.size, 2, none⟩) (by simp)).trans (by go_simp)
          have HF := hide (F2.keep (by omega) (by omega) hg)
          unfold set3 at HF
          have i0 : (0 : Int) ≤ (q : Int) := by omega
          have i1 : (q : Int) < (n : Int) := by omega
          clear F1 F2 ho g2 hg hg' p0 p1 p2 q0 q1 q2
          go_wp2
          go_roundw
          case rel => exact ⟨k + 1, q + 1, by omega, by omega, by go_num, by go_num, HF.out⟩
          case measure => simp [intOf]; omega
      · have hkn : k = n := by omega
        have hqe := F.hq
        obtain ⟨ys, hy, ho⟩ := F.row
        rw [hkn, ← hlen, List.take_length] at hqe hy
        have hqn : q ≤ n := by omega
        have HQ := hide hqe
        have i0 : (0 : Int) ≤ (q : Int) := by omega
        have i1 : (q : Int) ≤ (n : Int) := by omega
        have i2 : (q : Int) ≤ (cap : Int) := by omega
        have i3 : q ≤ cap := by omega
        have HB := hide F.m.bel
        have hg1 := (own_room ho).2.2.1
        by_cases hqq : q = n
        · subst hqq
          have HO : Hid (wr.ownsRow w.heap.size 118 3 (.slice (some ⟨g, 0, none⟩) q cap) (flL ls d t).length (vs3 (flL ls d t))) := by
            show World.ownsRow _ _ _ _ _ _ _
            rw [HQ.out]
            have h := own_take (own_mono (B' := w.heap.size) ho (by omega)) (Nat.le_refl q)
            rw [← List.map_take, hy] at h
            exact h
          clear F ho hy hqe hs hlen hkn
          by_cases hcq : cap = q
          · subst hcq
            go_wp2
            go_ret
            exact ⟨_, rfl, HO.out, HB.out⟩
          · go_wp2
            go_ret
            exact ⟨_, rfl, HO.out, HB.out⟩
        · have hcq : ¬ cap = q := by omega
          have hcl : ∀ ty, (Builtin.clear_ #[48] ty #[.slice (some ⟨g, q * 3, none⟩) (n - q) (cap - q)]).run Tryz.prog wr = .ok (.tuple #[]) (wr.setCells g (q * 3) (List.replicate ((n - q) * 3) (.int .i64 0))) :=
            fun ty => run_clear_lines wr _ _ ty Tryz.underlying48 hz g (q * 3) (n - q) (cap - q) (by omega) (fun j hj => ⟨_, own_cell ho (by omega)⟩) (fun j => ho.frozenAt _)
          obtain ⟨zs, hzs, hzo⟩ := own_zero ((n - q) * 3) (q * 3) ho
          have HO : Hid ((wr.setCells g (q * 3) (List.replicate ((n - q) * 3) (.int .i64 0))).ownsRow w.heap.size 118 3 (.slice (some ⟨g, 0, none⟩) q cap) (flL ls d t).length (vs3 (flL ls d t))) := by
            show World.ownsRow _ _ _ _ _ _ _
            rw [HQ.out]
            have h := own_take (own_mono (B' := w.heap.size) hzo (by omega)) hqn
            rw [← List.map_take, hzs, hy] at h
            exact h
          have HB2 := hide (below_setCells (g := g) (List.replicate ((n - q) * 3) (.int .i64 0)) (q * 3) HB.out (by omega))
          clear F ho hy hqe hs hlen hkn hzs hzo
          go_wp2
          go_ret
          exact ⟨_, rfl, HO.out, HB2.out⟩
  · have h0 : n = 0 := by omega
    subst h0
    have hl0 : ls = [] := List.length_eq_zero_iff.1 hlen
    subst hl0
    go_enter Tryz.func132, Tryz.ntmps132
    go_wp2_with fail
    refine (cloneL_calls a 0 c [] _ hn (hs.below M0.bel (Nat.le_refl _))).mono ?_
    rintro e w1 ⟨v, rfl, ho, g1⟩
    have HO := hide (own_mono (B' := w.heap.size) ho (by simp))
    have HB := hide (M0.below g1).bel
    rcases ho.2 with ⟨rfl, _⟩ | ⟨g, cap, cur, rfl, _⟩
    all_goals
      clear M0 g1 ho
      go_wp2
      go_loop [6, 13] (fun kq i => kq = .int .i64 0 ∧ i = .int .i64 0) (fun _ _ => 0)
      case atStart => exact ⟨rfl, rfl⟩
      case round =>
        obtain ⟨rfl, rfl⟩ := hrel
        go_wp2
        go_ret
        exact ⟨_, rfl, HO.out, HB.out⟩

set_option maxRecDepth 100000 in
theorem remembered_calls (s : Int) (a : Option Addr) (n c : Nat) (w : World) :
    Calls Tryz.prog 131 #[.int .i64 s, .slice a n c] w fun e w' => e = .returned (.agg #[.int .i64 0, .int .i64 n, .int .i64 s, .slice a n c]) ∧ Below w.heap.size w w' := by
  have HB := hide fun o => (Below.refl w.heap.size w).alloc (Nat.le_refl _) o
  go_enter Tryz.func131, Tryz.ntmps131
  go_wp2
  refine bodyPost_ret (v := .agg #[.int .i64 0, .int .i64 n, .int .i64 s, .slice a n c]) (by simp [results, Tryz.results131, go_sem]) rfl ⟨rfl, ?_⟩
  first
    | exact HB.out _
    | exact ((((HB.out _).setCell (by simp) _).setCell (by simp) _).setCell (by simp) _).setCell (by simp) _

def cV (c n : Int) : Int := if c = 0 then n else 0

def cL (c : Int) (ls : List (Int × Int × Int)) : List (Int × Int × Int) := if c = 0 then ls else []

theorem cV_ok {c n : Int} (h : c = 0) : cV c n = n := if_pos h
theorem cV_no {c n : Int} (h : c ≠ 0) : cV c n = 0 := if_neg h
theorem cL_ok {c : Int} {ls : List (Int × Int × Int)} (h : c = 0) : cL c ls = ls := if_pos h
theorem cL_no {c : Int} {ls : List (Int × Int × Int)} (h : c ≠ 0) : cL c ls = [] := if_neg h

theorem OL.set4 {S : Nat → Prop} {a : Option Addr} {n : Nat} {ls : List (Int × Int × Int)} {w : World} (h : OL S a n ls w) {P : Nat} (hP : ¬ S P) (v0 v1 v2 v3 : Value) :
    OL S a n ls ((((w.setCell ⟨P, 0, none⟩ v0).setCell ⟨P, 1, none⟩ v1).setCell ⟨P, 2, none⟩ v2).setCell ⟨P, 3, none⟩ v3) :=
  OL.loc.setC (OL.loc.setC (OL.loc.setC (OL.loc.setC h (by exact hP) v0) (by exact hP) v1) (by exact hP) v2) (by exact hP) v3

theorem below_set4 {B : Nat} {w u : World} (h : Below B w u) {P : Nat} (hP : B ≤ P) (v0 v1 v2 v3 : Value) :
    Below B w ((((u.setCell ⟨P, 0, none⟩ v0).setCell ⟨P, 1, none⟩ v1).setCell ⟨P, 2, none⟩ v2).setCell ⟨P, 3, none⟩ v3) :=
  (((h.setCell (by exact hP) v0).setCell (by exact hP) v1).setCell (by exact hP) v2).setCell (by exact hP) v3

/-- what 'flushed' leaves, behind a cut. -/
def FF (w1 : World) (T : TypeId) (ks : List (Int × Int × Int)) (v : Value) (wd : World) : Prop := ∃ ra rc, v = .slice ra ks.length rc ∧ wd.ownsRow w1.heap.size T 3 v ks.length (vs3 ks) ∧ Below w1.heap.size w1 wd

theorem FF.mk {w1 wd : World} {T : TypeId} {ks : List (Int × Int × Int)} {ra : Option Addr} {rc : Nat} (ho : wd.ownsRow w1.heap.size T 3 (.slice ra ks.length rc) ks.length (vs3 ks)) (hb : Below w1.heap.size w1 wd) : FF w1 T ks (.slice ra ks.length rc) wd := ⟨ra, rc, rfl, ho, hb⟩

theorem Mm.belowB {w X w1 : World} {cs : List (Nat × Nat × Value)} {B0 : Nat} (M : Mm w X cs []) (g : Below B0 X w1) (hB : w.heap.size ≤ B0) (hc : ∀ c ∈ cs, c.1 < B0) : Mm w w1 cs [] :=
  ⟨M.bel.trans (g.mono hB), fun c k => ⟨by have := (M.cells c k).1; have := g.size; omega, (World.cell?_of_block (a := ⟨c.1, c.2.1, none⟩) (g.block c.1 (hc c k))).trans (M.cells c k).2.1, (World.frozen?_of_block (a := ⟨c.1, c.2.1, none⟩) (g.block c.1 (hc c k))).trans (M.cells c k).2.2⟩, fun f hf => by cases hf⟩

set_option maxRecDepth 100000 in
set_option maxHeartbeats 4000000 in
theorem implFillCacheC_calls (s : Int) (a : Option Addr) (n c : Nat) (ls : List (Int × Int × Int)) (d t q p : Int) (w : World) (hn : n ≤ maxLen) (hnc : n ≤ c) (hs : Sln w a n ls) :
    Calls Tryz.prog 65 #[.agg #[.int .i64 s, .slice a n c], .agg #[.int .i64 d, .int .i64 t, .int .i64 q], .int .i64 p] w fun e w' => ∃ ra rn rc, e = .returned (.agg #[.int .i64 (fiC s ls (d, t, q) p), .int .i64 (cV (fiC s ls (d, t, q) p) ((fiL s ls (d, t, q) p).length : Int)), .int .i64 (cV (fiC s ls (d, t, q) p) s), .slice ra rn rc]) ∧ rn ≤ rc ∧
      OL (InR w.heap.size w'.heap.size) ra rn (cL (fiC s ls (d, t, q) p) (fiL s ls (d, t, q) p)) w' ∧ Below w.heap.size w w' := by
  have M0 := (((Mm.start w).alloc2 (.int .i64 s) (.slice a n c) 50).alloc3 (.int .i64 d) (.int .i64 t) (.int .i64 q) 118).alloc4 (.int .i64 0) (.int .i64 0) (.int .i64 0) (.slice none 0 0) 123
  try simp only [World.size_alloc] at M0
  have hb2 := M0.bel
  have hlen := hs.1
  go_enter Tryz.func65, Tryz.ntmps65
  go_wp2_with fail
  refine (implCacheFault_calls s a n c ls _ hn hnc (hs.below hb2 (Nat.le_refl _))).mono ?_
  rintro e w1 ⟨rfl, g1⟩
  have M1 := M0.below g1
  have hs1 := hs.below M1.bel (Nat.le_refl _)
  clear M0 g1 hb2
  by_cases hf : faultC s ls = 0
  rotate_left
  · have HC := hide (fiC_fault (x := (d, t, q)) (p := p) hf)
    have hne : (faultC s ls != 0) = true := by simpa using hf
    have hf' : fiC s ls (d, t, q) p ≠ 0 := by rw [HC.out]; exact hf
    have HV := hide fun x => cV_no (n := x) hf'
    have HL := hide (cL_no (ls := fiL s ls (d, t, q) p) hf')
    clear hf'
    clear hf
    have c0 := M1.cell 0 rfl
    have c1 := M1.cell 1 rfl
    have c2 := M1.cell 2 rfl
    have c3 := M1.cell 3 rfl
    have f0 := M1.fz 0 rfl
    have f1 := M1.fz 1 rfl
    have f2 := M1.fz 2 rfl
    have f3 := M1.fz 3 rfl
    have HB := hide M1.bel
    clear M1
    go_wp2
    refine bodyPost_ret (v := .agg #[.int .i64 (faultC s ls), .int .i64 0, .int .i64 0, .slice none 0 0]) (by simp [results, Tryz.results65, go_sem, c0, c1, c2, c3]) rfl ⟨_, _, _, by rw [HV.out, HV.out, HC.out], Nat.le_refl _, ?_, ?_⟩
    · rw [HL.out]; exact OL.nil _ _ _
    · exact below_set4 HB.out (by omega) _ _ _ _
  have y0 := M1.cell 4 rfl
  have y1 := M1.cell 5 rfl
  have y2 := M1.cell 6 rfl
  cases hok : okL (d, t, q) with
  | false =>
    have HC := hide (fiC_bad (x := (d, t, q)) (p := p) hf (.inl hok))
    have hne : (faultC s ls != 0) = false := by simp [hf]
    have hf' : fiC s ls (d, t, q) p ≠ 0 := by rw [HC.out]; omega
    have HV := hide fun x => cV_no (n := x) hf'
    have HL := hide (cL_no (ls := fiL s ls (d, t, q) p) hf')
    clear hf'
    clear hf
    go_wp2_with fail
    refine (isInBounds_calls d t q _).mono ?_
    rintro e w2 ⟨rfl, g2⟩
    rw [hok]
    have M2 := M1.below g2
    have c0 := M2.cell 0 rfl
    have c1 := M2.cell 1 rfl
    have c2 := M2.cell 2 rfl
    have c3 := M2.cell 3 rfl
    have f0 := M2.fz 0 rfl
    have f1 := M2.fz 1 rfl
    have f2 := M2.fz 2 rfl
    have f3 := M2.fz 3 rfl
    have HB := hide M2.bel
    clear M1 M2 g2 y0 y1 y2
    go_wp2
    refine bodyPost_ret (v := .agg #[.int .i64 3, .int .i64 0, .int .i64 0, .slice none 0 0]) (by simp [results, Tryz.results65, go_sem, c0, c1, c2, c3]) rfl ⟨_, _, _, by rw [HV.out, HV.out, HC.out], Nat.le_refl _, ?_, ?_⟩
    · rw [HL.out]; exact OL.nil _ _ _
    · exact below_set4 HB.out (by omega) _ _ _ _
  | true =>
    by_cases hp : p < 0
    · have HC := hide (fiC_bad (x := (d, t, q)) (p := p) hf (.inr hp))
      have hne : (faultC s ls != 0) = false := by simp [hf]
      have hf' : fiC s ls (d, t, q) p ≠ 0 := by rw [HC.out]; omega
      have HV := hide fun x => cV_no (n := x) hf'
      have HL := hide (cL_no (ls := fiL s ls (d, t, q) p) hf')
      clear hf'
      clear hf
      go_wp2_with fail
      refine (isInBounds_calls d t q _).mono ?_
      rintro e w2 ⟨rfl, g2⟩
      rw [hok]
      have M2 := M1.below g2
      have c0 := M2.cell 0 rfl
      have c1 := M2.cell 1 rfl
      have c2 := M2.cell 2 rfl
      have c3 := M2.cell 3 rfl
      have f0 := M2.fz 0 rfl
      have f1 := M2.fz 1 rfl
      have f2 := M2.fz 2 rfl
      have f3 := M2.fz 3 rfl
      have HB := hide M2.bel
      clear M1 M2 g2 y0 y1 y2
      go_wp2
      refine bodyPost_ret (v := .agg #[.int .i64 3, .int .i64 0, .int .i64 0, .slice none 0 0]) (by simp [results, Tryz.results65, go_sem, c0, c1, c2, c3]) rfl ⟨_, _, _, by rw [HV.out, HV.out, HC.out], Nat.le_refl _, ?_, ?_⟩
      · rw [HL.out]; exact OL.nil _ _ _
      · exact below_set4 HB.out (by omega) _ _ _ _
    · have hp0 : 0 ≤ p := by omega
      have HF := hide (fiC_ok (x := (d, t, q)) hf hok hp0)
      have HV := hide fun x => cV_ok (n := x) HF.out
      have HL := hide (cL_ok (ls := fiL s ls (d, t, q) p) HF.out)
      have hne : (faultC s ls != 0) = false := by simp [hf]
      have hinv := faultC_inv hf
      have hn6 : n ≤ 6 := by omega
      have hns : (n : Int) ≤ s := by omega
      have hfl := length_fiL (s := s) (ls := ls) (d, t, q) p (by omega)
      have hnn := okL_nonneg hok
      have HDL := hide (flL_dropL (fun j hj => (hinv.2.2.2 j hj).2) hnn.1 hnn.2)
      clear hf hinv hnn
      go_wp2_with fail
      refine (isInBounds_calls d t q _).mono ?_
      rintro e w2 ⟨rfl, g2⟩
      rw [hok]
      have M2 := M1.below g2
      have q0 := M2.cell 7 rfl
      have hs2 := hs1.below g2 (Nat.le_refl _)
      have z1 := M2.bel.size
      have zP := M2.lt 0 rfl
      clear g2 y0 y1 y2 M1 hs1
      by_cases hs0 : s = 0
      · have hse : (s == 0) = true := by simpa using hs0
        have HE := hide (fiL_zero (s := s) (ls := ls) (x := (d, t, q)) (p := p) hs0)
        clear hs0
        go_wp2_with fail
        refine (remembered_calls s none 0 0 _).mono ?_
        rintro e w3 ⟨rfl, g3⟩
        have M3 := M2.below g3
        have c0 := M3.cell 0 rfl
        have c1 := M3.cell 1 rfl
        have c2 := M3.cell 2 rfl
        have c3 := M3.cell 3 rfl
        have f0 := M3.fz 0 rfl
        have f1 := M3.fz 1 rfl
        have f2 := M3.fz 2 rfl
        have f3 := M3.fz 3 rfl
        have HB := hide M3.bel

        clear M2 M3 g3 q0
        go_wp2
        refine bodyPost_ret (v := .agg #[.int .i64 0, .int .i64 0, .int .i64 s, .slice none 0 0]) (by simp [results, Tryz.results65, go_sem, c0, c1, c2, c3]) rfl ⟨_, _, _, by rw [HV.out, HV.out, HF.out, HE.out]; rfl, Nat.le_refl _, ?_, ?_⟩
        · rw [HL.out, HE.out]; exact OL.nil _ _ _
        · exact below_set4 HB.out (by omega) _ _ _ _
      · have hse : (s == 0) = false := by simpa using hs0
        have q1 := M2.cell 8 rfl
        have y0 := M2.cell 4 rfl
        have y1 := M2.cell 5 rfl
        have y2 := M2.cell 6 rfl
        have HM := hide M2
        have HS := hide hs2
        have HS0 := hide hs0
        clear M2 hs2 hs0
        go_upto_region 8 with fail
        go_cut [8] (fun v wd => FF w2 118 (dropL ls d t) v wd)
        case first =>
          go_region_with (first
            | (go_at_call 133; refine (withoutPerm_calls d t q _).mono ?_; rintro e wa ⟨rfl, ga⟩; have ha : Below w2.heap.size w2 wa := ((Below.refl w2.heap.size w2).drew).trans ga; have qa := (HM.out.below ha).cell 8 rfl; clear ga)
            | (go_at_call 132; refine (flushed_calls a n c ls d t _ (by omega) ?_).mono ?_; exact HS.out.below ha (Nat.le_refl _); rintro e wb ⟨v, rfl, ho, gb⟩; rw [HDL.out] at ho; obtain ⟨ra, rc, rfl, _⟩ := own_ol (by have := length_dropL ls d t; omega) rfl ho; have hF := FF.mk (own_mono ho ha.size) (ha.trans (gb.mono ha.size)); clear ho gb))
          all_goals go_wp2_with fail
          all_goals go_meet
          all_goals exact hF
        case rest =>
          obtain ⟨ra, rc, rfl, ho, gc⟩ := hcut
          obtain ⟨w3, rfl⟩ : ∃ x, x = wc := ⟨wc, rfl⟩
          obtain ⟨i0, hi0, hz0, hz1, hz2⟩ := info_parts infoLine
          have M3 := HM.out.below gc
          have z3 := gc.size
          have hkl := length_dropL ls d t
          have q0 := M3.cell 7 rfl
          have y0 := M3.cell 4 rfl
          have y1 := M3.cell 5 rfl
          have y2 := M3.cell 6 rfl
          clear gc
          by_cases hful : s ≤ ((dropL ls d t).length : Int)
          · have HE := hide (fiL_full (p := p) (x := (d, t, q)) HS0.out rfl hful)
            have heq : (((dropL ls d t).length : Int) == s) = true := by simp; omega
            have hel := length_evL (dropL ls d t) p
            have hsl := own_sln ho rfl
            clear hful ho
            go_wp2_with fail
            refine (evicted_calls ra (dropL ls d t).length rc (dropL ls d t) p _ (by omega) hp0 hsl).mono ?_
            rintro e w4 ⟨v, rfl, ho4, g4⟩
            obtain ⟨ea, ec, rfl, _⟩ := own_ol (by omega) rfl ho4
            have M := M3.below g4
            have z4 := g4.size
            have ho := own_mono ho4 z3
            have HK : Hid ((evL (dropL ls d t) p).length + 0 = (evL (dropL ls d t) p).length) := by show _ = _; omega
            clear M3 g4 ho4 hsl q0 y0 y1 y2
            have q0 := M.cell 7 rfl
            have y0 := M.cell 4 rfl
            have y1 := M.cell 5 rfl
            have y2 := M.cell 6 rfl
            have HX := hide M
            have HO := hide (own_drew (own_below ho ((Below.refl _ _).alloc (Nat.le_refl _) (.cells #[.int .i64 d, .int .i64 t, .int .i64 q] 118))))
            have HO0 := hide ho
            have hNX : w.heap.size < w4.heap.size := by omega
            clear M ho
            go_wp2_with fail
            go_region_law (first
              | (refine step_append_lies _ rfl _ _ 48 rfl w2.heap.size 118 i0 (.agg #[.int .i64 0, .int .i64 0, .int .i64 0]) 3 24 Tryz.underlying48 hi0 hz0 hz1 hz2 rfl (by decide) _ (evL (dropL ls d t) p).length (vs3 (evL (dropL ls d t) p)) rfl HO.out ⟨w4.heap.size, 0, none⟩ 1 1 (vs3 [(d, t, q)]) rfl rfl (three_newL (by go_simp) (by go_simp) (by go_simp)) ints_one (by omega) (by unfold maxLen; omega) (by omega) (by simp; omega) (w4.heap.size + 1) (by simp) ?_; intro g cp w5 hown5 hgrow5 hat5 hlt5; have hcp5 := (own_room hown5).1; have G5 : Below w2.heap.size w4 w5 := (((Below.refl w2.heap.size w4).alloc (by omega) _).drew).grown hgrow5 (by simp; omega) (fun k hk => (HO0.out.lt k hk).1); have M5 := HX.out.belowB G5 z1 (by simp; omega); have q0' := M5.cell 7 rfl; have z5 := G5.size; have hol : OL (InR w2.heap.size w5.heap.size) (some ⟨g, 0, none⟩) ((evL (dropL ls d t) p).length + 1) (evL (dropL ls d t) p ++ [(d, t, q)]) w5 := (by rw [← vs3_append] at hown5; obtain ⟨ya, yc, hy, ho⟩ := own_ol (by omega) (by rw [List.length_append]; rfl) hown5; simp only [Value.slice.injEq, true_and] at hy; obtain ⟨rfl, _⟩ := hy; exact ho); clear hown5 hgrow5 hat5 hlt5 G5)
              | (go_simp; go_at_call 131; refine (remembered_calls s (some ⟨g, 0, none⟩) ((evL (dropL ls d t) p).length + 1) cp _).mono ?_; rintro e w6 ⟨rfl, gb⟩; have M6 := M5.below gb; have z6 := gb.size; have ol6 := OL.loc.below gb hol; clear gb M5 hol; have r0 := M6.cell 0 rfl; have r1 := M6.cell 1 rfl; have r2 := M6.cell 2 rfl; have r3 := M6.cell 3 rfl; have e0 := M6.fz 0 rfl; have e1 := M6.fz 1 rfl; have e2 := M6.fz 2 rfl; have e3 := M6.fz 3 rfl))
            all_goals (
              have HB := hide M6.bel
              have HL2 : Hid ((fiL s ls (d, t, q) p).length = (evL (dropL ls d t) p).length + 1) := by show _ = _; rw [HE.out, List.length_append]; rfl
              have HL3 : Hid (((fiL s ls (d, t, q) p).length : Int) = ((evL (dropL ls d t) p).length : Int) + 1) := by show _ = _; rw [HL2.out]; omega
              clear M6
              go_wp2
              refine bodyPost_ret (v := .agg #[.int .i64 0, .int .i64 (((evL (dropL ls d t) p).length : Int) + 1), .int .i64 s, .slice (some ⟨g, 0, none⟩) ((evL (dropL ls d t) p).length + 1) cp]) (by simp [results, Tryz.results65, go_sem, r0, r1, r2, r3]) rfl ⟨some ⟨g, 0, none⟩, _, cp, by rw [HV.out, HV.out, HF.out, HL3.out], hcp5, ?_, below_set4 HB.out (by omega) _ _ _ _⟩
              rw [HL.out, HE.out]
              exact (OL.set4 ol6 (fun e => by have := e.1; omega) _ _ _ _).mono (fun k hk => ⟨by have := hk.1; omega, by have := hk.2; simp; omega⟩))
          · have HE := hide (fiL_room (p := p) (x := (d, t, q)) HS0.out rfl hful)
            have heq : (((dropL ls d t).length : Int) == s) = false := by simp; omega
            have M := M3
            clear hful M3 q0 y0 y1 y2
            have q0 := M.cell 7 rfl
            have y0 := M.cell 4 rfl
            have y1 := M.cell 5 rfl
            have y2 := M.cell 6 rfl
            have HX := hide M
            have HO := hide (own_drew (own_below ho ((Below.refl _ _).alloc (Nat.le_refl _) (.cells #[.int .i64 d, .int .i64 t, .int .i64 q] 118))))
            have HO0 := hide ho
            have hNX : w.heap.size < w3.heap.size := by omega
            clear M ho
            go_wp2_with fail
            go_region_law (first
              | (refine step_append_lies _ rfl _ _ 48 rfl w2.heap.size 118 i0 (.agg #[.int .i64 0, .int .i64 0, .int .i64 0]) 3 24 Tryz.underlying48 hi0 hz0 hz1 hz2 rfl (by decide) _ (dropL ls d t).length (vs3 (dropL ls d t)) rfl HO.out ⟨w3.heap.size, 0, none⟩ 1 1 (vs3 [(d, t, q)]) rfl rfl (three_newL (by go_simp) (by go_simp) (by go_simp)) ints_one (by omega) (by unfold maxLen; omega) (by omega) (by simp; omega) (w3.heap.size + 1) (by simp) ?_; intro g cp w5 hown5 hgrow5 hat5 hlt5; have hcp5 := (own_room hown5).1; have G5 : Below w2.heap.size w3 w5 := (((Below.refl w2.heap.size w3).alloc (by omega) _).drew).grown hgrow5 (by simp; omega) (fun k hk => (HO0.out.lt k hk).1); have M5 := HX.out.belowB G5 z1 (by simp; omega); have q0' := M5.cell 7 rfl; have z5 := G5.size; have hol : OL (InR w2.heap.size w5.heap.size) (some ⟨g, 0, none⟩) ((dropL ls d t).length + 1) (dropL ls d t ++ [(d, t, q)]) w5 := (by rw [← vs3_append] at hown5; obtain ⟨ya, yc, hy, ho⟩ := own_ol (by omega) (by rw [List.length_append]; rfl) hown5; simp only [Value.slice.injEq, true_and] at hy; obtain ⟨rfl, _⟩ := hy; exact ho); clear hown5 hgrow5 hat5 hlt5 G5)
              | (go_simp; go_at_call 131; refine (remembered_calls s (some ⟨g, 0, none⟩) ((dropL ls d t).length + 1) cp _).mono ?_; rintro e w6 ⟨rfl, gb⟩; have M6 := M5.below gb; have z6 := gb.size; have ol6 := OL.loc.below gb hol; clear gb M5 hol; have r0 := M6.cell 0 rfl; have r1 := M6.cell 1 rfl; have r2 := M6.cell 2 rfl; have r3 := M6.cell 3 rfl; have e0 := M6.fz 0 rfl; have e1 := M6.fz 1 rfl; have e2 := M6.fz 2 rfl; have e3 := M6.fz 3 rfl))
            all_goals (
              have HB := hide M6.bel
              have HL2 : Hid ((fiL s ls (d, t, q) p).length = (dropL ls d t).length + 1) := by show _ = _; rw [HE.out, List.length_append]; rfl
              have HL3 : Hid (((fiL s ls (d, t, q) p).length : Int) = ((dropL ls d t).length : Int) + 1) := by show _ = _; rw [HL2.out]; omega
              clear M6
              go_wp2
              refine bodyPost_ret (v := .agg #[.int .i64 0, .int .i64 (((dropL ls d t).length : Int) + 1), .int .i64 s, .slice (some ⟨g, 0, none⟩) ((dropL ls d t).length + 1) cp]) (by simp [results, Tryz.results65, go_sem, r0, r1, r2, r3]) rfl ⟨some ⟨g, 0, none⟩, _, cp, by rw [HV.out, HV.out, HF.out, HL3.out], hcp5, ?_, below_set4 HB.out (by omega) _ _ _ _⟩
              rw [HL.out, HE.out]
              exact (OL.set4 ol6 (fun e => by have := e.1; omega) _ _ _ _).mono (fun k hk => ⟨by have := hk.1; omega, by have := hk.2; simp; omega⟩))

end Go.Proofs.YtcojgmecocjnkabGreat
