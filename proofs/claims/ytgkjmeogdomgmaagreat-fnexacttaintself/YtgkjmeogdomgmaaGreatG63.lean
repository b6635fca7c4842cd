import Derived.Test.YtgkjmeogdomgmaaGreatG61
import Derived.Test.YtgkjmeogdomgmaaGreatG24
import Derived.Test.YtgkjmeogdomgmaaGreatG12
import Derived.WalkKit
import Derived.ProofKit
import Derived.OpenShut
import Derived.ShutString
import Derived.ChangeOld
import Derived.Below
import Derived.WalkSpells
import Derived.Deep.QuietTactic
import Derived.BigQuiet
import Derived.Deep.RegionWith
import Derived.Deep.WholeRow
import Derived.Deep.DeepCutAuto
import Derived.Deep.RegionHeld2
import Derived.Deep.AppendLies
import Derived.Deep.RegionLaw
namespace Go.Proofs.YtgkjmeogdomgmaaGreat
open Go.ChangeShapes Go.WideShapes Go.ChangeAt Go.RowKit

set_option maxRecDepth 100000 in
set_option maxHeartbeats 400000 in
theorem isFlushedBy_calls (d t p wd wt : Int) (w : World) :
    Calls Tryz.prog 157 #[.agg #[.int .i64 d, .int .i64 t, .int .i64 p], .agg #[.int .i64 wd, .int .i64 wt, .int .i64 0]] w fun e w' => e = .returned (.bool (gone wd wt (d, t, p))) ∧ Below w.heap.size w w' := by
  have M0 := ((Mm.start w).alloc3 (.int .i64 d) (.int .i64 t) (.int .i64 p) 160).alloc3 (.int .i64 wd) (.int .i64 wt) (.int .i64 0) 160
  try simp only [World.size_alloc] at M0
  go_enter Tryz.func157, Tryz.ntmps157
  go_wp2_with fail
  refine (withoutPerm_calls d t p _).mono ?_
  rintro e w1 ⟨rfl, g1⟩
  have M1 := M0.below g1
  have f3 := M1.fz 3 rfl
  have f4 := M1.fz 4 rfl
  have f5 := M1.fz 5 rfl
  have c3 := M1.cell 3 rfl
  have c4 := M1.cell 4 rfl
  have c5 := M1.cell 5 rfl
  have M2 := ((M1.set 3 rfl (.int .i64 d) (Nat.le_refl _) (by simp) (by simp)).set 4 rfl (.int .i64 t) (Nat.le_refl _) (by simp) (by simp)).set 5 rfl (.int .i64 0) (Nat.le_refl _) (by simp) (by simp)
  obtain ⟨X, hX⟩ : ∃ X, X = ((w1.setCell ⟨w.heap.size, 0, none⟩ (.int .i64 d)).setCell ⟨w.heap.size, 1, none⟩ (.int .i64 t)).setCell ⟨w.heap.size, 2, none⟩ (.int .i64 0) := ⟨_, rfl⟩
  have HX := hide hX
  rw [← hX] at M2
  simp only [List.set_cons_succ, List.set_cons_zero] at M2
  clear hX M0 M1 g1
  go_upto_region 2 with fail
  rw [← HX.out]
  clear c3 c4 c5 f3 f4 f5 HX
  have c0 := M2.cell 0 rfl
  have c1 := M2.cell 1 rfl
  have c2 := M2.cell 2 rfl
  have c3 := M2.cell 3 rfl
  have c4 := M2.cell 4 rfl
  have c5 := M2.cell 5 rfl
  have f3 := M2.fz 3 rfl
  have f4 := M2.fz 4 rfl
  have HB := hide M2.bel
  clear M2
  by_cases h1 : wd = -1
  · have e1 := eq_true h1
    have e1' : (wd == -1) = true := by simpa using h1
    by_cases h2 : wt = -1
    · have e2' : (wt == -1) = true := by simpa using h2
      have HR : Hid (gone wd wt (d, t, p) = true) := by show _ = _; simp [gone, h1, h2]
      subst h1 h2
      clear e1
      go_wp2
      go_ret
      refine ⟨ret_bool HR.out.symm, ?_⟩
      repeat (first | with_reducible exact HB.out | with_reducible refine Below.setCell ?_ (by simp) _)
    · have e2' : (wt == -1) = false := by simpa using h2
      by_cases h4 : t = wt
      · have HR : Hid (gone wd wt (d, t, p) = true) := by show _ = _; simp [gone, h1, h4]
        subst h1 h4
        clear e1
        go_wp2
        go_ret
        refine ⟨ret_bool HR.out.symm, ?_⟩
        repeat (first | with_reducible exact HB.out | with_reducible refine Below.setCell ?_ (by simp) _)
      · have HR : Hid (gone wd wt (d, t, p) = false) := by show _ = _; simp [gone, h2, h4]
        subst h1
        clear e1
        go_wp2
        go_ret
        refine ⟨ret_bool HR.out.symm, ?_⟩
        repeat (first | with_reducible exact HB.out | with_reducible refine Below.setCell ?_ (by simp) _)
  · have e1' : (wd == -1) = false := by simpa using h1
    by_cases h3 : d = wd
    · by_cases h2 : wt = -1
      · have e2' : (wt == -1) = true := by simpa using h2
        have HR : Hid (gone wd wt (d, t, p) = true) := by show _ = _; simp [gone, h2, h3]
        subst h2 h3
        go_wp2
        go_ret
        refine ⟨ret_bool HR.out.symm, ?_⟩
        repeat (first | with_reducible exact HB.out | with_reducible refine Below.setCell ?_ (by simp) _)
      · have e2' : (wt == -1) = false := by simpa using h2
        by_cases h4 : t = wt
        · have HR : Hid (gone wd wt (d, t, p) = true) := by show _ = _; simp [gone, h3, h4]
          subst h3 h4
          go_wp2
          go_ret
          refine ⟨ret_bool HR.out.symm, ?_⟩
          repeat (first | with_reducible exact HB.out | with_reducible refine Below.setCell ?_ (by simp) _)
        · have HR : Hid (gone wd wt (d, t, p) = false) := by show _ = _; simp [gone, h2, h4]
          subst h3
          go_wp2
          go_ret
          refine ⟨ret_bool HR.out.symm, ?_⟩
          repeat (first | with_reducible exact HB.out | with_reducible refine Below.setCell ?_ (by simp) _)
    · have HR : Hid (gone wd wt (d, t, p) = false) := by show _ = _; simp [gone, h1, h3]
      by_cases h2 : wt = -1
      · have e2' : (wt == -1) = true := by simpa using h2
        subst h2
        go_wp2
        go_ret
        refine ⟨ret_bool HR.out.symm, ?_⟩
        repeat (first | with_reducible exact HB.out | with_reducible refine Below.setCell ?_ (by simp) _)
      · have e2' : (wt == -1) = false := by simpa using h2
        go_wp2
        go_ret
        refine ⟨ret_bool HR.out.symm, ?_⟩
        repeat (first | with_reducible exact HB.out | with_reducible refine Below.setCell ?_ (by simp) _)

/-- what 'flushed' keeps: the box of what is wanted, and the row with the first q lines as they are to be. -/
structure FI (w : World) (d t : Int) (g n cap k : Nat) (ls : List (Int × Int × Int)) (q : Nat) (wr : World) : Prop where
  m : Mm w wr [(w.heap.size, 0, .int .i64 d), (w.heap.size, 1, .int .i64 t), (w.heap.size, 2, .int .i64 0)] []
  hq : (flL (ls.take k) d t).length = q
  row : ∃ ys : List Int, ys.take (q * 3) = fl3 (flL (ls.take k) d t) ∧ wr.ownsRow (w.heap.size + 1) 160 3 (.slice (some ⟨g, 0, none⟩) n cap) n (ys.map (Value.int .i64))

theorem FI.below {w : World} {d t : Int} {g n cap k : Nat} {ls : List (Int × Int × Int)} {q : Nat} {wr w' : World} (h : FI w d t g n cap k ls q wr) (hb : Below wr.heap.size wr w') : FI w d t g n cap k ls q w' := by
  obtain ⟨ys, e, ho⟩ := h.row
  exact ⟨h.m.below hb, h.hq, ys, e, own_below ho hb⟩

theorem FI.skip {w : World} {d t : Int} {g n cap k : Nat} {ls : List (Int × Int × Int)} {q : Nat} {wr : World} (h : FI w d t g n cap k ls q wr) (hk : k < ls.length) (hg : gone d t (g3 ls k) = true) : FI w d t g n cap (k + 1) ls q wr := by
  have e := flL_drop hk hg
  exact ⟨h.m, by rw [e]; exact h.hq, by rw [e]; exact h.row⟩

theorem FI.keep {w : World} {d t : Int} {g n cap k : Nat} {ls : List (Int × Int × Int)} {q : Nat} {wr : World} (h : FI w d t g n cap k ls q wr) (hk : k < ls.length) (hq : q < n) (hg : gone d t (g3 ls k) = false) : FI w d t g n cap (k + 1) ls (q + 1) (set3 wr g (q * 3) (g3 ls k)) := by
  have e := flL_keep hk hg
  obtain ⟨ys, e1, ho⟩ := h.row
  have hlt := (own_room ho).2.2.1
  have hyl : ys.length = n * 3 := by have := ho.1; rwa [List.length_map] at this
  refine ⟨?_, by rw [e, List.length_append, h.hq]; rfl, put3 ys q (g3 ls k), ?_, own_set3 ho q _⟩
  · refine ⟨((h.m.bel.setCell (by show w.heap.size ≤ g; omega) _).setCell (by show w.heap.size ≤ g; omega) _).setCell (by show w.heap.size ≤ g; omega) _, fun c hc => ?_, fun f hf => by cases hf⟩
    obtain ⟨a1, a2, a3⟩ := h.m.cells c hc
    have hcb : c.1 = w.heap.size := by
      rcases List.mem_cons.1 hc with rfl | hc
      · rfl
      · rcases List.mem_cons.1 hc with rfl | hc
        · rfl
        · rcases List.mem_cons.1 hc with rfl | hc
          · rfl
          · cases hc
    refine ⟨by simpa [set3] using a1, ?_, by simpa [set3] using a3⟩
    unfold set3
    rw [World.cell?_setCell_other _ _ _ _ (fun e => by injection e with e1; omega), World.cell?_setCell_other _ _ _ _ (fun e => by injection e with e1; omega), World.cell?_setCell_other _ _ _ _ (fun e => by injection e with e1; omega)]
    exact a2
  · rw [put3_take _ (by omega), e1, e, fl3_append]
    rfl

set_option maxRecDepth 100000 in
set_option maxHeartbeats 1000000 in
theorem flushed_calls (a : Option Addr) (n c : Nat) (ls : List (Int × Int × Int)) (d t : Int) (w : World) (hn : n ≤ 1048576) (hs : Sln w a n ls) :
    Calls Tryz.prog 123 #[.slice a n c, .agg #[.int .i64 d, .int .i64 t, .int .i64 0]] w fun e w' => ∃ v, e = .returned v ∧ w'.ownsRow w.heap.size 160 3 v (flL ls d t).length (vs3 (flL ls d t)) ∧ Below w.heap.size w w' := by
  have hlen := hs.1
  have M0 := (Mm.start w).alloc3 (.int .i64 d) (.int .i64 t) (.int .i64 0) 160
  have hz : ∀ u, (zeroValue 160).run Tryz.prog u = .ok (.agg #[.int .i64 0, .int .i64 0, .int .i64 0]) u := fun u => by simp [go_sem]
  have hcl0 : ∀ (u : World) (ty : TypeId) (x : Option Addr) (m : Nat), (Builtin.clear_ #[48] ty #[.slice x 0 m]).run Tryz.prog u = .ok (.tuple #[]) u := fun u ty x m => by
    cases x <;> simp [Builtin.clear_, run_underlying Tryz.underlying48]
  by_cases hp : 0 < n
  · go_enter Tryz.func123, Tryz.ntmps123
    go_wp2_with fail
    refine (cloneL_calls a n c ls _ hn (hs.below M0.bel (Nat.le_refl _))).mono ?_
    rintro e w1 ⟨v, rfl, ho, g1⟩
    obtain ⟨g, cap, rfl, hB, hlt⟩ := ho.form hp
    simp only [World.size_alloc] at ho hB
    have hrm := own_room ho
    have hnc := hrm.1
    have hcm := hrm.2.1
    unfold maxLen at hcm
    have F0 : FI w d t g n cap 0 ls 0 w1 := ⟨M0.below g1, by simp [flL], fl3 ls, by simp [flL, fl3], ho⟩
    have HF0 := hide F0
    clear F0 ho g1 M0 hrm
    go_wp2
    go_loopw [6, 13] (fun kq i wr => ∃ k q : Nat, k ≤ n ∧ q ≤ k ∧ i = .int .i64 k ∧ kq = .int .i64 q ∧ FI w d t g n cap k ls q wr) (fun _ i _ => n - (intOf i).toNat)
    case atStart => exact ⟨0, 0, Nat.zero_le _, Nat.le_refl _, rfl, rfl, HF0.out⟩
    case round =>
      clear HF0
      obtain ⟨k, q, hk, hqk, rfl, rfl, F⟩ := hrel
      by_cases hlt : k < n
      · obtain ⟨_, hs'⟩ := hs
        obtain ⟨b, off, rfl, hb, hc⟩ := hs' (by omega)
        obtain ⟨r0, r1, r2⟩ := cells3 hc hlt
        have p0 := (F.m.bel.cell (p := ⟨b, off + k * 3, none⟩) hb).trans r0
        have p1 := (F.m.bel.cell (p := ⟨b, off + k * 3 + 1, none⟩) hb).trans r1
        have p2 := (F.m.bel.cell (p := ⟨b, off + k * 3 + 2, none⟩) hb).trans r2
        have q0 := F.m.cell 0 rfl
        have q1 := F.m.cell 1 rfl
        have q2 := F.m.cell 2 rfl
        have kN := F.m.lt 0 rfl
        have F1 := F.below ((Below.refl wr.heap.size wr).alloc (Nat.le_refl _) (.cells #[.int .i64 (g3 ls k).1, .int .i64 (g3 ls k).2.1, .int .i64 (g3 ls k).2.2] 160))
        clear hc r0 r1 r2 F
        cases hg : gone d t (g3 ls k) with
        | true =>
          go_wp2_with fail
          refine (isFlushedBy_calls (g3 ls k).1 (g3 ls k).2.1 (g3 ls k).2.2 d t _).mono ?_
          rintro e w2 ⟨rfl, g2⟩
          have hg' : gone d t ((g3 ls k).1, (g3 ls k).2.1, (g3 ls k).2.2) = true := hg
          rw [hg']
          have HF := hide ((F1.below g2).skip (by omega) hg)
          clear F1 g2 hg hg' p0 p1 p2 q0 q1 q2
          go_wp2
          go_roundw
          case rel => exact ⟨k + 1, q, by omega, by omega, by go_num, rfl, HF.out⟩
          case measure => simp [intOf]; omega
        | false =>
          go_wp2_with fail
          refine (isFlushedBy_calls (g3 ls k).1 (g3 ls k).2.1 (g3 ls k).2.2 d t _).mono ?_
          rintro e w2 ⟨rfl, g2⟩
          have hg' : gone d t ((g3 ls k).1, (g3 ls k).2.1, (g3 ls k).2.2) = false := hg
          rw [hg']
          have F2 := F1.below g2
          obtain ⟨ys, _, ho⟩ := F2.row
          have s0 := own_cell ho (j := q * 3) (by omega)
          have s1 := own_cell ho (j := q * 3 + 1) (by omega)
          have s2 := own_cell ho (j := q * 3 + 2) (by omega)
          have f0 := ho.frozenAt (q * 3)
          have f1 := ho.frozenAt (q * 3 + 1)
          have f2 := ho.frozenAt (q * 3 + 2)
          have z2 := g2.size
          simp only [World.size_alloc] at z2
          have l0 : w2.cell? ⟨wr.heap.size, 0, none⟩ = some (.int .i64 (g3 ls k).1) := (g2.cell (p := ⟨wr.heap.size, 0, none⟩) (by simp)).trans (by go_simp)
          have l1 : w2.cell? ⟨wr.heap.size, 1, none⟩ = some (.int .i64 (g3 ls k).2.1) := (g2.cell (p := ⟨wr.heap.size, 1, none⟩) (by simp)).trans (by go_simp)
          have l2 : w2.cell? ⟨wr.heap.size, 2, none⟩ = some (.int .i64 (g3 ls k).2.2) := (g2.cell (p := ⟨wr.heap.size, 2, none⟩) (by simp)).trans (by go_simp)
          have HF := hide (F2.keep (by omega) (by omega) hg)
          unfold set3 at HF
          have i0 : (0 : Int) ≤ (q : Int) := by omega
          have i1 : (q : Int) < (n : Int) := by omega
          clear F1 F2 ho g2 hg hg' p0 p1 p2 q0 q1 q2
          go_wp2
          go_roundw
          case rel => exact ⟨k + 1, q + 1, by omega, by omega, by go_num, by go_num, HF.out⟩
          case measure => simp [intOf]; omega
      · have hkn : k = n := by omega
        have hqe := F.hq
        obtain ⟨ys, hy, ho⟩ := F.row
        rw [hkn, ← hlen, List.take_length] at hqe hy
        have hqn : q ≤ n := by omega
        have HQ := hide hqe
        have i0 : (0 : Int) ≤ (q : Int) := by omega
        have i1 : (q : Int) ≤ (n : Int) := by omega
        have i2 : (q : Int) ≤ (cap : Int) := by omega
        have i3 : q ≤ cap := by omega
        have HB := hide F.m.bel
        have hg1 := (own_room ho).2.2.1
        by_cases hqq : q = n
        · subst hqq
          have HO : Hid (wr.ownsRow w.heap.size 160 3 (.slice (some ⟨g, 0, none⟩) q cap) (flL ls d t).length (vs3 (flL ls d t))) := by
            show World.ownsRow _ _ _ _ _ _ _
            rw [HQ.out]
            have h := own_take (own_mono (B' := w.heap.size) ho (by omega)) (Nat.le_refl q)
            rw [← List.map_take, hy] at h
            exact h
          clear F ho hy hqe hs hlen hkn
          by_cases hcq : cap = q
          · subst hcq
            go_wp2
            go_ret
            exact ⟨_, rfl, HO.out, HB.out⟩
          · go_wp2
            go_ret
            exact ⟨_, rfl, HO.out, HB.out⟩
        · have hcq : ¬ cap = q := by omega
          have hcl : ∀ ty, (Builtin.clear_ #[48] ty #[.slice (some ⟨g, q * 3, none⟩) (n - q) (cap - q)]).run Tryz.prog wr = .ok (.tuple #[]) (wr.setCells g (q * 3) (List.replicate ((n - q) * 3) (.int .i64 0))) :=
            fun ty => run_clear_lines wr _ _ ty Tryz.underlying48 hz g (q * 3) (n - q) (cap - q) (by omega) (fun j hj => ⟨_, own_cell ho (by omega)⟩) (fun j => ho.frozenAt _)
          obtain ⟨zs, hzs, hzo⟩ := own_zero ((n - q) * 3) (q * 3) ho
          have HO : Hid ((wr.setCells g (q * 3) (List.replicate ((n - q) * 3) (.int .i64 0))).ownsRow w.heap.size 160 3 (.slice (some ⟨g, 0, none⟩) q cap) (flL ls d t).length (vs3 (flL ls d t))) := by
            show World.ownsRow _ _ _ _ _ _ _
            rw [HQ.out]
            have h := own_take (own_mono (B' := w.heap.size) hzo (by omega)) hqn
            rw [← List.map_take, hzs, hy] at h
            exact h
          have HB2 := hide (below_setCells (g := g) (List.replicate ((n - q) * 3) (.int .i64 0)) (q * 3) HB.out (by omega))
          clear F ho hy hqe hs hlen hkn hzs hzo
          go_wp2
          go_ret
          exact ⟨_, rfl, HO.out, HB2.out⟩
  · have h0 : n = 0 := by omega
    subst h0
    have hl0 : ls = [] := List.length_eq_zero_iff.1 hlen
    subst hl0
    go_enter Tryz.func123, Tryz.ntmps123
    go_wp2_with fail
    refine (cloneL_calls a 0 c [] _ hn (hs.below M0.bel (Nat.le_refl _))).mono ?_
    rintro e w1 ⟨v, rfl, ho, g1⟩
    have HO := hide (own_mono (B' := w.heap.size) ho (by simp))
    have HB := hide (M0.below g1).bel
    rcases ho.2 with ⟨rfl, _⟩ | ⟨g, cap, cur, rfl, _⟩
    all_goals
      clear M0 g1 ho
      go_wp2
      go_loop [6, 13] (fun kq i => kq = .int .i64 0 ∧ i = .int .i64 0) (fun _ _ => 0)
      case atStart => exact ⟨rfl, rfl⟩
      case round =>
        obtain ⟨rfl, rfl⟩ := hrel
        go_wp2
        go_ret
        exact ⟨_, rfl, HO.out, HB.out⟩

end Go.Proofs.YtgkjmeogdomgmaaGreat
