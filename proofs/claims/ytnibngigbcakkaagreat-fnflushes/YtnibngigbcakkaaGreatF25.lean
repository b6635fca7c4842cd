import Derived.Test.YtnibngigbcakkaaGreatF5
import Derived.Test.YtnibngigbcakkaaGreatF3
import Derived.WalkKit
import Derived.ProofKit
import Derived.OpenShut
import Derived.ShutString
import Derived.ChangeOld
import Derived.Below
import Derived.WalkSpells
import Derived.Deep.QuietTactic
import Derived.BigQuiet
import Derived.Deep.RegionWith
import Derived.Deep.WholeRow
import Derived.Deep.DeepCutAuto
import Derived.Deep.RegionHeld2
import Derived.Deep.AppendLies
import Derived.Deep.RegionLaw
namespace Go.Proofs.YtnibngigbcakkaaGreat
open Go.ChangeShapes Go.WideShapes Go.ChangeAt Go.RowKit

/-- a line appended to the row of a cache's variable. -/
theorem CV.app {X w1 : World} {B P : Nat} {s : Int} {v : Value} {n g cp : Nat} {ks : List (Int × Int × Int)} {x : Int × Int × Int} {o : Obj} (V : CV X B P s v n ks) (hg : (X.alloc o).drew.grownBy w1 v.ownBlock)
    (hown : w1.ownsRow B 45 3 (.slice (some ⟨g, 0, none⟩) (n + 1) cp) (n + 1) (vs3 ks ++ vs3 [x])) (hat : v.ownBlock = some g ∨ g = X.heap.size + 1) :
    w1.cell? ⟨P, 1, none⟩ = some v ∧ w1.frozen? ⟨P, 1, none⟩ = false ∧ CV (w1.setCell ⟨P, 1, none⟩ (.slice (some ⟨g, 0, none⟩) (n + 1) cp)) B P s (.slice (some ⟨g, 0, none⟩) (n + 1) cp) (n + 1) (ks ++ [x]) ∧ Below B X (w1.setCell ⟨P, 1, none⟩ (.slice (some ⟨g, 0, none⟩) (n + 1) cp)) := by
  have hP := V.lt
  have hB := V.hB
  have al := (Below.refl X.heap.size X).alloc (Nat.le_refl _) o
  have V1 := V.below al
  have hP1 : P < (X.alloc o).drew.heap.size := by show P < (X.alloc o).heap.size; simp; omega
  have hne : some P ≠ v.ownBlock := fun e => V.ne e.symm
  obtain ⟨a0, b0⟩ := grow_far hg (b := P) (o := 0) hP1 hne V1.c0 V1.f0
  obtain ⟨a1, b1⟩ := grow_far hg (b := P) (o := 1) hP1 hne V1.c1 V1.f1
  have hgP : (Value.slice (some ⟨g, 0, none⟩) (n + 1) cp).ownBlock ≠ some P := fun e => by
    simp only [Value.ownBlock, Option.some.injEq] at e
    rcases hat with h | h
    · exact V.ne (by rw [h, e])
    · omega
  rw [← vs3_append] at hown
  refine ⟨a1, b1, V.put a0 ⟨_, a1⟩ b0 b1 hown (by simp [V.len]) hgP, ?_⟩
  refine Below.setCell ?_ (by exact hB) _
  exact ((Below.refl B X).alloc (by omega) o).drew.grown hg (by show B ≤ (X.alloc o).heap.size; simp; omega) (fun k hk => (V.own.lt k hk).1)

set_option maxRecDepth 100000 in
set_option maxHeartbeats 4000000 in
theorem l4Fill_V (B P : Nat) (s : Int) (a : Option Addr) (n c : Nat) (ls : List (Int × Int × Int)) (d t q p : Int) (w : World) (hn : n ≤ 6) (hns : (n : Int) ≤ s) (hp : 0 ≤ p) (hv : CV w B P s (.slice a n c) n ls) :
    Calls Tryz.prog 49 #[.pointer (some ⟨P, 0, none⟩), .agg #[.int .i64 d, .int .i64 t, .int .i64 q], .int .i64 p] w fun e w' => e = .returned (.tuple #[]) ∧ ∃ ra rc, CV w' B P s (.slice ra (fiL s ls (d, t, q) p).length rc) (fiL s ls (d, t, q) p).length (fiL s ls (d, t, q) p) ∧ Below B w w' := by
  obtain ⟨i0, hi0, hz0, hz1, hz2⟩ := info_parts infoLine
  have hlen := hv.len
  have hBP := hv.hB
  have al := (Below.refl w.heap.size w).alloc (Nat.le_refl _) (.cells #[.int .i64 d, .int .i64 t, .int .i64 q] 45)
  have V1 := hv.below al
  have hl := atK_lt ls d t
  have hPw := hv.lt
  go_enter Tryz.func49, Tryz.ntmps49
  go_wp2_with fail
  refine (l4At_calls P a n c ls d t _ (by unfold maxLen; omega) V1.c1 (own_sln V1.own V1.len)).mono ?_
  rintro e w1 ⟨rfl, g1⟩
  have V2 := V1.below g1
  have GB : Below w.heap.size w w1 := al.trans (g1.mono (by simp))
  have z1 := g1.size
  simp only [World.size_alloc] at z1
  have x0 : w1.cell? ⟨w.heap.size, 0, none⟩ = some (.int .i64 d) := (g1.cell (p := ⟨w.heap.size, 0, none⟩) (by simp)).trans (by go_simp)
  have x1 : w1.cell? ⟨w.heap.size, 1, none⟩ = some (.int .i64 t) := (g1.cell (p := ⟨w.heap.size, 1, none⟩) (by simp)).trans (by go_simp)
  have x2 : w1.cell? ⟨w.heap.size, 2, none⟩ = some (.int .i64 q) := (g1.cell (p := ⟨w.heap.size, 2, none⟩) (by simp)).trans (by go_simp)
  clear g1 V1 al hv
  have hBw : B ≤ w.heap.size := by omega
  by_cases hat : atK ls d t < 0
  · have hge : ¬ (0 ≤ atK ls d t) := by omega
    have HD := hide (dropL_no hat)
    have p0 := V2.c0
    by_cases hs0 : s = 0
    · have hse : (s == 0) = true := by simpa using hs0
      have HE := hide (fiL_zero (s := s) (ls := ls) (x := (d, t, q)) (p := p) hs0)
      have hl0 : ls = [] := List.length_eq_zero_iff.1 (by omega)
      have HR : Hid (CV w1 B P s (.slice a (fiL s ls (d, t, q) p).length c) (fiL s ls (d, t, q) p).length (fiL s ls (d, t, q) p)) := by
        have hn0 : n = 0 := by omega
        show CV _ _ _ _ _ _ _
        rw [HE.out]
        rw [hl0, hn0] at V2
        exact V2
      have HB := hide (GB.mono hBw)
      clear V2 GB hs0 hat x0 x1 x2 hl0
      go_wp2
      exact bodyPost_ret (v := .tuple #[]) (by simp [results, Tryz.results49, go_sem]) rfl ⟨rfl, _, _, HR.out, HB.out⟩
    · have hse : (s == 0) = false := by simpa using hs0
      by_cases hful : s ≤ (n : Int)
      · have HE := hide (fiL_full (p := p) (x := (d, t, q)) hs0 HD.out (by rw [hlen]; exact hful))
        have HG := hide (GB.mono hBw)
        have p1 := V2.c1
        have HV2 := hide V2
        have hel := length_evL ls p
        clear V2 GB hat hs0
        go_wp2_with fail
        go_quiet (fail)
        obtain ⟨Y, hY⟩ : ∃ Y, Y = w1.drewN nq := ⟨_, rfl⟩
        have GY : Below w1.heap.size w1 Y := by rw [hY]; exact bdrewN (Below.refl _ _) nq
        rw [← hY]
        clear hY
        have zY := GY.size
        have VY := HV2.out.below GY
        have HGY := hide GY
        have n0 := (GY.cell (p := ⟨w.heap.size, 0, none⟩) (by show w.heap.size < _; omega)).trans x0
        have n1 := (GY.cell (p := ⟨w.heap.size, 1, none⟩) (by show w.heap.size < _; omega)).trans x1
        have n2 := (GY.cell (p := ⟨w.heap.size, 2, none⟩) (by show w.heap.size < _; omega)).trans x2
        clear p0 p1 x0 x1 x2 GY
        have hnP : w.heap.size ≠ P := by omega
        go_wp2_with fail
        refine (l4Evict_V B P s a n c ls p _ (by omega) hp VY).mono ?_
        rintro e X ⟨rfl, ea, ec, V, gX, uX⟩
        have zX := uX.size
        have x0 := (World.cell?_of_block (a := ⟨w.heap.size, 0, none⟩) (uX.block _ (by show w.heap.size < _; omega) hnP)).trans n0
        have x1 := (World.cell?_of_block (a := ⟨w.heap.size, 1, none⟩) (uX.block _ (by show w.heap.size < _; omega) hnP)).trans n1
        have x2 := (World.cell?_of_block (a := ⟨w.heap.size, 2, none⟩) (uX.block _ (by show w.heap.size < _; omega) hnP)).trans n2
        have HG2 := hide ((HG.out.trans (HGY.out.mono (by omega))).trans gX)
        have hm : (evL ls p).length ≤ 6 := by omega
        have hNX : w.heap.size < X.heap.size := by omega
        clear uX gX VY n0 n1 n2
        have p0 := V.c0
        have p1 := V.c1
        have HV := hide V
        have HO := hide (own_drew (own_below V.own ((Below.refl _ _).alloc (Nat.le_refl _) (.cells #[.int .i64 d, .int .i64 t, .int .i64 q] 45))))
        have hPX := V.lt
        have hBX : B ≤ X.heap.size := by omega
        clear V
        go_wp2_with fail
        go_region_law (refine step_append_lies _ rfl _ _ 24 rfl B 45 i0 (.agg #[.int .i64 0, .int .i64 0, .int .i64 0]) 3 24 Tryz.underlying24 hi0 hz0 hz1 hz2 rfl (by decide) _ (evL ls p).length (vs3 (evL ls p)) rfl HO.out ⟨X.heap.size, 0, none⟩ 1 1 (vs3 [(d, t, q)]) rfl rfl (three_new (by go_simp) (by go_simp) (by go_simp)) ints_one (by omega) (by unfold maxLen; omega) (by omega) (by simp; omega) (X.heap.size + 1) (by simp) ?_; intro g cp w4 hown4 hgrow4 hat4 hlt4; obtain ⟨y1, y2, y3, y4⟩ := HV.out.app (x := (d, t, q)) hgrow4 hown4 hat4; have HR := hide y3; have HB := hide y4; clear hown4 hgrow4 hat4 hlt4 y3 y4)
        all_goals (
          have HR2 : Hid (CV (w4.setCell ⟨P, 1, none⟩ (.slice (some ⟨g, 0, none⟩) ((evL ls p).length + 1) cp)) B P s (.slice (some ⟨g, 0, none⟩) (fiL s ls (d, t, q) p).length cp) (fiL s ls (d, t, q) p).length (fiL s ls (d, t, q) p)) := by
            show CV _ _ _ _ _ _ _
            rw [HE.out, List.length_append]
            exact HR.out
          have HB2 := hide (HG2.out.trans HB.out)
          have HL : Hid ((evL ls p).length + 1 = (fiL s ls (d, t, q) p).length) := by show _ = _; rw [HE.out, List.length_append]; rfl
          go_wp2
          rw [HL.out] at HR2 HB2 ⊢
          exact bodyPost_end (v := .tuple #[]) (by simp [results, Tryz.results49, go_sem]) rfl ⟨rfl, _, _, HR2.out, HB2.out⟩)
      · have HE := hide (fiL_room (p := p) (x := (d, t, q)) hs0 HD.out (by rw [hlen]; exact hful))
        have HK := hide hlen
        have HG := hide (GB.mono hBw)
        have p1 := V2.c1
        have HV2 := hide V2
        clear V2 GB hat hs0
        go_wp2_with fail
        go_quiet (fail)
        obtain ⟨X, hY⟩ : ∃ Y, Y = w1.drewN nq := ⟨_, rfl⟩
        have GY : Below w1.heap.size w1 X := by rw [hY]; exact bdrewN (Below.refl _ _) nq
        rw [← hY]
        clear hY
        have zX := GY.size
        have V := HV2.out.below GY
        have HG2 := hide (HG.out.trans (GY.mono (by omega)))
        have m0 := (GY.cell (p := ⟨w.heap.size, 0, none⟩) (by show w.heap.size < _; omega)).trans x0
        have m1 := (GY.cell (p := ⟨w.heap.size, 1, none⟩) (by show w.heap.size < _; omega)).trans x1
        have m2 := (GY.cell (p := ⟨w.heap.size, 2, none⟩) (by show w.heap.size < _; omega)).trans x2
        have hNX : w.heap.size < X.heap.size := by omega
        clear p0 p1 x0 x1 x2 GY
        have p0 := V.c0
        have p1 := V.c1
        have HV := hide V
        have HO := hide (own_drew (own_below V.own ((Below.refl _ _).alloc (Nat.le_refl _) (.cells #[.int .i64 d, .int .i64 t, .int .i64 q] 45))))
        have hPX := V.lt
        have hBX : B ≤ X.heap.size := by omega
        clear V
        go_wp2_with fail
        go_region_law (refine step_append_lies _ rfl _ _ 24 rfl B 45 i0 (.agg #[.int .i64 0, .int .i64 0, .int .i64 0]) 3 24 Tryz.underlying24 hi0 hz0 hz1 hz2 rfl (by decide) _ n (vs3 (ls)) rfl HO.out ⟨X.heap.size, 0, none⟩ 1 1 (vs3 [(d, t, q)]) rfl rfl (three_new (by go_simp) (by go_simp) (by go_simp)) ints_one (by omega) (by unfold maxLen; omega) (by omega) (by simp; omega) (X.heap.size + 1) (by simp) ?_; intro g cp w4 hown4 hgrow4 hat4 hlt4; obtain ⟨y1, y2, y3, y4⟩ := HV.out.app (x := (d, t, q)) hgrow4 hown4 hat4; have HR := hide y3; have HB := hide y4; clear hown4 hgrow4 hat4 hlt4 y3 y4)
        all_goals (
          have HR2 : Hid (CV (w4.setCell ⟨P, 1, none⟩ (.slice (some ⟨g, 0, none⟩) (n + 1) cp)) B P s (.slice (some ⟨g, 0, none⟩) (fiL s ls (d, t, q) p).length cp) (fiL s ls (d, t, q) p).length (fiL s ls (d, t, q) p)) := by
            show CV _ _ _ _ _ _ _
            rw [HE.out, List.length_append, HK.out]
            exact HR.out
          have HB2 := hide (HG2.out.trans HB.out)
          have HL : Hid (n + 1 = (fiL s ls (d, t, q) p).length) := by show _ = _; rw [HE.out, List.length_append, HK.out]; rfl
          go_wp2
          rw [HL.out] at HR2 HB2 ⊢
          exact bodyPost_end (v := .tuple #[]) (by simp [results, Tryz.results49, go_sem]) rfl ⟨rfl, _, _, HR2.out, HB2.out⟩)
  · obtain ⟨i, hi⟩ : ∃ i : Nat, atK ls d t = (i : Int) := ⟨(atK ls d t).toNat, by omega⟩
    have HD := hide (dropL_at hi)
    have hin : i < n := by omega
    have hel : (ls.eraseIdx i).length = n - 1 := by rw [List.length_eraseIdx_of_lt (by omega), hlen]
    have hs0 : s ≠ 0 := by omega
    have hse : (s == 0) = false := by simpa using hs0
    have hful : ¬ s ≤ ((n - 1 : Nat) : Int) := by omega
    have HE := hide (fiL_room (p := p) (x := (d, t, q)) hs0 HD.out (by rw [hel]; exact hful))
    have HK := hide hel
    have HG := hide (GB.mono hBw)
    have hnP : w.heap.size ≠ P := by omega
    rw [hi]
    have hge : (0 : Int) ≤ (i : Int) := by omega
    have HV2 := hide V2
    clear V2 GB hat hs0 hi hl hel
    go_wp2_with fail
    refine (l4Drop_V B P s a n c i ls _ (by omega) hin HV2.out).mono ?_
    rintro e w2 ⟨rfl, ea, ec, V3, gX, uX⟩
    have z2 := uX.size
    have n0 := (World.cell?_of_block (a := ⟨w.heap.size, 0, none⟩) (uX.block _ (by show w.heap.size < _; omega) hnP)).trans x0
    have n1 := (World.cell?_of_block (a := ⟨w.heap.size, 1, none⟩) (uX.block _ (by show w.heap.size < _; omega) hnP)).trans x1
    have n2 := (World.cell?_of_block (a := ⟨w.heap.size, 2, none⟩) (uX.block _ (by show w.heap.size < _; omega) hnP)).trans x2
    have HG1 := hide (HG.out.trans gX)
    have p0 := V3.c0
    have p1 := V3.c1
    have HV3 := hide V3
    clear uX gX V3 x0 x1 x2
    go_wp2_with fail
    go_quiet (fail)
    obtain ⟨X, hY⟩ : ∃ Y, Y = w2.drewN nq := ⟨_, rfl⟩
    have GY : Below w2.heap.size w2 X := by rw [hY]; exact bdrewN (Below.refl _ _) nq
    rw [← hY]
    clear hY
    have zX := GY.size
    have V := HV3.out.below GY
    have HG2 := hide (HG1.out.trans (GY.mono (by omega)))
    have m0 := (GY.cell (p := ⟨w.heap.size, 0, none⟩) (by show w.heap.size < _; omega)).trans n0
    have m1 := (GY.cell (p := ⟨w.heap.size, 1, none⟩) (by show w.heap.size < _; omega)).trans n1
    have m2 := (GY.cell (p := ⟨w.heap.size, 2, none⟩) (by show w.heap.size < _; omega)).trans n2
    have hNX : w.heap.size < X.heap.size := by omega
    clear p0 p1 n0 n1 n2 GY
    have p0 := V.c0
    have p1 := V.c1
    have HV := hide V
    have HO := hide (own_drew (own_below V.own ((Below.refl _ _).alloc (Nat.le_refl _) (.cells #[.int .i64 d, .int .i64 t, .int .i64 q] 45))))
    have hPX := V.lt
    have hBX : B ≤ X.heap.size := by omega
    clear V
    go_wp2_with fail
    go_region_law (refine step_append_lies _ rfl _ _ 24 rfl B 45 i0 (.agg #[.int .i64 0, .int .i64 0, .int .i64 0]) 3 24 Tryz.underlying24 hi0 hz0 hz1 hz2 rfl (by decide) _ (n - 1) (vs3 (ls.eraseIdx i)) rfl HO.out ⟨X.heap.size, 0, none⟩ 1 1 (vs3 [(d, t, q)]) rfl rfl (three_new (by go_simp) (by go_simp) (by go_simp)) ints_one (by omega) (by unfold maxLen; omega) (by omega) (by simp; omega) (X.heap.size + 1) (by simp) ?_; intro g cp w4 hown4 hgrow4 hat4 hlt4; obtain ⟨y1, y2, y3, y4⟩ := HV.out.app (x := (d, t, q)) hgrow4 hown4 hat4; have HR := hide y3; have HB := hide y4; clear hown4 hgrow4 hat4 hlt4 y3 y4)
    all_goals (
      have HR2 : Hid (CV (w4.setCell ⟨P, 1, none⟩ (.slice (some ⟨g, 0, none⟩) ((n - 1) + 1) cp)) B P s (.slice (some ⟨g, 0, none⟩) (fiL s ls (d, t, q) p).length cp) (fiL s ls (d, t, q) p).length (fiL s ls (d, t, q) p)) := by
        show CV _ _ _ _ _ _ _
        rw [HE.out, List.length_append, HK.out]
        exact HR.out
      have HB2 := hide (HG2.out.trans HB.out)
      have HL : Hid ((n - 1) + 1 = (fiL s ls (d, t, q) p).length) := by show _ = _; rw [HE.out, List.length_append, HK.out]; rfl
      go_wp2
      rw [HL.out] at HR2 HB2 ⊢
      exact bodyPost_end (v := .tuple #[]) (by simp [results, Tryz.results49, go_sem]) rfl ⟨rfl, _, _, HR2.out, HB2.out⟩)

end Go.Proofs.YtnibngigbcakkaaGreat
