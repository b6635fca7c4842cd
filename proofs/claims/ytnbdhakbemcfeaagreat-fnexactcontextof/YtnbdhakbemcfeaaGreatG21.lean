import Derived.Test.YtnbdhakbemcfeaaGreatG16
import Derived.Test.YtnbdhakbemcfeaaGreatG17
import Derived.Test.YtnbdhakbemcfeaaGreatG2
import Derived.WalkKit
import Derived.ProofKit
import Derived.OpenShut
import Derived.ShutString
import Derived.ChangeOld
import Derived.Below
import Derived.WalkSpells
import Derived.Deep.QuietTactic
import Derived.BigQuiet
import Derived.Deep.RegionWith
import Derived.Deep.WholeRow
import Derived.Deep.DeepCutAuto
import Derived.Deep.RegionHeld2
import Derived.Deep.AppendLies
import Derived.Deep.RegionLaw
namespace Go.Proofs.YtnbdhakbemcfeaaGreat
open Go.ChangeShapes Go.WideShapes Go.ChangeAt Go.RowKit

set_option maxRecDepth 100000 in
set_option maxHeartbeats 1000000 in
theorem l1Ints_O (a : Option Addr) (n cap : Nat) (zs : List Int) (w : World) (hn : n ≤ 1048576) (hs : Sl w a n zs) :
    Calls Tryz.prog 81 #[.slice a n cap] w fun e w' => ∃ ra rc, e = .returned (.slice ra n rc) ∧ n ≤ rc ∧ OS (InR w.heap.size w'.heap.size) ra n zs w' ∧ Below w.heap.size w w' := by
  obtain ⟨hlen, hs⟩ := hs
  obtain ⟨i0, hi, hz0, hz1, hz2⟩ := info_parts info2
  have hb0 := fun o1 => (Below.refl w.heap.size w).alloc (Nat.le_refl _) o1
  by_cases hp : 0 < n
  · obtain ⟨b, off, rfl, hb, hc⟩ := hs hp
    have hown := World.ownsRow_lit (base := w.heap.size) (e := 2) (size := 1) w #[] 0 (Nat.le_refl _) (Nat.zero_le _) rfl
    have hnews := ints_at_sl (w := w.alloc (.cells #[] 2)) (b := b) (off := off) (zs := zs) (fun i hi => ((hb0 _).cell (p := ⟨b, off + i, none⟩) hb).trans (hc i (by omega)))
    have HO := hide hown
    have HN := hide hnews
    have hm1 : 0 + n ≤ maxLen := by unfold maxLen; omega
    have hm2 : (0 + n) * 8 ≤ 140737488355328 := by omega
    have hl1 : (zs.map (Value.int .i64)).length = n * 1 := by simp [hlen]
    have hbs : w.heap.size ≤ (w.alloc (.cells #[] 2)).heap.size := by simp
    have HL := hide hl1
    have HM1 := hide hm1
    have HM2 := hide hm2
    have HBS := hide hbs
    clear hown hnews hs hc hl1 hm1 hm2 hbs
    go_enter Tryz.func81, Tryz.ntmps81
    go_wp2_with (first
      | (at_builtin; refine wpList_append_own _ rfl _ _ 25 rfl w.heap.size 2 i0 (.int .i64 0) 1 8 Tryz.underlying25 hi hz0 hz1 hz2 rfl (by decide) _ 0 [] rfl HO.out ⟨b, off, none⟩ n cap (zs.map (Value.int .i64)) rfl HL.out HN.out ints_one HM1.out HM2.out HBS.out ?_)
      | go_in)
    intro v' w1 hown' hgrow _
    have hown2 : w1.ownsRow w.heap.size 2 1 v' n (zs.map (Value.int .i64)) := by simpa using hown'
    obtain ⟨ra, rc, rfl, fr⟩ := owns_osl hn hown2
    have hcap : n ≤ rc := by
      rcases hown2.2 with ⟨h, h0⟩ | ⟨g, cp, cur, h, _, _, hc, _⟩
      · omega
      · simp only [Value.slice.injEq] at h; omega
    have h1 : Below w.heap.size w w1 := (hb0 _).grown hgrow (by simp) (fun k hk => by simp [Value.ownBlock] at hk; omega)
    have HFR := hide (OS.ofOSl fr)
    have HB1 := hide h1
    clear HO HN hown' hown2 hgrow hb0 fr h1
    go_wp2
    go_ret
    exact ⟨ra, rc, rfl, hcap, HFR.out, HB1.out⟩
  · have h0 : n = 0 := by omega
    subst h0
    cases a
    all_goals
      go_enter Tryz.func81, Tryz.ntmps81
      go_wp2
      go_ret
      exact ⟨_, 0, rfl, by omega, ⟨hlen, by omega, .inl rfl⟩, hb0 _⟩

def coC (D : SD) (x : Int) : Int := if sysF D ≠ 0 then sysF D else if up x ((D.ds.length : Int) - 1) = true then 0 else 4

def coX (D : SD) (x : Int) : List Int × Int × Bool := if coC D x = 0 then gx D.cs x.toNat else ([], 0, false)

set_option maxRecDepth 100000 in
theorem l7CopyContext_O (a : Option Addr) (n cap : Nat) (p : Int) (h : Bool) (zs : List Int) (w : World) (hn : n ≤ 1048576) (hs : Sl w a n zs) :
    Calls Tryz.prog 43 #[.agg #[.slice a n cap, .int .i64 p, .bool h]] w fun e w' => ∃ ra rc, e = .returned (.agg #[.slice ra n rc, .int .i64 p, .bool h]) ∧ OS (InR w.heap.size w'.heap.size) ra n zs w' ∧ Below w.heap.size w w' := by
  have M0 := ((Mm.start w).alloc3 (.slice a n cap) (.int .i64 p) (.bool h) 59).alloc3 (.slice none 0 0) (.int .i64 0) (.bool false) 59
  try simp only [World.size_alloc] at M0
  have hb0 := M0.bel
  go_enter Tryz.func43, Tryz.ntmps43
  go_wp2_with fail
  refine (l1Ints_O a n cap zs _ hn (hs.below hb0 (Nat.le_refl _))).mono ?_
  rintro e w1 ⟨ra, rc, rfl, _, ho, hb⟩
  have M1 := M0.below hb
  have hz := hb.size
  simp only [World.size_alloc] at ho hz
  have c0 := M1.cell 0 rfl
  have c1 := M1.cell 1 rfl
  have c2 := M1.cell 2 rfl
  have c3 := M1.cell 3 rfl
  have c4 := M1.cell 4 rfl
  have c5 := M1.cell 5 rfl
  have f0 := M1.fz 0 rfl
  have f1 := M1.fz 1 rfl
  have f2 := M1.fz 2 rfl
  have f3 := M1.fz 3 rfl
  have HM := hide ((((M1.fact OS.loc ho).set 3 rfl (.slice ra n rc) (Nat.le_refl _) (by simp) (by simp <;> omega)).set 0 rfl (.slice ra n rc) (by simp) (by simp) (by simp <;> omega)).set 1 rfl (.int .i64 p) (by simp) (by simp) (by simp <;> omega) |>.set 2 rfl (.bool h) (by simp) (by simp) (by simp <;> omega))
  clear M0 M1 hb hb0 ho
  go_wp2
  have MM := HM.out
  have r0 := MM.cell 0 rfl
  have r1 := MM.cell 1 rfl
  have r2 := MM.cell 2 rfl
  refine bodyPost_ret (v := .agg #[.slice ra n rc, .int .i64 p, .bool h]) (by simp [results, Tryz.results43, go_sem, r0, r1, r2]) rfl ⟨ra, rc, rfl, ?_, MM.bel⟩
  exact (MM.get 0 rfl).mono (fun k hk => ⟨by have := hk.1; omega, by simpa using hk.2⟩)

/-- a cell that is none of the bundle's is written. -/
theorem Mm.off {w u : World} {cs : List (Nat × Nat × Value)} {fs : List (Nat × Nat × (World → Prop))} (h : Mm w u cs fs) {P o : Nat} (v : Value) (hb : w.heap.size ≤ P) (hc : ∀ c ∈ cs, c.1 ≠ P) (hf : ∀ f ∈ fs, P < f.1 ∨ f.2.1 ≤ P) : Mm w (u.setCell ⟨P, o, none⟩ v) cs fs := by
  refine ⟨h.bel.setCell hb v, fun c k => ?_, fun f k => ?_⟩
  · have h1 := h.cells c k
    refine ⟨by simpa using h1.1, ?_, by simpa using h1.2.2⟩
    rw [World.cell?_setCell_other _ _ _ _ (fun e => by injection e with e1 e2; exact hc c k e1.symm)]
    exact h1.2.1
  · have h1 := h.facts f k
    refine ⟨h1.1, h1.1.setC h1.2 (fun e => ?_) v⟩
    have a1 := e.1
    have a2 := e.2
    have := hf f k
    simp only at a1 a2
    omega

set_option maxRecDepth 100000 in
set_option maxHeartbeats 1000000 in
theorem copiedContext_O (a : Option Addr) (n cap : Nat) (p : Int) (h : Bool) (zs : List Int) (w : World) (hn : n ≤ 1048576) (hs : Sl w a n zs) :
    Calls Tryz.prog 44 #[.agg #[.slice a n cap, .int .i64 p, .bool h]] w fun e w' => ∃ ra rc, e = .returned (.agg #[.slice ra n rc, .int .i64 p, .bool h]) ∧ OS (InR w.heap.size w'.heap.size) ra n zs w' ∧ Below w.heap.size w w' := by
  have M0 := ((Mm.start w).alloc3 (.slice a n cap) (.int .i64 p) (.bool h) 59).alloc3 (.slice none 0 0) (.int .i64 0) (.bool false) 59
  try simp only [World.size_alloc] at M0
  obtain ⟨W, hW⟩ : ∃ x, x = (w.alloc (.cells #[.slice a n cap, .int .i64 p, .bool h] 59)).alloc (.cells #[.slice none 0 0, .int .i64 0, .bool false] 59) := ⟨_, rfl⟩
  have hWs : W.heap.size = w.heap.size + 2 := by rw [hW]; simp
  go_enter Tryz.func44, Tryz.ntmps44
  go_upto_region 1 with fail
  rw [← hW] at M0 ⊢
  have HW := hide hW
  clear hW
  have q0 := M0.cell 3 rfl
  have q1 := M0.cell 4 rfl
  have q2 := M0.cell 5 rfl
  have u0 := M0.cell 0 rfl
  have u1 := M0.cell 1 rfl
  have u2 := M0.cell 2 rfl
  have v0 := M0.fz 0 rfl
  have v1 := M0.fz 1 rfl
  have v2 := M0.fz 2 rfl
  have lt0 : w.heap.size < W.heap.size := by omega
  have lt1 : w.heap.size + 1 < W.heap.size := by omega
  have hsW := hs.below M0.bel (Nat.le_refl _)
  go_region_with (first
    | (go_at_call 82; refine (clone_calls a n cap zs _ hn (hsW.below (Below.refl _ _).drew (Nat.le_refl _))).mono ?_; rintro e w1 ⟨ra, rc, rfl, ho, hb⟩; have M1 := M0.below ((Below.refl _ _).drew.trans hb); have hz := hb.size; have c0 := M1.cell 3 rfl; have c1 := M1.cell 4 rfl; have c2 := M1.cell 5 rfl; have d0 := M1.cell 0 rfl; have d1 := M1.cell 1 rfl; have d2 := M1.cell 2 rfl; have f0 := M1.fz 0 rfl; have f1 := M1.fz 1 rfl; have f2 := M1.fz 2 rfl; clear hb))
  all_goals (
    have HM := hide (((M1.fact OS.loc ho).set 0 rfl (.slice ra n rc) (by simp) (by simp) (by simp <;> omega)).set 1 rfl (.int .i64 p) (by simp) (by simp) (by simp <;> omega) |>.set 2 rfl (.bool h) (by simp) (by simp) (by simp <;> omega))
    have HZ := hide hz
    clear M0 M1 ho hz q0 q1 q2 u0 u1 u2 v0 v1 v2 hsW c0 c1 c2 d0 d1 d2 f0 f1 f2
    go_wp2
    have MM := HM.out
    have r0 := MM.cell 0 rfl
    have r1 := MM.cell 1 rfl
    have r2 := MM.cell 2 rfl
    have hz := HZ.out
    refine bodyPost_ret (v := .agg #[.slice ra n rc, .int .i64 p, .bool h]) (by simp [results, Tryz.results44, go_sem, r0, r1, r2]) rfl ⟨ra, rc, rfl, ?_, MM.bel⟩
    exact (MM.get 0 rfl).mono (fun k hk => ⟨by have := hk.1; simp only [World.size_drew] at this; omega, by simpa using hk.2⟩))

set_option maxRecDepth 100000 in
set_option maxHeartbeats 2000000 in
theorem specContextOf_calls (A : SA) (D : SD) (x : Int) (w : World) (hr : RS w A D) (_ : A.ln ≤ A.lc) :
    Calls Tryz.prog 10 #[.agg #[.slice A.a A.n A.c, .slice A.ta A.tn A.tc, .slice A.da A.dn A.dc, .slice A.wa A.wn A.wc, .slice A.xa A.xn A.xc, .int .i64 D.ac, .int .i64 D.cz, .slice A.la A.ln A.lc, .int .i64 D.dv, .slice A.oa A.on A.oc, .slice A.ga A.gn A.gc], .int .i64 x] w fun e w' => ∃ a n c, e = .returned (.agg #[.int .i64 (coC D x), .slice a n c, .int .i64 (coX D x).2.1, .bool (coX D x).2.2]) ∧ OS (InR w.heap.size w'.heap.size) a n (coX D x).1 w' ∧ Below w.heap.size w w' := by
  obtain ⟨k0, k1, k2, k3, k4, k5, k6, k7⟩ := hr.len
  have M0 := ((Mm.start w).allocC [.slice A.a A.n A.c, .slice A.ta A.tn A.tc, .slice A.da A.dn A.dc, .slice A.wa A.wn A.wc, .slice A.xa A.xn A.xc, .int .i64 D.ac, .int .i64 D.cz, .slice A.la A.ln A.lc, .int .i64 D.dv, .slice A.oa A.on A.oc, .slice A.ga A.gn A.gc] 54).allocC [.int .i64 0, .slice none 0 0, .int .i64 0, .bool false] 61
  simp only [World.size_alloc] at M0
  have hdn := hr.rt.2.2.2.2.1
  go_enter Tryz.func10, Tryz.ntmps10
  go_wp2_with fail
  refine (l7Fault_calls w.heap.size A D _ (M0.get 1 rfl) (hr.below M0.bel (Nat.le_refl _))).mono ?_
  rintro e w1 ⟨rfl, g1⟩
  have M1 := M0.below g1
  clear g1 M0
  have c0 := (M1.get 0 rfl).cell 0 rfl
  have c1 := (M1.get 0 rfl).cell 1 rfl
  have c2 := (M1.get 0 rfl).cell 2 rfl
  have c3 := (M1.get 0 rfl).cell 3 rfl
  have f0 := (M1.get 0 rfl).fz 0 (by simp)
  have f1 := (M1.get 0 rfl).fz 1 (by simp)
  have f2 := (M1.get 0 rfl).fz 2 (by simp)
  have f3 := (M1.get 0 rfl).fz 3 (by simp)
  by_cases hf : sysF D = 0
  rotate_left
  · have HC : Hid (coC D x = sysF D) := if_pos hf
    have HX : Hid (coX D x = ([], 0, false)) := by show _ = _; unfold coX; rw [HC.out, if_neg hf]
    have hne : (sysF D != 0) = true := by simpa using hf
    have HM := hide ((((M1.put 0 rfl 0 (by simp) (.int .i64 (sysF D)) (by simp) (by simp) (by simp)).put 0 rfl 1 (by simp) (.slice none 0 0) (by simp) (by simp) (by simp)).put 0 rfl 2 (by simp) (.int .i64 0) (by simp) (by simp) (by simp)).put 0 rfl 3 (by simp) (.bool false) (by simp) (by simp) (by simp))
    clear M1 hf
    go_wp2
    have MM := HM.out
    simp only [List.set] at MM
    have r0 := (MM.get 0 rfl).cell 0 rfl
    have r1 := (MM.get 0 rfl).cell 1 rfl
    have r2 := (MM.get 0 rfl).cell 2 rfl
    have r3 := (MM.get 0 rfl).cell 3 rfl
    refine bodyPost_ret (v := .agg #[.int .i64 (sysF D), .slice none 0 0, .int .i64 0, .bool false]) (by simp [results, Tryz.results10, go_sem, r0, r1, r2, r3]) rfl ⟨none, 0, 0, by rw [HC.out, HX.out], ?_, MM.bel⟩
    rw [HX.out]
    exact ⟨rfl, by omega, .inl rfl⟩
  have hne : (sysF D != 0) = false := by simp [hf]
  obtain ⟨x1, x2, x3, x4⟩ := sysF_ctx hf
  have hxd : A.xn = A.dn := by omega
  have hx4 : (A.xn : Int) ≤ 4 := by omega
  cases hu : up x ((A.dn : Int) - 1) with
  | false =>
    have HC : Hid (coC D x = 4) := by show _ = _; unfold coC; rw [if_neg (by simp [hf]), k2, if_neg (by rw [hu]; simp)]
    have HX : Hid (coX D x = ([], 0, false)) := by show _ = _; unfold coX; rw [HC.out, if_neg (by omega)]
    have a2 := (M1.get 1 rfl).cell 2 rfl
    have a4 := (M1.get 1 rfl).cell 4 rfl
    have HM := hide ((((M1.put 0 rfl 0 (by simp) (.int .i64 4) (by simp) (by simp) (by simp)).put 0 rfl 1 (by simp) (.slice none 0 0) (by simp) (by simp) (by simp)).put 0 rfl 2 (by simp) (.int .i64 0) (by simp) (by simp) (by simp)).put 0 rfl 3 (by simp) (.bool false) (by simp) (by simp) (by simp))
    clear M1 hf x1 x2 x3 x4 hxd
    go_wp2_with (go_at_call 42; refine (hasDomain_is w.heap.size A.da A.dn A.dc _ _ _ hdn a2 hu).mono ?_; rintro e w' ⟨rfl, hw'⟩; rw [hw']; clear hw' w')
    have MM := HM.out
    simp only [List.set] at MM
    have r0 := (MM.get 0 rfl).cell 0 rfl
    have r1 := (MM.get 0 rfl).cell 1 rfl
    have r2 := (MM.get 0 rfl).cell 2 rfl
    have r3 := (MM.get 0 rfl).cell 3 rfl
    refine bodyPost_ret (v := .agg #[.int .i64 4, .slice none 0 0, .int .i64 0, .bool false]) (by simp [results, Tryz.results10, go_sem, r0, r1, r2, r3]) rfl ⟨none, 0, 0, by rw [HC.out, HX.out], ?_, MM.bel⟩
    rw [HX.out]
    exact ⟨rfl, by omega, .inl rfl⟩
  | true =>
    have hux := up_iff.1 hu
    obtain ⟨j, rfl⟩ : ∃ j : Nat, x = (j : Int) := ⟨x.toNat, by omega⟩
    have hj : j < A.xn := by omega
    have HC : Hid (coC D (j : Int) = 0) := by show _ = _; unfold coC; rw [if_neg (by simp [hf]), k2, if_pos hu]
    have HX : Hid (coX D (j : Int) = gx D.cs j) := by show _ = _; unfold coX; rw [HC.out, if_pos rfl]; rfl
    have h8 := (x4 j (by omega)).1
    have a2 := (M1.get 1 rfl).cell 2 rfl
    have a4 := (M1.get 1 rfl).cell 4 rfl
    obtain ⟨bx, off, hax, hbx, hcx⟩ := hr.xs.2 (by omega)
    obtain ⟨la, ll, lc, y0, y1, y2, hll, hsl⟩ := hcx j hj
    have p0 := (M1.bel.cell (p := ⟨bx, off + j * 3, none⟩) hbx).trans y0
    have p1 := (M1.bel.cell (p := ⟨bx, off + j * 3 + 1, none⟩) hbx).trans y1
    have p2 := (M1.bel.cell (p := ⟨bx, off + j * 3 + 2, none⟩) hbx).trans y2
    have hl8 : ll ≤ 1048576 := by have := hsl.1; omega
    have i0 : (0 : Int) ≤ (j : Int) := by omega
    have i1 : (j : Int) < (A.xn : Int) := by omega
    rw [hax] at a4
    have sl1 := hsl.below M1.bel (Nat.le_refl _)
    clear hf x1 x2 x3 x4 hxd hcx y0 y1 y2 hux
    go_wp2_with (first | (go_at_call 42; refine (hasDomain_is w.heap.size A.da A.dn A.dc _ _ _ hdn a2 hu).mono ?_; rintro e w' ⟨rfl, hw'⟩; rw [hw']; clear hw' w') | (go_at_call 43; fail))
    refine (l7CopyContext_O la ll lc (gx D.cs j).2.1 (gx D.cs j).2.2 (gx D.cs j).1 _ hl8 sl1).mono ?_
    rintro e w2 ⟨ra, rc, rfl, ho, g2⟩
    have M2 := (M1.below g2).fact OS.loc ho
    have z1 : w.heap.size + 1 < w1.heap.size := (M1.get 0 rfl).1
    have d0 := (M2.get 1 rfl).cell 0 rfl
    have d1 := (M2.get 1 rfl).cell 1 rfl
    have d2 := (M2.get 1 rfl).cell 2 rfl
    have d3 := (M2.get 1 rfl).cell 3 rfl
    have e0 := (M2.get 1 rfl).fz 0 (by simp)
    have e1 := (M2.get 1 rfl).fz 1 (by simp)
    have e2 := (M2.get 1 rfl).fz 2 (by simp)
    have e3 := (M2.get 1 rfl).fz 3 (by simp)
    have HM := hide ((((M2.put 1 rfl 0 (by simp) (.int .i64 0) (by simp) (by simp) (by simp; omega)).put 1 rfl 1 (by simp) (.slice ra ll rc) (by simp) (by simp) (by simp; omega)).put 1 rfl 2 (by simp) (.int .i64 (gx D.cs j).2.1) (by simp) (by simp) (by simp; omega)).put 1 rfl 3 (by simp) (.bool (gx D.cs j).2.2) (by simp) (by simp) (by simp; omega))
    clear M1 M2 ho g2 p0 p1 p2 c0 c1 c2 c3 f0 f1 f2 f3 a2 a4 sl1
    go_wp2
    have MM := HM.out
    simp only [List.set] at MM
    have r0 := (MM.get 1 rfl).cell 0 rfl
    have r1 := (MM.get 1 rfl).cell 1 rfl
    have r2 := (MM.get 1 rfl).cell 2 rfl
    have r3 := (MM.get 1 rfl).cell 3 rfl
    refine bodyPost_ret (v := .agg #[.int .i64 0, .slice ra ll rc, .int .i64 (gx D.cs j).2.1, .bool (gx D.cs j).2.2]) (by simp [results, Tryz.results10, go_sem, r0, r1, r2, r3]) rfl ⟨ra, ll, rc, by rw [HC.out, HX.out], ?_, MM.bel⟩
    rw [HX.out]
    exact (MM.get 0 rfl).mono (fun k hk => ⟨by have := hk.1; omega, by simpa using hk.2⟩)

set_option maxRecDepth 100000 in
set_option maxHeartbeats 2000000 in
theorem implContextOf_calls (A : SA) (D : SD) (x : Int) (w : World) (hr : RS w A D) (hk : A.ln ≤ A.lc) :
    Calls Tryz.prog 11 #[.agg #[.slice A.a A.n A.c, .slice A.ta A.tn A.tc, .slice A.da A.dn A.dc, .slice A.wa A.wn A.wc, .slice A.xa A.xn A.xc, .int .i64 D.ac, .int .i64 D.cz, .slice A.la A.ln A.lc, .int .i64 D.dv, .slice A.oa A.on A.oc, .slice A.ga A.gn A.gc], .int .i64 x] w fun e w' => ∃ a n c, e = .returned (.agg #[.int .i64 (coC D x), .slice a n c, .int .i64 (coX D x).2.1, .bool (coX D x).2.2]) ∧ OS (InR w.heap.size w'.heap.size) a n (coX D x).1 w' ∧ Below w.heap.size w w' := by
  obtain ⟨k0, k1, k2, k3, k4, k5, k6, k7⟩ := hr.len
  have M0 := ((Mm.start w).allocC [.slice A.a A.n A.c, .slice A.ta A.tn A.tc, .slice A.da A.dn A.dc, .slice A.wa A.wn A.wc, .slice A.xa A.xn A.xc, .int .i64 D.ac, .int .i64 D.cz, .slice A.la A.ln A.lc, .int .i64 D.dv, .slice A.oa A.on A.oc, .slice A.ga A.gn A.gc] 54).allocC [.int .i64 0, .slice none 0 0, .int .i64 0, .bool false] 61
  simp only [World.size_alloc] at M0
  have hdn := hr.rt.2.2.2.2.1
  go_enter Tryz.func11, Tryz.ntmps11
  go_wp2_with fail
  refine (implSystemFault_calls A D _ (hr.below M0.bel (Nat.le_refl _)) hk).mono ?_
  rintro e w1 ⟨rfl, g1⟩
  have M1 := M0.below g1
  clear g1 M0
  have c0 := (M1.get 0 rfl).cell 0 rfl
  have c1 := (M1.get 0 rfl).cell 1 rfl
  have c2 := (M1.get 0 rfl).cell 2 rfl
  have c3 := (M1.get 0 rfl).cell 3 rfl
  have f0 := (M1.get 0 rfl).fz 0 (by simp)
  have f1 := (M1.get 0 rfl).fz 1 (by simp)
  have f2 := (M1.get 0 rfl).fz 2 (by simp)
  have f3 := (M1.get 0 rfl).fz 3 (by simp)
  by_cases hf : sysF D = 0
  rotate_left
  · have HC : Hid (coC D x = sysF D) := if_pos hf
    have HX : Hid (coX D x = ([], 0, false)) := by show _ = _; unfold coX; rw [HC.out, if_neg hf]
    have hne : (sysF D != 0) = true := by simpa using hf
    have HM := hide ((((M1.put 0 rfl 0 (by simp) (.int .i64 (sysF D)) (by simp) (by simp) (by simp)).put 0 rfl 1 (by simp) (.slice none 0 0) (by simp) (by simp) (by simp)).put 0 rfl 2 (by simp) (.int .i64 0) (by simp) (by simp) (by simp)).put 0 rfl 3 (by simp) (.bool false) (by simp) (by simp) (by simp))
    clear M1 hf
    go_wp2
    have MM := HM.out
    simp only [List.set] at MM
    have r0 := (MM.get 0 rfl).cell 0 rfl
    have r1 := (MM.get 0 rfl).cell 1 rfl
    have r2 := (MM.get 0 rfl).cell 2 rfl
    have r3 := (MM.get 0 rfl).cell 3 rfl
    refine bodyPost_ret (v := .agg #[.int .i64 (sysF D), .slice none 0 0, .int .i64 0, .bool false]) (by simp [results, Tryz.results11, go_sem, r0, r1, r2, r3]) rfl ⟨none, 0, 0, by rw [HC.out, HX.out], ?_, MM.bel⟩
    rw [HX.out]
    exact ⟨rfl, by omega, .inl rfl⟩
  have hne : (sysF D != 0) = false := by simp [hf]
  obtain ⟨x1, x2, x3, x4⟩ := sysF_ctx hf
  have hxd : A.xn = A.dn := by omega
  have hx4 : (A.xn : Int) ≤ 4 := by omega
  cases hu : up x ((A.dn : Int) - 1) with
  | false =>
    have HC : Hid (coC D x = 4) := by show _ = _; unfold coC; rw [if_neg (by simp [hf]), k2, if_neg (by rw [hu]; simp)]
    have HX : Hid (coX D x = ([], 0, false)) := by show _ = _; unfold coX; rw [HC.out, if_neg (by omega)]
    have a2 := (M1.get 1 rfl).cell 2 rfl
    have a4 := (M1.get 1 rfl).cell 4 rfl
    have HM := hide ((((M1.put 0 rfl 0 (by simp) (.int .i64 4) (by simp) (by simp) (by simp)).put 0 rfl 1 (by simp) (.slice none 0 0) (by simp) (by simp) (by simp)).put 0 rfl 2 (by simp) (.int .i64 0) (by simp) (by simp) (by simp)).put 0 rfl 3 (by simp) (.bool false) (by simp) (by simp) (by simp))
    rw [← hxd] at hu
    clear M1 hf x1 x2 x3 x4 hxd
    go_wp2_with (go_at_call 32; with_reducible refine (isUpTo_is _ _ _ _ hu).mono ?_; rintro e w' ⟨rfl, hw'⟩; rw [hw']; clear hw' w')
    have MM := HM.out
    simp only [List.set] at MM
    have r0 := (MM.get 0 rfl).cell 0 rfl
    have r1 := (MM.get 0 rfl).cell 1 rfl
    have r2 := (MM.get 0 rfl).cell 2 rfl
    have r3 := (MM.get 0 rfl).cell 3 rfl
    refine bodyPost_ret (v := .agg #[.int .i64 4, .slice none 0 0, .int .i64 0, .bool false]) (by simp [results, Tryz.results11, go_sem, r0, r1, r2, r3]) rfl ⟨none, 0, 0, by rw [HC.out, HX.out], ?_, MM.bel⟩
    rw [HX.out]
    exact ⟨rfl, by omega, .inl rfl⟩
  | true =>
    have hux := up_iff.1 hu
    obtain ⟨j, rfl⟩ : ∃ j : Nat, x = (j : Int) := ⟨x.toNat, by omega⟩
    have hj : j < A.xn := by omega
    have HC : Hid (coC D (j : Int) = 0) := by show _ = _; unfold coC; rw [if_neg (by simp [hf]), k2, if_pos hu]
    have HX : Hid (coX D (j : Int) = gx D.cs j) := by show _ = _; unfold coX; rw [HC.out, if_pos rfl]; rfl
    have h8 := (x4 j (by omega)).1
    have a2 := (M1.get 1 rfl).cell 2 rfl
    have a4 := (M1.get 1 rfl).cell 4 rfl
    obtain ⟨bx, off, hax, hbx, hcx⟩ := hr.xs.2 (by omega)
    obtain ⟨la, ll, lc, y0, y1, y2, hll, hsl⟩ := hcx j hj
    have p0 := (M1.bel.cell (p := ⟨bx, off + j * 3, none⟩) hbx).trans y0
    have p1 := (M1.bel.cell (p := ⟨bx, off + j * 3 + 1, none⟩) hbx).trans y1
    have p2 := (M1.bel.cell (p := ⟨bx, off + j * 3 + 2, none⟩) hbx).trans y2
    have hl8 : ll ≤ 1048576 := by have := hsl.1; omega
    have i0 : (0 : Int) ≤ (j : Int) := by omega
    have i1 : (j : Int) < (A.xn : Int) := by omega
    rw [← hxd] at hu
    rw [hax] at a4
    have sl1 := hsl.below M1.bel (Nat.le_refl _)
    clear hf x1 x2 x3 x4 hxd hcx y0 y1 y2 hux
    go_wp2_with (first | (go_at_call 32; with_reducible refine (isUpTo_is _ _ _ _ hu).mono ?_; rintro e w' ⟨rfl, hw'⟩; rw [hw']; clear hw' w') | (go_at_call 44; fail))
    refine (copiedContext_O la ll lc (gx D.cs j).2.1 (gx D.cs j).2.2 (gx D.cs j).1 _ hl8 sl1).mono ?_
    rintro e w2 ⟨ra, rc, rfl, ho, g2⟩
    have M2 := (M1.below g2).fact OS.loc ho
    have z1 : w.heap.size + 1 < w1.heap.size := (M1.get 0 rfl).1
    have d0 := (M2.get 1 rfl).cell 0 rfl
    have d1 := (M2.get 1 rfl).cell 1 rfl
    have d2 := (M2.get 1 rfl).cell 2 rfl
    have d3 := (M2.get 1 rfl).cell 3 rfl
    have e0 := (M2.get 1 rfl).fz 0 (by simp)
    have e1 := (M2.get 1 rfl).fz 1 (by simp)
    have e2 := (M2.get 1 rfl).fz 2 (by simp)
    have e3 := (M2.get 1 rfl).fz 3 (by simp)
    have HM := hide ((((M2.put 1 rfl 0 (by simp) (.int .i64 0) (by simp) (by simp) (by simp; omega)).put 1 rfl 1 (by simp) (.slice ra ll rc) (by simp) (by simp) (by simp; omega)).put 1 rfl 2 (by simp) (.int .i64 (gx D.cs j).2.1) (by simp) (by simp) (by simp; omega)).put 1 rfl 3 (by simp) (.bool (gx D.cs j).2.2) (by simp) (by simp) (by simp; omega))
    clear M1 M2 ho g2 p0 p1 p2 c0 c1 c2 c3 f0 f1 f2 f3 a2 a4 sl1
    go_wp2
    have MM := HM.out
    simp only [List.set] at MM
    have r0 := (MM.get 1 rfl).cell 0 rfl
    have r1 := (MM.get 1 rfl).cell 1 rfl
    have r2 := (MM.get 1 rfl).cell 2 rfl
    have r3 := (MM.get 1 rfl).cell 3 rfl
    refine bodyPost_ret (v := .agg #[.int .i64 0, .slice ra ll rc, .int .i64 (gx D.cs j).2.1, .bool (gx D.cs j).2.2]) (by simp [results, Tryz.results11, go_sem, r0, r1, r2, r3]) rfl ⟨ra, ll, rc, by rw [HC.out, HX.out], ?_, MM.bel⟩
    rw [HX.out]
    exact (MM.get 0 rfl).mono (fun k hk => ⟨by have := hk.1; omega, by simpa using hk.2⟩)

end Go.Proofs.YtnbdhakbemcfeaaGreat
