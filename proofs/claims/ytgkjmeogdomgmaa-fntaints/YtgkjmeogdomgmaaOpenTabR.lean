import Derived.Test.YtgkjmeogdomgmaaOpenTab
import Derived.Test.YtgkjmeogdomgmaaClone
import Derived.Test.YtgkjmeogdomgmaaApp
import Derived.Test.YtgkjmeogdomgmaaSep
import Derived.WalkKit
import Derived.ProofKit
import Derived.OpenShut
import Derived.ShutString
import Derived.ChangeOld
import Derived.Below
import Derived.WalkSpells
import Derived.Deep.QuietTactic
import Derived.BigQuiet
import Derived.Deep.RegionWith
import Derived.Deep.WholeRow
import Derived.Deep.DeepCutAuto
import Derived.Deep.RegionHeld2
import Derived.Deep.AppendLies
import Derived.Deep.RegionLaw
namespace Go.Proofs.Ytgkjmeogdomgmaa
open Go.ChangeShapes Go.WideShapes Go.ChangeAt Go.RowKit

/-- an owned row of numbers with its room. -/
def RW (S : Nat → Prop) (a : Option Addr) (n c : Nat) (zs : List Int) (w : World) : Prop :=
  OS S a n zs w ∧ w.ownsRow 0 2 1 (.slice a n c) n (zs.map (Value.int .i64)) ∧ ∀ g, (Value.slice a n c).ownBlock = some g → S g

theorem RW.loc {S : Nat → Prop} {a : Option Addr} {n c : Nat} {zs : List Int} : Loc S (RW S a n c zs) := fun w w' hk h => by
  refine ⟨OS.loc w w' hk h.1, ⟨h.2.1.1, ?_⟩, h.2.2⟩
  rcases h.2.1.2 with h0 | ⟨g, cap, cur, hv, hb, hg, rest⟩
  · exact .inl h0
  · refine .inr ⟨g, cap, cur, hv, hb, ?_, rest⟩
    rw [hk g (h.2.2 g (by rw [hv]; rfl)) (Array.getElem?_eq_some_iff.1 hg).1]
    exact hg

theorem RW.mono {S S' : Nat → Prop} {a : Option Addr} {n c : Nat} {zs : List Int} {w : World} (h : RW S a n c zs w) (hs : ∀ k, S k → S' k) : RW S' a n c zs w := ⟨h.1.mono hs, h.2.1, fun g e => hs g (h.2.2 g e)⟩

theorem RW.room {S : Nat → Prop} {a : Option Addr} {n c : Nat} {zs : List Int} {w : World} (h : RW S a n c zs w) : n ≤ c := by
  rcases h.2.1.2 with ⟨h, h0⟩ | ⟨g, cp, cur, h, _, _, hc, _⟩
  · omega
  · simp only [Value.slice.injEq] at h; omega

theorem owns_base {w : World} {B : Nat} {e : TypeId} {s : Nat} {v : Value} {n : Nat} {xs : List Value} (h : w.ownsRow B e s v n xs) : w.ownsRow 0 e s v n xs :=
  ⟨h.1, h.2.imp id (fun ⟨g, cap, cur, hv, _, r⟩ => ⟨g, cap, cur, hv, Nat.zero_le _, r⟩)⟩

theorem RW.of {w : World} {B : Nat} {v : Value} {n : Nat} {zs : List Int} (hn : n ≤ 1048576) (h : w.ownsRow B 2 1 v n (zs.map (Value.int .i64))) : ∃ a c, v = .slice a n c ∧ RW (InR B w.heap.size) a n c zs w := by
  obtain ⟨a, c, rfl, o⟩ := owns_osl hn h
  exact ⟨a, c, rfl, OS.ofOSl o, owns_base h, fun g e => h.lt g e⟩

theorem RW.nil (S : Nat → Prop) (w : World) {zs : List Int} (h : zs.length = 0) : RW S none 0 0 zs w := by
  obtain rfl := List.length_eq_zero_iff.1 h
  exact ⟨⟨rfl, by omega, .inl rfl⟩, ⟨rfl, .inl ⟨rfl, rfl⟩⟩, fun g e => by cases e⟩

theorem RW.lit (w : World) {zs : List Int} (h : zs.length = 0) : RW (InR w.heap.size (w.alloc (.cells #[] 2)).heap.size) (some ⟨w.heap.size, 0, none⟩) 0 0 zs (w.alloc (.cells #[] 2)) := by
  obtain rfl := List.length_eq_zero_iff.1 h
  have hown := World.ownsRow_lit (base := w.heap.size) (e := 2) (size := 1) w #[] 0 (Nat.le_refl _) (Nat.zero_le _) rfl
  exact ⟨⟨rfl, by omega, .inl rfl⟩, owns_base hown, fun g e => hown.lt g e⟩

theorem RW.allocR {B T B' : Nat} {a : Option Addr} {n c : Nat} {rs : List Int} {w : World} (h : RW (InR B T) a n c rs w) (hB : B' ≤ B) (o : Obj) : RW (InR B' T) a n c rs (w.alloc o) := RW.mono (RW.loc.alloc h o) (fun k hk => ⟨by have := hk.1; omega, hk.2⟩)

theorem RW.set4R {B T B' P : Nat} {a : Option Addr} {n c : Nat} {rs : List Int} {w : World} (h : RW (InR B T) a n c rs w) (hB : B' ≤ B) (hP : P < B ∨ T ≤ P) (v0 v1 v2 v3 : Value) :
    RW (InR B' T) a n c rs ((((w.setCell ⟨P, 0, none⟩ v0).setCell ⟨P, 1, none⟩ v1).setCell ⟨P, 2, none⟩ v2).setCell ⟨P, 3, none⟩ v3) := by
  have hn : ¬ InR B T P := fun e => by have := e.1; have := e.2; omega
  exact RW.mono (RW.loc.setC (RW.loc.setC (RW.loc.setC (RW.loc.setC h hn v0) hn v1) hn v2) hn v3) (fun k hk => ⟨by have := hk.1; omega, hk.2⟩)

theorem RW.app {S : Nat → Prop} {a : Option Addr} {n c g cp : Nat} {zs : List Int} {x : Int} {X w5 : World} (h : RW S a n c zs X) (hg : X.grownBy w5 (Value.slice a n c).ownBlock) (hat : (Value.slice a n c).ownBlock = some g ∨ g = X.heap.size)
    (hown : w5.ownsRow 0 2 1 (.slice (some ⟨g, 0, none⟩) (n + 1) cp) (n + 1) (zs.map (Value.int .i64) ++ [.int .i64 x])) (hn : n + 1 ≤ 1048576) :
    OS (fun k => S k ∨ (k = X.heap.size ∧ k < w5.heap.size)) (some ⟨g, 0, none⟩) (n + 1) (zs ++ [x]) w5 ∧ OutS S X w5 := by
  have hown' : w5.ownsRow 0 2 1 (.slice (some ⟨g, 0, none⟩) (n + 1) cp) (n + 1) ((zs ++ [x]).map (Value.int .i64)) := by simpa using hown
  obtain ⟨g', cap, e, _, _, hl, blk⟩ := owns_blk (by omega) hown'
  simp only [Value.slice.injEq, Option.some.injEq, Addr.mk.injEq] at e
  obtain ⟨⟨rfl, _⟩, _⟩ := e
  refine ⟨OS.ofBlk blk ?_ hl hn, ⟨hg.os, hg.tape, hg.output, hg.size, fun k hk hs => hg.block k hk (fun e => hs (h.2.2 k e.symm))⟩⟩
  rcases hat with hat | hat
  · exact .inl (h.2.2 g hat)
  · exact .inr ⟨hat, blk.1⟩

set_option maxRecDepth 100000 in
set_option maxHeartbeats 1000000 in
theorem clone_R (a : Option Addr) (n cap : Nat) (zs : List Int) (w : World) (hn : n ≤ 1048576) (hs : Sl w a n zs) :
    Calls Try.prog 76 #[.slice a n cap] w fun e w' => ∃ ra rc, e = .returned (.slice ra n rc) ∧ n ≤ rc ∧ RW (InR w.heap.size w'.heap.size) ra n rc zs w' ∧ Below w.heap.size w w' := by
  obtain ⟨hlen, hs⟩ := hs
  obtain ⟨i0, hi, hz0, hz1, hz2⟩ := info_parts info2
  have hnil := fun (u : World) (x : Option Addr) (m c : Nat) => Lib.run_eql_slice_nil (P := Try.prog) u 25 2 x m c 0 0 Try.underlying25
  have hb0 := fun o1 => (Below.refl w.heap.size w).alloc (Nat.le_refl _) o1
  by_cases hp : 0 < n
  · obtain ⟨b, off, rfl, hb, hc⟩ := hs hp
    have hown := World.ownsRow_lit (base := w.heap.size) (e := 2) (size := 1) w #[] 0 (Nat.le_refl _) (Nat.zero_le _) rfl
    have hnews := ints_at_sl (w := w.alloc (.cells #[] 2)) (b := b) (off := off) (zs := zs) (fun i hi => ((hb0 _).cell (p := ⟨b, off + i, none⟩) hb).trans (hc i (by omega)))
    have HO := hide hown
    have HN := hide hnews
    have hm1 : 0 + n ≤ maxLen := by unfold maxLen; omega
    have hm2 : (0 + n) * 8 ≤ 140737488355328 := by omega
    have hl1 : (zs.map (Value.int .i64)).length = n * 1 := by simp [hlen]
    have hbs : w.heap.size ≤ (w.alloc (.cells #[] 2)).heap.size := by simp
    have HL := hide hl1
    have HM1 := hide hm1
    have HM2 := hide hm2
    have HBS := hide hbs
    clear hown hnews hs hc hl1 hm1 hm2 hbs
    go_enter Try.func76, Try.ntmps76
    go_wp2_with (first
      | (at_builtin; refine wpList_append_own _ rfl _ _ 25 rfl w.heap.size 2 i0 (.int .i64 0) 1 8 Try.underlying25 hi hz0 hz1 hz2 rfl (by decide) _ 0 [] rfl HO.out ⟨b, off, none⟩ n cap (zs.map (Value.int .i64)) rfl HL.out HN.out ints_one HM1.out HM2.out HBS.out ?_)
      | go_in)
    intro v' w1 hown' hgrow _
    have hown2 : w1.ownsRow w.heap.size 2 1 v' n (zs.map (Value.int .i64)) := by simpa using hown'
    obtain ⟨ra, rc, rfl, fr⟩ := RW.of hn hown2
    have hcap := fr.room
    have h1 : Below w.heap.size w w1 := (hb0 _).grown hgrow (by simp) (fun k hk => by simp [Value.ownBlock] at hk; omega)
    have HFR := hide fr
    have HB1 := hide h1
    clear HO HN hown' hown2 hgrow hb0 fr h1
    go_wp2
    go_ret
    exact ⟨ra, rc, rfl, hcap, HFR.out, HB1.out⟩
  · have h0 : n = 0 := by omega
    subst h0
    cases a
    · go_enter Try.func76, Try.ntmps76
      go_wp2
      go_ret
      exact ⟨_, 0, rfl, by omega, RW.nil _ _ hlen, Below.refl _ _⟩
    · go_enter Try.func76, Try.ntmps76
      go_wp2
      go_ret
      exact ⟨_, 0, rfl, by omega, RW.lit w hlen, hb0 _⟩

def Led3 (w0 : Nat) (mo : Option Nat) (ss : List (Int × List Int)) (xa : Option Addr) (xn xc : Nat) (ts : List Int) (ya : Option Addr) (yn yc : Nat) (ds : List Int) (w : World) : Prop :=
  ∃ M X1 X2 X3, mo = some M ∧ w0 ≤ M ∧ M < X1 ∧ X1 ≤ X2 ∧ X2 ≤ X3 ∧ X3 ≤ w.heap.size ∧ w.ownsMap Try.prog 127 Rst M ss.length (bk ss ss.length) ∧ RW (InR X1 X2) xa xn xc ts w ∧ RW (InR X2 X3) ya yn yc ds w

theorem Led3.below {w0 : Nat} {mo : Option Nat} {ss : List (Int × List Int)} {xa ya : Option Addr} {xn xc yn yc : Nat} {ts ds : List Int} {w w' : World} (h : Led3 w0 mo ss xa xn xc ts ya yn yc ds w) (hb : Below w.heap.size w w') : Led3 w0 mo ss xa xn xc ts ya yn yc ds w' := by
  obtain ⟨M, X1, X2, X3, h1, h2, h3, h4, h5, h6, h7, h8, h9⟩ := h
  exact ⟨M, X1, X2, X3, h1, h2, h3, h4, h5, by have := hb.size; omega, ownsMap_below h7 hb (Nat.le_refl _), RW.loc.below hb h8, RW.loc.below hb h9⟩

theorem Led3.mono {w0 w1 : Nat} {mo : Option Nat} {ss : List (Int × List Int)} {xa ya : Option Addr} {xn xc yn yc : Nat} {ts ds : List Int} {w : World} (h : Led3 w0 mo ss xa xn xc ts ya yn yc ds w) (hb : w1 ≤ w0) : Led3 w1 mo ss xa xn xc ts ya yn yc ds w := by
  obtain ⟨M, X1, X2, X3, h1, h2, h⟩ := h
  exact ⟨M, X1, X2, X3, h1, by omega, h⟩

theorem Led3.setCell {w0 : Nat} {mo : Option Nat} {ss : List (Int × List Int)} {xa ya : Option Addr} {xn xc yn yc : Nat} {ts ds : List Int} {w : World} (h : Led3 w0 mo ss xa xn xc ts ya yn yc ds w) {p : Addr} (hp : p.block < w0) (v : Value) : Led3 w0 mo ss xa xn xc ts ya yn yc ds (w.setCell p v) := by
  obtain ⟨M, X1, X2, X3, h1, h2, h3, h4, h5, h6, h7, h8, h9⟩ := h
  exact ⟨M, X1, X2, X3, h1, h2, h3, h4, h5, by simpa using h6, h7.setCell (by omega) v, RW.loc.setC h8 (fun e => by have := e.1; omega) v, RW.loc.setC h9 (fun e => by have := e.1; omega) v⟩

/-- what 'openTables' answers, with the room of its lists. -/
def OT3 (ss : List (Int × List Int)) (ts ds : List Int) (w : World) (e : Ending) (w' : World) : Prop :=
  ∃ sz mo xa xn xc ya yn yc, e = .returned (.tuple #[.agg #[.int .i64 sz, .map mo, .slice xa xn xc, .slice ya yn yc], .int .i64 (tabF ss ts ds)]) ∧ Below w.heap.size w w' ∧
    (tabF ss ts ds = 0 → sz = (ss.length : Int) ∧ (xn ≤ xc ∧ yn ≤ yc) ∧ Led3 w.heap.size mo ss xa xn xc ts ya yn yc ds w')

theorem OT3.mk {ss : List (Int × List Int)} {ts ds : List Int} {w w' : World} {e : Ending} (sz : Int) (mo : Option Nat) (xa : Option Addr) (xn xc : Nat) (ya : Option Addr) (yn yc : Nat) (he : e = .returned (.tuple #[.agg #[.int .i64 sz, .map mo, .slice xa xn xc, .slice ya yn yc], .int .i64 (tabF ss ts ds)])) (hb : Below w.heap.size w w')
    (h : tabF ss ts ds = 0 → sz = (ss.length : Int) ∧ (xn ≤ xc ∧ yn ≤ yc) ∧ Led3 w.heap.size mo ss xa xn xc ts ya yn yc ds w') : OT3 ss ts ds w e w' := ⟨sz, mo, xa, xn, xc, ya, yn, yc, he, hb, h⟩

set_option maxRecDepth 100000 in
set_option maxHeartbeats 4000000 in
theorem openTables_R (a : Option Addr) (n c : Nat) (ss : List (Int × List Int)) (ta : Option Addr) (tn tc : Nat) (ts : List Int) (da : Option Addr) (dn dc : Nat) (ds : List Int) (w : World) (hx : RT w a n ss ta tn ts da dn ds) :
    Calls Try.prog 39 #[.agg #[.slice a n c, .slice ta tn tc, .slice da dn dc]] w (OT3 ss ts ds w) := by
  have M0 := ((Mm.start w).alloc3 (.slice a n c) (.slice ta tn tc) (.slice da dn dc) 36).alloc4 (.int .i64 0) (.map none) (.slice none 0 0) (.slice none 0 0) 80
  simp only [World.size_alloc] at M0
  have hx0 := hx.below M0.bel (Nat.le_refl _)
  obtain rfl : n = ss.length := hx.2.1.1.symm
  have htl := hx.2.2.2.1.1
  have hdl := hx.2.2.2.2.2.1
  obtain ⟨hn, _, htm, _, hdm, _⟩ := hx
  obtain ⟨_, hss, _, hts, _, hds⟩ := hx0
  by_cases hr : faultR ss = 0
  · have er : (faultR ss != 0) = false := by simp [hr]
    have Hr := hide hr
    clear hr
    by_cases hmany : manyB ts ds = true
    · have HF := hide (tabF_many Hr.out hmany)
      by_cases h6 : 6 < tn
      · go_enter Try.func39, Try.ntmps39
        go_wp2_with fail
        refine (openRegistry_calls a _ c ss _ hn hss).mono ?_
        rintro e w1 ⟨sz, mo, rfl, g1, _⟩
        have M1 := (M0.below g1).alloc2 (.int .i64 sz) (.map mo) 78
        have t1 := M1.cell 7 rfl
        have r0 := M1.cell 2 rfl
        have r1 := M1.cell 3 rfl
        have r2 := M1.cell 4 rfl
        have r3 := M1.cell 5 rfl
        have f0 := M1.fz 2 rfl
        have f1 := M1.fz 3 rfl
        have f2 := M1.fz 4 rfl
        have f3 := M1.fz 5 rfl
        have HB := hide M1.bel
        clear M0 M1 g1 hss hts hds
        go_wp2
        refine bodyPost_ret (v := .tuple #[.agg #[.int .i64 0, .map none, .slice none 0 0, .slice none 0 0], .int .i64 2]) (by simp [results, Try.results39, go_sem, r0, r1, r2, r3]) rfl (OT3.mk 0 none none 0 0 none 0 0 (by rw [HF.out]) ?_ (fun h => absurd (HF.out.symm.trans h) (by decide)))
        exact (((HB.out.setCell (by simp) _).setCell (by simp) _).setCell (by simp) _).setCell (by simp) _
      · have h4 : 4 < dn := by
          unfold manyB at hmany
          simp at hmany
          omega
        go_enter Try.func39, Try.ntmps39
        go_wp2_with fail
        refine (openRegistry_calls a _ c ss _ hn hss).mono ?_
        rintro e w1 ⟨sz, mo, rfl, g1, _⟩
        have M1 := (M0.below g1).alloc2 (.int .i64 sz) (.map mo) 78
        have t1 := M1.cell 7 rfl
        have t2 := M1.cell 8 rfl
        have r0 := M1.cell 2 rfl
        have r1 := M1.cell 3 rfl
        have r2 := M1.cell 4 rfl
        have r3 := M1.cell 5 rfl
        have f0 := M1.fz 2 rfl
        have f1 := M1.fz 3 rfl
        have f2 := M1.fz 4 rfl
        have f3 := M1.fz 5 rfl
        have HB := hide M1.bel
        clear M0 M1 g1 hss hts hds
        go_wp2
        refine bodyPost_ret (v := .tuple #[.agg #[.int .i64 0, .map none, .slice none 0 0, .slice none 0 0], .int .i64 2]) (by simp [results, Try.results39, go_sem, r0, r1, r2, r3]) rfl (OT3.mk 0 none none 0 0 none 0 0 (by rw [HF.out]) ?_ (fun h => absurd (HF.out.symm.trans h) (by decide)))
        exact (((HB.out.setCell (by simp) _).setCell (by simp) _).setCell (by simp) _).setCell (by simp) _
    · have hmf : manyB ts ds = false := by simpa using hmany
      have HF := hide (tabF_led Hr.out hmf)
      have hs6 : ¬ (6 < tn) ∧ ¬ (4 < dn) := by
        unfold manyB at hmf
        simp at hmf
        omega
      obtain ⟨h6, h4⟩ := hs6
      clear hmany hmf
      go_enter Try.func39, Try.ntmps39
      go_wp2_with fail
      refine (openRegistry_calls a _ c ss _ hn hss).mono ?_
      rintro e w1 ⟨sz, mo, rfl, g1, hown⟩
      obtain ⟨rfl, M, rfl, hM, hown⟩ := hown Hr.out
      simp only [World.size_alloc] at hM
      have M1 := (M0.below g1).alloc2 (.int .i64 (ss.length : Int)) (.map (some M)) 78
      have al := (Below.refl w1.heap.size w1).alloc (Nat.le_refl _) (.cells #[.int .i64 (ss.length : Int), .map (some M)] 78)
      have s1 := (hts.below g1 (Nat.le_refl _)).below al (Nat.le_refl _)
      have s2 := (hds.below g1 (Nat.le_refl _)).below al (Nat.le_refl _)
      have hown1 := ownsMap_below hown al (Nat.le_refl _)
      have q0 := M1.cell 0 rfl
      have q1 := M1.cell 1 rfl
      have q2 := M1.cell 7 rfl
      have q3 := M1.cell 8 rfl
      have lt0 := M1.lt 0 rfl
      have lt2 := M1.lt 7 rfl
      have ltR := M1.lt 2 rfl
      have hMlt : M < w1.heap.size := hown.lt
      clear g1 al hown hss hts hds M0
      go_upto_region 6 with fail
      generalize hW : (w1.alloc (.cells #[.int .i64 (ss.length : Int), .map (some M)] 78)) = W at M1 s1 s2 hown1 q0 q1 q2 q3 lt0 lt2 ltR ⊢
      have HWs : Hid (W.heap.size = w1.heap.size + 1) := by show _ = _; rw [← hW]; simp
      clear hW
      go_cut [6] (fun v6 wd => ∃ P xa xc ya yc X1 X2 X3, v6 = .pointer (some ⟨P, 0, none⟩) ∧ wd.cell? ⟨P, 0, none⟩ = some (.int .i64 (ss.length : Int)) ∧ wd.cell? ⟨P, 1, none⟩ = some (.map (some M)) ∧ wd.cell? ⟨P, 2, none⟩ = some (.slice xa tn xc) ∧ wd.cell? ⟨P, 3, none⟩ = some (.slice ya dn yc) ∧
        (∀ j, wd.frozen? ⟨P, j, none⟩ = false) ∧ (W.heap.size ≤ X1 ∧ X1 ≤ X2 ∧ X2 ≤ X3 ∧ X3 ≤ wd.heap.size ∧ tn ≤ xc ∧ dn ≤ yc) ∧ RW (InR X1 X2) xa tn xc ts wd ∧ RW (InR X2 X3) ya dn yc ds wd ∧ Below W.heap.size W wd)
      case first =>
        have HS0 : Hid (W.drew.cell? ⟨w1.heap.size, 0, none⟩ = some (.int .i64 (ss.length : Int)) ∧ W.drew.cell? ⟨w1.heap.size, 1, none⟩ = some (.map (some M)) ∧ W.drew.cell? ⟨w.heap.size, 1, none⟩ = some (.slice ta tn tc) ∧ W.drew.cell? ⟨w.heap.size, 2, none⟩ = some (.slice da dn dc) ∧ Below W.heap.size W W.drew) := ⟨q0, q1, q2, q3, (Below.refl _ _).drew⟩
        have HS1 := hide s1
        have HS2 := hide s2
        clear M1 s1 s2 hown1
        go_region_held2 (fun w' => w'.cell? ⟨w1.heap.size, 0, none⟩ = some (.int .i64 (ss.length : Int)) ∧ w'.cell? ⟨w1.heap.size, 1, none⟩ = some (.map (some M)) ∧ w'.cell? ⟨w.heap.size, 1, none⟩ = some (.slice ta tn tc) ∧ w'.cell? ⟨w.heap.size, 2, none⟩ = some (.slice da dn dc) ∧ Below W.heap.size W w')
          (first | with_reducible exact HS0.out | (repeat (first | with_reducible assumption | with_reducible refine q4_allocd lt0 lt0 lt2 lt2 ?_ _ | with_reducible refine q4_alloc lt0 lt0 lt2 lt2 ?_ _ | with_reducible refine q4_set lt0 lt0 lt2 lt2 ?_ ?_ _ | (show (_ : Nat) ≤ _; exact Nat.le_refl _) | (show (_ : Nat) ≤ _; dsimp only; omega))))
          (first
            | (go_at_call_of 76 (Value.slice ta tn tc); refine (clone_R ta tn tc ts _ (by omega) ?_).mono ?_; exact HS1.out.below (q4_bel (by with_reducible assumption)) (Nat.le_refl _); rintro e wa ⟨xa, xc, rfl, kx, ox, ga⟩; have hsa := q4_below lt0 lt0 lt2 lt2 (by with_reducible assumption) ga; have hza := ga.size; have hwa := (q4_bel hsa).size; (try simp only [World.size_alloc, World.size_drew] at hza ox); (try have hqa := Nat.lt_of_succ_le hza); obtain ⟨bca, bfa⟩ := bcellQ ga; (try simp only [World.size_alloc, World.size_drew] at bca bfa); clear ga)
            | (go_at_call_of 76 (Value.slice da dn dc); refine (clone_R da dn dc ds _ (by omega) ?_).mono ?_; exact HS2.out.below (q4_bel (by with_reducible assumption)) (Nat.le_refl _); rintro e wb ⟨ya, yc, rfl, ky, oy, gb⟩; have hsb := q4_below lt0 lt0 lt2 lt2 (by with_reducible assumption) gb; have ox := Loc.belowA RW.loc ox gb (by first | exact Below.refl _ _ | exact (Below.refl _ _).alloc (Nat.le_refl _) _); have hzb := gb.size; have hwb := (q4_bel hsb).size; (try simp only [World.size_alloc] at hzb oy); (try have hqb := Nat.lt_of_succ_le hzb); (try have hrb := Nat.lt_of_lt_of_le hqa hzb); obtain ⟨bcb, bfb⟩ := bcellQ gb; (try simp only [World.size_alloc] at bcb bfb); clear gb))
        all_goals go_wp2_with fail
        all_goals go_meet
        all_goals (
          refine ⟨_, xa, xc, ya, yc, W.heap.size, wa.heap.size, wb.heap.size, rfl, ?c0, ?c1, ?c2, ?c3, fun j => ?fz, ⟨Nat.le_refl _, hwa, ?s1, ?s2, kx, ky⟩, ?ox, ?oy, ?bel⟩
          case c0 => first | (go_simp; done) | (with_reducible refine set4_at0 _ _ _ _ _ _ ?_; go_simp; done)
          case c1 => first | (go_simp; done) | (with_reducible refine set4_at1 _ _ _ _ _ _ ?_; go_simp; done)
          case c2 => first | (go_simp; done) | (with_reducible refine set4_at2 _ _ _ _ _ _ ?_; go_simp; done)
          case c3 => first | (go_simp; done) | (with_reducible refine set4_at3 _ _ _ _ _ _ ?_; go_simp; done)
          case fz => go_simp
          case s1 => omega
          case s2 => first | omega | (simp; done) | (simp; omega)
          case ox => first | with_reducible exact RW.allocR ox (by omega) _ | with_reducible exact RW.set4R ox (by omega) (by omega) _ _ _ _
          case oy => first | with_reducible exact RW.allocR oy (by omega) _ | with_reducible exact RW.set4R oy (by omega) (by omega) _ _ _ _
          case bel => exact q4_bel (by with_reducible assumption))
      case rest =>
        obtain ⟨P, xa, xc, ya, yc, X1, X2, X3, rfl, c0, c1, c2, c3, cf, ⟨k1, k2, k3, k4, kx, ky⟩, ox, oy, hWc⟩ := hcut
        obtain ⟨wq, rfl⟩ : ∃ x, x = wc := ⟨wc, rfl⟩
        have lP : P < wq.heap.size := World.block_lt_of_cell? _ _ c0
        have M2 := M1.below hWc
        have hown2 := ownsMap_below hown1 hWc (Nat.le_refl _)
        have bkq : Bk wq.drew P M (ss.length : Int) ss.length (bk ss ss.length) := ⟨lP, c0, c1, cf, hown2⟩
        have HQ := hide bkq
        have HX := hide (RW.loc.below (Below.refl wq.heap.size wq).drew ox)
        have HY := hide (RW.loc.below (Below.refl wq.heap.size wq).drew oy)
        have HM2 := hide M2
        have kW := HWs.out
        have r0 := M2.cell 2 rfl
        have r1 := M2.cell 3 rfl
        have r2 := M2.cell 4 rfl
        have r3 := M2.cell 5 rfl
        have f0 := M2.fz 2 rfl
        have f1 := M2.fz 3 rfl
        have f2 := M2.fz 4 rfl
        have f3 := M2.fz 5 rfl
        clear M1 M2 hown1 hown2 bkq ox oy hWc s1 s2 q0 q1 q2 q3 HWs
        go_wp2_with fail
        go_region_with (first
          | (go_at_call 77; refine (fault_calls P M _ ss _ xa ya tn xc dn yc ts ds _ HQ.out (good_of Hr.out) (rep_bk Hr.out) c2 c3 HX.out.1.sl HY.out.1.sl (by omega) (by omega)).mono ?_; rintro e w3 ⟨rfl, g3⟩; have h3 : Below wq.heap.size wq w3 := ((Below.refl wq.heap.size wq).drew).trans g3; have d0 := (h3.cell (p := ⟨P, 0, none⟩) lP).trans c0; have d1 := (h3.cell (p := ⟨P, 1, none⟩) lP).trans c1; have d2 := (h3.cell (p := ⟨P, 2, none⟩) lP).trans c2; have d3 := (h3.cell (p := ⟨P, 3, none⟩) lP).trans c3; have M3 := HM2.out.below h3; have u0 := M3.cell 2 rfl; have u1 := M3.cell 3 rfl; have u2 := M3.cell 4 rfl; have u3 := M3.cell 5 rfl; have v0 := M3.fz 2 rfl; have v1 := M3.fz 3 rfl; have v2 := M3.fz 4 rfl; have v3 := M3.fz 5 rfl; have HB3 := hide M3.bel; have HL : Hid (Led3 (w.heap.size + 1 + 1) (some M) ss xa tn xc ts ya dn yc ds w3) := ⟨M, X1, X2, X3, rfl, by omega, by omega, k2, k3, by have := h3.size; omega, ownsMap_below HQ.out.own g3 (Nat.le_refl _), RW.loc.below g3 HX.out, RW.loc.below g3 HY.out⟩; clear g3 h3 M3))
        all_goals go_wp2
        all_goals refine bodyPost_ret (v := .tuple #[.agg #[.int .i64 (ss.length : Int), .map (some M), .slice xa tn xc, .slice ya dn yc], .int .i64 (ledF ss ts ds)]) (by simp [results, Try.results39, go_sem, u0, u1, u2, u3]) rfl (OT3.mk (ss.length : Int) (some M) xa tn xc ya dn yc (by rw [HF.out]) ?_ (fun _ => ⟨rfl, ⟨kx, ky⟩, ?_⟩))
        all_goals first | exact (((HB3.out.setCell (by simp) _).setCell (by simp) _).setCell (by simp) _).setCell (by simp) _ | exact ((((HL.out.setCell (by simp) _).setCell (by simp) _).setCell (by simp) _).setCell (by simp) _).mono (by omega)
  · have er : (faultR ss != 0) = true := by simp [hr]
    have HF := hide (tabF_bad (ts := ts) (ds := ds) hr)
    have Hr := hide hr
    clear hr
    go_enter Try.func39, Try.ntmps39
    go_wp2_with fail
    refine (openRegistry_calls a _ c ss _ hn hss).mono ?_
    rintro e w1 ⟨sz, mo, rfl, g1, _⟩
    have M1 := (M0.below g1).alloc2 (.int .i64 sz) (.map mo) 78
    have r0 := M1.cell 2 rfl
    have r1 := M1.cell 3 rfl
    have r2 := M1.cell 4 rfl
    have r3 := M1.cell 5 rfl
    have f0 := M1.fz 2 rfl
    have f1 := M1.fz 3 rfl
    have f2 := M1.fz 4 rfl
    have f3 := M1.fz 5 rfl
    have HB := hide M1.bel
    clear M0 M1 g1 hss hts hds
    go_wp2
    refine bodyPost_ret (v := .tuple #[.agg #[.int .i64 0, .map none, .slice none 0 0, .slice none 0 0], .int .i64 (faultR ss)]) (by simp [results, Try.results39, go_sem, r0, r1, r2, r3]) rfl (OT3.mk 0 none none 0 0 none 0 0 (by rw [HF.out]) ?_ (fun h => absurd (HF.out.symm.trans h) Hr.out))
    exact (((HB.out.setCell (by simp) _).setCell (by simp) _).setCell (by simp) _).setCell (by simp) _

end Go.Proofs.Ytgkjmeogdomgmaa
