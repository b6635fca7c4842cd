import Derived.Test.YtgkjmeogdomgmaaGreatG16
import Derived.Test.YtgkjmeogdomgmaaGreatG17
import Derived.Test.YtgkjmeogdomgmaaGreatG2
import Derived.WalkKit
import Derived.ProofKit
import Derived.OpenShut
import Derived.ShutString
import Derived.ChangeOld
import Derived.Below
import Derived.WalkSpells
import Derived.Deep.QuietTactic
import Derived.BigQuiet
import Derived.Deep.RegionWith
import Derived.Deep.WholeRow
import Derived.Deep.DeepCutAuto
import Derived.Deep.RegionHeld2
import Derived.Deep.AppendLies
import Derived.Deep.RegionLaw
namespace Go.Proofs.YtgkjmeogdomgmaaGreat
open Go.ChangeShapes Go.WideShapes Go.ChangeAt Go.RowKit

set_option maxRecDepth 100000 in
set_option maxHeartbeats 1000000 in
theorem l1Ints_O (a : Option Addr) (n cap : Nat) (zs : List Int) (w : World) (hn : n ≤ 1048576) (hs : Sl w a n zs) :
    Calls Tryz.prog 60 #[.slice a n cap] w fun e w' => ∃ ra rc, e = .returned (.slice ra n rc) ∧ n ≤ rc ∧ OS (InR w.heap.size w'.heap.size) ra n zs w' ∧ Below w.heap.size w w' := by
  obtain ⟨hlen, hs⟩ := hs
  obtain ⟨i0, hi, hz0, hz1, hz2⟩ := info_parts info2
  have hb0 := fun o1 => (Below.refl w.heap.size w).alloc (Nat.le_refl _) o1
  by_cases hp : 0 < n
  · obtain ⟨b, off, rfl, hb, hc⟩ := hs hp
    have hown := World.ownsRow_lit (base := w.heap.size) (e := 2) (size := 1) w #[] 0 (Nat.le_refl _) (Nat.zero_le _) rfl
    have hnews := ints_at_sl (w := w.alloc (.cells #[] 2)) (b := b) (off := off) (zs := zs) (fun i hi => ((hb0 _).cell (p := ⟨b, off + i, none⟩) hb).trans (hc i (by omega)))
    have HO := hide hown
    have HN := hide hnews
    have hm1 : 0 + n ≤ maxLen := by unfold maxLen; omega
    have hm2 : (0 + n) * 8 ≤ 140737488355328 := by omega
    have hl1 : (zs.map (Value.int .i64)).length = n * 1 := by simp [hlen]
    have hbs : w.heap.size ≤ (w.alloc (.cells #[] 2)).heap.size := by simp
    have HL := hide hl1
    have HM1 := hide hm1
    have HM2 := hide hm2
    have HBS := hide hbs
    clear hown hnews hs hc hl1 hm1 hm2 hbs
    go_enter Tryz.func60, Tryz.ntmps60
    go_wp2_with (first
      | (at_builtin; refine wpList_append_own _ rfl _ _ 25 rfl w.heap.size 2 i0 (.int .i64 0) 1 8 Tryz.underlying25 hi hz0 hz1 hz2 rfl (by decide) _ 0 [] rfl HO.out ⟨b, off, none⟩ n cap (zs.map (Value.int .i64)) rfl HL.out HN.out ints_one HM1.out HM2.out HBS.out ?_)
      | go_in)
    intro v' w1 hown' hgrow _
    have hown2 : w1.ownsRow w.heap.size 2 1 v' n (zs.map (Value.int .i64)) := by simpa using hown'
    obtain ⟨ra, rc, rfl, fr⟩ := owns_osl hn hown2
    have hcap : n ≤ rc := by
      rcases hown2.2 with ⟨h, h0⟩ | ⟨g, cp, cur, h, _, _, hc, _⟩
      · omega
      · simp only [Value.slice.injEq] at h; omega
    have h1 : Below w.heap.size w w1 := (hb0 _).grown hgrow (by simp) (fun k hk => by simp [Value.ownBlock] at hk; omega)
    have HFR := hide (OS.ofOSl fr)
    have HB1 := hide h1
    clear HO HN hown' hown2 hgrow hb0 fr h1
    go_wp2
    go_ret
    exact ⟨ra, rc, rfl, hcap, HFR.out, HB1.out⟩
  · have h0 : n = 0 := by omega
    subst h0
    cases a
    all_goals
      go_enter Tryz.func60, Tryz.ntmps60
      go_wp2
      go_ret
      exact ⟨_, 0, rfl, by omega, ⟨hlen, by omega, .inl rfl⟩, hb0 _⟩

set_option maxRecDepth 100000 in
theorem l7CopyContext_O (a : Option Addr) (n cap : Nat) (p : Int) (h : Bool) (zs : List Int) (w : World) (hn : n ≤ 1048576) (hs : Sl w a n zs) :
    Calls Tryz.prog 58 #[.agg #[.slice a n cap, .int .i64 p, .bool h]] w fun e w' => ∃ ra rc, e = .returned (.agg #[.slice ra n rc, .int .i64 p, .bool h]) ∧ OS (InR w.heap.size w'.heap.size) ra n zs w' ∧ Below w.heap.size w w' := by
  have M0 := ((Mm.start w).alloc3 (.slice a n cap) (.int .i64 p) (.bool h) 108).alloc3 (.slice none 0 0) (.int .i64 0) (.bool false) 108
  try simp only [World.size_alloc] at M0
  have hb0 := M0.bel
  go_enter Tryz.func58, Tryz.ntmps58
  go_wp2_with fail
  refine (l1Ints_O a n cap zs _ hn (hs.below hb0 (Nat.le_refl _))).mono ?_
  rintro e w1 ⟨ra, rc, rfl, _, ho, hb⟩
  have M1 := M0.below hb
  have hz := hb.size
  simp only [World.size_alloc] at ho hz
  have c0 := M1.cell 0 rfl
  have c1 := M1.cell 1 rfl
  have c2 := M1.cell 2 rfl
  have c3 := M1.cell 3 rfl
  have c4 := M1.cell 4 rfl
  have c5 := M1.cell 5 rfl
  have f0 := M1.fz 0 rfl
  have f1 := M1.fz 1 rfl
  have f2 := M1.fz 2 rfl
  have f3 := M1.fz 3 rfl
  have HM := hide ((((M1.fact OS.loc ho).set 3 rfl (.slice ra n rc) (Nat.le_refl _) (by simp) (by simp <;> omega)).set 0 rfl (.slice ra n rc) (by simp) (by simp) (by simp <;> omega)).set 1 rfl (.int .i64 p) (by simp) (by simp) (by simp <;> omega) |>.set 2 rfl (.bool h) (by simp) (by simp) (by simp <;> omega))
  clear M0 M1 hb hb0 ho
  go_wp2
  have MM := HM.out
  have r0 := MM.cell 0 rfl
  have r1 := MM.cell 1 rfl
  have r2 := MM.cell 2 rfl
  refine bodyPost_ret (v := .agg #[.slice ra n rc, .int .i64 p, .bool h]) (by simp [results, Tryz.results58, go_sem, r0, r1, r2]) rfl ⟨ra, rc, rfl, ?_, MM.bel⟩
  exact (MM.get 0 rfl).mono (fun k hk => ⟨by have := hk.1; omega, by simpa using hk.2⟩)

set_option maxRecDepth 100000 in
set_option maxHeartbeats 1000000 in
theorem copiedContext_O (a : Option Addr) (n cap : Nat) (p : Int) (h : Bool) (zs : List Int) (w : World) (hn : n ≤ 1048576) (hs : Sl w a n zs) :
    Calls Tryz.prog 147 #[.agg #[.slice a n cap, .int .i64 p, .bool h]] w fun e w' => ∃ ra rc, e = .returned (.agg #[.slice ra n rc, .int .i64 p, .bool h]) ∧ OS (InR w.heap.size w'.heap.size) ra n zs w' ∧ Below w.heap.size w w' := by
  have M0 := ((Mm.start w).alloc3 (.slice a n cap) (.int .i64 p) (.bool h) 108).alloc3 (.slice none 0 0) (.int .i64 0) (.bool false) 108
  try simp only [World.size_alloc] at M0
  obtain ⟨W, hW⟩ : ∃ x, x = (w.alloc (.cells #[.slice a n cap, .int .i64 p, .bool h] 108)).alloc (.cells #[.slice none 0 0, .int .i64 0, .bool false] 108) := ⟨_, rfl⟩
  have hWs : W.heap.size = w.heap.size + 2 := by rw [hW]; simp
  go_enter Tryz.func147, Tryz.ntmps147
  go_upto_region 1 with fail
  rw [← hW] at M0 ⊢
  have HW := hide hW
  clear hW
  have q0 := M0.cell 3 rfl
  have q1 := M0.cell 4 rfl
  have q2 := M0.cell 5 rfl
  have u0 := M0.cell 0 rfl
  have u1 := M0.cell 1 rfl
  have u2 := M0.cell 2 rfl
  have v0 := M0.fz 0 rfl
  have v1 := M0.fz 1 rfl
  have v2 := M0.fz 2 rfl
  have lt0 : w.heap.size < W.heap.size := by omega
  have lt1 : w.heap.size + 1 < W.heap.size := by omega
  have hsW := hs.below M0.bel (Nat.le_refl _)
  go_region_with (first
    | (go_at_call 142; refine (clone_calls a n cap zs _ hn (hsW.below (Below.refl _ _).drew (Nat.le_refl _))).mono ?_; rintro e w1 ⟨ra, rc, rfl, ho, hb⟩; have M1 := M0.below ((Below.refl _ _).drew.trans hb); have hz := hb.size; have c0 := M1.cell 3 rfl; have c1 := M1.cell 4 rfl; have c2 := M1.cell 5 rfl; have d0 := M1.cell 0 rfl; have d1 := M1.cell 1 rfl; have d2 := M1.cell 2 rfl; have f0 := M1.fz 0 rfl; have f1 := M1.fz 1 rfl; have f2 := M1.fz 2 rfl; clear hb))
  all_goals (
    have HM := hide (((M1.fact OS.loc ho).set 0 rfl (.slice ra n rc) (by simp) (by simp) (by simp <;> omega)).set 1 rfl (.int .i64 p) (by simp) (by simp) (by simp <;> omega) |>.set 2 rfl (.bool h) (by simp) (by simp) (by simp <;> omega))
    have HZ := hide hz
    clear M0 M1 ho hz q0 q1 q2 u0 u1 u2 v0 v1 v2 hsW c0 c1 c2 d0 d1 d2 f0 f1 f2
    go_wp2
    have MM := HM.out
    have r0 := MM.cell 0 rfl
    have r1 := MM.cell 1 rfl
    have r2 := MM.cell 2 rfl
    have hz := HZ.out
    refine bodyPost_ret (v := .agg #[.slice ra n rc, .int .i64 p, .bool h]) (by simp [results, Tryz.results147, go_sem, r0, r1, r2]) rfl ⟨ra, rc, rfl, ?_, MM.bel⟩
    exact (MM.get 0 rfl).mono (fun k hk => ⟨by have := hk.1; simp only [World.size_drew] at this; omega, by simpa using hk.2⟩))

end Go.Proofs.YtgkjmeogdomgmaaGreat
