import Derived.Test.YtnlkigjgloeonaaGreatSep
import Derived.Test.YtnlkigjgloeonaaGreatApp
import Derived.WalkKit
import Derived.ProofKit
import Derived.OpenShut
import Derived.ShutString
import Derived.ChangeOld
import Derived.Below
import Derived.WalkSpells
import Derived.Deep.QuietTactic
import Derived.BigQuiet
import Derived.Deep.RegionWith
import Derived.Deep.WholeRow
import Derived.Deep.DeepCutAuto
import Derived.Deep.RegionHeld2
import Derived.Deep.AppendLies
import Derived.Deep.RegionLaw
namespace Go.Proofs.YtnlkigjgloeonaaGreat
open Go.ChangeShapes Go.WideShapes Go.ChangeAt Go.RowKit

set_option maxRecDepth 100000 in
set_option maxHeartbeats 1000000 in
theorem clone_calls (a : Option Addr) (n cap : Nat) (zs : List Int) (w : World) (hn : n ≤ 1048576) (hs : Sl w a n zs) :
    Calls Tryz.prog 96 #[.slice a n cap] w fun e w' => ∃ ra rc, e = .returned (.slice ra n rc) ∧ OS (InR w.heap.size w'.heap.size) ra n zs w' ∧ Below w.heap.size w w' := by
  obtain ⟨hlen, hs⟩ := hs
  obtain ⟨i0, hi, hz0, hz1, hz2⟩ := info_parts info2
  have hnil := fun (u : World) (x : Option Addr) (m c : Nat) => Lib.run_eql_slice_nil (P := Tryz.prog) u 25 2 x m c 0 0 Tryz.underlying25
  have hb0 := fun o1 => (Below.refl w.heap.size w).alloc (Nat.le_refl _) o1
  by_cases hp : 0 < n
  · obtain ⟨b, off, rfl, hb, hc⟩ := hs hp
    have hown := World.ownsRow_lit (base := w.heap.size) (e := 2) (size := 1) w #[] 0 (Nat.le_refl _) (Nat.zero_le _) rfl
    have hnews := ints_at_sl (w := w.alloc (.cells #[] 2)) (b := b) (off := off) (zs := zs) (fun i hi => ((hb0 _).cell (p := ⟨b, off + i, none⟩) hb).trans (hc i (by omega)))
    have HO := hide hown
    have HN := hide hnews
    have hm1 : 0 + n ≤ maxLen := by unfold maxLen; omega
    have hm2 : (0 + n) * 8 ≤ 140737488355328 := by omega
    have hl1 : (zs.map (Value.int .i64)).length = n * 1 := by simp [hlen]
    have hbs : w.heap.size ≤ (w.alloc (.cells #[] 2)).heap.size := by simp
    have HL := hide hl1
    have HM1 := hide hm1
    have HM2 := hide hm2
    have HBS := hide hbs
    clear hown hnews hs hc hl1 hm1 hm2 hbs
    go_enter Tryz.func96, Tryz.ntmps96
    go_wp2_with (first
      | (at_builtin; refine wpList_append_own _ rfl _ _ 25 rfl w.heap.size 2 i0 (.int .i64 0) 1 8 Tryz.underlying25 hi hz0 hz1 hz2 rfl (by decide) _ 0 [] rfl HO.out ⟨b, off, none⟩ n cap (zs.map (Value.int .i64)) rfl HL.out HN.out ints_one HM1.out HM2.out HBS.out ?_)
      | go_in)
    intro v' w1 hown' hgrow _
    have hown2 : w1.ownsRow w.heap.size 2 1 v' n (zs.map (Value.int .i64)) := by simpa using hown'
    obtain ⟨ra, rc, rfl, fr⟩ := owns_osl hn hown2
    have h1 : Below w.heap.size w w1 := (hb0 _).grown hgrow (by simp) (fun k hk => by simp [Value.ownBlock] at hk; omega)
    have HFR := hide (OS.ofOSl fr)
    have HB1 := hide h1
    clear HO HN hown' hown2 hgrow hb0 fr h1
    go_wp2
    go_ret
    exact ⟨ra, rc, rfl, HFR.out, HB1.out⟩
  · have h0 : n = 0 := by omega
    subst h0
    cases a
    · go_enter Tryz.func96, Tryz.ntmps96
      go_wp2
      go_ret
      exact ⟨_, 0, rfl, ⟨hlen, by omega, .inl rfl⟩, Below.refl _ _⟩
    · go_enter Tryz.func96, Tryz.ntmps96
      go_wp2
      go_ret
      exact ⟨_, 0, rfl, ⟨hlen, by omega, .inl rfl⟩, hb0 _⟩

end Go.Proofs.YtnlkigjgloeonaaGreat
