import Derived.Test.YtcojgmecocjnkaaGreatG45
import Derived.Test.YtcojgmecocjnkaaGreatG1
import Derived.WalkKit
import Derived.ProofKit
import Derived.OpenShut
import Derived.ShutString
import Derived.ChangeOld
import Derived.Below
import Derived.WalkSpells
import Derived.Deep.QuietTactic
import Derived.BigQuiet
import Derived.Deep.RegionWith
import Derived.Deep.WholeRow
import Derived.Deep.DeepCutAuto
import Derived.Deep.RegionHeld2
import Derived.Deep.AppendLies
import Derived.Deep.RegionLaw
namespace Go.Proofs.YtcojgmecocjnkaaGreat
open Go.ChangeShapes Go.WideShapes Go.ChangeAt Go.RowKit

set_option maxRecDepth 100000 in
theorem l5Decode_calls (x : Int) (w : World) (h0 : 0 ≤ x) (h1 : x ≤ 65535) :
    Calls Tryz.prog 81 #[.int .i64 x] w fun e w' => e = .returned (.agg #[.int .i64 (x / 4096), .int .i64 (x / 512 % 8), .int .i64 (x / 64 % 8), .int .i64 (x % 64)]) ∧ Below w.heap.size w w' := by
  have HB := hide fun o1 => (Below.refl w.heap.size w).alloc (Nat.le_refl _) o1
  go_enter Tryz.func81, Tryz.ntmps81
  go_wp2
  exact bodyPost_ret (v := .agg #[.int .i64 (x / 4096), .int .i64 (x / 512 % 8), .int .i64 (x / 64 % 8), .int .i64 (x % 64)]) (by simp [results, Tryz.results81, go_sem]) rfl ⟨rfl, HB.out _⟩

theorem CsO.of4 {I : Nat} {a b c d : Value} {w : World} (h0 : w.cell? ⟨I, 0, none⟩ = some a) (h1 : w.cell? ⟨I, 1, none⟩ = some b) (h2 : w.cell? ⟨I, 2, none⟩ = some c) (h3 : w.cell? ⟨I, 3, none⟩ = some d) : CsO I 0 [a, b, c, d] w := fun i hi => by
  simp only [List.length_cons, List.length_nil] at hi
  rcases (by omega : i = 0 ∨ i = 1 ∨ i = 2 ∨ i = 3) with rfl | rfl | rfl | rfl
  · exact h0
  · exact h1
  · exact h2
  · exact h3

theorem CsO.ofCs4 {P : Nat} {a b c d : Value} {vs : List Value} {w : World} (h : Cs P (a :: b :: c :: d :: vs) w) : CsO P 4 vs w := fun i hi => by
  have := (h.2 (i + 1 + 1 + 1 + 1) (by simp; omega)).1
  rw [show 4 + i = i + 1 + 1 + 1 + 1 by omega]
  exact this

theorem mf_val {t : Int} {ls : List (Int × Int)} (h : mfC t ls = 0) {m : Nat} (hm : m < ls.length) : 0 ≤ (gw ls m).1 ∧ (gw ls m).1 ≤ 65535 := by
  have hl := mfC_len h
  unfold mfC at h
  by_cases h1 : up t 6 = false
  · rw [if_pos h1] at h; omega
  · rw [if_neg h1, if_neg (by omega)] at h
    by_cases h2 : ls.all (okW t) = true
    · rw [List.all_eq_true] at h2
      have := h2 _ (gw_mem hm)
      unfold okW at this
      rw [Bool.and_eq_true] at this
      exact up_iff.1 this.1
    · rw [if_neg h2] at h; omega

end Go.Proofs.YtcojgmecocjnkaaGreat
