import Derived.Test.YtjahlhibgnbkgaaRows
import Derived.Test.YtjahlhibgnbkgaaDraw0
import Derived.WalkKit
import Derived.ProofKit
import Derived.OpenShut
import Derived.ShutString
import Derived.ChangeOld
import Derived.Below
import Derived.WalkSpells
import Derived.Deep.QuietTactic
import Derived.BigQuiet
import Derived.Deep.RegionWith
import Derived.Deep.WholeRow
import Derived.Deep.DeepCutAuto
import Derived.Deep.RegionHeld2
import Derived.Deep.AppendLies
import Derived.Deep.RegionLaw
namespace Go.Proofs.Ytjahlhibgnbkgaa
open Go.ChangeShapes Go.WideShapes Go.ChangeAt Go.RowKit

theorem mod_nn {x n : Int} (hn : 1 ≤ n) : 0 ≤ x % n := Int.emod_nonneg _ (by omega)

theorem mod_lt {x n : Int} (hn : 1 ≤ n) : x % n < n := Int.emod_lt_of_pos _ (by omega)

set_option maxRecDepth 100000 in
set_option maxHeartbeats 1000000 in
theorem l1Next_calls (p : Nat) (a : Option Addr) (len cap t : Nat) (n : Int) (w : World) (h1 : 1 ≤ n) (h2 : n ≤ 200) (ht : t ≤ 1000000) (hs : Src w p a len cap t) :
    Calls Try.prog 66 #[.pointer (some ⟨p, 0, none⟩), .int .i64 n] w fun e w' => ∃ r : Int, e = .returned (.int .i64 r) ∧ 0 ≤ r ∧ r < n ∧ Src w' p a len cap (t + 1) ∧ Outside p (p + 1) w w' := by
  have st := hs.step
  have so : Outside p (p + 1) w (w.setCell ⟨p, 1, none⟩ (.int .i64 ((t : Int) + 1))) := (Outside.refl _ _ _).setCell (Nat.le_refl _) (Nat.lt_succ_self _) _
  obtain ⟨hp, hc0, hc1, hf1, hl, hb⟩ := hs
  have sc1 := st.2.2.1
  have sc0 := st.2.1
  have HST := hide st
  clear st
  have hn1 : ¬ n < 1 := by omega
  have hn2 : ¬ 200 < n := by omega
  by_cases h0 : len = 0
  · subst h0
    go_enter Try.func66, Try.ntmps66
    go_wp2
    go_ret
    exact ⟨_, rfl, mod_nn h1, mod_lt h1, HST.out, so⟩
  · have h0' : ((len : Int) == 0) = false := by simp; omega
    obtain ⟨b, off, rfl, hbp, hcb⟩ := hb (by omega)
    obtain ⟨v, v0, v1, hv⟩ := hcb (t % len) (Nat.mod_lt _ (by omega))
    have hvs : (w.setCell ⟨p, 1, none⟩ (.int .i64 ((t : Int) + 1))).cell? ⟨b, off + t % len, none⟩ = some (.int .u8 v) := by
      rw [World.cell?_setCell_other _ _ _ _ (fun e => by injection e with e1; omega)]; exact hv
    have hlp : (0 : Int) < (len : Int) := by omega
    have hm0 : 0 ≤ (t : Int) % (len : Int) := Int.emod_nonneg _ (by omega)
    have hm1 : (t : Int) % (len : Int) < (len : Int) := Int.emod_lt_of_pos _ hlp
    have hme : t % len = ((t : Int) % (len : Int)).toNat := by omega
    rw [hme] at hvs
    have htm : (t : Int).tmod (len : Int) = (t : Int) % (len : Int) := Int.tmod_eq_emod_of_nonneg (by omega)
    have htd : (t : Int).tdiv (len : Int) = (t : Int) / (len : Int) := Int.tdiv_eq_ediv_of_nonneg (by omega)
    have hq0 : 0 ≤ (t : Int) / (len : Int) := Int.ediv_nonneg (by omega) (by omega)
    have hq1 : (t : Int) / (len : Int) ≤ 1000000 := Int.le_trans (Int.ediv_le_self _ (by omega)) (by omega)
    clear hcb hb hv hme
    go_enter Try.func66, Try.ntmps66
    go_wp2_with fail
    go_quiet (fail)
    go_wp2
    go_ret
    exact ⟨_, rfl, mod_nn h1, mod_lt h1, src_drewN HST.out _, outside_drewN so _⟩

set_option maxRecDepth 100000 in
theorem l1Chance_calls (p : Nat) (a : Option Addr) (len cap t : Nat) (n : Int) (w : World) (h1 : 1 ≤ n) (h2 : n ≤ 200) (ht : t ≤ 1000000) (hs : Src w p a len cap t) :
    Calls Try.prog 43 #[.pointer (some ⟨p, 0, none⟩), .int .i64 n] w fun e w' => ∃ r : Bool, e = .returned (.bool r) ∧ Src w' p a len cap (t + 1) ∧ Outside p (p + 1) w w' := by
  go_enter Try.func43, Try.ntmps43
  go_wp2_with fail
  refine (l1Next_calls p a len cap t n _ h1 h2 ht hs).mono ?_
  rintro e w1 ⟨r, rfl, _, _, s1, o1⟩
  go_wp2
  go_ret
  exact ⟨_, rfl, s1, o1⟩

set_option maxRecDepth 100000 in
theorem l1Pick_calls (p : Nat) (a : Option Addr) (len cap t : Nat) (g m mc : Nat) (zs : List Int) (w : World) (hm1 : 1 ≤ m) (hm2 : m ≤ 200) (ht : t ≤ 1000000) (hs : Src w p a len cap t) (hg : p < g) (hgs : g < w.heap.size) (hz : zs.length = m)
    (hc : ∀ i, i < m → w.cell? ⟨g, i, none⟩ = some (.int .i64 (gt zs i))) :
    Calls Try.prog 85 #[.pointer (some ⟨p, 0, none⟩), .slice (some ⟨g, 0, none⟩) m mc] w fun e w' => ∃ r : Int, e = .returned (.int .i64 r) ∧ Src w' p a len cap (t + 1) ∧ Outside p (p + 1) w w' := by
  go_enter Try.func85, Try.ntmps85
  go_wp2_with fail
  refine (l1Next_calls p a len cap t (m : Int) _ (by omega) (by omega) ht hs).mono ?_
  rintro e w1 ⟨r, rfl, r0, r1, s1, o1⟩
  have hcr : w1.cell? ⟨g, r.toNat, none⟩ = some (.int .i64 (gt zs r.toNat)) := (World.cell?_of_block (a := ⟨g, r.toNat, none⟩) (o1.block g hgs (.inr hg))).trans (hc r.toNat (by omega))
  go_wp2
  go_ret
  exact ⟨_, rfl, s1, o1⟩

end Go.Proofs.Ytjahlhibgnbkgaa
