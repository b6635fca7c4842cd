/-
  PROVED: for every code (a slice of bytes) that FnLabels is called with, the call returns true, and each argument reads afterwards as it read before.
  CONDITIONS: none beyond the row's own (no cell narrows it).
-/
import Derived.Test.YtknnahchhbobbaaDoorFnLb
import Derived.Test.YtknnahchhbobbaaDoorTie
import Derived.Test.YtknnahchhbobbaaDoorCards
import Derived.ChangeSlices
import Derived.LaidMore
import Derived.Stop.Joined
import Derived.Lib.LaidTab
import Derived.ChangeVars
import Derived.WalkSmall
import Derived.SevenTiedAt
import Derived.WalkKit
import Derived.ProofKit
import Derived.OpenShut
import Derived.ShutString
import Derived.ChangeOld
import Derived.Below
import Derived.WalkSpells
import Derived.Deep.QuietTactic
import Derived.BigQuiet
import Derived.Deep.RegionWith
import Derived.Deep.WholeRow
import Derived.Deep.DeepCutAuto
import Derived.Deep.RegionHeld2
import Derived.Deep.AppendLies
import Derived.Deep.RegionLaw
namespace Go.Proofs.YtknnahchhbobbaaDoor
open Go.ChangeShapes Go.WideShapes Go.ChangeAt Go.RowKit



theorem own : ownKnob Tryd.prog.godebug = none := by kernel_rfl

theorem laidOut : laidOutB Tryd.prog = true := by kernel_rfl

theorem sg_of_tab {W : World} (h : Go.Lib.TabIs Tryd.prog W "loop.example/g00530/impl.signs" .u8 sgs) : Sg W := by
  have k := fun i hi => h.cell (g := 0) (by kernel_rfl) i hi
  exact ⟨World.block_lt_of_cell? _ _ (k 0 (by decide)), fun j hj => k j hj⟩

theorem walk_FnLabels (a : Option Addr) (len cap : Nat) (w : World) (hl : len ≤ maxLen) (hc : len ≤ 1048576 → Cd w a len) (hsg : Sg w) :
    Calls Tryd.prog 3 #[.slice a len cap] w fun e w' => e = .returned (.bool true) ∧ Below w.heap.size w w' := by
  by_cases h : len ≤ 1048576
  · exact labels_small a len cap w (hc h) hsg
  · exact labels_big a len cap w hl (by omega)

theorem open_code {H : Type} {enc : TypeId × Value → H} {P : Program} {w : World} {t e : TypeId} {a : Option Addr} {len cap fuel : Nat} {x : DataW H × List MemPlace}
    (hsl : P.underlying t = some (.slice e)) (he : P.underlying e = some (.int .u8)) (hce : P.cellsOf e = 1)
    (h : DataW.trod enc P w 0 (fun _ => true) true fuel t (Value.slice a len cap).cells.toList = some x) : len ≤ maxLen ∧ (len ≤ 1048576 → Cd w a len) := by
  rcases open_ints hsl he hce h with ⟨hcs, _⟩ | ⟨y, l, c', zs, hcs, _, hl, hm, hz, _, hcell, hwf⟩
  · simp [Value.cells] at hcs
    obtain ⟨rfl, rfl, rfl⟩ := hcs
    exact ⟨Nat.zero_le _, fun _ => ⟨by omega, fun h => by omega⟩⟩
  · simp [Value.cells] at hcs
    obtain ⟨rfl, rfl, rfl⟩ := hcs
    simp at hz
    refine ⟨by omega, fun hsm => ⟨hsm, fun hp => ?_⟩⟩
    obtain ⟨b, off, spot⟩ := y
    have hc0 := hcell 0 (by omega)
    have hspot : spot = none := by simpa [Addr.add] using World.cell?_spot hc0
    subst hspot
    refine ⟨b, off, rfl, World.block_lt_of_cell? _ _ hc0, fun i hi => ?_⟩
    have hadd : (Addr.mk b off none).add i = ⟨b, off + i, none⟩ := by cases i <;> simp [Addr.add]
    have hci := hcell i (by omega)
    rw [hadd] at hci
    have hil : i < zs.length := by omega
    have hge : zs.getD i 0 = zs[i] := by simp [List.getD, hil]
    have hw := hwf (zs.getD i 0) (by rw [hge]; exact List.getElem_mem hil)
    have hb : 0 ≤ zs.getD i 0 ∧ zs.getD i 0 ≤ 255 := by simpa [Lit.wf, IntKind.min, IntKind.max, IntKind.signed, IntKind.bits] using hw
    exact ⟨_, hb.1, hb.2, hci⟩

theorem gVar : Tryd.prog.globalNamed "loop.example/g00530/impl.signs" = some 0 := by kernel_rfl

theorem tVar : (Tryd.prog.globals[0]?).map (·.type) = some 61 := by kernel_rfl

theorem door_met (os : Os) (args : Array Value) : laidMetH Tryd.prog [("loop.example/g00530/impl.signs", Rows.laid_loop_example_g00530_impl_signs)] ((World.doorLaid Tryd.prog 400 os).forCall (fun _ _ => 0) ⟨#[], args, []⟩).memory :=
  laidMetH_of_parts3 (fuel := 8) (laidMet_of_run' 8 (by kernel_rfl) (by kernel_rfl)) (by kernel_rfl) (by kernel_rfl)

theorem var_of_laid {W : World} (h : laidMetH Tryd.prog [("loop.example/g00530/impl.signs", Rows.laid_loop_example_g00530_impl_signs)] W) : Go.Lib.TabIs Tryd.prog W "loop.example/g00530/impl.signs" .u8 sgs := by
  rw [MakeChecks.laidMetH_plain _ _ _ (by kernel_rfl)] at h
  exact Go.Lib.tabIs_of_head (zs := sgs) gVar tVar Tryd.underlying61 Tryd.underlying5 (by kernel_rfl) (by kernel_rfl) h

theorem reads_var {H : Type} (enc : TypeId × Value → H) (W : World) (sp : Nat → Bool) : DataW.trod enc Tryd.prog W 0 sp true 3 61 (sgs.map fun z => Value.int .u8 z).toArray.toList = some (Rows.laid_loop_example_g00530_impl_signs, []) := by kernel_rfl

set_option maxRecDepth 100000 in
theorem lifted_FnLabels (os : Os) (started : os.Started) (H : Type) (enc : TypeId × Value → H) :
    ReturnsInHanded {} Tryd.checked os 3 .any (fun w args => (Rows.fnLabelsSpec.pre enc Tryd.prog Tryd.f3 [] false w args ∧ laidMetH Tryd.prog [("loop.example/g00530/impl.signs", Rows.laid_loop_example_g00530_impl_signs)] w) ∧ sizedMet enc Tryd.prog Tryd.f3 (OpenSpec.ofChange Rows.fnLabelsSpec) false w args)
      (Rows.fnLabelsSpec.post enc Tryd.prog Tryd.f3 false true false false) := by
  refine returnsInHanded_of_change_and (C := Tryd.checked) (X := fun w _ => laidMetH Tryd.prog [("loop.example/g00530/impl.signs", Rows.laid_loop_example_g00530_impl_signs)] w) (fun _ _ _ hh h => h.of_heap hh) own started (by kernel_rfl) Tryd.func3
    (ChangeSpec.witness_shaped (enc := enc) (C := Tryd.checked) (os := os) (X := fun w _ => laidMetH Tryd.prog [("loop.example/g00530/impl.signs", Rows.laid_loop_example_g00530_impl_signs)] w) false (World.doorLaid Tryd.prog 400 os) #[.slice none 0 0] 8 rfl (World.shaped_of_RefB (by kernel_rfl) (by kernel_rfl)) (by kernel_rfl) (by kernel_rfl) (by kernel_rfl) (door_met os _)) ?_
  intro W base args ds gs before hval0 hW _ _ hL _
  have hval : ∀ (j : Nat) t v, Tryd.f3.params[j]? = some t → args[j]? = some v → Value.okWide Tryd.prog W .any base t v := hval0
  have hW' := hW
  obtain ⟨p, q, hA0, hV0, rfl, hfz, hnd⟩ := hW
  have hA : DataW.TrodAll enc Tryd.prog W 0 (fun _ => true) true Tryd.f3.params.toList args.toList ds p := hA0
  have hV : DataW.TrodVars enc Tryd.prog W (fun _ => true) ["loop.example/g00530/impl.signs"] gs q := hV0
  rw [Tryd.params3] at hA hval
  obtain ⟨v0, vs0, d0, ds0, p0, q0, hargs, rfl, rfl, h0, r0⟩ := trodAll_cons hA
  obtain ⟨rfl, rfl, rfl⟩ := trodAll_nil r0
  obtain rfl : args = #[v0] := by cases args; simp_all
  obtain ⟨g, t, cs, fuel, dv, pv, rfl, hg, ht, hvar, hd, rfl⟩ := trodVars_one hV
  obtain rfl := Option.some.inj (gVar.symm.trans hg)
  obtain rfl := Option.some.inj (tVar.symm.trans ht)
  have hvi := var_of_laid hL
  obtain rfl : cs = (sgs.map fun z => Value.int .u8 z).toArray := Option.some.inj (hvar.symm.trans hvi)
  obtain ⟨rfl, rfl⟩ := DataW.Trod.unique (v := .agg (sgs.map fun z => Value.int .u8 z).toArray) ⟨fuel, hd⟩ ⟨3, reads_var enc W _⟩
  have k0 := h0
  have lt0 : ∀ x ∈ p0, x.block < W.heap.size := by obtain ⟨m, hm⟩ := k0; exact DataW.trod_lt m _ _ _ hm
  obtain ⟨a0, l0, c0, rfl⟩ := okWide_slice Tryd.underlying22 (hval 0 22 v0 rfl rfl)
  obtain ⟨hm0, hs0⟩ : l0 ≤ maxLen ∧ (l0 ≤ 1048576 → Cd W a0 l0) := by
    obtain ⟨fuel, hf⟩ := h0
    exact open_code Tryd.underlying22 Tryd.underlying5 (by kernel_rfl) hf
  clear hA0 hval0 hV0
  refine (walk_FnLabels a0 l0 c0 W hm0 hs0 (sg_of_tab hvi)).mono fun e W' ⟨he, bel⟩ => ?_
  subst he
  have hv' := var?_below bel hg (World.block_lt_of_cell? _ _ (World.var?_cell hg hvar 0)) hvar
  exact ⟨_, rfl, _, _, _, [], _, _, hW', trodAll_mk1 (shut_bool Tryd.underlying4 _), (trodAll_cons_mk (Below.trod laidOut (by kernel_rfl) (of_decide_eq_true (by kernel_rfl)) k0 bel lt0) trodAll_mk0), trodVars_mk1 hg ht hv' (reads_var enc W' _), bel.frame _, fun h => by cases h⟩

theorem fnLabels_row : Rows.FnLabelsSaid :=
  OpenClaim.holds_of_wide 3 Tryd.f3 rfl rfl rfl rfl rfl rfl rfl ⟨rfl, rfl, rfl, rfl, rfl⟩ rfl rfl rfl rfl rfl (by kernel_rfl) Tryd.func3 (by kernel_rfl)
    (of_decide_eq_true (by kernel_rfl)) (by unfold Func.isWrapper; first | (rw [if_pos (by decide +kernel)]; kernel_rfl) | (rw [if_neg (by decide +kernel)]; exact ⟨rfl, rfl⟩))
    (fun os started H enc _ => lifted_FnLabels os started H enc)

theorem fnLabelsCard_holds : Rows.FnLabelsCardSaid :=
  Claim7.holds_tied_plain_at .later [] [.data] true (true, "16fe66692cf8c7d480d46626851b6423059dcb8ae4739e765566c5e2a167e79d") false
    fnLabels_row (fun _ h => by cases h) (by kernel_rfl) (fun _ h => by cases h) fnLabels_row_tie rfl ⟨rfl, rfl⟩ (by kernel_rfl) rfl
    (fun f fn hf hfn => by
      obtain rfl : f = 3 := Option.some.inj ((show Tryd.prog.funcNamed "loop.example/g00530/laws.FnLabels" = some 3 by kernel_rfl).symm.trans hf) |>.symm
      obtain rfl : fn = Tryd.f3 := (Option.some.inj (Tryd.func3.symm.trans hfn)).symm
      exact ⟨by kernel_rfl, fun j t ht => by
        rw [Tryd.params3] at ht
        have hm : t ∈ [22] := by simpa using Array.mem_of_getElem? ht
        have hall : ([22].all fun u => !Tryd.prog.wantsStandIn u) = true := by kernel_rfl
        exact (show Tryd.prog.wantsStandIn t = false by simpa using List.all_eq_true.1 hall t hm)⟩)
    (by kernel_rfl)
#print axioms fnLabelsCard_holds

end Go.Proofs.YtknnahchhbobbaaDoor
