/-
  PROVED: for every text that FnExactParseLabel is called with, the call returns true, and each argument reads afterwards as it read before.
  CONDITIONS: none beyond the row's own (no cell narrows it).
-/
import Derived.Test.YtknnahchhbobbaaDoorPLLaw
import Derived.Test.YtknnahchhbobbaaDoorTie
import Derived.Test.YtknnahchhbobbaaDoorCards
import Derived.ChangeMaps5
import Derived.LaidMore
import Derived.Stop.Joined
import Derived.Lib.LaidTab
import Derived.ChangeVars
import Derived.WalkSmall
import Derived.SevenTiedAt
import Derived.WalkKit
import Derived.ProofKit
import Derived.OpenShut
import Derived.ShutString
import Derived.ChangeOld
import Derived.Below
import Derived.WalkSpells
import Derived.Deep.QuietTactic
import Derived.BigQuiet
import Derived.Deep.RegionWith
import Derived.Deep.WholeRow
import Derived.Deep.DeepCutAuto
import Derived.Deep.RegionHeld2
import Derived.Deep.AppendLies
import Derived.Deep.RegionLaw
namespace Go.Proofs.YtknnahchhbobbaaDoor
open Go.ChangeShapes Go.WideShapes Go.ChangeAt Go.RowKit



theorem own : ownKnob Tryd.prog.godebug = none := by kernel_rfl

theorem laidOut : laidOutB Tryd.prog = true := by kernel_rfl

theorem sg_of_tab {W : World} (h : Go.Lib.TabIs Tryd.prog W "loop.example/g00530/impl.signs" .u8 sgs) : Sg W := by
  have k := fun i hi => h.cell (g := 0) (by kernel_rfl) i hi
  exact ⟨World.block_lt_of_cell? _ _ (k 0 (by decide)), fun j hj => k j hj⟩

theorem open_str {H : Type} {enc : TypeId × Value → H} {P : Program} {w : World} {t : TypeId} {v : Value} {d : DataW H} {p : List MemPlace} {r : Reach} {b0 : Nat} (ht : P.underlying t = some .string) (hv : Value.okWide P w r b0 t v) (h : DataW.Trod enc P w 0 (fun _ => true) true t v d p) : ∃ s, v = .string s ∧ s.size ≤ maxLen := by
  obtain ⟨s, rfl, _, _, k⟩ := Go.ChangeMaps.open_string ht hv h
  exact ⟨s, rfl, k⟩

theorem gVar : Tryd.prog.globalNamed "loop.example/g00530/impl.signs" = some 0 := by kernel_rfl

theorem tVar : (Tryd.prog.globals[0]?).map (·.type) = some 61 := by kernel_rfl

theorem door_met (os : Os) (args : Array Value) : laidMetH Tryd.prog [("loop.example/g00530/impl.signs", Rows.laid_loop_example_g00530_impl_signs)] ((World.doorLaid Tryd.prog 400 os).forCall (fun _ _ => 0) ⟨#[], args, []⟩).memory :=
  laidMetH_of_parts3 (fuel := 8) (laidMet_of_run' 8 (by kernel_rfl) (by kernel_rfl)) (by kernel_rfl) (by kernel_rfl)

theorem var_of_laid {W : World} (h : laidMetH Tryd.prog [("loop.example/g00530/impl.signs", Rows.laid_loop_example_g00530_impl_signs)] W) : Go.Lib.TabIs Tryd.prog W "loop.example/g00530/impl.signs" .u8 sgs := by
  rw [MakeChecks.laidMetH_plain _ _ _ (by kernel_rfl)] at h
  exact Go.Lib.tabIs_of_head (zs := sgs) gVar tVar Tryd.underlying61 Tryd.underlying5 (by kernel_rfl) (by kernel_rfl) h

theorem reads_var {H : Type} (enc : TypeId × Value → H) (W : World) (sp : Nat → Bool) : DataW.trod enc Tryd.prog W 0 sp true 3 61 (sgs.map fun z => Value.int .u8 z).toArray.toList = some (Rows.laid_loop_example_g00530_impl_signs, []) := by kernel_rfl

set_option maxRecDepth 100000 in
theorem lifted_ParseLabel (os : Os) (started : os.Started) (H : Type) (enc : TypeId × Value → H) :
    ReturnsInHanded {} Tryd.checked os 5 .any (fun w args => (Rows.fnExactParseLabelSpec.pre enc Tryd.prog Tryd.f5 [] false w args ∧ laidMetH Tryd.prog [("loop.example/g00530/impl.signs", Rows.laid_loop_example_g00530_impl_signs)] w) ∧ sizedMet enc Tryd.prog Tryd.f5 (OpenSpec.ofChange Rows.fnExactParseLabelSpec) false w args)
      (Rows.fnExactParseLabelSpec.post enc Tryd.prog Tryd.f5 false true false false) := by
  refine returnsInHanded_of_change_and (C := Tryd.checked) (X := fun w _ => laidMetH Tryd.prog [("loop.example/g00530/impl.signs", Rows.laid_loop_example_g00530_impl_signs)] w) (fun _ _ _ hh h => h.of_heap hh) own started (by kernel_rfl) Tryd.func5
    (ChangeSpec.witness_shaped (enc := enc) (C := Tryd.checked) (os := os) (X := fun w _ => laidMetH Tryd.prog [("loop.example/g00530/impl.signs", Rows.laid_loop_example_g00530_impl_signs)] w) false (World.doorLaid Tryd.prog 400 os) #[.string ⟨#[]⟩] 8 rfl (World.shaped_of_RefB (by kernel_rfl) (by kernel_rfl)) (by kernel_rfl) (by kernel_rfl) (by kernel_rfl) (door_met os _)) ?_
  intro W base args ds gs before hval0 hW _ _ hL _
  have hval : ∀ (j : Nat) t v, Tryd.f5.params[j]? = some t → args[j]? = some v → Value.okWide Tryd.prog W .any base t v := hval0
  have hW' := hW
  obtain ⟨p, q, hA0, hV0, rfl, hfz, hnd⟩ := hW
  have hA : DataW.TrodAll enc Tryd.prog W 0 (fun _ => true) true Tryd.f5.params.toList args.toList ds p := hA0
  have hV : DataW.TrodVars enc Tryd.prog W (fun _ => true) ["loop.example/g00530/impl.signs"] gs q := hV0
  rw [Tryd.params5] at hA hval
  obtain ⟨v0, vs0, d0, ds0, p0, q0, hargs, rfl, rfl, h0, r0⟩ := trodAll_cons hA
  obtain ⟨rfl, rfl, rfl⟩ := trodAll_nil r0
  obtain rfl : args = #[v0] := by cases args; simp_all
  obtain ⟨g, t, cs, fuel, dv, pv, rfl, hg, ht, hvar, hd, rfl⟩ := trodVars_one hV
  obtain rfl := Option.some.inj (gVar.symm.trans hg)
  obtain rfl := Option.some.inj (tVar.symm.trans ht)
  have hvi := var_of_laid hL
  obtain rfl : cs = (sgs.map fun z => Value.int .u8 z).toArray := Option.some.inj (hvar.symm.trans hvi)
  obtain ⟨rfl, rfl⟩ := DataW.Trod.unique (v := .agg (sgs.map fun z => Value.int .u8 z).toArray) ⟨fuel, hd⟩ ⟨3, reads_var enc W _⟩
  have k0 := h0
  have lt0 : ∀ x ∈ p0, x.block < W.heap.size := by obtain ⟨m, hm⟩ := k0; exact DataW.trod_lt m _ _ _ hm
  obtain ⟨s0, rfl, hm0⟩ := open_str Tryd.underlying9 (hval 0 9 v0 rfl rfl) h0
  clear hA0 hval0 hV0
  refine (walk_ParseLabel s0 W hm0 (sg_of_tab hvi)).mono fun e W' ⟨he, bel⟩ => ?_
  subst he
  have hv' := var?_below bel hg (World.block_lt_of_cell? _ _ (World.var?_cell hg hvar 0)) hvar
  exact ⟨_, rfl, _, _, _, [], _, _, hW', trodAll_mk1 (shut_bool Tryd.underlying4 _), (trodAll_cons_mk (Below.trod laidOut (by kernel_rfl) (of_decide_eq_true (by kernel_rfl)) k0 bel lt0) trodAll_mk0), trodVars_mk1 hg ht hv' (reads_var enc W' _), bel.frame _, fun h => by cases h⟩

theorem fnExactParseLabel_row : Rows.FnExactParseLabelSaid :=
  OpenClaim.holds_of_wide 5 Tryd.f5 rfl rfl rfl rfl rfl rfl rfl ⟨rfl, rfl, rfl, rfl, rfl⟩ rfl rfl rfl rfl rfl (by kernel_rfl) Tryd.func5 (by kernel_rfl)
    (of_decide_eq_true (by kernel_rfl)) (by unfold Func.isWrapper; first | (rw [if_pos (by decide +kernel)]; kernel_rfl) | (rw [if_neg (by decide +kernel)]; exact ⟨rfl, rfl⟩))
    (fun os started H enc _ => lifted_ParseLabel os started H enc)

theorem fnExactParseLabelCard_holds : Rows.FnExactParseLabelCardSaid :=
  Claim7.holds_tied_plain_at .later [] [.data] true (true, "16fe66692cf8c7d480d46626851b6423059dcb8ae4739e765566c5e2a167e79d") false
    fnExactParseLabel_row (fun _ h => by cases h) (by kernel_rfl) (fun _ h => by cases h) fnExactParseLabel_row_tie rfl ⟨rfl, rfl⟩ (by kernel_rfl) rfl
    (fun f fn hf hfn => by
      obtain rfl : f = 5 := Option.some.inj ((show Tryd.prog.funcNamed "loop.example/g00530/laws.FnExactParseLabel" = some 5 by kernel_rfl).symm.trans hf) |>.symm
      obtain rfl : fn = Tryd.f5 := (Option.some.inj (Tryd.func5.symm.trans hfn)).symm
      exact ⟨by kernel_rfl, fun j t ht => by
        rw [Tryd.params5] at ht
        have hm : t ∈ [9] := by simpa using Array.mem_of_getElem? ht
        have hall : ([9].all fun u => !Tryd.prog.wantsStandIn u) = true := by kernel_rfl
        exact (show Tryd.prog.wantsStandIn t = false by simpa using List.all_eq_true.1 hall t hm)⟩)
    (by kernel_rfl)
#print axioms fnExactParseLabelCard_holds

end Go.Proofs.YtknnahchhbobbaaDoor
