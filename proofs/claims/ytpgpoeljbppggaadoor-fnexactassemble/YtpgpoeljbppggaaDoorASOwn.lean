/-
  PROVED: for every slice of texts that FnExactAssemble is called with, the call returns true, and each argument reads afterwards as it read before.
  CONDITIONS: none beyond the row's own (no cell narrows it).
-/
import Derived.Test.YtpgpoeljbppggaaDoorASLaw
import Derived.Test.YtpgpoeljbppggaaDoorTie
import Derived.Test.YtpgpoeljbppggaaDoorCards
import Derived.ChangeMaps5
import Derived.LaidMore
import Derived.Stop.Joined
import Derived.Lib.LaidTab
import Derived.ChangeVars
import Derived.WalkSmall
import Derived.SevenTiedAt
import Derived.WalkKit
import Derived.ProofKit
import Derived.OpenShut
import Derived.ShutString
import Derived.ChangeOld
import Derived.Below
import Derived.WalkSpells
import Derived.Deep.QuietTactic
import Derived.BigQuiet
import Derived.Deep.RegionWith
import Derived.Deep.WholeRow
import Derived.Deep.DeepCutAuto
import Derived.Deep.RegionHeld2
import Derived.Deep.AppendLies
import Derived.Deep.RegionLaw
namespace Go.Proofs.YtpgpoeljbppggaaDoor
open Go.ChangeShapes Go.WideShapes Go.ChangeAt Go.RowKit



theorem own : ownKnob Tryd.prog.godebug = none := by kernel_rfl

theorem laidOut : laidOutB Tryd.prog = true := by kernel_rfl

/-- an array of texts that reads as these holds just these. -/
theorem cells_of_strs {H : Type} {enc : TypeId × Value → H} {P : Program} {w : World} {base : Nat} {sp : Nat → Bool} {held : Bool} {fuel : Nat} {t e : TypeId} {n : Nat} {cs : List Value} {ss : List ByteArray} {p : List MemPlace}
    (ht : P.underlying t = some (.array n e)) (he : P.underlying e = some .string) (hce : P.cellsOf e = 1) (hct : P.cellsOf t = n)
    (h : DataW.trod enc P w base sp held fuel t cs = some (.agg (ss.map fun s => .lit (.string s.data.toList)), p)) : cs = ss.map Value.string := by
  obtain ⟨xs, m, rfl, hx, hlen, hn, hel⟩ := DataW.trod_array ht h
  have hxs : ss.map (fun s => (DataW.lit (.string s.data.toList) : DataW H)) = xs.map (·.1) := by
    have := congrArg Prod.fst hx
    simpa using this
  have hsl : ss.length = n := by have := congrArg List.length hxs; simp at this; omega
  apply List.ext_getElem?
  intro i
  by_cases hi : i < n
  · have h0 := hel i hi
    rw [hce, List.getElem?_eq_getElem (by omega)] at h0
    obtain ⟨s, hc, hy, _⟩ := DataW.trod_string he h0
    have h1 : cs[i]? = some (.string s) := by
      have := congrArg (·[0]?) hc
      simpa [List.getElem?_take, List.getElem?_drop] using this
    have h2 : (ss.map (fun s => (DataW.lit (.string s.data.toList) : DataW H)))[i]? = some (.lit (.string s.data.toList)) := by
      rw [hxs, List.getElem?_map, List.getElem?_eq_getElem (by omega), hy]
      rfl
    rw [List.getElem?_map, List.getElem?_eq_getElem (by omega : i < ss.length)] at h2
    simp only [Option.map_some, Option.some.injEq, DataW.lit.injEq, Lit.string.injEq] at h2
    have h3 : ss[i] = s := by
      cases hs : ss[i] with
      | mk d => cases s with
        | mk d' => rw [hs] at h2; congr 1; exact Array.toList_inj.1 h2
    rw [h1, List.getElem?_map, List.getElem?_eq_getElem (by omega : i < ss.length), h3]
    rfl
  · rw [List.getElem?_eq_none (by omega), List.getElem?_eq_none (by simp; omega)]

theorem words_of {W : World} {g : Nat} {t : TypeId} {cs : Array Value} {f : Nat} {p : List MemPlace} (hg0 : Tryd.prog.globalNamed "loop.example/g00530/impl.kindWords" = some 0) (ht0 : (Tryd.prog.globals[0]?).map (·.type) = some 61)
    (hg : Tryd.prog.globalNamed "loop.example/g00530/impl.kindWords" = some g) (ht : (Tryd.prog.globals[g]?).map (·.type) = some t) (hv : W.var? Tryd.prog "loop.example/g00530/impl.kindWords" = some cs)
    (hd : DataW.trod (fun _ => ()) Tryd.prog W 0 (fun _ => true) false f t cs.toList = some (Rows.laid_loop_example_g00530_impl_kindWords, p)) : W.var? Tryd.prog "loop.example/g00530/impl.kindWords" = some (kws.map Value.string).toArray := by
  obtain rfl := Option.some.inj (hg0.symm.trans hg)
  obtain rfl := Option.some.inj (ht0.symm.trans ht)
  have := cells_of_strs (ss := kws) Tryd.underlying61 Tryd.underlying9 (by kernel_rfl) (by kernel_rfl) hd
  rw [hv, ← this]

theorem kw_of_var {W : World} (h : W.var? Tryd.prog "loop.example/g00530/impl.kindWords" = some (kws.map Value.string).toArray) : Kw W := by
  have k := fun i => World.var?_cell (g := 0) (by kernel_rfl) h i
  have e : ∀ j, j < 16 → ((kws.map Value.string).toArray)[j]? = some (Value.string (kws.getD j ⟨#[]⟩)) := by
    intro j hj
    have hl : j < kws.length := hj
    simp [List.getD, hl]
  refine ⟨World.block_lt_of_cell? _ _ ((k 0).trans (e 0 (by omega))), fun j hj => (k j).trans (e j hj)⟩

theorem gVar : Tryd.prog.globalNamed "loop.example/g00530/impl.kindWords" = some 0 := by kernel_rfl

theorem tVar : (Tryd.prog.globals[0]?).map (·.type) = some 61 := by kernel_rfl

theorem door_met (os : Os) (args : Array Value) : laidMetH Tryd.prog [("loop.example/g00530/impl.kindWords", Rows.laid_loop_example_g00530_impl_kindWords)] ((World.doorLaid Tryd.prog 400 os).forCall (fun _ _ => 0) ⟨#[], args, []⟩).memory :=
  laidMetH_of_parts3 (fuel := 8) (laidMet_of_run' 8 (by kernel_rfl) (by kernel_rfl)) (by kernel_rfl) (by kernel_rfl)

theorem var_of_laid {W : World} (h : laidMetH Tryd.prog [("loop.example/g00530/impl.kindWords", Rows.laid_loop_example_g00530_impl_kindWords)] W) : W.var? Tryd.prog "loop.example/g00530/impl.kindWords" = some (kws.map Value.string).toArray := by
  rw [MakeChecks.laidMetH_plain _ _ _ (by kernel_rfl)] at h
  obtain ⟨ps, ⟨g, t, cs, f, p, q, hg, ht, hv, hd, _, _⟩, _, _⟩ := h
  exact words_of gVar tVar hg ht hv hd

theorem reads_var {H : Type} (enc : TypeId × Value → H) (W : World) (sp : Nat → Bool) : DataW.trod enc Tryd.prog W 0 sp true 3 61 (kws.map Value.string).toArray.toList = some (Rows.laid_loop_example_g00530_impl_kindWords, []) := by kernel_rfl

set_option maxRecDepth 100000 in
theorem lifted_Assemble (os : Os) (started : os.Started) (H : Type) (enc : TypeId × Value → H) :
    ReturnsInHanded {} Tryd.checked os 5 .any (fun w args => (Rows.fnExactAssembleSpec.pre enc Tryd.prog Tryd.f5 [] false w args ∧ laidMetH Tryd.prog [("loop.example/g00530/impl.kindWords", Rows.laid_loop_example_g00530_impl_kindWords)] w) ∧ sizedMet enc Tryd.prog Tryd.f5 (OpenSpec.ofChange Rows.fnExactAssembleSpec) false w args)
      (Rows.fnExactAssembleSpec.post enc Tryd.prog Tryd.f5 false true false false) := by
  refine returnsInHanded_of_change_and (C := Tryd.checked) (X := fun w _ => laidMetH Tryd.prog [("loop.example/g00530/impl.kindWords", Rows.laid_loop_example_g00530_impl_kindWords)] w) (fun _ _ _ hh h => h.of_heap hh) own started (by kernel_rfl) Tryd.func5
    (ChangeSpec.witness_shaped (enc := enc) (C := Tryd.checked) (os := os) (X := fun w _ => laidMetH Tryd.prog [("loop.example/g00530/impl.kindWords", Rows.laid_loop_example_g00530_impl_kindWords)] w) false (World.doorLaid Tryd.prog 400 os) #[.slice none 0 0] 8 rfl (World.shaped_of_RefB (by kernel_rfl) (by kernel_rfl)) (by kernel_rfl) (by kernel_rfl) (by kernel_rfl) (door_met os _)) ?_
  intro W base args ds gs before hval0 hW _ _ hL _
  have hval : ∀ (j : Nat) t v, Tryd.f5.params[j]? = some t → args[j]? = some v → Value.okWide Tryd.prog W .any base t v := hval0
  have hW' := hW
  obtain ⟨p, q, hA0, hV0, rfl, hfz, hnd⟩ := hW
  have hA : DataW.TrodAll enc Tryd.prog W 0 (fun _ => true) true Tryd.f5.params.toList args.toList ds p := hA0
  have hV : DataW.TrodVars enc Tryd.prog W (fun _ => true) ["loop.example/g00530/impl.kindWords"] gs q := hV0
  rw [Tryd.params5] at hA hval
  obtain ⟨v0, vs0, d0, ds0, p0, q0, hargs, rfl, rfl, h0, r0⟩ := trodAll_cons hA
  obtain ⟨rfl, rfl, rfl⟩ := trodAll_nil r0
  obtain rfl : args = #[v0] := by cases args; simp_all
  obtain ⟨g, t, cs, fuel, dv, pv, rfl, hg, ht, hvar, hd, rfl⟩ := trodVars_one hV
  obtain rfl := Option.some.inj (gVar.symm.trans hg)
  obtain rfl := Option.some.inj (tVar.symm.trans ht)
  have hvi := var_of_laid hL
  obtain rfl : cs = (kws.map Value.string).toArray := Option.some.inj (hvar.symm.trans hvi)
  obtain ⟨rfl, rfl⟩ := DataW.Trod.unique (v := .agg (kws.map Value.string).toArray) ⟨fuel, hd⟩ ⟨3, reads_var enc W _⟩
  have k0 := h0
  have lt0 : ∀ x ∈ p0, x.block < W.heap.size := by obtain ⟨m, hm⟩ := k0; exact DataW.trod_lt m _ _ _ hm
  obtain ⟨a0, l0, c0, z0, rfl, hm0, hb0, hs0⟩ := open_sts Tryd.underlying38 Tryd.underlying9 (by kernel_rfl) (hval 0 38 v0 rfl rfl) h0
  clear hA0 hval0 hV0
  refine (walk_Assemble a0 l0 c0 z0 W hm0 hb0 hs0 (kw_of_var hvi)).mono fun e W' ⟨he, bel⟩ => ?_
  subst he
  have hv' := var?_below bel hg (World.block_lt_of_cell? _ _ (World.var?_cell hg hvar 0)) hvar
  exact ⟨_, rfl, _, _, _, [], _, _, hW', trodAll_mk1 (shut_bool Tryd.underlying4 _), (trodAll_cons_mk (Below.trod laidOut (by kernel_rfl) (of_decide_eq_true (by kernel_rfl)) k0 bel lt0) trodAll_mk0), trodVars_mk1 hg ht hv' (reads_var enc W' _), bel.frame _, fun h => by cases h⟩

theorem fnExactAssemble_row : Rows.FnExactAssembleSaid :=
  OpenClaim.holds_of_wide 5 Tryd.f5 rfl rfl rfl rfl rfl rfl rfl ⟨rfl, rfl, rfl, rfl, rfl⟩ rfl rfl rfl rfl rfl (by kernel_rfl) Tryd.func5 (by kernel_rfl)
    (of_decide_eq_true (by kernel_rfl)) (by unfold Func.isWrapper; first | (rw [if_pos (by decide +kernel)]; kernel_rfl) | (rw [if_neg (by decide +kernel)]; exact ⟨rfl, rfl⟩))
    (fun os started H enc _ => lifted_Assemble os started H enc)

theorem fnExactAssembleCard_holds : Rows.FnExactAssembleCardSaid :=
  Claim7.holds_tied_plain_at .later [] [.data] true (true, "6e15b94f01b44ad4f0c75dd42c270785c204c87c5e00253b481da90c4d510b9a") false
    fnExactAssemble_row (fun _ h => by cases h) (by kernel_rfl) (fun _ h => by cases h) fnExactAssemble_row_tie rfl ⟨rfl, rfl⟩ (by kernel_rfl) rfl
    (fun f fn hf hfn => by
      obtain rfl : f = 5 := Option.some.inj ((show Tryd.prog.funcNamed "loop.example/g00530/laws.FnExactAssemble" = some 5 by kernel_rfl).symm.trans hf) |>.symm
      obtain rfl : fn = Tryd.f5 := (Option.some.inj (Tryd.func5.symm.trans hfn)).symm
      exact ⟨by kernel_rfl, fun j t ht => by
        rw [Tryd.params5] at ht
        have hm : t ∈ [38] := by simpa using Array.mem_of_getElem? ht
        have hall : ([38].all fun u => !Tryd.prog.wantsStandIn u) = true := by kernel_rfl
        exact (show Tryd.prog.wantsStandIn t = false by simpa using List.all_eq_true.1 hall t hm)⟩)
    (by kernel_rfl)
#print axioms fnExactAssembleCard_holds

end Go.Proofs.YtpgpoeljbppggaaDoor
