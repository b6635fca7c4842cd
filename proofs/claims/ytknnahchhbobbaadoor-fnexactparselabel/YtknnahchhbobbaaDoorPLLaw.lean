import Derived.Test.YtknnahchhbobbaaDoorParI
import Derived.Test.YtknnahchhbobbaaDoorPLRes
import Derived.WalkKit
import Derived.ProofKit
import Derived.OpenShut
import Derived.ShutString
import Derived.ChangeOld
import Derived.Below
import Derived.WalkSpells
import Derived.Deep.QuietTactic
import Derived.BigQuiet
import Derived.Deep.RegionWith
import Derived.Deep.WholeRow
import Derived.Deep.DeepCutAuto
import Derived.Deep.RegionHeld2
import Derived.Deep.AppendLies
import Derived.Deep.RegionLaw
namespace Go.Proofs.YtknnahchhbobbaaDoor
open Go.ChangeShapes Go.WideShapes Go.ChangeAt Go.RowKit

set_option maxRecDepth 100000 in
theorem law_big_ParseLabel (s : ByteArray) (w : World) (hl : s.size ≤ maxLen) (hbig : 1048576 < s.size) :
    Calls Tryd.prog 5 #[.string s] w fun e w' => e = .returned (.bool true) ∧ Below w.heap.size w w' := by
  unfold maxLen at hl
  have hb : (1048576 : Int) < (s.size : Int) := by omega
  go_enter Tryd.func5, Tryd.ntmps5
  go_wp2
  go_ret
  exact ⟨rfl, Below.refl _ _⟩

set_option maxRecDepth 100000 in
set_option maxHeartbeats 4000000 in
theorem law_small_ParseLabel (s : ByteArray) (w : World) (hs : s.size ≤ 1048576) (hsg : Sg w) :
    Calls Tryd.prog 5 #[.string s] w fun e w' => e = .returned (.bool true) ∧ Below w.heap.size w w' := by
  have hb : ¬ ((1048576 : Int) < (s.size : Int)) := by omega
  have M0 := Mm.start w
  go_enter Tryd.func5, Tryd.ntmps5
  go_wp2_with fail
  refine (specParseLabel_calls s _ hs).mono ?_
  rintro e w1 ⟨va, vn, vc, rfl, ov, g1⟩
  have z1 := g1.size
  have M1 := ((M0.below g1).fact OS.loc ov).alloc2 (.int .i64 (plC s)) (.slice va vn vc) 29
  clear M0 g1 ov
  go_wp2_with fail
  refine (implParseLabel_calls s _ hs (hsg.below M1.bel)).mono ?_
  rintro e w2 ⟨ra, rn, rc, rfl, or, g2⟩
  have z2 := g2.size
  simp only [World.size_alloc] at z2 or
  have M2 := ((M1.below g2).fact OS.loc or).alloc2 (.int .i64 (plC s)) (.slice ra rn rc) 29
  clear M1 g2 or
  have c0 := M2.cell 0 rfl
  have c1 := M2.cell 1 rfl
  have d0 := M2.cell 2 rfl
  have d1 := M2.cell 3 rfl
  have hrn : rn ≤ 1048576 := (M2.get 0 rfl).2.1
  go_wp2_with fail
  refine (eqLR_O (plC s) ra va rn vn rc vc (plR s) _ hrn (M2.get 0 rfl).sl (M2.get 1 rfl).sl).mono ?_
  rintro e w3 ⟨rfl, g3⟩
  have M3 := M2.below g3
  have z3 := g3.size
  simp only [World.size_alloc] at z3
  clear M2 g3 c0 c1 d0 d1
  have c0 := M3.cell 0 rfl
  have c1 := M3.cell 1 rfl
  go_wp2_with fail
  refine (markLR_O _ (plC s) ra rn rc _ 1 _ (by omega) (by omega) (M3.get 0 rfl)).mono ?_
  rintro e w4 ⟨rfl, om, u4⟩
  have z4 := u4.size
  have M4 := (((M3.sub (cs' := [(w2.heap.size, 0, .int .i64 (plC s)), (w2.heap.size, 1, .slice ra rn rc), (w1.heap.size, 0, .int .i64 (plC s)), (w1.heap.size, 1, .slice va vn vc)]) (fs' := [(w.heap.size, w1.heap.size, OS (InR w.heap.size w1.heap.size) va vn (plR s))]) (fun _ h => h) (fun _ h => List.mem_cons_of_mem _ h)).out u4 (by omega) (by simp <;> omega) (by simp)).fact OS.loc om)
  clear M3 u4 om c0 c1
  have c0 := M4.cell 0 rfl
  have c1 := M4.cell 1 rfl
  go_wp2_with fail
  refine (heldLR_O (plC s) _ ra rn rc _ (M4.get 0 rfl)).mono ?_
  rintro e w5 ⟨rfl, g5⟩
  have M5 := M4.below g5
  have z5 := g5.size
  have hn0 : ¬ ((1 : Int) + (rn : Int) < 0) := by omega
  have hne : (((1 : Int) + (rn : Int)) != (1 + (rn : Int))) = false := by simp
  clear M4 g5 c0 c1
  go_wp2_with fail
  refine (implParseLabel_calls s _ hs (hsg.below M5.bel)).mono ?_
  rintro e w6 ⟨ha, hn, hc, rfl, oh, g6⟩
  have z6 := g6.size
  have M6 := ((M5.below g6).fact OS.loc oh).alloc2 (.int .i64 (plC s)) (.slice ha hn hc) 29
  clear M5 g6 oh
  have c0 := M6.cell 0 rfl
  have c1 := M6.cell 1 rfl
  have d0 := M6.cell 4 rfl
  have d1 := M6.cell 5 rfl
  have hhn : hn ≤ 1048576 := (M6.get 0 rfl).2.1
  go_wp2_with fail
  refine (eqLR_O (plC s) ha va hn vn hc vc (plR s) _ hhn (M6.get 0 rfl).sl (M6.get 2 rfl).sl).mono ?_
  rintro e w7 ⟨rfl, g7⟩
  have M7 := M6.below g7
  clear M6 g7 c0 c1 d0 d1
  have c0 := M7.cell 2 rfl
  have c1 := M7.cell 3 rfl
  go_wp2_with fail
  refine (heldLR_O (plC s) _ ra rn rc _ (M7.get 1 rfl)).mono ?_
  rintro e w8 ⟨rfl, g8⟩
  have HB := hide (M7.below g8).bel
  clear M7 g8 c0 c1
  go_wp2
  go_ret
  exact ⟨rfl, HB.out⟩

theorem walk_ParseLabel (s : ByteArray) (w : World) (hl : s.size ≤ maxLen) (hsg : Sg w) :
    Calls Tryd.prog 5 #[.string s] w fun e w' => e = .returned (.bool true) ∧ Below w.heap.size w w' := by
  by_cases h : s.size ≤ 1048576
  · exact law_small_ParseLabel s w h hsg
  · exact law_big_ParseLabel s w hl (by omega)

end Go.Proofs.YtknnahchhbobbaaDoor
