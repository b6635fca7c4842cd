import Derived.Test.YtnlkigjgloeonaaGreatL3Fault
import Derived.WalkKit
import Derived.ProofKit
import Derived.OpenShut
import Derived.ShutString
import Derived.ChangeOld
import Derived.Below
import Derived.WalkSpells
import Derived.Deep.QuietTactic
import Derived.BigQuiet
import Derived.Deep.RegionWith
import Derived.Deep.WholeRow
import Derived.Deep.DeepCutAuto
import Derived.Deep.RegionHeld2
import Derived.Deep.AppendLies
import Derived.Deep.RegionLaw
namespace Go.Proofs.YtnlkigjgloeonaaGreat
open Go.ChangeShapes Go.WideShapes Go.ChangeAt Go.RowKit

set_option maxRecDepth 100000 in
theorem implTablesFault_calls (a : Option Addr) (n ca : Nat) (ss : List (Int × List Int)) (ta : Option Addr) (tl tc : Nat) (ts : List Int) (da : Option Addr) (dl dc : Nat) (ds : List Int) (w : World) (hrt : RT w a n ss ta tl ts da dl ds) :
    Calls Tryz.prog 82 #[.agg #[.slice a n ca, .slice ta tl tc, .slice da dl dc]] w fun e w' => e = .returned (.int .i64 (tabF ss ts ds)) ∧ Below w.heap.size w w' := by
  have M0 := (Mm.start w).alloc3 (.slice a n ca) (.slice ta tl tc) (.slice da dl dc) 54
  go_enter Tryz.func82, Tryz.ntmps82
  go_wp2_with fail
  refine (openTables_calls a n ca ss ta tl tc ts da dl dc ds _ (hrt.below M0.bel (Nat.le_refl _))).mono ?_
  rintro e w1 ⟨sz, mo, xa, xn, xc, ya, yn, yc, rfl, g1, _⟩
  have HE := hide (M0.below g1).bel
  clear g1 M0
  go_wp2
  go_ret
  exact ⟨rfl, HE.out.alloc HE.out.size _⟩

end Go.Proofs.YtnlkigjgloeonaaGreat
