/-
  DERIVED. GIVEN WITH THE SEED: THE CARDS: each row of YtkpcomfmfpnbiaaDoorRows.lean that lists a variable, with what it lists TIED to the program's text (the seventh form; the later family's looks); each row that meets fmt, with fmt's text TOLD by the authors' own Lean function (tested against real Go, not proved from fmt's source: count such statements apart). THE CARD IS WHAT COUNTS. Prove the row's statement (the work); the ties are given (YtkpcomfmfpnbiaaDoorTie.lean); close each card by the builder's one call (the guide's Derived/Test/ToyasCard.lean, 'card_holds'). Laid BY PROGRAM, IN A SANDBOX (cutbox-door.mjs). By AI agents, Wed Nov 11 2026. No macro, syntax, notation, axiom, sorry.
-/
import Derived.Test.YtkpcomfmfpnbiaaDoorRows
import GoSem.ClaimSeven
namespace Go.Proofs.YtkpcomfmfpnbiaaDoor
namespace Rows

/-- THE TIED CARD OF 'laws.FnInsts'. -/
def fnInstsCard : Claim7 := { stood := { row := fnInstsRow, standIns := [], harness := (true, "a0c11bd5b234afa7e39d6c9deb9c13045e3c46908995e49ce3d90a89d8d80de5"), looks := false }, kinds := [], alts := [], laidByText := true, laidKinds := [.data, .data, .data, .data], laidTests := true, laidLooks := .later }
def FnInstsCardSaid : Prop := Claim7.holds Tryd.pinned (.plain (OpenSpec.ofChange fnInstsSpec)) fnInstsCard

/-- THE TIED CARD OF 'laws.FnExactInstText'. -/
def fnExactInstTextCard : Claim7 := { stood := { row := fnExactInstTextRow, standIns := [], harness := (true, "a0c11bd5b234afa7e39d6c9deb9c13045e3c46908995e49ce3d90a89d8d80de5"), looks := false }, kinds := [], alts := [], laidByText := true, laidKinds := [.data, .data, .data, .data], laidTests := true, laidLooks := .later }
def FnExactInstTextCardSaid : Prop := Claim7.holds Tryd.pinned (.plain (OpenSpec.ofChange fnExactInstTextSpec)) fnExactInstTextCard

/-- THE TIED CARD OF 'laws.FnExactParseInst'. -/
def fnExactParseInstCard : Claim7 := { stood := { row := fnExactParseInstRow, standIns := [], harness := (true, "a0c11bd5b234afa7e39d6c9deb9c13045e3c46908995e49ce3d90a89d8d80de5"), looks := false }, kinds := [], alts := [], laidByText := true, laidKinds := [.data], laidTests := true, laidLooks := .later }
def FnExactParseInstCardSaid : Prop := Claim7.holds Tryd.pinned (.plain (OpenSpec.ofChange fnExactParseInstSpec)) fnExactParseInstCard

/-- THE SECOND FORM's CARD OF 'laws.FnInsts'. -/
def fnInstsUptoCard : Claim7 := { stood := { row := fnInstsUptoRow, standIns := [], harness := (true, "a0c11bd5b234afa7e39d6c9deb9c13045e3c46908995e49ce3d90a89d8d80de5"), looks := false }, kinds := [], alts := [], laidByText := true, laidKinds := [.data, .data, .data, .data], laidTests := true, laidLooks := .later }
def FnInstsUptoCardSaid : Prop := Claim7.holds Tryd.pinned (.plain (OpenSpec.upto fnInstsSpec)) fnInstsUptoCard

/-- THE SECOND FORM's CARD OF 'laws.FnExactInstText'. -/
def fnExactInstTextUptoCard : Claim7 := { stood := { row := fnExactInstTextUptoRow, standIns := [], harness := (true, "a0c11bd5b234afa7e39d6c9deb9c13045e3c46908995e49ce3d90a89d8d80de5"), looks := false }, kinds := [], alts := [], laidByText := true, laidKinds := [.data, .data, .data, .data], laidTests := true, laidLooks := .later }
def FnExactInstTextUptoCardSaid : Prop := Claim7.holds Tryd.pinned (.plain (OpenSpec.upto fnExactInstTextSpec)) fnExactInstTextUptoCard

/-- THE SECOND FORM's CARD OF 'laws.FnExactParseInst'. -/
def fnExactParseInstUptoCard : Claim7 := { stood := { row := fnExactParseInstUptoRow, standIns := [], harness := (true, "a0c11bd5b234afa7e39d6c9deb9c13045e3c46908995e49ce3d90a89d8d80de5"), looks := false }, kinds := [], alts := [], laidByText := true, laidKinds := [.data], laidTests := true, laidLooks := .later }
def FnExactParseInstUptoCardSaid : Prop := Claim7.holds Tryd.pinned (.plain (OpenSpec.upto fnExactParseInstSpec)) fnExactParseInstUptoCard
end Rows
end Go.Proofs.YtkpcomfmfpnbiaaDoor
