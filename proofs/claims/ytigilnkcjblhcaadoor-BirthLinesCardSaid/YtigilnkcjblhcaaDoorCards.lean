/-
  DERIVED. GIVEN WITH THE SEED: THE CARDS: each row of YtigilnkcjblhcaaDoorRows.lean that lists a variable, with what it lists TIED to the program's text (the seventh form; the later family's looks); each row that meets fmt, with fmt's text TOLD by the authors' own Lean function (tested against real Go, not proved from fmt's source: count such statements apart). THE CARD IS WHAT COUNTS. Prove the row's statement (the work); the ties are given (YtigilnkcjblhcaaDoorTie.lean); close each card by the builder's one call (the guide's Derived/Test/ToyasCard.lean, 'card_holds'). Laid BY PROGRAM, IN A SANDBOX (cutbox-door.mjs). By AI agents, Wed Nov 11 2026. No macro, syntax, notation, axiom, sorry.
-/
import Derived.Test.YtigilnkcjblhcaaDoorRows
import GoSem.ClaimSeven
namespace Go.Proofs.YtigilnkcjblhcaaDoor
namespace Rows

/-- THE TIED CARD OF 'foresightkeep.BirthCuts'. -/
def birthCutsCard : Claim7 := { stood := { row := birthCutsRow, standIns := [], harness := (true, "1796d5348d1452668250c9c71391af23eed0ce65e307fe34999705ee50781e4b"), looks := false }, kinds := [], alts := [], laidByText := true, laidKinds := [.data, .data, .data], laidTests := true, laidLooks := .later }
def BirthCutsCardSaid : Prop := Claim7.holds Tryd.pinned (.plain (OpenSpec.ofChange birthCutsSpec)) birthCutsCard

/-- THE TIED CARD OF 'foresightkeep.BirthErlang'. -/
def birthErlangCard : Claim7 := { stood := { row := birthErlangRow, standIns := [], harness := (true, "1796d5348d1452668250c9c71391af23eed0ce65e307fe34999705ee50781e4b"), looks := false }, kinds := [], alts := [], laidByText := true, laidKinds := [.data, .data, .data], laidTests := true, laidLooks := .later }
def BirthErlangCardSaid : Prop := Claim7.holds Tryd.pinned (.plain (OpenSpec.ofChange birthErlangSpec)) birthErlangCard

/-- THE TIED CARD OF 'foresightkeep.BirthLines'. -/
def birthLinesCard : Claim7 := { stood := { row := birthLinesRow, standIns := [], harness := (true, "1796d5348d1452668250c9c71391af23eed0ce65e307fe34999705ee50781e4b"), looks := false }, kinds := [], alts := [], laidByText := true, laidKinds := [.data, .data, .data], laidTests := true, laidLooks := .later }
def BirthLinesCardSaid : Prop := Claim7.holds Tryd.pinned (.plain (OpenSpec.ofChange birthLinesSpec)) birthLinesCard

/-- THE SECOND FORM's CARD OF 'foresightkeep.BirthCuts'. -/
def birthCutsUptoCard : Claim7 := { stood := { row := birthCutsUptoRow, standIns := [], harness := (true, "1796d5348d1452668250c9c71391af23eed0ce65e307fe34999705ee50781e4b"), looks := false }, kinds := [], alts := [], laidByText := true, laidKinds := [.data, .data, .data], laidTests := true, laidLooks := .later }
def BirthCutsUptoCardSaid : Prop := Claim7.holds Tryd.pinned (.plain (OpenSpec.upto birthCutsSpec)) birthCutsUptoCard

/-- THE SECOND FORM's CARD OF 'foresightkeep.BirthErlang'. -/
def birthErlangUptoCard : Claim7 := { stood := { row := birthErlangUptoRow, standIns := [], harness := (true, "1796d5348d1452668250c9c71391af23eed0ce65e307fe34999705ee50781e4b"), looks := false }, kinds := [], alts := [], laidByText := true, laidKinds := [.data, .data, .data], laidTests := true, laidLooks := .later }
def BirthErlangUptoCardSaid : Prop := Claim7.holds Tryd.pinned (.plain (OpenSpec.upto birthErlangSpec)) birthErlangUptoCard

/-- THE SECOND FORM's CARD OF 'foresightkeep.BirthLines'. -/
def birthLinesUptoCard : Claim7 := { stood := { row := birthLinesUptoRow, standIns := [], harness := (true, "1796d5348d1452668250c9c71391af23eed0ce65e307fe34999705ee50781e4b"), looks := false }, kinds := [], alts := [], laidByText := true, laidKinds := [.data, .data, .data], laidTests := true, laidLooks := .later }
def BirthLinesUptoCardSaid : Prop := Claim7.holds Tryd.pinned (.plain (OpenSpec.upto birthLinesSpec)) birthLinesUptoCard
end Rows
end Go.Proofs.YtigilnkcjblhcaaDoor
