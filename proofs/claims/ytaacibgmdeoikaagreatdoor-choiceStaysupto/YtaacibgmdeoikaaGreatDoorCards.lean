/-
  DERIVED. GIVEN WITH THE SEED: THE CARDS: each row of YtaacibgmdeoikaaGreatDoorRows.lean that lists a variable, with what it lists TIED to the program's text (the seventh form; the later family's looks); each row that meets fmt, with fmt's text TOLD by the authors' own Lean function (tested against real Go, not proved from fmt's source: count such statements apart). THE CARD IS WHAT COUNTS. Prove the row's statement (the work); the ties are given (YtaacibgmdeoikaaGreatDoorTie.lean); close each card by the builder's one call (the guide's Derived/Test/ToyasCard.lean, 'card_holds'). Laid BY PROGRAM, IN A SANDBOX (cutbox-door.mjs). By AI agents, Wed Nov 11 2026. No macro, syntax, notation, axiom, sorry.
-/
import Derived.Test.YtaacibgmdeoikaaGreatDoorRows
import GoSem.ClaimSeven
namespace Go.Proofs.YtaacibgmdeoikaaGreatDoor
namespace Rows

/-- THE TIED CARD OF 'foresightkeep.ChoiceHoward'. -/
def choiceHowardCard : Claim7 := { stood := { row := choiceHowardRow, standIns := [], harness := (true, "f19b4a4a1e63cc13f4a70809d316619923d6c78713c97fe04c999828f25dec42"), looks := false }, kinds := [], alts := [], laidByText := true, laidKinds := [.data, .data, .data], laidTests := true, laidLooks := .later }
def ChoiceHowardCardSaid : Prop := Claim7.holds Tryz.pinned (.plain (OpenSpec.ofChange choiceHowardSpec)) choiceHowardCard

/-- THE TIED CARD OF 'foresightkeep.ChoiceContracts'. -/
def choiceContractsCard : Claim7 := { stood := { row := choiceContractsRow, standIns := [], harness := (true, "f19b4a4a1e63cc13f4a70809d316619923d6c78713c97fe04c999828f25dec42"), looks := false }, kinds := [], alts := [], laidByText := true, laidKinds := [.data, .data, .data], laidTests := true, laidLooks := .later }
def ChoiceContractsCardSaid : Prop := Claim7.holds Tryz.pinned (.plain (OpenSpec.ofChange choiceContractsSpec)) choiceContractsCard

/-- THE TIED CARD OF 'foresightkeep.ChoiceBetween'. -/
def choiceBetweenCard : Claim7 := { stood := { row := choiceBetweenRow, standIns := [], harness := (true, "f19b4a4a1e63cc13f4a70809d316619923d6c78713c97fe04c999828f25dec42"), looks := false }, kinds := [], alts := [], laidByText := true, laidKinds := [.data, .data, .data], laidTests := true, laidLooks := .later }
def ChoiceBetweenCardSaid : Prop := Claim7.holds Tryz.pinned (.plain (OpenSpec.ofChange choiceBetweenSpec)) choiceBetweenCard

/-- THE TIED CARD OF 'foresightkeep.ChoiceStays'. -/
def choiceStaysCard : Claim7 := { stood := { row := choiceStaysRow, standIns := [], harness := (true, "f19b4a4a1e63cc13f4a70809d316619923d6c78713c97fe04c999828f25dec42"), looks := false }, kinds := [], alts := [], laidByText := true, laidKinds := [.data, .data, .data], laidTests := true, laidLooks := .later }
def ChoiceStaysCardSaid : Prop := Claim7.holds Tryz.pinned (.plain (OpenSpec.ofChange choiceStaysSpec)) choiceStaysCard

/-- THE SECOND FORM's CARD OF 'foresightkeep.ChoiceHoward'. -/
def choiceHowardUptoCard : Claim7 := { stood := { row := choiceHowardUptoRow, standIns := [], harness := (true, "f19b4a4a1e63cc13f4a70809d316619923d6c78713c97fe04c999828f25dec42"), looks := false }, kinds := [], alts := [], laidByText := true, laidKinds := [.data, .data, .data], laidTests := true, laidLooks := .later }
def ChoiceHowardUptoCardSaid : Prop := Claim7.holds Tryz.pinned (.plain (OpenSpec.upto choiceHowardSpec)) choiceHowardUptoCard

/-- THE SECOND FORM's CARD OF 'foresightkeep.ChoiceContracts'. -/
def choiceContractsUptoCard : Claim7 := { stood := { row := choiceContractsUptoRow, standIns := [], harness := (true, "f19b4a4a1e63cc13f4a70809d316619923d6c78713c97fe04c999828f25dec42"), looks := false }, kinds := [], alts := [], laidByText := true, laidKinds := [.data, .data, .data], laidTests := true, laidLooks := .later }
def ChoiceContractsUptoCardSaid : Prop := Claim7.holds Tryz.pinned (.plain (OpenSpec.upto choiceContractsSpec)) choiceContractsUptoCard

/-- THE SECOND FORM's CARD OF 'foresightkeep.ChoiceBetween'. -/
def choiceBetweenUptoCard : Claim7 := { stood := { row := choiceBetweenUptoRow, standIns := [], harness := (true, "f19b4a4a1e63cc13f4a70809d316619923d6c78713c97fe04c999828f25dec42"), looks := false }, kinds := [], alts := [], laidByText := true, laidKinds := [.data, .data, .data], laidTests := true, laidLooks := .later }
def ChoiceBetweenUptoCardSaid : Prop := Claim7.holds Tryz.pinned (.plain (OpenSpec.upto choiceBetweenSpec)) choiceBetweenUptoCard

/-- THE SECOND FORM's CARD OF 'foresightkeep.ChoiceStays'. -/
def choiceStaysUptoCard : Claim7 := { stood := { row := choiceStaysUptoRow, standIns := [], harness := (true, "f19b4a4a1e63cc13f4a70809d316619923d6c78713c97fe04c999828f25dec42"), looks := false }, kinds := [], alts := [], laidByText := true, laidKinds := [.data, .data, .data], laidTests := true, laidLooks := .later }
def ChoiceStaysUptoCardSaid : Prop := Claim7.holds Tryz.pinned (.plain (OpenSpec.upto choiceStaysSpec)) choiceStaysUptoCard
end Rows
end Go.Proofs.YtaacibgmdeoikaaGreatDoor
