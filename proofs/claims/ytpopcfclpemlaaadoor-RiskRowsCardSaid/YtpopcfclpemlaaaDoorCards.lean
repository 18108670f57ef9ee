/-
  DERIVED. GIVEN WITH THE SEED: THE CARDS: each row of YtpopcfclpemlaaaDoorRows.lean that lists a variable, with what it lists TIED to the program's text (the seventh form; the later family's looks); each row that meets fmt, with fmt's text TOLD by the authors' own Lean function (tested against real Go, not proved from fmt's source: count such statements apart). THE CARD IS WHAT COUNTS. Prove the row's statement (the work); the ties are given (YtpopcfclpemlaaaDoorTie.lean); close each card by the builder's one call (the guide's Derived/Test/ToyasCard.lean, 'card_holds'). Laid BY PROGRAM, IN A SANDBOX (cutbox-door.mjs). By AI agents, Wed Nov 11 2026. No macro, syntax, notation, axiom, sorry.
-/
import Derived.Test.YtpopcfclpemlaaaDoorRows
import GoSem.ClaimSeven
namespace Go.Proofs.YtpopcfclpemlaaaDoor
namespace Rows

/-- THE TIED CARD OF 'foresightkeep.RiskPivots'. -/
def riskPivotsCard : Claim7 := { stood := { row := riskPivotsRow, standIns := [], harness := (true, "bfd8b085cbe0212601476b6ead4715bc5cdb8e3ee46417576194a9ee436dff44"), looks := false }, kinds := [], alts := [], laidByText := true, laidKinds := [.data, .data, .data], laidTests := true, laidLooks := .later }
def RiskPivotsCardSaid : Prop := Claim7.holds Tryd.pinned (.plain (OpenSpec.ofChange riskPivotsSpec)) riskPivotsCard

/-- THE TIED CARD OF 'foresightkeep.RiskMeets'. -/
def riskMeetsCard : Claim7 := { stood := { row := riskMeetsRow, standIns := [], harness := (true, "bfd8b085cbe0212601476b6ead4715bc5cdb8e3ee46417576194a9ee436dff44"), looks := false }, kinds := [], alts := [], laidByText := true, laidKinds := [.data, .data, .data], laidTests := true, laidLooks := .later }
def RiskMeetsCardSaid : Prop := Claim7.holds Tryd.pinned (.plain (OpenSpec.ofChange riskMeetsSpec)) riskMeetsCard

/-- THE TIED CARD OF 'foresightkeep.RiskRows'. -/
def riskRowsCard : Claim7 := { stood := { row := riskRowsRow, standIns := [], harness := (true, "bfd8b085cbe0212601476b6ead4715bc5cdb8e3ee46417576194a9ee436dff44"), looks := false }, kinds := [], alts := [], laidByText := true, laidKinds := [.data, .data, .data], laidTests := true, laidLooks := .later }
def RiskRowsCardSaid : Prop := Claim7.holds Tryd.pinned (.plain (OpenSpec.ofChange riskRowsSpec)) riskRowsCard

/-- THE TIED CARD OF 'foresightkeep.RenewEquation'. -/
def renewEquationCard : Claim7 := { stood := { row := renewEquationRow, standIns := [], harness := (true, "bfd8b085cbe0212601476b6ead4715bc5cdb8e3ee46417576194a9ee436dff44"), looks := false }, kinds := [], alts := [], laidByText := true, laidKinds := [.data, .data, .data], laidTests := true, laidLooks := .later }
def RenewEquationCardSaid : Prop := Claim7.holds Tryd.pinned (.plain (OpenSpec.ofChange renewEquationSpec)) renewEquationCard

/-- THE TIED CARD OF 'foresightkeep.RenewWaits'. -/
def renewWaitsCard : Claim7 := { stood := { row := renewWaitsRow, standIns := [], harness := (true, "bfd8b085cbe0212601476b6ead4715bc5cdb8e3ee46417576194a9ee436dff44"), looks := false }, kinds := [], alts := [], laidByText := true, laidKinds := [.data, .data, .data], laidTests := true, laidLooks := .later }
def RenewWaitsCardSaid : Prop := Claim7.holds Tryd.pinned (.plain (OpenSpec.ofChange renewWaitsSpec)) renewWaitsCard

/-- THE TIED CARD OF 'foresightkeep.RenewBest'. -/
def renewBestCard : Claim7 := { stood := { row := renewBestRow, standIns := [], harness := (true, "bfd8b085cbe0212601476b6ead4715bc5cdb8e3ee46417576194a9ee436dff44"), looks := false }, kinds := [], alts := [], laidByText := true, laidKinds := [.data, .data, .data], laidTests := true, laidLooks := .later }
def RenewBestCardSaid : Prop := Claim7.holds Tryd.pinned (.plain (OpenSpec.ofChange renewBestSpec)) renewBestCard

/-- THE SECOND FORM's CARD OF 'foresightkeep.RiskPivots'. -/
def riskPivotsUptoCard : Claim7 := { stood := { row := riskPivotsUptoRow, standIns := [], harness := (true, "bfd8b085cbe0212601476b6ead4715bc5cdb8e3ee46417576194a9ee436dff44"), looks := false }, kinds := [], alts := [], laidByText := true, laidKinds := [.data, .data, .data], laidTests := true, laidLooks := .later }
def RiskPivotsUptoCardSaid : Prop := Claim7.holds Tryd.pinned (.plain (OpenSpec.upto riskPivotsSpec)) riskPivotsUptoCard

/-- THE SECOND FORM's CARD OF 'foresightkeep.RiskMeets'. -/
def riskMeetsUptoCard : Claim7 := { stood := { row := riskMeetsUptoRow, standIns := [], harness := (true, "bfd8b085cbe0212601476b6ead4715bc5cdb8e3ee46417576194a9ee436dff44"), looks := false }, kinds := [], alts := [], laidByText := true, laidKinds := [.data, .data, .data], laidTests := true, laidLooks := .later }
def RiskMeetsUptoCardSaid : Prop := Claim7.holds Tryd.pinned (.plain (OpenSpec.upto riskMeetsSpec)) riskMeetsUptoCard

/-- THE SECOND FORM's CARD OF 'foresightkeep.RiskRows'. -/
def riskRowsUptoCard : Claim7 := { stood := { row := riskRowsUptoRow, standIns := [], harness := (true, "bfd8b085cbe0212601476b6ead4715bc5cdb8e3ee46417576194a9ee436dff44"), looks := false }, kinds := [], alts := [], laidByText := true, laidKinds := [.data, .data, .data], laidTests := true, laidLooks := .later }
def RiskRowsUptoCardSaid : Prop := Claim7.holds Tryd.pinned (.plain (OpenSpec.upto riskRowsSpec)) riskRowsUptoCard

/-- THE SECOND FORM's CARD OF 'foresightkeep.RenewEquation'. -/
def renewEquationUptoCard : Claim7 := { stood := { row := renewEquationUptoRow, standIns := [], harness := (true, "bfd8b085cbe0212601476b6ead4715bc5cdb8e3ee46417576194a9ee436dff44"), looks := false }, kinds := [], alts := [], laidByText := true, laidKinds := [.data, .data, .data], laidTests := true, laidLooks := .later }
def RenewEquationUptoCardSaid : Prop := Claim7.holds Tryd.pinned (.plain (OpenSpec.upto renewEquationSpec)) renewEquationUptoCard

/-- THE SECOND FORM's CARD OF 'foresightkeep.RenewWaits'. -/
def renewWaitsUptoCard : Claim7 := { stood := { row := renewWaitsUptoRow, standIns := [], harness := (true, "bfd8b085cbe0212601476b6ead4715bc5cdb8e3ee46417576194a9ee436dff44"), looks := false }, kinds := [], alts := [], laidByText := true, laidKinds := [.data, .data, .data], laidTests := true, laidLooks := .later }
def RenewWaitsUptoCardSaid : Prop := Claim7.holds Tryd.pinned (.plain (OpenSpec.upto renewWaitsSpec)) renewWaitsUptoCard

/-- THE SECOND FORM's CARD OF 'foresightkeep.RenewBest'. -/
def renewBestUptoCard : Claim7 := { stood := { row := renewBestUptoRow, standIns := [], harness := (true, "bfd8b085cbe0212601476b6ead4715bc5cdb8e3ee46417576194a9ee436dff44"), looks := false }, kinds := [], alts := [], laidByText := true, laidKinds := [.data, .data, .data], laidTests := true, laidLooks := .later }
def RenewBestUptoCardSaid : Prop := Claim7.holds Tryd.pinned (.plain (OpenSpec.upto renewBestSpec)) renewBestUptoCard
end Rows
end Go.Proofs.YtpopcfclpemlaaaDoor
