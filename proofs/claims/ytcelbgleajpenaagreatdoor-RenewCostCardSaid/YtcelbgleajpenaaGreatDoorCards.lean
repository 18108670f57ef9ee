/-
  DERIVED. GIVEN WITH THE SEED: THE CARDS: each row of YtcelbgleajpenaaGreatDoorRows.lean that lists a variable, with what it lists TIED to the program's text (the seventh form; the later family's looks); each row that meets fmt, with fmt's text TOLD by the authors' own Lean function (tested against real Go, not proved from fmt's source: count such statements apart). THE CARD IS WHAT COUNTS. Prove the row's statement (the work); the ties are given (YtcelbgleajpenaaGreatDoorTie.lean); close each card by the builder's one call (the guide's Derived/Test/ToyasCard.lean, 'card_holds'). Laid BY PROGRAM, IN A SANDBOX (cutbox-door.mjs). By AI agents, Wed Nov 11 2026. No macro, syntax, notation, axiom, sorry.
-/
import Derived.Test.YtcelbgleajpenaaGreatDoorRows
import GoSem.ClaimSeven
namespace Go.Proofs.YtcelbgleajpenaaGreatDoor
namespace Rows

/-- THE TIED CARD OF 'foresightlaw.RiskChance'. -/
def riskChanceCard : Claim7 := { stood := { row := riskChanceRow, standIns := [], harness := (true, "373c16ae85f579e743a40e85d2f93b69b39aee67e913b7e4b0ecc494d631aefa"), looks := true }, kinds := [], alts := [], laidByText := true, laidKinds := [.data, .data, .data, .handle], laidTests := true, laidLooks := .later }
def RiskChanceCardSaid : Prop := Claim7.holds Tryz.pinned (.plain (OpenSpec.ofChange riskChanceSpec)) riskChanceCard

/-- THE TIED CARD OF 'foresightlaw.RiskCounts'. -/
def riskCountsCard : Claim7 := { stood := { row := riskCountsRow, standIns := [], harness := (true, "373c16ae85f579e743a40e85d2f93b69b39aee67e913b7e4b0ecc494d631aefa"), looks := true }, kinds := [], alts := [], laidByText := true, laidKinds := [.data, .data, .data, .handle], laidTests := true, laidLooks := .later }
def RiskCountsCardSaid : Prop := Claim7.holds Tryz.pinned (.plain (OpenSpec.ofChange riskCountsSpec)) riskCountsCard

/-- THE TIED CARD OF 'foresightlaw.RiskRow'. -/
def riskRowCard : Claim7 := { stood := { row := riskRowRow, standIns := [], harness := (true, "373c16ae85f579e743a40e85d2f93b69b39aee67e913b7e4b0ecc494d631aefa"), looks := true }, kinds := [], alts := [], laidByText := true, laidKinds := [.data, .data, .data, .handle], laidTests := true, laidLooks := .later }
def RiskRowCardSaid : Prop := Claim7.holds Tryz.pinned (.plain (OpenSpec.ofChange riskRowSpec)) riskRowCard

/-- THE TIED CARD OF 'foresightlaw.RenewComes'. -/
def renewComesCard : Claim7 := { stood := { row := renewComesRow, standIns := [], harness := (true, "373c16ae85f579e743a40e85d2f93b69b39aee67e913b7e4b0ecc494d631aefa"), looks := true }, kinds := [], alts := [], laidByText := true, laidKinds := [.data, .data, .data, .handle], laidTests := true, laidLooks := .later }
def RenewComesCardSaid : Prop := Claim7.holds Tryz.pinned (.plain (OpenSpec.ofChange renewComesSpec)) renewComesCard

/-- THE TIED CARD OF 'foresightlaw.RenewLeft'. -/
def renewLeftCard : Claim7 := { stood := { row := renewLeftRow, standIns := [], harness := (true, "373c16ae85f579e743a40e85d2f93b69b39aee67e913b7e4b0ecc494d631aefa"), looks := true }, kinds := [], alts := [], laidByText := true, laidKinds := [.data, .data, .data, .handle], laidTests := true, laidLooks := .later }
def RenewLeftCardSaid : Prop := Claim7.holds Tryz.pinned (.plain (OpenSpec.ofChange renewLeftSpec)) renewLeftCard

/-- THE TIED CARD OF 'foresightlaw.RenewCost'. -/
def renewCostCard : Claim7 := { stood := { row := renewCostRow, standIns := [], harness := (true, "373c16ae85f579e743a40e85d2f93b69b39aee67e913b7e4b0ecc494d631aefa"), looks := true }, kinds := [], alts := [], laidByText := true, laidKinds := [.data, .data, .data, .handle], laidTests := true, laidLooks := .later }
def RenewCostCardSaid : Prop := Claim7.holds Tryz.pinned (.plain (OpenSpec.ofChange renewCostSpec)) renewCostCard

/-- THE SECOND FORM's CARD OF 'foresightlaw.RiskChance'. -/
def riskChanceUptoCard : Claim7 := { stood := { row := riskChanceUptoRow, standIns := [], harness := (true, "373c16ae85f579e743a40e85d2f93b69b39aee67e913b7e4b0ecc494d631aefa"), looks := true }, kinds := [], alts := [], laidByText := true, laidKinds := [.data, .data, .data, .handle], laidTests := true, laidLooks := .later }
def RiskChanceUptoCardSaid : Prop := Claim7.holds Tryz.pinned (.plain (OpenSpec.upto riskChanceSpec)) riskChanceUptoCard

/-- THE SECOND FORM's CARD OF 'foresightlaw.RiskCounts'. -/
def riskCountsUptoCard : Claim7 := { stood := { row := riskCountsUptoRow, standIns := [], harness := (true, "373c16ae85f579e743a40e85d2f93b69b39aee67e913b7e4b0ecc494d631aefa"), looks := true }, kinds := [], alts := [], laidByText := true, laidKinds := [.data, .data, .data, .handle], laidTests := true, laidLooks := .later }
def RiskCountsUptoCardSaid : Prop := Claim7.holds Tryz.pinned (.plain (OpenSpec.upto riskCountsSpec)) riskCountsUptoCard

/-- THE SECOND FORM's CARD OF 'foresightlaw.RiskRow'. -/
def riskRowUptoCard : Claim7 := { stood := { row := riskRowUptoRow, standIns := [], harness := (true, "373c16ae85f579e743a40e85d2f93b69b39aee67e913b7e4b0ecc494d631aefa"), looks := true }, kinds := [], alts := [], laidByText := true, laidKinds := [.data, .data, .data, .handle], laidTests := true, laidLooks := .later }
def RiskRowUptoCardSaid : Prop := Claim7.holds Tryz.pinned (.plain (OpenSpec.upto riskRowSpec)) riskRowUptoCard

/-- THE SECOND FORM's CARD OF 'foresightlaw.RenewComes'. -/
def renewComesUptoCard : Claim7 := { stood := { row := renewComesUptoRow, standIns := [], harness := (true, "373c16ae85f579e743a40e85d2f93b69b39aee67e913b7e4b0ecc494d631aefa"), looks := true }, kinds := [], alts := [], laidByText := true, laidKinds := [.data, .data, .data, .handle], laidTests := true, laidLooks := .later }
def RenewComesUptoCardSaid : Prop := Claim7.holds Tryz.pinned (.plain (OpenSpec.upto renewComesSpec)) renewComesUptoCard

/-- THE SECOND FORM's CARD OF 'foresightlaw.RenewLeft'. -/
def renewLeftUptoCard : Claim7 := { stood := { row := renewLeftUptoRow, standIns := [], harness := (true, "373c16ae85f579e743a40e85d2f93b69b39aee67e913b7e4b0ecc494d631aefa"), looks := true }, kinds := [], alts := [], laidByText := true, laidKinds := [.data, .data, .data, .handle], laidTests := true, laidLooks := .later }
def RenewLeftUptoCardSaid : Prop := Claim7.holds Tryz.pinned (.plain (OpenSpec.upto renewLeftSpec)) renewLeftUptoCard

/-- THE SECOND FORM's CARD OF 'foresightlaw.RenewCost'. -/
def renewCostUptoCard : Claim7 := { stood := { row := renewCostUptoRow, standIns := [], harness := (true, "373c16ae85f579e743a40e85d2f93b69b39aee67e913b7e4b0ecc494d631aefa"), looks := true }, kinds := [], alts := [], laidByText := true, laidKinds := [.data, .data, .data, .handle], laidTests := true, laidLooks := .later }
def RenewCostUptoCardSaid : Prop := Claim7.holds Tryz.pinned (.plain (OpenSpec.upto renewCostSpec)) renewCostUptoCard
end Rows
end Go.Proofs.YtcelbgleajpenaaGreatDoor
