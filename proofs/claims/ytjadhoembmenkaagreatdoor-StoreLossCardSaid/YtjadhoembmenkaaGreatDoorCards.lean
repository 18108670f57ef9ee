/-
  DERIVED. GIVEN WITH THE SEED: THE CARDS: each row of YtjadhoembmenkaaGreatDoorRows.lean that lists a variable, with what it lists TIED to the program's text (the seventh form; the later family's looks); each row that meets fmt, with fmt's text TOLD by the authors' own Lean function (tested against real Go, not proved from fmt's source: count such statements apart). THE CARD IS WHAT COUNTS. Prove the row's statement (the work); the ties are given (YtjadhoembmenkaaGreatDoorTie.lean); close each card by the builder's one call (the guide's Derived/Test/ToyasCard.lean, 'card_holds'). Laid BY PROGRAM, IN A SANDBOX (cutbox-door.mjs). By AI agents, Wed Nov 11 2026. No macro, syntax, notation, axiom, sorry.
-/
import Derived.Test.YtjadhoembmenkaaGreatDoorRows
import GoSem.ClaimSeven
namespace Go.Proofs.YtjadhoembmenkaaGreatDoor
namespace Rows

/-- THE TIED CARD OF 'foresightlaw.StopChosen'. -/
def stopChosenCard : Claim7 := { stood := { row := stopChosenRow, standIns := [], harness := (true, "96bd36ac647b73e2c0247b614896de88bf90ac97edb7f05364879d300f1edebc"), looks := true }, kinds := [], alts := [], laidByText := true, laidKinds := [.data, .data, .data, .handle], laidTests := true, laidLooks := .later }
def StopChosenCardSaid : Prop := Claim7.holds Tryz.pinned (.plain (OpenSpec.ofChange stopChosenSpec)) stopChosenCard

/-- THE TIED CARD OF 'foresightlaw.StoreLoss'. -/
def storeLossCard : Claim7 := { stood := { row := storeLossRow, standIns := [], harness := (true, "96bd36ac647b73e2c0247b614896de88bf90ac97edb7f05364879d300f1edebc"), looks := true }, kinds := [], alts := [], laidByText := true, laidKinds := [.data, .data, .data, .handle], laidTests := true, laidLooks := .later }
def StoreLossCardSaid : Prop := Claim7.holds Tryz.pinned (.plain (OpenSpec.ofChange storeLossSpec)) storeLossCard

/-- THE TIED CARD OF 'foresightlaw.StopSecretary'. -/
def stopSecretaryCard : Claim7 := { stood := { row := stopSecretaryRow, standIns := [], harness := (true, "96bd36ac647b73e2c0247b614896de88bf90ac97edb7f05364879d300f1edebc"), looks := true }, kinds := [], alts := [], laidByText := true, laidKinds := [.data, .data, .data, .handle], laidTests := true, laidLooks := .later }
def StopSecretaryCardSaid : Prop := Claim7.holds Tryz.pinned (.plain (OpenSpec.ofChange stopSecretarySpec)) stopSecretaryCard

/-- THE SECOND FORM's CARD OF 'foresightlaw.StopChosen'. -/
def stopChosenUptoCard : Claim7 := { stood := { row := stopChosenUptoRow, standIns := [], harness := (true, "96bd36ac647b73e2c0247b614896de88bf90ac97edb7f05364879d300f1edebc"), looks := true }, kinds := [], alts := [], laidByText := true, laidKinds := [.data, .data, .data, .handle], laidTests := true, laidLooks := .later }
def StopChosenUptoCardSaid : Prop := Claim7.holds Tryz.pinned (.plain (OpenSpec.upto stopChosenSpec)) stopChosenUptoCard

/-- THE SECOND FORM's CARD OF 'foresightlaw.StoreLoss'. -/
def storeLossUptoCard : Claim7 := { stood := { row := storeLossUptoRow, standIns := [], harness := (true, "96bd36ac647b73e2c0247b614896de88bf90ac97edb7f05364879d300f1edebc"), looks := true }, kinds := [], alts := [], laidByText := true, laidKinds := [.data, .data, .data, .handle], laidTests := true, laidLooks := .later }
def StoreLossUptoCardSaid : Prop := Claim7.holds Tryz.pinned (.plain (OpenSpec.upto storeLossSpec)) storeLossUptoCard

/-- THE SECOND FORM's CARD OF 'foresightlaw.StopSecretary'. -/
def stopSecretaryUptoCard : Claim7 := { stood := { row := stopSecretaryUptoRow, standIns := [], harness := (true, "96bd36ac647b73e2c0247b614896de88bf90ac97edb7f05364879d300f1edebc"), looks := true }, kinds := [], alts := [], laidByText := true, laidKinds := [.data, .data, .data, .handle], laidTests := true, laidLooks := .later }
def StopSecretaryUptoCardSaid : Prop := Claim7.holds Tryz.pinned (.plain (OpenSpec.upto stopSecretarySpec)) stopSecretaryUptoCard
end Rows
end Go.Proofs.YtjadhoembmenkaaGreatDoor
