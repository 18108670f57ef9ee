/-
  DERIVED. GIVEN WITH THE SEED: THE CARDS: each row of YtgcpdgcacdofcaaDoorRows.lean that lists a variable, with what it lists TIED to the program's text (the seventh form; the later family's looks); each row that meets fmt, with fmt's text TOLD by the authors' own Lean function (tested against real Go, not proved from fmt's source: count such statements apart). THE CARD IS WHAT COUNTS. Prove the row's statement (the work); the ties are given (YtgcpdgcacdofcaaDoorTie.lean); close each card by the builder's one call (the guide's Derived/Test/ToyasCard.lean, 'card_holds'). Laid BY PROGRAM, IN A SANDBOX (cutbox-door.mjs). By AI agents, Wed Nov 11 2026. No macro, syntax, notation, axiom, sorry.
-/
import Derived.Test.YtgcpdgcacdofcaaDoorRows
import GoSem.ClaimSeven
namespace Go.Proofs.YtgcpdgcacdofcaaDoor
namespace Rows

/-- THE TIED CARD OF 'foresightlaw.CoinSteps'. -/
def coinStepsCard : Claim7 := { stood := { row := coinStepsRow, standIns := [], harness := (true, "3ad042570251ad53b42f39fd480db27ab5208751d695949572771a33d53c4c9e"), looks := true }, kinds := [], alts := [], laidByText := true, laidKinds := [.handle], laidTests := true, laidLooks := .later }
def CoinStepsCardSaid : Prop := Claim7.holds Tryd.pinned (.plain (OpenSpec.ofChange coinStepsSpec)) coinStepsCard

/-- THE SECOND FORM's CARD OF 'foresightlaw.CoinSteps'. -/
def coinStepsUptoCard : Claim7 := { stood := { row := coinStepsUptoRow, standIns := [], harness := (true, "3ad042570251ad53b42f39fd480db27ab5208751d695949572771a33d53c4c9e"), looks := true }, kinds := [], alts := [], laidByText := true, laidKinds := [.handle], laidTests := true, laidLooks := .later }
def CoinStepsUptoCardSaid : Prop := Claim7.holds Tryd.pinned (.plain (OpenSpec.upto coinStepsSpec)) coinStepsUptoCard
end Rows
end Go.Proofs.YtgcpdgcacdofcaaDoor
