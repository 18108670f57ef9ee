/-
  DERIVED. GIVEN WITH THE SEED: THE CARDS: each row of YtbbmhidnakghfaaDoorRows.lean that lists a variable, with what it lists TIED to the program's text (the seventh form; the later family's looks); each row that meets fmt, with fmt's text TOLD by the authors' own Lean function (tested against real Go, not proved from fmt's source: count such statements apart). THE CARD IS WHAT COUNTS. Prove the row's statement (the work); the ties are given (YtbbmhidnakghfaaDoorTie.lean); close each card by the builder's one call (the guide's Derived/Test/ToyasCard.lean, 'card_holds'). Laid BY PROGRAM, IN A SANDBOX (cutbox-door.mjs). By AI agents, Wed Nov 11 2026. No macro, syntax, notation, axiom, sorry.
-/
import Derived.Test.YtbbmhidnakghfaaDoorRows
import GoSem.ClaimSeven
namespace Go.Proofs.YtbbmhidnakghfaaDoor
namespace Rows

/-- THE TIED CARD OF 'foresightlaw.LotsCost'. -/
def lotsCostCard : Claim7 := { stood := { row := lotsCostRow, standIns := [], harness := (true, "6bb86191d434a3e2131c5fa1c8707845e5eb3f45b0f46ea333927d7fdc908ddb"), looks := true }, kinds := [], alts := [], laidByText := true, laidKinds := [.handle], laidTests := true, laidLooks := .later }
def LotsCostCardSaid : Prop := Claim7.holds Tryd.pinned (.plain (OpenSpec.ofChange lotsCostSpec)) lotsCostCard

/-- THE TIED CARD OF 'foresightlaw.LotsPlan'. -/
def lotsPlanCard : Claim7 := { stood := { row := lotsPlanRow, standIns := [], harness := (true, "6bb86191d434a3e2131c5fa1c8707845e5eb3f45b0f46ea333927d7fdc908ddb"), looks := true }, kinds := [], alts := [], laidByText := true, laidKinds := [.handle], laidTests := true, laidLooks := .later }
def LotsPlanCardSaid : Prop := Claim7.holds Tryd.pinned (.plain (OpenSpec.ofChange lotsPlanSpec)) lotsPlanCard

/-- THE SECOND FORM's CARD OF 'foresightlaw.LotsCost'. -/
def lotsCostUptoCard : Claim7 := { stood := { row := lotsCostUptoRow, standIns := [], harness := (true, "6bb86191d434a3e2131c5fa1c8707845e5eb3f45b0f46ea333927d7fdc908ddb"), looks := true }, kinds := [], alts := [], laidByText := true, laidKinds := [.handle], laidTests := true, laidLooks := .later }
def LotsCostUptoCardSaid : Prop := Claim7.holds Tryd.pinned (.plain (OpenSpec.upto lotsCostSpec)) lotsCostUptoCard

/-- THE SECOND FORM's CARD OF 'foresightlaw.LotsPlan'. -/
def lotsPlanUptoCard : Claim7 := { stood := { row := lotsPlanUptoRow, standIns := [], harness := (true, "6bb86191d434a3e2131c5fa1c8707845e5eb3f45b0f46ea333927d7fdc908ddb"), looks := true }, kinds := [], alts := [], laidByText := true, laidKinds := [.handle], laidTests := true, laidLooks := .later }
def LotsPlanUptoCardSaid : Prop := Claim7.holds Tryd.pinned (.plain (OpenSpec.upto lotsPlanSpec)) lotsPlanUptoCard
end Rows
end Go.Proofs.YtbbmhidnakghfaaDoor
