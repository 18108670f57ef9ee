/-
  DERIVED. GIVEN WITH THE SEED: THE CARDS: each row of YtdicbnchkfclaaaGreatDoorRows.lean that lists a variable, with what it lists TIED to the program's text (the seventh form; the later family's looks); each row that meets fmt, with fmt's text TOLD by the authors' own Lean function (tested against real Go, not proved from fmt's source: count such statements apart). THE CARD IS WHAT COUNTS. Prove the row's statement (the work); the ties are given (YtdicbnchkfclaaaGreatDoorTie.lean); close each card by the builder's one call (the guide's Derived/Test/ToyasCard.lean, 'card_holds'). Laid BY PROGRAM, IN A SANDBOX (cutbox-door.mjs). By AI agents, Wed Nov 11 2026. No macro, syntax, notation, axiom, sorry.
-/
import Derived.Test.YtdicbnchkfclaaaGreatDoorRows
import GoSem.ClaimSeven
namespace Go.Proofs.YtdicbnchkfclaaaGreatDoor
namespace Rows

/-- THE TIED CARD OF 'foresightkeep.RatioField'. -/
def ratioFieldCard : Claim7 := { stood := { row := ratioFieldRow, standIns := [], harness := (true, "1a44a172b2a0a2f40b3a67eb9168d355acc305e20ad556480f6c0d6eea0b4ab4"), looks := true }, kinds := [], alts := [], laidByText := true, laidKinds := [.data, .data, .data, .handle], laidTests := true, laidLooks := .later }
def RatioFieldCardSaid : Prop := Claim7.holds Tryz.pinned (.plain (OpenSpec.ofChange ratioFieldSpec)) ratioFieldCard

/-- THE TIED CARD OF 'foresightkeep.WalkRuined'. -/
def walkRuinedCard : Claim7 := { stood := { row := walkRuinedRow, standIns := [], harness := (true, "1a44a172b2a0a2f40b3a67eb9168d355acc305e20ad556480f6c0d6eea0b4ab4"), looks := true }, kinds := [], alts := [], laidByText := true, laidKinds := [.data, .data, .data, .handle], laidTests := true, laidLooks := .later }
def WalkRuinedCardSaid : Prop := Claim7.holds Tryz.pinned (.plain (OpenSpec.ofChange walkRuinedSpec)) walkRuinedCard

/-- THE SECOND FORM's CARD OF 'foresightkeep.RatioField'. -/
def ratioFieldUptoCard : Claim7 := { stood := { row := ratioFieldUptoRow, standIns := [], harness := (true, "1a44a172b2a0a2f40b3a67eb9168d355acc305e20ad556480f6c0d6eea0b4ab4"), looks := true }, kinds := [], alts := [], laidByText := true, laidKinds := [.data, .data, .data, .handle], laidTests := true, laidLooks := .later }
def RatioFieldUptoCardSaid : Prop := Claim7.holds Tryz.pinned (.plain (OpenSpec.upto ratioFieldSpec)) ratioFieldUptoCard

/-- THE SECOND FORM's CARD OF 'foresightkeep.WalkRuined'. -/
def walkRuinedUptoCard : Claim7 := { stood := { row := walkRuinedUptoRow, standIns := [], harness := (true, "1a44a172b2a0a2f40b3a67eb9168d355acc305e20ad556480f6c0d6eea0b4ab4"), looks := true }, kinds := [], alts := [], laidByText := true, laidKinds := [.data, .data, .data, .handle], laidTests := true, laidLooks := .later }
def WalkRuinedUptoCardSaid : Prop := Claim7.holds Tryz.pinned (.plain (OpenSpec.upto walkRuinedSpec)) walkRuinedUptoCard
end Rows
end Go.Proofs.YtdicbnchkfclaaaGreatDoor
