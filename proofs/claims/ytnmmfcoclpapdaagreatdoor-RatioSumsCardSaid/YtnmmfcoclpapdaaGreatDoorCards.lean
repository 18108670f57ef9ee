/-
  DERIVED. GIVEN WITH THE SEED: THE CARDS: each row of YtnmmfcoclpapdaaGreatDoorRows.lean that lists a variable, with what it lists TIED to the program's text (the seventh form; the later family's looks); each row that meets fmt, with fmt's text TOLD by the authors' own Lean function (tested against real Go, not proved from fmt's source: count such statements apart). THE CARD IS WHAT COUNTS. Prove the row's statement (the work); the ties are given (YtnmmfcoclpapdaaGreatDoorTie.lean); close each card by the builder's one call (the guide's Derived/Test/ToyasCard.lean, 'card_holds'). Laid BY PROGRAM, IN A SANDBOX (cutbox-door.mjs). By AI agents, Wed Nov 11 2026. No macro, syntax, notation, axiom, sorry.
-/
import Derived.Test.YtnmmfcoclpapdaaGreatDoorRows
import GoSem.ClaimSeven
namespace Go.Proofs.YtnmmfcoclpapdaaGreatDoor
namespace Rows

/-- THE TIED CARD OF 'foresightlaw.RatioSays'. -/
def ratioSaysCard : Claim7 := { stood := { row := ratioSaysRow, standIns := [], harness := (true, "85170cdcff6b5c93b574b991d20ca49fa781808fd8b425eb88c5165dd6de3cbd"), looks := true }, kinds := [], alts := [], laidByText := true, laidKinds := [.data, .data, .data, .handle], laidTests := true, laidLooks := .later }
def RatioSaysCardSaid : Prop := Claim7.holds Tryz.pinned (.plain (OpenSpec.ofChange ratioSaysSpec)) ratioSaysCard

/-- THE TIED CARD OF 'foresightlaw.RatioSums'. -/
def ratioSumsCard : Claim7 := { stood := { row := ratioSumsRow, standIns := [], harness := (true, "85170cdcff6b5c93b574b991d20ca49fa781808fd8b425eb88c5165dd6de3cbd"), looks := true }, kinds := [], alts := [], laidByText := true, laidKinds := [.data, .data, .data], laidTests := true, laidLooks := .later }
def RatioSumsCardSaid : Prop := Claim7.holds Tryz.pinned (.plain (OpenSpec.ofChange ratioSumsSpec)) ratioSumsCard

/-- THE TIED CARD OF 'foresightlaw.RatioParses'. -/
def ratioParsesCard : Claim7 := { stood := { row := ratioParsesRow, standIns := [], harness := (true, "85170cdcff6b5c93b574b991d20ca49fa781808fd8b425eb88c5165dd6de3cbd"), looks := true }, kinds := [], alts := [], laidByText := true, laidKinds := [.data, .data, .data, .handle, .data], laidTests := true, laidLooks := .later }
def RatioParsesCardSaid : Prop := Claim7.holds Tryz.pinned (.plain (OpenSpec.ofChange ratioParsesSpec)) ratioParsesCard

/-- THE TIED CARD OF 'foresightlaw.ChanceShares'. -/
def chanceSharesCard : Claim7 := { stood := { row := chanceSharesRow, standIns := [], harness := (true, "85170cdcff6b5c93b574b991d20ca49fa781808fd8b425eb88c5165dd6de3cbd"), looks := true }, kinds := [], alts := [], laidByText := true, laidKinds := [.data, .data, .data, .handle], laidTests := true, laidLooks := .later }
def ChanceSharesCardSaid : Prop := Claim7.holds Tryz.pinned (.plain (OpenSpec.ofChange chanceSharesSpec)) chanceSharesCard

/-- THE TIED CARD OF 'foresightlaw.ChanceMoment'. -/
def chanceMomentCard : Claim7 := { stood := { row := chanceMomentRow, standIns := [], harness := (true, "85170cdcff6b5c93b574b991d20ca49fa781808fd8b425eb88c5165dd6de3cbd"), looks := true }, kinds := [], alts := [], laidByText := true, laidKinds := [.data, .data, .data, .handle], laidTests := true, laidLooks := .later }
def ChanceMomentCardSaid : Prop := Claim7.holds Tryz.pinned (.plain (OpenSpec.ofChange chanceMomentSpec)) chanceMomentCard

/-- THE TIED CARD OF 'foresightlaw.ChanceOver'. -/
def chanceOverCard : Claim7 := { stood := { row := chanceOverRow, standIns := [], harness := (true, "85170cdcff6b5c93b574b991d20ca49fa781808fd8b425eb88c5165dd6de3cbd"), looks := true }, kinds := [], alts := [], laidByText := true, laidKinds := [.data, .data, .data, .handle], laidTests := true, laidLooks := .later }
def ChanceOverCardSaid : Prop := Claim7.holds Tryz.pinned (.plain (OpenSpec.ofChange chanceOverSpec)) chanceOverCard

/-- THE TIED CARD OF 'foresightlaw.ChanceLeast'. -/
def chanceLeastCard : Claim7 := { stood := { row := chanceLeastRow, standIns := [], harness := (true, "85170cdcff6b5c93b574b991d20ca49fa781808fd8b425eb88c5165dd6de3cbd"), looks := true }, kinds := [], alts := [], laidByText := true, laidKinds := [.handle], laidTests := true, laidLooks := .later }
def ChanceLeastCardSaid : Prop := Claim7.holds Tryz.pinned (.plain (OpenSpec.ofChange chanceLeastSpec)) chanceLeastCard

/-- THE TIED CARD OF 'foresightlaw.ChanceBoth'. -/
def chanceBothCard : Claim7 := { stood := { row := chanceBothRow, standIns := [], harness := (true, "85170cdcff6b5c93b574b991d20ca49fa781808fd8b425eb88c5165dd6de3cbd"), looks := true }, kinds := [], alts := [], laidByText := true, laidKinds := [.data, .data, .data, .handle], laidTests := true, laidLooks := .later }
def ChanceBothCardSaid : Prop := Claim7.holds Tryz.pinned (.plain (OpenSpec.ofChange chanceBothSpec)) chanceBothCard

/-- THE SECOND FORM's CARD OF 'foresightlaw.RatioSays'. -/
def ratioSaysUptoCard : Claim7 := { stood := { row := ratioSaysUptoRow, standIns := [], harness := (true, "85170cdcff6b5c93b574b991d20ca49fa781808fd8b425eb88c5165dd6de3cbd"), looks := true }, kinds := [], alts := [], laidByText := true, laidKinds := [.data, .data, .data, .handle], laidTests := true, laidLooks := .later }
def RatioSaysUptoCardSaid : Prop := Claim7.holds Tryz.pinned (.plain (OpenSpec.upto ratioSaysSpec)) ratioSaysUptoCard

/-- THE SECOND FORM's CARD OF 'foresightlaw.RatioSums'. -/
def ratioSumsUptoCard : Claim7 := { stood := { row := ratioSumsUptoRow, standIns := [], harness := (true, "85170cdcff6b5c93b574b991d20ca49fa781808fd8b425eb88c5165dd6de3cbd"), looks := true }, kinds := [], alts := [], laidByText := true, laidKinds := [.data, .data, .data], laidTests := true, laidLooks := .later }
def RatioSumsUptoCardSaid : Prop := Claim7.holds Tryz.pinned (.plain (OpenSpec.upto ratioSumsSpec)) ratioSumsUptoCard

/-- THE SECOND FORM's CARD OF 'foresightlaw.RatioParses'. -/
def ratioParsesUptoCard : Claim7 := { stood := { row := ratioParsesUptoRow, standIns := [], harness := (true, "85170cdcff6b5c93b574b991d20ca49fa781808fd8b425eb88c5165dd6de3cbd"), looks := true }, kinds := [], alts := [], laidByText := true, laidKinds := [.data, .data, .data, .handle, .data], laidTests := true, laidLooks := .later }
def RatioParsesUptoCardSaid : Prop := Claim7.holds Tryz.pinned (.plain (OpenSpec.upto ratioParsesSpec)) ratioParsesUptoCard

/-- THE SECOND FORM's CARD OF 'foresightlaw.ChanceShares'. -/
def chanceSharesUptoCard : Claim7 := { stood := { row := chanceSharesUptoRow, standIns := [], harness := (true, "85170cdcff6b5c93b574b991d20ca49fa781808fd8b425eb88c5165dd6de3cbd"), looks := true }, kinds := [], alts := [], laidByText := true, laidKinds := [.data, .data, .data, .handle], laidTests := true, laidLooks := .later }
def ChanceSharesUptoCardSaid : Prop := Claim7.holds Tryz.pinned (.plain (OpenSpec.upto chanceSharesSpec)) chanceSharesUptoCard

/-- THE SECOND FORM's CARD OF 'foresightlaw.ChanceMoment'. -/
def chanceMomentUptoCard : Claim7 := { stood := { row := chanceMomentUptoRow, standIns := [], harness := (true, "85170cdcff6b5c93b574b991d20ca49fa781808fd8b425eb88c5165dd6de3cbd"), looks := true }, kinds := [], alts := [], laidByText := true, laidKinds := [.data, .data, .data, .handle], laidTests := true, laidLooks := .later }
def ChanceMomentUptoCardSaid : Prop := Claim7.holds Tryz.pinned (.plain (OpenSpec.upto chanceMomentSpec)) chanceMomentUptoCard

/-- THE SECOND FORM's CARD OF 'foresightlaw.ChanceOver'. -/
def chanceOverUptoCard : Claim7 := { stood := { row := chanceOverUptoRow, standIns := [], harness := (true, "85170cdcff6b5c93b574b991d20ca49fa781808fd8b425eb88c5165dd6de3cbd"), looks := true }, kinds := [], alts := [], laidByText := true, laidKinds := [.data, .data, .data, .handle], laidTests := true, laidLooks := .later }
def ChanceOverUptoCardSaid : Prop := Claim7.holds Tryz.pinned (.plain (OpenSpec.upto chanceOverSpec)) chanceOverUptoCard

/-- THE SECOND FORM's CARD OF 'foresightlaw.ChanceLeast'. -/
def chanceLeastUptoCard : Claim7 := { stood := { row := chanceLeastUptoRow, standIns := [], harness := (true, "85170cdcff6b5c93b574b991d20ca49fa781808fd8b425eb88c5165dd6de3cbd"), looks := true }, kinds := [], alts := [], laidByText := true, laidKinds := [.handle], laidTests := true, laidLooks := .later }
def ChanceLeastUptoCardSaid : Prop := Claim7.holds Tryz.pinned (.plain (OpenSpec.upto chanceLeastSpec)) chanceLeastUptoCard

/-- THE SECOND FORM's CARD OF 'foresightlaw.ChanceBoth'. -/
def chanceBothUptoCard : Claim7 := { stood := { row := chanceBothUptoRow, standIns := [], harness := (true, "85170cdcff6b5c93b574b991d20ca49fa781808fd8b425eb88c5165dd6de3cbd"), looks := true }, kinds := [], alts := [], laidByText := true, laidKinds := [.data, .data, .data, .handle], laidTests := true, laidLooks := .later }
def ChanceBothUptoCardSaid : Prop := Claim7.holds Tryz.pinned (.plain (OpenSpec.upto chanceBothSpec)) chanceBothUptoCard
end Rows
end Go.Proofs.YtnmmfcoclpapdaaGreatDoor
