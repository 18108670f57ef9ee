/-
  DERIVED. GIVEN WITH THE SEED: THE CARDS: each row of YtfnbjenneodcdaaGreatDoorRows.lean that lists a variable, with what it lists TIED to the program's text (the seventh form; the later family's looks); each row that meets fmt, with fmt's text TOLD by the authors' own Lean function (tested against real Go, not proved from fmt's source: count such statements apart). THE CARD IS WHAT COUNTS. Prove the row's statement (the work); the ties are given (YtfnbjenneodcdaaGreatDoorTie.lean); close each card by the builder's one call (the guide's Derived/Test/ToyasCard.lean, 'card_holds'). Laid BY PROGRAM, IN A SANDBOX (cutbox-door.mjs). By AI agents, Wed Nov 11 2026. No macro, syntax, notation, axiom, sorry.
-/
import Derived.Test.YtfnbjenneodcdaaGreatDoorRows
import GoSem.ClaimSeven
namespace Go.Proofs.YtfnbjenneodcdaaGreatDoor
namespace Rows

/-- THE TIED CARD OF 'foresightkeep.RoadsBraess'. -/
def roadsBraessCard : Claim7 := { stood := { row := roadsBraessRow, standIns := [], harness := (true, "078a2cf9643d03efe1e27029fba54984b4c6ab0804a2b142c256385f9e589574"), looks := true }, kinds := [], alts := [], laidByText := true, laidKinds := [.data, .data, .data], laidTests := true, laidLooks := .later }
def RoadsBraessCardSaid : Prop := Claim7.holds Tryz.pinned (.plain (OpenSpec.ofChange roadsBraessSpec)) roadsBraessCard

/-- THE TIED CARD OF 'foresightkeep.BeliefSums'. -/
def beliefSumsCard : Claim7 := { stood := { row := beliefSumsRow, standIns := [], harness := (true, "078a2cf9643d03efe1e27029fba54984b4c6ab0804a2b142c256385f9e589574"), looks := true }, kinds := [], alts := [], laidByText := true, laidKinds := [.data, .data, .data, .handle], laidTests := true, laidLooks := .later }
def BeliefSumsCardSaid : Prop := Claim7.holds Tryz.pinned (.plain (OpenSpec.ofChange beliefSumsSpec)) beliefSumsCard

/-- THE TIED CARD OF 'foresightkeep.BanditGittins'. -/
def banditGittinsCard : Claim7 := { stood := { row := banditGittinsRow, standIns := [], harness := (true, "078a2cf9643d03efe1e27029fba54984b4c6ab0804a2b142c256385f9e589574"), looks := true }, kinds := [], alts := [], laidByText := true, laidKinds := [.data, .data, .data], laidTests := true, laidLooks := .later }
def BanditGittinsCardSaid : Prop := Claim7.holds Tryz.pinned (.plain (OpenSpec.ofChange banditGittinsSpec)) banditGittinsCard

/-- THE SECOND FORM's CARD OF 'foresightkeep.RoadsBraess'. -/
def roadsBraessUptoCard : Claim7 := { stood := { row := roadsBraessUptoRow, standIns := [], harness := (true, "078a2cf9643d03efe1e27029fba54984b4c6ab0804a2b142c256385f9e589574"), looks := true }, kinds := [], alts := [], laidByText := true, laidKinds := [.data, .data, .data], laidTests := true, laidLooks := .later }
def RoadsBraessUptoCardSaid : Prop := Claim7.holds Tryz.pinned (.plain (OpenSpec.upto roadsBraessSpec)) roadsBraessUptoCard

/-- THE SECOND FORM's CARD OF 'foresightkeep.BeliefSums'. -/
def beliefSumsUptoCard : Claim7 := { stood := { row := beliefSumsUptoRow, standIns := [], harness := (true, "078a2cf9643d03efe1e27029fba54984b4c6ab0804a2b142c256385f9e589574"), looks := true }, kinds := [], alts := [], laidByText := true, laidKinds := [.data, .data, .data, .handle], laidTests := true, laidLooks := .later }
def BeliefSumsUptoCardSaid : Prop := Claim7.holds Tryz.pinned (.plain (OpenSpec.upto beliefSumsSpec)) beliefSumsUptoCard

/-- THE SECOND FORM's CARD OF 'foresightkeep.BanditGittins'. -/
def banditGittinsUptoCard : Claim7 := { stood := { row := banditGittinsUptoRow, standIns := [], harness := (true, "078a2cf9643d03efe1e27029fba54984b4c6ab0804a2b142c256385f9e589574"), looks := true }, kinds := [], alts := [], laidByText := true, laidKinds := [.data, .data, .data], laidTests := true, laidLooks := .later }
def BanditGittinsUptoCardSaid : Prop := Claim7.holds Tryz.pinned (.plain (OpenSpec.upto banditGittinsSpec)) banditGittinsUptoCard
end Rows
end Go.Proofs.YtfnbjenneodcdaaGreatDoor
