/-
  DERIVED. GIVEN WITH THE SEED: THE CARDS: each row of YtfnbjenneodcdaaDoorRows.lean that lists a variable, with what it lists TIED to the program's text (the seventh form; the later family's looks); each row that meets fmt, with fmt's text TOLD by the authors' own Lean function (tested against real Go, not proved from fmt's source: count such statements apart). THE CARD IS WHAT COUNTS. Prove the row's statement (the work); the ties are given (YtfnbjenneodcdaaDoorTie.lean); close each card by the builder's one call (the guide's Derived/Test/ToyasCard.lean, 'card_holds'). Laid BY PROGRAM, IN A SANDBOX (cutbox-door.mjs). By AI agents, Wed Nov 11 2026. No macro, syntax, notation, axiom, sorry.
-/
import Derived.Test.YtfnbjenneodcdaaDoorRows
import GoSem.ClaimSeven
namespace Go.Proofs.YtfnbjenneodcdaaDoor
namespace Rows

/-- THE TIED CARD OF 'foresightkeep.SeatsNested'. -/
def seatsNestedCard : Claim7 := { stood := { row := seatsNestedRow, standIns := [], harness := (true, "2f9c57218405a786914c3f6b9da48c44826d1c5c56bf6e5fdbe9067a63f58dcb"), looks := false }, kinds := [], alts := [], laidByText := true, laidKinds := [.data, .data, .data], laidTests := true, laidLooks := .later }
def SeatsNestedCardSaid : Prop := Claim7.holds Tryd.pinned (.plain (OpenSpec.ofChange seatsNestedSpec)) seatsNestedCard

/-- THE TIED CARD OF 'foresightkeep.RoadsWardrop'. -/
def roadsWardropCard : Claim7 := { stood := { row := roadsWardropRow, standIns := [], harness := (true, "2f9c57218405a786914c3f6b9da48c44826d1c5c56bf6e5fdbe9067a63f58dcb"), looks := false }, kinds := [], alts := [], laidByText := true, laidKinds := [.data, .data, .data], laidTests := true, laidLooks := .later }
def RoadsWardropCardSaid : Prop := Claim7.holds Tryd.pinned (.plain (OpenSpec.ofChange roadsWardropSpec)) roadsWardropCard

/-- THE TIED CARD OF 'foresightkeep.RoadsAnarchy'. -/
def roadsAnarchyCard : Claim7 := { stood := { row := roadsAnarchyRow, standIns := [], harness := (true, "2f9c57218405a786914c3f6b9da48c44826d1c5c56bf6e5fdbe9067a63f58dcb"), looks := false }, kinds := [], alts := [], laidByText := true, laidKinds := [.data, .data, .data], laidTests := true, laidLooks := .later }
def RoadsAnarchyCardSaid : Prop := Claim7.holds Tryd.pinned (.plain (OpenSpec.ofChange roadsAnarchySpec)) roadsAnarchyCard

/-- THE SECOND FORM's CARD OF 'foresightkeep.SeatsNested'. -/
def seatsNestedUptoCard : Claim7 := { stood := { row := seatsNestedUptoRow, standIns := [], harness := (true, "2f9c57218405a786914c3f6b9da48c44826d1c5c56bf6e5fdbe9067a63f58dcb"), looks := false }, kinds := [], alts := [], laidByText := true, laidKinds := [.data, .data, .data], laidTests := true, laidLooks := .later }
def SeatsNestedUptoCardSaid : Prop := Claim7.holds Tryd.pinned (.plain (OpenSpec.upto seatsNestedSpec)) seatsNestedUptoCard

/-- THE SECOND FORM's CARD OF 'foresightkeep.RoadsWardrop'. -/
def roadsWardropUptoCard : Claim7 := { stood := { row := roadsWardropUptoRow, standIns := [], harness := (true, "2f9c57218405a786914c3f6b9da48c44826d1c5c56bf6e5fdbe9067a63f58dcb"), looks := false }, kinds := [], alts := [], laidByText := true, laidKinds := [.data, .data, .data], laidTests := true, laidLooks := .later }
def RoadsWardropUptoCardSaid : Prop := Claim7.holds Tryd.pinned (.plain (OpenSpec.upto roadsWardropSpec)) roadsWardropUptoCard

/-- THE SECOND FORM's CARD OF 'foresightkeep.RoadsAnarchy'. -/
def roadsAnarchyUptoCard : Claim7 := { stood := { row := roadsAnarchyUptoRow, standIns := [], harness := (true, "2f9c57218405a786914c3f6b9da48c44826d1c5c56bf6e5fdbe9067a63f58dcb"), looks := false }, kinds := [], alts := [], laidByText := true, laidKinds := [.data, .data, .data], laidTests := true, laidLooks := .later }
def RoadsAnarchyUptoCardSaid : Prop := Claim7.holds Tryd.pinned (.plain (OpenSpec.upto roadsAnarchySpec)) roadsAnarchyUptoCard
end Rows
end Go.Proofs.YtfnbjenneodcdaaDoor
