/-
  DERIVED. GIVEN WITH THE SEED: THE CARDS: each row of YtohkmkoklhnnlaaGreatDoorRows.lean that lists a variable, with what it lists TIED to the program's text (the seventh form; the later family's looks); each row that meets fmt, with fmt's text TOLD by the authors' own Lean function (tested against real Go, not proved from fmt's source: count such statements apart). THE CARD IS WHAT COUNTS. Prove the row's statement (the work); the ties are given (YtohkmkoklhnnlaaGreatDoorTie.lean); close each card by the builder's one call (the guide's Derived/Test/ToyasCard.lean, 'card_holds'). Laid BY PROGRAM, IN A SANDBOX (cutbox-door.mjs). By AI agents, Wed Nov 11 2026. No macro, syntax, notation, axiom, sorry.
-/
import Derived.Test.YtohkmkoklhnnlaaGreatDoorRows
import GoSem.ClaimSeven
namespace Go.Proofs.YtohkmkoklhnnlaaGreatDoor
namespace Rows

/-- THE TIED CARD OF 'foresightkeep.StoreConvex'. -/
def storeConvexCard : Claim7 := { stood := { row := storeConvexRow, standIns := [], harness := (true, "2ca7501c16090c57cc309126621e18574ac06a37afa0775f8779b832cee5a3bb"), looks := false }, kinds := [], alts := [], laidByText := true, laidKinds := [.data, .data, .data], laidTests := true, laidLooks := .later }
def StoreConvexCardSaid : Prop := Claim7.holds Tryz.pinned (.plain (OpenSpec.ofChange storeConvexSpec)) storeConvexCard

/-- THE SECOND FORM's CARD OF 'foresightkeep.StoreConvex'. -/
def storeConvexUptoCard : Claim7 := { stood := { row := storeConvexUptoRow, standIns := [], harness := (true, "2ca7501c16090c57cc309126621e18574ac06a37afa0775f8779b832cee5a3bb"), looks := false }, kinds := [], alts := [], laidByText := true, laidKinds := [.data, .data, .data], laidTests := true, laidLooks := .later }
def StoreConvexUptoCardSaid : Prop := Claim7.holds Tryz.pinned (.plain (OpenSpec.upto storeConvexSpec)) storeConvexUptoCard
end Rows
end Go.Proofs.YtohkmkoklhnnlaaGreatDoor
