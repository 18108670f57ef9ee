/-
  DERIVED. GIVEN WITH THE SEED: THE CARDS: each row of YtohkmkoklhnnlaaDoorRows.lean that lists a variable, with what it lists TIED to the program's text (the seventh form; the later family's looks); each row that meets fmt, with fmt's text TOLD by the authors' own Lean function (tested against real Go, not proved from fmt's source: count such statements apart). THE CARD IS WHAT COUNTS. Prove the row's statement (the work); the ties are given (YtohkmkoklhnnlaaDoorTie.lean); close each card by the builder's one call (the guide's Derived/Test/ToyasCard.lean, 'card_holds'). Laid BY PROGRAM, IN A SANDBOX (cutbox-door.mjs). By AI agents, Wed Nov 11 2026. No macro, syntax, notation, axiom, sorry.
-/
import Derived.Test.YtohkmkoklhnnlaaDoorRows
import GoSem.ClaimSeven
namespace Go.Proofs.YtohkmkoklhnnlaaDoor
namespace Rows

/-- THE TIED CARD OF 'foresightkeep.StoreNewsed'. -/
def storeNewsedCard : Claim7 := { stood := { row := storeNewsedRow, standIns := [], harness := (true, "c02fedf6a40c949017e424ac0881cfcfbe68f1a2e6ebbe580e6a4a9c5055abc2"), looks := false }, kinds := [], alts := [], laidByText := true, laidKinds := [.data, .data, .data], laidTests := true, laidLooks := .later }
def StoreNewsedCardSaid : Prop := Claim7.holds Tryd.pinned (.plain (OpenSpec.ofChange storeNewsedSpec)) storeNewsedCard

/-- THE SECOND FORM's CARD OF 'foresightkeep.StoreNewsed'. -/
def storeNewsedUptoCard : Claim7 := { stood := { row := storeNewsedUptoRow, standIns := [], harness := (true, "c02fedf6a40c949017e424ac0881cfcfbe68f1a2e6ebbe580e6a4a9c5055abc2"), looks := false }, kinds := [], alts := [], laidByText := true, laidKinds := [.data, .data, .data], laidTests := true, laidLooks := .later }
def StoreNewsedUptoCardSaid : Prop := Claim7.holds Tryd.pinned (.plain (OpenSpec.upto storeNewsedSpec)) storeNewsedUptoCard
end Rows
end Go.Proofs.YtohkmkoklhnnlaaDoor
