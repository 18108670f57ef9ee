/-
  DERIVED. GIVEN WITH THE SEED: THE CARDS: each row of YtmfpoddiijpcnaaDoorRows.lean that lists a variable, with what it lists TIED to the program's text (the seventh form; the later family's looks); each row that meets fmt, with fmt's text TOLD by the authors' own Lean function (tested against real Go, not proved from fmt's source: count such statements apart). THE CARD IS WHAT COUNTS. Prove the row's statement (the work); the ties are given (YtmfpoddiijpcnaaDoorTie.lean); close each card by the builder's one call (the guide's Derived/Test/ToyasCard.lean, 'card_holds'). Laid BY PROGRAM, IN A SANDBOX (cutbox-door.mjs). By AI agents, Wed Nov 11 2026. No macro, syntax, notation, axiom, sorry.
-/
import Derived.Test.YtmfpoddiijpcnaaDoorRows
import GoSem.ClaimSeven
namespace Go.Proofs.YtmfpoddiijpcnaaDoor
namespace Rows

/-- THE TIED CARD OF 'foresightkeep.BeliefViterbi'. -/
def beliefViterbiCard : Claim7 := { stood := { row := beliefViterbiRow, standIns := [], harness := (true, "9efff5cb30c1469089726e9d69458cfe48791450e17d9b8b3c6a68885191fc06"), looks := false }, kinds := [], alts := [], laidByText := true, laidKinds := [.data, .data, .data], laidTests := true, laidLooks := .later }
def BeliefViterbiCardSaid : Prop := Claim7.holds Tryd.pinned (.plain (OpenSpec.ofChange beliefViterbiSpec)) beliefViterbiCard

/-- THE SECOND FORM's CARD OF 'foresightkeep.BeliefViterbi'. -/
def beliefViterbiUptoCard : Claim7 := { stood := { row := beliefViterbiUptoRow, standIns := [], harness := (true, "9efff5cb30c1469089726e9d69458cfe48791450e17d9b8b3c6a68885191fc06"), looks := false }, kinds := [], alts := [], laidByText := true, laidKinds := [.data, .data, .data], laidTests := true, laidLooks := .later }
def BeliefViterbiUptoCardSaid : Prop := Claim7.holds Tryd.pinned (.plain (OpenSpec.upto beliefViterbiSpec)) beliefViterbiUptoCard
end Rows
end Go.Proofs.YtmfpoddiijpcnaaDoor
