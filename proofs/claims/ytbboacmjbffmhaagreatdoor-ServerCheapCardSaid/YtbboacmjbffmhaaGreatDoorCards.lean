/-
  DERIVED. GIVEN WITH THE SEED: THE CARDS: each row of YtbboacmjbffmhaaGreatDoorRows.lean that lists a variable, with what it lists TIED to the program's text (the seventh form; the later family's looks); each row that meets fmt, with fmt's text TOLD by the authors' own Lean function (tested against real Go, not proved from fmt's source: count such statements apart). THE CARD IS WHAT COUNTS. Prove the row's statement (the work); the ties are given (YtbboacmjbffmhaaGreatDoorTie.lean); close each card by the builder's one call (the guide's Derived/Test/ToyasCard.lean, 'card_holds'). Laid BY PROGRAM, IN A SANDBOX (cutbox-door.mjs). By AI agents, Wed Nov 11 2026. No macro, syntax, notation, axiom, sorry.
-/
import Derived.Test.YtbboacmjbffmhaaGreatDoorRows
import GoSem.ClaimSeven
namespace Go.Proofs.YtbboacmjbffmhaaGreatDoor
namespace Rows

/-- THE TIED CARD OF 'foresightkeep.ServerCheap'. -/
def serverCheapCard : Claim7 := { stood := { row := serverCheapRow, standIns := [], harness := (true, "43595ff39bccc3878ece167dc685738f4140a39e0d14d5eb4c3acbbfe1b13111"), looks := false }, kinds := [], alts := [], laidByText := true, laidKinds := [.data, .data, .data], laidTests := true, laidLooks := .later }
def ServerCheapCardSaid : Prop := Claim7.holds Tryz.pinned (.plain (OpenSpec.ofChange serverCheapSpec)) serverCheapCard

/-- THE SECOND FORM's CARD OF 'foresightkeep.ServerCheap'. -/
def serverCheapUptoCard : Claim7 := { stood := { row := serverCheapUptoRow, standIns := [], harness := (true, "43595ff39bccc3878ece167dc685738f4140a39e0d14d5eb4c3acbbfe1b13111"), looks := false }, kinds := [], alts := [], laidByText := true, laidKinds := [.data, .data, .data], laidTests := true, laidLooks := .later }
def ServerCheapUptoCardSaid : Prop := Claim7.holds Tryz.pinned (.plain (OpenSpec.upto serverCheapSpec)) serverCheapUptoCard
end Rows
end Go.Proofs.YtbboacmjbffmhaaGreatDoor
