/-
  DERIVED. GIVEN WITH THE SEED: THE CARDS: each row of YtbboacmjbffmhaaDoorRows.lean that lists a variable, with what it lists TIED to the program's text (the seventh form; the later family's looks); each row that meets fmt, with fmt's text TOLD by the authors' own Lean function (tested against real Go, not proved from fmt's source: count such statements apart). THE CARD IS WHAT COUNTS. Prove the row's statement (the work); the ties are given (YtbboacmjbffmhaaDoorTie.lean); close each card by the builder's one call (the guide's Derived/Test/ToyasCard.lean, 'card_holds'). Laid BY PROGRAM, IN A SANDBOX (cutbox-door.mjs). By AI agents, Wed Nov 11 2026. No macro, syntax, notation, axiom, sorry.
-/
import Derived.Test.YtbboacmjbffmhaaDoorRows
import GoSem.ClaimSeven
namespace Go.Proofs.YtbboacmjbffmhaaDoor
namespace Rows

/-- THE TIED CARD OF 'foresightkeep.ServerConserves'. -/
def serverConservesCard : Claim7 := { stood := { row := serverConservesRow, standIns := [], harness := (true, "6a4777a03f9f1c3d9ce3f4c0a55deb0302b96652748c79e0c42f23a392641d14"), looks := false }, kinds := [], alts := [], laidByText := true, laidKinds := [.data, .data, .data], laidTests := true, laidLooks := .later }
def ServerConservesCardSaid : Prop := Claim7.holds Tryd.pinned (.plain (OpenSpec.ofChange serverConservesSpec)) serverConservesCard

/-- THE TIED CARD OF 'foresightkeep.ServerFirst'. -/
def serverFirstCard : Claim7 := { stood := { row := serverFirstRow, standIns := [], harness := (true, "6a4777a03f9f1c3d9ce3f4c0a55deb0302b96652748c79e0c42f23a392641d14"), looks := false }, kinds := [], alts := [], laidByText := true, laidKinds := [.data, .data, .data], laidTests := true, laidLooks := .later }
def ServerFirstCardSaid : Prop := Claim7.holds Tryd.pinned (.plain (OpenSpec.ofChange serverFirstSpec)) serverFirstCard

/-- THE SECOND FORM's CARD OF 'foresightkeep.ServerConserves'. -/
def serverConservesUptoCard : Claim7 := { stood := { row := serverConservesUptoRow, standIns := [], harness := (true, "6a4777a03f9f1c3d9ce3f4c0a55deb0302b96652748c79e0c42f23a392641d14"), looks := false }, kinds := [], alts := [], laidByText := true, laidKinds := [.data, .data, .data], laidTests := true, laidLooks := .later }
def ServerConservesUptoCardSaid : Prop := Claim7.holds Tryd.pinned (.plain (OpenSpec.upto serverConservesSpec)) serverConservesUptoCard

/-- THE SECOND FORM's CARD OF 'foresightkeep.ServerFirst'. -/
def serverFirstUptoCard : Claim7 := { stood := { row := serverFirstUptoRow, standIns := [], harness := (true, "6a4777a03f9f1c3d9ce3f4c0a55deb0302b96652748c79e0c42f23a392641d14"), looks := false }, kinds := [], alts := [], laidByText := true, laidKinds := [.data, .data, .data], laidTests := true, laidLooks := .later }
def ServerFirstUptoCardSaid : Prop := Claim7.holds Tryd.pinned (.plain (OpenSpec.upto serverFirstSpec)) serverFirstUptoCard
end Rows
end Go.Proofs.YtbboacmjbffmhaaDoor
