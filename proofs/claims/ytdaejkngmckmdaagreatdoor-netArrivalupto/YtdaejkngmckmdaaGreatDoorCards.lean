/-
  DERIVED. GIVEN WITH THE SEED: THE CARDS: each row of YtdaejkngmckmdaaGreatDoorRows.lean that lists a variable, with what it lists TIED to the program's text (the seventh form; the later family's looks); each row that meets fmt, with fmt's text TOLD by the authors' own Lean function (tested against real Go, not proved from fmt's source: count such statements apart). THE CARD IS WHAT COUNTS. Prove the row's statement (the work); the ties are given (YtdaejkngmckmdaaGreatDoorTie.lean); close each card by the builder's one call (the guide's Derived/Test/ToyasCard.lean, 'card_holds'). Laid BY PROGRAM, IN A SANDBOX (cutbox-door.mjs). By AI agents, Wed Nov 11 2026. No macro, syntax, notation, axiom, sorry.
-/
import Derived.Test.YtdaejkngmckmdaaGreatDoorRows
import GoSem.ClaimSeven
namespace Go.Proofs.YtdaejkngmckmdaaGreatDoor
namespace Rows

/-- THE TIED CARD OF 'foresightkeep.NetBalances'. -/
def netBalancesCard : Claim7 := { stood := { row := netBalancesRow, standIns := [], harness := (true, "50f1796395353fdbce7c8c120de202f80add961549e441b500b45d6d41f28025"), looks := false }, kinds := [], alts := [], laidByText := true, laidKinds := [.data, .data, .data], laidTests := true, laidLooks := .later }
def NetBalancesCardSaid : Prop := Claim7.holds Tryz.pinned (.plain (OpenSpec.ofChange netBalancesSpec)) netBalancesCard

/-- THE TIED CARD OF 'foresightkeep.NetArrival'. -/
def netArrivalCard : Claim7 := { stood := { row := netArrivalRow, standIns := [], harness := (true, "50f1796395353fdbce7c8c120de202f80add961549e441b500b45d6d41f28025"), looks := false }, kinds := [], alts := [], laidByText := true, laidKinds := [.data, .data, .data], laidTests := true, laidLooks := .later }
def NetArrivalCardSaid : Prop := Claim7.holds Tryz.pinned (.plain (OpenSpec.ofChange netArrivalSpec)) netArrivalCard

/-- THE SECOND FORM's CARD OF 'foresightkeep.NetBalances'. -/
def netBalancesUptoCard : Claim7 := { stood := { row := netBalancesUptoRow, standIns := [], harness := (true, "50f1796395353fdbce7c8c120de202f80add961549e441b500b45d6d41f28025"), looks := false }, kinds := [], alts := [], laidByText := true, laidKinds := [.data, .data, .data], laidTests := true, laidLooks := .later }
def NetBalancesUptoCardSaid : Prop := Claim7.holds Tryz.pinned (.plain (OpenSpec.upto netBalancesSpec)) netBalancesUptoCard

/-- THE SECOND FORM's CARD OF 'foresightkeep.NetArrival'. -/
def netArrivalUptoCard : Claim7 := { stood := { row := netArrivalUptoRow, standIns := [], harness := (true, "50f1796395353fdbce7c8c120de202f80add961549e441b500b45d6d41f28025"), looks := false }, kinds := [], alts := [], laidByText := true, laidKinds := [.data, .data, .data], laidTests := true, laidLooks := .later }
def NetArrivalUptoCardSaid : Prop := Claim7.holds Tryz.pinned (.plain (OpenSpec.upto netArrivalSpec)) netArrivalUptoCard
end Rows
end Go.Proofs.YtdaejkngmckmdaaGreatDoor
