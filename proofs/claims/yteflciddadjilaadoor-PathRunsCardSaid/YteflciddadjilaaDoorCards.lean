/-
  DERIVED. GIVEN WITH THE SEED: THE CARDS: each row of YteflciddadjilaaDoorRows.lean that lists a variable, with what it lists TIED to the program's text (the seventh form; the later family's looks); each row that meets fmt, with fmt's text TOLD by the authors' own Lean function (tested against real Go, not proved from fmt's source: count such statements apart). THE CARD IS WHAT COUNTS. Prove the row's statement (the work); the ties are given (YteflciddadjilaaDoorTie.lean); close each card by the builder's one call (the guide's Derived/Test/ToyasCard.lean, 'card_holds'). Laid BY PROGRAM, IN A SANDBOX (cutbox-door.mjs). By AI agents, Wed Nov 11 2026. No macro, syntax, notation, axiom, sorry.
-/
import Derived.Test.YteflciddadjilaaDoorRows
import GoSem.ClaimSeven
namespace Go.Proofs.YteflciddadjilaaDoor
namespace Rows

/-- THE TIED CARD OF 'foresightlaw.PathWaits'. -/
def pathWaitsCard : Claim7 := { stood := { row := pathWaitsRow, standIns := [], harness := (true, "03b7969ae76d072f47ca98774e6b0dc14dc344fd082d5724d0415dc68f701f6e"), looks := true }, kinds := [], alts := [], laidByText := true, laidKinds := [.handle], laidTests := true, laidLooks := .later }
def PathWaitsCardSaid : Prop := Claim7.holds Tryd.pinned (.plain (OpenSpec.ofChange pathWaitsSpec)) pathWaitsCard

/-- THE TIED CARD OF 'foresightlaw.PathMany'. -/
def pathManyCard : Claim7 := { stood := { row := pathManyRow, standIns := [], harness := (true, "03b7969ae76d072f47ca98774e6b0dc14dc344fd082d5724d0415dc68f701f6e"), looks := true }, kinds := [], alts := [], laidByText := true, laidKinds := [.handle], laidTests := true, laidLooks := .later }
def PathManyCardSaid : Prop := Claim7.holds Tryd.pinned (.plain (OpenSpec.ofChange pathManySpec)) pathManyCard

/-- THE TIED CARD OF 'foresightlaw.PathRuns'. -/
def pathRunsCard : Claim7 := { stood := { row := pathRunsRow, standIns := [], harness := (true, "03b7969ae76d072f47ca98774e6b0dc14dc344fd082d5724d0415dc68f701f6e"), looks := true }, kinds := [], alts := [], laidByText := true, laidKinds := [.handle], laidTests := true, laidLooks := .later }
def PathRunsCardSaid : Prop := Claim7.holds Tryd.pinned (.plain (OpenSpec.ofChange pathRunsSpec)) pathRunsCard

/-- THE SECOND FORM's CARD OF 'foresightlaw.PathWaits'. -/
def pathWaitsUptoCard : Claim7 := { stood := { row := pathWaitsUptoRow, standIns := [], harness := (true, "03b7969ae76d072f47ca98774e6b0dc14dc344fd082d5724d0415dc68f701f6e"), looks := true }, kinds := [], alts := [], laidByText := true, laidKinds := [.handle], laidTests := true, laidLooks := .later }
def PathWaitsUptoCardSaid : Prop := Claim7.holds Tryd.pinned (.plain (OpenSpec.upto pathWaitsSpec)) pathWaitsUptoCard

/-- THE SECOND FORM's CARD OF 'foresightlaw.PathMany'. -/
def pathManyUptoCard : Claim7 := { stood := { row := pathManyUptoRow, standIns := [], harness := (true, "03b7969ae76d072f47ca98774e6b0dc14dc344fd082d5724d0415dc68f701f6e"), looks := true }, kinds := [], alts := [], laidByText := true, laidKinds := [.handle], laidTests := true, laidLooks := .later }
def PathManyUptoCardSaid : Prop := Claim7.holds Tryd.pinned (.plain (OpenSpec.upto pathManySpec)) pathManyUptoCard

/-- THE SECOND FORM's CARD OF 'foresightlaw.PathRuns'. -/
def pathRunsUptoCard : Claim7 := { stood := { row := pathRunsUptoRow, standIns := [], harness := (true, "03b7969ae76d072f47ca98774e6b0dc14dc344fd082d5724d0415dc68f701f6e"), looks := true }, kinds := [], alts := [], laidByText := true, laidKinds := [.handle], laidTests := true, laidLooks := .later }
def PathRunsUptoCardSaid : Prop := Claim7.holds Tryd.pinned (.plain (OpenSpec.upto pathRunsSpec)) pathRunsUptoCard
end Rows
end Go.Proofs.YteflciddadjilaaDoor
