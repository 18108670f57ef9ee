/-
  DERIVED. GIVEN WITH THE SEED: THE CARDS: each row of YtdicbnchkfclaaaDoorRows.lean that lists a variable, with what it lists TIED to the program's text (the seventh form; the later family's looks); each row that meets fmt, with fmt's text TOLD by the authors' own Lean function (tested against real Go, not proved from fmt's source: count such statements apart). THE CARD IS WHAT COUNTS. Prove the row's statement (the work); the ties are given (YtdicbnchkfclaaaDoorTie.lean); close each card by the builder's one call (the guide's Derived/Test/ToyasCard.lean, 'card_holds'). Laid BY PROGRAM, IN A SANDBOX (cutbox-door.mjs). By AI agents, Wed Nov 11 2026. No macro, syntax, notation, axiom, sorry.
-/
import Derived.Test.YtdicbnchkfclaaaDoorRows
import GoSem.ClaimSeven
namespace Go.Proofs.YtdicbnchkfclaaaDoor
namespace Rows

/-- THE TIED CARD OF 'foresightkeep.ChanceAdds'. -/
def chanceAddsCard : Claim7 := { stood := { row := chanceAddsRow, standIns := [], harness := (true, "ce278e5f87c0900ea2d27247ec9dd2606e099fe68158ccb707565a72d01f9bc6"), looks := false }, kinds := [], alts := [], laidByText := true, laidKinds := [.data, .data, .data], laidTests := true, laidLooks := .later }
def ChanceAddsCardSaid : Prop := Claim7.holds Tryd.pinned (.plain (OpenSpec.ofChange chanceAddsSpec)) chanceAddsCard

/-- THE TIED CARD OF 'foresightkeep.ChanceTails'. -/
def chanceTailsCard : Claim7 := { stood := { row := chanceTailsRow, standIns := [], harness := (true, "ce278e5f87c0900ea2d27247ec9dd2606e099fe68158ccb707565a72d01f9bc6"), looks := false }, kinds := [], alts := [], laidByText := true, laidKinds := [.data, .data, .data], laidTests := true, laidLooks := .later }
def ChanceTailsCardSaid : Prop := Claim7.holds Tryd.pinned (.plain (OpenSpec.ofChange chanceTailsSpec)) chanceTailsCard

/-- THE TIED CARD OF 'foresightkeep.ChanceCounts'. -/
def chanceCountsCard : Claim7 := { stood := { row := chanceCountsRow, standIns := [], harness := (true, "ce278e5f87c0900ea2d27247ec9dd2606e099fe68158ccb707565a72d01f9bc6"), looks := false }, kinds := [], alts := [], laidByText := true, laidKinds := [.data, .data, .data], laidTests := true, laidLooks := .later }
def ChanceCountsCardSaid : Prop := Claim7.holds Tryd.pinned (.plain (OpenSpec.ofChange chanceCountsSpec)) chanceCountsCard

/-- THE TIED CARD OF 'foresightkeep.WalkBallot'. -/
def walkBallotCard : Claim7 := { stood := { row := walkBallotRow, standIns := [], harness := (true, "ce278e5f87c0900ea2d27247ec9dd2606e099fe68158ccb707565a72d01f9bc6"), looks := false }, kinds := [], alts := [], laidByText := true, laidKinds := [.data, .data, .data], laidTests := true, laidLooks := .later }
def WalkBallotCardSaid : Prop := Claim7.holds Tryd.pinned (.plain (OpenSpec.ofChange walkBallotSpec)) walkBallotCard

/-- THE TIED CARD OF 'foresightkeep.CoinConway'. -/
def coinConwayCard : Claim7 := { stood := { row := coinConwayRow, standIns := [], harness := (true, "ce278e5f87c0900ea2d27247ec9dd2606e099fe68158ccb707565a72d01f9bc6"), looks := false }, kinds := [], alts := [], laidByText := true, laidKinds := [.data, .data, .data], laidTests := true, laidLooks := .later }
def CoinConwayCardSaid : Prop := Claim7.holds Tryd.pinned (.plain (OpenSpec.ofChange coinConwaySpec)) coinConwayCard

/-- THE SECOND FORM's CARD OF 'foresightkeep.ChanceAdds'. -/
def chanceAddsUptoCard : Claim7 := { stood := { row := chanceAddsUptoRow, standIns := [], harness := (true, "ce278e5f87c0900ea2d27247ec9dd2606e099fe68158ccb707565a72d01f9bc6"), looks := false }, kinds := [], alts := [], laidByText := true, laidKinds := [.data, .data, .data], laidTests := true, laidLooks := .later }
def ChanceAddsUptoCardSaid : Prop := Claim7.holds Tryd.pinned (.plain (OpenSpec.upto chanceAddsSpec)) chanceAddsUptoCard

/-- THE SECOND FORM's CARD OF 'foresightkeep.ChanceTails'. -/
def chanceTailsUptoCard : Claim7 := { stood := { row := chanceTailsUptoRow, standIns := [], harness := (true, "ce278e5f87c0900ea2d27247ec9dd2606e099fe68158ccb707565a72d01f9bc6"), looks := false }, kinds := [], alts := [], laidByText := true, laidKinds := [.data, .data, .data], laidTests := true, laidLooks := .later }
def ChanceTailsUptoCardSaid : Prop := Claim7.holds Tryd.pinned (.plain (OpenSpec.upto chanceTailsSpec)) chanceTailsUptoCard

/-- THE SECOND FORM's CARD OF 'foresightkeep.ChanceCounts'. -/
def chanceCountsUptoCard : Claim7 := { stood := { row := chanceCountsUptoRow, standIns := [], harness := (true, "ce278e5f87c0900ea2d27247ec9dd2606e099fe68158ccb707565a72d01f9bc6"), looks := false }, kinds := [], alts := [], laidByText := true, laidKinds := [.data, .data, .data], laidTests := true, laidLooks := .later }
def ChanceCountsUptoCardSaid : Prop := Claim7.holds Tryd.pinned (.plain (OpenSpec.upto chanceCountsSpec)) chanceCountsUptoCard

/-- THE SECOND FORM's CARD OF 'foresightkeep.WalkBallot'. -/
def walkBallotUptoCard : Claim7 := { stood := { row := walkBallotUptoRow, standIns := [], harness := (true, "ce278e5f87c0900ea2d27247ec9dd2606e099fe68158ccb707565a72d01f9bc6"), looks := false }, kinds := [], alts := [], laidByText := true, laidKinds := [.data, .data, .data], laidTests := true, laidLooks := .later }
def WalkBallotUptoCardSaid : Prop := Claim7.holds Tryd.pinned (.plain (OpenSpec.upto walkBallotSpec)) walkBallotUptoCard

/-- THE SECOND FORM's CARD OF 'foresightkeep.CoinConway'. -/
def coinConwayUptoCard : Claim7 := { stood := { row := coinConwayUptoRow, standIns := [], harness := (true, "ce278e5f87c0900ea2d27247ec9dd2606e099fe68158ccb707565a72d01f9bc6"), looks := false }, kinds := [], alts := [], laidByText := true, laidKinds := [.data, .data, .data], laidTests := true, laidLooks := .later }
def CoinConwayUptoCardSaid : Prop := Claim7.holds Tryd.pinned (.plain (OpenSpec.upto coinConwaySpec)) coinConwayUptoCard
end Rows
end Go.Proofs.YtdicbnchkfclaaaDoor
