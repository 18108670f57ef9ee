/-
  DERIVED. GIVEN WITH THE SEED: THE CARDS: each row of YtjlohghknejjoaaGreatDoorRows.lean that lists a variable, with what it lists TIED to the program's text (the seventh form; the later family's looks); each row that meets fmt, with fmt's text TOLD by the authors' own Lean function (tested against real Go, not proved from fmt's source: count such statements apart). THE CARD IS WHAT COUNTS. Prove the row's statement (the work); the ties are given (YtjlohghknejjoaaGreatDoorTie.lean); close each card by the builder's one call (the guide's Derived/Test/ToyasCard.lean, 'card_holds'). Laid BY PROGRAM, IN A SANDBOX (cutbox-door.mjs). By AI agents, Wed Nov 11 2026. No macro, syntax, notation, axiom, sorry.
-/
import Derived.Test.YtjlohghknejjoaaGreatDoorRows
import GoSem.ClaimSeven
namespace Go.Proofs.YtjlohghknejjoaaGreatDoor
namespace Rows

/-- THE TIED CARD OF 'foresightkeep.BanditTwo'. -/
def banditTwoCard : Claim7 := { stood := { row := banditTwoRow, standIns := [], harness := (true, "d3f46bb91f6e01bfc47bb694dfc2490859c56a1502bcae1b0bc475a98a08392a"), looks := false }, kinds := [], alts := [], laidByText := true, laidKinds := [.data, .data, .data], laidTests := true, laidLooks := .later }
def BanditTwoCardSaid : Prop := Claim7.holds Tryz.pinned (.plain (OpenSpec.ofChange banditTwoSpec)) banditTwoCard

/-- THE TIED CARD OF 'foresightkeep.BanditMost'. -/
def banditMostCard : Claim7 := { stood := { row := banditMostRow, standIns := [], harness := (true, "d3f46bb91f6e01bfc47bb694dfc2490859c56a1502bcae1b0bc475a98a08392a"), looks := false }, kinds := [], alts := [], laidByText := true, laidKinds := [.data, .data, .data], laidTests := true, laidLooks := .later }
def BanditMostCardSaid : Prop := Claim7.holds Tryz.pinned (.plain (OpenSpec.ofChange banditMostSpec)) banditMostCard

/-- THE TIED CARD OF 'foresightkeep.BanditGittins'. -/
def banditGittinsCard : Claim7 := { stood := { row := banditGittinsRow, standIns := [], harness := (true, "d3f46bb91f6e01bfc47bb694dfc2490859c56a1502bcae1b0bc475a98a08392a"), looks := false }, kinds := [], alts := [], laidByText := true, laidKinds := [.data, .data, .data], laidTests := true, laidLooks := .later }
def BanditGittinsCardSaid : Prop := Claim7.holds Tryz.pinned (.plain (OpenSpec.ofChange banditGittinsSpec)) banditGittinsCard

/-- THE SECOND FORM's CARD OF 'foresightkeep.BanditTwo'. -/
def banditTwoUptoCard : Claim7 := { stood := { row := banditTwoUptoRow, standIns := [], harness := (true, "d3f46bb91f6e01bfc47bb694dfc2490859c56a1502bcae1b0bc475a98a08392a"), looks := false }, kinds := [], alts := [], laidByText := true, laidKinds := [.data, .data, .data], laidTests := true, laidLooks := .later }
def BanditTwoUptoCardSaid : Prop := Claim7.holds Tryz.pinned (.plain (OpenSpec.upto banditTwoSpec)) banditTwoUptoCard

/-- THE SECOND FORM's CARD OF 'foresightkeep.BanditMost'. -/
def banditMostUptoCard : Claim7 := { stood := { row := banditMostUptoRow, standIns := [], harness := (true, "d3f46bb91f6e01bfc47bb694dfc2490859c56a1502bcae1b0bc475a98a08392a"), looks := false }, kinds := [], alts := [], laidByText := true, laidKinds := [.data, .data, .data], laidTests := true, laidLooks := .later }
def BanditMostUptoCardSaid : Prop := Claim7.holds Tryz.pinned (.plain (OpenSpec.upto banditMostSpec)) banditMostUptoCard

/-- THE SECOND FORM's CARD OF 'foresightkeep.BanditGittins'. -/
def banditGittinsUptoCard : Claim7 := { stood := { row := banditGittinsUptoRow, standIns := [], harness := (true, "d3f46bb91f6e01bfc47bb694dfc2490859c56a1502bcae1b0bc475a98a08392a"), looks := false }, kinds := [], alts := [], laidByText := true, laidKinds := [.data, .data, .data], laidTests := true, laidLooks := .later }
def BanditGittinsUptoCardSaid : Prop := Claim7.holds Tryz.pinned (.plain (OpenSpec.upto banditGittinsSpec)) banditGittinsUptoCard
end Rows
end Go.Proofs.YtjlohghknejjoaaGreatDoor
