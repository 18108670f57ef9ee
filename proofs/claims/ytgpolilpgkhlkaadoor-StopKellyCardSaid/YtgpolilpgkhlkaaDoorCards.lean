/-
  DERIVED. GIVEN WITH THE SEED: THE CARDS: each row of YtgpolilpgkhlkaaDoorRows.lean that lists a variable, with what it lists TIED to the program's text (the seventh form; the later family's looks); each row that meets fmt, with fmt's text TOLD by the authors' own Lean function (tested against real Go, not proved from fmt's source: count such statements apart). THE CARD IS WHAT COUNTS. Prove the row's statement (the work); the ties are given (YtgpolilpgkhlkaaDoorTie.lean); close each card by the builder's one call (the guide's Derived/Test/ToyasCard.lean, 'card_holds'). Laid BY PROGRAM, IN A SANDBOX (cutbox-door.mjs). By AI agents, Wed Nov 11 2026. No macro, syntax, notation, axiom, sorry.
-/
import Derived.Test.YtgpolilpgkhlkaaDoorRows
import GoSem.ClaimSeven
namespace Go.Proofs.YtgpolilpgkhlkaaDoor
namespace Rows

/-- THE TIED CARD OF 'foresightkeep.StopSnell'. -/
def stopSnellCard : Claim7 := { stood := { row := stopSnellRow, standIns := [], harness := (true, "fa1555d780e476146c15605c57bb30b3e68d12edb551384829e182e3d256a681"), looks := false }, kinds := [], alts := [], laidByText := true, laidKinds := [.data, .data, .data], laidTests := true, laidLooks := .later }
def StopSnellCardSaid : Prop := Claim7.holds Tryd.pinned (.plain (OpenSpec.ofChange stopSnellSpec)) stopSnellCard

/-- THE TIED CARD OF 'foresightkeep.StopBest'. -/
def stopBestCard : Claim7 := { stood := { row := stopBestRow, standIns := [], harness := (true, "fa1555d780e476146c15605c57bb30b3e68d12edb551384829e182e3d256a681"), looks := false }, kinds := [], alts := [], laidByText := true, laidKinds := [.data, .data, .data], laidTests := true, laidLooks := .later }
def StopBestCardSaid : Prop := Claim7.holds Tryd.pinned (.plain (OpenSpec.ofChange stopBestSpec)) stopBestCard

/-- THE TIED CARD OF 'foresightkeep.StopSecretaries'. -/
def stopSecretariesCard : Claim7 := { stood := { row := stopSecretariesRow, standIns := [], harness := (true, "fa1555d780e476146c15605c57bb30b3e68d12edb551384829e182e3d256a681"), looks := false }, kinds := [], alts := [], laidByText := true, laidKinds := [.data, .data, .data], laidTests := true, laidLooks := .later }
def StopSecretariesCardSaid : Prop := Claim7.holds Tryd.pinned (.plain (OpenSpec.ofChange stopSecretariesSpec)) stopSecretariesCard

/-- THE TIED CARD OF 'foresightkeep.StopKelly'. -/
def stopKellyCard : Claim7 := { stood := { row := stopKellyRow, standIns := [], harness := (true, "fa1555d780e476146c15605c57bb30b3e68d12edb551384829e182e3d256a681"), looks := false }, kinds := [], alts := [], laidByText := true, laidKinds := [.data, .data, .data], laidTests := true, laidLooks := .later }
def StopKellyCardSaid : Prop := Claim7.holds Tryd.pinned (.plain (OpenSpec.ofChange stopKellySpec)) stopKellyCard

/-- THE SECOND FORM's CARD OF 'foresightkeep.StopSnell'. -/
def stopSnellUptoCard : Claim7 := { stood := { row := stopSnellUptoRow, standIns := [], harness := (true, "fa1555d780e476146c15605c57bb30b3e68d12edb551384829e182e3d256a681"), looks := false }, kinds := [], alts := [], laidByText := true, laidKinds := [.data, .data, .data], laidTests := true, laidLooks := .later }
def StopSnellUptoCardSaid : Prop := Claim7.holds Tryd.pinned (.plain (OpenSpec.upto stopSnellSpec)) stopSnellUptoCard

/-- THE SECOND FORM's CARD OF 'foresightkeep.StopBest'. -/
def stopBestUptoCard : Claim7 := { stood := { row := stopBestUptoRow, standIns := [], harness := (true, "fa1555d780e476146c15605c57bb30b3e68d12edb551384829e182e3d256a681"), looks := false }, kinds := [], alts := [], laidByText := true, laidKinds := [.data, .data, .data], laidTests := true, laidLooks := .later }
def StopBestUptoCardSaid : Prop := Claim7.holds Tryd.pinned (.plain (OpenSpec.upto stopBestSpec)) stopBestUptoCard

/-- THE SECOND FORM's CARD OF 'foresightkeep.StopSecretaries'. -/
def stopSecretariesUptoCard : Claim7 := { stood := { row := stopSecretariesUptoRow, standIns := [], harness := (true, "fa1555d780e476146c15605c57bb30b3e68d12edb551384829e182e3d256a681"), looks := false }, kinds := [], alts := [], laidByText := true, laidKinds := [.data, .data, .data], laidTests := true, laidLooks := .later }
def StopSecretariesUptoCardSaid : Prop := Claim7.holds Tryd.pinned (.plain (OpenSpec.upto stopSecretariesSpec)) stopSecretariesUptoCard

/-- THE SECOND FORM's CARD OF 'foresightkeep.StopKelly'. -/
def stopKellyUptoCard : Claim7 := { stood := { row := stopKellyUptoRow, standIns := [], harness := (true, "fa1555d780e476146c15605c57bb30b3e68d12edb551384829e182e3d256a681"), looks := false }, kinds := [], alts := [], laidByText := true, laidKinds := [.data, .data, .data], laidTests := true, laidLooks := .later }
def StopKellyUptoCardSaid : Prop := Claim7.holds Tryd.pinned (.plain (OpenSpec.upto stopKellySpec)) stopKellyUptoCard
end Rows
end Go.Proofs.YtgpolilpgkhlkaaDoor
