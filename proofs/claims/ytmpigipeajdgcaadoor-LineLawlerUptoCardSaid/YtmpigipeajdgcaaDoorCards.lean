/-
  DERIVED. GIVEN WITH THE SEED: THE CARDS: each row of YtmpigipeajdgcaaDoorRows.lean that lists a variable, with what it lists TIED to the program's text (the seventh form; the later family's looks); each row that meets fmt, with fmt's text TOLD by the authors' own Lean function (tested against real Go, not proved from fmt's source: count such statements apart). THE CARD IS WHAT COUNTS. Prove the row's statement (the work); the ties are given (YtmpigipeajdgcaaDoorTie.lean); close each card by the builder's one call (the guide's Derived/Test/ToyasCard.lean, 'card_holds'). Laid BY PROGRAM, IN A SANDBOX (cutbox-door.mjs). By AI agents, Wed Nov 11 2026. No macro, syntax, notation, axiom, sorry.
-/
import Derived.Test.YtmpigipeajdgcaaDoorRows
import GoSem.ClaimSeven
namespace Go.Proofs.YtmpigipeajdgcaaDoor
namespace Rows

/-- THE TIED CARD OF 'foresightlaw.LineOrder'. -/
def lineOrderCard : Claim7 := { stood := { row := lineOrderRow, standIns := [], harness := (true, "172ed378d8169384fff88604678e56ac688608e9ce4ad8be4a19631c80f4729e"), looks := true }, kinds := [], alts := [], laidByText := true, laidKinds := [.handle], laidTests := true, laidLooks := .later }
def LineOrderCardSaid : Prop := Claim7.holds Tryd.pinned (.plain (OpenSpec.ofChange lineOrderSpec)) lineOrderCard

/-- THE TIED CARD OF 'foresightlaw.LineEnds'. -/
def lineEndsCard : Claim7 := { stood := { row := lineEndsRow, standIns := [], harness := (true, "172ed378d8169384fff88604678e56ac688608e9ce4ad8be4a19631c80f4729e"), looks := true }, kinds := [], alts := [], laidByText := true, laidKinds := [.handle], laidTests := true, laidLooks := .later }
def LineEndsCardSaid : Prop := Claim7.holds Tryd.pinned (.plain (OpenSpec.ofChange lineEndsSpec)) lineEndsCard

/-- THE TIED CARD OF 'foresightlaw.LineCosts'. -/
def lineCostsCard : Claim7 := { stood := { row := lineCostsRow, standIns := [], harness := (true, "172ed378d8169384fff88604678e56ac688608e9ce4ad8be4a19631c80f4729e"), looks := true }, kinds := [], alts := [], laidByText := true, laidKinds := [.handle], laidTests := true, laidLooks := .later }
def LineCostsCardSaid : Prop := Claim7.holds Tryd.pinned (.plain (OpenSpec.ofChange lineCostsSpec)) lineCostsCard

/-- THE TIED CARD OF 'foresightlaw.LineSmith'. -/
def lineSmithCard : Claim7 := { stood := { row := lineSmithRow, standIns := [], harness := (true, "172ed378d8169384fff88604678e56ac688608e9ce4ad8be4a19631c80f4729e"), looks := true }, kinds := [], alts := [], laidByText := true, laidKinds := [.handle], laidTests := true, laidLooks := .later }
def LineSmithCardSaid : Prop := Claim7.holds Tryd.pinned (.plain (OpenSpec.ofChange lineSmithSpec)) lineSmithCard

/-- THE TIED CARD OF 'foresightlaw.LineJackson'. -/
def lineJacksonCard : Claim7 := { stood := { row := lineJacksonRow, standIns := [], harness := (true, "172ed378d8169384fff88604678e56ac688608e9ce4ad8be4a19631c80f4729e"), looks := true }, kinds := [], alts := [], laidByText := true, laidKinds := [.handle], laidTests := true, laidLooks := .later }
def LineJacksonCardSaid : Prop := Claim7.holds Tryd.pinned (.plain (OpenSpec.ofChange lineJacksonSpec)) lineJacksonCard

/-- THE TIED CARD OF 'foresightlaw.LineMoore'. -/
def lineMooreCard : Claim7 := { stood := { row := lineMooreRow, standIns := [], harness := (true, "172ed378d8169384fff88604678e56ac688608e9ce4ad8be4a19631c80f4729e"), looks := true }, kinds := [], alts := [], laidByText := true, laidKinds := [.handle], laidTests := true, laidLooks := .later }
def LineMooreCardSaid : Prop := Claim7.holds Tryd.pinned (.plain (OpenSpec.ofChange lineMooreSpec)) lineMooreCard

/-- THE TIED CARD OF 'foresightlaw.LineLawler'. -/
def lineLawlerCard : Claim7 := { stood := { row := lineLawlerRow, standIns := [], harness := (true, "172ed378d8169384fff88604678e56ac688608e9ce4ad8be4a19631c80f4729e"), looks := true }, kinds := [], alts := [], laidByText := true, laidKinds := [.handle], laidTests := true, laidLooks := .later }
def LineLawlerCardSaid : Prop := Claim7.holds Tryd.pinned (.plain (OpenSpec.ofChange lineLawlerSpec)) lineLawlerCard

/-- THE SECOND FORM's CARD OF 'foresightlaw.LineOrder'. -/
def lineOrderUptoCard : Claim7 := { stood := { row := lineOrderUptoRow, standIns := [], harness := (true, "172ed378d8169384fff88604678e56ac688608e9ce4ad8be4a19631c80f4729e"), looks := true }, kinds := [], alts := [], laidByText := true, laidKinds := [.handle], laidTests := true, laidLooks := .later }
def LineOrderUptoCardSaid : Prop := Claim7.holds Tryd.pinned (.plain (OpenSpec.upto lineOrderSpec)) lineOrderUptoCard

/-- THE SECOND FORM's CARD OF 'foresightlaw.LineEnds'. -/
def lineEndsUptoCard : Claim7 := { stood := { row := lineEndsUptoRow, standIns := [], harness := (true, "172ed378d8169384fff88604678e56ac688608e9ce4ad8be4a19631c80f4729e"), looks := true }, kinds := [], alts := [], laidByText := true, laidKinds := [.handle], laidTests := true, laidLooks := .later }
def LineEndsUptoCardSaid : Prop := Claim7.holds Tryd.pinned (.plain (OpenSpec.upto lineEndsSpec)) lineEndsUptoCard

/-- THE SECOND FORM's CARD OF 'foresightlaw.LineCosts'. -/
def lineCostsUptoCard : Claim7 := { stood := { row := lineCostsUptoRow, standIns := [], harness := (true, "172ed378d8169384fff88604678e56ac688608e9ce4ad8be4a19631c80f4729e"), looks := true }, kinds := [], alts := [], laidByText := true, laidKinds := [.handle], laidTests := true, laidLooks := .later }
def LineCostsUptoCardSaid : Prop := Claim7.holds Tryd.pinned (.plain (OpenSpec.upto lineCostsSpec)) lineCostsUptoCard

/-- THE SECOND FORM's CARD OF 'foresightlaw.LineSmith'. -/
def lineSmithUptoCard : Claim7 := { stood := { row := lineSmithUptoRow, standIns := [], harness := (true, "172ed378d8169384fff88604678e56ac688608e9ce4ad8be4a19631c80f4729e"), looks := true }, kinds := [], alts := [], laidByText := true, laidKinds := [.handle], laidTests := true, laidLooks := .later }
def LineSmithUptoCardSaid : Prop := Claim7.holds Tryd.pinned (.plain (OpenSpec.upto lineSmithSpec)) lineSmithUptoCard

/-- THE SECOND FORM's CARD OF 'foresightlaw.LineJackson'. -/
def lineJacksonUptoCard : Claim7 := { stood := { row := lineJacksonUptoRow, standIns := [], harness := (true, "172ed378d8169384fff88604678e56ac688608e9ce4ad8be4a19631c80f4729e"), looks := true }, kinds := [], alts := [], laidByText := true, laidKinds := [.handle], laidTests := true, laidLooks := .later }
def LineJacksonUptoCardSaid : Prop := Claim7.holds Tryd.pinned (.plain (OpenSpec.upto lineJacksonSpec)) lineJacksonUptoCard

/-- THE SECOND FORM's CARD OF 'foresightlaw.LineMoore'. -/
def lineMooreUptoCard : Claim7 := { stood := { row := lineMooreUptoRow, standIns := [], harness := (true, "172ed378d8169384fff88604678e56ac688608e9ce4ad8be4a19631c80f4729e"), looks := true }, kinds := [], alts := [], laidByText := true, laidKinds := [.handle], laidTests := true, laidLooks := .later }
def LineMooreUptoCardSaid : Prop := Claim7.holds Tryd.pinned (.plain (OpenSpec.upto lineMooreSpec)) lineMooreUptoCard

/-- THE SECOND FORM's CARD OF 'foresightlaw.LineLawler'. -/
def lineLawlerUptoCard : Claim7 := { stood := { row := lineLawlerUptoRow, standIns := [], harness := (true, "172ed378d8169384fff88604678e56ac688608e9ce4ad8be4a19631c80f4729e"), looks := true }, kinds := [], alts := [], laidByText := true, laidKinds := [.handle], laidTests := true, laidLooks := .later }
def LineLawlerUptoCardSaid : Prop := Claim7.holds Tryd.pinned (.plain (OpenSpec.upto lineLawlerSpec)) lineLawlerUptoCard
end Rows
end Go.Proofs.YtmpigipeajdgcaaDoor
