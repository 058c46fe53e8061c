/-
  DERIVED. GIVEN WITH THE SEED: THE CARDS: each row of YtcacemdhmfjliaaGreatDoorRows.lean that lists a variable, with what it lists TIED to the program's text (the seventh form; the later family's looks); each row that meets fmt, with fmt's text TOLD by the authors' own Lean function (tested against real Go, not proved from fmt's source: count such statements apart). THE CARD IS WHAT COUNTS. Prove the row's statement (the work); the ties are given (YtcacemdhmfjliaaGreatDoorTie.lean); close each card by the builder's one call (the guide's Derived/Test/ToyasCard.lean, 'card_holds'). Laid BY PROGRAM, IN A SANDBOX (cutbox-door.mjs). By AI agents, Wed Nov 11 2026. No macro, syntax, notation, axiom, sorry.
-/
import Derived.Test.YtcacemdhmfjliaaGreatDoorRows
import GoSem.ClaimSeven
namespace Go.Proofs.YtcacemdhmfjliaaGreatDoor
namespace Rows

/-- THE TIED CARD OF 'trestlelaw03.CourtChecks'. -/
def courtChecksCard : Claim7 := { stood := { row := courtChecksRow, standIns := [], harness := (true, "10b2fcda090e2f7b86e438f1cf980725390b02444053392eb017aa8d2b239f8d"), looks := true }, kinds := [], alts := [], laidByText := true, laidKinds := [.data, .data, .data, .data, .sentinel, .sentinel, .data, .pinned], laidTests := true, laidLooks := .later }
def CourtChecksCardSaid : Prop := Claim7.holds Tryz.pinned (.plain (OpenSpec.ofChange courtChecksSpec)) courtChecksCard

/-- THE TIED CARD OF 'trestlelaw03.CourtMerges'. -/
def courtMergesCard : Claim7 := { stood := { row := courtMergesRow, standIns := [], harness := (true, "10b2fcda090e2f7b86e438f1cf980725390b02444053392eb017aa8d2b239f8d"), looks := true }, kinds := [], alts := [], laidByText := true, laidKinds := [.data, .data, .data, .data, .sentinel, .sentinel, .data, .pinned], laidTests := true, laidLooks := .later }
def CourtMergesCardSaid : Prop := Claim7.holds Tryz.pinned (.plain (OpenSpec.ofChange courtMergesSpec)) courtMergesCard

/-- THE TIED CARD OF 'trestlelaw03.CourtInversions'. -/
def courtInversionsCard : Claim7 := { stood := { row := courtInversionsRow, standIns := [], harness := (true, "10b2fcda090e2f7b86e438f1cf980725390b02444053392eb017aa8d2b239f8d"), looks := true }, kinds := [], alts := [], laidByText := true, laidKinds := [.data, .data, .data, .data, .sentinel, .sentinel, .data, .pinned], laidTests := true, laidLooks := .later }
def CourtInversionsCardSaid : Prop := Claim7.holds Tryz.pinned (.plain (OpenSpec.ofChange courtInversionsSpec)) courtInversionsCard

/-- THE TIED CARD OF 'trestlelaw03.CourtFormats'. -/
def courtFormatsCard : Claim7 := { stood := { row := courtFormatsRow, standIns := [], harness := (true, "10b2fcda090e2f7b86e438f1cf980725390b02444053392eb017aa8d2b239f8d"), looks := true }, kinds := [], alts := [], laidByText := true, laidKinds := [.data, .data, .data, .data, .sentinel, .sentinel, .data, .pinned], laidTests := true, laidLooks := .later }
def CourtFormatsCardSaid : Prop := Claim7.holds Tryz.pinned (.plain (OpenSpec.ofChange courtFormatsSpec)) courtFormatsCard

/-- THE SECOND FORM's CARD OF 'trestlelaw03.CourtChecks'. -/
def courtChecksUptoCard : Claim7 := { stood := { row := courtChecksUptoRow, standIns := [], harness := (true, "10b2fcda090e2f7b86e438f1cf980725390b02444053392eb017aa8d2b239f8d"), looks := true }, kinds := [], alts := [], laidByText := true, laidKinds := [.data, .data, .data, .data, .sentinel, .sentinel, .data, .pinned], laidTests := true, laidLooks := .later }
def CourtChecksUptoCardSaid : Prop := Claim7.holds Tryz.pinned (.plain (OpenSpec.upto courtChecksSpec)) courtChecksUptoCard

/-- THE SECOND FORM's CARD OF 'trestlelaw03.CourtMerges'. -/
def courtMergesUptoCard : Claim7 := { stood := { row := courtMergesUptoRow, standIns := [], harness := (true, "10b2fcda090e2f7b86e438f1cf980725390b02444053392eb017aa8d2b239f8d"), looks := true }, kinds := [], alts := [], laidByText := true, laidKinds := [.data, .data, .data, .data, .sentinel, .sentinel, .data, .pinned], laidTests := true, laidLooks := .later }
def CourtMergesUptoCardSaid : Prop := Claim7.holds Tryz.pinned (.plain (OpenSpec.upto courtMergesSpec)) courtMergesUptoCard

/-- THE SECOND FORM's CARD OF 'trestlelaw03.CourtInversions'. -/
def courtInversionsUptoCard : Claim7 := { stood := { row := courtInversionsUptoRow, standIns := [], harness := (true, "10b2fcda090e2f7b86e438f1cf980725390b02444053392eb017aa8d2b239f8d"), looks := true }, kinds := [], alts := [], laidByText := true, laidKinds := [.data, .data, .data, .data, .sentinel, .sentinel, .data, .pinned], laidTests := true, laidLooks := .later }
def CourtInversionsUptoCardSaid : Prop := Claim7.holds Tryz.pinned (.plain (OpenSpec.upto courtInversionsSpec)) courtInversionsUptoCard

/-- THE SECOND FORM's CARD OF 'trestlelaw03.CourtFormats'. -/
def courtFormatsUptoCard : Claim7 := { stood := { row := courtFormatsUptoRow, standIns := [], harness := (true, "10b2fcda090e2f7b86e438f1cf980725390b02444053392eb017aa8d2b239f8d"), looks := true }, kinds := [], alts := [], laidByText := true, laidKinds := [.data, .data, .data, .data, .sentinel, .sentinel, .data, .pinned], laidTests := true, laidLooks := .later }
def CourtFormatsUptoCardSaid : Prop := Claim7.holds Tryz.pinned (.plain (OpenSpec.upto courtFormatsSpec)) courtFormatsUptoCard
end Rows
end Go.Proofs.YtcacemdhmfjliaaGreatDoor
