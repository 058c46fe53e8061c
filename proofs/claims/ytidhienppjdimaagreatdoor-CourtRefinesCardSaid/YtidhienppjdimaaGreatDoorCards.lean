/-
  DERIVED. GIVEN WITH THE SEED: THE CARDS: each row of YtidhienppjdimaaGreatDoorRows.lean that lists a variable, with what it lists TIED to the program's text (the seventh form; the later family's looks); each row that meets fmt, with fmt's text TOLD by the authors' own Lean function (tested against real Go, not proved from fmt's source: count such statements apart). THE CARD IS WHAT COUNTS. Prove the row's statement (the work); the ties are given (YtidhienppjdimaaGreatDoorTie.lean); close each card by the builder's one call (the guide's Derived/Test/ToyasCard.lean, 'card_holds'). Laid BY PROGRAM, IN A SANDBOX (cutbox-door.mjs). By AI agents, Wed Nov 11 2026. No macro, syntax, notation, axiom, sorry.
-/
import Derived.Test.YtidhienppjdimaaGreatDoorRows
import GoSem.ClaimSeven
namespace Go.Proofs.YtidhienppjdimaaGreatDoor
namespace Rows

/-- THE TIED CARD OF 'trestlelaw03.CourtCompares'. -/
def courtComparesCard : Claim7 := { stood := { row := courtComparesRow, standIns := [], harness := (true, "1fbe694a10a758e4ae7b0922d53f2b20cd4320c22dd8f41f9370e58658f925cb"), looks := true }, kinds := [], alts := [], laidByText := true, laidKinds := [.data, .data, .data, .data, .sentinel, .sentinel, .data, .pinned], laidTests := true, laidLooks := .later }
def CourtComparesCardSaid : Prop := Claim7.holds Tryz.pinned (.plain (OpenSpec.ofChange courtComparesSpec)) courtComparesCard

/-- THE TIED CARD OF 'trestlelaw03.CourtWeak'. -/
def courtWeakCard : Claim7 := { stood := { row := courtWeakRow, standIns := [], harness := (true, "1fbe694a10a758e4ae7b0922d53f2b20cd4320c22dd8f41f9370e58658f925cb"), looks := true }, kinds := [], alts := [], laidByText := true, laidKinds := [.data, .data, .data, .data, .sentinel, .sentinel, .data, .pinned], laidTests := true, laidLooks := .later }
def CourtWeakCardSaid : Prop := Claim7.holds Tryz.pinned (.plain (OpenSpec.ofChange courtWeakSpec)) courtWeakCard

/-- THE TIED CARD OF 'trestlelaw03.CourtRefines'. -/
def courtRefinesCard : Claim7 := { stood := { row := courtRefinesRow, standIns := [], harness := (true, "1fbe694a10a758e4ae7b0922d53f2b20cd4320c22dd8f41f9370e58658f925cb"), looks := true }, kinds := [], alts := [], laidByText := true, laidKinds := [.data, .data, .data, .data, .sentinel, .sentinel, .data, .pinned], laidTests := true, laidLooks := .later }
def CourtRefinesCardSaid : Prop := Claim7.holds Tryz.pinned (.plain (OpenSpec.ofChange courtRefinesSpec)) courtRefinesCard

/-- THE TIED CARD OF 'trestlelaw03.CourtInversions'. -/
def courtInversionsCard : Claim7 := { stood := { row := courtInversionsRow, standIns := [], harness := (true, "1fbe694a10a758e4ae7b0922d53f2b20cd4320c22dd8f41f9370e58658f925cb"), looks := true }, kinds := [], alts := [], laidByText := true, laidKinds := [.data, .data, .data, .data, .sentinel, .sentinel, .data, .pinned], laidTests := true, laidLooks := .later }
def CourtInversionsCardSaid : Prop := Claim7.holds Tryz.pinned (.plain (OpenSpec.ofChange courtInversionsSpec)) courtInversionsCard

/-- THE SECOND FORM's CARD OF 'trestlelaw03.CourtCompares'. -/
def courtComparesUptoCard : Claim7 := { stood := { row := courtComparesUptoRow, standIns := [], harness := (true, "1fbe694a10a758e4ae7b0922d53f2b20cd4320c22dd8f41f9370e58658f925cb"), looks := true }, kinds := [], alts := [], laidByText := true, laidKinds := [.data, .data, .data, .data, .sentinel, .sentinel, .data, .pinned], laidTests := true, laidLooks := .later }
def CourtComparesUptoCardSaid : Prop := Claim7.holds Tryz.pinned (.plain (OpenSpec.upto courtComparesSpec)) courtComparesUptoCard

/-- THE SECOND FORM's CARD OF 'trestlelaw03.CourtWeak'. -/
def courtWeakUptoCard : Claim7 := { stood := { row := courtWeakUptoRow, standIns := [], harness := (true, "1fbe694a10a758e4ae7b0922d53f2b20cd4320c22dd8f41f9370e58658f925cb"), looks := true }, kinds := [], alts := [], laidByText := true, laidKinds := [.data, .data, .data, .data, .sentinel, .sentinel, .data, .pinned], laidTests := true, laidLooks := .later }
def CourtWeakUptoCardSaid : Prop := Claim7.holds Tryz.pinned (.plain (OpenSpec.upto courtWeakSpec)) courtWeakUptoCard

/-- THE SECOND FORM's CARD OF 'trestlelaw03.CourtRefines'. -/
def courtRefinesUptoCard : Claim7 := { stood := { row := courtRefinesUptoRow, standIns := [], harness := (true, "1fbe694a10a758e4ae7b0922d53f2b20cd4320c22dd8f41f9370e58658f925cb"), looks := true }, kinds := [], alts := [], laidByText := true, laidKinds := [.data, .data, .data, .data, .sentinel, .sentinel, .data, .pinned], laidTests := true, laidLooks := .later }
def CourtRefinesUptoCardSaid : Prop := Claim7.holds Tryz.pinned (.plain (OpenSpec.upto courtRefinesSpec)) courtRefinesUptoCard

/-- THE SECOND FORM's CARD OF 'trestlelaw03.CourtInversions'. -/
def courtInversionsUptoCard : Claim7 := { stood := { row := courtInversionsUptoRow, standIns := [], harness := (true, "1fbe694a10a758e4ae7b0922d53f2b20cd4320c22dd8f41f9370e58658f925cb"), looks := true }, kinds := [], alts := [], laidByText := true, laidKinds := [.data, .data, .data, .data, .sentinel, .sentinel, .data, .pinned], laidTests := true, laidLooks := .later }
def CourtInversionsUptoCardSaid : Prop := Claim7.holds Tryz.pinned (.plain (OpenSpec.upto courtInversionsSpec)) courtInversionsUptoCard
end Rows
end Go.Proofs.YtidhienppjdimaaGreatDoor
