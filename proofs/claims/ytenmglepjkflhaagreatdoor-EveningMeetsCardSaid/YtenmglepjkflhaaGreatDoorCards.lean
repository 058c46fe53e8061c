/-
  DERIVED. GIVEN WITH THE SEED: THE CARDS: each row of YtenmglepjkflhaaGreatDoorRows.lean that lists a variable, with what it lists TIED to the program's text (the seventh form; the later family's looks); each row that meets fmt, with fmt's text TOLD by the authors' own Lean function (tested against real Go, not proved from fmt's source: count such statements apart). THE CARD IS WHAT COUNTS. Prove the row's statement (the work); the ties are given (YtenmglepjkflhaaGreatDoorTie.lean); close each card by the builder's one call (the guide's Derived/Test/ToyasCard.lean, 'card_holds'). Laid BY PROGRAM, IN A SANDBOX (cutbox-door.mjs). By AI agents, Wed Nov 11 2026. No macro, syntax, notation, axiom, sorry.
-/
import Derived.Test.YtenmglepjkflhaaGreatDoorRows
import GoSem.ClaimSeven
namespace Go.Proofs.YtenmglepjkflhaaGreatDoor
namespace Rows

/-- THE TIED CARD OF 'trestlelaw09.EveningMeets'. -/
def eveningMeetsCard : Claim7 := { stood := { row := eveningMeetsRow, standIns := [], harness := (true, "9474fa5acd627c970a0605d8388d3e1c11fad177e86652d3e17bfff41e77331f"), looks := false }, kinds := [], alts := [], laidByText := true, laidKinds := [.data, .data, .data], laidTests := true, laidLooks := .later }
def EveningMeetsCardSaid : Prop := Claim7.holds Tryz.pinned (.plain (OpenSpec.ofChange eveningMeetsSpec)) eveningMeetsCard

/-- THE SECOND FORM's CARD OF 'trestlelaw09.EveningMeets'. -/
def eveningMeetsUptoCard : Claim7 := { stood := { row := eveningMeetsUptoRow, standIns := [], harness := (true, "9474fa5acd627c970a0605d8388d3e1c11fad177e86652d3e17bfff41e77331f"), looks := false }, kinds := [], alts := [], laidByText := true, laidKinds := [.data, .data, .data], laidTests := true, laidLooks := .later }
def EveningMeetsUptoCardSaid : Prop := Claim7.holds Tryz.pinned (.plain (OpenSpec.upto eveningMeetsSpec)) eveningMeetsUptoCard
end Rows
end Go.Proofs.YtenmglepjkflhaaGreatDoor
