/-
  DERIVED. GIVEN WITH THE SEED: THE CARDS: each row of YtpopdemanadllaaGreatDoorRows.lean that lists a variable, with what it lists TIED to the program's text (the seventh form; the later family's looks); each row that meets fmt, with fmt's text TOLD by the authors' own Lean function (tested against real Go, not proved from fmt's source: count such statements apart). THE CARD IS WHAT COUNTS. Prove the row's statement (the work); the ties are given (YtpopdemanadllaaGreatDoorTie.lean); close each card by the builder's one call (the guide's Derived/Test/ToyasCard.lean, 'card_holds'). Laid BY PROGRAM, IN A SANDBOX (cutbox-door.mjs). By AI agents, Wed Nov 11 2026. No macro, syntax, notation, axiom, sorry.
-/
import Derived.Test.YtpopdemanadllaaGreatDoorRows
import GoSem.ClaimSeven
namespace Go.Proofs.YtpopdemanadllaaGreatDoor
namespace Rows

/-- THE TIED CARD OF 'trestlelaw09.EveningWrong'. -/
def eveningWrongCard : Claim7 := { stood := { row := eveningWrongRow, standIns := [], harness := (true, "b1dace608b4d5623be3fd2dc70dc94c90800901bd920d0c9ccfef0913bccd350"), looks := false }, kinds := [], alts := [], laidByText := true, laidKinds := [.data, .data, .data], laidTests := true, laidLooks := .later }
def EveningWrongCardSaid : Prop := Claim7.holds Tryz.pinned (.plain (OpenSpec.ofChange eveningWrongSpec)) eveningWrongCard

/-- THE SECOND FORM's CARD OF 'trestlelaw09.EveningWrong'. -/
def eveningWrongUptoCard : Claim7 := { stood := { row := eveningWrongUptoRow, standIns := [], harness := (true, "b1dace608b4d5623be3fd2dc70dc94c90800901bd920d0c9ccfef0913bccd350"), looks := false }, kinds := [], alts := [], laidByText := true, laidKinds := [.data, .data, .data], laidTests := true, laidLooks := .later }
def EveningWrongUptoCardSaid : Prop := Claim7.holds Tryz.pinned (.plain (OpenSpec.upto eveningWrongSpec)) eveningWrongUptoCard
end Rows
end Go.Proofs.YtpopdemanadllaaGreatDoor
