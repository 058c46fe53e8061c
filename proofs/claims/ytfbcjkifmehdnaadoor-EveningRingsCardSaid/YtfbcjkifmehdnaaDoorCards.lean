/-
  DERIVED. GIVEN WITH THE SEED: THE CARDS: each row of YtfbcjkifmehdnaaDoorRows.lean that lists a variable, with what it lists TIED to the program's text (the seventh form; the later family's looks); each row that meets fmt, with fmt's text TOLD by the authors' own Lean function (tested against real Go, not proved from fmt's source: count such statements apart). THE CARD IS WHAT COUNTS. Prove the row's statement (the work); the ties are given (YtfbcjkifmehdnaaDoorTie.lean); close each card by the builder's one call (the guide's Derived/Test/ToyasCard.lean, 'card_holds'). Laid BY PROGRAM, IN A SANDBOX (cutbox-door.mjs). By AI agents, Wed Nov 11 2026. No macro, syntax, notation, axiom, sorry.
-/
import Derived.Test.YtfbcjkifmehdnaaDoorRows
import GoSem.ClaimSeven
namespace Go.Proofs.YtfbcjkifmehdnaaDoor
namespace Rows

/-- THE TIED CARD OF 'trestlelaw09.EveningRings'. -/
def eveningRingsCard : Claim7 := { stood := { row := eveningRingsRow, standIns := [], harness := (true, "5b462bf670b40c344ef4ad4dab334be1f2ea42e4d50cb46a97be26d6e028f2e9"), looks := false }, kinds := [], alts := [], laidByText := true, laidKinds := [.data, .data, .data], laidTests := true, laidLooks := .later }
def EveningRingsCardSaid : Prop := Claim7.holds Tryd.pinned (.plain (OpenSpec.ofChange eveningRingsSpec)) eveningRingsCard

/-- THE SECOND FORM's CARD OF 'trestlelaw09.EveningRings'. -/
def eveningRingsUptoCard : Claim7 := { stood := { row := eveningRingsUptoRow, standIns := [], harness := (true, "5b462bf670b40c344ef4ad4dab334be1f2ea42e4d50cb46a97be26d6e028f2e9"), looks := false }, kinds := [], alts := [], laidByText := true, laidKinds := [.data, .data, .data], laidTests := true, laidLooks := .later }
def EveningRingsUptoCardSaid : Prop := Claim7.holds Tryd.pinned (.plain (OpenSpec.upto eveningRingsSpec)) eveningRingsUptoCard
end Rows
end Go.Proofs.YtfbcjkifmehdnaaDoor
