/-
  DERIVED. GIVEN WITH THE SEED: THE CARDS: each row of YtapdkjgoplinkaaDoorRows.lean that lists a variable, with what it lists TIED to the program's text (the seventh form; the later family's looks); each row that meets fmt, with fmt's text TOLD by the authors' own Lean function (tested against real Go, not proved from fmt's source: count such statements apart). THE CARD IS WHAT COUNTS. Prove the row's statement (the work); the ties are given (YtapdkjgoplinkaaDoorTie.lean); close each card by the builder's one call (the guide's Derived/Test/ToyasCard.lean, 'card_holds'). Laid BY PROGRAM, IN A SANDBOX (cutbox-door.mjs). By AI agents, Wed Nov 11 2026. No macro, syntax, notation, axiom, sorry.
-/
import Derived.Test.YtapdkjgoplinkaaDoorRows
import GoSem.ClaimSeven
namespace Go.Proofs.YtapdkjgoplinkaaDoor
namespace Rows

/-- THE TIED CARD OF 'trestlelaw09.EveningNets'. -/
def eveningNetsCard : Claim7 := { stood := { row := eveningNetsRow, standIns := [], harness := (true, "2c210da6e5bea135aa8e9fcc4e2efde749d9da6ddb89d6f3eefa6b091ec4ac33"), looks := false }, kinds := [], alts := [], laidByText := true, laidKinds := [.data, .data, .data], laidTests := true, laidLooks := .later }
def EveningNetsCardSaid : Prop := Claim7.holds Tryd.pinned (.plain (OpenSpec.ofChange eveningNetsSpec)) eveningNetsCard

/-- THE SECOND FORM's CARD OF 'trestlelaw09.EveningNets'. -/
def eveningNetsUptoCard : Claim7 := { stood := { row := eveningNetsUptoRow, standIns := [], harness := (true, "2c210da6e5bea135aa8e9fcc4e2efde749d9da6ddb89d6f3eefa6b091ec4ac33"), looks := false }, kinds := [], alts := [], laidByText := true, laidKinds := [.data, .data, .data], laidTests := true, laidLooks := .later }
def EveningNetsUptoCardSaid : Prop := Claim7.holds Tryd.pinned (.plain (OpenSpec.upto eveningNetsSpec)) eveningNetsUptoCard
end Rows
end Go.Proofs.YtapdkjgoplinkaaDoor
