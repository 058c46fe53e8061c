/-
  DERIVED. GIVEN WITH THE SEED: THE CARDS: each row of YtpcokmpipjcndaaGreatDoorRows.lean that lists a variable, with what it lists TIED to the program's text (the seventh form; the later family's looks); each row that meets fmt, with fmt's text TOLD by the authors' own Lean function (tested against real Go, not proved from fmt's source: count such statements apart). THE CARD IS WHAT COUNTS. Prove the row's statement (the work); the ties are given (YtpcokmpipjcndaaGreatDoorTie.lean); close each card by the builder's one call (the guide's Derived/Test/ToyasCard.lean, 'card_holds'). Laid BY PROGRAM, IN A SANDBOX (cutbox-door.mjs). By AI agents, Wed Nov 11 2026. No macro, syntax, notation, axiom, sorry.
-/
import Derived.Test.YtpcokmpipjcndaaGreatDoorRows
import GoSem.ClaimSeven
namespace Go.Proofs.YtpcokmpipjcndaaGreatDoor
namespace Rows

/-- THE TIED CARD OF 'trestlelaw01.HallParses'. -/
def hallParsesCard : Claim7 := { stood := { row := hallParsesRow, standIns := [], harness := (true, "abb1887a87b83c4bd67327a0f9dbfac9eae01ab561c4528495dc10069435f4f8"), looks := false }, kinds := [], alts := [], laidByText := true, laidKinds := [.data, .data, .data, .data, .pinned], laidTests := true, laidLooks := .later }
def HallParsesCardSaid : Prop := Claim7.holds Tryz.pinned (.plain (OpenSpec.ofChange hallParsesSpec)) hallParsesCard

/-- THE TIED CARD OF 'trestlelaw01.HallRound'. -/
def hallRoundCard : Claim7 := { stood := { row := hallRoundRow, standIns := [], harness := (true, "abb1887a87b83c4bd67327a0f9dbfac9eae01ab561c4528495dc10069435f4f8"), looks := false }, kinds := [], alts := [], laidByText := true, laidKinds := [.data, .data, .data, .data, .pinned], laidTests := true, laidLooks := .later }
def HallRoundCardSaid : Prop := Claim7.holds Tryz.pinned (.plain (OpenSpec.ofChange hallRoundSpec)) hallRoundCard

/-- THE SECOND FORM's CARD OF 'trestlelaw01.HallParses'. -/
def hallParsesUptoCard : Claim7 := { stood := { row := hallParsesUptoRow, standIns := [], harness := (true, "abb1887a87b83c4bd67327a0f9dbfac9eae01ab561c4528495dc10069435f4f8"), looks := false }, kinds := [], alts := [], laidByText := true, laidKinds := [.data, .data, .data, .data, .pinned], laidTests := true, laidLooks := .later }
def HallParsesUptoCardSaid : Prop := Claim7.holds Tryz.pinned (.plain (OpenSpec.upto hallParsesSpec)) hallParsesUptoCard

/-- THE SECOND FORM's CARD OF 'trestlelaw01.HallRound'. -/
def hallRoundUptoCard : Claim7 := { stood := { row := hallRoundUptoRow, standIns := [], harness := (true, "abb1887a87b83c4bd67327a0f9dbfac9eae01ab561c4528495dc10069435f4f8"), looks := false }, kinds := [], alts := [], laidByText := true, laidKinds := [.data, .data, .data, .data, .pinned], laidTests := true, laidLooks := .later }
def HallRoundUptoCardSaid : Prop := Claim7.holds Tryz.pinned (.plain (OpenSpec.upto hallRoundSpec)) hallRoundUptoCard
end Rows
end Go.Proofs.YtpcokmpipjcndaaGreatDoor
