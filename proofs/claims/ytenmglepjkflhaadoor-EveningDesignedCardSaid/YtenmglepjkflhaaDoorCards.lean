/-
  DERIVED. GIVEN WITH THE SEED: THE CARDS: each row of YtenmglepjkflhaaDoorRows.lean that lists a variable, with what it lists TIED to the program's text (the seventh form; the later family's looks); each row that meets fmt, with fmt's text TOLD by the authors' own Lean function (tested against real Go, not proved from fmt's source: count such statements apart). THE CARD IS WHAT COUNTS. Prove the row's statement (the work); the ties are given (YtenmglepjkflhaaDoorTie.lean); close each card by the builder's one call (the guide's Derived/Test/ToyasCard.lean, 'card_holds'). Laid BY PROGRAM, IN A SANDBOX (cutbox-door.mjs). By AI agents, Wed Nov 11 2026. No macro, syntax, notation, axiom, sorry.
-/
import Derived.Test.YtenmglepjkflhaaDoorRows
import GoSem.ClaimSeven
namespace Go.Proofs.YtenmglepjkflhaaDoor
namespace Rows

/-- THE TIED CARD OF 'trestlelaw09.EveningPigeon'. -/
def eveningPigeonCard : Claim7 := { stood := { row := eveningPigeonRow, standIns := [], harness := (true, "7e71679c9d68de5d3a83d94c0c7822b85069c524c5e7bec6749d28e210b112e6"), looks := false }, kinds := [], alts := [], laidByText := true, laidKinds := [.data, .data, .data], laidTests := true, laidLooks := .later }
def EveningPigeonCardSaid : Prop := Claim7.holds Tryd.pinned (.plain (OpenSpec.ofChange eveningPigeonSpec)) eveningPigeonCard

/-- THE TIED CARD OF 'trestlelaw09.EveningOnce'. -/
def eveningOnceCard : Claim7 := { stood := { row := eveningOnceRow, standIns := [], harness := (true, "7e71679c9d68de5d3a83d94c0c7822b85069c524c5e7bec6749d28e210b112e6"), looks := false }, kinds := [], alts := [], laidByText := true, laidKinds := [.data, .data, .data], laidTests := true, laidLooks := .later }
def EveningOnceCardSaid : Prop := Claim7.holds Tryd.pinned (.plain (OpenSpec.ofChange eveningOnceSpec)) eveningOnceCard

/-- THE TIED CARD OF 'trestlelaw09.EveningDesigned'. -/
def eveningDesignedCard : Claim7 := { stood := { row := eveningDesignedRow, standIns := [], harness := (true, "7e71679c9d68de5d3a83d94c0c7822b85069c524c5e7bec6749d28e210b112e6"), looks := false }, kinds := [], alts := [], laidByText := true, laidKinds := [.data, .data, .data], laidTests := true, laidLooks := .later }
def EveningDesignedCardSaid : Prop := Claim7.holds Tryd.pinned (.plain (OpenSpec.ofChange eveningDesignedSpec)) eveningDesignedCard

/-- THE SECOND FORM's CARD OF 'trestlelaw09.EveningPigeon'. -/
def eveningPigeonUptoCard : Claim7 := { stood := { row := eveningPigeonUptoRow, standIns := [], harness := (true, "7e71679c9d68de5d3a83d94c0c7822b85069c524c5e7bec6749d28e210b112e6"), looks := false }, kinds := [], alts := [], laidByText := true, laidKinds := [.data, .data, .data], laidTests := true, laidLooks := .later }
def EveningPigeonUptoCardSaid : Prop := Claim7.holds Tryd.pinned (.plain (OpenSpec.upto eveningPigeonSpec)) eveningPigeonUptoCard

/-- THE SECOND FORM's CARD OF 'trestlelaw09.EveningOnce'. -/
def eveningOnceUptoCard : Claim7 := { stood := { row := eveningOnceUptoRow, standIns := [], harness := (true, "7e71679c9d68de5d3a83d94c0c7822b85069c524c5e7bec6749d28e210b112e6"), looks := false }, kinds := [], alts := [], laidByText := true, laidKinds := [.data, .data, .data], laidTests := true, laidLooks := .later }
def EveningOnceUptoCardSaid : Prop := Claim7.holds Tryd.pinned (.plain (OpenSpec.upto eveningOnceSpec)) eveningOnceUptoCard

/-- THE SECOND FORM's CARD OF 'trestlelaw09.EveningDesigned'. -/
def eveningDesignedUptoCard : Claim7 := { stood := { row := eveningDesignedUptoRow, standIns := [], harness := (true, "7e71679c9d68de5d3a83d94c0c7822b85069c524c5e7bec6749d28e210b112e6"), looks := false }, kinds := [], alts := [], laidByText := true, laidKinds := [.data, .data, .data], laidTests := true, laidLooks := .later }
def EveningDesignedUptoCardSaid : Prop := Claim7.holds Tryd.pinned (.plain (OpenSpec.upto eveningDesignedSpec)) eveningDesignedUptoCard
end Rows
end Go.Proofs.YtenmglepjkflhaaDoor
