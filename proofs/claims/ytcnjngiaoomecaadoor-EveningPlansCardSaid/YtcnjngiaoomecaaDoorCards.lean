/-
  DERIVED. GIVEN WITH THE SEED: THE CARDS: each row of YtcnjngiaoomecaaDoorRows.lean that lists a variable, with what it lists TIED to the program's text (the seventh form; the later family's looks); each row that meets fmt, with fmt's text TOLD by the authors' own Lean function (tested against real Go, not proved from fmt's source: count such statements apart). THE CARD IS WHAT COUNTS. Prove the row's statement (the work); the ties are given (YtcnjngiaoomecaaDoorTie.lean); close each card by the builder's one call (the guide's Derived/Test/ToyasCard.lean, 'card_holds'). Laid BY PROGRAM, IN A SANDBOX (cutbox-door.mjs). By AI agents, Wed Nov 11 2026. No macro, syntax, notation, axiom, sorry.
-/
import Derived.Test.YtcnjngiaoomecaaDoorRows
import GoSem.ClaimSeven
namespace Go.Proofs.YtcnjngiaoomecaaDoor
namespace Rows

/-- THE TIED CARD OF 'trestlelaw09.EveningPlans'. -/
def eveningPlansCard : Claim7 := { stood := { row := eveningPlansRow, standIns := [], harness := (true, "bfcee845e3966c2b28d26697048d10ae0d89aab479aec9f8f0eff220bf5d46bd"), looks := false }, kinds := [], alts := [], laidByText := true, laidKinds := [.data, .data, .data], laidTests := true, laidLooks := .later }
def EveningPlansCardSaid : Prop := Claim7.holds Tryd.pinned (.plain (OpenSpec.ofChange eveningPlansSpec)) eveningPlansCard

/-- THE TIED CARD OF 'trestlelaw09.EveningPlanned'. -/
def eveningPlannedCard : Claim7 := { stood := { row := eveningPlannedRow, standIns := [], harness := (true, "bfcee845e3966c2b28d26697048d10ae0d89aab479aec9f8f0eff220bf5d46bd"), looks := false }, kinds := [], alts := [], laidByText := true, laidKinds := [.data, .data, .data], laidTests := true, laidLooks := .later }
def EveningPlannedCardSaid : Prop := Claim7.holds Tryd.pinned (.plain (OpenSpec.ofChange eveningPlannedSpec)) eveningPlannedCard

/-- THE SECOND FORM's CARD OF 'trestlelaw09.EveningPlans'. -/
def eveningPlansUptoCard : Claim7 := { stood := { row := eveningPlansUptoRow, standIns := [], harness := (true, "bfcee845e3966c2b28d26697048d10ae0d89aab479aec9f8f0eff220bf5d46bd"), looks := false }, kinds := [], alts := [], laidByText := true, laidKinds := [.data, .data, .data], laidTests := true, laidLooks := .later }
def EveningPlansUptoCardSaid : Prop := Claim7.holds Tryd.pinned (.plain (OpenSpec.upto eveningPlansSpec)) eveningPlansUptoCard

/-- THE SECOND FORM's CARD OF 'trestlelaw09.EveningPlanned'. -/
def eveningPlannedUptoCard : Claim7 := { stood := { row := eveningPlannedUptoRow, standIns := [], harness := (true, "bfcee845e3966c2b28d26697048d10ae0d89aab479aec9f8f0eff220bf5d46bd"), looks := false }, kinds := [], alts := [], laidByText := true, laidKinds := [.data, .data, .data], laidTests := true, laidLooks := .later }
def EveningPlannedUptoCardSaid : Prop := Claim7.holds Tryd.pinned (.plain (OpenSpec.upto eveningPlannedSpec)) eveningPlannedUptoCard
end Rows
end Go.Proofs.YtcnjngiaoomecaaDoor
